import Derived.Test.YtdhinpmjbcohaaaKiM
namespace Go.Proofs.Ytdhinpmjbcohaaa
open Go Go.RowKit
set_option linter.unusedSimpArgs false
set_option linter.unusedVariables false
theorem bytes_beq (a b : ByteArray) : (a.toList == b.toList) = decide (a = b) := by
  by_cases h : a = b
  · subst h; simp
  · simp only [h, decide_false, beq_eq_false_iff_ne]
    intro q
    apply h
    rw [Lib.toList_data, Lib.toList_data] at q
    obtain ⟨⟨l⟩⟩ := a
    obtain ⟨⟨m⟩⟩ := b
    simp at q
    rw [q]
theorem fields31 : (Try.prog.fieldsOf 31).toList = [{ name := "Name", type := 9, offset := 0, embedded := false, tag := "", pkgPath := "", byteOffset := 0 }, { name := "N", type := 3, offset := 1, embedded := false, tag := "", pkgPath := "", byteOffset := 16 }] := by kernel_rfl
theorem eql31 (a b : ByteArray) (i j : Int) (w : World) : (binOp .eql 31 (.agg #[.string a, .int .i64 i]) (.agg #[.string b, .int .i64 j])).run Try.prog w = .ok (.bool (decide ((a, i) = (b, j)))) w := by
  rw [run_eql_struct, run_equalIn_agg w 9999 31 _ _ (by kernel_rfl) (by kernel_rfl), fields31]
  have h9 := run_equalIn_string (P := Try.prog) w 9998 9 a b Try.underlying9
  have h3 := run_equalIn_int (P := Try.prog) w 9998 3 .i64 .i64 i j Try.underlying3
  have e1 : decide ((a, i) = (b, j)) = (decide (a = b) && (i == j)) := by
    by_cases h1 : a = b <;> by_cases h2 : i = j <;> simp [h1, h2]
  rw [e1, ← bytes_beq]
  have p1 : (part 9 #[.string a, .int .i64 i] 0).run Try.prog w = .ok (.string a) w := by kernel_rfl
  have p2 : (part 9 #[.string b, .int .i64 j] 0).run Try.prog w = .ok (.string b) w := by kernel_rfl
  have p3 : (part 3 #[.string a, .int .i64 i] 1).run Try.prog w = .ok (.int .i64 i) w := by kernel_rfl
  have p4 : (part 3 #[.string b, .int .i64 j] 1).run Try.prog w = .ok (.int .i64 j) w := by kernel_rfl
  simp only [Nat.reduceAdd] at h9 h3
  simp [Op.eqFields, p1, p2, p3, p4, h9, h3, Result.andThen]
  by_cases h1 : a.toList = b.toList <;> by_cases h2 : i = j <;> simp [h1, h2]
theorem dc_mem {K : Type} [DecidableEq K] {x : K} {t : List K} (h : x ∈ t) : dc (x :: t) = dc t := by simp [dc, h]
theorem dc_not {K : Type} [DecidableEq K] {x : K} {t : List K} (h : ¬ x ∈ t) : dc (x :: t) = dc t + 1 := by simp [dc, h]
open Ki
/-! ### The law's own maps: of keys numbers -/
/-- A map of keys and numbers, told key by key. -/
def LM (w : World) (mb n : Nat) (lm : Ky → Option Int) : Prop := ∃ D, w.ownsMap Try.prog 31 hv mb n D ∧ ∀ k, okK k → Maps.has D (kl k) = (lm k).isSome ∧ ∀ v, lm k = some v → ∀ z, D.atKey (kl k) z = .held (.int .i64 v)
theorem LM.keep {w w' : World} {mb n : Nat} {lm : Ky → Option Int} (h : LM w mb n lm) (hs : w'.heap[mb]? = w.heap[mb]?) : LM w' mb n lm := by
  obtain ⟨D, ⟨es, clock, hb, F, hs', hD⟩, h2⟩ := h
  exact ⟨D, ⟨es, clock, hs.trans hb, F, hs', hD⟩, h2⟩
theorem LM.blk {w : World} {mb n : Nat} {lm : Ky → Option Int} (h : LM w mb n lm) : ∃ es clock, w.heap[mb]? = some (.map es clock) := by
  obtain ⟨D, ⟨es, clock, hb, _⟩, h2⟩ := h
  exact ⟨es, clock, hb⟩
theorem LM.made (w : World) : LM (w.alloc (.map #[] 0)) w.heap.size 0 (fun _ => none) := ⟨.map [], World.ownsMap_made w Try.prog 31 hv, fun k _ => ⟨rfl, fun v q => by cases q⟩⟩
theorem LM.put {w : World} {mb n : Nat} {lm : Ky → Option Int} (h : LM w mb n lm) {k : Ky} (hk : okK k) (v : Int) (hn : n < maxLen) : ∃ w', (Instr.mapUpdate 46 (.map (some mb)) (kc k) (.int .i64 v)).run Try.prog w = .ok () w' ∧ LM w' mb (n + 1) (setF lm k (some v)) ∧ Ch (fun j => j = mb) w w' := by
  obtain ⟨D, h1, h2⟩ := h
  obtain ⟨w', hrun, ho, ht⟩ := h1.store Ki.law Try.underlying46 hn (keyOf_kc hk) (val := .int .i64 v) (d := .held (.int .i64 v)) (ps := []) rfl
  have hD := h1.tidy Ki.law
  refine ⟨w', hrun, ⟨_, ho, fun k' hk' => ?_⟩, ch_turned ht⟩
  by_cases q : k' = k
  · subst q
    refine ⟨by rw [Maps.has_put_same hD.isMap (Ki.law.key (keyOf_kc hk))]; simp [setF], fun x hx z => ?_⟩
    simp [setF] at hx
    rw [Maps.atKey_put_same hD.isMap (Ki.law.key (keyOf_kc hk)), hx]
  · have hne : kl k' ≠ kl k := fun r => q (kl_inj hk' hk r)
    rw [Maps.has_put_other hne]
    refine ⟨by rw [(h2 k' hk').1]; simp [setF, q], fun x hx z => ?_⟩
    simp [setF, q] at hx
    rw [Maps.atKey_put_other hne, (h2 k' hk').2 x hx]
theorem LM.del {w : World} {mb n : Nat} {lm : Ky → Option Int} (h : LM w mb n lm) {k : Ky} (hk : okK k) (ty : TypeId) : ∃ w', (Builtin.delete_ #[46, 31] ty #[.map (some mb), kc k]).run Try.prog w = .ok (.tuple #[]) w' ∧ LM w' mb n (setF lm k none) ∧ Ch (fun j => j = mb) w w' := by
  obtain ⟨D, h1, h2⟩ := h
  obtain ⟨w', hrun, ho, ht⟩ := h1.drop Ki.law Try.underlying46 (keyOf_kc hk) ty
  refine ⟨w', hrun, ⟨_, ho, fun k' hk' => ?_⟩, ch_turned ht⟩
  by_cases q : k' = k
  · subst q
    refine ⟨by rw [Maps.has_del_same]; simp [setF], fun x hx z => ?_⟩
    simp [setF] at hx
  · have hne : kl k' ≠ kl k := fun r => q (kl_inj hk' hk r)
    rw [Maps.has_del_other hne]
    refine ⟨by rw [(h2 k' hk').1]; simp [setF, q], fun x hx z => ?_⟩
    simp [setF, q] at hx
    rw [Maps.atKey_del_other hne, (h2 k' hk').2 x hx]
theorem LM.clear {w : World} {mb n : Nat} {lm : Ky → Option Int} (h : LM w mb n lm) (ty : TypeId) : ∃ w', (Builtin.clear_ #[46] ty #[.map (some mb)]).run Try.prog w = .ok (.tuple #[]) w' ∧ LM w' mb n (fun _ => none) ∧ Ch (fun j => j = mb) w w' := by
  obtain ⟨D, ⟨es, clock, hb, F, hs, hD⟩, h2⟩ := h
  refine ⟨ChangeMaps.setBlock w mb (.map #[] clock), ?_, ⟨.map [], ⟨#[], clock, ChangeMaps.heap_setBlock_same hb _, ⟨by simp, MapKept.stamped_empty clock, by simp⟩, by simp, rfl⟩, fun k _ => ⟨rfl, fun v q => by cases q⟩⟩, ?_⟩
  · simp [Builtin.clear_, run_underlying Try.underlying46, MapKept.run_getObj_map hb, MapKept.run_setObj_map _ hb, Result.andThen]
    rfl
  · exact ch_turned ⟨es, clock, #[], clock, hb, rfl⟩
/-- A set of keys as a map: how many it holds. -/
def SM (w : World) (mb : Nat) (P : List Ky) : Prop := ∃ D, w.ownsMap Try.prog 31 hv mb P.length D ∧ Maps.size D = dc P ∧ ∀ k, okK k → (Maps.has D (kl k) = true ↔ k ∈ P)
theorem SM.made (w : World) : SM (w.alloc (.map #[] 0)) w.heap.size [] := ⟨.map [], World.ownsMap_made w Try.prog 31 hv, rfl, fun k _ => by simp [Maps.has]⟩
theorem SM.keep {w w' : World} {mb : Nat} {P : List Ky} (h : SM w mb P) (hs : w'.heap[mb]? = w.heap[mb]?) : SM w' mb P := by
  obtain ⟨D, ⟨es, clock, hb, F, hs', hD⟩, h2⟩ := h
  exact ⟨D, ⟨es, clock, hs.trans hb, F, hs', hD⟩, h2⟩
theorem SM.len {w : World} {mb : Nat} {P : List Ky} (h : SM w mb P) (ty : TypeId) : (Builtin.len_ #[46] ty #[.map (some mb)]).run Try.prog w = .ok (.int .i64 (dc P)) w := by
  obtain ⟨D, h1, h2, h3⟩ := h
  rw [h1.len Try.underlying46 ty, h2]
theorem SM.put {w : World} {mb : Nat} {P : List Ky} (h : SM w mb P) {k : Ky} (hk : okK k) (hn : P.length < maxLen) : ∃ w', (Instr.mapUpdate 46 (.map (some mb)) (kc k) (.int .i64 1)).run Try.prog w = .ok () w' ∧ SM w' mb (k :: P) ∧ Ch (fun j => j = mb) w w' := by
  obtain ⟨D, h1, h2, h3⟩ := h
  obtain ⟨w', hrun, ho, ht⟩ := h1.store Ki.law Try.underlying46 hn (keyOf_kc hk) (val := .int .i64 1) (d := .held (.int .i64 1)) (ps := []) rfl
  have hD := h1.tidy Ki.law
  refine ⟨w', hrun, ⟨_, by simpa using ho, ?_, fun k' hk' => ?_⟩, ch_turned ht⟩
  · rw [Maps.size_put hD, h2]
    by_cases q : k ∈ P
    · rw [if_pos ((h3 k hk).2 q), dc_mem q]
    · rw [if_neg (fun r => q ((h3 k hk).1 r)), dc_not q]
  · by_cases q : k' = k
    · subst q
      rw [Maps.has_put_same hD.isMap (Ki.law.key (keyOf_kc hk))]
      simp
    · have hne : kl k' ≠ kl k := fun r => q (kl_inj hk' hk r)
      rw [Maps.has_put_other hne, h3 k' hk']
      simp [q]
end Go.Proofs.Ytdhinpmjbcohaaa
namespace Go.Proofs.Ytdhinpmjbcohaaa
open Go Go.RowKit
set_option linter.unusedSimpArgs false
set_option linter.unusedVariables false

/-! ### Things numbered as they come; the zero one is 0 -/
def c0 {K : Type} (z : K) (C : List K) : List K := match C with
  | [] => [z]
  | x :: t => x :: t
/-- A list of things, each told by its number from now on. -/
structure Cod {K : Type} (z : K) (C : List K) : Prop where
  ne : C ≠ []
  hd : C.head? = some z
section
variable {K : Type} [DecidableEq K]
/-- Where a thing stands. -/
def ix (k : K) : List K → Nat
  | [] => 0
  | x :: t => if x = k then 0 else ix k t + 1
def ext (z : K) (C : List K) (k : K) : List K := if k ∈ c0 z C then c0 z C else c0 z C ++ [k]
theorem ix_at {k : K} : ∀ {C : List K}, k ∈ C → C[ix k C]? = some k
  | [], h => by cases h
  | x :: t, h => by
    unfold ix
    split
    · rename_i hx
      simp [hx]
    · rename_i hne
      have : k ∈ t := (List.mem_cons.1 h).resolve_left (fun q => hne q.symm)
      simpa using ix_at this
theorem ix_first {k : K} : ∀ {C : List K} {j : Nat}, C[j]? = some k → (∀ q, q < j → C[q]? ≠ some k) → ix k C = j
  | [], j, h, _ => by simp at h
  | x :: t, 0, h, _ => by
    simp at h
    simp [ix, h]
  | x :: t, j + 1, h, hn => by
    have hx : x ≠ k := fun q => hn 0 (by omega) (by simp [q])
    unfold ix
    rw [if_neg hx, ix_first (C := t) (j := j) (by simpa using h) (fun q hq => by simpa using hn (q + 1) (by omega))]
theorem ix_append {k : K} : ∀ {C : List K} (D : List K), k ∈ C → ix k (C ++ D) = ix k C
  | [], D, h => by cases h
  | x :: t, D, h => by
    show (if x = k then 0 else ix k (t ++ D) + 1) = if x = k then 0 else ix k t + 1
    split
    · rfl
    · rename_i hne
      rw [ix_append D ((List.mem_cons.1 h).resolve_left (fun q => hne q.symm))]
theorem ix_new {k : K} : ∀ {C : List K}, k ∉ C → ix k (C ++ [k]) = C.length
  | [], _ => by simp [ix]
  | x :: t, h => by
    show (if x = k then 0 else ix k (t ++ [k]) + 1) = _
    rw [if_neg (fun q => h (by simp [q])), ix_new (fun q => h (by simp [q]))]
    simp
theorem ix_inj {a b : K} {C : List K} (ha : a ∈ C) (hb : b ∈ C) (h : ix a C = ix b C) : a = b := by
  have h1 := ix_at ha
  rw [h, ix_at hb] at h1
  exact (Option.some.inj h1).symm
theorem ext_in {z : K} {C D : List K} {k : K} (hD : c0 z C = D) (h : k ∈ D) : ext z C k = D := by
  subst hD
  unfold ext
  rw [if_pos h]
theorem ext_out {z : K} {C D : List K} {k : K} (hD : c0 z C = D) (h : k ∉ D) : ext z C k = D ++ [k] := by
  subst hD
  unfold ext
  rw [if_neg h]
theorem ext_mem (z : K) (C : List K) (k : K) : k ∈ ext z C k := by
  unfold ext
  split <;> simp_all
theorem ext_pre (z : K) (C : List K) (k : K) : ∃ D, ext z C k = c0 z C ++ D := by
  unfold ext
  split
  · exact ⟨[], by simp⟩
  · exact ⟨[k], rfl⟩
theorem ext_len (z : K) (C : List K) (k : K) : (ext z C k).length ≤ C.length + 2 := by
  have : (c0 z C).length ≤ C.length + 1 := by cases C <;> simp [c0]
  unfold ext
  split
  · omega
  · simp
    omega
theorem cod_ext (z : K) (C : List K) (k : K) (h : C = [] ∨ Cod z C) : Cod z (ext z C k) := by
  obtain ⟨D, hD⟩ := ext_pre z C k
  rw [hD]
  rcases h with rfl | h
  · exact ⟨by simp [c0], by simp [c0]⟩
  · cases C with
    | nil => exact absurd rfl h.ne
    | cons x t =>
      have := h.hd
      simp at this
      exact ⟨by simp [c0], by simp [c0, this]⟩
theorem cod_zero {z : K} {C : List K} (h : Cod z C) : z ∈ C ∧ ix z C = 0 := by
  cases C with
  | nil => exact absurd rfl h.ne
  | cons x t =>
    have := h.hd
    simp at this
    subst this
    exact ⟨by simp, by simp [ix]⟩
theorem ext_stay {z : K} {C : List K} (h : Cod z C) (k : K) {x : K} (hx : x ∈ C) : x ∈ ext z C k ∧ ix x (ext z C k) = ix x C := by
  obtain ⟨D, hD⟩ := ext_pre z C k
  have hc : c0 z C = C := by cases C with
    | nil => exact absurd rfl h.ne
    | cons y t => rfl
  rw [hD, hc]
  exact ⟨by simp [hx], ix_append D hx⟩
theorem ext_same {z : K} {C : List K} (h : Cod z C) {k : K} (hk : k ∈ C) : ext z C k = C := by
  have hc : c0 z C = C := by cases C with
    | nil => exact absurd rfl h.ne
    | cons y t => rfl
  unfold ext
  rw [hc, if_pos hk]
end
end Go.Proofs.Ytdhinpmjbcohaaa
