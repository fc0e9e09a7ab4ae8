import Derived.Test.YtdhinpmjbcohaaaKiM
namespace Go.Proofs.Ytdhinpmjbcohaaa
open Go Go.RowKit
set_option linter.unusedSimpArgs false
set_option linter.unusedVariables false
theorem bytes_beq (a b : ByteArray) : (a.toList == b.toList) = decide (a = b) := by
  by_cases h : a = b
  · subst h; simp
  · simp only [h, decide_false, beq_eq_false_iff_ne]
    intro q
    apply h
    rw [Lib.toList_data, Lib.toList_data] at q
    obtain ⟨⟨l⟩⟩ := a
    obtain ⟨⟨m⟩⟩ := b
    simp at q
    rw [q]
theorem fields31 : (Try.prog.fieldsOf 31).toList = [{ name := "Name", type := 9, offset := 0, embedded := false, tag := "", pkgPath := "", byteOffset := 0 }, { name := "N", type := 3, offset := 1, embedded := false, tag := "", pkgPath := "", byteOffset := 16 }] := by kernel_rfl
theorem eql31 (a b : ByteArray) (i j : Int) (w : World) : (binOp .eql 31 (.agg #[.string a, .int .i64 i]) (.agg #[.string b, .int .i64 j])).run Try.prog w = .ok (.bool (decide ((a, i) = (b, j)))) w := by
  rw [run_eql_struct, run_equalIn_agg w 9999 31 _ _ (by kernel_rfl) (by kernel_rfl), fields31]
  have h9 := run_equalIn_string (P := Try.prog) w 9998 9 a b Try.underlying9
  have h3 := run_equalIn_int (P := Try.prog) w 9998 3 .i64 .i64 i j Try.underlying3
  have e1 : decide ((a, i) = (b, j)) = (decide (a = b) && (i == j)) := by
    by_cases h1 : a = b <;> by_cases h2 : i = j <;> simp [h1, h2]
  rw [e1, ← bytes_beq]
  have p1 : (part 9 #[.string a, .int .i64 i] 0).run Try.prog w = .ok (.string a) w := by kernel_rfl
  have p2 : (part 9 #[.string b, .int .i64 j] 0).run Try.prog w = .ok (.string b) w := by kernel_rfl
  have p3 : (part 3 #[.string a, .int .i64 i] 1).run Try.prog w = .ok (.int .i64 i) w := by kernel_rfl
  have p4 : (part 3 #[.string b, .int .i64 j] 1).run Try.prog w = .ok (.int .i64 j) w := by kernel_rfl
  simp only [Nat.reduceAdd] at h9 h3
  simp [Op.eqFields, p1, p2, p3, p4, h9, h3, Result.andThen]
  by_cases h1 : a.toList = b.toList <;> by_cases h2 : i = j <;> simp [h1, h2]
theorem eqIn31 (a b : ByteArray) (i j : Int) (w : World) : (Op.equalIn 10000 31 (.agg #[.string a, .int .i64 i]) (.agg #[.string b, .int .i64 j])).run Try.prog w = .ok (decide ((a, i) = (b, j))) w := by
  rw [run_equalIn_agg w 9999 31 _ _ (by kernel_rfl) (by kernel_rfl), fields31]
  have h9 := run_equalIn_string (P := Try.prog) w 9998 9 a b Try.underlying9
  have h3 := run_equalIn_int (P := Try.prog) w 9998 3 .i64 .i64 i j Try.underlying3
  have e1 : decide ((a, i) = (b, j)) = (decide (a = b) && (i == j)) := by
    by_cases h1 : a = b <;> by_cases h2 : i = j <;> simp [h1, h2]
  rw [e1, ← bytes_beq]
  have p1 : (part 9 #[.string a, .int .i64 i] 0).run Try.prog w = .ok (.string a) w := by kernel_rfl
  have p2 : (part 9 #[.string b, .int .i64 j] 0).run Try.prog w = .ok (.string b) w := by kernel_rfl
  have p3 : (part 3 #[.string a, .int .i64 i] 1).run Try.prog w = .ok (.int .i64 i) w := by kernel_rfl
  have p4 : (part 3 #[.string b, .int .i64 j] 1).run Try.prog w = .ok (.int .i64 j) w := by kernel_rfl
  simp only [Nat.reduceAdd] at h9 h3
  simp [Op.eqFields, p1, p2, p3, p4, h9, h3, Result.andThen]
  by_cases h1 : a.toList = b.toList <;> by_cases h2 : i = j <;> simp [h1, h2]
theorem dc_mem {K : Type} [DecidableEq K] {x : K} {t : List K} (h : x ∈ t) : dc (x :: t) = dc t := by simp [dc, h]
theorem dc_not {K : Type} [DecidableEq K] {x : K} {t : List K} (h : ¬ x ∈ t) : dc (x :: t) = dc t + 1 := by simp [dc, h]
open Ki
/-! ### The law's own maps: of keys numbers -/
theorem zero_int (w : World) : (zeroValue 3).run Try.prog w = .ok (.int .i64 0) w := by kernel_rfl
/-- A map of keys and numbers, told key by key. -/
def LM (w : World) (mb n : Nat) (lm : Ky → Option Int) : Prop := ∃ D, w.ownsMap Try.prog 31 hv mb n D ∧ ∀ k, okK k → Maps.has D (kl k) = (lm k).isSome ∧ ∀ v, lm k = some v → ∀ z, D.atKey (kl k) z = .held (.int .i64 v)
theorem LM.keep {w w' : World} {mb n : Nat} {lm : Ky → Option Int} (h : LM w mb n lm) (hs : w'.heap[mb]? = w.heap[mb]?) : LM w' mb n lm := by
  obtain ⟨D, ⟨es, clock, hb, F, hs', hD⟩, h2⟩ := h
  exact ⟨D, ⟨es, clock, hs.trans hb, F, hs', hD⟩, h2⟩
theorem LM.blk {w : World} {mb n : Nat} {lm : Ky → Option Int} (h : LM w mb n lm) : ∃ es clock, w.heap[mb]? = some (.map es clock) := by
  obtain ⟨D, ⟨es, clock, hb, _⟩, h2⟩ := h
  exact ⟨es, clock, hb⟩
theorem LM.made (w : World) : LM (w.alloc (.map #[] 0)) w.heap.size 0 (fun _ => none) := ⟨.map [], World.ownsMap_made w Try.prog 31 hv, fun k _ => ⟨rfl, fun v q => by cases q⟩⟩
theorem LM.look {w : World} {mb n : Nat} {lm : Ky → Option Int} (h : LM w mb n lm) {k : Ky} (hk : okK k) : (Instr.lookup 46 (.map (some mb)) (kc k) true).run Try.prog w = .ok (.tuple #[.int .i64 ((lm k).getD 0), .bool (lm k).isSome]) w := by
  obtain ⟨D, h1, h2⟩ := h
  obtain ⟨v, ps, hrun, hv'⟩ := h1.look_ok Ki.law Try.underlying46 (zero_int w) (zd := .held (.int .i64 0)) (zp := []) rfl (keyOf_kc hk)
  rw [hrun, (h2 k hk).1]
  cases e : lm k with
  | none =>
    rw [Maps.atKey_of_not_has (by rw [(h2 k hk).1, e]; rfl)] at hv'
    simp [hv] at hv'
    rw [hv'.1]
    rfl
  | some x =>
    rw [(h2 k hk).2 x e] at hv'
    simp [hv] at hv'
    rw [hv'.1]
    rfl
theorem LM.put {w : World} {mb n : Nat} {lm : Ky → Option Int} (h : LM w mb n lm) {k : Ky} (hk : okK k) (v : Int) (hn : n < maxLen) : ∃ w', (Instr.mapUpdate 46 (.map (some mb)) (kc k) (.int .i64 v)).run Try.prog w = .ok () w' ∧ LM w' mb (n + 1) (setF lm k (some v)) ∧ Ch (fun j => j = mb) w w' := by
  obtain ⟨D, h1, h2⟩ := h
  obtain ⟨w', hrun, ho, ht⟩ := h1.store Ki.law Try.underlying46 hn (keyOf_kc hk) (val := .int .i64 v) (d := .held (.int .i64 v)) (ps := []) rfl
  have hD := h1.tidy Ki.law
  refine ⟨w', hrun, ⟨_, ho, fun k' hk' => ?_⟩, ch_turned ht⟩
  by_cases q : k' = k
  · subst q
    refine ⟨by rw [Maps.has_put_same hD.isMap (Ki.law.key (keyOf_kc hk))]; simp [setF], fun x hx z => ?_⟩
    simp [setF] at hx
    rw [Maps.atKey_put_same hD.isMap (Ki.law.key (keyOf_kc hk)), hx]
  · have hne : kl k' ≠ kl k := fun r => q (kl_inj hk' hk r)
    rw [Maps.has_put_other hne]
    refine ⟨by rw [(h2 k' hk').1]; simp [setF, q], fun x hx z => ?_⟩
    simp [setF, q] at hx
    rw [Maps.atKey_put_other hne, (h2 k' hk').2 x hx]
theorem LM.del {w : World} {mb n : Nat} {lm : Ky → Option Int} (h : LM w mb n lm) {k : Ky} (hk : okK k) (ty : TypeId) : ∃ w', (Builtin.delete_ #[46, 31] ty #[.map (some mb), kc k]).run Try.prog w = .ok (.tuple #[]) w' ∧ LM w' mb n (setF lm k none) ∧ Ch (fun j => j = mb) w w' := by
  obtain ⟨D, h1, h2⟩ := h
  obtain ⟨w', hrun, ho, ht⟩ := h1.drop Ki.law Try.underlying46 (keyOf_kc hk) ty
  refine ⟨w', hrun, ⟨_, ho, fun k' hk' => ?_⟩, ch_turned ht⟩
  by_cases q : k' = k
  · subst q
    refine ⟨by rw [Maps.has_del_same]; simp [setF], fun x hx z => ?_⟩
    simp [setF] at hx
  · have hne : kl k' ≠ kl k := fun r => q (kl_inj hk' hk r)
    rw [Maps.has_del_other hne]
    refine ⟨by rw [(h2 k' hk').1]; simp [setF, q], fun x hx z => ?_⟩
    simp [setF, q] at hx
    rw [Maps.atKey_del_other hne, (h2 k' hk').2 x hx]
theorem LM.clear {w : World} {mb n : Nat} {lm : Ky → Option Int} (h : LM w mb n lm) (ty : TypeId) : ∃ w', (Builtin.clear_ #[46] ty #[.map (some mb)]).run Try.prog w = .ok (.tuple #[]) w' ∧ LM w' mb n (fun _ => none) ∧ Ch (fun j => j = mb) w w' := by
  obtain ⟨D, ⟨es, clock, hb, F, hs, hD⟩, h2⟩ := h
  refine ⟨ChangeMaps.setBlock w mb (.map #[] clock), ?_, ⟨.map [], ⟨#[], clock, ChangeMaps.heap_setBlock_same hb _, ⟨by simp, MapKept.stamped_empty clock, by simp⟩, by simp, rfl⟩, fun k _ => ⟨rfl, fun v q => by cases q⟩⟩, ?_⟩
  · simp [Builtin.clear_, run_underlying Try.underlying46, MapKept.run_getObj_map hb, MapKept.run_setObj_map _ hb, Result.andThen]
    rfl
  · exact ch_turned ⟨es, clock, #[], clock, hb, rfl⟩
/-- A set of keys as a map: how many it holds. -/
def SM (w : World) (mb : Nat) (P : List Ky) : Prop := ∃ D, w.ownsMap Try.prog 31 hv mb P.length D ∧ Maps.size D = dc P ∧ ∀ k, okK k → (Maps.has D (kl k) = true ↔ k ∈ P)
theorem SM.made (w : World) : SM (w.alloc (.map #[] 0)) w.heap.size [] := ⟨.map [], World.ownsMap_made w Try.prog 31 hv, rfl, fun k _ => by simp [Maps.has]⟩
theorem SM.keep {w w' : World} {mb : Nat} {P : List Ky} (h : SM w mb P) (hs : w'.heap[mb]? = w.heap[mb]?) : SM w' mb P := by
  obtain ⟨D, ⟨es, clock, hb, F, hs', hD⟩, h2⟩ := h
  exact ⟨D, ⟨es, clock, hs.trans hb, F, hs', hD⟩, h2⟩
theorem SM.len {w : World} {mb : Nat} {P : List Ky} (h : SM w mb P) (ty : TypeId) : (Builtin.len_ #[46] ty #[.map (some mb)]).run Try.prog w = .ok (.int .i64 (dc P)) w := by
  obtain ⟨D, h1, h2, h3⟩ := h
  rw [h1.len Try.underlying46 ty, h2]
theorem SM.put {w : World} {mb : Nat} {P : List Ky} (h : SM w mb P) {k : Ky} (hk : okK k) (hn : P.length < maxLen) : ∃ w', (Instr.mapUpdate 46 (.map (some mb)) (kc k) (.int .i64 1)).run Try.prog w = .ok () w' ∧ SM w' mb (k :: P) ∧ Ch (fun j => j = mb) w w' := by
  obtain ⟨D, h1, h2, h3⟩ := h
  obtain ⟨w', hrun, ho, ht⟩ := h1.store Ki.law Try.underlying46 hn (keyOf_kc hk) (val := .int .i64 1) (d := .held (.int .i64 1)) (ps := []) rfl
  have hD := h1.tidy Ki.law
  refine ⟨w', hrun, ⟨_, by simpa using ho, ?_, fun k' hk' => ?_⟩, ch_turned ht⟩
  · rw [Maps.size_put hD, h2]
    by_cases q : k ∈ P
    · rw [if_pos ((h3 k hk).2 q), dc_mem q]
    · rw [if_neg (fun r => q ((h3 k hk).1 r)), dc_not q]
  · by_cases q : k' = k
    · subst q
      rw [Maps.has_put_same hD.isMap (Ki.law.key (keyOf_kc hk))]
      simp
    · have hne : kl k' ≠ kl k := fun r => q (kl_inj hk' hk r)
      rw [Maps.has_put_other hne, h3 k' hk']
      simp [q]
end Go.Proofs.Ytdhinpmjbcohaaa
