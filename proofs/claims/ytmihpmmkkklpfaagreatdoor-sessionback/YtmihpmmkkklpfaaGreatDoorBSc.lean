import Derived.Test.YtmihpmmkkklpfaaGreatDoorBNi
import Derived.Deep.LoopGhost
import Derived.Deep.RegionHeldLaw
import Derived.Deep.RegionLaw
import Derived.RegionCalls
import Derived.Lib.AppendZeros
import Derived.Maps.AppendAt
namespace Go.Proofs.YtmihpmmkkklpfaaGreatDoor
open Go Go.RowKit
set_option linter.unusedSimpArgs false
set_option linter.unusedVariables false
theorem heap_alloc_new (w : World) (o : Obj) : (w.alloc o).heap[w.heap.size]? = some o := by
  show (w.heap.push o)[w.heap.size]? = _
  exact Array.getElem?_push_size
theorem addr_at (g j : Nat) : (⟨g, 0, none⟩ : Addr).add j = ⟨g, j, none⟩ := by unfold Addr.add; split <;> simp_all
/-- A list that is laid on: what append answers. -/
theorem app_gen {w : World} {v : Value} {n s bytes : Nat} {st e : TypeId} {xs : List Value} {cs : Array Value} {z : Value} (hu : Tryz.prog.underlying st = some (.slice e)) (hi : (Tryz.prog.info? e).map (fun i => (i.zero, i.size, i.bytes)) = some (some z, s, bytes)) (hz : z.cells.size = s) (hs : 0 < s) (hb : bytes ≤ 400)
    (ho : w.ownsRow 0 e s v n xs) (hc : cs.size = s) (h1 : ∀ u ∈ cs.toList, u.oneCell' = true) (hn : n ≤ 1000000) :
    ∃ g' cap' w', (Builtin.append_ #[st, st] st #[v, .slice (some ⟨w.heap.size, 0, none⟩) 1 1]).run Tryz.prog (w.alloc (.cells cs e)) = .ok (.slice (some ⟨g', 0, none⟩) (n + 1) cap') w' ∧ w'.ownsRow 0 e s (.slice (some ⟨g', 0, none⟩) (n + 1) cap') (n + 1) (xs ++ cs.toList) ∧ Ch (fun j => v.ownBlock = some j) w w' ∧ (v.ownBlock = some g' ∨ w.heap.size ≤ g') := by
  obtain ⟨i0, hi0, hzz⟩ := Option.map_eq_some_iff.1 hi
  simp only [Prod.mk.injEq] at hzz
  obtain ⟨v', w', hr, h2, h3, h4, h5⟩ := run_append_own_at (P := Tryz.prog) (w.alloc (.cells cs e)) 0 st st e i0 z s bytes hu hi0 hzz.1 hzz.2.1 hzz.2.2 hz hs v n xs (ho.alloc _) ⟨w.heap.size, 0, none⟩ 1 1 cs.toList (by simp [hc]) (fun j u hu => by
    rw [addr_at]
    exact box_cells (heap_alloc_new w _) j u (by simpa using hu)) h1 (by unfold maxLen; omega) (Nat.le_trans (Nat.mul_le_mul (show n + 1 ≤ 1000001 by omega) hb) (by omega)) (by omega)
  rcases h2.2 with ⟨_, q⟩ | ⟨g', cap', cur, rfl, _⟩
  · omega
  · refine ⟨g', cap', w', hr, h2, ?_, ?_⟩
    · exact (ch_alloc _ _ _).then ((ch_grown h3).mono (fun j _ q => q))
    · rcases h5 with q | q
      · exact .inl (by rw [← q]; rfl)
      · simp [Value.ownBlock] at q
        exact .inr (by omega)
theorem step_app {P : Program} {ops : Array Oper} {o : Oper} {a : Act} {w : World} {K : Act → World → Prop} {Q : Exit → Act → World → Prop} {E : Prop} (hg : o.guard = none) (s x : Operand) (t tx : TypeId)
    (hop : o.op = Op.call { callee := Callee.builtin Builtin.append, args := #[s, x], argTypes := #[t, tx] }) (vs vx : Value) (hs : a.eval s = vs) (hx : a.eval x = vx) (v : Value) (w' : World)
    (hrun : (Builtin.append_ #[t, tx] o.type #[vs, vx]).run P w = .ok v w') (hK : K (a.put o.dst v) w') : if Region.wanted o (yielded ops a.tmps) = true then Oper.wp P o a w K Q else E := by
  have hw : Region.wanted o (yielded ops a.tmps) = true := by simp [Region.wanted, hg]
  rw [if_pos hw]
  unfold Oper.wp
  simp [execOp, hop, resolve, invoke, builtin, hs, hx, hrun, Result.andThen]
  exact hK
/-- A message as its cells. -/
structure Ms where
  t : ByteArray
  v : Value
  q : Int
  r : Bool
  xs : List Int
def Ms.cs (m : Ms) : Array Value := #[.string m.t, m.v, .int .i64 m.q, .bool m.r]
def mrow (L : List Ms) : List Value := L.flatMap (fun m => m.cs.toList)
def mzero : Array Value := #[.string ⟨#[]⟩, .slice none 0 0, .int .i64 0, .bool false]
theorem info30 : (Tryz.prog.info? 45).map (fun i => (i.zero, i.size, i.bytes)) = some (some (.agg mzero), 4, 56) := by kernel_rfl
set_option maxRecDepth 100000 in
set_option maxHeartbeats 1000000 in
theorem join_walk {w w2 : World} {wb i : Nat} {t : ByteArray} {a : Option Addr} {n c : Nat} {q : Int} {r : Bool} {k g cap : Nat} {la : Option Addr} {lc : Nat} {x : Value} (hl : w.cell? ⟨wb, i, none⟩ = some (.slice la k lc)) (hlt : wb < w.heap.size)
    (hrun : (Builtin.append_ #[29, 29] 29 #[.slice la k lc, .slice (some ⟨w.heap.size + 1, 0, none⟩) 1 1]).run Tryz.prog ((w.alloc (.cells #[.string t, .slice a n c, .int .i64 q, .bool r] 45)).alloc (.cells #[.string t, .slice a n c, .int .i64 q, .bool r] 45)).drew = .ok (.slice (some ⟨g, 0, none⟩) (k + 1) cap) w2)
    (c2 : w2.cell? ⟨wb, i, none⟩ = some x) (f2 : w2.frozen? ⟨wb, i, none⟩ = false) :
    Calls Tryz.prog 67 #[.pointer (some ⟨wb, i, none⟩), .agg #[.string t, .slice a n c, .int .i64 q, .bool r]] w fun e w' => e = .returned (.tuple #[]) ∧ w' = w2.setCell ⟨wb, i, none⟩ (.slice (some ⟨g, 0, none⟩) (k + 1) cap) := by
  have H : Hid ((Builtin.append_ #[29, 29] 29 #[.slice la k lc, .slice (some ⟨w.heap.size + 1, 0, none⟩) 1 1]).run Tryz.prog ((w.alloc (.cells #[.string t, .slice a n c, .int .i64 q, .bool r] 45)).alloc (.cells #[.string t, .slice a n c, .int .i64 q, .bool r] 45)).drew = .ok (.slice (some ⟨g, 0, none⟩) (k + 1) cap) w2) := hrun
  clear hrun
  go_enter Tryz.func67, Tryz.ntmps67
  go_wp2_with fail
  go_region_law (refine step_app rfl (.tmp 8) (.tmp 10) 29 29 rfl _ _ rfl rfl _ w2 H.out ?_)
  all_goals go_wp2_with fail
  all_goals go_end0
  all_goals exact ⟨rfl, rfl⟩
/-- The blocks of a line: the window's and the list's own. -/
theorem own_lt {w : World} {B e s n : Nat} {v : Value} {xs : List Value} (h : w.ownsRow B e s v n xs) {g : Nat} (hg : v.ownBlock = some g) : ∃ cur, w.heap[g]? = some (.cells cur e (0, 0)) := by
  rcases h.2 with ⟨rfl, _⟩ | ⟨g', cap, cur, rfl, _, h2, _⟩
  · simp [Value.ownBlock] at hg
  · simp [Value.ownBlock] at hg
    subst hg
    exact ⟨cur, h2⟩
theorem own_ch {w w' : World} {S : Nat → Prop} {B e s n : Nat} {v : Value} {xs : List Value} (h : w.ownsRow B e s v n xs) (hc : Ch S w w') (hs : ∀ g, v.ownBlock = some g → ¬ S g) : w'.ownsRow B e s v n xs := by
  refine ⟨h.1, ?_⟩
  rcases h.2 with h0 | ⟨g, cap, cur, rfl, h1, h2, h3⟩
  · exact .inl h0
  · exact .inr ⟨g, cap, cur, rfl, h1, (hc.block g (Array.getElem?_eq_some_iff.1 h2).1 (hs g rfl)).trans h2, h3⟩
theorem join_any {w : World} {wb i t0 k : Nat} {cs : Array Value} {lv : Value} {xs : List Value} (hb : w.heap[wb]? = some (.cells cs t0 (0, 0))) (ht0 : t0 ≠ 45) (hi : cs[i]? = some lv) (ho : w.ownsRow 0 45 4 lv k xs) (hk : k ≤ 1000000) (t : ByteArray) (a : Option Addr) (n c : Nat) (q : Int) (r : Bool) :
    Calls Tryz.prog 67 #[.pointer (some ⟨wb, i, none⟩), .agg #[.string t, .slice a n c, .int .i64 q, .bool r]] w fun e w' => e = .returned (.tuple #[]) ∧ ∃ lv', w'.ownsRow 0 45 4 lv' (k + 1) (xs ++ [.string t, .slice a n c, .int .i64 q, .bool r]) ∧ w'.heap[wb]? = some (.cells (cs.setIfInBounds i lv') t0 (0, 0)) ∧ Ch (fun j => j = wb ∨ lv.ownBlock = some j) w w' ∧ (lv'.ownBlock = lv.ownBlock ∨ ∃ g, lv'.ownBlock = some g ∧ w.heap.size ≤ g) := by
  have hlt : wb < w.heap.size := (Array.getElem?_eq_some_iff.1 hb).1
  have hsl : ∃ la lc, lv = .slice la k lc := by
    rcases ho.2 with ⟨h1, h2⟩ | ⟨g, cap, cur, h1, _⟩
    · subst h2; exact ⟨_, _, h1⟩
    · exact ⟨_, _, h1⟩
  obtain ⟨la, lc, rfl⟩ := hsl
  have ho1 : (w.alloc (.cells #[.string t, .slice a n c, .int .i64 q, .bool r] 45)).drew.ownsRow 0 45 4 (.slice la k lc) k xs := ho.alloc _
  obtain ⟨g, cap, w2, hr, h2, h3, h4⟩ := app_gen (st := 29) (e := 45) (cs := #[.string t, .slice a n c, .int .i64 q, .bool r]) Tryz.underlying29 info30 rfl (by omega) (by omega) ho1 rfl (by simp [Value.oneCell']) hk
  have hc1 : Ch (fun j => (Value.slice la k lc).ownBlock = some j) w (w.alloc (.cells #[.string t, .slice a n c, .int .i64 q, .bool r] 45)).drew := (ch_alloc _ _ _).then (ch_drew _ _)
  have hcA := hc1.then h3
  have hne : (Value.slice la k lc).ownBlock ≠ some wb := fun e => by
    obtain ⟨cur, hq⟩ := own_lt ho e
    rw [hb] at hq
    simp at hq
    exact ht0 hq.2
  have hb2 : w2.heap[wb]? = some (.cells cs t0 (0, 0)) := (hcA.block wb hlt hne).trans hb
  have hsz : (w.alloc (.cells #[.string t, .slice a n c, .int .i64 q, .bool r] 45)).drew.heap.size = w.heap.size + 1 := by show (w.heap.push _).size = _; simp
  rw [hsz] at hr h4
  refine (join_walk (x := .slice la k lc) (box_cells hb i _ hi) hlt hr (box_cells hb2 i _ hi) (box_frozen hb2 i)).mono ?_
  rintro e w' ⟨rfl, rfl⟩
  have hgw : g ≠ wb := fun e => by
    obtain ⟨cur, hq⟩ := own_lt h2 (g := g) rfl
    rw [e, hb2] at hq
    simp at hq
    exact ht0 hq.2
  refine ⟨rfl, _, own_ch h2 (ch_set wb i _) (fun g' e => by simp [Value.ownBlock] at e; subst e; exact hgw), heap_set hb2 _, (hcA.mono (fun j _ q => .inr q)).trans (ch_set wb i _) (fun j _ q => .inl q), ?_⟩
  rcases h4 with q | q
  · exact .inl q.symm
  · exact .inr ⟨g, rfl, by omega⟩
end Go.Proofs.YtmihpmmkkklpfaaGreatDoor
namespace Go.Proofs.YtmihpmmkkklpfaaGreatDoor
open Go Go.RowKit Go.Maps
set_option linter.unusedSimpArgs false
set_option linter.unusedVariables false
/-! ### Maps by text -/
def okT (k : ByteArray) : Prop := k.size ≤ maxLen
def kt (k : ByteArray) : Lit := .string k.data.toList
theorem law9 : Maps.Keyed Tryz.prog 9 := Maps.string_keyed Tryz.underlying9
theorem keyOf_kt {k : ByteArray} (h : okT k) : keyOf Tryz.prog 9 (.string k) = some (kt k) := Go.WideMaps.keyOf_string_mk Tryz.underlying9 h
theorem kt_inj {a b : ByteArray} (ha : okT a) (hb : okT b) (h : kt a = kt b) : a = b := by
  have h1 := keyOf_kt ha
  rw [h] at h1
  have := law9.inj h1 (keyOf_kt hb)
  simp at this
  exact this
def setG (f : ByteArray → Option Value) (k : ByteArray) (v : Option Value) : ByteArray → Option Value := fun j => if j = k then v else f j
def szG (f : ByteArray → Option Value) (k : ByteArray) (n : Nat) : Nat := if (f k).isSome then n else n + 1
/-- A map of numbers, told number by number. -/
def MG (w : World) (mv : Value) (n : Nat) (f : ByteArray → Option Value) : Prop :=
  (mv = .map none ∧ n = 0 ∧ ∀ k, okT k → f k = none) ∨ ∃ mb D, mv = .map (some mb) ∧ w.ownsMap Tryz.prog 9 hv mb n D ∧ Maps.size D = n ∧ ∀ k, okT k → Maps.has D (kt k) = (f k).isSome ∧ ∀ v, f k = some v → ∀ z, D.atKey (kt k) z = .held v
theorem MG.keep {w w' : World} {mv : Value} {n : Nat} {f : ByteArray → Option Value} (h : MG w mv n f) (hs : ∀ b, mv = .map (some b) → w'.heap[b]? = w.heap[b]?) : MG w' mv n f := by
  rcases h with h | ⟨mb, D, h1, ⟨es, clock, hb, F, hs', hD⟩, h3, h4⟩
  · exact .inl h
  · exact .inr ⟨mb, D, h1, ⟨es, clock, (hs mb h1).trans hb, F, hs', hD⟩, h3, h4⟩
theorem MG.block {w : World} {mv : Value} {n : Nat} {f : ByteArray → Option Value} (h : MG w mv n f) {b : Nat} (hb : mv = .map (some b)) : ∃ es clock, w.heap[b]? = some (.map es clock) := by
  rcases h with ⟨h, _⟩ | ⟨mb, D, h1, ⟨es, clock, hm, _⟩, _⟩
  · rw [h] at hb; cases hb
  · rw [h1] at hb
    cases hb
    exact ⟨es, clock, hm⟩
theorem MG.lt {w : World} {mv : Value} {n : Nat} {f : ByteArray → Option Value} (h : MG w mv n f) {b : Nat} (hb : mv = .map (some b)) : b < w.heap.size := by
  obtain ⟨es, c, h⟩ := h.block hb
  exact (Array.getElem?_eq_some_iff.1 h).1
theorem MG.mk {w : World} {mv : Value} {n : Nat} {f : ByteArray → Option Value} (h : MG w mv n f) : mv = .map none ∨ ∃ mb, mv = .map (some mb) := by
  rcases h with ⟨h, _⟩ | ⟨mb, D, h1, _⟩
  · exact .inl h
  · exact .inr ⟨mb, h1⟩
theorem MG.made (w : World) : MG (w.alloc (.map #[] 0)) (.map (some w.heap.size)) 0 (fun _ => none) :=
  .inr ⟨w.heap.size, .map [], rfl, World.ownsMap_made w Tryz.prog 9 hv, rfl, fun k _ => ⟨rfl, fun v q => by cases q⟩⟩
theorem MG.nil (w : World) : MG w (.map none) 0 (fun _ => none) := .inl ⟨rfl, rfl, fun _ _ => rfl⟩
theorem MG.congr {w : World} {mv : Value} {n : Nat} {f g : ByteArray → Option Value} (h : MG w mv n f) (hg : ∀ k, okT k → g k = f k) : MG w mv n g := by
  rcases h with ⟨h, h1, h2⟩ | ⟨mb, D, h1, h2, h3, h4⟩
  · exact .inl ⟨h, h1, fun k hk => (hg k hk).trans (h2 k hk)⟩
  · exact .inr ⟨mb, D, h1, h2, h3, fun k hk => by rw [hg k hk]; exact h4 k hk⟩
theorem MG.look {w : World} {mv : Value} {n : Nat} {f : ByteArray → Option Value} (h : MG w mv n f) {t e : TypeId} (ht : Tryz.prog.underlying t = some (.map 9 e)) {z : Value} (hz : ∀ w, (zeroValue e).run Tryz.prog w = .ok z w) {k : ByteArray} (hk : okT k) :
    (Instr.lookup t mv (.string k) false).run Tryz.prog w = .ok ((f k).getD z) w := by
  rcases h with ⟨rfl, h1, h2⟩ | ⟨mb, D, rfl, h2, h3, h4⟩
  · rw [h2 k hk]
    exact Maps.look_nil false law9 ht (hz w) (keyOf_kt hk)
  · obtain ⟨v, ps, hrun, hv'⟩ := h2.lookup law9 ht (hz w) (zd := .held z) (zp := []) rfl (keyOf_kt hk)
    rw [hrun]
    cases e : f k with
    | none =>
      rw [Maps.atKey_of_not_has (by rw [(h4 k hk).1, e]; rfl)] at hv'
      simp [hv] at hv'
      rw [hv'.1]
      rfl
    | some x =>
      rw [(h4 k hk).2 x e] at hv'
      simp [hv] at hv'
      rw [hv'.1]
      rfl
theorem MG.look2 {w : World} {mv : Value} {n : Nat} {f : ByteArray → Option Value} (h : MG w mv n f) {t e : TypeId} (ht : Tryz.prog.underlying t = some (.map 9 e)) {z : Value} (hz : ∀ w, (zeroValue e).run Tryz.prog w = .ok z w) {k : ByteArray} (hk : okT k) :
    (Instr.lookup t mv (.string k) true).run Tryz.prog w = .ok (.tuple #[(f k).getD z, .bool (f k).isSome]) w := by
  rcases h with ⟨rfl, h1, h2⟩ | ⟨mb, D, rfl, h2, h3, h4⟩
  · rw [h2 k hk]
    exact Maps.look_nil true law9 ht (hz w) (keyOf_kt hk)
  · obtain ⟨v, ps, hrun, hv'⟩ := h2.look_ok law9 ht (hz w) (zd := .held z) (zp := []) rfl (keyOf_kt hk)
    rw [hrun, (h4 k hk).1]
    cases e : f k with
    | none =>
      rw [Maps.atKey_of_not_has (by rw [(h4 k hk).1, e]; rfl)] at hv'
      simp [hv] at hv'
      rw [hv'.1]
      rfl
    | some x =>
      rw [(h4 k hk).2 x e] at hv'
      simp [hv] at hv'
      rw [hv'.1]
      rfl
theorem MG.len {w : World} {mv : Value} {n : Nat} {f : ByteArray → Option Value} (h : MG w mv n f) {t e : TypeId} (ht : Tryz.prog.underlying t = some (.map 9 e)) (ty : TypeId) : (Builtin.len_ #[t] ty #[mv]).run Tryz.prog w = .ok (.int .i64 n) w := by
  rcases h with ⟨rfl, rfl, h2⟩ | ⟨mb, D, rfl, h2, h3, h4⟩
  · exact Maps.len_nil ht ty
  · rw [h2.len ht ty, h3]
theorem MG.put {w : World} {mb : Nat} {n : Nat} {f : ByteArray → Option Value} (h : MG w (.map (some mb)) n f) {t e : TypeId} (ht : Tryz.prog.underlying t = some (.map 9 e)) {k : ByteArray} (hk : okT k) (v : Value) (hn : n < maxLen) :
    ∃ w', (Instr.mapUpdate t (.map (some mb)) (.string k) v).run Tryz.prog w = .ok () w' ∧ MG w' (.map (some mb)) (szG f k n) (setG f k (some v)) ∧ Ch (fun j => j = mb) w w' := by
  rcases h with ⟨h, _⟩ | ⟨mb', D, h1, h2, h3, h4⟩
  · cases h
  · cases h1
    obtain ⟨w', hrun, ho, htd⟩ := h2.store law9 ht hn (keyOf_kt hk) (val := v) (d := .held v) (ps := []) rfl
    have hD := h2.tidy law9
    have hsz : Maps.size (D.put (kt k) (.held v)) = szG f k n := by
      rw [Maps.size_put hD, h3, (h4 k hk).1]
      rfl
    refine ⟨w', hrun, .inr ⟨mb, D.put (kt k) (.held v), rfl, ?_, hsz, fun k' hk' => ?_⟩, ch_turned htd⟩
    · obtain ⟨es, clock, hb, F, hs, hd⟩ := ho
      refine ⟨es, clock, hb, F, ?_, hd⟩
      rw [← hsz, hd]
      simp [Maps.size, length_sorted]
    · by_cases q : k' = k
      · subst q
        refine ⟨by rw [Maps.has_put_same hD.isMap (law9.key (keyOf_kt hk))]; simp [setG], fun x hx z => ?_⟩
        simp [setG] at hx
        rw [Maps.atKey_put_same hD.isMap (law9.key (keyOf_kt hk)), hx]
      · have hne : kt k' ≠ kt k := fun r => q (kt_inj hk' hk r)
        rw [Maps.has_put_other hne]
        refine ⟨by rw [(h4 k' hk').1]; simp [setG, q], fun x hx z => ?_⟩
        simp [setG, q] at hx
        rw [Maps.atKey_put_other hne, (h4 k' hk').2 x hx]
theorem MG.del {w : World} {mb : Nat} {n : Nat} {f : ByteArray → Option Value} (h : MG w (.map (some mb)) n f) {t e : TypeId} (ht : Tryz.prog.underlying t = some (.map 9 e)) {k : ByteArray} (hk : okT k) (ty : TypeId) :
    ∃ w', (Builtin.delete_ #[t, 9] ty #[.map (some mb), .string k]).run Tryz.prog w = .ok (.tuple #[]) w' ∧ MG w' (.map (some mb)) (n - (if (f k).isSome then 1 else 0)) (setG f k none) ∧ Ch (fun j => j = mb) w w' := by
  rcases h with ⟨h, _⟩ | ⟨mb', D, h1, h2, h3, h4⟩
  · cases h
  · cases h1
    obtain ⟨w', hrun, ho, htd⟩ := h2.drop law9 ht (keyOf_kt hk) ty
    have hD := h2.tidy law9
    have hsz : Maps.size (D.del (kt k)) = n - (if (f k).isSome then 1 else 0) := by
      have := Maps.size_del (k := kt k) hD
      rw [(h4 k hk).1, h3] at this
      omega
    refine ⟨w', hrun, .inr ⟨mb, D.del (kt k), rfl, ?_, hsz, fun k' hk' => ?_⟩, ch_turned htd⟩
    · obtain ⟨es, clock, hb, F, hs, hd⟩ := ho
      refine ⟨es, clock, hb, F, ?_, hd⟩
      rw [← hsz, hd]
      simp [Maps.size, length_sorted]
    · by_cases q : k' = k
      · subst q
        refine ⟨by rw [Maps.has_del_same]; simp [setG], fun x hx z => ?_⟩
        simp [setG] at hx
      · have hne : kt k' ≠ kt k := fun r => q (kt_inj hk' hk r)
        rw [Maps.has_del_other hne]
        refine ⟨by rw [(h4 k' hk').1]; simp [setG, q], fun x hx z => ?_⟩
        simp [setG, q] at hx
        rw [Maps.atKey_del_other hne, (h4 k' hk').2 x hx]
end Go.Proofs.YtmihpmmkkklpfaaGreatDoor
