import Derived.Test.YtdhinpmjbcohaaaOd
import Derived.Test.YtdhinpmjbcohaaaKsM
namespace Go.Proofs.Ytdhinpmjbcohaaa
open Go Go.RowKit
set_option linter.unusedSimpArgs false
set_option linter.unusedVariables false

/-- What a list that was laid holds: the function's value, and when it was asked last. -/
def VB (wx : World) (add : Int) (F : Nat → Prop) (B : Nat) (k : ByteArray × Int) (v : Option Addr × Nat × Nat) : Prop := ∃ g x, v = (some ⟨g, 0, none⟩, 2, 2) ∧ wx.heap[g]? = some (.cells #[.int .i64 (k.2.tmod 1000 + add), .int .i64 x] 3 (0, 0)) ∧ B ≤ g ∧ ¬ F g
structure HS (w0 wx : World) (cb room : Nat) (add : Int) (l : List (Ks.Ky × Ks.Vt)) (F : Nat → Prop) (b0 : Nat) (p : Op8) : Prop where
  cs : Ks.CS wx cb room l F
  lo : ∀ j, F j → w0.heap.size ≤ j
  vs : ∀ q ∈ l, VB wx add F w0.heap.size q.1 q.2
  ch : Ch (fun j => w0.heap.size ≤ j) w0 wx
  bx : wx.heap[b0]? = some (.cells #[.int .i64 p.kind, .bool p.second, .string p.k.1, .int .i64 p.k.2, .int .i64 p.v, .int .i64 p.stop] 33 (0, 0))
  bF : ¬ F b0
/-- .. between two steps. -/
structure HT (w0 wx : World) (cb room : Nat) (add : Int) (l : List (Ks.Ky × Ks.Vt)) (F : Nat → Prop) : Prop where
  cs : Ks.CS wx cb room l F
  lo : ∀ j, F j → w0.heap.size ≤ j
  vs : ∀ q ∈ l, VB wx add F w0.heap.size q.1 q.2
  ch : Ch (fun j => w0.heap.size ≤ j) w0 wx
variable {w0 wx w' : World} {cb room : Nat} {add : Int} {l l' : List (Ks.Ky × Ks.Vt)} {F : Nat → Prop} {b0 : Nat} {p : Op8}
theorem VB.lt {B : Nat} {k : ByteArray × Int} {v : Option Addr × Nat × Nat} (h : VB wx add F B k v) : ∃ g, v = (some ⟨g, 0, none⟩, 2, 2) ∧ g < wx.heap.size := by
  obtain ⟨g, x, h1, h2, _⟩ := h
  exact ⟨g, h1, (Array.getElem?_eq_some_iff.1 h2).1⟩
theorem HS.tt (h : HS w0 wx cb room add l F b0 p) : HT w0 wx cb room add l F := ⟨h.cs, h.lo, h.vs, h.ch⟩
theorem HT.box (h : HT w0 wx cb room add l F) (p : Op8) : HS w0 (wx.alloc (.cells #[.int .i64 p.kind, .bool p.second, .string p.k.1, .int .i64 p.k.2, .int .i64 p.v, .int .i64 p.stop] 33)) cb room add l F wx.heap.size p := by
  have hc : Ch (fun _ => False) wx (wx.alloc (.cells #[.int .i64 p.kind, .bool p.second, .string p.k.1, .int .i64 p.k.2, .int .i64 p.v, .int .i64 p.stop] 33)) := ch_alloc _ _ _
  refine ⟨h.cs.ch hc (fun _ _ q => q), h.lo, fun q hq => ?_, h.ch.then (ch_alloc _ _ _), (MapKept.heap_alloc _ _).1, fun q => ?_⟩
  · obtain ⟨g, x, h1, h2, h3, h4⟩ := h.vs q hq
    exact ⟨g, x, h1, (hc.block g (Array.getElem?_eq_some_iff.1 h2).1 (fun q => q)).trans h2, h3, h4⟩
  · have := h.cs.lt q
    omega
theorem HS.blt (h : HS w0 wx cb room add l F b0 p) : b0 < wx.heap.size := (Array.getElem?_eq_some_iff.1 h.bx).1
theorem HS.below (h : HS w0 wx cb room add l F b0 p) (hb : Below wx.heap.size wx w') : HS w0 w' cb room add l F b0 p := by
  have hc : Ch (fun _ => False) wx w' := Below.ch hb
  refine ⟨h.cs.ch hc (fun _ _ q => q), h.lo, fun q hq => ?_, h.ch.then (Below.ch hb), (hb.block b0 h.blt).trans h.bx, h.bF⟩
  obtain ⟨g, x, h1, h2, h3, h4⟩ := h.vs q hq
  exact ⟨g, x, h1, (hb.block g (Array.getElem?_eq_some_iff.1 h2).1).trans h2, h3, h4⟩
theorem HS.aft (h : HS w0 wx cb room add l F b0 p) (ha : Ks.Aft wx cb room F l' w') (hl : ∀ q ∈ l', VB wx add F w0.heap.size q.1 q.2) : ∃ F', HS w0 w' cb room add l' F' b0 p ∧ ∀ j, F' j → F j ∨ wx.heap.size ≤ j := by
  obtain ⟨⟨F', h1, h2⟩, hc⟩ := ha
  refine ⟨F', ⟨h1, fun j hj => ?_, fun q hq => ?_, h.ch.then (hc.mono (fun j _ q => h.lo j q)), (hc.block b0 h.blt h.bF).trans h.bx, fun q => ?_⟩, h2⟩
  · rcases h2 j hj with q | q
    · exact h.lo j q
    · exact Nat.le_trans h.ch.size q
  · obtain ⟨g, x, e1, e2, e3, e4⟩ := hl q hq
    have hg := (Array.getElem?_eq_some_iff.1 e2).1
    refine ⟨g, x, e1, (hc.block g hg e4).trans e2, e3, fun r => ?_⟩
    rcases h2 g r with r | r
    · exact e4 r
    · omega
  · rcases h2 b0 q with q | q
    · exact h.bF q
    · have := h.blt
      omega
theorem used_mem {l : List (Ks.Ky × Ks.Vt)} {k : Ks.Ky} {q : Ks.Ky × Ks.Vt} (h : q ∈ Ks.lused l k) : q ∈ l := by
  unfold Ks.lused at h
  cases hg : lget l k with
  | none => rw [hg] at h; exact h
  | some v =>
    rw [hg] at h
    rcases List.mem_cons.1 h with h | h
    · rw [h]
      exact lget_some hg
    · exact (lout_mem.1 h).1
theorem HS.used (h : HS w0 wx cb room add l F b0 p) {k : Ks.Ky} (ha : Ks.Aft wx cb room F (Ks.lused l k) w') : ∃ F', HS w0 w' cb room add (Ks.lused l k) F' b0 p ∧ ∀ j, F' j → F j ∨ wx.heap.size ≤ j := h.aft ha (fun q hq => h.vs q (used_mem hq))
theorem HS.put (h : HS w0 wx cb room add l F b0 p) {k : Ks.Ky} {v : Ks.Vt} (hv : VB wx add F w0.heap.size k v) (ha : Ks.Aft wx cb room F ((ltop k v l).take room) w') : ∃ F', HS w0 w' cb room add ((ltop k v l).take room) F' b0 p ∧ ∀ j, F' j → F j ∨ wx.heap.size ≤ j := h.aft ha (fun q hq => by
  rcases List.mem_cons.1 (List.mem_of_mem_take hq) with e | e
  · rw [e]
    exact hv
  · exact h.vs q (lout_mem.1 e).1)
theorem HS.clear {add' : Int} (h : HS w0 wx cb room add l F b0 p) (ha : Ks.Aft wx cb room F [] w') : ∃ F', HS w0 w' cb room add' [] F' b0 p := by
  obtain ⟨F', h1, _⟩ := h.aft ha (by simp)
  exact ⟨F', h1.cs, h1.lo, by simp, h1.ch, h1.bx, h1.bF⟩
/-- When it was asked last is written down. -/
theorem HS.note (h : HS w0 wx cb room add l F b0 p) {g : Nat} {y x : Int} (hg : wx.heap[g]? = some (.cells #[.int .i64 y, .int .i64 x] 3 (0, 0))) (hB : w0.heap.size ≤ g) (hF : ¬ F g) (z : Int) : HS w0 (wx.setCell ⟨g, 1, none⟩ (.int .i64 z)) cb room add l F b0 p := by
  have hc := ch_set (w := wx) g 1 (.int .i64 z)
  have hb : b0 ≠ g := fun q => by
    have := h.bx
    rw [q, hg] at this
    simp at this
  refine ⟨h.cs.ch hc (fun j hj q => hF (q ▸ hj)), h.lo, fun q hq => ?_, h.ch.then (hc.mono (fun j _ q => q ▸ hB)), (heap_set_ne _ hb).trans h.bx, h.bF⟩
  obtain ⟨g', x', e1, e2, e3, e4⟩ := h.vs q hq
  by_cases r : g' = g
  · subst r
    refine ⟨g', z, e1, ?_, e3, e4⟩
    rw [heap_set e2]
    simp
  · exact ⟨g', x', e1, (heap_set_ne _ r).trans e2, e3, e4⟩
theorem HS.cell (h : HS w0 wx cb room add l F b0 p) : wx.cell? ⟨b0, 2, none⟩ = some (.string p.k.1) ∧ wx.cell? ⟨b0, 3, none⟩ = some (.int .i64 p.k.2) ∧ wx.cell? ⟨b0, 4, none⟩ = some (.int .i64 p.v) :=
  ⟨box_cells h.bx 2 _ rfl, box_cells h.bx 3 _ rfl, box_cells h.bx 4 _ rfl⟩
theorem w64 {x : Int} (h1 : -9223372036854775808 ≤ x) (h2 : x ≤ 9223372036854775807) : wrap64 x = x := by
  unfold wrap64
  omega
theorem tmod_bd (x : Int) {m : Int} (hm : 0 < m) : -m < x.tmod m ∧ x.tmod m < m := ⟨Int.lt_tmod_of_pos x hm, Int.tmod_lt_of_pos x hm⟩
theorem top_get {K V : Type} [DecidableEq K] (k : K) (v : V) (l : List (K × V)) : lget (ltop k v l) k = some v := by simp [lget, ltop]
theorem top_get_take {K V : Type} [DecidableEq K] (k : K) (v : V) (l : List (K × V)) (r : Nat) : lget ((ltop k v l).take r) k = if r = 0 then none else some v := by
  cases r with
  | zero => simp [lget]
  | succ r => simp [lget, ltop]
end Go.Proofs.Ytdhinpmjbcohaaa
