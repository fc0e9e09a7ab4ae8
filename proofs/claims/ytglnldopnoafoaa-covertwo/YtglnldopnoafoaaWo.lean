import Derived.Test.YtglnldopnoafoaaWn
namespace Go.Proofs.Ytglnldopnoafoaa
open Go Go.RowKit
set_option linter.unusedSimpArgs false
set_option linter.unusedVariables false

/-- Both lists of Least while the second is being filled: so many of its rows are there. -/
structure Sf (w0 w : World) (lb sb lc : Nat) (L : List ByteArray) (D : List Sx) (k : Nat) : Prop where
  bel : Below w0.heap.size w0 w
  l0 : w0.heap.size ≤ lb
  l1 : lb < w.heap.size
  s0 : w0.heap.size ≤ sb
  s1 : sb < w.heap.size
  ne : lb ≠ sb
  hl : Sort.Holds encStr w lb 0 (L.map unB).toArray
  hs : Sort.Holds encSl w sb 0 D.toArray
  len : D.length = L.length
  lc1 : L.length ≤ lc
  lc2 : lc ≤ 9223372036854775807
  sc2 : L.length ≤ 9223372036854775807
  rows : ∀ (j : Nat) (x : ByteArray) (d : Sx), j < k → L[j]? = some x → D[j]? = some d → Row w (encSl d) ((lvO x).map mkB) ∧ ∀ g, (encSl d).ownBlock = some g → g ≠ lb ∧ g ≠ sb
theorem Sf.later {w0 w w' : World} {lb sb lc k : Nat} {L : List ByteArray} {D : List Sx} (h : Sf w0 w lb sb lc L D k) (hb : Below w.heap.size w w') : Sf w0 w' lb sb lc L D k :=
  ⟨h.bel.trans (hb.mono h.bel.size), h.l0, Nat.lt_of_lt_of_le h.l1 hb.size, h.s0, Nat.lt_of_lt_of_le h.s1 hb.size, h.ne, holds_below _ h.hl hb h.l1, holds_below _ h.hs hb h.s1, h.len, h.lc1, h.lc2, h.sc2, fun j x d h0 h1 h2 => ⟨(h.rows j x d h0 h1 h2).1.later hb, (h.rows j x d h0 h1 h2).2⟩⟩
theorem Sf.whole {w0 w : World} {lb sb lc : Nat} {L : List ByteArray} {D : List Sx} (h : Sf w0 w lb sb lc L D L.length) : St w0 w lb sb lc L.length L D :=
  ⟨h.bel, h.l0, h.l1, h.s0, h.s1, h.ne, h.hl, h.hs, h.len, h.lc1, h.lc2, Nat.le_refl _, h.sc2, fun j x d h1 h2 => h.rows j x d (List.getElem?_eq_some_iff.1 h1).1 h1 h2⟩
theorem put_self {w0 w : World} {lb sb lc k : Nat} {L : List ByteArray} {D : List Sx} (h : Sf w0 w lb sb lc L D k) (d : Sx) (hk : k < L.length) : w.setCell ⟨sb, k, none⟩ (encSl d) = Sort.putRow encSl (Sort.ahead w 0) sb 0 (D.set k d).toArray := by
  have h1 := Sort.putRow_self encSl w sb 0 D.toArray h.hs
  have h2 := Sort.putRow_set encSl w sb 0 D.toArray k d (by have := h.len; simp; omega)
  rw [h1, Nat.zero_add] at h2
  rw [h2]
  simp
theorem Sf.store {w0 w : World} {lb sb lc k : Nat} {L : List ByteArray} {D : List Sx} (h : Sf w0 w lb sb lc L D k) (x : ByteArray) (d : Sx) (hx : L[k]? = some x) (hr : Row w (encSl d) ((lvO x).map mkB)) (hg : ∀ g, (encSl d).ownBlock = some g → g ≠ lb ∧ g ≠ sb) : Sf w0 (w.setCell ⟨sb, k, none⟩ (encSl d)) lb sb lc L (D.set k d) (k + 1) := by
  have hk := (List.getElem?_eq_some_iff.1 hx).1
  rw [put_self h d hk]
  have hz : (Sort.putRow encSl (Sort.ahead w 0) sb 0 (D.set k d).toArray).heap.size = w.heap.size := by simp
  refine ⟨h.bel.trans (below_putG _ h.s0 _ _), h.l0, by rw [hz]; exact h.l1, h.s0, by rw [hz]; exact h.s1, h.ne, holds_put _ _ h.hl _ _ _ h.ne, Sort.holds_putRow _ _ _ _ _ _ (Sort.holds_ahead _ _ _ _ _ _ h.hs) (by simp), by simp; exact h.len, h.lc1, h.lc2, h.sc2, ?_⟩
  intro j y e hj hy he
  by_cases hjk : j = k
  · subst hjk
    rw [hx] at hy
    simp only [Option.some.injEq] at hy
    subst hy
    rw [List.getElem?_set_self (by have := h.len; omega)] at he
    simp only [Option.some.injEq] at he
    subst he
    exact ⟨row_put _ hr _ _ _ _ (fun g h1 => (hg g h1).2), hg⟩
  · rw [List.getElem?_set_ne (Ne.symm hjk)] at he
    obtain ⟨r1, r2⟩ := h.rows j y e (by omega) hy he
    exact ⟨row_put _ r1 _ _ _ _ (fun g h1 => (r2 g h1).2), r2⟩
end Go.Proofs.Ytglnldopnoafoaa
