import Derived.Test.YtkjeneklkdekoaaGreatDoorBya
import Derived.Test.YtkjeneklkdekoaaGreatDoorBlu
namespace Go.Proofs.YtkjeneklkdekoaaGreatDoor
open Go Go.RowKit
set_option linter.unusedSimpArgs false
set_option linter.unusedVariables false

/-! ### Lists that were made since a world -/
/-- Each in a block of its own. -/
structure AM (w W : World) (l : List Value) (sp : List (Nat × (Nat → Int))) : Prop where
  bel : Below w.heap.size w W
  len : l.length = sp.length
  each : ∀ (j : Nat) (v : Value) (p : Nat × (Nat → Int)), l[j]? = some v → sp[j]? = some p → (∃ g cp, v = .slice (some ⟨g, 0, none⟩) p.1 cp ∧ w.heap.size ≤ g) ∧ W.ownsRow 0 5 1 v p.1 (cellsOf p.2 p.1) ∧ ∀ i, 0 ≤ p.2 i ∧ p.2 i ≤ 255
  sep : l.Pairwise (fun v u => ∀ k, v.ownBlock = some k → u.ownBlock ≠ some k)
theorem AM.start (w : World) : AM w w [] [] := ⟨Below.refl _ _, rfl, by simp, List.Pairwise.nil⟩
theorem AM.lt {w W : World} {l : List Value} {sp : List (Nat × (Nat → Int))} (h : AM w W l sp) {v : Value} (hv : v ∈ l) {k : Nat} (hk : v.ownBlock = some k) : k < W.heap.size := by
  obtain ⟨j, hj, rfl⟩ := List.mem_iff_getElem.1 hv
  obtain ⟨_, ho, _⟩ := h.each j _ (sp[j]'(by have := h.len; omega)) (List.getElem?_eq_getElem hj) (List.getElem?_eq_getElem _)
  exact (ho.lt k hk).2
theorem AM.later {w W W' : World} {l : List Value} {sp : List (Nat × (Nat → Int))} (h : AM w W l sp) (hb : Below W.heap.size W W') : AM w W' l sp :=
  ⟨h.bel.trans (hb.mono h.bel.size), h.len, fun j v p e1 e2 => by
    obtain ⟨q1, q2, q3⟩ := h.each j v p e1 e2
    exact ⟨q1, own_keep q2 (fun k e => hb.block k (q2.lt k e).2), q3⟩, h.sep⟩
theorem AM.add {w W W' : World} {l : List Value} {sp : List (Nat × (Nat → Int))} {v : Value} {n : Nat} {Z : Nat → Int} (h : AM w W l sp) (hm : Mz W W' v n Z) : AM w W' (l ++ [v]) (sp ++ [(n, Z)]) := by
  have h' := h.later hm.bel
  obtain ⟨g, cp, rfl, hg⟩ := hm.sl
  refine ⟨h'.bel, by simp [h.len], fun j u p e1 e2 => ?_, List.pairwise_append.2 ⟨h'.sep, List.pairwise_singleton _ _, fun a ha b hb k ek => ?_⟩⟩
  · by_cases q : j < l.length
    · rw [List.getElem?_append_left q] at e1
      rw [List.getElem?_append_left (by have := h.len; omega)] at e2
      exact h'.each j u p e1 e2
    · have hj : j = l.length := by
        have := (List.getElem?_eq_some_iff.1 e1).1
        simp at this
        omega
      subst hj
      rw [List.getElem?_append_right (Nat.le_refl _)] at e1
      rw [List.getElem?_append_right (by rw [h.len]; exact Nat.le_refl _), h.len] at e2
      simp at e1 e2
      subst e1 e2
      exact ⟨⟨g, cp, rfl, Nat.le_trans h.bel.size hg⟩, own_zero hm.own, hm.bd⟩
  · simp at hb
    subst hb
    have := h.lt ha ek
    simp [Value.ownBlock]
    omega
/-! ### Lists that are laid into a book one after another -/
/-- One that may be laid: in a block that isn't the book's, made since a world. -/
def La (w W : World) (U : Nat → Prop) (v : Value) : Prop := ∃ va n vc L, v = .slice va n vc ∧ n ≤ 900000 ∧ W.ownsRow 0 5 1 v n L ∧ (∀ u ∈ L, Bv u) ∧ ∀ g, v.ownBlock = some g → w.heap.size ≤ g ∧ ¬ U g
def RB (w : World) (U0 : Nat → Prop) (bb N : Nat) (l : List Value) (W : World) : Prop :=
  ∃ U, Bk W bb N U ∧ (∀ k, U k → U0 k ∨ w.heap.size ≤ k) ∧ Ch U0 w W ∧ (∀ v ∈ l, La w W U v) ∧ l.Pairwise (fun v u => ∀ k, v.ownBlock = some k → u.ownBlock ≠ some k)
/-- The lists that were made may be laid. -/
theorem AM.la {w W : World} {l : List Value} {sp : List (Nat × (Nat → Int))} {U : Nat → Prop} (h : AM w W l sp) (hs : ∀ p ∈ sp, p.1 ≤ 900000) (hU : ∀ k, U k → k < w.heap.size) : ∀ v ∈ l, La w W U v := fun v hv => by
  obtain ⟨j, hj, rfl⟩ := List.mem_iff_getElem.1 hv
  have hj' : j < sp.length := by have := h.len; omega
  obtain ⟨⟨g, cp, e, hg⟩, ho, hb⟩ := h.each j _ sp[j] (List.getElem?_eq_getElem hj) (List.getElem?_eq_getElem hj')
  refine ⟨some ⟨g, 0, none⟩, _, cp, _, e, hs _ (List.getElem_mem hj'), ho, cells_bv hb _, fun g' e' => ?_⟩
  rw [e] at e'
  simp [Value.ownBlock] at e'
  subst e'
  exact ⟨hg, fun q => by have := hU _ q; omega⟩
theorem la_nil (w W : World) (U : Nat → Prop) : La w W U (.slice none 0 0) := ⟨none, 0, 0, [], rfl, by omega, World.ownsRow_nil _ _ _ _, by simp, fun g e => by simp [Value.ownBlock] at e⟩
end Go.Proofs.YtkjeneklkdekoaaGreatDoor
