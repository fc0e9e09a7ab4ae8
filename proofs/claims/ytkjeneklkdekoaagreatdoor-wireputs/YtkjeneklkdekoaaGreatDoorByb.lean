import Derived.Test.YtkjeneklkdekoaaGreatDoorMWone
import Derived.Test.YtkjeneklkdekoaaGreatDoorBlu
namespace Go.Proofs.YtkjeneklkdekoaaGreatDoor
open Go Go.RowKit
set_option linter.unusedSimpArgs false
set_option linter.unusedVariables false

/-! ### Lists that were made since a world -/
/-- Each in a block of its own. -/
structure AM (w W : World) (l : List Value) (sp : List (Nat × (Nat → Int))) : Prop where
  bel : Below w.heap.size w W
  len : l.length = sp.length
  each : ∀ (j : Nat) (v : Value) (p : Nat × (Nat → Int)), l[j]? = some v → sp[j]? = some p → (∃ g cp, v = .slice (some ⟨g, 0, none⟩) p.1 cp ∧ w.heap.size ≤ g) ∧ W.ownsRow 0 5 1 v p.1 (cellsOf p.2 p.1) ∧ ∀ i, 0 ≤ p.2 i ∧ p.2 i ≤ 255
  sep : l.Pairwise (fun v u => ∀ k, v.ownBlock = some k → u.ownBlock ≠ some k)
theorem AM.start (w : World) : AM w w [] [] := ⟨Below.refl _ _, rfl, by simp, List.Pairwise.nil⟩
theorem AM.lt {w W : World} {l : List Value} {sp : List (Nat × (Nat → Int))} (h : AM w W l sp) {v : Value} (hv : v ∈ l) {k : Nat} (hk : v.ownBlock = some k) : k < W.heap.size := by
  obtain ⟨j, hj, rfl⟩ := List.mem_iff_getElem.1 hv
  obtain ⟨_, ho, _⟩ := h.each j _ (sp[j]'(by have := h.len; omega)) (List.getElem?_eq_getElem hj) (List.getElem?_eq_getElem _)
  exact (ho.lt k hk).2
theorem AM.later {w W W' : World} {l : List Value} {sp : List (Nat × (Nat → Int))} (h : AM w W l sp) (hb : Below W.heap.size W W') : AM w W' l sp :=
  ⟨h.bel.trans (hb.mono h.bel.size), h.len, fun j v p e1 e2 => by
    obtain ⟨q1, q2, q3⟩ := h.each j v p e1 e2
    exact ⟨q1, own_keep q2 (fun k e => hb.block k (q2.lt k e).2), q3⟩, h.sep⟩
theorem AM.add {w W W' : World} {l : List Value} {sp : List (Nat × (Nat → Int))} {v : Value} {n : Nat} {Z : Nat → Int} (h : AM w W l sp) (hm : Mz W W' v n Z) : AM w W' (l ++ [v]) (sp ++ [(n, Z)]) := by
  have h' := h.later hm.bel
  obtain ⟨g, cp, rfl, hg⟩ := hm.sl
  refine ⟨h'.bel, by simp [h.len], fun j u p e1 e2 => ?_, List.pairwise_append.2 ⟨h'.sep, List.pairwise_singleton _ _, fun a ha b hb k ek => ?_⟩⟩
  · by_cases q : j < l.length
    · rw [List.getElem?_append_left q] at e1
      rw [List.getElem?_append_left (by have := h.len; omega)] at e2
      exact h'.each j u p e1 e2
    · have hj : j = l.length := by
        have := (List.getElem?_eq_some_iff.1 e1).1
        simp at this
        omega
      subst hj
      rw [List.getElem?_append_right (Nat.le_refl _)] at e1
      rw [List.getElem?_append_right (by rw [h.len]; exact Nat.le_refl _), h.len] at e2
      simp at e1 e2
      subst e1 e2
      exact ⟨⟨g, cp, rfl, Nat.le_trans h.bel.size hg⟩, own_zero hm.own, hm.bd⟩
  · simp at hb
    subst hb
    have := h.lt ha ek
    simp [Value.ownBlock]
    omega
theorem AM.pop {w W : World} {l : List Value} {sp : List (Nat × (Nat → Int))} {v : Value} {p : Nat × (Nat → Int)} (h : AM w W (l ++ [v]) (sp ++ [p])) : AM w W l sp := by
  have hl : l.length = sp.length := by simpa using h.len
  refine ⟨h.bel, hl, fun j u q e1 e2 => h.each j u q ?_ ?_, (List.pairwise_append.1 h.sep).1⟩
  · rw [List.getElem?_append_left (List.getElem?_eq_some_iff.1 e1).1]
    exact e1
  · rw [List.getElem?_append_left (List.getElem?_eq_some_iff.1 e2).1]
    exact e2
theorem AM.got {w W : World} {l : List Value} {sp : List (Nat × (Nat → Int))} (h : AM w W l sp) (j : Nat) {v : Value} {p : Nat × (Nat → Int)} (e1 : l[j]? = some v) (e2 : sp[j]? = some p) : ∃ g cp, v = .slice (some ⟨g, 0, none⟩) p.1 cp ∧ Came W (some ⟨g, 0, none⟩) p.1 cp p.2 := by
  obtain ⟨⟨g, cp, rfl, _⟩, q2, q3⟩ := h.each j v p e1 e2
  exact ⟨g, cp, rfl, made_came (w := W) (own_zero q2) q3⟩
/-! ### Lists that are laid into a book one after another -/
/-- One that may be laid: in a block that isn't the book's, made since a world. -/
def La (w W : World) (U : Nat → Prop) (v : Value) : Prop := ∃ va n vc L, v = .slice va n vc ∧ n ≤ 900000 ∧ W.ownsRow 0 5 1 v n L ∧ (∀ u ∈ L, Bv u) ∧ ∀ g, v.ownBlock = some g → w.heap.size ≤ g ∧ ¬ U g
def RB (w : World) (U0 : Nat → Prop) (bb N : Nat) (l : List Value) (W : World) : Prop :=
  ∃ U, Bk W bb N U ∧ (∀ k, U k → U0 k ∨ w.heap.size ≤ k) ∧ Ch U0 w W ∧ (∀ v ∈ l, La w W U v) ∧ l.Pairwise (fun v u => ∀ k, v.ownBlock = some k → u.ownBlock ≠ some k)
theorem RB.step {w W : World} {U0 : Nat → Prop} {bb N : Nat} {v : Value} {l : List Value} (h : RB w U0 bb N (v :: l) W) (hN : N ≤ 500) (mark : Int) : Calls Tryz.prog 28 #[.pointer (some ⟨bb, 0, none⟩), v, .int .i64 mark] W fun e w' => e = .returned (.tuple #[]) ∧ RB w U0 bb (N + 1) l w' := by
  obtain ⟨U, h1, h2, h3, h4, h5⟩ := h
  obtain ⟨va, n, vc, L, rfl, hn, ho, hb, hg⟩ := h4 v (by simp)
  have h5' := List.pairwise_cons.1 h5
  refine (bk_step h1 hN va n vc L mark ho hb hn (fun g e => (hg g e).2)).mono ?_
  rintro e w' ⟨rfl, U', q1, q2, q3⟩
  refine ⟨rfl, U', q1, fun k q => ?_, h3.trans q2 (fun j hj q => ?_), fun u hu => ?_, h5'.2⟩
  · rcases q3 k q with (q | q) | q
    · exact h2 k q
    · exact .inr (hg k q).1
    · exact .inr (Nat.le_trans h3.size q)
  · rcases q with q | q
    · rcases h2 j q with q | q
      · exact q
      · omega
    · have := (hg j q).1
      omega
  · obtain ⟨va', n', vc', L', rfl, hn', ho', hb', hg'⟩ := h4 u (by simp [hu])
    have hne : ∀ g, (Value.slice va' n' vc').ownBlock = some g → ¬ (U g ∨ (Value.slice va n vc).ownBlock = some g) := fun g e q => by
      rcases q with q | q
      · exact (hg' g e).2 q
      · exact h5'.1 _ hu g q e
    refine ⟨va', n', vc', L', rfl, hn', own_keep ho' (fun k e => q2.block k (ho'.lt k e).2 (hne k e)), hb', fun g e => ⟨(hg' g e).1, fun q => ?_⟩⟩
    rcases q3 g q with q | q
    · exact hne g e q
    · have := (ho'.lt g e).2
      omega
/-- The lists that were made may be laid. -/
theorem AM.la {w W : World} {l : List Value} {sp : List (Nat × (Nat → Int))} {U : Nat → Prop} (h : AM w W l sp) (hs : ∀ p ∈ sp, p.1 ≤ 900000) (hU : ∀ k, U k → k < w.heap.size) : ∀ v ∈ l, La w W U v := fun v hv => by
  obtain ⟨j, hj, rfl⟩ := List.mem_iff_getElem.1 hv
  have hj' : j < sp.length := by have := h.len; omega
  obtain ⟨⟨g, cp, e, hg⟩, ho, hb⟩ := h.each j _ sp[j] (List.getElem?_eq_getElem hj) (List.getElem?_eq_getElem hj')
  refine ⟨some ⟨g, 0, none⟩, _, cp, _, e, hs _ (List.getElem_mem hj'), ho, cells_bv hb _, fun g' e' => ?_⟩
  rw [e] at e'
  simp [Value.ownBlock] at e'
  subst e'
  exact ⟨hg, fun q => by have := hU _ q; omega⟩
theorem la_nil (w W : World) (U : Nat → Prop) : La w W U (.slice none 0 0) := ⟨none, 0, 0, [], rfl, by omega, World.ownsRow_nil _ _ _ _, by simp, fun g e => by simp [Value.ownBlock] at e⟩
end Go.Proofs.YtkjeneklkdekoaaGreatDoor
