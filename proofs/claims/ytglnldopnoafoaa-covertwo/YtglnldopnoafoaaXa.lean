import Derived.Test.YtglnldopnoafoaaWt
namespace Go.Proofs.Ytglnldopnoafoaa
open Go
set_option linter.unusedSimpArgs false
set_option linter.unusedVariables false

theorem lies_find (L : List ByteArray) (i : Nat) (h : lies L i = true) : ∃ j, j < L.length ∧ j ≠ i ∧ inP (L[i]?.getD ⟨#[]⟩) (L[j]?.getD ⟨#[]⟩) = true := by
  unfold lies at h
  rw [List.any_eq_true] at h
  obtain ⟨j, hj, h2⟩ := h
  simp only [List.mem_range] at hj
  simp only [Bool.and_eq_true, decide_eq_true_eq] at h2
  exact ⟨j, hj, h2.1, h2.2⟩
theorem lies_none (L : List ByteArray) (i : Nat) (h : lies L i = false) (j : Nat) (hj : j < L.length) (hne : j ≠ i) : inP (L[i]?.getD ⟨#[]⟩) (L[j]?.getD ⟨#[]⟩) = false := by
  apply Bool.eq_false_iff.2
  intro h2
  rw [lies_yes L i j hj hne h2] at h
  cases h
theorem lea_sub : ∀ (k : Nat) (L : List ByteArray), (lea k L).Sublist L
  | 0, L => List.Sublist.refl _
  | k + 1, L => by
    unfold lea
    split
    · exact (lea_sub k _).trans (List.eraseIdx_sublist _ _)
    · exact lea_sub k L
theorem lea_keeps (T : ByteArray) : ∀ (k : Nat) (L : List ByteArray) (f : ByteArray), k ≤ L.length → f ∈ L → mch f T = true → ∃ g ∈ lea k L, mch g T = true
  | 0, L, f, _, hf, hm => ⟨f, hf, hm⟩
  | k + 1, L, f, hk, hf, hm => by
    unfold lea
    cases h : lies L k with
    | false =>
      simp only [Bool.false_eq_true, if_false]
      exact lea_keeps T k L f (by omega) hf hm
    | true =>
      simp only [if_true]
      obtain ⟨j, hj, hne, hi⟩ := lies_find L k h
      have hlen : (L.eraseIdx k).length = L.length - 1 := by rw [List.length_eraseIdx, if_pos (by omega)]
      obtain ⟨p, hp, hpf⟩ := List.getElem_of_mem hf
      have key : ∃ g ∈ L.eraseIdx k, mch g T = true := by
        by_cases e : p = k
        · subst e
          have h1 : (L[p]?.getD ⟨#[]⟩) = f := by simp [hp, hpf]
          have h2 : (L[j]?.getD ⟨#[]⟩) = L[j] := by simp [hj]
          rw [h1, h2] at hi
          refine ⟨L[j], ?_, (in_iff _ _).1 hi T hm⟩
          rw [List.mem_eraseIdx_iff_getElem?]
          exact ⟨j, hne, by simp [hj]⟩
        · refine ⟨f, ?_, hm⟩
          rw [List.mem_eraseIdx_iff_getElem?]
          exact ⟨p, e, by simp [hp, hpf]⟩
      obtain ⟨g, hg, hgm⟩ := key
      exact lea_keeps T k (L.eraseIdx k) g (by omega) hg hgm
/-- From a place on none lies within another one. -/
def Apart (k : Nat) (L : List ByteArray) : Prop := ∀ i j x y, k ≤ i → i ≠ j → L[i]? = some x → L[j]? = some y → inP x y = false
theorem lea_apart : ∀ (k : Nat) (L : List ByteArray), k ≤ L.length → Apart k L → Apart 0 (lea k L)
  | 0, L, _, h => h
  | k + 1, L, hk, h => by
    unfold lea
    cases hl : lies L k with
    | false =>
      simp only [Bool.false_eq_true, if_false]
      refine lea_apart k L (by omega) ?_
      intro i j x y h1 h2 hx hy
      by_cases e : i = k
      · subst e
        have h3 := lies_none L i hl j (List.getElem?_eq_some_iff.1 hy).1 (Ne.symm h2)
        rw [hx, hy] at h3
        exact h3
      · exact h i j x y (by omega) h2 hx hy
    | true =>
      simp only [if_true]
      have hlen : (L.eraseIdx k).length = L.length - 1 := by rw [List.length_eraseIdx, if_pos (by omega)]
      refine lea_apart k (L.eraseIdx k) (by omega) ?_
      intro i j x y h1 h2 hx hy
      rw [List.getElem?_eraseIdx] at hx hy
      rw [if_neg (by omega)] at hx
      by_cases hj : j < k
      · rw [if_pos hj] at hy
        exact h (i + 1) j x y (by omega) (by omega) hx hy
      · rw [if_neg hj] at hy
        exact h (i + 1) (j + 1) x y (by omega) (by omega) hx hy
theorem lea_none : ∀ (k : Nat) (L : List ByteArray), k ≤ L.length → (lea k L = [] ↔ L = [])
  | 0, L, _ => Iff.rfl
  | k + 1, L, hk => by
    unfold lea
    cases hl : lies L k with
    | false =>
      simp only [Bool.false_eq_true, if_false]
      exact lea_none k L (by omega)
    | true =>
      simp only [if_true]
      obtain ⟨j, hj, hne, _⟩ := lies_find L k hl
      have hlen : (L.eraseIdx k).length = L.length - 1 := by rw [List.length_eraseIdx, if_pos (by omega)]
      rw [lea_none k (L.eraseIdx k) (by omega)]
      constructor
      · intro h
        rw [h] at hlen
        simp at hlen
        omega
      · intro h
        rw [h] at hk
        simp at hk
theorem sub_step {a b : ByteArray} {r s : List ByteArray} (h : (a :: r).Sublist (b :: s)) : (a = b → r.Sublist s) ∧ (¬ a = b → (a :: r).Sublist s) := by
  cases h with
  | cons _ h => exact ⟨fun _ => (List.sublist_cons_self a r).trans h, fun _ => h⟩
  | cons_cons _ h => exact ⟨fun _ => h, fun hn => absurd rfl hn⟩
/-- Does one of the first so many match? -/
def anyM (l : List ByteArray) (t : ByteArray) (i : Nat) : Bool := (l.take i).any fun f => mch f t
theorem anyM_succ (l : List ByteArray) (t : ByteArray) (i : Nat) (x : ByteArray) (hx : l[i]? = some x) : anyM l t (i + 1) = (anyM l t i || mch x t) := by
  unfold anyM
  obtain ⟨h, e⟩ := List.getElem?_eq_some_iff.1 hx
  rw [List.take_succ_eq_append_getElem h, List.any_append, e]
  simp
theorem anyM_same (l : List ByteArray) (t : ByteArray) : anyM l t l.length = anyM (lea l.length l) t (lea l.length l).length := by
  unfold anyM
  rw [List.take_of_length_le (Nat.le_refl _), List.take_of_length_le (Nat.le_refl _)]
  apply Bool.eq_iff_iff.2
  rw [List.any_eq_true, List.any_eq_true]
  constructor
  · rintro ⟨f, hf, hm⟩
    exact lea_keeps t l.length l f (Nat.le_refl _) hf hm
  · rintro ⟨f, hf, hm⟩
    exact ⟨f, (lea_sub _ _).subset hf, hm⟩
end Go.Proofs.Ytglnldopnoafoaa
