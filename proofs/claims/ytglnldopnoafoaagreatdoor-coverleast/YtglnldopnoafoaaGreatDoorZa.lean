import Derived.Test.YtglnldopnoafoaaGreatDoorCk
namespace Go.Proofs.YtglnldopnoafoaaGreatDoor
open Go
set_option linter.unusedSimpArgs false
set_option linter.unusedVariables false

/-- The texts that aren't marked. -/
def kpt : List ByteArray → List Bool → List ByteArray
  | f :: B, b :: H => if b then kpt B H else f :: kpt B H
  | _, _ => []
/-- Does the text at a place lie within another one that isn't marked? -/
def liesG (l : List ByteArray) (G : List Bool) (i : Nat) : Bool := (List.range l.length).any fun j => decide (j ≠ i) && !(G[j]?.getD false) && inP (l[i]?.getD ⟨#[]⟩) (l[j]?.getD ⟨#[]⟩)
/-- The marks, from a place on downwards. -/
def gR (l : List ByteArray) : Nat → List Bool → List Bool
  | 0, G => G
  | k + 1, G => gR l k (if liesG l G k then G.set k true else G)
theorem kpt_mem : ∀ (B : List ByteArray) (H : List Bool), B.length = H.length → ∀ x, x ∈ kpt B H ↔ ∃ j : Nat, B[j]? = some x ∧ H[j]? = some false
  | [], [], _, x => by simp [kpt]
  | [], b :: H, h, x => by simp at h
  | f :: B, [], h, x => by simp at h
  | f :: B, b :: H, h, x => by
    have ih := kpt_mem B H (by simpa using h) x
    cases b with
    | true =>
      simp only [kpt, if_true]
      rw [ih]
      constructor
      · rintro ⟨j, h1, h2⟩; exact ⟨j + 1, by simpa using h1, by simpa using h2⟩
      · rintro ⟨j, h1, h2⟩
        cases j with
        | zero => simp at h2
        | succ j => exact ⟨j, by simpa using h1, by simpa using h2⟩
    | false =>
      simp only [kpt]
      rw [if_neg (by simp), List.mem_cons, ih]
      constructor
      · rintro (rfl | ⟨j, h1, h2⟩)
        · exact ⟨0, rfl, rfl⟩
        · exact ⟨j + 1, by simpa using h1, by simpa using h2⟩
      · rintro ⟨j, h1, h2⟩
        cases j with
        | zero => left; simpa using h1.symm
        | succ j => right; exact ⟨j, by simpa using h1, by simpa using h2⟩
theorem lies_mid (A : List ByteArray) (f : ByteArray) (C : List ByteArray) : lies (A ++ f :: C) A.length = true ↔ ∃ x, x ∈ A ++ C ∧ inP f x = true := by
  have hf : (A ++ f :: C)[A.length]?.getD ⟨#[]⟩ = f := by simp
  unfold lies
  rw [hf]
  simp only [List.any_eq_true, List.mem_range, Bool.and_eq_true, decide_eq_true_eq]
  constructor
  · rintro ⟨j, h1, h2, h3⟩
    by_cases hj : j < A.length
    · obtain ⟨x, hx⟩ : ∃ x, A[j]? = some x := ⟨_, List.getElem?_eq_getElem hj⟩
      rw [List.getElem?_append_left hj, hx] at h3
      exact ⟨x, List.mem_append_left _ (List.mem_of_getElem? hx), h3⟩
    · obtain ⟨i, rfl⟩ : ∃ i, j = A.length + (i + 1) := ⟨j - A.length - 1, by omega⟩
      simp only [List.length_append, List.length_cons] at h1
      obtain ⟨x, hx⟩ : ∃ x, C[i]? = some x := ⟨_, List.getElem?_eq_getElem (by omega)⟩
      rw [List.getElem?_append_right (by omega), show A.length + (i + 1) - A.length = i + 1 by omega, List.getElem?_cons_succ, hx] at h3
      exact ⟨x, List.mem_append_right _ (List.mem_of_getElem? hx), h3⟩
  · rintro ⟨x, hx, h3⟩
    rcases List.mem_append.1 hx with h | h
    · obtain ⟨j, hj⟩ := List.getElem?_of_mem h
      have hj' := (List.getElem?_eq_some_iff.1 hj).1
      exact ⟨j, by simp; omega, by omega, by rw [List.getElem?_append_left hj', hj]; exact h3⟩
    · obtain ⟨i, hi⟩ := List.getElem?_of_mem h
      have hi' := (List.getElem?_eq_some_iff.1 hi).1
      refine ⟨A.length + (i + 1), by simp; omega, by omega, ?_⟩
      rw [List.getElem?_append_right (by omega), show A.length + (i + 1) - A.length = i + 1 by omega, List.getElem?_cons_succ, hi]
      exact h3
theorem rep_at {n j : Nat} {H : List Bool} : (List.replicate n false ++ H)[j]? = if j < n then some false else H[j - n]? := by
  by_cases h : j < n
  · rw [List.getElem?_append_left (by simpa using h), if_pos h]; simp [h]
  · rw [List.getElem?_append_right (by simp; omega), if_neg h]; simp
theorem liesG_mid (A : List ByteArray) (f : ByteArray) (B : List ByteArray) (H : List Bool) (hl : B.length = H.length) : liesG (A ++ f :: B) (List.replicate A.length false ++ false :: H) A.length = true ↔ ∃ x, x ∈ A ++ kpt B H ∧ inP f x = true := by
  have hf : (A ++ f :: B)[A.length]?.getD ⟨#[]⟩ = f := by simp
  unfold liesG
  rw [hf]
  simp only [List.any_eq_true, List.mem_range, Bool.and_eq_true, decide_eq_true_eq, Bool.not_eq_true']
  constructor
  · rintro ⟨j, h1, ⟨h2, h4⟩, h3⟩
    by_cases hj : j < A.length
    · obtain ⟨x, hx⟩ : ∃ x, A[j]? = some x := ⟨_, List.getElem?_eq_getElem hj⟩
      rw [List.getElem?_append_left hj, hx] at h3
      exact ⟨x, List.mem_append_left _ (List.mem_of_getElem? hx), h3⟩
    · obtain ⟨i, rfl⟩ : ∃ i, j = A.length + (i + 1) := ⟨j - A.length - 1, by omega⟩
      simp only [List.length_append, List.length_cons] at h1
      obtain ⟨x, hx⟩ : ∃ x, B[i]? = some x := ⟨_, List.getElem?_eq_getElem (by omega)⟩
      rw [List.getElem?_append_right (by omega), show A.length + (i + 1) - A.length = i + 1 by omega, List.getElem?_cons_succ, hx] at h3
      obtain ⟨b, hb⟩ : ∃ b, H[i]? = some b := ⟨_, List.getElem?_eq_getElem (by omega)⟩
      rw [rep_at, if_neg (by omega), show A.length + (i + 1) - A.length = i + 1 by omega, List.getElem?_cons_succ, hb] at h4
      have hb0 : b = false := h4
      subst hb0
      exact ⟨x, List.mem_append_right _ ((kpt_mem B H hl x).2 ⟨i, hx, hb⟩), h3⟩
  · rintro ⟨x, hx, h3⟩
    rcases List.mem_append.1 hx with h | h
    · obtain ⟨j, hj⟩ := List.getElem?_of_mem h
      have hj' := (List.getElem?_eq_some_iff.1 hj).1
      exact ⟨j, by simp; omega, ⟨by omega, by rw [rep_at, if_pos hj']; rfl⟩, by rw [List.getElem?_append_left hj', hj]; exact h3⟩
    · obtain ⟨i, hi, hb⟩ := (kpt_mem B H hl x).1 h
      have hi' := (List.getElem?_eq_some_iff.1 hi).1
      refine ⟨A.length + (i + 1), by simp; omega, ⟨by omega, ?_⟩, ?_⟩
      · rw [rep_at, if_neg (by omega), show A.length + (i + 1) - A.length = i + 1 by omega, List.getElem?_cons_succ, hb]; rfl
      · rw [List.getElem?_append_right (by omega), show A.length + (i + 1) - A.length = i + 1 by omega, List.getElem?_cons_succ, hi]
        exact h3
theorem lea_gR : ∀ (k : Nat) (A B : List ByteArray) (H : List Bool), A.length = k → B.length = H.length → lea k (A ++ kpt B H) = kpt (A ++ B) (gR (A ++ B) k (List.replicate k false ++ H))
  | 0, A, B, H, h, hl => by
    have : A = [] := List.eq_nil_of_length_eq_zero h
    subst this
    rfl
  | k + 1, A, B, H, h, hl => by
    obtain ⟨A', f, rfl⟩ : ∃ A' f, A = A' ++ [f] := ⟨A.dropLast, A.getLast (by intro e; rw [e] at h; simp at h), (List.dropLast_concat_getLast _).symm⟩
    have hk : A'.length = k := by simpa using h
    subst hk
    rw [List.append_assoc, List.append_assoc, List.singleton_append, List.singleton_append]
    have er : List.replicate (A'.length + 1) false ++ H = List.replicate A'.length false ++ false :: H := by
      rw [List.replicate_succ']; simp
    rw [er]
    unfold lea gR
    have hb : lies (A' ++ f :: kpt B H) A'.length = liesG (A' ++ f :: B) (List.replicate A'.length false ++ false :: H) A'.length := by
      apply Bool.eq_iff_iff.2
      rw [lies_mid, liesG_mid A' f B H hl]
    rw [hb]
    by_cases hq : liesG (A' ++ f :: B) (List.replicate A'.length false ++ false :: H) A'.length = true
    · rw [if_pos hq, if_pos hq]
      have e1 : (A' ++ f :: kpt B H).eraseIdx A'.length = A' ++ kpt (f :: B) (true :: H) := by
        rw [List.eraseIdx_append_of_length_le (Nat.le_refl _)]
        simp [kpt]
      have e2 : (List.replicate A'.length false ++ false :: H).set A'.length true = List.replicate A'.length false ++ true :: H := by
        rw [List.set_append_right _ _ (by simp)]
        simp
      rw [e1, e2]
      exact lea_gR A'.length A' (f :: B) (true :: H) rfl (by simp [hl])
    · rw [if_neg hq, if_neg hq]
      have e1 : A' ++ f :: kpt B H = A' ++ kpt (f :: B) (false :: H) := by simp [kpt]
      rw [e1]
      exact lea_gR A'.length A' (f :: B) (false :: H) rfl (by simp [hl])
/-- What the reference keeps is what the program keeps. -/
theorem lea_ref (l : List ByteArray) : lea l.length l = kpt l (gR l l.length (List.replicate l.length false)) := by
  have := lea_gR l.length l [] [] rfl rfl
  simpa [kpt] using this
end Go.Proofs.YtglnldopnoafoaaGreatDoor

