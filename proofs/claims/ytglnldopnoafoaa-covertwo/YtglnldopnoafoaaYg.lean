import Derived.Test.YtglnldopnoafoaaYf
import Derived.Lib.MinMax
namespace Go.Proofs.Ytglnldopnoafoaa
open Go Go.RowKit
set_option linter.unusedSimpArgs false
set_option linter.unusedVariables false

theorem tot_app : ∀ (a b : List Bs), tot (a ++ b) = tot a + tot b
  | [], b => by simp [tot]
  | x :: a, b => by simp only [List.cons_append, tot, tot_app a b]; omega
theorem tot_rep : ∀ n, tot (List.replicate n []) = n
  | 0 => rfl
  | n + 1 => by simp only [List.replicate_succ, tot, tot_rep n, List.length_nil]; omega
theorem tot_fz : ∀ l : List Bs, tot (l.map fz) ≤ tot l
  | [] => by simp
  | a :: r => by
    have h1 := tot_fz r
    have h2 := fz_len a
    simp only [List.map_cons, tot]; omega
theorem tot_fill (l : List Bs) (m : Nat) : tot (fillR l m) ≤ tot l + m := by
  unfold fillR
  rw [tot_app, tot_rep]
  have := tot_fz l
  omega
theorem tot_alive (l : List Bs) (b : Bool) : tot (aliveR l b) ≤ tot l + 2 := by
  unfold aliveR
  split
  · cases b <;> simp [tot]
  · omega
theorem tot_set : ∀ (l : List Bs) (i : Nat), tot (l.set i [97]) ≤ tot l + 1
  | [], i => by simp [tot]
  | a :: r, 0 => by simp only [List.set_cons_zero, tot, List.length_cons, List.length_nil]; omega
  | a :: r, i + 1 => by
    have := tot_set r i
    simp only [List.set_cons_succ, tot]; omega
theorem op_tot {f : ByteArray} {x : List Bs} {o : Bool} (hf : rfc f = 0) (h : Op f x o) : tot x ≤ 65536 ∧ x.length ≤ 65536 := by
  have h1 := join_len (split (unB f)) (split_ne _)
  rw [join_split, un_size] at h1
  have h2 := (rfc_zero hf).1
  rw [h.sp, tot_app] at h1
  have h3 := len_tot x
  exact ⟨by omega, by omega⟩
theorem at_tail (x : List Bs) (k : Nat) : x.tail[k]? = x[k + 1]? := by
  cases x <;> simp
theorem tot_cat : ∀ (l x y : List Bs), l.length ≤ max x.length y.length → (∀ k, k < l.length → cAt x y k = l[k]?) → tot l ≤ tot x + tot y
  | [], x, y, _, _ => by simp [tot]
  | c :: r, x, y, hl, hc => by
    have h0 := hc 0 (by simp)
    have ih := tot_cat r x.tail y.tail (by simp at hl ⊢; omega) (fun k hk => by
      have := hc (k + 1) (by simp; omega)
      unfold cAt at this ⊢
      rw [at_tail, at_tail, this]
      simp)
    simp only [List.getElem?_cons_zero] at h0
    unfold cAt at h0
    cases x with
    | nil =>
      cases y with
      | nil => simp at hl
      | cons b y =>
        simp [bothR] at h0
        subst h0
        simp only [tot, List.tail] at ih ⊢
        omega
    | cons a x =>
      cases y with
      | nil =>
        have h1 : c = a := by
          simp [bothR] at h0
          split at h0
          · rename_i e; simp only [Option.some.injEq] at h0; rw [← h0, e]
          · simp only [Option.some.injEq] at h0; exact h0.symm
        subst h1
        simp only [tot, List.tail] at ih ⊢
        omega
      | cons b y =>
        have h1 : c = a ∨ c = b := by
          simp [bothR] at h0
          split at h0
          · simp only [Option.some.injEq] at h0; exact .inr h0.symm
          · split at h0
            · simp only [Option.some.injEq] at h0; exact .inl h0.symm
            · cases h0
        simp only [tot, List.tail] at ih ⊢
        rcases h1 with rfl | rfl <;> omega
theorem com_yes {c : List Bs} {f g : ByteArray} (h : comB c f g = true) : (meetP f g).isSome = true := by
  unfold comB at h
  rw [Bool.and_eq_true, Bool.and_eq_true] at h
  exact (meet_iff f g).2 ⟨_, h.1.2, h.2⟩
/-- What the reference says of two filters is what the program's says. -/
theorem meet_no {f g : ByteArray} (h : ¬ ∃ T, mch f T = true ∧ mch g T = true) : (meetP f g).isSome = false := by
  apply Bool.eq_false_iff.2
  intro h1
  exact h ((meet_iff f g).1 h1)
theorem meet_ref {f g : ByteArray} {x y : List Bs} {ox oy : Bool} (hf : Op f x ox) (hg : Op g y oy) (l : List Bs) (hl : l.length = max x.length y.length) (hc : ∀ k, k < l.length → cAt x y k = l[k]?) : (meetP f g).isSome = (comB (aliveR (fillR l 1) false) f g || (ox && oy && comB (fillR l 2) f g)) := by
  apply Bool.eq_iff_iff.2
  rw [Bool.or_eq_true, Bool.and_eq_true, Bool.and_eq_true]
  constructor
  · intro h
    obtain ⟨T, h1, h2⟩ := (meet_iff f g).1 h
    rcases ref_cand hf hg h1 h2 l hl hc with h | ⟨h3, h4, h5⟩
    · exact .inl h
    · exact .inr ⟨⟨h3, h4⟩, h5⟩
  · rintro (h | ⟨_, h⟩) <;> exact com_yes h
end Go.Proofs.Ytglnldopnoafoaa
