import Derived.Test.YtdanjbbemmngnaaDoorKw
namespace Go.Proofs.YtdanjbbemmngnaaDoor
open Go Go.RowKit
set_option linter.unusedSimpArgs false
set_option linter.unusedVariables false

def nm (k : Int) : ByteArray := if isK k then ⟨(form k.toNat).1.toArray⟩ else ⟨#[]⟩
theorem name_in (i : Nat) (h1 : 1 ≤ i) (h2 : i ≤ 14) (w : World) (hk : KindsAt w) : Calls Tryd.prog 8 #[.int .i64 i] w fun e w' => e = .returned (.string ⟨(form i).1.toArray⟩) ∧ w' = w := by
  have hc := (hk i (by omega)).1
  have HK : isK (i : Int) = true := by simp [isK]; omega
  have hi : (i : Int) < 15 := by omega
  go_enter Tryd.func8, Tryd.ntmps8
  go_wp2_with (go_at_call 18; refine (isKind_any _ _).mono ?_; rintro e w' ⟨rfl, rfl⟩; rw [HK])
  go_ret
  exact ⟨rfl, rfl⟩
theorem name_none (k : Int) (h : isK k = false) (w : World) : Calls Tryd.prog 8 #[.int .i64 k] w fun e w' => e = .returned (.string ⟨#[]⟩) ∧ w' = w := by
  go_enter Tryd.func8, Tryd.ntmps8
  go_wp2_with (go_at_call 18; refine (isKind_any _ _).mono ?_; rintro e w' ⟨rfl, rfl⟩; rw [h])
  go_ret
  exact ⟨rfl, rfl⟩
theorem name_any (k : Int) (w : World) (hk : KindsAt w) : Calls Tryd.prog 8 #[.int .i64 k] w fun e w' => e = .returned (.string (nm k)) ∧ w' = w := by
  cases h : isK k with
  | false => rw [show nm k = ⟨#[]⟩ by simp [nm, h]]; exact name_none k h w
  | true =>
    have h' := h
    simp only [isK, Bool.and_eq_true, decide_eq_true_eq] at h'
    obtain ⟨i, rfl⟩ : ∃ i : Nat, k = i := ⟨k.toNat, by omega⟩
    rw [show nm i = ⟨(form i).1.toArray⟩ by simp [nm, h]]
    exact name_in i (by omega) (by omega) w hk
theorem rname_low (k : Int) (h : k < 0) (w : World) : Calls Tryd.prog 9 #[.int .i64 k] w fun e w' => e = .returned (.string ⟨#[]⟩) ∧ Below w.heap.size w w' := by
  go_enter Tryd.func9, Tryd.ntmps9
  go_wp2
  go_ret
  exact ⟨rfl, (Below.refl _ _).alloc (Nat.le_refl _) _⟩
theorem rname_high (k : Int) (h0 : ¬ k < 0) (h : 14 < k) (w : World) : Calls Tryd.prog 9 #[.int .i64 k] w fun e w' => e = .returned (.string ⟨#[]⟩) ∧ Below w.heap.size w w' := by
  go_enter Tryd.func9, Tryd.ntmps9
  go_wp2
  go_ret
  exact ⟨rfl, (Below.refl _ _).alloc (Nat.le_refl _) _⟩
theorem rname_0 (w : World) : Calls Tryd.prog 9 #[.int .i64 0] w fun e w' => e = .returned (.string ⟨#[]⟩) ∧ Below w.heap.size w w' := by
  go_enter Tryd.func9, Tryd.ntmps9
  go_wp2
  go_ret
  exact ⟨rfl, (Below.refl _ _).alloc (Nat.le_refl _) _⟩
theorem rname_1 (w : World) : Calls Tryd.prog 9 #[.int .i64 1] w fun e w' => e = .returned (.string ⟨#[67, 111, 110, 110, 101, 99, 116]⟩) ∧ Below w.heap.size w w' := by
  go_enter Tryd.func9, Tryd.ntmps9
  go_wp2
  go_ret
  exact ⟨rfl, (Below.refl _ _).alloc (Nat.le_refl _) _⟩
theorem rname_2 (w : World) : Calls Tryd.prog 9 #[.int .i64 2] w fun e w' => e = .returned (.string ⟨#[67, 111, 110, 110, 97, 99, 107]⟩) ∧ Below w.heap.size w w' := by
  go_enter Tryd.func9, Tryd.ntmps9
  go_wp2
  go_ret
  exact ⟨rfl, (Below.refl _ _).alloc (Nat.le_refl _) _⟩
theorem rname_3 (w : World) : Calls Tryd.prog 9 #[.int .i64 3] w fun e w' => e = .returned (.string ⟨#[80, 117, 98, 108, 105, 115, 104]⟩) ∧ Below w.heap.size w w' := by
  go_enter Tryd.func9, Tryd.ntmps9
  go_wp2
  go_ret
  exact ⟨rfl, (Below.refl _ _).alloc (Nat.le_refl _) _⟩
theorem rname_4 (w : World) : Calls Tryd.prog 9 #[.int .i64 4] w fun e w' => e = .returned (.string ⟨#[80, 117, 98, 97, 99, 107]⟩) ∧ Below w.heap.size w w' := by
  go_enter Tryd.func9, Tryd.ntmps9
  go_wp2
  go_ret
  exact ⟨rfl, (Below.refl _ _).alloc (Nat.le_refl _) _⟩
theorem rname_5 (w : World) : Calls Tryd.prog 9 #[.int .i64 5] w fun e w' => e = .returned (.string ⟨#[80, 117, 98, 114, 101, 99]⟩) ∧ Below w.heap.size w w' := by
  go_enter Tryd.func9, Tryd.ntmps9
  go_wp2
  go_ret
  exact ⟨rfl, (Below.refl _ _).alloc (Nat.le_refl _) _⟩
theorem rname_6 (w : World) : Calls Tryd.prog 9 #[.int .i64 6] w fun e w' => e = .returned (.string ⟨#[80, 117, 98, 114, 101, 108]⟩) ∧ Below w.heap.size w w' := by
  go_enter Tryd.func9, Tryd.ntmps9
  go_wp2
  go_ret
  exact ⟨rfl, (Below.refl _ _).alloc (Nat.le_refl _) _⟩
theorem rname_7 (w : World) : Calls Tryd.prog 9 #[.int .i64 7] w fun e w' => e = .returned (.string ⟨#[80, 117, 98, 99, 111, 109, 112]⟩) ∧ Below w.heap.size w w' := by
  go_enter Tryd.func9, Tryd.ntmps9
  go_wp2
  go_ret
  exact ⟨rfl, (Below.refl _ _).alloc (Nat.le_refl _) _⟩
theorem rname_8 (w : World) : Calls Tryd.prog 9 #[.int .i64 8] w fun e w' => e = .returned (.string ⟨#[83, 117, 98, 115, 99, 114, 105, 98, 101]⟩) ∧ Below w.heap.size w w' := by
  go_enter Tryd.func9, Tryd.ntmps9
  go_wp2
  go_ret
  exact ⟨rfl, (Below.refl _ _).alloc (Nat.le_refl _) _⟩
theorem rname_9 (w : World) : Calls Tryd.prog 9 #[.int .i64 9] w fun e w' => e = .returned (.string ⟨#[83, 117, 98, 97, 99, 107]⟩) ∧ Below w.heap.size w w' := by
  go_enter Tryd.func9, Tryd.ntmps9
  go_wp2
  go_ret
  exact ⟨rfl, (Below.refl _ _).alloc (Nat.le_refl _) _⟩
theorem rname_10 (w : World) : Calls Tryd.prog 9 #[.int .i64 10] w fun e w' => e = .returned (.string ⟨#[85, 110, 115, 117, 98, 115, 99, 114, 105, 98, 101]⟩) ∧ Below w.heap.size w w' := by
  go_enter Tryd.func9, Tryd.ntmps9
  go_wp2
  go_ret
  exact ⟨rfl, (Below.refl _ _).alloc (Nat.le_refl _) _⟩
theorem rname_11 (w : World) : Calls Tryd.prog 9 #[.int .i64 11] w fun e w' => e = .returned (.string ⟨#[85, 110, 115, 117, 98, 97, 99, 107]⟩) ∧ Below w.heap.size w w' := by
  go_enter Tryd.func9, Tryd.ntmps9
  go_wp2
  go_ret
  exact ⟨rfl, (Below.refl _ _).alloc (Nat.le_refl _) _⟩
theorem rname_12 (w : World) : Calls Tryd.prog 9 #[.int .i64 12] w fun e w' => e = .returned (.string ⟨#[80, 105, 110, 103, 114, 101, 113]⟩) ∧ Below w.heap.size w w' := by
  go_enter Tryd.func9, Tryd.ntmps9
  go_wp2
  go_ret
  exact ⟨rfl, (Below.refl _ _).alloc (Nat.le_refl _) _⟩
theorem rname_13 (w : World) : Calls Tryd.prog 9 #[.int .i64 13] w fun e w' => e = .returned (.string ⟨#[80, 105, 110, 103, 114, 101, 115, 112]⟩) ∧ Below w.heap.size w w' := by
  go_enter Tryd.func9, Tryd.ntmps9
  go_wp2
  go_ret
  exact ⟨rfl, (Below.refl _ _).alloc (Nat.le_refl _) _⟩
theorem rname_14 (w : World) : Calls Tryd.prog 9 #[.int .i64 14] w fun e w' => e = .returned (.string ⟨#[68, 105, 115, 99, 111, 110, 110, 101, 99, 116]⟩) ∧ Below w.heap.size w w' := by
  go_enter Tryd.func9, Tryd.ntmps9
  go_wp2
  go_ret
  exact ⟨rfl, (Below.refl _ _).alloc (Nat.le_refl _) _⟩
theorem fifteen {k : Int} (h0 : ¬ k < 0) (h1 : ¬ 14 < k) : k = 0 ∨ k = 1 ∨ k = 2 ∨ k = 3 ∨ k = 4 ∨ k = 5 ∨ k = 6 ∨ k = 7 ∨ k = 8 ∨ k = 9 ∨ k = 10 ∨ k = 11 ∨ k = 12 ∨ k = 13 ∨ k = 14 := by omega
theorem rname_any (k : Int) (w : World) : Calls Tryd.prog 9 #[.int .i64 k] w fun e w' => e = .returned (.string (nm k)) ∧ Below w.heap.size w w' := by
  by_cases h0 : k < 0
  · rw [show nm k = ⟨#[]⟩ by simp [nm, isK]; omega]; exact rname_low k h0 w
  by_cases h1 : 14 < k
  · rw [show nm k = ⟨#[]⟩ by simp [nm, isK]; omega]; exact rname_high k h0 h1 w
  rcases fifteen h0 h1 with rfl | rfl | rfl | rfl | rfl | rfl | rfl | rfl | rfl | rfl | rfl | rfl | rfl | rfl | rfl
  · exact rname_0 w
  · exact rname_1 w
  · exact rname_2 w
  · exact rname_3 w
  · exact rname_4 w
  · exact rname_5 w
  · exact rname_6 w
  · exact rname_7 w
  · exact rname_8 w
  · exact rname_9 w
  · exact rname_10 w
  · exact rname_11 w
  · exact rname_12 w
  · exact rname_13 w
  · exact rname_14 w

theorem kinds_walk (k f : Int) (w : World) (hk : KindsAt w) : Calls Tryd.prog 3 #[.int .i64 k, .int .i64 f] w fun e w' => e = .returned (.bool true) ∧ Below w.heap.size w w' := by
  have HK : Hid (KindsAt w) := hk
  clear hk
  go_enter Tryd.func3, Tryd.ntmps3
  go_wp2_with fail
  go_must (go_at_call 6)
  refine (may_any k f w HK.out).mono ?_
  rintro e w1 ⟨rfl, he⟩
  obtain rfl := he.symm
  clear he
  go_wp2_with fail
  go_must (go_at_call 7)
  refine (rmay_any k f w).mono ?_
  rintro e w1 ⟨rfl, he⟩
  obtain rfl := he.symm
  clear he
  go_wp2_with fail
  go_must (go_at_call 8)
  refine (name_any k w HK.out).mono ?_
  rintro e w1 ⟨rfl, he⟩
  obtain rfl := he.symm
  clear he
  go_wp2_with fail
  go_must (go_at_call 9)
  refine (rname_any k w).mono ?_
  rintro e w1 ⟨rfl, hb⟩
  have HB : Hid (Below w.heap.size w w1) := hb
  clear hb
  go_wp2
  go_ret
  exact ⟨by first | rfl | simp, HB.out⟩
end Go.Proofs.YtdanjbbemmngnaaDoor
