import Derived.Test.YtcoccggimbficaaDoorPt
import Derived.WalkLawsBesides
namespace Go.Proofs.YtcoccggimbficaaDoor
open Go Go.RowKit
set_option linter.unusedSimpArgs false
set_option linter.unusedVariables false

theorem isKind_any (k : Int) (w : World) : Calls Tryd.prog 18 #[.int .i64 k] w fun e w' => e = .returned (.bool (isK k)) ∧ w' = w := by
  by_cases h1 : 1 ≤ k
  · by_cases h2 : k ≤ 14
    · have e : isK k = true := by simp [isK, h1, h2]
      rw [e]; clear e
      go_enter Tryd.func18, Tryd.ntmps18
      go_wp2
      go_ret
      exact ⟨rfl, rfl⟩
    · have e : isK k = false := by simp [isK, h1, h2]
      rw [e]; clear e
      go_enter Tryd.func18, Tryd.ntmps18
      go_wp2
      go_ret
      exact ⟨rfl, rfl⟩
  · have e : isK k = false := by simp [isK, h1]
    rw [e]; clear e
    go_enter Tryd.func18, Tryd.ntmps18
    go_wp2
    go_ret
    exact ⟨rfl, rfl⟩

def mayP (f : Int) : Bool := decide (f = 0 ∨ f = 1 ∨ f = 2 ∨ f = 3 ∨ f = 4 ∨ f = 5 ∨ f = 10 ∨ f = 11 ∨ f = 12 ∨ f = 13)
def may (k f : Int) : Bool := isK k && (if k = 3 then mayP f else f == (form k.toNat).2.1)

theorem may_other (i : Nat) (f : Int) (h1 : 1 ≤ i) (h2 : i ≤ 14) (h3 : ¬ i = 3) (w : World) (hk : KindsAt w) : Calls Tryd.prog 6 #[.int .i64 i, .int .i64 f] w fun e w' => e = .returned (.bool (f == (form i).2.1)) ∧ w' = w := by
  have hc := (hk i (by omega)).2.1
  have HK : isK (i : Int) = true := by simp [isK]; omega
  have h3' : ¬ (i : Int) = 3 := by omega
  have hi : (i : Int) < 15 := by omega
  go_enter Tryd.func6, Tryd.ntmps6
  go_wp2_with (go_at_call 18; refine (isKind_any _ _).mono ?_; rintro e w' ⟨rfl, rfl⟩; rw [HK])
  go_ret
  exact ⟨rfl, rfl⟩
theorem may_none (k f : Int) (h : isK k = false) (w : World) : Calls Tryd.prog 6 #[.int .i64 k, .int .i64 f] w fun e w' => e = .returned (.bool false) ∧ w' = w := by
  go_enter Tryd.func6, Tryd.ntmps6
  go_wp2_with (go_at_call 18; refine (isKind_any _ _).mono ?_; rintro e w' ⟨rfl, rfl⟩; rw [h])
  go_ret
  exact ⟨rfl, rfl⟩
theorem may_low (f : Int) (h : f < 0) (w : World) : Calls Tryd.prog 6 #[.int .i64 3, .int .i64 f] w fun e w' => e = .returned (.bool false) ∧ w' = w := by
  have HK : isK 3 = true := rfl
  go_enter Tryd.func6, Tryd.ntmps6
  go_wp2_with (go_at_call 18; refine (isKind_any _ _).mono ?_; rintro e w' ⟨rfl, rfl⟩; rw [HK])
  go_ret
  exact ⟨rfl, rfl⟩
theorem may_high (f : Int) (h0 : ¬ f < 0) (h : 15 < f) (w : World) : Calls Tryd.prog 6 #[.int .i64 3, .int .i64 f] w fun e w' => e = .returned (.bool false) ∧ w' = w := by
  have HK : isK 3 = true := rfl
  go_enter Tryd.func6, Tryd.ntmps6
  go_wp2_with (go_at_call 18; refine (isKind_any _ _).mono ?_; rintro e w' ⟨rfl, rfl⟩; rw [HK])
  go_ret
  exact ⟨rfl, rfl⟩
theorem may_is0 (w : World) : Calls Tryd.prog 6 #[.int .i64 3, .int .i64 0] w fun e w' => e = .returned (.bool true) ∧ w' = w := by
  have HK : isK 3 = true := rfl
  have b8 : bits .and .i64 0 8 = 0 := by kernel_rfl
  have b6 : bits .and .i64 0 6 = 0 := by kernel_rfl
  go_enter Tryd.func6, Tryd.ntmps6
  go_wp2_with (go_at_call 18; refine (isKind_any _ _).mono ?_; rintro e w' ⟨rfl, rfl⟩; rw [HK])
  go_ret
  exact ⟨rfl, rfl⟩
theorem may_is1 (w : World) : Calls Tryd.prog 6 #[.int .i64 3, .int .i64 1] w fun e w' => e = .returned (.bool true) ∧ w' = w := by
  have HK : isK 3 = true := rfl
  have b8 : bits .and .i64 1 8 = 0 := by kernel_rfl
  have b6 : bits .and .i64 1 6 = 0 := by kernel_rfl
  go_enter Tryd.func6, Tryd.ntmps6
  go_wp2_with (go_at_call 18; refine (isKind_any _ _).mono ?_; rintro e w' ⟨rfl, rfl⟩; rw [HK])
  go_ret
  exact ⟨rfl, rfl⟩
theorem may_is2 (w : World) : Calls Tryd.prog 6 #[.int .i64 3, .int .i64 2] w fun e w' => e = .returned (.bool true) ∧ w' = w := by
  have HK : isK 3 = true := rfl
  have b8 : bits .and .i64 2 8 = 0 := by kernel_rfl
  have b6 : bits .and .i64 2 6 = 2 := by kernel_rfl
  go_enter Tryd.func6, Tryd.ntmps6
  go_wp2_with (go_at_call 18; refine (isKind_any _ _).mono ?_; rintro e w' ⟨rfl, rfl⟩; rw [HK])
  go_ret
  exact ⟨rfl, rfl⟩
theorem may_is3 (w : World) : Calls Tryd.prog 6 #[.int .i64 3, .int .i64 3] w fun e w' => e = .returned (.bool true) ∧ w' = w := by
  have HK : isK 3 = true := rfl
  have b8 : bits .and .i64 3 8 = 0 := by kernel_rfl
  have b6 : bits .and .i64 3 6 = 2 := by kernel_rfl
  go_enter Tryd.func6, Tryd.ntmps6
  go_wp2_with (go_at_call 18; refine (isKind_any _ _).mono ?_; rintro e w' ⟨rfl, rfl⟩; rw [HK])
  go_ret
  exact ⟨rfl, rfl⟩
theorem may_is4 (w : World) : Calls Tryd.prog 6 #[.int .i64 3, .int .i64 4] w fun e w' => e = .returned (.bool true) ∧ w' = w := by
  have HK : isK 3 = true := rfl
  have b8 : bits .and .i64 4 8 = 0 := by kernel_rfl
  have b6 : bits .and .i64 4 6 = 4 := by kernel_rfl
  go_enter Tryd.func6, Tryd.ntmps6
  go_wp2_with (go_at_call 18; refine (isKind_any _ _).mono ?_; rintro e w' ⟨rfl, rfl⟩; rw [HK])
  go_ret
  exact ⟨rfl, rfl⟩
theorem may_is5 (w : World) : Calls Tryd.prog 6 #[.int .i64 3, .int .i64 5] w fun e w' => e = .returned (.bool true) ∧ w' = w := by
  have HK : isK 3 = true := rfl
  have b8 : bits .and .i64 5 8 = 0 := by kernel_rfl
  have b6 : bits .and .i64 5 6 = 4 := by kernel_rfl
  go_enter Tryd.func6, Tryd.ntmps6
  go_wp2_with (go_at_call 18; refine (isKind_any _ _).mono ?_; rintro e w' ⟨rfl, rfl⟩; rw [HK])
  go_ret
  exact ⟨rfl, rfl⟩
theorem may_is6 (w : World) : Calls Tryd.prog 6 #[.int .i64 3, .int .i64 6] w fun e w' => e = .returned (.bool false) ∧ w' = w := by
  have HK : isK 3 = true := rfl
  have b8 : bits .and .i64 6 8 = 0 := by kernel_rfl
  have b6 : bits .and .i64 6 6 = 6 := by kernel_rfl
  go_enter Tryd.func6, Tryd.ntmps6
  go_wp2_with (go_at_call 18; refine (isKind_any _ _).mono ?_; rintro e w' ⟨rfl, rfl⟩; rw [HK])
  go_ret
  exact ⟨rfl, rfl⟩
theorem may_is7 (w : World) : Calls Tryd.prog 6 #[.int .i64 3, .int .i64 7] w fun e w' => e = .returned (.bool false) ∧ w' = w := by
  have HK : isK 3 = true := rfl
  have b8 : bits .and .i64 7 8 = 0 := by kernel_rfl
  have b6 : bits .and .i64 7 6 = 6 := by kernel_rfl
  go_enter Tryd.func6, Tryd.ntmps6
  go_wp2_with (go_at_call 18; refine (isKind_any _ _).mono ?_; rintro e w' ⟨rfl, rfl⟩; rw [HK])
  go_ret
  exact ⟨rfl, rfl⟩
theorem may_is8 (w : World) : Calls Tryd.prog 6 #[.int .i64 3, .int .i64 8] w fun e w' => e = .returned (.bool false) ∧ w' = w := by
  have HK : isK 3 = true := rfl
  have b8 : bits .and .i64 8 8 = 8 := by kernel_rfl
  have b6 : bits .and .i64 8 6 = 0 := by kernel_rfl
  go_enter Tryd.func6, Tryd.ntmps6
  go_wp2_with (go_at_call 18; refine (isKind_any _ _).mono ?_; rintro e w' ⟨rfl, rfl⟩; rw [HK])
  go_ret
  exact ⟨rfl, rfl⟩
theorem may_is9 (w : World) : Calls Tryd.prog 6 #[.int .i64 3, .int .i64 9] w fun e w' => e = .returned (.bool false) ∧ w' = w := by
  have HK : isK 3 = true := rfl
  have b8 : bits .and .i64 9 8 = 8 := by kernel_rfl
  have b6 : bits .and .i64 9 6 = 0 := by kernel_rfl
  go_enter Tryd.func6, Tryd.ntmps6
  go_wp2_with (go_at_call 18; refine (isKind_any _ _).mono ?_; rintro e w' ⟨rfl, rfl⟩; rw [HK])
  go_ret
  exact ⟨rfl, rfl⟩
theorem may_is10 (w : World) : Calls Tryd.prog 6 #[.int .i64 3, .int .i64 10] w fun e w' => e = .returned (.bool true) ∧ w' = w := by
  have HK : isK 3 = true := rfl
  have b8 : bits .and .i64 10 8 = 8 := by kernel_rfl
  have b6 : bits .and .i64 10 6 = 2 := by kernel_rfl
  go_enter Tryd.func6, Tryd.ntmps6
  go_wp2_with (go_at_call 18; refine (isKind_any _ _).mono ?_; rintro e w' ⟨rfl, rfl⟩; rw [HK])
  go_ret
  exact ⟨rfl, rfl⟩
theorem may_is11 (w : World) : Calls Tryd.prog 6 #[.int .i64 3, .int .i64 11] w fun e w' => e = .returned (.bool true) ∧ w' = w := by
  have HK : isK 3 = true := rfl
  have b8 : bits .and .i64 11 8 = 8 := by kernel_rfl
  have b6 : bits .and .i64 11 6 = 2 := by kernel_rfl
  go_enter Tryd.func6, Tryd.ntmps6
  go_wp2_with (go_at_call 18; refine (isKind_any _ _).mono ?_; rintro e w' ⟨rfl, rfl⟩; rw [HK])
  go_ret
  exact ⟨rfl, rfl⟩
theorem may_is12 (w : World) : Calls Tryd.prog 6 #[.int .i64 3, .int .i64 12] w fun e w' => e = .returned (.bool true) ∧ w' = w := by
  have HK : isK 3 = true := rfl
  have b8 : bits .and .i64 12 8 = 8 := by kernel_rfl
  have b6 : bits .and .i64 12 6 = 4 := by kernel_rfl
  go_enter Tryd.func6, Tryd.ntmps6
  go_wp2_with (go_at_call 18; refine (isKind_any _ _).mono ?_; rintro e w' ⟨rfl, rfl⟩; rw [HK])
  go_ret
  exact ⟨rfl, rfl⟩
theorem may_is13 (w : World) : Calls Tryd.prog 6 #[.int .i64 3, .int .i64 13] w fun e w' => e = .returned (.bool true) ∧ w' = w := by
  have HK : isK 3 = true := rfl
  have b8 : bits .and .i64 13 8 = 8 := by kernel_rfl
  have b6 : bits .and .i64 13 6 = 4 := by kernel_rfl
  go_enter Tryd.func6, Tryd.ntmps6
  go_wp2_with (go_at_call 18; refine (isKind_any _ _).mono ?_; rintro e w' ⟨rfl, rfl⟩; rw [HK])
  go_ret
  exact ⟨rfl, rfl⟩
theorem may_is14 (w : World) : Calls Tryd.prog 6 #[.int .i64 3, .int .i64 14] w fun e w' => e = .returned (.bool false) ∧ w' = w := by
  have HK : isK 3 = true := rfl
  have b8 : bits .and .i64 14 8 = 8 := by kernel_rfl
  have b6 : bits .and .i64 14 6 = 6 := by kernel_rfl
  go_enter Tryd.func6, Tryd.ntmps6
  go_wp2_with (go_at_call 18; refine (isKind_any _ _).mono ?_; rintro e w' ⟨rfl, rfl⟩; rw [HK])
  go_ret
  exact ⟨rfl, rfl⟩
theorem may_is15 (w : World) : Calls Tryd.prog 6 #[.int .i64 3, .int .i64 15] w fun e w' => e = .returned (.bool false) ∧ w' = w := by
  have HK : isK 3 = true := rfl
  have b8 : bits .and .i64 15 8 = 8 := by kernel_rfl
  have b6 : bits .and .i64 15 6 = 6 := by kernel_rfl
  go_enter Tryd.func6, Tryd.ntmps6
  go_wp2_with (go_at_call 18; refine (isKind_any _ _).mono ?_; rintro e w' ⟨rfl, rfl⟩; rw [HK])
  go_ret
  exact ⟨rfl, rfl⟩
theorem sixteen {f : Int} (h0 : ¬ f < 0) (h1 : ¬ 15 < f) : f = 0 ∨ f = 1 ∨ f = 2 ∨ f = 3 ∨ f = 4 ∨ f = 5 ∨ f = 6 ∨ f = 7 ∨ f = 8 ∨ f = 9 ∨ f = 10 ∨ f = 11 ∨ f = 12 ∨ f = 13 ∨ f = 14 ∨ f = 15 := by omega
theorem may_three (f : Int) (w : World) : Calls Tryd.prog 6 #[.int .i64 3, .int .i64 f] w fun e w' => e = .returned (.bool (mayP f)) ∧ w' = w := by
  by_cases h0 : f < 0
  · have e : mayP f = false := by simp [mayP]; omega
    rw [e]; exact may_low f h0 w
  by_cases h1 : 15 < f
  · have e : mayP f = false := by simp [mayP]; omega
    rw [e]; exact may_high f h0 h1 w
  rcases sixteen h0 h1 with rfl | rfl | rfl | rfl | rfl | rfl | rfl | rfl | rfl | rfl | rfl | rfl | rfl | rfl | rfl | rfl
  · exact may_is0 w
  · exact may_is1 w
  · exact may_is2 w
  · exact may_is3 w
  · exact may_is4 w
  · exact may_is5 w
  · exact may_is6 w
  · exact may_is7 w
  · exact may_is8 w
  · exact may_is9 w
  · exact may_is10 w
  · exact may_is11 w
  · exact may_is12 w
  · exact may_is13 w
  · exact may_is14 w
  · exact may_is15 w

theorem may_any (k f : Int) (w : World) (hk : KindsAt w) : Calls Tryd.prog 6 #[.int .i64 k, .int .i64 f] w fun e w' => e = .returned (.bool (may k f)) ∧ w' = w := by
  cases h : isK k with
  | false => rw [show may k f = false by simp [may, h]]; exact may_none k f h w
  | true =>
    simp only [isK, Bool.and_eq_true, decide_eq_true_eq] at h
    by_cases h3 : k = 3
    · subst h3
      rw [show may 3 f = mayP f by simp [may, isK]]
      exact may_three f w
    · obtain ⟨i, rfl⟩ : ∃ i : Nat, k = i := ⟨k.toNat, by omega⟩
      rw [show may i f = (f == (form i).2.1) by simp [may, isK, h3, h.1, h.2]]
      exact may_other i f (by omega) (by omega) (by omega) w hk

end Go.Proofs.YtcoccggimbficaaDoor
