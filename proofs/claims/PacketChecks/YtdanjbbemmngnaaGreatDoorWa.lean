import Derived.Test.YtdanjbbemmngnaaGreatDoorKt
import Derived.Test.YtdanjbbemmngnaaGreatDoorChk
import Derived.Test.YtdanjbbemmngnaaGreatDoorKw
import Derived.Deep.QuietTactic
import Derived.BigQuiet
namespace Go.Proofs.YtdanjbbemmngnaaGreatDoor
open Go Go.RowKit
set_option linter.unusedSimpArgs false
set_option linter.unusedVariables false

theorem mark_any (b : Bool) (n : Nat) (w : World) : Calls Tryz.prog 102 #[.bool b, .int .i64 n] w fun e w' => e = .returned (.int .i64 ((mk b n : Nat) : Int)) ∧ w' = w := by
  cases b with
  | true =>
    go_enter Tryz.func102, Tryz.ntmps102
    go_wp2
    go_ret
    exact ⟨rfl, rfl⟩
  | false =>
    go_enter Tryz.func102, Tryz.ntmps102
    go_wp2
    go_ret
    exact ⟨rfl, rfl⟩

theorem isQuality_any (q : Int) (w : World) : Calls Tryz.prog 104 #[.int .i64 q] w fun e w' => e = .returned (.bool (isQ q)) ∧ w' = w := by
  by_cases h1 : 0 ≤ q
  · by_cases h2 : q ≤ 2
    · have e : isQ q = true := by simp [isQ, h1, h2]
      rw [e]; clear e
      go_enter Tryz.func104, Tryz.ntmps104
      go_wp2
      go_ret
      exact ⟨rfl, rfl⟩
    · have e : isQ q = false := by simp [isQ, h1, h2]
      rw [e]; clear e
      go_enter Tryz.func104, Tryz.ntmps104
      go_wp2
      go_ret
      exact ⟨rfl, rfl⟩
  · have e : isQ q = false := by simp [isQ, h1]
    rw [e]; clear e
    go_enter Tryz.func104, Tryz.ntmps104
    go_wp2
    go_ret
    exact ⟨rfl, rfl⟩

def txt (s : ByteArray) : Bool := ((chk s).2 : Int) == 0
theorem isText_any (s : ByteArray) (w : World) : Calls Tryz.prog 89 #[.string s] w fun e w' => e = .returned (.bool (txt s)) ∧ Below w.heap.size w w' := by
  go_enter Tryz.func89, Tryz.ntmps89
  go_wp2_with fail
  go_must (go_at_call 136)
  refine (chk_any s w).mono ?_
  rintro e w1 ⟨rfl, hb, _⟩
  have HB : Hid (Below w.heap.size w w1) := hb
  clear hb
  go_wp2
  go_ret
  exact ⟨rfl, HB.out⟩

set_option maxHeartbeats 400000 in
theorem bounded_any (p : Pk) (w : World) : Calls Tryz.prog 88 #[p.v] w fun e w' => e = .returned (.bool (bnd p)) ∧ Below w.heap.size w w' := by
  obtain ⟨kind, level, clean, keep, client, hasWill, wT, wP, wQ, wR, hasUser, user, hasPass, pass, present, code, dup, mT, mP, mQ, mR, id, asks, codes, filters⟩ := p
  simp only [Pk.v, bnd]
  by_cases h1 : 0 ≤ level
  case neg =>
    have e : (decide (0 ≤ level) && decide (level ≤ 255) && decide (0 ≤ code) && decide (code ≤ 255) && decide (0 ≤ keep) && decide (keep ≤ 65535)) = false := by simp [h1]
    rw [e]; clear e
    go_enter Tryz.func88, Tryz.ntmps88
    go_wp2
    go_ret
    exact ⟨rfl, (Below.refl _ _).alloc (Nat.le_refl _) _⟩
  by_cases h2 : level ≤ 255
  case neg =>
    have e : (decide (0 ≤ level) && decide (level ≤ 255) && decide (0 ≤ code) && decide (code ≤ 255) && decide (0 ≤ keep) && decide (keep ≤ 65535)) = false := by simp [h1, h2]
    rw [e]; clear e
    go_enter Tryz.func88, Tryz.ntmps88
    go_wp2
    go_ret
    exact ⟨rfl, (Below.refl _ _).alloc (Nat.le_refl _) _⟩
  by_cases h3 : 0 ≤ code
  case neg =>
    have e : (decide (0 ≤ level) && decide (level ≤ 255) && decide (0 ≤ code) && decide (code ≤ 255) && decide (0 ≤ keep) && decide (keep ≤ 65535)) = false := by simp [h1, h2, h3]
    rw [e]; clear e
    go_enter Tryz.func88, Tryz.ntmps88
    go_wp2
    go_ret
    exact ⟨rfl, (Below.refl _ _).alloc (Nat.le_refl _) _⟩
  by_cases h4 : code ≤ 255
  case neg =>
    have e : (decide (0 ≤ level) && decide (level ≤ 255) && decide (0 ≤ code) && decide (code ≤ 255) && decide (0 ≤ keep) && decide (keep ≤ 65535)) = false := by simp [h1, h2, h3, h4]
    rw [e]; clear e
    go_enter Tryz.func88, Tryz.ntmps88
    go_wp2
    go_ret
    exact ⟨rfl, (Below.refl _ _).alloc (Nat.le_refl _) _⟩
  by_cases h5 : 0 ≤ keep
  case neg =>
    have e : (decide (0 ≤ level) && decide (level ≤ 255) && decide (0 ≤ code) && decide (code ≤ 255) && decide (0 ≤ keep) && decide (keep ≤ 65535)) = false := by simp [h1, h2, h3, h4, h5]
    rw [e]; clear e
    go_enter Tryz.func88, Tryz.ntmps88
    go_wp2
    go_ret
    exact ⟨rfl, (Below.refl _ _).alloc (Nat.le_refl _) _⟩
  by_cases h6 : keep ≤ 65535
  case neg =>
    have e : (decide (0 ≤ level) && decide (level ≤ 255) && decide (0 ≤ code) && decide (code ≤ 255) && decide (0 ≤ keep) && decide (keep ≤ 65535)) = false := by simp [h1, h2, h3, h4, h5, h6]
    rw [e]; clear e
    go_enter Tryz.func88, Tryz.ntmps88
    go_wp2
    go_ret
    exact ⟨rfl, (Below.refl _ _).alloc (Nat.le_refl _) _⟩
  have e : (decide (0 ≤ level) && decide (level ≤ 255) && decide (0 ≤ code) && decide (code ≤ 255) && decide (0 ≤ keep) && decide (keep ≤ 65535)) = true := by simp [h1, h2, h3, h4, h5, h6]
  rw [e]; clear e
  go_enter Tryz.func88, Tryz.ntmps88
  go_wp2
  go_ret
  exact ⟨rfl, (Below.refl _ _).alloc (Nat.le_refl _) _⟩
end Go.Proofs.YtdanjbbemmngnaaGreatDoor
