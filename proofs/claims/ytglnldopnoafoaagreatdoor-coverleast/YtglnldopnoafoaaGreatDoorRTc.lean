import Derived.Test.YtglnldopnoafoaaGreatDoorRTb
namespace Go.Proofs.YtglnldopnoafoaaGreatDoor.Rm
open Go Go.RowKit
set_option linter.unusedSimpArgs false
set_option linter.unusedVariables false

set_option maxHeartbeats 400000 in
theorem holdBytes (R : Nat) (w : World) (h : w.cell? ⟨R, 0, none⟩ = some (.slice none 0 0)) :
    Calls Tryz.prog 41 #[.pointer (some ⟨R, 0, none⟩)] w fun e w' => e = .returned (.bool true) ∧ w' = w := by
  go_enter Tryz.func41, Tryz.ntmps41
  go_wp2
  go_loop [3] (fun i => i = .int .i64 0) (fun _ => 0)
  case atStart => rfl
  case round =>
    subst hrel
    go_wp2
    go_ret
    exact ⟨rfl, rfl⟩
set_option maxHeartbeats 400000 in
theorem holdInts (R : Nat) (w : World) (h : w.cell? ⟨R, 2, none⟩ = some (.slice none 0 0)) :
    Calls Tryz.prog 42 #[.pointer (some ⟨R, 0, none⟩)] w fun e w' => e = .returned (.bool true) ∧ w' = w := by
  go_enter Tryz.func42, Tryz.ntmps42
  go_wp2
  go_loop [3] (fun i => i = .int .i64 0) (fun _ => 0)
  case atStart => rfl
  case round =>
    subst hrel
    go_wp2
    go_ret
    exact ⟨rfl, rfl⟩
set_option maxHeartbeats 400000 in
theorem holdAsks (R : Nat) (w : World) (h : w.cell? ⟨R, 6, none⟩ = some (.slice none 0 0)) :
    Calls Tryz.prog 44 #[.pointer (some ⟨R, 0, none⟩)] w fun e w' => e = .returned (.bool true) ∧ w' = w := by
  go_enter Tryz.func44, Tryz.ntmps44
  go_wp2
  go_loop [3] (fun i => i = .int .i64 0) (fun _ => 0)
  case atStart => rfl
  case round =>
    subst hrel
    go_wp2
    go_ret
    exact ⟨rfl, rfl⟩
set_option maxHeartbeats 400000 in
theorem holdUsers (R : Nat) (w : World) (h : w.cell? ⟨R, 8, none⟩ = some (.slice none 0 0)) :
    Calls Tryz.prog 45 #[.pointer (some ⟨R, 0, none⟩)] w fun e w' => e = .returned (.bool true) ∧ w' = w := by
  go_enter Tryz.func45, Tryz.ntmps45
  go_wp2
  go_loop [3] (fun i => i = .int .i64 0) (fun _ => 0)
  case atStart => rfl
  case round =>
    subst hrel
    go_wp2
    go_ret
    exact ⟨rfl, rfl⟩
set_option maxHeartbeats 400000 in
theorem holdWhos (R : Nat) (w : World) (h : w.cell? ⟨R, 10, none⟩ = some (.slice none 0 0)) :
    Calls Tryz.prog 46 #[.pointer (some ⟨R, 0, none⟩)] w fun e w' => e = .returned (.bool true) ∧ w' = w := by
  go_enter Tryz.func46, Tryz.ntmps46
  go_wp2
  go_loop [3] (fun i => i = .int .i64 0) (fun _ => 0)
  case atStart => rfl
  case round =>
    subst hrel
    go_wp2
    go_ret
    exact ⟨rfl, rfl⟩
set_option maxHeartbeats 400000 in
theorem holdChunks (R : Nat) (w : World) (h : w.cell? ⟨R, 12, none⟩ = some (.slice none 0 0)) :
    Calls Tryz.prog 47 #[.pointer (some ⟨R, 0, none⟩)] w fun e w' => e = .returned (.bool true) ∧ w' = w := by
  go_enter Tryz.func47, Tryz.ntmps47
  go_wp2
  go_loop [3] (fun i => i = .int .i64 0) (fun _ => 0)
  case atStart => rfl
  case round =>
    subst hrel
    go_wp2
    go_ret
    exact ⟨rfl, rfl⟩
set_option maxHeartbeats 400000 in
theorem holdMessages (R : Nat) (w : World) (h : w.cell? ⟨R, 14, none⟩ = some (.slice none 0 0)) :
    Calls Tryz.prog 48 #[.pointer (some ⟨R, 0, none⟩)] w fun e w' => e = .returned (.bool true) ∧ w' = w := by
  go_enter Tryz.func48, Tryz.ntmps48
  go_wp2
  go_loop [3] (fun i => i = .int .i64 0) (fun _ => 0)
  case atStart => rfl
  case round =>
    subst hrel
    go_wp2
    go_ret
    exact ⟨rfl, rfl⟩
set_option maxHeartbeats 400000 in
theorem holdFlights (R : Nat) (w : World) (h : w.cell? ⟨R, 16, none⟩ = some (.slice none 0 0)) :
    Calls Tryz.prog 49 #[.pointer (some ⟨R, 0, none⟩)] w fun e w' => e = .returned (.bool true) ∧ w' = w := by
  go_enter Tryz.func49, Tryz.ntmps49
  go_wp2
  go_loop [3] (fun i => i = .int .i64 0) (fun _ => 0)
  case atStart => rfl
  case round =>
    subst hrel
    go_wp2
    go_ret
    exact ⟨rfl, rfl⟩
set_option maxHeartbeats 400000 in
theorem holdPackets (R : Nat) (w : World) (h : w.cell? ⟨R, 18, none⟩ = some (.slice none 0 0)) :
    Calls Tryz.prog 50 #[.pointer (some ⟨R, 0, none⟩)] w fun e w' => e = .returned (.bool true) ∧ w' = w := by
  go_enter Tryz.func50, Tryz.ntmps50
  go_wp2
  go_loop [3] (fun i => i = .int .i64 0) (fun _ => 0)
  case atStart => rfl
  case round =>
    subst hrel
    go_wp2
    go_ret
    exact ⟨rfl, rfl⟩
set_option maxHeartbeats 400000 in
theorem holdInputs (R : Nat) (w : World) (h : w.cell? ⟨R, 20, none⟩ = some (.slice none 0 0)) :
    Calls Tryz.prog 51 #[.pointer (some ⟨R, 0, none⟩)] w fun e w' => e = .returned (.bool true) ∧ w' = w := by
  go_enter Tryz.func51, Tryz.ntmps51
  go_wp2
  go_loop [3] (fun i => i = .int .i64 0) (fun _ => 0)
  case atStart => rfl
  case round =>
    subst hrel
    go_wp2
    go_ret
    exact ⟨rfl, rfl⟩
set_option maxHeartbeats 400000 in
theorem holdEvents (R : Nat) (w : World) (h : w.cell? ⟨R, 22, none⟩ = some (.slice none 0 0)) :
    Calls Tryz.prog 52 #[.pointer (some ⟨R, 0, none⟩)] w fun e w' => e = .returned (.bool true) ∧ w' = w := by
  go_enter Tryz.func52, Tryz.ntmps52
  go_wp2
  go_loop [3] (fun i => i = .int .i64 0) (fun _ => 0)
  case atStart => rfl
  case round =>
    subst hrel
    go_wp2
    go_ret
    exact ⟨rfl, rfl⟩
set_option maxHeartbeats 400000 in
theorem holdSessions (R : Nat) (w : World) (h : w.cell? ⟨R, 24, none⟩ = some (.slice none 0 0)) :
    Calls Tryz.prog 53 #[.pointer (some ⟨R, 0, none⟩)] w fun e w' => e = .returned (.bool true) ∧ w' = w := by
  go_enter Tryz.func53, Tryz.ntmps53
  go_wp2
  go_loop [3] (fun i => i = .int .i64 0) (fun _ => 0)
  case atStart => rfl
  case round =>
    subst hrel
    go_wp2
    go_ret
    exact ⟨rfl, rfl⟩
set_option maxHeartbeats 400000 in
theorem holdSteps (R : Nat) (w : World) (h : w.cell? ⟨R, 26, none⟩ = some (.slice none 0 0)) :
    Calls Tryz.prog 54 #[.pointer (some ⟨R, 0, none⟩)] w fun e w' => e = .returned (.bool true) ∧ w' = w := by
  go_enter Tryz.func54, Tryz.ntmps54
  go_wp2
  go_loop [3] (fun i => i = .int .i64 0) (fun _ => 0)
  case atStart => rfl
  case round =>
    subst hrel
    go_wp2
    go_ret
    exact ⟨rfl, rfl⟩
theorem hold_bytes (R m gb cb ga ca : Nat) (G N C : Nat → Nat) (w : World) (hm : m ≤ 1000) (hN : ∀ i, N i ≤ 140000 ∧ N i + 40 ≤ C i)
    (cR0 : w.cell? ⟨R, 4, none⟩ = some (.slice (some ⟨gb, 0, none⟩) m cb)) (cR1 : w.cell? ⟨R, 5, none⟩ = some (.slice (some ⟨ga, 0, none⟩) m ca))
    (hb : ∀ i, i < m → w.cell? ⟨gb, i, none⟩ = some (.slice (some ⟨G i, 0, none⟩) (N i + 40) (C i))) (ha : ∀ i, i < m → w.cell? ⟨ga, i, none⟩ = some (.int .i64 (N i)))
    (hk : ∀ i, i < m → ∀ k, k < 40 → w.cell? ⟨G i, N i + k, none⟩ = some (.string (mark k))) :
    Calls Tryz.prog 43 #[.pointer (some ⟨R, 0, none⟩)] w fun e w' => e = .returned (.bool true) ∧ w' = w := by
  have HB : Hid (∀ i, i < m → w.cell? ⟨gb, i, none⟩ = some (.slice (some ⟨G i, 0, none⟩) (N i + 40) (C i))) := hb
  have HA : Hid (∀ i, i < m → w.cell? ⟨ga, i, none⟩ = some (.int .i64 (N i))) := ha
  have HK : Hid (∀ i, i < m → ∀ k, k < 40 → w.cell? ⟨G i, N i + k, none⟩ = some (.string (mark k))) := hk
  have HN : Hid (∀ i, N i ≤ 140000 ∧ N i + 40 ≤ C i) := hN
  clear hb ha hk hN
  go_enter Tryz.func43, Tryz.ntmps43
  go_wp2
  go_loop [3, 4, 5, 6] (fun i _ _ _ => ∃ j : Nat, j ≤ m ∧ i = .int .i64 j) (fun i _ _ _ => m - (intOf i).toNat)
  case atStart => exact ⟨0, by omega, rfl⟩
  case round =>
    obtain ⟨j, hj, rfl⟩ := hrel
    by_cases hlt : j < m
    · have b1 := HB.out j hlt
      have a1 := HA.out j hlt
      have k1 := HK.out j hlt
      have n1 := HN.out j
      obtain ⟨Gj, hG⟩ : ∃ x, G j = x := ⟨_, rfl⟩
      obtain ⟨Nj, hNj⟩ : ∃ x, N j = x := ⟨_, rfl⟩
      obtain ⟨Cj, hC⟩ : ∃ x, C j = x := ⟨_, rfl⟩
      rw [hG, hNj, hC] at b1
      rw [hNj] at a1
      rw [hG, hNj] at k1
      rw [hNj, hC] at n1
      clear hG hNj hC
      have K1 : Hid (∀ k, k < 40 → w.cell? ⟨Gj, Nj + k, none⟩ = some (.string (mark k))) := k1
      clear k1
      go_wp2
      go_loop [5, 6] (fun x _ => ∃ k : Nat, k ≤ 40 ∧ x = .int .i64 ((Nj + k : Nat) : Int)) (fun x _ => Nj + 40 - (intOf x).toNat)
      case atStart => exact ⟨0, by omega, rfl⟩
      case round =>
        obtain ⟨k, hk, rfl⟩ := hrel
        by_cases hkl : k < 40
        · have ck := K1.out k hkl
          by_cases hp : k % 2 = 0
          · have em : mark k = ⟨#[60, 111, 110, 101, 62]⟩ := by simp [mark, hp]
            rw [em] at ck
            have HL : Hid (∀ w, Calls Tryz.prog 56 #[.int .i64 k] w fun e w' => e = .returned (.string ⟨#[60, 111, 110, 101, 62]⟩) ∧ w' = w) := fun w => by have h := lot_any k (by omega) w; rw [if_pos hp] at h; exact h
            clear hp em
            have es : (Nj : Int) + (k : Int) - (Nj : Int) = (k : Int) := by omega
            go_wp2_with (go_at_call 56; refine (HL.out _).mono ?_; rintro e w' ⟨rfl, rfl⟩)
            go_round
            case rel => exact ⟨k + 1, by omega, by go_num⟩
            case measure => simp [intOf]; omega
          · have em : mark k = ⟨#[60, 116, 119, 111, 62]⟩ := by simp [mark, hp]
            rw [em] at ck
            have HL : Hid (∀ w, Calls Tryz.prog 56 #[.int .i64 k] w fun e w' => e = .returned (.string ⟨#[60, 116, 119, 111, 62]⟩) ∧ w' = w) := fun w => by have h := lot_any k (by omega) w; rw [if_neg hp] at h; exact h
            clear hp em
            have es : (Nj : Int) + (k : Int) - (Nj : Int) = (k : Int) := by omega
            go_wp2_with (go_at_call 56; refine (HL.out _).mono ?_; rintro e w' ⟨rfl, rfl⟩)
            go_round
            case rel => exact ⟨k + 1, by omega, by go_num⟩
            case measure => simp [intOf]; omega
        · obtain rfl : k = 40 := by omega
          go_wp2
          go_round
          case rel => exact ⟨j + 1, by omega, by go_num⟩
          case measure => simp [intOf]; omega
    · obtain rfl : j = m := by omega
      go_wp2
      go_ret
      exact ⟨rfl, rfl⟩
end Go.Proofs.YtglnldopnoafoaaGreatDoor.Rm
