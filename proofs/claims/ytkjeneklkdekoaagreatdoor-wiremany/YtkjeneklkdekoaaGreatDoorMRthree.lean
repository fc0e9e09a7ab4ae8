import Derived.Test.YtkjeneklkdekoaaGreatDoorMRtwo
namespace Go.Proofs.YtkjeneklkdekoaaGreatDoor.Rm
open Go.RowKit
set_option linter.unusedSimpArgs false
set_option linter.unusedVariables false

set_option maxHeartbeats 400000 in
theorem hold17 (R : Nat) (w : World) (h : w.cell? ⟨R, 2, none⟩ = some (.slice none 0 0)) :
    Calls Tryz.prog 30 #[.pointer (some ⟨R, 0, none⟩)] w fun e w' => e = .returned (.bool true) ∧ w' = w := by
  go_enter Tryz.func30, Tryz.ntmps30
  go_wp2
  go_loop [3] (fun i => i = .int .i64 0) (fun _ => 0)
  case atStart => rfl
  case round =>
    subst hrel
    go_wp2
    go_ret
    exact ⟨rfl, rfl⟩

set_option maxHeartbeats 400000 in
theorem hold18 (R : Nat) (w : World) (h : w.cell? ⟨R, 4, none⟩ = some (.slice none 0 0)) :
    Calls Tryz.prog 31 #[.pointer (some ⟨R, 0, none⟩)] w fun e w' => e = .returned (.bool true) ∧ w' = w := by
  go_enter Tryz.func31, Tryz.ntmps31
  go_wp2
  go_loop [3] (fun i => i = .int .i64 0) (fun _ => 0)
  case atStart => rfl
  case round =>
    subst hrel
    go_wp2
    go_ret
    exact ⟨rfl, rfl⟩

set_option maxHeartbeats 400000 in
theorem hold19 (R : Nat) (w : World) (h : w.cell? ⟨R, 6, none⟩ = some (.slice none 0 0)) :
    Calls Tryz.prog 32 #[.pointer (some ⟨R, 0, none⟩)] w fun e w' => e = .returned (.bool true) ∧ w' = w := by
  go_enter Tryz.func32, Tryz.ntmps32
  go_wp2
  go_loop [3] (fun i => i = .int .i64 0) (fun _ => 0)
  case atStart => rfl
  case round =>
    subst hrel
    go_wp2
    go_ret
    exact ⟨rfl, rfl⟩

set_option maxHeartbeats 400000 in
theorem hold20 (R : Nat) (w : World) (h : w.cell? ⟨R, 8, none⟩ = some (.slice none 0 0)) :
    Calls Tryz.prog 33 #[.pointer (some ⟨R, 0, none⟩)] w fun e w' => e = .returned (.bool true) ∧ w' = w := by
  go_enter Tryz.func33, Tryz.ntmps33
  go_wp2
  go_loop [3] (fun i => i = .int .i64 0) (fun _ => 0)
  case atStart => rfl
  case round =>
    subst hrel
    go_wp2
    go_ret
    exact ⟨rfl, rfl⟩

set_option maxHeartbeats 400000 in
theorem hold21 (R : Nat) (w : World) (h : w.cell? ⟨R, 10, none⟩ = some (.slice none 0 0)) :
    Calls Tryz.prog 34 #[.pointer (some ⟨R, 0, none⟩)] w fun e w' => e = .returned (.bool true) ∧ w' = w := by
  go_enter Tryz.func34, Tryz.ntmps34
  go_wp2
  go_loop [3] (fun i => i = .int .i64 0) (fun _ => 0)
  case atStart => rfl
  case round =>
    subst hrel
    go_wp2
    go_ret
    exact ⟨rfl, rfl⟩

set_option maxHeartbeats 400000 in
theorem hold22 (R : Nat) (w : World) (h : w.cell? ⟨R, 12, none⟩ = some (.slice none 0 0)) :
    Calls Tryz.prog 35 #[.pointer (some ⟨R, 0, none⟩)] w fun e w' => e = .returned (.bool true) ∧ w' = w := by
  go_enter Tryz.func35, Tryz.ntmps35
  go_wp2
  go_loop [3] (fun i => i = .int .i64 0) (fun _ => 0)
  case atStart => rfl
  case round =>
    subst hrel
    go_wp2
    go_ret
    exact ⟨rfl, rfl⟩

set_option maxHeartbeats 400000 in
theorem hold23 (R : Nat) (w : World) (h : w.cell? ⟨R, 14, none⟩ = some (.slice none 0 0)) :
    Calls Tryz.prog 36 #[.pointer (some ⟨R, 0, none⟩)] w fun e w' => e = .returned (.bool true) ∧ w' = w := by
  go_enter Tryz.func36, Tryz.ntmps36
  go_wp2
  go_loop [3] (fun i => i = .int .i64 0) (fun _ => 0)
  case atStart => rfl
  case round =>
    subst hrel
    go_wp2
    go_ret
    exact ⟨rfl, rfl⟩

set_option maxHeartbeats 400000 in
theorem hold24 (R : Nat) (w : World) (h : w.cell? ⟨R, 16, none⟩ = some (.slice none 0 0)) :
    Calls Tryz.prog 37 #[.pointer (some ⟨R, 0, none⟩)] w fun e w' => e = .returned (.bool true) ∧ w' = w := by
  go_enter Tryz.func37, Tryz.ntmps37
  go_wp2
  go_loop [3] (fun i => i = .int .i64 0) (fun _ => 0)
  case atStart => rfl
  case round =>
    subst hrel
    go_wp2
    go_ret
    exact ⟨rfl, rfl⟩

set_option maxHeartbeats 400000 in
theorem hold25 (R : Nat) (w : World) (h : w.cell? ⟨R, 18, none⟩ = some (.slice none 0 0)) :
    Calls Tryz.prog 38 #[.pointer (some ⟨R, 0, none⟩)] w fun e w' => e = .returned (.bool true) ∧ w' = w := by
  go_enter Tryz.func38, Tryz.ntmps38
  go_wp2
  go_loop [3] (fun i => i = .int .i64 0) (fun _ => 0)
  case atStart => rfl
  case round =>
    subst hrel
    go_wp2
    go_ret
    exact ⟨rfl, rfl⟩

set_option maxHeartbeats 400000 in
theorem hold26 (R : Nat) (w : World) (h : w.cell? ⟨R, 20, none⟩ = some (.slice none 0 0)) :
    Calls Tryz.prog 39 #[.pointer (some ⟨R, 0, none⟩)] w fun e w' => e = .returned (.bool true) ∧ w' = w := by
  go_enter Tryz.func39, Tryz.ntmps39
  go_wp2
  go_loop [3] (fun i => i = .int .i64 0) (fun _ => 0)
  case atStart => rfl
  case round =>
    subst hrel
    go_wp2
    go_ret
    exact ⟨rfl, rfl⟩

set_option maxHeartbeats 400000 in
theorem hold27 (R : Nat) (w : World) (h : w.cell? ⟨R, 22, none⟩ = some (.slice none 0 0)) :
    Calls Tryz.prog 40 #[.pointer (some ⟨R, 0, none⟩)] w fun e w' => e = .returned (.bool true) ∧ w' = w := by
  go_enter Tryz.func40, Tryz.ntmps40
  go_wp2
  go_loop [3] (fun i => i = .int .i64 0) (fun _ => 0)
  case atStart => rfl
  case round =>
    subst hrel
    go_wp2
    go_ret
    exact ⟨rfl, rfl⟩

set_option maxHeartbeats 400000 in
theorem hold28 (R : Nat) (w : World) (h : w.cell? ⟨R, 24, none⟩ = some (.slice none 0 0)) :
    Calls Tryz.prog 41 #[.pointer (some ⟨R, 0, none⟩)] w fun e w' => e = .returned (.bool true) ∧ w' = w := by
  go_enter Tryz.func41, Tryz.ntmps41
  go_wp2
  go_loop [3] (fun i => i = .int .i64 0) (fun _ => 0)
  case atStart => rfl
  case round =>
    subst hrel
    go_wp2
    go_ret
    exact ⟨rfl, rfl⟩

set_option maxHeartbeats 400000 in
theorem hold29 (R : Nat) (w : World) (h : w.cell? ⟨R, 26, none⟩ = some (.slice none 0 0)) :
    Calls Tryz.prog 42 #[.pointer (some ⟨R, 0, none⟩)] w fun e w' => e = .returned (.bool true) ∧ w' = w := by
  go_enter Tryz.func42, Tryz.ntmps42
  go_wp2
  go_loop [3] (fun i => i = .int .i64 0) (fun _ => 0)
  case atStart => rfl
  case round =>
    subst hrel
    go_wp2
    go_ret
    exact ⟨rfl, rfl⟩

set_option maxRecDepth 100000 in
set_option maxHeartbeats 1000000 in
theorem hold_bytes (R m gb cb ga ca : Nat) (G N C : Nat → Nat) (w : World) (hm : m ≤ 1000) (hN : ∀ i, N i ≤ 140000 ∧ N i + 600 ≤ C i)
    (cR0 : w.cell? ⟨R, 0, none⟩ = some (.slice (some ⟨gb, 0, none⟩) m cb)) (cR1 : w.cell? ⟨R, 1, none⟩ = some (.slice (some ⟨ga, 0, none⟩) m ca))
    (hb : ∀ i, i < m → w.cell? ⟨gb, i, none⟩ = some (.slice (some ⟨G i, 0, none⟩) (N i + 600) (C i))) (ha : ∀ i, i < m → w.cell? ⟨ga, i, none⟩ = some (.int .i64 (N i)))
    (hk : ∀ i, i < m → ∀ k, k < 600 → w.cell? ⟨G i, N i + k, none⟩ = some (.int .u8 (mark k))) :
    Calls Tryz.prog 29 #[.pointer (some ⟨R, 0, none⟩)] w fun e w' => e = .returned (.bool true) ∧ w' = w := by
  have HB : Hid (∀ i, i < m → w.cell? ⟨gb, i, none⟩ = some (.slice (some ⟨G i, 0, none⟩) (N i + 600) (C i))) := hb
  have HA : Hid (∀ i, i < m → w.cell? ⟨ga, i, none⟩ = some (.int .i64 (N i))) := ha
  have HK : Hid (∀ i, i < m → ∀ k, k < 600 → w.cell? ⟨G i, N i + k, none⟩ = some (.int .u8 (mark k))) := hk
  have HN : Hid (∀ i, N i ≤ 140000 ∧ N i + 600 ≤ C i) := hN
  clear hb ha hk hN
  go_enter Tryz.func29, Tryz.ntmps29
  go_wp2
  go_loop [3, 4, 5, 6] (fun i _ _ _ => ∃ j : Nat, j ≤ m ∧ i = .int .i64 j) (fun i _ _ _ => m - (intOf i).toNat)
  case atStart => exact ⟨0, by omega, rfl⟩
  case round =>
    obtain ⟨j, hj, rfl⟩ := hrel
    by_cases hlt : j < m
    · have b1 := HB.out j hlt
      have a1 := HA.out j hlt
      have k1 := HK.out j hlt
      have n1 := HN.out j
      obtain ⟨Gj, hG⟩ : ∃ x, G j = x := ⟨_, rfl⟩
      obtain ⟨Nj, hNj⟩ : ∃ x, N j = x := ⟨_, rfl⟩
      obtain ⟨Cj, hC⟩ : ∃ x, C j = x := ⟨_, rfl⟩
      rw [hG, hNj, hC] at b1
      rw [hNj] at a1
      rw [hG, hNj] at k1
      rw [hNj, hC] at n1
      clear hG hNj hC
      have K1 : Hid (∀ k, k < 600 → w.cell? ⟨Gj, Nj + k, none⟩ = some (.int .u8 (mark k))) := k1
      clear k1
      go_wp2
      go_loop [5, 6] (fun x _ => ∃ k : Nat, k ≤ 600 ∧ x = .int .i64 ((Nj + k : Nat) : Int)) (fun x _ => Nj + 600 - (intOf x).toNat)
      case atStart => exact ⟨0, by omega, rfl⟩
      case round =>
        obtain ⟨k, hk, rfl⟩ := hrel
        by_cases hkl : k < 600
        · have ck := K1.out k hkl
          by_cases hp : k % 2 = 0
          · have em : mark k = 235 := by simp [mark, hp]
            rw [em] at ck
            have HL : Hid (∀ w, Calls Tryz.prog 81 #[.int .i64 k] w fun e w' => e = .returned (.int .i64 (-7701)) ∧ w' = w) := fun w => by have h := lot_any k (by omega) w; rw [if_pos hp] at h; exact h
            clear hp em
            have es : (Nj : Int) + (k : Int) - (Nj : Int) = (k : Int) := by omega
            go_wp2_with (go_at_call 81; refine (HL.out _).mono ?_; rintro e w' ⟨rfl, rfl⟩)
            go_round
            case rel => exact ⟨k + 1, by omega, by go_num⟩
            case measure => simp [intOf]; omega
          · have em : mark k = 234 := by simp [mark, hp]
            rw [em] at ck
            have HL : Hid (∀ w, Calls Tryz.prog 81 #[.int .i64 k] w fun e w' => e = .returned (.int .i64 (-7702)) ∧ w' = w) := fun w => by have h := lot_any k (by omega) w; rw [if_neg hp] at h; exact h
            clear hp em
            have es : (Nj : Int) + (k : Int) - (Nj : Int) = (k : Int) := by omega
            go_wp2_with (go_at_call 81; refine (HL.out _).mono ?_; rintro e w' ⟨rfl, rfl⟩)
            go_round
            case rel => exact ⟨k + 1, by omega, by go_num⟩
            case measure => simp [intOf]; omega
        · obtain rfl : k = 600 := by omega
          go_wp2
          go_round
          case rel => exact ⟨j + 1, by omega, by go_num⟩
          case measure => simp [intOf]; omega
    · obtain rfl : j = m := by omega
      go_wp2
      go_ret
      exact ⟨rfl, rfl⟩
end Go.Proofs.YtkjeneklkdekoaaGreatDoor.Rm
