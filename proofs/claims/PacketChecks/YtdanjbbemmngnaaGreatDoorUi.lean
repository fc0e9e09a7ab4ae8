import Derived.Test.YtdanjbbemmngnaaGreatDoorUa
import Derived.Deep.LoopGhost
namespace Go.Proofs.YtdanjbbemmngnaaGreatDoor
open Go Go.RowKit Go.Sort
set_option linter.unusedSimpArgs false
set_option linter.unusedVariables false

set_option maxHeartbeats 400000 in
theorem hold38 (R : Nat) (w : World) (h : w.cell? ⟨R, 8, none⟩ = some (.slice none 0 0)) : Calls Tryz.prog 38 #[.pointer (some ⟨R, 0, none⟩)] w fun e w' => e = .returned (.bool true) ∧ w' = w := by
  go_enter Tryz.func38, Tryz.ntmps38
  go_wp2
  go_loop [3] (fun i => i = .int .i64 0) (fun _ => 0)
  case atStart => rfl
  case round =>
    subst hrel
    go_wp2
    go_ret
    exact ⟨rfl, rfl⟩

set_option maxHeartbeats 400000 in
theorem hold39 (R : Nat) (w : World) (h : w.cell? ⟨R, 10, none⟩ = some (.slice none 0 0)) : Calls Tryz.prog 39 #[.pointer (some ⟨R, 0, none⟩)] w fun e w' => e = .returned (.bool true) ∧ w' = w := by
  go_enter Tryz.func39, Tryz.ntmps39
  go_wp2
  go_loop [3] (fun i => i = .int .i64 0) (fun _ => 0)
  case atStart => rfl
  case round =>
    subst hrel
    go_wp2
    go_ret
    exact ⟨rfl, rfl⟩

set_option maxHeartbeats 400000 in
theorem hold40 (R : Nat) (w : World) (h : w.cell? ⟨R, 12, none⟩ = some (.slice none 0 0)) : Calls Tryz.prog 40 #[.pointer (some ⟨R, 0, none⟩)] w fun e w' => e = .returned (.bool true) ∧ w' = w := by
  go_enter Tryz.func40, Tryz.ntmps40
  go_wp2
  go_loop [3] (fun i => i = .int .i64 0) (fun _ => 0)
  case atStart => rfl
  case round =>
    subst hrel
    go_wp2
    go_ret
    exact ⟨rfl, rfl⟩

set_option maxHeartbeats 400000 in
theorem hold41 (R : Nat) (w : World) (h : w.cell? ⟨R, 14, none⟩ = some (.slice none 0 0)) : Calls Tryz.prog 41 #[.pointer (some ⟨R, 0, none⟩)] w fun e w' => e = .returned (.bool true) ∧ w' = w := by
  go_enter Tryz.func41, Tryz.ntmps41
  go_wp2
  go_loop [3] (fun i => i = .int .i64 0) (fun _ => 0)
  case atStart => rfl
  case round =>
    subst hrel
    go_wp2
    go_ret
    exact ⟨rfl, rfl⟩

set_option maxHeartbeats 400000 in
theorem hold42 (R : Nat) (w : World) (h : w.cell? ⟨R, 16, none⟩ = some (.slice none 0 0)) : Calls Tryz.prog 42 #[.pointer (some ⟨R, 0, none⟩)] w fun e w' => e = .returned (.bool true) ∧ w' = w := by
  go_enter Tryz.func42, Tryz.ntmps42
  go_wp2
  go_loop [3] (fun i => i = .int .i64 0) (fun _ => 0)
  case atStart => rfl
  case round =>
    subst hrel
    go_wp2
    go_ret
    exact ⟨rfl, rfl⟩

set_option maxHeartbeats 400000 in
theorem hold43 (R : Nat) (w : World) (h : w.cell? ⟨R, 18, none⟩ = some (.slice none 0 0)) : Calls Tryz.prog 43 #[.pointer (some ⟨R, 0, none⟩)] w fun e w' => e = .returned (.bool true) ∧ w' = w := by
  go_enter Tryz.func43, Tryz.ntmps43
  go_wp2
  go_loop [3] (fun i => i = .int .i64 0) (fun _ => 0)
  case atStart => rfl
  case round =>
    subst hrel
    go_wp2
    go_ret
    exact ⟨rfl, rfl⟩

set_option maxHeartbeats 400000 in
theorem hold44 (R : Nat) (w : World) (h : w.cell? ⟨R, 20, none⟩ = some (.slice none 0 0)) : Calls Tryz.prog 44 #[.pointer (some ⟨R, 0, none⟩)] w fun e w' => e = .returned (.bool true) ∧ w' = w := by
  go_enter Tryz.func44, Tryz.ntmps44
  go_wp2
  go_loop [3] (fun i => i = .int .i64 0) (fun _ => 0)
  case atStart => rfl
  case round =>
    subst hrel
    go_wp2
    go_ret
    exact ⟨rfl, rfl⟩

set_option maxHeartbeats 400000 in
theorem hold45 (R : Nat) (w : World) (h : w.cell? ⟨R, 22, none⟩ = some (.slice none 0 0)) : Calls Tryz.prog 45 #[.pointer (some ⟨R, 0, none⟩)] w fun e w' => e = .returned (.bool true) ∧ w' = w := by
  go_enter Tryz.func45, Tryz.ntmps45
  go_wp2
  go_loop [3] (fun i => i = .int .i64 0) (fun _ => 0)
  case atStart => rfl
  case round =>
    subst hrel
    go_wp2
    go_ret
    exact ⟨rfl, rfl⟩

set_option maxHeartbeats 400000 in
theorem hold46 (R : Nat) (w : World) (h : w.cell? ⟨R, 24, none⟩ = some (.slice none 0 0)) : Calls Tryz.prog 46 #[.pointer (some ⟨R, 0, none⟩)] w fun e w' => e = .returned (.bool true) ∧ w' = w := by
  go_enter Tryz.func46, Tryz.ntmps46
  go_wp2
  go_loop [3] (fun i => i = .int .i64 0) (fun _ => 0)
  case atStart => rfl
  case round =>
    subst hrel
    go_wp2
    go_ret
    exact ⟨rfl, rfl⟩

set_option maxHeartbeats 400000 in
theorem hold47 (R : Nat) (w : World) (h : w.cell? ⟨R, 26, none⟩ = some (.slice none 0 0)) : Calls Tryz.prog 47 #[.pointer (some ⟨R, 0, none⟩)] w fun e w' => e = .returned (.bool true) ∧ w' = w := by
  go_enter Tryz.func47, Tryz.ntmps47
  go_wp2
  go_loop [3] (fun i => i = .int .i64 0) (fun _ => 0)
  case atStart => rfl
  case round =>
    subst hrel
    go_wp2
    go_ret
    exact ⟨rfl, rfl⟩

set_option maxRecDepth 100000 in
set_option maxHeartbeats 1000000 in
theorem hold_bytes (R m gb cb ga ca : Nat) (G N C : Nat → Nat) (w : World) (hm : m ≤ 1000) (hN : ∀ i, i < m → N i ≤ 1000000 ∧ N i + 600 ≤ C i) (hmb : m ≤ cb) (hma : m ≤ ca)
    (cR0 : w.cell? ⟨R, 0, none⟩ = some (.slice (some ⟨gb, 0, none⟩) m cb)) (cR1 : w.cell? ⟨R, 1, none⟩ = some (.slice (some ⟨ga, 0, none⟩) m ca))
    (hb : ∀ i, i < m → w.cell? ⟨gb, i, none⟩ = some (.slice (some ⟨G i, 0, none⟩) (N i + 600) (C i))) (ha : ∀ i, i < m → w.cell? ⟨ga, i, none⟩ = some (.int .i64 (N i)))
    (hk : ∀ i, i < m → ∀ k, k < 600 → w.cell? ⟨G i, N i + k, none⟩ = some (.int .u8 (markU k))) :
    Calls Tryz.prog 34 #[.pointer (some ⟨R, 0, none⟩)] w fun e w' => e = .returned (.bool true) ∧ w' = w := by
  have HB : Hid (∀ i, i < m → w.cell? ⟨gb, i, none⟩ = some (.slice (some ⟨G i, 0, none⟩) (N i + 600) (C i))) := hb
  have HA : Hid (∀ i, i < m → w.cell? ⟨ga, i, none⟩ = some (.int .i64 (N i))) := ha
  have HK : Hid (∀ i, i < m → ∀ k, k < 600 → w.cell? ⟨G i, N i + k, none⟩ = some (.int .u8 (markU k))) := hk
  have HN : Hid (∀ i, i < m → N i ≤ 1000000 ∧ N i + 600 ≤ C i) := hN
  clear hb ha hk hN
  go_enter Tryz.func34, Tryz.ntmps34
  go_wp2
  go_loop [3, 4, 5, 6] (fun i _ _ _ => ∃ j : Nat, j ≤ m ∧ i = .int .i64 j) (fun i _ _ _ => m - (intOf i).toNat)
  case atStart => exact ⟨0, by omega, rfl⟩
  case round =>
    obtain ⟨j, hj, rfl⟩ := hrel
    by_cases hlt : j < m
    · have b1 := HB.out j hlt
      have a1 := HA.out j hlt
      have k1 := HK.out j hlt
      have n1 := HN.out j hlt
      obtain ⟨Gj, hG⟩ : ∃ x, G j = x := ⟨_, rfl⟩
      obtain ⟨Nj, hNj⟩ : ∃ x, N j = x := ⟨_, rfl⟩
      obtain ⟨Cj, hC⟩ : ∃ x, C j = x := ⟨_, rfl⟩
      rw [hG, hNj, hC] at b1
      rw [hNj] at a1
      rw [hG, hNj] at k1
      rw [hNj, hC] at n1
      clear hG hNj hC
      have K1 : Hid (∀ k, k < 600 → w.cell? ⟨Gj, Nj + k, none⟩ = some (.int .u8 (markU k))) := k1
      clear k1
      go_wp2
      go_loop [5, 6] (fun x _ => ∃ k : Nat, k ≤ 600 ∧ x = .int .i64 ((Nj + k : Nat) : Int)) (fun x _ => Nj + 600 - (intOf x).toNat)
      case atStart => exact ⟨0, by omega, rfl⟩
      case round =>
        obtain ⟨k, hk, rfl⟩ := hrel
        by_cases hkl : k < 600
        · have ck := K1.out k hkl
          have es : (Nj : Int) + (k : Int) - (Nj : Int) = (k : Int) := by omega
          have HZ : Hid (∀ w, Calls Tryz.prog 106 #[.int .i64 k] w fun e w' => e = .returned (.int .i64 (lotI k)) ∧ w' = w) := fun w => lot_any k (by omega) w
          rcases lot_two k with ⟨q1, q2⟩ | ⟨q1, q2⟩
          all_goals
            rw [q1] at HZ
            rw [q2] at ck
            clear q1 q2
            go_wp2_with (go_at_call 106; refine (HZ.out _).mono ?_; rintro e w' ⟨rfl, rfl⟩)
            go_round
            case rel => exact ⟨k + 1, by omega, by go_num⟩
            case measure => simp [intOf]; omega
        · obtain rfl : k = 600 := by omega
          go_wp2
          go_round
          case rel => exact ⟨j + 1, by omega, by go_num⟩
          case measure => simp [intOf]; omega
    · obtain rfl : j = m := by omega
      go_wp2
      go_ret
      exact ⟨rfl, rfl⟩

set_option maxRecDepth 100000 in
set_option maxHeartbeats 1000000 in
theorem hold_ints (R m gb cb ga ca : Nat) (G N C : Nat → Nat) (w : World) (hm : m ≤ 1000) (hN : ∀ i, i < m → N i ≤ 1000000 ∧ N i + 40 ≤ C i) (hmb : m ≤ cb) (hma : m ≤ ca)
    (cR0 : w.cell? ⟨R, 2, none⟩ = some (.slice (some ⟨gb, 0, none⟩) m cb)) (cR1 : w.cell? ⟨R, 3, none⟩ = some (.slice (some ⟨ga, 0, none⟩) m ca))
    (hb : ∀ i, i < m → w.cell? ⟨gb, i, none⟩ = some (.slice (some ⟨G i, 0, none⟩) (N i + 40) (C i))) (ha : ∀ i, i < m → w.cell? ⟨ga, i, none⟩ = some (.int .i64 (N i)))
    (hk : ∀ i, i < m → ∀ k, k < 40 → w.cell? ⟨G i, N i + k, none⟩ = some (.int .i64 (lotI k))) :
    Calls Tryz.prog 35 #[.pointer (some ⟨R, 0, none⟩)] w fun e w' => e = .returned (.bool true) ∧ w' = w := by
  have HB : Hid (∀ i, i < m → w.cell? ⟨gb, i, none⟩ = some (.slice (some ⟨G i, 0, none⟩) (N i + 40) (C i))) := hb
  have HA : Hid (∀ i, i < m → w.cell? ⟨ga, i, none⟩ = some (.int .i64 (N i))) := ha
  have HK : Hid (∀ i, i < m → ∀ k, k < 40 → w.cell? ⟨G i, N i + k, none⟩ = some (.int .i64 (lotI k))) := hk
  have HN : Hid (∀ i, i < m → N i ≤ 1000000 ∧ N i + 40 ≤ C i) := hN
  clear hb ha hk hN
  go_enter Tryz.func35, Tryz.ntmps35
  go_wp2
  go_loop [3, 4, 5, 6] (fun i _ _ _ => ∃ j : Nat, j ≤ m ∧ i = .int .i64 j) (fun i _ _ _ => m - (intOf i).toNat)
  case atStart => exact ⟨0, by omega, rfl⟩
  case round =>
    obtain ⟨j, hj, rfl⟩ := hrel
    by_cases hlt : j < m
    · have b1 := HB.out j hlt
      have a1 := HA.out j hlt
      have k1 := HK.out j hlt
      have n1 := HN.out j hlt
      obtain ⟨Gj, hG⟩ : ∃ x, G j = x := ⟨_, rfl⟩
      obtain ⟨Nj, hNj⟩ : ∃ x, N j = x := ⟨_, rfl⟩
      obtain ⟨Cj, hC⟩ : ∃ x, C j = x := ⟨_, rfl⟩
      rw [hG, hNj, hC] at b1
      rw [hNj] at a1
      rw [hG, hNj] at k1
      rw [hNj, hC] at n1
      clear hG hNj hC
      have K1 : Hid (∀ k, k < 40 → w.cell? ⟨Gj, Nj + k, none⟩ = some (.int .i64 (lotI k))) := k1
      clear k1
      go_wp2
      go_loop [5, 6] (fun x _ => ∃ k : Nat, k ≤ 40 ∧ x = .int .i64 ((Nj + k : Nat) : Int)) (fun x _ => Nj + 40 - (intOf x).toNat)
      case atStart => exact ⟨0, by omega, rfl⟩
      case round =>
        obtain ⟨k, hk, rfl⟩ := hrel
        by_cases hkl : k < 40
        · have ck := K1.out k hkl
          have es : (Nj : Int) + (k : Int) - (Nj : Int) = (k : Int) := by omega
          have HZ : Hid (∀ w, Calls Tryz.prog 106 #[.int .i64 k] w fun e w' => e = .returned (.int .i64 (lotI k)) ∧ w' = w) := fun w => lot_any k (by omega) w
          obtain ⟨x, hx⟩ : ∃ x, lotI k = x := ⟨_, rfl⟩
          rw [hx] at HZ ck
          clear hx
          go_wp2_with (go_at_call 106; refine (HZ.out _).mono ?_; rintro e w' ⟨rfl, rfl⟩)
          go_round
          case rel => exact ⟨k + 1, by omega, by go_num⟩
          case measure => simp [intOf]; omega
        · obtain rfl : k = 40 := by omega
          go_wp2
          go_round
          case rel => exact ⟨j + 1, by omega, by go_num⟩
          case measure => simp [intOf]; omega
    · obtain rfl : j = m := by omega
      go_wp2
      go_ret
      exact ⟨rfl, rfl⟩

set_option maxRecDepth 100000 in
set_option maxHeartbeats 1000000 in
theorem hold_texts (R m gb cb ga ca : Nat) (G N C : Nat → Nat) (w : World) (hm : m ≤ 1000) (hN : ∀ i, i < m → N i ≤ 1000000 ∧ N i + 40 ≤ C i) (hmb : m ≤ cb) (hma : m ≤ ca)
    (cR0 : w.cell? ⟨R, 4, none⟩ = some (.slice (some ⟨gb, 0, none⟩) m cb)) (cR1 : w.cell? ⟨R, 5, none⟩ = some (.slice (some ⟨ga, 0, none⟩) m ca))
    (hb : ∀ i, i < m → w.cell? ⟨gb, i, none⟩ = some (.slice (some ⟨G i, 0, none⟩) (N i + 40) (C i))) (ha : ∀ i, i < m → w.cell? ⟨ga, i, none⟩ = some (.int .i64 (N i)))
    (hk : ∀ i, i < m → ∀ k, k < 40 → w.cell? ⟨G i, N i + k, none⟩ = some (.string (wordB k))) :
    Calls Tryz.prog 36 #[.pointer (some ⟨R, 0, none⟩)] w fun e w' => e = .returned (.bool true) ∧ w' = w := by
  have HB : Hid (∀ i, i < m → w.cell? ⟨gb, i, none⟩ = some (.slice (some ⟨G i, 0, none⟩) (N i + 40) (C i))) := hb
  have HA : Hid (∀ i, i < m → w.cell? ⟨ga, i, none⟩ = some (.int .i64 (N i))) := ha
  have HK : Hid (∀ i, i < m → ∀ k, k < 40 → w.cell? ⟨G i, N i + k, none⟩ = some (.string (wordB k))) := hk
  have HN : Hid (∀ i, i < m → N i ≤ 1000000 ∧ N i + 40 ≤ C i) := hN
  clear hb ha hk hN
  go_enter Tryz.func36, Tryz.ntmps36
  go_wp2
  go_loop [3, 4, 5, 6] (fun i _ _ _ => ∃ j : Nat, j ≤ m ∧ i = .int .i64 j) (fun i _ _ _ => m - (intOf i).toNat)
  case atStart => exact ⟨0, by omega, rfl⟩
  case round =>
    obtain ⟨j, hj, rfl⟩ := hrel
    by_cases hlt : j < m
    · have b1 := HB.out j hlt
      have a1 := HA.out j hlt
      have k1 := HK.out j hlt
      have n1 := HN.out j hlt
      obtain ⟨Gj, hG⟩ : ∃ x, G j = x := ⟨_, rfl⟩
      obtain ⟨Nj, hNj⟩ : ∃ x, N j = x := ⟨_, rfl⟩
      obtain ⟨Cj, hC⟩ : ∃ x, C j = x := ⟨_, rfl⟩
      rw [hG, hNj, hC] at b1
      rw [hNj] at a1
      rw [hG, hNj] at k1
      rw [hNj, hC] at n1
      clear hG hNj hC
      have K1 : Hid (∀ k, k < 40 → w.cell? ⟨Gj, Nj + k, none⟩ = some (.string (wordB k))) := k1
      clear k1
      go_wp2
      go_loop [5, 6] (fun x _ => ∃ k : Nat, k ≤ 40 ∧ x = .int .i64 ((Nj + k : Nat) : Int)) (fun x _ => Nj + 40 - (intOf x).toNat)
      case atStart => exact ⟨0, by omega, rfl⟩
      case round =>
        obtain ⟨k, hk, rfl⟩ := hrel
        by_cases hkl : k < 40
        · have ck := K1.out k hkl
          have es : (Nj : Int) + (k : Int) - (Nj : Int) = (k : Int) := by omega
          have HZ : Hid (∀ w, Calls Tryz.prog 107 #[.int .i64 k] w fun e w' => e = .returned (.string (wordB k)) ∧ w' = w) := fun w => word_any k (by omega) w
          obtain ⟨x, hx⟩ : ∃ x, wordB k = x := ⟨_, rfl⟩
          rw [hx] at HZ ck
          clear hx
          go_wp2_with (go_at_call 107; refine (HZ.out _).mono ?_; rintro e w' ⟨rfl, rfl⟩)
          go_round
          case rel => exact ⟨k + 1, by omega, by go_num⟩
          case measure => simp [intOf]; omega
        · obtain rfl : k = 40 := by omega
          go_wp2
          go_round
          case rel => exact ⟨j + 1, by omega, by go_num⟩
          case measure => simp [intOf]; omega
    · obtain rfl : j = m := by omega
      go_wp2
      go_ret
      exact ⟨rfl, rfl⟩

end Go.Proofs.YtdanjbbemmngnaaGreatDoor
namespace Go.Proofs.YtdanjbbemmngnaaGreatDoor
open Go Go.RowKit Go.Sort
set_option linter.unusedSimpArgs false
set_option linter.unusedVariables false

set_option maxRecDepth 100000 in
set_option maxHeartbeats 2000000 in
theorem hold_asks (R m gb cb ga ca : Nat) (G N C : Nat → Nat) (w : World) (hm : m ≤ 1000) (hN : ∀ i, i < m → N i ≤ 1000000 ∧ N i + 40 ≤ C i) (hmb : m ≤ cb) (hma : m ≤ ca)
    (cR0 : w.cell? ⟨R, 6, none⟩ = some (.slice (some ⟨gb, 0, none⟩) m cb)) (cR1 : w.cell? ⟨R, 7, none⟩ = some (.slice (some ⟨ga, 0, none⟩) m ca))
    (hb : ∀ i, i < m → w.cell? ⟨gb, i, none⟩ = some (.slice (some ⟨G i, 0, none⟩) (N i + 40) (C i))) (ha : ∀ i, i < m → w.cell? ⟨ga, i, none⟩ = some (.int .i64 (N i)))
    (hk : ∀ i, i < m → ∀ k, k < 40 → (w.cell? ⟨G i, (N i + k) * 2, none⟩ = some (.string (wordB k)) ∧ w.cell? ⟨G i, (N i + k) * 2 + 1, none⟩ = some (.int .i64 0))) :
    Calls Tryz.prog 37 #[.pointer (some ⟨R, 0, none⟩)] w fun e w' => e = .returned (.bool true) ∧ Below w.heap.size w w' := by
  have HB : Hid (∀ i, i < m → w.cell? ⟨gb, i, none⟩ = some (.slice (some ⟨G i, 0, none⟩) (N i + 40) (C i))) := hb
  have HA : Hid (∀ i, i < m → w.cell? ⟨ga, i, none⟩ = some (.int .i64 (N i))) := ha
  have HK : Hid (∀ i, i < m → ∀ k, k < 40 → (w.cell? ⟨G i, (N i + k) * 2, none⟩ = some (.string (wordB k)) ∧ w.cell? ⟨G i, (N i + k) * 2 + 1, none⟩ = some (.int .i64 0))) := hk
  have HN : Hid (∀ i, i < m → N i ≤ 1000000 ∧ N i + 40 ≤ C i) := hN
  have HR0 : Hid (w.cell? ⟨R, 6, none⟩ = some (.slice (some ⟨gb, 0, none⟩) m cb)) := cR0
  have HR1 : Hid (w.cell? ⟨R, 7, none⟩ = some (.slice (some ⟨ga, 0, none⟩) m ca)) := cR1
  have EG : Tryz.prog.eqGuardType Tryz.prog.depth 78 = false := by kernel_rfl
  have B0 : Hid (Below w.heap.size w w) := Below.refl _ _
  clear hb ha hk hN cR0 cR1
  go_enter Tryz.func37, Tryz.ntmps37
  go_wp2
  go_loopg [3, 4, 5, 6] m (fun gg s3 s4 s5 s6 wx => ∃ j : Nat, s3 = .int .i64 j ∧ j + gg = m ∧ Hid (Below w.heap.size w wx))
  case atStart => exact ⟨0, rfl, by omega, B0⟩
  case round =>
    obtain ⟨j, rfl, hjg, B1⟩ := hrel
    obtain ⟨gj, hgj⟩ : ∃ x, x = gk := ⟨_, rfl⟩
    have r0 := cell_later B1.out HR0.out
    have r1 := cell_later B1.out HR1.out
    by_cases hlt : j < m
    · have hlt' : (j : Int) < m := by omega
      have b1 := cell_later B1.out (HB.out j hlt)
      have a1 := cell_later B1.out (HA.out j hlt)
      have k1 := HK.out j hlt
      have n1 := HN.out j hlt
      obtain ⟨Gj, hG⟩ : ∃ x, G j = x := ⟨_, rfl⟩
      obtain ⟨Nj, hNj⟩ : ∃ x, N j = x := ⟨_, rfl⟩
      obtain ⟨Cj, hC⟩ : ∃ x, C j = x := ⟨_, rfl⟩
      have HB1 : Hid (w.cell? ⟨gb, j, none⟩ = some (.slice (some ⟨Gj, 0, none⟩) (Nj + 40) Cj)) := by have := HB.out j hlt; rw [hG, hNj, hC] at this; exact this
      rw [hG, hNj, hC] at b1
      rw [hNj] at a1
      rw [hG, hNj] at k1
      rw [hNj, hC] at n1
      clear hG hNj hC
      have K1 : Hid (∀ k, k < 40 → (w.cell? ⟨Gj, (Nj + k) * 2, none⟩ = some (.string (wordB k)) ∧ w.cell? ⟨Gj, (Nj + k) * 2 + 1, none⟩ = some (.int .i64 0))) := k1
      clear k1
      go_wp2_with fail
      clear r0 r1 a1 b1
      go_loopg [5, 6] 40 (fun gg s5 s6 wx => ∃ k : Nat, s5 = .int .i64 ((Nj + k : Nat) : Int) ∧ k + gg = 40 ∧ Hid (Below w.heap.size w wx))
      case atStart => exact ⟨0, rfl, by omega, B1⟩
      case round =>
        obtain ⟨k, rfl, hkg, B2⟩ := hrel
        have r0 := cell_later B2.out HR0.out
        have b1 := cell_later B2.out HB1.out
        by_cases hkl : k < 40
        · have hkl' : ((Nj + k : Nat) : Int) < ((Nj + 40 : Nat) : Int) := by omega
          have c0 := cell_later B2.out (K1.out k hkl).1
          have c1 := cell_later B2.out (K1.out k hkl).2
          have es : (Nj : Int) + (k : Int) - (Nj : Int) = (k : Int) := by omega
          have HZ : Hid (∀ w, Calls Tryz.prog 107 #[.int .i64 k] w fun e w' => e = .returned (.string (wordB k)) ∧ w' = w) := fun w => word_any k (by omega) w
          obtain ⟨x, hx⟩ : ∃ x, wordB k = x := ⟨_, rfl⟩
          rw [hx] at HZ c0
          clear hx
          have EQ := neq_ask_eq x 0
          go_wp2_with fail
          obtain ⟨X, hX⟩ : ∃ X, X = wr.alloc (.cells #[.string x, .int .i64 0] 78) := ⟨_, rfl⟩
          have BX : Hid (Below wr.heap.size wr X) := box_below hX
          have g0 : Hid (X.heap[wr.heap.size]? = some (.cells #[.string x, .int .i64 0] 78)) := by show _ = _; rw [hX]; exact heap_alloc_new wr _
          rw [← hX]
          clear hX c0 c1 r0 b1
          have k0 : ∀ d os, (grow (redrawn X d) os).cell? ⟨wr.heap.size, 0, none⟩ = some (.string x) := fun d os => cell_later (below_regrown X d os) (by simp [World.cell?, g0.out])
          have k1 : ∀ d os, (grow (redrawn X d) os).cell? ⟨wr.heap.size, 1, none⟩ = some (.int .i64 0) := fun d os => cell_later (below_regrown X d os) (by simp [World.cell?, g0.out])
          have C1 : Hid (∀ w, Calls Tryz.prog 107 #[.int .i64 k] w fun e w' => e = .returned (.string x) ∧ Below w.heap.size w w') := fun w => (HZ.out w).mono fun e w' ⟨he, hw⟩ => ⟨he, by rw [hw]; exact Below.refl _ _⟩
          have hwk : IntKind.i64.wrap (k : Int) = (k : Int) := by rw [IntKind.wrap_i64]; omega
          obtain ⟨gg, hgg⟩ : ∃ gg, gk = gg + 1 := ⟨gk - 1, by omega⟩
          refine wp_region_quiet_below (by kernel_rfl) (by kernel_rfl) ?_
          repeat (quiet_step ((go_at_call 107; exact Calls.regrown_of (C1.out _))))
          refine wpQuiet_nil ?_
          rintro _ ⟨⟨d, os⟩, rfl⟩
          have B3 : Hid (Below w.heap.size w (grow (redrawn X d) os)) := (B2.out.trans (BX.out.mono B2.out.size)).trans ((below_regrown X d os).mono (B2.out.trans (BX.out.mono B2.out.size)).size)
          go_wp2
          go_roundg gg
          case measure => omega
          case rel => exact ⟨k + 1, by go_num, by omega, B3⟩
        · obtain rfl : k = 40 := by omega
          have hkl' : ¬ ((Nj + 40 : Nat) : Int) < ((Nj + 40 : Nat) : Int) := by omega
          obtain ⟨gg, hgg⟩ : ∃ gg, gj = gg + 1 := ⟨gj - 1, by omega⟩
          go_wp2
          go_roundg gg
          case measure => omega
          case rel => exact ⟨j + 1, by go_num, by omega, B2⟩
    · obtain rfl : j = m := by omega
      have hlt' : ¬ (j : Int) < j := by omega
      go_wp2
      go_ret
      exact ⟨rfl, B1.out⟩
end Go.Proofs.YtdanjbbemmngnaaGreatDoor
namespace Go.Proofs.YtdanjbbemmngnaaGreatDoor
open Go Go.RowKit Go.Sort
set_option linter.unusedSimpArgs false
set_option linter.unusedVariables false

/-- So many lists of one kind that a room keeps: all marks stand. -/
def Keeps (w : World) (R f m room : Nat) (mark : Nat → Nat → Nat → Prop) : Prop :=
  ∃ (gb cb ga ca : Nat) (G N C : Nat → Nat), m ≤ 1000 ∧ (∀ i, i < m → N i ≤ 1000000 ∧ N i + room ≤ C i) ∧ m ≤ cb ∧ m ≤ ca ∧ w.cell? ⟨R, f, none⟩ = some (.slice (some ⟨gb, 0, none⟩) m cb) ∧ w.cell? ⟨R, f + 1, none⟩ = some (.slice (some ⟨ga, 0, none⟩) m ca) ∧
    (∀ i, i < m → w.cell? ⟨gb, i, none⟩ = some (.slice (some ⟨G i, 0, none⟩) (N i + room) (C i))) ∧ (∀ i, i < m → w.cell? ⟨ga, i, none⟩ = some (.int .i64 (N i))) ∧ ∀ i, i < m → ∀ k, k < room → mark (G i) (N i + k) k
theorem Keeps.below {w w' : World} {R f m room : Nat} {mk mk' : Nat → Nat → Nat → Prop} (h : Keeps w R f m room mk) (hb : Below w.heap.size w w') (hmk : ∀ g j k, mk g j k → mk' g j k) : Keeps w' R f m room mk' := by
  obtain ⟨gb, cb, ga, ca, G, N, C, h1, h2, h3, h4, h5, h6, h7, h8, h9⟩ := h
  exact ⟨gb, cb, ga, ca, G, N, C, h1, h2, h3, h4, cell_later hb h5, cell_later hb h6, fun i hi => cell_later hb (h7 i hi), fun i hi => cell_later hb (h8 i hi), fun i hi k hk => hmk _ _ _ (h9 i hi k hk)⟩
def markB (w : World) (g j k : Nat) : Prop := w.cell? ⟨g, j, none⟩ = some (.int .u8 (markU k))
def markI (w : World) (g j k : Nat) : Prop := w.cell? ⟨g, j, none⟩ = some (.int .i64 (lotI k))
def markS (w : World) (g j k : Nat) : Prop := w.cell? ⟨g, j, none⟩ = some (.string (wordB k))
def markA (w : World) (g j k : Nat) : Prop := w.cell? ⟨g, j * 2, none⟩ = some (.string (wordB k)) ∧ w.cell? ⟨g, j * 2 + 1, none⟩ = some (.int .i64 0)
/-- A room that keeps so many lists of bytes, of numbers, of texts, of filters. -/
structure RoomOk (w : World) (R mb mi ms ma : Nat) : Prop where
  bytes : Keeps w R 0 mb 600 (markB w)
  ints : Keeps w R 2 mi 40 (markI w)
  texts : Keeps w R 4 ms 40 (markS w)
  asks : Keeps w R 6 ma 40 (markA w)
  none : ∀ i, 8 ≤ i → i < 28 → w.cell? ⟨R, i, none⟩ = some (.slice none 0 0)
theorem RoomOk.below {w w' : World} {R mb mi ms ma : Nat} (h : RoomOk w R mb mi ms ma) (hb : Below w.heap.size w w') : RoomOk w' R mb mi ms ma where
  bytes := h.bytes.below hb fun g j k q => cell_later hb q
  ints := h.ints.below hb fun g j k q => cell_later hb q
  texts := h.texts.below hb fun g j k q => cell_later hb q
  asks := h.asks.below hb fun g j k q => ⟨cell_later hb q.1, cell_later hb q.2⟩
  none i h1 h2 := cell_later hb (h.none i h1 h2)

set_option maxHeartbeats 2000000 in
set_option maxRecDepth 100000 in
theorem hold_any (R mb mi ms ma : Nat) (w : World) (h : RoomOk w R mb mi ms ma) : Calls Tryz.prog 9 #[.pointer (some ⟨R, 0, none⟩)] w fun e w' => e = .returned (.bool true) ∧ Below w.heap.size w w' := by
  have H0 : Hid (Calls Tryz.prog 34 #[.pointer (some ⟨R, 0, none⟩)] w fun e w'' => e = .returned (.bool true) ∧ w'' = w) := by
    obtain ⟨gb, cb, ga, ca, G, N, C, h1, h2, h3, h4, h5, h6, h7, h8, h9⟩ := h.bytes
    exact hold_bytes R mb gb cb ga ca G N C w h1 h2 h3 h4 h5 h6 h7 h8 h9
  have H1 : Hid (Calls Tryz.prog 35 #[.pointer (some ⟨R, 0, none⟩)] w fun e w'' => e = .returned (.bool true) ∧ w'' = w) := by
    obtain ⟨gb, cb, ga, ca, G, N, C, h1, h2, h3, h4, h5, h6, h7, h8, h9⟩ := h.ints
    exact hold_ints R mi gb cb ga ca G N C w h1 h2 h3 h4 h5 h6 h7 h8 h9
  have H2 : Hid (Calls Tryz.prog 36 #[.pointer (some ⟨R, 0, none⟩)] w fun e w'' => e = .returned (.bool true) ∧ w'' = w) := by
    obtain ⟨gb, cb, ga, ca, G, N, C, h1, h2, h3, h4, h5, h6, h7, h8, h9⟩ := h.texts
    exact hold_texts R ms gb cb ga ca G N C w h1 h2 h3 h4 h5 h6 h7 h8 h9
  have H3 : Hid (Calls Tryz.prog 37 #[.pointer (some ⟨R, 0, none⟩)] w fun e w'' => e = .returned (.bool true) ∧ Below w.heap.size w w'') := by
    obtain ⟨gb, cb, ga, ca, G, N, C, h1, h2, h3, h4, h5, h6, h7, h8, h9⟩ := h.asks
    exact hold_asks R ma gb cb ga ca G N C w h1 h2 h3 h4 h5 h6 h7 h8 h9
  have HN : Hid (∀ w', Below w.heap.size w w' → ∀ i, 8 ≤ i → i < 28 → w'.cell? ⟨R, i, none⟩ = some (.slice none 0 0)) := fun w' hb => (h.below hb).none
  clear h
  go_enter Tryz.func9, Tryz.ntmps9
  go_wp2_with fail
  go_must (go_at_call 34)
  refine H0.out.mono ?_
  rintro e w' ⟨rfl, hee⟩
  obtain rfl := hee.symm
  clear hee
  go_wp2_with fail
  go_must (go_at_call 35)
  refine H1.out.mono ?_
  rintro e w' ⟨rfl, hee⟩
  obtain rfl := hee.symm
  clear hee
  go_wp2_with fail
  go_must (go_at_call 36)
  refine H2.out.mono ?_
  rintro e w' ⟨rfl, hee⟩
  obtain rfl := hee.symm
  clear hee
  go_wp2_with fail
  go_must (go_at_call 37)
  refine H3.out.mono ?_
  rintro e w1 ⟨rfl, hb⟩
  have B1 : Hid (Below w.heap.size w w1) := hb
  clear hb
  go_wp2_with (first | (go_at_call 38; refine (hold38 R _ (HN.out _ B1.out 8 (by decide) (by decide))).mono ?_; rintro e w' ⟨rfl, hee⟩; obtain rfl := hee.symm; clear hee) | (go_at_call 39; refine (hold39 R _ (HN.out _ B1.out 10 (by decide) (by decide))).mono ?_; rintro e w' ⟨rfl, hee⟩; obtain rfl := hee.symm; clear hee) | (go_at_call 40; refine (hold40 R _ (HN.out _ B1.out 12 (by decide) (by decide))).mono ?_; rintro e w' ⟨rfl, hee⟩; obtain rfl := hee.symm; clear hee) | (go_at_call 41; refine (hold41 R _ (HN.out _ B1.out 14 (by decide) (by decide))).mono ?_; rintro e w' ⟨rfl, hee⟩; obtain rfl := hee.symm; clear hee) | (go_at_call 42; refine (hold42 R _ (HN.out _ B1.out 16 (by decide) (by decide))).mono ?_; rintro e w' ⟨rfl, hee⟩; obtain rfl := hee.symm; clear hee) | (go_at_call 43; refine (hold43 R _ (HN.out _ B1.out 18 (by decide) (by decide))).mono ?_; rintro e w' ⟨rfl, hee⟩; obtain rfl := hee.symm; clear hee) | (go_at_call 44; refine (hold44 R _ (HN.out _ B1.out 20 (by decide) (by decide))).mono ?_; rintro e w' ⟨rfl, hee⟩; obtain rfl := hee.symm; clear hee) | (go_at_call 45; refine (hold45 R _ (HN.out _ B1.out 22 (by decide) (by decide))).mono ?_; rintro e w' ⟨rfl, hee⟩; obtain rfl := hee.symm; clear hee) | (go_at_call 46; refine (hold46 R _ (HN.out _ B1.out 24 (by decide) (by decide))).mono ?_; rintro e w' ⟨rfl, hee⟩; obtain rfl := hee.symm; clear hee) | (go_at_call 47; refine (hold47 R _ (HN.out _ B1.out 26 (by decide) (by decide))).mono ?_; rintro e w' ⟨rfl, hee⟩; obtain rfl := hee.symm; clear hee))
  go_ret
  exact ⟨rfl, B1.out⟩
end Go.Proofs.YtdanjbbemmngnaaGreatDoor
