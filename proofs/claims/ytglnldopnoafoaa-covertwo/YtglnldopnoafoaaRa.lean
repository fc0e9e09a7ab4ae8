import Derived.Test.YtglnldopnoafoaaAa
import Derived.Deep.LoopGhost
import Derived.OwnWalk
namespace Go.Proofs.Ytglnldopnoafoaa
open Go Go.RowKit
set_option linter.unusedSimpArgs false
set_option linter.unusedVariables false

/-- How many bytes go on behind a first one, and between which bounds the first of them is. -/
def mr (c : Nat) : Int × Nat × Nat :=
  if c ≤ 127 then (0, 0, 0) else if c ≤ 193 then (-1, 0, 0) else if c ≤ 223 then (1, 128, 191) else if c ≤ 224 then (2, 160, 191) else if c ≤ 236 then (2, 128, 191) else if c ≤ 237 then (2, 128, 159) else if c ≤ 239 then (2, 128, 191) else if c ≤ 240 then (3, 144, 191) else if c ≤ 243 then (3, 128, 191) else if c ≤ 244 then (3, 128, 143) else (-1, 0, 0)
theorem mr_0 (c : Nat) (h1 : 0 ≤ c) (h2 : c ≤ 127) : mr c = (0, 0, 0) := by unfold mr; rw [if_pos (by omega)]
theorem mr_1 (c : Nat) (h1 : 128 ≤ c) (h2 : c ≤ 193) : mr c = (-1, 0, 0) := by unfold mr; rw [if_neg (by omega), if_pos (by omega)]
theorem mr_2 (c : Nat) (h1 : 194 ≤ c) (h2 : c ≤ 223) : mr c = (1, 128, 191) := by unfold mr; rw [if_neg (by omega), if_neg (by omega), if_pos (by omega)]
theorem mr_3 (c : Nat) (h1 : 224 ≤ c) (h2 : c ≤ 224) : mr c = (2, 160, 191) := by unfold mr; rw [if_neg (by omega), if_neg (by omega), if_neg (by omega), if_pos (by omega)]
theorem mr_4 (c : Nat) (h1 : 225 ≤ c) (h2 : c ≤ 236) : mr c = (2, 128, 191) := by unfold mr; rw [if_neg (by omega), if_neg (by omega), if_neg (by omega), if_neg (by omega), if_pos (by omega)]
theorem mr_5 (c : Nat) (h1 : 237 ≤ c) (h2 : c ≤ 237) : mr c = (2, 128, 159) := by unfold mr; rw [if_neg (by omega), if_neg (by omega), if_neg (by omega), if_neg (by omega), if_neg (by omega), if_pos (by omega)]
theorem mr_6 (c : Nat) (h1 : 238 ≤ c) (h2 : c ≤ 239) : mr c = (2, 128, 191) := by unfold mr; rw [if_neg (by omega), if_neg (by omega), if_neg (by omega), if_neg (by omega), if_neg (by omega), if_neg (by omega), if_pos (by omega)]
theorem mr_7 (c : Nat) (h1 : 240 ≤ c) (h2 : c ≤ 240) : mr c = (3, 144, 191) := by unfold mr; rw [if_neg (by omega), if_neg (by omega), if_neg (by omega), if_neg (by omega), if_neg (by omega), if_neg (by omega), if_neg (by omega), if_pos (by omega)]
theorem mr_8 (c : Nat) (h1 : 241 ≤ c) (h2 : c ≤ 243) : mr c = (3, 128, 191) := by unfold mr; rw [if_neg (by omega), if_neg (by omega), if_neg (by omega), if_neg (by omega), if_neg (by omega), if_neg (by omega), if_neg (by omega), if_neg (by omega), if_pos (by omega)]
theorem mr_9 (c : Nat) (h1 : 244 ≤ c) (h2 : c ≤ 244) : mr c = (3, 128, 143) := by unfold mr; rw [if_neg (by omega), if_neg (by omega), if_neg (by omega), if_neg (by omega), if_neg (by omega), if_neg (by omega), if_neg (by omega), if_neg (by omega), if_neg (by omega), if_pos (by omega)]
theorem mr_10 (c : Nat) (h1 : 245 ≤ c) (h2 : c ≤ 255) : mr c = (-1, 0, 0) := by unfold mr; rw [if_neg (by omega), if_neg (by omega), if_neg (by omega), if_neg (by omega), if_neg (by omega), if_neg (by omega), if_neg (by omega), if_neg (by omega), if_neg (by omega), if_neg (by omega)]
theorem more_0 (c : Int) (h1 : 0 ≤ c) (h2 : c ≤ 127) (w : World) : Calls Try.prog 62 #[.int .u8 c] w fun e w' => e = .returned (.tuple #[.int .i64 (0), .int .u8 0, .int .u8 0]) ∧ w' = w := by
  have a0 : c < 128 := by omega
  have a1 : ¬ 194 ≤ c := by omega
  have a2 : ¬ 225 ≤ c := by omega
  have a3 : ¬ 241 ≤ c := by omega
  have z0 : (c == 224) = false := by simp; omega
  have z1 : (c == 237) = false := by simp; omega
  have z2 : (c == 240) = false := by simp; omega
  have z3 : (c == 244) = false := by simp; omega
  clear h1 h2
  go_enter Try.func62, Try.ntmps62
  go_wp2
  go_ret3
  exact ⟨rfl, rfl⟩
theorem more_1 (c : Int) (h1 : 128 ≤ c) (h2 : c ≤ 193) (w : World) : Calls Try.prog 62 #[.int .u8 c] w fun e w' => e = .returned (.tuple #[.int .i64 (-1), .int .u8 0, .int .u8 0]) ∧ w' = w := by
  have a0 : ¬ c < 128 := by omega
  have a1 : ¬ 194 ≤ c := by omega
  have a2 : ¬ 225 ≤ c := by omega
  have a3 : ¬ 241 ≤ c := by omega
  have z0 : (c == 224) = false := by simp; omega
  have z1 : (c == 237) = false := by simp; omega
  have z2 : (c == 240) = false := by simp; omega
  have z3 : (c == 244) = false := by simp; omega
  clear h1 h2
  go_enter Try.func62, Try.ntmps62
  go_wp2
  go_ret3
  exact ⟨rfl, rfl⟩
theorem more_2 (c : Int) (h1 : 194 ≤ c) (h2 : c ≤ 223) (w : World) : Calls Try.prog 62 #[.int .u8 c] w fun e w' => e = .returned (.tuple #[.int .i64 (1), .int .u8 128, .int .u8 191]) ∧ w' = w := by
  have a0 : ¬ c < 128 := by omega
  have a1 : 194 ≤ c := by omega
  have a1b : c ≤ 223 := by omega
  have a2 : ¬ 225 ≤ c := by omega
  have a3 : ¬ 241 ≤ c := by omega
  have z0 : (c == 224) = false := by simp; omega
  have z1 : (c == 237) = false := by simp; omega
  have z2 : (c == 240) = false := by simp; omega
  have z3 : (c == 244) = false := by simp; omega
  clear h1 h2
  go_enter Try.func62, Try.ntmps62
  go_wp2
  go_ret3
  exact ⟨rfl, rfl⟩
theorem more_3 (c : Int) (h1 : 224 ≤ c) (h2 : c ≤ 224) (w : World) : Calls Try.prog 62 #[.int .u8 c] w fun e w' => e = .returned (.tuple #[.int .i64 (2), .int .u8 160, .int .u8 191]) ∧ w' = w := by
  have a0 : ¬ c < 128 := by omega
  have a1 : 194 ≤ c := by omega
  have a1b : ¬ c ≤ 223 := by omega
  have a2 : ¬ 225 ≤ c := by omega
  have a3 : ¬ 241 ≤ c := by omega
  have z0 : (c == 224) = true := by simp; omega
  have z1 : (c == 237) = false := by simp; omega
  have z2 : (c == 240) = false := by simp; omega
  have z3 : (c == 244) = false := by simp; omega
  clear h1 h2
  go_enter Try.func62, Try.ntmps62
  go_wp2
  go_ret3
  exact ⟨rfl, rfl⟩
theorem more_4 (c : Int) (h1 : 225 ≤ c) (h2 : c ≤ 236) (w : World) : Calls Try.prog 62 #[.int .u8 c] w fun e w' => e = .returned (.tuple #[.int .i64 (2), .int .u8 128, .int .u8 191]) ∧ w' = w := by
  have a0 : ¬ c < 128 := by omega
  have a1 : 194 ≤ c := by omega
  have a1b : ¬ c ≤ 223 := by omega
  have a2 : 225 ≤ c := by omega
  have a2b : c ≤ 239 := by omega
  have a3 : ¬ 241 ≤ c := by omega
  have z0 : (c == 224) = false := by simp; omega
  have z1 : (c == 237) = false := by simp; omega
  have z2 : (c == 240) = false := by simp; omega
  have z3 : (c == 244) = false := by simp; omega
  clear h1 h2
  go_enter Try.func62, Try.ntmps62
  go_wp2
  go_ret3
  exact ⟨rfl, rfl⟩
theorem more_5 (c : Int) (h1 : 237 ≤ c) (h2 : c ≤ 237) (w : World) : Calls Try.prog 62 #[.int .u8 c] w fun e w' => e = .returned (.tuple #[.int .i64 (2), .int .u8 128, .int .u8 159]) ∧ w' = w := by
  have a0 : ¬ c < 128 := by omega
  have a1 : 194 ≤ c := by omega
  have a1b : ¬ c ≤ 223 := by omega
  have a2 : 225 ≤ c := by omega
  have a2b : c ≤ 239 := by omega
  have a3 : ¬ 241 ≤ c := by omega
  have z0 : (c == 224) = false := by simp; omega
  have z1 : (c == 237) = true := by simp; omega
  have z2 : (c == 240) = false := by simp; omega
  have z3 : (c == 244) = false := by simp; omega
  clear h1 h2
  go_enter Try.func62, Try.ntmps62
  go_wp2
  go_ret3
  exact ⟨rfl, rfl⟩
theorem more_6 (c : Int) (h1 : 238 ≤ c) (h2 : c ≤ 239) (w : World) : Calls Try.prog 62 #[.int .u8 c] w fun e w' => e = .returned (.tuple #[.int .i64 (2), .int .u8 128, .int .u8 191]) ∧ w' = w := by
  have a0 : ¬ c < 128 := by omega
  have a1 : 194 ≤ c := by omega
  have a1b : ¬ c ≤ 223 := by omega
  have a2 : 225 ≤ c := by omega
  have a2b : c ≤ 239 := by omega
  have a3 : ¬ 241 ≤ c := by omega
  have z0 : (c == 224) = false := by simp; omega
  have z1 : (c == 237) = false := by simp; omega
  have z2 : (c == 240) = false := by simp; omega
  have z3 : (c == 244) = false := by simp; omega
  clear h1 h2
  go_enter Try.func62, Try.ntmps62
  go_wp2
  go_ret3
  exact ⟨rfl, rfl⟩
theorem more_7 (c : Int) (h1 : 240 ≤ c) (h2 : c ≤ 240) (w : World) : Calls Try.prog 62 #[.int .u8 c] w fun e w' => e = .returned (.tuple #[.int .i64 (3), .int .u8 144, .int .u8 191]) ∧ w' = w := by
  have a0 : ¬ c < 128 := by omega
  have a1 : 194 ≤ c := by omega
  have a1b : ¬ c ≤ 223 := by omega
  have a2 : 225 ≤ c := by omega
  have a2b : ¬ c ≤ 239 := by omega
  have a3 : ¬ 241 ≤ c := by omega
  have z0 : (c == 224) = false := by simp; omega
  have z1 : (c == 237) = false := by simp; omega
  have z2 : (c == 240) = true := by simp; omega
  have z3 : (c == 244) = false := by simp; omega
  clear h1 h2
  go_enter Try.func62, Try.ntmps62
  go_wp2
  go_ret3
  exact ⟨rfl, rfl⟩
theorem more_8 (c : Int) (h1 : 241 ≤ c) (h2 : c ≤ 243) (w : World) : Calls Try.prog 62 #[.int .u8 c] w fun e w' => e = .returned (.tuple #[.int .i64 (3), .int .u8 128, .int .u8 191]) ∧ w' = w := by
  have a0 : ¬ c < 128 := by omega
  have a1 : 194 ≤ c := by omega
  have a1b : ¬ c ≤ 223 := by omega
  have a2 : 225 ≤ c := by omega
  have a2b : ¬ c ≤ 239 := by omega
  have a3 : 241 ≤ c := by omega
  have a3b : c ≤ 243 := by omega
  have z0 : (c == 224) = false := by simp; omega
  have z1 : (c == 237) = false := by simp; omega
  have z2 : (c == 240) = false := by simp; omega
  have z3 : (c == 244) = false := by simp; omega
  clear h1 h2
  go_enter Try.func62, Try.ntmps62
  go_wp2
  go_ret3
  exact ⟨rfl, rfl⟩
theorem more_9 (c : Int) (h1 : 244 ≤ c) (h2 : c ≤ 244) (w : World) : Calls Try.prog 62 #[.int .u8 c] w fun e w' => e = .returned (.tuple #[.int .i64 (3), .int .u8 128, .int .u8 143]) ∧ w' = w := by
  have a0 : ¬ c < 128 := by omega
  have a1 : 194 ≤ c := by omega
  have a1b : ¬ c ≤ 223 := by omega
  have a2 : 225 ≤ c := by omega
  have a2b : ¬ c ≤ 239 := by omega
  have a3 : 241 ≤ c := by omega
  have a3b : ¬ c ≤ 243 := by omega
  have z0 : (c == 224) = false := by simp; omega
  have z1 : (c == 237) = false := by simp; omega
  have z2 : (c == 240) = false := by simp; omega
  have z3 : (c == 244) = true := by simp; omega
  clear h1 h2
  go_enter Try.func62, Try.ntmps62
  go_wp2
  go_ret3
  exact ⟨rfl, rfl⟩
theorem more_10 (c : Int) (h1 : 245 ≤ c) (h2 : c ≤ 255) (w : World) : Calls Try.prog 62 #[.int .u8 c] w fun e w' => e = .returned (.tuple #[.int .i64 (-1), .int .u8 0, .int .u8 0]) ∧ w' = w := by
  have a0 : ¬ c < 128 := by omega
  have a1 : 194 ≤ c := by omega
  have a1b : ¬ c ≤ 223 := by omega
  have a2 : 225 ≤ c := by omega
  have a2b : ¬ c ≤ 239 := by omega
  have a3 : 241 ≤ c := by omega
  have a3b : ¬ c ≤ 243 := by omega
  have z0 : (c == 224) = false := by simp; omega
  have z1 : (c == 237) = false := by simp; omega
  have z2 : (c == 240) = false := by simp; omega
  have z3 : (c == 244) = false := by simp; omega
  clear h1 h2
  go_enter Try.func62, Try.ntmps62
  go_wp2
  go_ret3
  exact ⟨rfl, rfl⟩
theorem more_any (c : Nat) (hc : c ≤ 255) (w : World) : Calls Try.prog 62 #[.int .u8 c] w fun e w' => e = .returned (.tuple #[.int .i64 (mr c).1, .int .u8 (mr c).2.1, .int .u8 (mr c).2.2]) ∧ w' = w := by
  by_cases h0 : c ≤ 127
  · rw [mr_0 c (by omega) h0]; exact more_0 c (by omega) (by omega) w
  by_cases h1 : c ≤ 193
  · rw [mr_1 c (by omega) h1]; exact more_1 c (by omega) (by omega) w
  by_cases h2 : c ≤ 223
  · rw [mr_2 c (by omega) h2]; exact more_2 c (by omega) (by omega) w
  by_cases h3 : c ≤ 224
  · rw [mr_3 c (by omega) h3]; exact more_3 c (by omega) (by omega) w
  by_cases h4 : c ≤ 236
  · rw [mr_4 c (by omega) h4]; exact more_4 c (by omega) (by omega) w
  by_cases h5 : c ≤ 237
  · rw [mr_5 c (by omega) h5]; exact more_5 c (by omega) (by omega) w
  by_cases h6 : c ≤ 239
  · rw [mr_6 c (by omega) h6]; exact more_6 c (by omega) (by omega) w
  by_cases h7 : c ≤ 240
  · rw [mr_7 c (by omega) h7]; exact more_7 c (by omega) (by omega) w
  by_cases h8 : c ≤ 243
  · rw [mr_8 c (by omega) h8]; exact more_8 c (by omega) (by omega) w
  by_cases h9 : c ≤ 244
  · rw [mr_9 c (by omega) h9]; exact more_9 c (by omega) (by omega) w
  rw [mr_10 c (by omega) hc]; exact more_10 c (by omega) (by omega) w

def lo5 (L j : Nat) : Nat := if j = 1 then L else 128
def hi5 (H j : Nat) : Nat := if j = 1 then H else 191
/-- Does a byte behind the first one fit? -/
def In5 (s : ByteArray) (k L H j : Nat) : Prop := lo5 L j ≤ atB s (k + j) ∧ atB s (k + j) ≤ hi5 H j
theorem mr_most (c : Nat) : (mr c).1 ≤ 3 ∧ -1 ≤ (mr c).1 := by unfold mr; (repeat' split) <;> (constructor <;> decide)
theorem mr_low (c : Nat) (h : 1 ≤ (mr c).1) : 128 ≤ (mr c).2.1 := by
  revert h; unfold mr; (repeat' split) <;> (intro h; first | (exact absurd h (by decide)) | decide)
theorem point_neg (s : ByteArray) (k : Nat) (h : (mr (atB s k)).1 < 0) : point s k = 0 := by
  have h0 := atB_lt s k
  revert h
  unfold point
  generalize atB s k = c at *
  intro h
  by_cases a : c ≤ 193
  · by_cases b : c ≤ 127
    · rw [mr_0 c (by omega) b] at h; exact absurd h (by decide)
    · unfold pt
      rw [if_neg (by omega), if_neg (by omega), if_neg (by omega), if_neg (by omega)]
  · by_cases b : c ≤ 244
    · exfalso
      revert h; unfold mr; (repeat' split) <;> (intro h; first | (exact absurd h (by decide)) | omega)
    · unfold pt
      rw [if_neg (by omega), if_neg (by omega), if_neg (by omega), if_neg (by omega)]
theorem point_ok (s : ByteArray) (k m : Nat) (hm : (mr (atB s k)).1 = m) (hj : ∀ j, 1 ≤ j → j ≤ m → In5 s k (mr (atB s k)).2.1 (mr (atB s k)).2.2 j) : point s k = m + 1 := by
  have h0 := atB_lt s k
  obtain ⟨c, hc⟩ : ∃ c, atB s k = c := ⟨_, rfl⟩
  rw [hc] at hm hj h0
  by_cases r0 : c ≤ 127
  · have e := mr_0 c (by omega) (by omega)
    rw [e] at hm hj
    obtain rfl : m = 0 := by simp at hm; omega
    unfold point pt
    rw [hc, if_pos (by omega)]
  by_cases r1 : c ≤ 193
  · have e := mr_1 c (by omega) (by omega)
    rw [e] at hm hj
    exfalso; revert hm; simp; try omega
  by_cases r2 : c ≤ 223
  · have e := mr_2 c (by omega) (by omega)
    rw [e] at hm hj
    obtain rfl : m = 1 := by simp at hm; omega
    have h1 := hj 1 (by decide) (by decide)
    simp [In5, lo5, hi5] at h1
    unfold point pt
    rw [hc, if_neg (by omega), if_pos (by omega)]
  by_cases r3 : c ≤ 224
  · have e := mr_3 c (by omega) (by omega)
    rw [e] at hm hj
    obtain rfl : m = 2 := by simp at hm; omega
    have h1 := hj 1 (by decide) (by decide)
    have h2 := hj 2 (by decide) (by decide)
    simp [In5, lo5, hi5] at h1 h2
    unfold point pt
    rw [hc, if_neg (by omega), if_neg (by omega), if_pos (by omega)]
  by_cases r4 : c ≤ 236
  · have e := mr_4 c (by omega) (by omega)
    rw [e] at hm hj
    obtain rfl : m = 2 := by simp at hm; omega
    have h1 := hj 1 (by decide) (by decide)
    have h2 := hj 2 (by decide) (by decide)
    simp [In5, lo5, hi5] at h1 h2
    unfold point pt
    rw [hc, if_neg (by omega), if_neg (by omega), if_pos (by omega)]
  by_cases r5 : c ≤ 237
  · have e := mr_5 c (by omega) (by omega)
    rw [e] at hm hj
    obtain rfl : m = 2 := by simp at hm; omega
    have h1 := hj 1 (by decide) (by decide)
    have h2 := hj 2 (by decide) (by decide)
    simp [In5, lo5, hi5] at h1 h2
    unfold point pt
    rw [hc, if_neg (by omega), if_neg (by omega), if_pos (by omega)]
  by_cases r6 : c ≤ 239
  · have e := mr_6 c (by omega) (by omega)
    rw [e] at hm hj
    obtain rfl : m = 2 := by simp at hm; omega
    have h1 := hj 1 (by decide) (by decide)
    have h2 := hj 2 (by decide) (by decide)
    simp [In5, lo5, hi5] at h1 h2
    unfold point pt
    rw [hc, if_neg (by omega), if_neg (by omega), if_pos (by omega)]
  by_cases r7 : c ≤ 240
  · have e := mr_7 c (by omega) (by omega)
    rw [e] at hm hj
    obtain rfl : m = 3 := by simp at hm; omega
    have h1 := hj 1 (by decide) (by decide)
    have h2 := hj 2 (by decide) (by decide)
    have h3 := hj 3 (by decide) (by decide)
    simp [In5, lo5, hi5] at h1 h2 h3
    unfold point pt
    rw [hc, if_neg (by omega), if_neg (by omega), if_neg (by omega), if_pos (by omega)]
  by_cases r8 : c ≤ 243
  · have e := mr_8 c (by omega) (by omega)
    rw [e] at hm hj
    obtain rfl : m = 3 := by simp at hm; omega
    have h1 := hj 1 (by decide) (by decide)
    have h2 := hj 2 (by decide) (by decide)
    have h3 := hj 3 (by decide) (by decide)
    simp [In5, lo5, hi5] at h1 h2 h3
    unfold point pt
    rw [hc, if_neg (by omega), if_neg (by omega), if_neg (by omega), if_pos (by omega)]
  by_cases r9 : c ≤ 244
  · have e := mr_9 c (by omega) (by omega)
    rw [e] at hm hj
    obtain rfl : m = 3 := by simp at hm; omega
    have h1 := hj 1 (by decide) (by decide)
    have h2 := hj 2 (by decide) (by decide)
    have h3 := hj 3 (by decide) (by decide)
    simp [In5, lo5, hi5] at h1 h2 h3
    unfold point pt
    rw [hc, if_neg (by omega), if_neg (by omega), if_neg (by omega), if_pos (by omega)]
  have e := mr_10 c (by omega) (by omega)
  rw [e] at hm hj
  exfalso; revert hm; simp; try omega
theorem point_no (s : ByteArray) (k m : Nat) (hm : (mr (atB s k)).1 = m) (hj : ∃ j, 1 ≤ j ∧ j ≤ m ∧ ¬ In5 s k (mr (atB s k)).2.1 (mr (atB s k)).2.2 j) : point s k = 0 := by
  have h0 := atB_lt s k
  obtain ⟨c, hc⟩ : ∃ c, atB s k = c := ⟨_, rfl⟩
  rw [hc] at hm hj h0
  by_cases r0 : c ≤ 127
  · have e := mr_0 c (by omega) (by omega)
    rw [e] at hm hj
    obtain rfl : m = 0 := by simp at hm; omega
    obtain ⟨j, j1, j2, hj⟩ := hj
    omega
  by_cases r1 : c ≤ 193
  · have e := mr_1 c (by omega) (by omega)
    rw [e] at hm hj
    exfalso; revert hm; simp; try omega
  by_cases r2 : c ≤ 223
  · have e := mr_2 c (by omega) (by omega)
    rw [e] at hm hj
    obtain rfl : m = 1 := by simp at hm; omega
    obtain ⟨j, j1, j2, hj⟩ := hj
    unfold point pt
    rw [hc]
    have jj : j = 1 := by omega
    rcases jj with rfl <;> simp [In5, lo5, hi5] at hj <;> rw [if_neg (by omega), if_neg (by omega), if_neg (by omega), if_neg (by omega)]
  by_cases r3 : c ≤ 224
  · have e := mr_3 c (by omega) (by omega)
    rw [e] at hm hj
    obtain rfl : m = 2 := by simp at hm; omega
    obtain ⟨j, j1, j2, hj⟩ := hj
    unfold point pt
    rw [hc]
    have jj : j = 1 ∨ j = 2 := by omega
    rcases jj with rfl | rfl <;> simp [In5, lo5, hi5] at hj <;> rw [if_neg (by omega), if_neg (by omega), if_neg (by omega), if_neg (by omega)]
  by_cases r4 : c ≤ 236
  · have e := mr_4 c (by omega) (by omega)
    rw [e] at hm hj
    obtain rfl : m = 2 := by simp at hm; omega
    obtain ⟨j, j1, j2, hj⟩ := hj
    unfold point pt
    rw [hc]
    have jj : j = 1 ∨ j = 2 := by omega
    rcases jj with rfl | rfl <;> simp [In5, lo5, hi5] at hj <;> rw [if_neg (by omega), if_neg (by omega), if_neg (by omega), if_neg (by omega)]
  by_cases r5 : c ≤ 237
  · have e := mr_5 c (by omega) (by omega)
    rw [e] at hm hj
    obtain rfl : m = 2 := by simp at hm; omega
    obtain ⟨j, j1, j2, hj⟩ := hj
    unfold point pt
    rw [hc]
    have jj : j = 1 ∨ j = 2 := by omega
    rcases jj with rfl | rfl <;> simp [In5, lo5, hi5] at hj <;> rw [if_neg (by omega), if_neg (by omega), if_neg (by omega), if_neg (by omega)]
  by_cases r6 : c ≤ 239
  · have e := mr_6 c (by omega) (by omega)
    rw [e] at hm hj
    obtain rfl : m = 2 := by simp at hm; omega
    obtain ⟨j, j1, j2, hj⟩ := hj
    unfold point pt
    rw [hc]
    have jj : j = 1 ∨ j = 2 := by omega
    rcases jj with rfl | rfl <;> simp [In5, lo5, hi5] at hj <;> rw [if_neg (by omega), if_neg (by omega), if_neg (by omega), if_neg (by omega)]
  by_cases r7 : c ≤ 240
  · have e := mr_7 c (by omega) (by omega)
    rw [e] at hm hj
    obtain rfl : m = 3 := by simp at hm; omega
    obtain ⟨j, j1, j2, hj⟩ := hj
    unfold point pt
    rw [hc]
    have jj : j = 1 ∨ j = 2 ∨ j = 3 := by omega
    rcases jj with rfl | rfl | rfl <;> simp [In5, lo5, hi5] at hj <;> rw [if_neg (by omega), if_neg (by omega), if_neg (by omega), if_neg (by omega)]
  by_cases r8 : c ≤ 243
  · have e := mr_8 c (by omega) (by omega)
    rw [e] at hm hj
    obtain rfl : m = 3 := by simp at hm; omega
    obtain ⟨j, j1, j2, hj⟩ := hj
    unfold point pt
    rw [hc]
    have jj : j = 1 ∨ j = 2 ∨ j = 3 := by omega
    rcases jj with rfl | rfl | rfl <;> simp [In5, lo5, hi5] at hj <;> rw [if_neg (by omega), if_neg (by omega), if_neg (by omega), if_neg (by omega)]
  by_cases r9 : c ≤ 244
  · have e := mr_9 c (by omega) (by omega)
    rw [e] at hm hj
    obtain rfl : m = 3 := by simp at hm; omega
    obtain ⟨j, j1, j2, hj⟩ := hj
    unfold point pt
    rw [hc]
    have jj : j = 1 ∨ j = 2 ∨ j = 3 := by omega
    rcases jj with rfl | rfl | rfl <;> simp [In5, lo5, hi5] at hj <;> rw [if_neg (by omega), if_neg (by omega), if_neg (by omega), if_neg (by omega)]
  have e := mr_10 c (by omega) (by omega)
  rw [e] at hm hj
  exfalso; revert hm; simp; try omega
end Go.Proofs.Ytglnldopnoafoaa
