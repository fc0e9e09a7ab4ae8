import Derived.Test.YtkjeneklkdekoaaGreatDoorProg
import Derived.Test.YtkjeneklkdekoaaGreatDoorPt
import Derived.WalkKit
import Derived.WalkSpells
import Derived.WalkLawsBesides
namespace Go.Proofs.YtkjeneklkdekoaaGreatDoor.Rm
open Go.RowKit
set_option linter.unusedSimpArgs false
set_option linter.unusedVariables false

/-- Is a number within two others? -/
def wi (c a b : Int) : Bool := decide (a ≤ c) && decide (c ≤ b)
/-- The byte at a place, as a number. -/
def atI (s : ByteArray) (j : Int) : Int := atB s j.toNat
/-- Do the bytes from a place on, so many, all go on with a code point? -/
def tlN (s : ByteArray) (f : Nat) : Nat → Bool
  | 0 => true
  | n + 1 => tlN s f n && wi (atI s (f + n : Nat)) 128 191
/-- From a place up to another. -/
def tlI (s : ByteArray) (j l : Int) : Bool := tlN s j.toNat (l - j).toNat

theorem tlN_false (s : ByteArray) (f : Nat) : ∀ (m n : Nat), tlN s f m = false → m ≤ n → tlN s f n = false
  | m, 0, h, hm => by
    obtain rfl : m = 0 := by omega
    exact h
  | m, n + 1, h, hm => by
    by_cases e : m = n + 1
    · subst e; exact h
    · simp [tlN, tlN_false s f m n h (by omega)]

theorem within_any (c a b : Int) (w : World) :
    Calls Tryz.prog 136 #[.int .u8 c, .int .u8 a, .int .u8 b] w fun e w' => e = .returned (.bool (wi c a b)) ∧ w' = w := by
  by_cases h1 : a ≤ c
  · by_cases h2 : c ≤ b
    · have hw : wi c a b = true := by simp [wi, h1, h2]
      rw [hw]
      clear hw
      go_enter Tryz.func136, Tryz.ntmps136
      go_wp2
      go_ret
      exact ⟨rfl, rfl⟩
    · have hw : wi c a b = false := by simp [wi, h2]
      rw [hw]
      clear hw
      go_enter Tryz.func136, Tryz.ntmps136
      go_wp2
      go_ret
      exact ⟨rfl, rfl⟩
  · have hw : wi c a b = false := by simp [wi, h1]
    rw [hw]
    clear hw
    go_enter Tryz.func136, Tryz.ntmps136
    go_wp2
    go_ret
    exact ⟨rfl, rfl⟩

theorem at_any (s : ByteArray) (j : Int) (hj : 0 ≤ j) (w : World) :
    Calls Tryz.prog 135 #[.string s, .int .i64 j] w fun e w' => e = .returned (.int .u8 (atI s j)) ∧ w' = w := by
  obtain ⟨i, rfl⟩ : ∃ i : Nat, j = i := ⟨j.toNat, by omega⟩
  have e : atI s (i : Int) = atB s i := rfl
  rw [e]
  clear e hj
  by_cases h : i < s.size
  · rw [atB_in s i h]
    go_enter Tryz.func135, Tryz.ntmps135
    go_wp2
    go_ret
    exact ⟨rfl, rfl⟩
  · rw [atB_out s i h]
    go_enter Tryz.func135, Tryz.ntmps135
    go_wp2
    go_ret
    exact ⟨rfl, rfl⟩

set_option maxHeartbeats 400000 in
theorem tail_nat (s : ByteArray) (f n : Nat) (hb : f + n ≤ 1000000000) (w : World) :
    Calls Tryz.prog 137 #[.string s, .int .i64 f, .int .i64 (f + n : Int)] w fun e w' => e = .returned (.bool (tlN s f n)) ∧ w' = w := by
  go_enter Tryz.func137, Tryz.ntmps137
  go_wp2
  go_loop [7] (fun i => ∃ k : Nat, k ≤ n ∧ i = .int .i64 ((f + k : Nat) : Int) ∧ tlN s f k = true) (fun i => f + n - (intOf i).toNat)
  case atStart => exact ⟨0, Nat.zero_le _, rfl, rfl⟩
  case round =>
    obtain ⟨k, hk, rfl, ht⟩ := hrel
    have HT : Hid (tlN s f k = true) := ht
    clear ht
    by_cases hlt : k < n
    · by_cases hw : wi (atI s ((f : Int) + (k : Int))) 128 191 = true
      · have HS : Hid (tlN s f (k + 1) = true) := by have h1 := HT.out; simp only [tlN, h1, Int.natCast_add, hw, Bool.and_true, Hid]
        go_wp2_with (first | (go_at_call 135; refine (at_any _ _ (by omega) _).mono ?_; rintro e w' ⟨rfl, rfl⟩) | (go_at_call 136; refine (within_any _ _ _ _).mono ?_; rintro e w' ⟨rfl, rfl⟩))
        go_round
        case rel => exact ⟨k + 1, by omega, by go_num, HS.out⟩
        case measure => simp [intOf]; omega
      · have hw' : wi (atI s ((f : Int) + (k : Int))) 128 191 = false := by simpa using hw
        clear hw
        have HS : Hid (tlN s f n = false) := tlN_false s f (k + 1) n (by simp [tlN, hw']) (by omega)
        go_wp2_with (first | (go_at_call 135; refine (at_any _ _ (by omega) _).mono ?_; rintro e w' ⟨rfl, rfl⟩) | (go_at_call 136; refine (within_any _ _ _ _).mono ?_; rintro e w' ⟨rfl, rfl⟩))
        go_ret
        exact ⟨by rw [HS.out]; rfl, rfl⟩
    · obtain rfl : k = n := by omega
      go_wp2
      go_ret
      exact ⟨by rw [HT.out]; rfl, rfl⟩

theorem tail_any (s : ByteArray) (j l : Int) (hj : 0 ≤ j) (hl : j ≤ l) (hb : l ≤ 1000000000) (w : World) :
    Calls Tryz.prog 137 #[.string s, .int .i64 j, .int .i64 l] w fun e w' => e = .returned (.bool (tlI s j l)) ∧ w' = w := by
  obtain ⟨f, rfl⟩ : ∃ f : Nat, j = f := ⟨j.toNat, by omega⟩
  obtain ⟨n, rfl⟩ : ∃ n : Nat, l = (f : Int) + n := ⟨(l - f).toNat, by omega⟩
  have e : tlI s f ((f : Int) + n) = tlN s f n := by
    unfold tlI
    congr 1
    omega
  rw [e]
  exact tail_nat s f n (by omega) w
end Go.Proofs.YtkjeneklkdekoaaGreatDoor.Rm
namespace Go.Proofs.YtkjeneklkdekoaaGreatDoor.Rm
open Go.RowKit
set_option linter.unusedSimpArgs false
set_option linter.unusedVariables false

set_option maxHeartbeats 400000 in
theorem point_way0 (s : ByteArray) (i : Nat) (hb : i ≤ 1000000) (_lo : (0 : Int) ≤ atI s i) (hi : atI s i ≤ 127)  (w : World) :
    Calls Tryz.prog 125 #[.string s, .int .i64 i] w fun e w' => e = .returned (.int .i64 1) ∧ w' = w := by
  go_enter Tryz.func125, Tryz.ntmps125
  go_wp2_with (first | (go_at_call 135; refine (at_any _ _ (by omega) _).mono ?_; rintro e w' ⟨rfl, rfl⟩) | (go_at_call 136; refine (within_any _ _ _ _).mono ?_; rintro e w' ⟨rfl, rfl⟩) | (go_at_call 137; refine (tail_any _ _ _ (by omega) (by omega) (by omega) _).mono ?_; rintro e w' ⟨rfl, rfl⟩))
  go_ret
  exact ⟨rfl, rfl⟩

set_option maxHeartbeats 400000 in
theorem point_way1 (s : ByteArray) (i : Nat) (hb : i ≤ 1000000) (lo : (128 : Int) ≤ atI s i) (hi : atI s i ≤ 193)  (w : World) :
    Calls Tryz.prog 125 #[.string s, .int .i64 i] w fun e w' => e = .returned (.int .i64 0) ∧ w' = w := by
  have x0 : ¬ atI s i ≤ 127 := by omega
  have y0 : wi (atI s i) 194 223 = false := by simp [wi]; omega
  have y1 : wi (atI s i) 225 236 = false := by simp [wi]; omega
  have y2 : wi (atI s i) 238 239 = false := by simp [wi]; omega
  have y3 : wi (atI s i) 241 243 = false := by simp [wi]; omega
  have z0 : (atI s i == 224) = false := by simp; omega
  have z1 : (atI s i == 237) = false := by simp; omega
  have z2 : (atI s i == 240) = false := by simp; omega
  have z3 : (atI s i == 244) = false := by simp; omega
  clear lo hi
  go_enter Tryz.func125, Tryz.ntmps125
  go_wp2_with (first | (go_at_call 135; refine (at_any _ _ (by omega) _).mono ?_; rintro e w' ⟨rfl, rfl⟩) | (go_at_call 136; refine (within_any _ _ _ _).mono ?_; rintro e w' ⟨rfl, rfl⟩) | (go_at_call 137; refine (tail_any _ _ _ (by omega) (by omega) (by omega) _).mono ?_; rintro e w' ⟨rfl, rfl⟩))
  go_ret
  exact ⟨rfl, rfl⟩

set_option maxHeartbeats 400000 in
theorem point_way2 (s : ByteArray) (i : Nat) (hb : i ≤ 1000000) (lo : (194 : Int) ≤ atI s i) (hi : atI s i ≤ 223) (t0 : tlI s ((i : Int) + 1) ((i : Int) + 2) = true) (w : World) :
    Calls Tryz.prog 125 #[.string s, .int .i64 i] w fun e w' => e = .returned (.int .i64 2) ∧ w' = w := by
  have x0 : ¬ atI s i ≤ 127 := by omega
  have y0 : wi (atI s i) 194 223 = true := by simp [wi]; omega
  have y1 : wi (atI s i) 225 236 = false := by simp [wi]; omega
  have y2 : wi (atI s i) 238 239 = false := by simp [wi]; omega
  have y3 : wi (atI s i) 241 243 = false := by simp [wi]; omega
  have z0 : (atI s i == 224) = false := by simp; omega
  have z1 : (atI s i == 237) = false := by simp; omega
  have z2 : (atI s i == 240) = false := by simp; omega
  have z3 : (atI s i == 244) = false := by simp; omega
  clear lo hi
  go_enter Tryz.func125, Tryz.ntmps125
  go_wp2_with (first | (go_at_call 135; refine (at_any _ _ (by omega) _).mono ?_; rintro e w' ⟨rfl, rfl⟩) | (go_at_call 136; refine (within_any _ _ _ _).mono ?_; rintro e w' ⟨rfl, rfl⟩) | (go_at_call 137; refine (tail_any _ _ _ (by omega) (by omega) (by omega) _).mono ?_; rintro e w' ⟨rfl, rfl⟩))
  go_ret
  exact ⟨rfl, rfl⟩

set_option maxHeartbeats 400000 in
theorem point_way3 (s : ByteArray) (i : Nat) (hb : i ≤ 1000000) (lo : (194 : Int) ≤ atI s i) (hi : atI s i ≤ 223) (t0 : tlI s ((i : Int) + 1) ((i : Int) + 2) = false) (w : World) :
    Calls Tryz.prog 125 #[.string s, .int .i64 i] w fun e w' => e = .returned (.int .i64 0) ∧ w' = w := by
  have x0 : ¬ atI s i ≤ 127 := by omega
  have y0 : wi (atI s i) 194 223 = true := by simp [wi]; omega
  have y1 : wi (atI s i) 225 236 = false := by simp [wi]; omega
  have y2 : wi (atI s i) 238 239 = false := by simp [wi]; omega
  have y3 : wi (atI s i) 241 243 = false := by simp [wi]; omega
  have z0 : (atI s i == 224) = false := by simp; omega
  have z1 : (atI s i == 237) = false := by simp; omega
  have z2 : (atI s i == 240) = false := by simp; omega
  have z3 : (atI s i == 244) = false := by simp; omega
  clear lo hi
  go_enter Tryz.func125, Tryz.ntmps125
  go_wp2_with (first | (go_at_call 135; refine (at_any _ _ (by omega) _).mono ?_; rintro e w' ⟨rfl, rfl⟩) | (go_at_call 136; refine (within_any _ _ _ _).mono ?_; rintro e w' ⟨rfl, rfl⟩) | (go_at_call 137; refine (tail_any _ _ _ (by omega) (by omega) (by omega) _).mono ?_; rintro e w' ⟨rfl, rfl⟩))
  go_ret
  exact ⟨rfl, rfl⟩

set_option maxHeartbeats 400000 in
theorem point_way4 (s : ByteArray) (i : Nat) (hb : i ≤ 1000000) (lo : (224 : Int) ≤ atI s i) (hi : atI s i ≤ 224) (t0 : wi (atI s ((i : Int) + 1)) 160 191 = true) (t1 : tlI s ((i : Int) + 2) ((i : Int) + 3) = true) (w : World) :
    Calls Tryz.prog 125 #[.string s, .int .i64 i] w fun e w' => e = .returned (.int .i64 3) ∧ w' = w := by
  have x0 : ¬ atI s i ≤ 127 := by omega
  have y0 : wi (atI s i) 194 223 = false := by simp [wi]; omega
  have y1 : wi (atI s i) 225 236 = false := by simp [wi]; omega
  have y2 : wi (atI s i) 238 239 = false := by simp [wi]; omega
  have y3 : wi (atI s i) 241 243 = false := by simp [wi]; omega
  have z0 : (atI s i == 224) = true := by simp; omega
  have z1 : (atI s i == 237) = false := by simp; omega
  have z2 : (atI s i == 240) = false := by simp; omega
  have z3 : (atI s i == 244) = false := by simp; omega
  clear lo hi
  go_enter Tryz.func125, Tryz.ntmps125
  go_wp2_with (first | (go_at_call 135; refine (at_any _ _ (by omega) _).mono ?_; rintro e w' ⟨rfl, rfl⟩) | (go_at_call 136; refine (within_any _ _ _ _).mono ?_; rintro e w' ⟨rfl, rfl⟩) | (go_at_call 137; refine (tail_any _ _ _ (by omega) (by omega) (by omega) _).mono ?_; rintro e w' ⟨rfl, rfl⟩))
  go_ret
  exact ⟨rfl, rfl⟩

set_option maxHeartbeats 400000 in
theorem point_way5 (s : ByteArray) (i : Nat) (hb : i ≤ 1000000) (lo : (224 : Int) ≤ atI s i) (hi : atI s i ≤ 224) (t0 : wi (atI s ((i : Int) + 1)) 160 191 = true) (t1 : tlI s ((i : Int) + 2) ((i : Int) + 3) = false) (w : World) :
    Calls Tryz.prog 125 #[.string s, .int .i64 i] w fun e w' => e = .returned (.int .i64 0) ∧ w' = w := by
  have x0 : ¬ atI s i ≤ 127 := by omega
  have y0 : wi (atI s i) 194 223 = false := by simp [wi]; omega
  have y1 : wi (atI s i) 225 236 = false := by simp [wi]; omega
  have y2 : wi (atI s i) 238 239 = false := by simp [wi]; omega
  have y3 : wi (atI s i) 241 243 = false := by simp [wi]; omega
  have z0 : (atI s i == 224) = true := by simp; omega
  have z1 : (atI s i == 237) = false := by simp; omega
  have z2 : (atI s i == 240) = false := by simp; omega
  have z3 : (atI s i == 244) = false := by simp; omega
  clear lo hi
  go_enter Tryz.func125, Tryz.ntmps125
  go_wp2_with (first | (go_at_call 135; refine (at_any _ _ (by omega) _).mono ?_; rintro e w' ⟨rfl, rfl⟩) | (go_at_call 136; refine (within_any _ _ _ _).mono ?_; rintro e w' ⟨rfl, rfl⟩) | (go_at_call 137; refine (tail_any _ _ _ (by omega) (by omega) (by omega) _).mono ?_; rintro e w' ⟨rfl, rfl⟩))
  go_ret
  exact ⟨rfl, rfl⟩

set_option maxHeartbeats 400000 in
theorem point_way6 (s : ByteArray) (i : Nat) (hb : i ≤ 1000000) (lo : (224 : Int) ≤ atI s i) (hi : atI s i ≤ 224) (t0 : wi (atI s ((i : Int) + 1)) 160 191 = false) (w : World) :
    Calls Tryz.prog 125 #[.string s, .int .i64 i] w fun e w' => e = .returned (.int .i64 0) ∧ w' = w := by
  have x0 : ¬ atI s i ≤ 127 := by omega
  have y0 : wi (atI s i) 194 223 = false := by simp [wi]; omega
  have y1 : wi (atI s i) 225 236 = false := by simp [wi]; omega
  have y2 : wi (atI s i) 238 239 = false := by simp [wi]; omega
  have y3 : wi (atI s i) 241 243 = false := by simp [wi]; omega
  have z0 : (atI s i == 224) = true := by simp; omega
  have z1 : (atI s i == 237) = false := by simp; omega
  have z2 : (atI s i == 240) = false := by simp; omega
  have z3 : (atI s i == 244) = false := by simp; omega
  clear lo hi
  go_enter Tryz.func125, Tryz.ntmps125
  go_wp2_with (first | (go_at_call 135; refine (at_any _ _ (by omega) _).mono ?_; rintro e w' ⟨rfl, rfl⟩) | (go_at_call 136; refine (within_any _ _ _ _).mono ?_; rintro e w' ⟨rfl, rfl⟩) | (go_at_call 137; refine (tail_any _ _ _ (by omega) (by omega) (by omega) _).mono ?_; rintro e w' ⟨rfl, rfl⟩))
  go_ret
  exact ⟨rfl, rfl⟩

set_option maxHeartbeats 400000 in
theorem point_way7 (s : ByteArray) (i : Nat) (hb : i ≤ 1000000) (lo : (225 : Int) ≤ atI s i) (hi : atI s i ≤ 236) (t0 : tlI s ((i : Int) + 1) ((i : Int) + 3) = true) (w : World) :
    Calls Tryz.prog 125 #[.string s, .int .i64 i] w fun e w' => e = .returned (.int .i64 3) ∧ w' = w := by
  have x0 : ¬ atI s i ≤ 127 := by omega
  have y0 : wi (atI s i) 194 223 = false := by simp [wi]; omega
  have y1 : wi (atI s i) 225 236 = true := by simp [wi]; omega
  have y2 : wi (atI s i) 238 239 = false := by simp [wi]; omega
  have y3 : wi (atI s i) 241 243 = false := by simp [wi]; omega
  have z0 : (atI s i == 224) = false := by simp; omega
  have z1 : (atI s i == 237) = false := by simp; omega
  have z2 : (atI s i == 240) = false := by simp; omega
  have z3 : (atI s i == 244) = false := by simp; omega
  clear lo hi
  go_enter Tryz.func125, Tryz.ntmps125
  go_wp2_with (first | (go_at_call 135; refine (at_any _ _ (by omega) _).mono ?_; rintro e w' ⟨rfl, rfl⟩) | (go_at_call 136; refine (within_any _ _ _ _).mono ?_; rintro e w' ⟨rfl, rfl⟩) | (go_at_call 137; refine (tail_any _ _ _ (by omega) (by omega) (by omega) _).mono ?_; rintro e w' ⟨rfl, rfl⟩))
  go_ret
  exact ⟨rfl, rfl⟩

set_option maxHeartbeats 400000 in
theorem point_way8 (s : ByteArray) (i : Nat) (hb : i ≤ 1000000) (lo : (225 : Int) ≤ atI s i) (hi : atI s i ≤ 236) (t0 : tlI s ((i : Int) + 1) ((i : Int) + 3) = false) (w : World) :
    Calls Tryz.prog 125 #[.string s, .int .i64 i] w fun e w' => e = .returned (.int .i64 0) ∧ w' = w := by
  have x0 : ¬ atI s i ≤ 127 := by omega
  have y0 : wi (atI s i) 194 223 = false := by simp [wi]; omega
  have y1 : wi (atI s i) 225 236 = true := by simp [wi]; omega
  have y2 : wi (atI s i) 238 239 = false := by simp [wi]; omega
  have y3 : wi (atI s i) 241 243 = false := by simp [wi]; omega
  have z0 : (atI s i == 224) = false := by simp; omega
  have z1 : (atI s i == 237) = false := by simp; omega
  have z2 : (atI s i == 240) = false := by simp; omega
  have z3 : (atI s i == 244) = false := by simp; omega
  clear lo hi
  go_enter Tryz.func125, Tryz.ntmps125
  go_wp2_with (first | (go_at_call 135; refine (at_any _ _ (by omega) _).mono ?_; rintro e w' ⟨rfl, rfl⟩) | (go_at_call 136; refine (within_any _ _ _ _).mono ?_; rintro e w' ⟨rfl, rfl⟩) | (go_at_call 137; refine (tail_any _ _ _ (by omega) (by omega) (by omega) _).mono ?_; rintro e w' ⟨rfl, rfl⟩))
  go_ret
  exact ⟨rfl, rfl⟩

set_option maxHeartbeats 400000 in
theorem point_way9 (s : ByteArray) (i : Nat) (hb : i ≤ 1000000) (lo : (237 : Int) ≤ atI s i) (hi : atI s i ≤ 237) (t0 : wi (atI s ((i : Int) + 1)) 128 159 = true) (t1 : tlI s ((i : Int) + 2) ((i : Int) + 3) = true) (w : World) :
    Calls Tryz.prog 125 #[.string s, .int .i64 i] w fun e w' => e = .returned (.int .i64 3) ∧ w' = w := by
  have x0 : ¬ atI s i ≤ 127 := by omega
  have y0 : wi (atI s i) 194 223 = false := by simp [wi]; omega
  have y1 : wi (atI s i) 225 236 = false := by simp [wi]; omega
  have y2 : wi (atI s i) 238 239 = false := by simp [wi]; omega
  have y3 : wi (atI s i) 241 243 = false := by simp [wi]; omega
  have z0 : (atI s i == 224) = false := by simp; omega
  have z1 : (atI s i == 237) = true := by simp; omega
  have z2 : (atI s i == 240) = false := by simp; omega
  have z3 : (atI s i == 244) = false := by simp; omega
  clear lo hi
  go_enter Tryz.func125, Tryz.ntmps125
  go_wp2_with (first | (go_at_call 135; refine (at_any _ _ (by omega) _).mono ?_; rintro e w' ⟨rfl, rfl⟩) | (go_at_call 136; refine (within_any _ _ _ _).mono ?_; rintro e w' ⟨rfl, rfl⟩) | (go_at_call 137; refine (tail_any _ _ _ (by omega) (by omega) (by omega) _).mono ?_; rintro e w' ⟨rfl, rfl⟩))
  go_ret
  exact ⟨rfl, rfl⟩

set_option maxHeartbeats 400000 in
theorem point_way10 (s : ByteArray) (i : Nat) (hb : i ≤ 1000000) (lo : (237 : Int) ≤ atI s i) (hi : atI s i ≤ 237) (t0 : wi (atI s ((i : Int) + 1)) 128 159 = true) (t1 : tlI s ((i : Int) + 2) ((i : Int) + 3) = false) (w : World) :
    Calls Tryz.prog 125 #[.string s, .int .i64 i] w fun e w' => e = .returned (.int .i64 0) ∧ w' = w := by
  have x0 : ¬ atI s i ≤ 127 := by omega
  have y0 : wi (atI s i) 194 223 = false := by simp [wi]; omega
  have y1 : wi (atI s i) 225 236 = false := by simp [wi]; omega
  have y2 : wi (atI s i) 238 239 = false := by simp [wi]; omega
  have y3 : wi (atI s i) 241 243 = false := by simp [wi]; omega
  have z0 : (atI s i == 224) = false := by simp; omega
  have z1 : (atI s i == 237) = true := by simp; omega
  have z2 : (atI s i == 240) = false := by simp; omega
  have z3 : (atI s i == 244) = false := by simp; omega
  clear lo hi
  go_enter Tryz.func125, Tryz.ntmps125
  go_wp2_with (first | (go_at_call 135; refine (at_any _ _ (by omega) _).mono ?_; rintro e w' ⟨rfl, rfl⟩) | (go_at_call 136; refine (within_any _ _ _ _).mono ?_; rintro e w' ⟨rfl, rfl⟩) | (go_at_call 137; refine (tail_any _ _ _ (by omega) (by omega) (by omega) _).mono ?_; rintro e w' ⟨rfl, rfl⟩))
  go_ret
  exact ⟨rfl, rfl⟩

set_option maxHeartbeats 400000 in
theorem point_way11 (s : ByteArray) (i : Nat) (hb : i ≤ 1000000) (lo : (237 : Int) ≤ atI s i) (hi : atI s i ≤ 237) (t0 : wi (atI s ((i : Int) + 1)) 128 159 = false) (w : World) :
    Calls Tryz.prog 125 #[.string s, .int .i64 i] w fun e w' => e = .returned (.int .i64 0) ∧ w' = w := by
  have x0 : ¬ atI s i ≤ 127 := by omega
  have y0 : wi (atI s i) 194 223 = false := by simp [wi]; omega
  have y1 : wi (atI s i) 225 236 = false := by simp [wi]; omega
  have y2 : wi (atI s i) 238 239 = false := by simp [wi]; omega
  have y3 : wi (atI s i) 241 243 = false := by simp [wi]; omega
  have z0 : (atI s i == 224) = false := by simp; omega
  have z1 : (atI s i == 237) = true := by simp; omega
  have z2 : (atI s i == 240) = false := by simp; omega
  have z3 : (atI s i == 244) = false := by simp; omega
  clear lo hi
  go_enter Tryz.func125, Tryz.ntmps125
  go_wp2_with (first | (go_at_call 135; refine (at_any _ _ (by omega) _).mono ?_; rintro e w' ⟨rfl, rfl⟩) | (go_at_call 136; refine (within_any _ _ _ _).mono ?_; rintro e w' ⟨rfl, rfl⟩) | (go_at_call 137; refine (tail_any _ _ _ (by omega) (by omega) (by omega) _).mono ?_; rintro e w' ⟨rfl, rfl⟩))
  go_ret
  exact ⟨rfl, rfl⟩

set_option maxHeartbeats 400000 in
theorem point_way12 (s : ByteArray) (i : Nat) (hb : i ≤ 1000000) (lo : (238 : Int) ≤ atI s i) (hi : atI s i ≤ 239) (t0 : tlI s ((i : Int) + 1) ((i : Int) + 3) = true) (w : World) :
    Calls Tryz.prog 125 #[.string s, .int .i64 i] w fun e w' => e = .returned (.int .i64 3) ∧ w' = w := by
  have x0 : ¬ atI s i ≤ 127 := by omega
  have y0 : wi (atI s i) 194 223 = false := by simp [wi]; omega
  have y1 : wi (atI s i) 225 236 = false := by simp [wi]; omega
  have y2 : wi (atI s i) 238 239 = true := by simp [wi]; omega
  have y3 : wi (atI s i) 241 243 = false := by simp [wi]; omega
  have z0 : (atI s i == 224) = false := by simp; omega
  have z1 : (atI s i == 237) = false := by simp; omega
  have z2 : (atI s i == 240) = false := by simp; omega
  have z3 : (atI s i == 244) = false := by simp; omega
  clear lo hi
  go_enter Tryz.func125, Tryz.ntmps125
  go_wp2_with (first | (go_at_call 135; refine (at_any _ _ (by omega) _).mono ?_; rintro e w' ⟨rfl, rfl⟩) | (go_at_call 136; refine (within_any _ _ _ _).mono ?_; rintro e w' ⟨rfl, rfl⟩) | (go_at_call 137; refine (tail_any _ _ _ (by omega) (by omega) (by omega) _).mono ?_; rintro e w' ⟨rfl, rfl⟩))
  go_ret
  exact ⟨rfl, rfl⟩

set_option maxHeartbeats 400000 in
theorem point_way13 (s : ByteArray) (i : Nat) (hb : i ≤ 1000000) (lo : (238 : Int) ≤ atI s i) (hi : atI s i ≤ 239) (t0 : tlI s ((i : Int) + 1) ((i : Int) + 3) = false) (w : World) :
    Calls Tryz.prog 125 #[.string s, .int .i64 i] w fun e w' => e = .returned (.int .i64 0) ∧ w' = w := by
  have x0 : ¬ atI s i ≤ 127 := by omega
  have y0 : wi (atI s i) 194 223 = false := by simp [wi]; omega
  have y1 : wi (atI s i) 225 236 = false := by simp [wi]; omega
  have y2 : wi (atI s i) 238 239 = true := by simp [wi]; omega
  have y3 : wi (atI s i) 241 243 = false := by simp [wi]; omega
  have z0 : (atI s i == 224) = false := by simp; omega
  have z1 : (atI s i == 237) = false := by simp; omega
  have z2 : (atI s i == 240) = false := by simp; omega
  have z3 : (atI s i == 244) = false := by simp; omega
  clear lo hi
  go_enter Tryz.func125, Tryz.ntmps125
  go_wp2_with (first | (go_at_call 135; refine (at_any _ _ (by omega) _).mono ?_; rintro e w' ⟨rfl, rfl⟩) | (go_at_call 136; refine (within_any _ _ _ _).mono ?_; rintro e w' ⟨rfl, rfl⟩) | (go_at_call 137; refine (tail_any _ _ _ (by omega) (by omega) (by omega) _).mono ?_; rintro e w' ⟨rfl, rfl⟩))
  go_ret
  exact ⟨rfl, rfl⟩

set_option maxHeartbeats 400000 in
theorem point_way14 (s : ByteArray) (i : Nat) (hb : i ≤ 1000000) (lo : (240 : Int) ≤ atI s i) (hi : atI s i ≤ 240) (t0 : wi (atI s ((i : Int) + 1)) 144 191 = true) (t1 : tlI s ((i : Int) + 2) ((i : Int) + 4) = true) (w : World) :
    Calls Tryz.prog 125 #[.string s, .int .i64 i] w fun e w' => e = .returned (.int .i64 4) ∧ w' = w := by
  have x0 : ¬ atI s i ≤ 127 := by omega
  have y0 : wi (atI s i) 194 223 = false := by simp [wi]; omega
  have y1 : wi (atI s i) 225 236 = false := by simp [wi]; omega
  have y2 : wi (atI s i) 238 239 = false := by simp [wi]; omega
  have y3 : wi (atI s i) 241 243 = false := by simp [wi]; omega
  have z0 : (atI s i == 224) = false := by simp; omega
  have z1 : (atI s i == 237) = false := by simp; omega
  have z2 : (atI s i == 240) = true := by simp; omega
  have z3 : (atI s i == 244) = false := by simp; omega
  clear lo hi
  go_enter Tryz.func125, Tryz.ntmps125
  go_wp2_with (first | (go_at_call 135; refine (at_any _ _ (by omega) _).mono ?_; rintro e w' ⟨rfl, rfl⟩) | (go_at_call 136; refine (within_any _ _ _ _).mono ?_; rintro e w' ⟨rfl, rfl⟩) | (go_at_call 137; refine (tail_any _ _ _ (by omega) (by omega) (by omega) _).mono ?_; rintro e w' ⟨rfl, rfl⟩))
  go_ret
  exact ⟨rfl, rfl⟩

set_option maxHeartbeats 400000 in
theorem point_way15 (s : ByteArray) (i : Nat) (hb : i ≤ 1000000) (lo : (240 : Int) ≤ atI s i) (hi : atI s i ≤ 240) (t0 : wi (atI s ((i : Int) + 1)) 144 191 = true) (t1 : tlI s ((i : Int) + 2) ((i : Int) + 4) = false) (w : World) :
    Calls Tryz.prog 125 #[.string s, .int .i64 i] w fun e w' => e = .returned (.int .i64 0) ∧ w' = w := by
  have x0 : ¬ atI s i ≤ 127 := by omega
  have y0 : wi (atI s i) 194 223 = false := by simp [wi]; omega
  have y1 : wi (atI s i) 225 236 = false := by simp [wi]; omega
  have y2 : wi (atI s i) 238 239 = false := by simp [wi]; omega
  have y3 : wi (atI s i) 241 243 = false := by simp [wi]; omega
  have z0 : (atI s i == 224) = false := by simp; omega
  have z1 : (atI s i == 237) = false := by simp; omega
  have z2 : (atI s i == 240) = true := by simp; omega
  have z3 : (atI s i == 244) = false := by simp; omega
  clear lo hi
  go_enter Tryz.func125, Tryz.ntmps125
  go_wp2_with (first | (go_at_call 135; refine (at_any _ _ (by omega) _).mono ?_; rintro e w' ⟨rfl, rfl⟩) | (go_at_call 136; refine (within_any _ _ _ _).mono ?_; rintro e w' ⟨rfl, rfl⟩) | (go_at_call 137; refine (tail_any _ _ _ (by omega) (by omega) (by omega) _).mono ?_; rintro e w' ⟨rfl, rfl⟩))
  go_ret
  exact ⟨rfl, rfl⟩

set_option maxHeartbeats 400000 in
theorem point_way16 (s : ByteArray) (i : Nat) (hb : i ≤ 1000000) (lo : (240 : Int) ≤ atI s i) (hi : atI s i ≤ 240) (t0 : wi (atI s ((i : Int) + 1)) 144 191 = false) (w : World) :
    Calls Tryz.prog 125 #[.string s, .int .i64 i] w fun e w' => e = .returned (.int .i64 0) ∧ w' = w := by
  have x0 : ¬ atI s i ≤ 127 := by omega
  have y0 : wi (atI s i) 194 223 = false := by simp [wi]; omega
  have y1 : wi (atI s i) 225 236 = false := by simp [wi]; omega
  have y2 : wi (atI s i) 238 239 = false := by simp [wi]; omega
  have y3 : wi (atI s i) 241 243 = false := by simp [wi]; omega
  have z0 : (atI s i == 224) = false := by simp; omega
  have z1 : (atI s i == 237) = false := by simp; omega
  have z2 : (atI s i == 240) = true := by simp; omega
  have z3 : (atI s i == 244) = false := by simp; omega
  clear lo hi
  go_enter Tryz.func125, Tryz.ntmps125
  go_wp2_with (first | (go_at_call 135; refine (at_any _ _ (by omega) _).mono ?_; rintro e w' ⟨rfl, rfl⟩) | (go_at_call 136; refine (within_any _ _ _ _).mono ?_; rintro e w' ⟨rfl, rfl⟩) | (go_at_call 137; refine (tail_any _ _ _ (by omega) (by omega) (by omega) _).mono ?_; rintro e w' ⟨rfl, rfl⟩))
  go_ret
  exact ⟨rfl, rfl⟩

set_option maxHeartbeats 400000 in
theorem point_way17 (s : ByteArray) (i : Nat) (hb : i ≤ 1000000) (lo : (241 : Int) ≤ atI s i) (hi : atI s i ≤ 243) (t0 : tlI s ((i : Int) + 1) ((i : Int) + 4) = true) (w : World) :
    Calls Tryz.prog 125 #[.string s, .int .i64 i] w fun e w' => e = .returned (.int .i64 4) ∧ w' = w := by
  have x0 : ¬ atI s i ≤ 127 := by omega
  have y0 : wi (atI s i) 194 223 = false := by simp [wi]; omega
  have y1 : wi (atI s i) 225 236 = false := by simp [wi]; omega
  have y2 : wi (atI s i) 238 239 = false := by simp [wi]; omega
  have y3 : wi (atI s i) 241 243 = true := by simp [wi]; omega
  have z0 : (atI s i == 224) = false := by simp; omega
  have z1 : (atI s i == 237) = false := by simp; omega
  have z2 : (atI s i == 240) = false := by simp; omega
  have z3 : (atI s i == 244) = false := by simp; omega
  clear lo hi
  go_enter Tryz.func125, Tryz.ntmps125
  go_wp2_with (first | (go_at_call 135; refine (at_any _ _ (by omega) _).mono ?_; rintro e w' ⟨rfl, rfl⟩) | (go_at_call 136; refine (within_any _ _ _ _).mono ?_; rintro e w' ⟨rfl, rfl⟩) | (go_at_call 137; refine (tail_any _ _ _ (by omega) (by omega) (by omega) _).mono ?_; rintro e w' ⟨rfl, rfl⟩))
  go_ret
  exact ⟨rfl, rfl⟩

set_option maxHeartbeats 400000 in
theorem point_way18 (s : ByteArray) (i : Nat) (hb : i ≤ 1000000) (lo : (241 : Int) ≤ atI s i) (hi : atI s i ≤ 243) (t0 : tlI s ((i : Int) + 1) ((i : Int) + 4) = false) (w : World) :
    Calls Tryz.prog 125 #[.string s, .int .i64 i] w fun e w' => e = .returned (.int .i64 0) ∧ w' = w := by
  have x0 : ¬ atI s i ≤ 127 := by omega
  have y0 : wi (atI s i) 194 223 = false := by simp [wi]; omega
  have y1 : wi (atI s i) 225 236 = false := by simp [wi]; omega
  have y2 : wi (atI s i) 238 239 = false := by simp [wi]; omega
  have y3 : wi (atI s i) 241 243 = true := by simp [wi]; omega
  have z0 : (atI s i == 224) = false := by simp; omega
  have z1 : (atI s i == 237) = false := by simp; omega
  have z2 : (atI s i == 240) = false := by simp; omega
  have z3 : (atI s i == 244) = false := by simp; omega
  clear lo hi
  go_enter Tryz.func125, Tryz.ntmps125
  go_wp2_with (first | (go_at_call 135; refine (at_any _ _ (by omega) _).mono ?_; rintro e w' ⟨rfl, rfl⟩) | (go_at_call 136; refine (within_any _ _ _ _).mono ?_; rintro e w' ⟨rfl, rfl⟩) | (go_at_call 137; refine (tail_any _ _ _ (by omega) (by omega) (by omega) _).mono ?_; rintro e w' ⟨rfl, rfl⟩))
  go_ret
  exact ⟨rfl, rfl⟩

set_option maxHeartbeats 400000 in
theorem point_way19 (s : ByteArray) (i : Nat) (hb : i ≤ 1000000) (lo : (244 : Int) ≤ atI s i) (hi : atI s i ≤ 244) (t0 : wi (atI s ((i : Int) + 1)) 128 143 = true) (t1 : tlI s ((i : Int) + 2) ((i : Int) + 4) = true) (w : World) :
    Calls Tryz.prog 125 #[.string s, .int .i64 i] w fun e w' => e = .returned (.int .i64 4) ∧ w' = w := by
  have x0 : ¬ atI s i ≤ 127 := by omega
  have y0 : wi (atI s i) 194 223 = false := by simp [wi]; omega
  have y1 : wi (atI s i) 225 236 = false := by simp [wi]; omega
  have y2 : wi (atI s i) 238 239 = false := by simp [wi]; omega
  have y3 : wi (atI s i) 241 243 = false := by simp [wi]; omega
  have z0 : (atI s i == 224) = false := by simp; omega
  have z1 : (atI s i == 237) = false := by simp; omega
  have z2 : (atI s i == 240) = false := by simp; omega
  have z3 : (atI s i == 244) = true := by simp; omega
  clear lo hi
  go_enter Tryz.func125, Tryz.ntmps125
  go_wp2_with (first | (go_at_call 135; refine (at_any _ _ (by omega) _).mono ?_; rintro e w' ⟨rfl, rfl⟩) | (go_at_call 136; refine (within_any _ _ _ _).mono ?_; rintro e w' ⟨rfl, rfl⟩) | (go_at_call 137; refine (tail_any _ _ _ (by omega) (by omega) (by omega) _).mono ?_; rintro e w' ⟨rfl, rfl⟩))
  go_ret
  exact ⟨rfl, rfl⟩

set_option maxHeartbeats 400000 in
theorem point_way20 (s : ByteArray) (i : Nat) (hb : i ≤ 1000000) (lo : (244 : Int) ≤ atI s i) (hi : atI s i ≤ 244) (t0 : wi (atI s ((i : Int) + 1)) 128 143 = true) (t1 : tlI s ((i : Int) + 2) ((i : Int) + 4) = false) (w : World) :
    Calls Tryz.prog 125 #[.string s, .int .i64 i] w fun e w' => e = .returned (.int .i64 0) ∧ w' = w := by
  have x0 : ¬ atI s i ≤ 127 := by omega
  have y0 : wi (atI s i) 194 223 = false := by simp [wi]; omega
  have y1 : wi (atI s i) 225 236 = false := by simp [wi]; omega
  have y2 : wi (atI s i) 238 239 = false := by simp [wi]; omega
  have y3 : wi (atI s i) 241 243 = false := by simp [wi]; omega
  have z0 : (atI s i == 224) = false := by simp; omega
  have z1 : (atI s i == 237) = false := by simp; omega
  have z2 : (atI s i == 240) = false := by simp; omega
  have z3 : (atI s i == 244) = true := by simp; omega
  clear lo hi
  go_enter Tryz.func125, Tryz.ntmps125
  go_wp2_with (first | (go_at_call 135; refine (at_any _ _ (by omega) _).mono ?_; rintro e w' ⟨rfl, rfl⟩) | (go_at_call 136; refine (within_any _ _ _ _).mono ?_; rintro e w' ⟨rfl, rfl⟩) | (go_at_call 137; refine (tail_any _ _ _ (by omega) (by omega) (by omega) _).mono ?_; rintro e w' ⟨rfl, rfl⟩))
  go_ret
  exact ⟨rfl, rfl⟩

set_option maxHeartbeats 400000 in
theorem point_way21 (s : ByteArray) (i : Nat) (hb : i ≤ 1000000) (lo : (244 : Int) ≤ atI s i) (hi : atI s i ≤ 244) (t0 : wi (atI s ((i : Int) + 1)) 128 143 = false) (w : World) :
    Calls Tryz.prog 125 #[.string s, .int .i64 i] w fun e w' => e = .returned (.int .i64 0) ∧ w' = w := by
  have x0 : ¬ atI s i ≤ 127 := by omega
  have y0 : wi (atI s i) 194 223 = false := by simp [wi]; omega
  have y1 : wi (atI s i) 225 236 = false := by simp [wi]; omega
  have y2 : wi (atI s i) 238 239 = false := by simp [wi]; omega
  have y3 : wi (atI s i) 241 243 = false := by simp [wi]; omega
  have z0 : (atI s i == 224) = false := by simp; omega
  have z1 : (atI s i == 237) = false := by simp; omega
  have z2 : (atI s i == 240) = false := by simp; omega
  have z3 : (atI s i == 244) = true := by simp; omega
  clear lo hi
  go_enter Tryz.func125, Tryz.ntmps125
  go_wp2_with (first | (go_at_call 135; refine (at_any _ _ (by omega) _).mono ?_; rintro e w' ⟨rfl, rfl⟩) | (go_at_call 136; refine (within_any _ _ _ _).mono ?_; rintro e w' ⟨rfl, rfl⟩) | (go_at_call 137; refine (tail_any _ _ _ (by omega) (by omega) (by omega) _).mono ?_; rintro e w' ⟨rfl, rfl⟩))
  go_ret
  exact ⟨rfl, rfl⟩

set_option maxHeartbeats 400000 in
theorem point_way22 (s : ByteArray) (i : Nat) (hb : i ≤ 1000000) (lo : (245 : Int) ≤ atI s i) (hi : atI s i ≤ 255)  (w : World) :
    Calls Tryz.prog 125 #[.string s, .int .i64 i] w fun e w' => e = .returned (.int .i64 0) ∧ w' = w := by
  have x0 : ¬ atI s i ≤ 127 := by omega
  have y0 : wi (atI s i) 194 223 = false := by simp [wi]; omega
  have y1 : wi (atI s i) 225 236 = false := by simp [wi]; omega
  have y2 : wi (atI s i) 238 239 = false := by simp [wi]; omega
  have y3 : wi (atI s i) 241 243 = false := by simp [wi]; omega
  have z0 : (atI s i == 224) = false := by simp; omega
  have z1 : (atI s i == 237) = false := by simp; omega
  have z2 : (atI s i == 240) = false := by simp; omega
  have z3 : (atI s i == 244) = false := by simp; omega
  clear lo hi
  go_enter Tryz.func125, Tryz.ntmps125
  go_wp2_with (first | (go_at_call 135; refine (at_any _ _ (by omega) _).mono ?_; rintro e w' ⟨rfl, rfl⟩) | (go_at_call 136; refine (within_any _ _ _ _).mono ?_; rintro e w' ⟨rfl, rfl⟩) | (go_at_call 137; refine (tail_any _ _ _ (by omega) (by omega) (by omega) _).mono ?_; rintro e w' ⟨rfl, rfl⟩))
  go_ret
  exact ⟨rfl, rfl⟩

end Go.Proofs.YtkjeneklkdekoaaGreatDoor.Rm
