import Derived.Test.YtphofgnehdlafaaGreatDoorProg
import Derived.Test.YtphofgnehdlafaaGreatDoorPt
import Derived.WalkKit
import Derived.WalkSpells
import Derived.WalkLawsBesides
namespace Go.Proofs.YtphofgnehdlafaaGreatDoor.Rm
open Go.RowKit
set_option linter.unusedSimpArgs false
set_option linter.unusedVariables false
set_option maxHeartbeats 400000
def wi (c a b : Int) : Bool := decide (a ≤ c) && decide (c ≤ b)
def atI (s : ByteArray) (j : Int) : Int := atB s j.toNat
def tlN (s : ByteArray) (f : Nat) : Nat → Bool
 | 0 => true
 | n + 1 => tlN s f n && wi (atI s (f + n : Nat)) 128 191
def tlI (s : ByteArray) (j l : Int) : Bool := tlN s j.toNat (l - j).toNat
theorem tlN_false (s : ByteArray) (f : Nat) : ∀ (m n : Nat), tlN s f m = false → m ≤ n → tlN s f n = false
 | m, 0, h, hm => by
  obtain rfl : m = 0 := by omega
  exact h
 | m, n + 1, h, hm => by
  by_cases e : m = n + 1
  ·
   subst e; exact h
  ·
   simp [tlN, tlN_false s f m n h (by omega)]
theorem within_any (c a b : Int) (w : World) :
    Calls Tryz.prog 315 #[.int .u8 c, .int .u8 a, .int .u8 b] w fun e w' => e = .returned (.bool (wi c a b)) ∧ w' = w := by
  by_cases h1 : a ≤ c
  · by_cases h2 : c ≤ b
    · have hw : wi c a b = true := by simp [wi, h1, h2]
      rw [hw]
      clear hw
      go_enter Tryz.func315, Tryz.ntmps315
      go_wp2
      go_ret
      exact ⟨rfl, rfl⟩
    · have hw : wi c a b = false := by simp [wi, h2]
      rw [hw]
      clear hw
      go_enter Tryz.func315, Tryz.ntmps315
      go_wp2
      go_ret
      exact ⟨rfl, rfl⟩
  · have hw : wi c a b = false := by simp [wi, h1]
    rw [hw]
    clear hw
    go_enter Tryz.func315, Tryz.ntmps315
    go_wp2
    go_ret
    exact ⟨rfl, rfl⟩
theorem at_any (s : ByteArray) (j : Int) (hj : 0 ≤ j) (w : World) :
    Calls Tryz.prog 314 #[.string s, .int .i64 j] w fun e w' => e = .returned (.int .u8 (atI s j)) ∧ w' = w := by
  obtain ⟨i, rfl⟩ : ∃ i : Nat, j = i := ⟨j.toNat, by omega⟩
  have e : atI s (i : Int) = atB s i := rfl
  rw [e]
  clear e hj
  by_cases h : i < s.size
  · rw [atB_in s i h]
    go_enter Tryz.func314, Tryz.ntmps314
    go_wp2
    go_ret
    exact ⟨rfl, rfl⟩
  · rw [atB_out s i h]
    go_enter Tryz.func314, Tryz.ntmps314
    go_wp2
    go_ret
    exact ⟨rfl, rfl⟩
theorem tail_nat (s : ByteArray) (f n : Nat) (hb : f + n ≤ 1000000000) (w : World) :
    Calls Tryz.prog 316 #[.string s, .int .i64 f, .int .i64 (f + n : Int)] w fun e w' => e = .returned (.bool (tlN s f n)) ∧ w' = w := by
  go_enter Tryz.func316, Tryz.ntmps316
  go_wp2
  go_loop [7] (fun i => ∃ k : Nat, k ≤ n ∧ i = .int .i64 ((f + k : Nat) : Int) ∧ tlN s f k = true) (fun i => f + n - (intOf i).toNat)
  case atStart => exact ⟨0, Nat.zero_le _, rfl, rfl⟩
  case round =>
    obtain ⟨k, hk, rfl, ht⟩ := hrel
    have HT : Hid (tlN s f k = true) := ht
    clear ht
    by_cases hlt : k < n
    · by_cases hw : wi (atI s ((f : Int) + (k : Int))) 128 191 = true
      · have HS : Hid (tlN s f (k + 1) = true) := by have h1 := HT.out; simp only [tlN, h1, Int.natCast_add, hw, Bool.and_true, Hid]
        go_wp2_with (first | (go_at_call 314; refine (at_any _ _ (by omega) _).mono ?_; rintro e w' ⟨rfl, rfl⟩) | (go_at_call 315; refine (within_any _ _ _ _).mono ?_; rintro e w' ⟨rfl, rfl⟩))
        go_round
        case rel => exact ⟨k + 1, by omega, by go_num, HS.out⟩
        case measure => simp [intOf]; omega
      · have hw' : wi (atI s ((f : Int) + (k : Int))) 128 191 = false := by simpa using hw
        clear hw
        have HS : Hid (tlN s f n = false) := tlN_false s f (k + 1) n (by simp [tlN, hw']) (by omega)
        go_wp2_with (first | (go_at_call 314; refine (at_any _ _ (by omega) _).mono ?_; rintro e w' ⟨rfl, rfl⟩) | (go_at_call 315; refine (within_any _ _ _ _).mono ?_; rintro e w' ⟨rfl, rfl⟩))
        go_ret
        exact ⟨by rw [HS.out]; rfl, rfl⟩
    · obtain rfl : k = n := by omega
      go_wp2
      go_ret
      exact ⟨by rw [HT.out]; rfl, rfl⟩
theorem tail_any (s : ByteArray) (j l : Int) (hj : 0 ≤ j) (hl : j ≤ l) (hb : l ≤ 1000000000) (w : World) :
    Calls Tryz.prog 316 #[.string s, .int .i64 j, .int .i64 l] w fun e w' => e = .returned (.bool (tlI s j l)) ∧ w' = w := by
  obtain ⟨f, rfl⟩ : ∃ f : Nat, j = f := ⟨j.toNat, by omega⟩
  obtain ⟨n, rfl⟩ : ∃ n : Nat, l = (f : Int) + n := ⟨(l - f).toNat, by omega⟩
  have e : tlI s f ((f : Int) + n) = tlN s f n := by
    unfold tlI
    congr 1
    omega
  rw [e]
  exact tail_nat s f n (by omega) w
theorem point_way0 (s : ByteArray) (i : Nat) (hb : i ≤ 1000000) (_lo : (0 : Int) ≤ atI s i) (hi : atI s i ≤ 127)  (w : World) :
    Calls Tryz.prog 294 #[.string s, .int .i64 i] w fun e w' => e = .returned (.int .i64 1) ∧ w' = w := by
  go_enter Tryz.func294, Tryz.ntmps294
  go_wp2_with (first | (go_at_call 314; refine (at_any _ _ (by omega) _).mono ?_; rintro e w' ⟨rfl, rfl⟩) | (go_at_call 315; refine (within_any _ _ _ _).mono ?_; rintro e w' ⟨rfl, rfl⟩) | (go_at_call 316; refine (tail_any _ _ _ (by omega) (by omega) (by omega) _).mono ?_; rintro e w' ⟨rfl, rfl⟩))
  go_ret
  exact ⟨rfl, rfl⟩
theorem point_way1 (s : ByteArray) (i : Nat) (hb : i ≤ 1000000) (lo : (128 : Int) ≤ atI s i) (hi : atI s i ≤ 193)  (w : World) :
    Calls Tryz.prog 294 #[.string s, .int .i64 i] w fun e w' => e = .returned (.int .i64 0) ∧ w' = w := by
  have x0 : ¬ atI s i ≤ 127 := by omega
  have y0 : wi (atI s i) 194 223 = false := by simp [wi]; omega
  have y1 : wi (atI s i) 225 236 = false := by simp [wi]; omega
  have y2 : wi (atI s i) 238 239 = false := by simp [wi]; omega
  have y3 : wi (atI s i) 241 243 = false := by simp [wi]; omega
  have z0 : (atI s i == 224) = false := by simp; omega
  have z1 : (atI s i == 237) = false := by simp; omega
  have z2 : (atI s i == 240) = false := by simp; omega
  have z3 : (atI s i == 244) = false := by simp; omega
  clear lo hi
  go_enter Tryz.func294, Tryz.ntmps294
  go_wp2_with (first | (go_at_call 314; refine (at_any _ _ (by omega) _).mono ?_; rintro e w' ⟨rfl, rfl⟩) | (go_at_call 315; refine (within_any _ _ _ _).mono ?_; rintro e w' ⟨rfl, rfl⟩) | (go_at_call 316; refine (tail_any _ _ _ (by omega) (by omega) (by omega) _).mono ?_; rintro e w' ⟨rfl, rfl⟩))
  go_ret
  exact ⟨rfl, rfl⟩
theorem point_way2 (s : ByteArray) (i : Nat) (hb : i ≤ 1000000) (lo : (194 : Int) ≤ atI s i) (hi : atI s i ≤ 223) (t0 : tlI s ((i : Int) + 1) ((i : Int) + 2) = true) (w : World) :
    Calls Tryz.prog 294 #[.string s, .int .i64 i] w fun e w' => e = .returned (.int .i64 2) ∧ w' = w := by
  have x0 : ¬ atI s i ≤ 127 := by omega
  have y0 : wi (atI s i) 194 223 = true := by simp [wi]; omega
  have y1 : wi (atI s i) 225 236 = false := by simp [wi]; omega
  have y2 : wi (atI s i) 238 239 = false := by simp [wi]; omega
  have y3 : wi (atI s i) 241 243 = false := by simp [wi]; omega
  have z0 : (atI s i == 224) = false := by simp; omega
  have z1 : (atI s i == 237) = false := by simp; omega
  have z2 : (atI s i == 240) = false := by simp; omega
  have z3 : (atI s i == 244) = false := by simp; omega
  clear lo hi
  go_enter Tryz.func294, Tryz.ntmps294
  go_wp2_with (first | (go_at_call 314; refine (at_any _ _ (by omega) _).mono ?_; rintro e w' ⟨rfl, rfl⟩) | (go_at_call 315; refine (within_any _ _ _ _).mono ?_; rintro e w' ⟨rfl, rfl⟩) | (go_at_call 316; refine (tail_any _ _ _ (by omega) (by omega) (by omega) _).mono ?_; rintro e w' ⟨rfl, rfl⟩))
  go_ret
  exact ⟨rfl, rfl⟩
theorem point_way3 (s : ByteArray) (i : Nat) (hb : i ≤ 1000000) (lo : (194 : Int) ≤ atI s i) (hi : atI s i ≤ 223) (t0 : tlI s ((i : Int) + 1) ((i : Int) + 2) = false) (w : World) :
    Calls Tryz.prog 294 #[.string s, .int .i64 i] w fun e w' => e = .returned (.int .i64 0) ∧ w' = w := by
  have x0 : ¬ atI s i ≤ 127 := by omega
  have y0 : wi (atI s i) 194 223 = true := by simp [wi]; omega
  have y1 : wi (atI s i) 225 236 = false := by simp [wi]; omega
  have y2 : wi (atI s i) 238 239 = false := by simp [wi]; omega
  have y3 : wi (atI s i) 241 243 = false := by simp [wi]; omega
  have z0 : (atI s i == 224) = false := by simp; omega
  have z1 : (atI s i == 237) = false := by simp; omega
  have z2 : (atI s i == 240) = false := by simp; omega
  have z3 : (atI s i == 244) = false := by simp; omega
  clear lo hi
  go_enter Tryz.func294, Tryz.ntmps294
  go_wp2_with (first | (go_at_call 314; refine (at_any _ _ (by omega) _).mono ?_; rintro e w' ⟨rfl, rfl⟩) | (go_at_call 315; refine (within_any _ _ _ _).mono ?_; rintro e w' ⟨rfl, rfl⟩) | (go_at_call 316; refine (tail_any _ _ _ (by omega) (by omega) (by omega) _).mono ?_; rintro e w' ⟨rfl, rfl⟩))
  go_ret
  exact ⟨rfl, rfl⟩
theorem point_way4 (s : ByteArray) (i : Nat) (hb : i ≤ 1000000) (lo : (224 : Int) ≤ atI s i) (hi : atI s i ≤ 224) (t0 : wi (atI s ((i : Int) + 1)) 160 191 = true) (t1 : tlI s ((i : Int) + 2) ((i : Int) + 3) = true) (w : World) :
    Calls Tryz.prog 294 #[.string s, .int .i64 i] w fun e w' => e = .returned (.int .i64 3) ∧ w' = w := by
  have x0 : ¬ atI s i ≤ 127 := by omega
  have y0 : wi (atI s i) 194 223 = false := by simp [wi]; omega
  have y1 : wi (atI s i) 225 236 = false := by simp [wi]; omega
  have y2 : wi (atI s i) 238 239 = false := by simp [wi]; omega
  have y3 : wi (atI s i) 241 243 = false := by simp [wi]; omega
  have z0 : (atI s i == 224) = true := by simp; omega
  have z1 : (atI s i == 237) = false := by simp; omega
  have z2 : (atI s i == 240) = false := by simp; omega
  have z3 : (atI s i == 244) = false := by simp; omega
  clear lo hi
  go_enter Tryz.func294, Tryz.ntmps294
  go_wp2_with (first | (go_at_call 314; refine (at_any _ _ (by omega) _).mono ?_; rintro e w' ⟨rfl, rfl⟩) | (go_at_call 315; refine (within_any _ _ _ _).mono ?_; rintro e w' ⟨rfl, rfl⟩) | (go_at_call 316; refine (tail_any _ _ _ (by omega) (by omega) (by omega) _).mono ?_; rintro e w' ⟨rfl, rfl⟩))
  go_ret
  exact ⟨rfl, rfl⟩
theorem point_way5 (s : ByteArray) (i : Nat) (hb : i ≤ 1000000) (lo : (224 : Int) ≤ atI s i) (hi : atI s i ≤ 224) (t0 : wi (atI s ((i : Int) + 1)) 160 191 = true) (t1 : tlI s ((i : Int) + 2) ((i : Int) + 3) = false) (w : World) :
    Calls Tryz.prog 294 #[.string s, .int .i64 i] w fun e w' => e = .returned (.int .i64 0) ∧ w' = w := by
  have x0 : ¬ atI s i ≤ 127 := by omega
  have y0 : wi (atI s i) 194 223 = false := by simp [wi]; omega
  have y1 : wi (atI s i) 225 236 = false := by simp [wi]; omega
  have y2 : wi (atI s i) 238 239 = false := by simp [wi]; omega
  have y3 : wi (atI s i) 241 243 = false := by simp [wi]; omega
  have z0 : (atI s i == 224) = true := by simp; omega
  have z1 : (atI s i == 237) = false := by simp; omega
  have z2 : (atI s i == 240) = false := by simp; omega
  have z3 : (atI s i == 244) = false := by simp; omega
  clear lo hi
  go_enter Tryz.func294, Tryz.ntmps294
  go_wp2_with (first | (go_at_call 314; refine (at_any _ _ (by omega) _).mono ?_; rintro e w' ⟨rfl, rfl⟩) | (go_at_call 315; refine (within_any _ _ _ _).mono ?_; rintro e w' ⟨rfl, rfl⟩) | (go_at_call 316; refine (tail_any _ _ _ (by omega) (by omega) (by omega) _).mono ?_; rintro e w' ⟨rfl, rfl⟩))
  go_ret
  exact ⟨rfl, rfl⟩
theorem point_way6 (s : ByteArray) (i : Nat) (hb : i ≤ 1000000) (lo : (224 : Int) ≤ atI s i) (hi : atI s i ≤ 224) (t0 : wi (atI s ((i : Int) + 1)) 160 191 = false) (w : World) :
    Calls Tryz.prog 294 #[.string s, .int .i64 i] w fun e w' => e = .returned (.int .i64 0) ∧ w' = w := by
  have x0 : ¬ atI s i ≤ 127 := by omega
  have y0 : wi (atI s i) 194 223 = false := by simp [wi]; omega
  have y1 : wi (atI s i) 225 236 = false := by simp [wi]; omega
  have y2 : wi (atI s i) 238 239 = false := by simp [wi]; omega
  have y3 : wi (atI s i) 241 243 = false := by simp [wi]; omega
  have z0 : (atI s i == 224) = true := by simp; omega
  have z1 : (atI s i == 237) = false := by simp; omega
  have z2 : (atI s i == 240) = false := by simp; omega
  have z3 : (atI s i == 244) = false := by simp; omega
  clear lo hi
  go_enter Tryz.func294, Tryz.ntmps294
  go_wp2_with (first | (go_at_call 314; refine (at_any _ _ (by omega) _).mono ?_; rintro e w' ⟨rfl, rfl⟩) | (go_at_call 315; refine (within_any _ _ _ _).mono ?_; rintro e w' ⟨rfl, rfl⟩) | (go_at_call 316; refine (tail_any _ _ _ (by omega) (by omega) (by omega) _).mono ?_; rintro e w' ⟨rfl, rfl⟩))
  go_ret
  exact ⟨rfl, rfl⟩
theorem point_way7 (s : ByteArray) (i : Nat) (hb : i ≤ 1000000) (lo : (225 : Int) ≤ atI s i) (hi : atI s i ≤ 236) (t0 : tlI s ((i : Int) + 1) ((i : Int) + 3) = true) (w : World) :
    Calls Tryz.prog 294 #[.string s, .int .i64 i] w fun e w' => e = .returned (.int .i64 3) ∧ w' = w := by
  have x0 : ¬ atI s i ≤ 127 := by omega
  have y0 : wi (atI s i) 194 223 = false := by simp [wi]; omega
  have y1 : wi (atI s i) 225 236 = true := by simp [wi]; omega
  have y2 : wi (atI s i) 238 239 = false := by simp [wi]; omega
  have y3 : wi (atI s i) 241 243 = false := by simp [wi]; omega
  have z0 : (atI s i == 224) = false := by simp; omega
  have z1 : (atI s i == 237) = false := by simp; omega
  have z2 : (atI s i == 240) = false := by simp; omega
  have z3 : (atI s i == 244) = false := by simp; omega
  clear lo hi
  go_enter Tryz.func294, Tryz.ntmps294
  go_wp2_with (first | (go_at_call 314; refine (at_any _ _ (by omega) _).mono ?_; rintro e w' ⟨rfl, rfl⟩) | (go_at_call 315; refine (within_any _ _ _ _).mono ?_; rintro e w' ⟨rfl, rfl⟩) | (go_at_call 316; refine (tail_any _ _ _ (by omega) (by omega) (by omega) _).mono ?_; rintro e w' ⟨rfl, rfl⟩))
  go_ret
  exact ⟨rfl, rfl⟩
theorem point_way8 (s : ByteArray) (i : Nat) (hb : i ≤ 1000000) (lo : (225 : Int) ≤ atI s i) (hi : atI s i ≤ 236) (t0 : tlI s ((i : Int) + 1) ((i : Int) + 3) = false) (w : World) :
    Calls Tryz.prog 294 #[.string s, .int .i64 i] w fun e w' => e = .returned (.int .i64 0) ∧ w' = w := by
  have x0 : ¬ atI s i ≤ 127 := by omega
  have y0 : wi (atI s i) 194 223 = false := by simp [wi]; omega
  have y1 : wi (atI s i) 225 236 = true := by simp [wi]; omega
  have y2 : wi (atI s i) 238 239 = false := by simp [wi]; omega
  have y3 : wi (atI s i) 241 243 = false := by simp [wi]; omega
  have z0 : (atI s i == 224) = false := by simp; omega
  have z1 : (atI s i == 237) = false := by simp; omega
  have z2 : (atI s i == 240) = false := by simp; omega
  have z3 : (atI s i == 244) = false := by simp; omega
  clear lo hi
  go_enter Tryz.func294, Tryz.ntmps294
  go_wp2_with (first | (go_at_call 314; refine (at_any _ _ (by omega) _).mono ?_; rintro e w' ⟨rfl, rfl⟩) | (go_at_call 315; refine (within_any _ _ _ _).mono ?_; rintro e w' ⟨rfl, rfl⟩) | (go_at_call 316; refine (tail_any _ _ _ (by omega) (by omega) (by omega) _).mono ?_; rintro e w' ⟨rfl, rfl⟩))
  go_ret
  exact ⟨rfl, rfl⟩
theorem point_way9 (s : ByteArray) (i : Nat) (hb : i ≤ 1000000) (lo : (237 : Int) ≤ atI s i) (hi : atI s i ≤ 237) (t0 : wi (atI s ((i : Int) + 1)) 128 159 = true) (t1 : tlI s ((i : Int) + 2) ((i : Int) + 3) = true) (w : World) :
    Calls Tryz.prog 294 #[.string s, .int .i64 i] w fun e w' => e = .returned (.int .i64 3) ∧ w' = w := by
  have x0 : ¬ atI s i ≤ 127 := by omega
  have y0 : wi (atI s i) 194 223 = false := by simp [wi]; omega
  have y1 : wi (atI s i) 225 236 = false := by simp [wi]; omega
  have y2 : wi (atI s i) 238 239 = false := by simp [wi]; omega
  have y3 : wi (atI s i) 241 243 = false := by simp [wi]; omega
  have z0 : (atI s i == 224) = false := by simp; omega
  have z1 : (atI s i == 237) = true := by simp; omega
  have z2 : (atI s i == 240) = false := by simp; omega
  have z3 : (atI s i == 244) = false := by simp; omega
  clear lo hi
  go_enter Tryz.func294, Tryz.ntmps294
  go_wp2_with (first | (go_at_call 314; refine (at_any _ _ (by omega) _).mono ?_; rintro e w' ⟨rfl, rfl⟩) | (go_at_call 315; refine (within_any _ _ _ _).mono ?_; rintro e w' ⟨rfl, rfl⟩) | (go_at_call 316; refine (tail_any _ _ _ (by omega) (by omega) (by omega) _).mono ?_; rintro e w' ⟨rfl, rfl⟩))
  go_ret
  exact ⟨rfl, rfl⟩
theorem point_way10 (s : ByteArray) (i : Nat) (hb : i ≤ 1000000) (lo : (237 : Int) ≤ atI s i) (hi : atI s i ≤ 237) (t0 : wi (atI s ((i : Int) + 1)) 128 159 = true) (t1 : tlI s ((i : Int) + 2) ((i : Int) + 3) = false) (w : World) :
    Calls Tryz.prog 294 #[.string s, .int .i64 i] w fun e w' => e = .returned (.int .i64 0) ∧ w' = w := by
  have x0 : ¬ atI s i ≤ 127 := by omega
  have y0 : wi (atI s i) 194 223 = false := by simp [wi]; omega
  have y1 : wi (atI s i) 225 236 = false := by simp [wi]; omega
  have y2 : wi (atI s i) 238 239 = false := by simp [wi]; omega
  have y3 : wi (atI s i) 241 243 = false := by simp [wi]; omega
  have z0 : (atI s i == 224) = false := by simp; omega
  have z1 : (atI s i == 237) = true := by simp; omega
  have z2 : (atI s i == 240) = false := by simp; omega
  have z3 : (atI s i == 244) = false := by simp; omega
  clear lo hi
  go_enter Tryz.func294, Tryz.ntmps294
  go_wp2_with (first | (go_at_call 314; refine (at_any _ _ (by omega) _).mono ?_; rintro e w' ⟨rfl, rfl⟩) | (go_at_call 315; refine (within_any _ _ _ _).mono ?_; rintro e w' ⟨rfl, rfl⟩) | (go_at_call 316; refine (tail_any _ _ _ (by omega) (by omega) (by omega) _).mono ?_; rintro e w' ⟨rfl, rfl⟩))
  go_ret
  exact ⟨rfl, rfl⟩
theorem point_way11 (s : ByteArray) (i : Nat) (hb : i ≤ 1000000) (lo : (237 : Int) ≤ atI s i) (hi : atI s i ≤ 237) (t0 : wi (atI s ((i : Int) + 1)) 128 159 = false) (w : World) :
    Calls Tryz.prog 294 #[.string s, .int .i64 i] w fun e w' => e = .returned (.int .i64 0) ∧ w' = w := by
  have x0 : ¬ atI s i ≤ 127 := by omega
  have y0 : wi (atI s i) 194 223 = false := by simp [wi]; omega
  have y1 : wi (atI s i) 225 236 = false := by simp [wi]; omega
  have y2 : wi (atI s i) 238 239 = false := by simp [wi]; omega
  have y3 : wi (atI s i) 241 243 = false := by simp [wi]; omega
  have z0 : (atI s i == 224) = false := by simp; omega
  have z1 : (atI s i == 237) = true := by simp; omega
  have z2 : (atI s i == 240) = false := by simp; omega
  have z3 : (atI s i == 244) = false := by simp; omega
  clear lo hi
  go_enter Tryz.func294, Tryz.ntmps294
  go_wp2_with (first | (go_at_call 314; refine (at_any _ _ (by omega) _).mono ?_; rintro e w' ⟨rfl, rfl⟩) | (go_at_call 315; refine (within_any _ _ _ _).mono ?_; rintro e w' ⟨rfl, rfl⟩) | (go_at_call 316; refine (tail_any _ _ _ (by omega) (by omega) (by omega) _).mono ?_; rintro e w' ⟨rfl, rfl⟩))
  go_ret
  exact ⟨rfl, rfl⟩
theorem point_way12 (s : ByteArray) (i : Nat) (hb : i ≤ 1000000) (lo : (238 : Int) ≤ atI s i) (hi : atI s i ≤ 239) (t0 : tlI s ((i : Int) + 1) ((i : Int) + 3) = true) (w : World) :
    Calls Tryz.prog 294 #[.string s, .int .i64 i] w fun e w' => e = .returned (.int .i64 3) ∧ w' = w := by
  have x0 : ¬ atI s i ≤ 127 := by omega
  have y0 : wi (atI s i) 194 223 = false := by simp [wi]; omega
  have y1 : wi (atI s i) 225 236 = false := by simp [wi]; omega
  have y2 : wi (atI s i) 238 239 = true := by simp [wi]; omega
  have y3 : wi (atI s i) 241 243 = false := by simp [wi]; omega
  have z0 : (atI s i == 224) = false := by simp; omega
  have z1 : (atI s i == 237) = false := by simp; omega
  have z2 : (atI s i == 240) = false := by simp; omega
  have z3 : (atI s i == 244) = false := by simp; omega
  clear lo hi
  go_enter Tryz.func294, Tryz.ntmps294
  go_wp2_with (first | (go_at_call 314; refine (at_any _ _ (by omega) _).mono ?_; rintro e w' ⟨rfl, rfl⟩) | (go_at_call 315; refine (within_any _ _ _ _).mono ?_; rintro e w' ⟨rfl, rfl⟩) | (go_at_call 316; refine (tail_any _ _ _ (by omega) (by omega) (by omega) _).mono ?_; rintro e w' ⟨rfl, rfl⟩))
  go_ret
  exact ⟨rfl, rfl⟩
theorem point_way13 (s : ByteArray) (i : Nat) (hb : i ≤ 1000000) (lo : (238 : Int) ≤ atI s i) (hi : atI s i ≤ 239) (t0 : tlI s ((i : Int) + 1) ((i : Int) + 3) = false) (w : World) :
    Calls Tryz.prog 294 #[.string s, .int .i64 i] w fun e w' => e = .returned (.int .i64 0) ∧ w' = w := by
  have x0 : ¬ atI s i ≤ 127 := by omega
  have y0 : wi (atI s i) 194 223 = false := by simp [wi]; omega
  have y1 : wi (atI s i) 225 236 = false := by simp [wi]; omega
  have y2 : wi (atI s i) 238 239 = true := by simp [wi]; omega
  have y3 : wi (atI s i) 241 243 = false := by simp [wi]; omega
  have z0 : (atI s i == 224) = false := by simp; omega
  have z1 : (atI s i == 237) = false := by simp; omega
  have z2 : (atI s i == 240) = false := by simp; omega
  have z3 : (atI s i == 244) = false := by simp; omega
  clear lo hi
  go_enter Tryz.func294, Tryz.ntmps294
  go_wp2_with (first | (go_at_call 314; refine (at_any _ _ (by omega) _).mono ?_; rintro e w' ⟨rfl, rfl⟩) | (go_at_call 315; refine (within_any _ _ _ _).mono ?_; rintro e w' ⟨rfl, rfl⟩) | (go_at_call 316; refine (tail_any _ _ _ (by omega) (by omega) (by omega) _).mono ?_; rintro e w' ⟨rfl, rfl⟩))
  go_ret
  exact ⟨rfl, rfl⟩
theorem point_way14 (s : ByteArray) (i : Nat) (hb : i ≤ 1000000) (lo : (240 : Int) ≤ atI s i) (hi : atI s i ≤ 240) (t0 : wi (atI s ((i : Int) + 1)) 144 191 = true) (t1 : tlI s ((i : Int) + 2) ((i : Int) + 4) = true) (w : World) :
    Calls Tryz.prog 294 #[.string s, .int .i64 i] w fun e w' => e = .returned (.int .i64 4) ∧ w' = w := by
  have x0 : ¬ atI s i ≤ 127 := by omega
  have y0 : wi (atI s i) 194 223 = false := by simp [wi]; omega
  have y1 : wi (atI s i) 225 236 = false := by simp [wi]; omega
  have y2 : wi (atI s i) 238 239 = false := by simp [wi]; omega
  have y3 : wi (atI s i) 241 243 = false := by simp [wi]; omega
  have z0 : (atI s i == 224) = false := by simp; omega
  have z1 : (atI s i == 237) = false := by simp; omega
  have z2 : (atI s i == 240) = true := by simp; omega
  have z3 : (atI s i == 244) = false := by simp; omega
  clear lo hi
  go_enter Tryz.func294, Tryz.ntmps294
  go_wp2_with (first | (go_at_call 314; refine (at_any _ _ (by omega) _).mono ?_; rintro e w' ⟨rfl, rfl⟩) | (go_at_call 315; refine (within_any _ _ _ _).mono ?_; rintro e w' ⟨rfl, rfl⟩) | (go_at_call 316; refine (tail_any _ _ _ (by omega) (by omega) (by omega) _).mono ?_; rintro e w' ⟨rfl, rfl⟩))
  go_ret
  exact ⟨rfl, rfl⟩
theorem point_way15 (s : ByteArray) (i : Nat) (hb : i ≤ 1000000) (lo : (240 : Int) ≤ atI s i) (hi : atI s i ≤ 240) (t0 : wi (atI s ((i : Int) + 1)) 144 191 = true) (t1 : tlI s ((i : Int) + 2) ((i : Int) + 4) = false) (w : World) :
    Calls Tryz.prog 294 #[.string s, .int .i64 i] w fun e w' => e = .returned (.int .i64 0) ∧ w' = w := by
  have x0 : ¬ atI s i ≤ 127 := by omega
  have y0 : wi (atI s i) 194 223 = false := by simp [wi]; omega
  have y1 : wi (atI s i) 225 236 = false := by simp [wi]; omega
  have y2 : wi (atI s i) 238 239 = false := by simp [wi]; omega
  have y3 : wi (atI s i) 241 243 = false := by simp [wi]; omega
  have z0 : (atI s i == 224) = false := by simp; omega
  have z1 : (atI s i == 237) = false := by simp; omega
  have z2 : (atI s i == 240) = true := by simp; omega
  have z3 : (atI s i == 244) = false := by simp; omega
  clear lo hi
  go_enter Tryz.func294, Tryz.ntmps294
  go_wp2_with (first | (go_at_call 314; refine (at_any _ _ (by omega) _).mono ?_; rintro e w' ⟨rfl, rfl⟩) | (go_at_call 315; refine (within_any _ _ _ _).mono ?_; rintro e w' ⟨rfl, rfl⟩) | (go_at_call 316; refine (tail_any _ _ _ (by omega) (by omega) (by omega) _).mono ?_; rintro e w' ⟨rfl, rfl⟩))
  go_ret
  exact ⟨rfl, rfl⟩
theorem point_way16 (s : ByteArray) (i : Nat) (hb : i ≤ 1000000) (lo : (240 : Int) ≤ atI s i) (hi : atI s i ≤ 240) (t0 : wi (atI s ((i : Int) + 1)) 144 191 = false) (w : World) :
    Calls Tryz.prog 294 #[.string s, .int .i64 i] w fun e w' => e = .returned (.int .i64 0) ∧ w' = w := by
  have x0 : ¬ atI s i ≤ 127 := by omega
  have y0 : wi (atI s i) 194 223 = false := by simp [wi]; omega
  have y1 : wi (atI s i) 225 236 = false := by simp [wi]; omega
  have y2 : wi (atI s i) 238 239 = false := by simp [wi]; omega
  have y3 : wi (atI s i) 241 243 = false := by simp [wi]; omega
  have z0 : (atI s i == 224) = false := by simp; omega
  have z1 : (atI s i == 237) = false := by simp; omega
  have z2 : (atI s i == 240) = true := by simp; omega
  have z3 : (atI s i == 244) = false := by simp; omega
  clear lo hi
  go_enter Tryz.func294, Tryz.ntmps294
  go_wp2_with (first | (go_at_call 314; refine (at_any _ _ (by omega) _).mono ?_; rintro e w' ⟨rfl, rfl⟩) | (go_at_call 315; refine (within_any _ _ _ _).mono ?_; rintro e w' ⟨rfl, rfl⟩) | (go_at_call 316; refine (tail_any _ _ _ (by omega) (by omega) (by omega) _).mono ?_; rintro e w' ⟨rfl, rfl⟩))
  go_ret
  exact ⟨rfl, rfl⟩
theorem point_way17 (s : ByteArray) (i : Nat) (hb : i ≤ 1000000) (lo : (241 : Int) ≤ atI s i) (hi : atI s i ≤ 243) (t0 : tlI s ((i : Int) + 1) ((i : Int) + 4) = true) (w : World) :
    Calls Tryz.prog 294 #[.string s, .int .i64 i] w fun e w' => e = .returned (.int .i64 4) ∧ w' = w := by
  have x0 : ¬ atI s i ≤ 127 := by omega
  have y0 : wi (atI s i) 194 223 = false := by simp [wi]; omega
  have y1 : wi (atI s i) 225 236 = false := by simp [wi]; omega
  have y2 : wi (atI s i) 238 239 = false := by simp [wi]; omega
  have y3 : wi (atI s i) 241 243 = true := by simp [wi]; omega
  have z0 : (atI s i == 224) = false := by simp; omega
  have z1 : (atI s i == 237) = false := by simp; omega
  have z2 : (atI s i == 240) = false := by simp; omega
  have z3 : (atI s i == 244) = false := by simp; omega
  clear lo hi
  go_enter Tryz.func294, Tryz.ntmps294
  go_wp2_with (first | (go_at_call 314; refine (at_any _ _ (by omega) _).mono ?_; rintro e w' ⟨rfl, rfl⟩) | (go_at_call 315; refine (within_any _ _ _ _).mono ?_; rintro e w' ⟨rfl, rfl⟩) | (go_at_call 316; refine (tail_any _ _ _ (by omega) (by omega) (by omega) _).mono ?_; rintro e w' ⟨rfl, rfl⟩))
  go_ret
  exact ⟨rfl, rfl⟩
theorem point_way18 (s : ByteArray) (i : Nat) (hb : i ≤ 1000000) (lo : (241 : Int) ≤ atI s i) (hi : atI s i ≤ 243) (t0 : tlI s ((i : Int) + 1) ((i : Int) + 4) = false) (w : World) :
    Calls Tryz.prog 294 #[.string s, .int .i64 i] w fun e w' => e = .returned (.int .i64 0) ∧ w' = w := by
  have x0 : ¬ atI s i ≤ 127 := by omega
  have y0 : wi (atI s i) 194 223 = false := by simp [wi]; omega
  have y1 : wi (atI s i) 225 236 = false := by simp [wi]; omega
  have y2 : wi (atI s i) 238 239 = false := by simp [wi]; omega
  have y3 : wi (atI s i) 241 243 = true := by simp [wi]; omega
  have z0 : (atI s i == 224) = false := by simp; omega
  have z1 : (atI s i == 237) = false := by simp; omega
  have z2 : (atI s i == 240) = false := by simp; omega
  have z3 : (atI s i == 244) = false := by simp; omega
  clear lo hi
  go_enter Tryz.func294, Tryz.ntmps294
  go_wp2_with (first | (go_at_call 314; refine (at_any _ _ (by omega) _).mono ?_; rintro e w' ⟨rfl, rfl⟩) | (go_at_call 315; refine (within_any _ _ _ _).mono ?_; rintro e w' ⟨rfl, rfl⟩) | (go_at_call 316; refine (tail_any _ _ _ (by omega) (by omega) (by omega) _).mono ?_; rintro e w' ⟨rfl, rfl⟩))
  go_ret
  exact ⟨rfl, rfl⟩
theorem point_way19 (s : ByteArray) (i : Nat) (hb : i ≤ 1000000) (lo : (244 : Int) ≤ atI s i) (hi : atI s i ≤ 244) (t0 : wi (atI s ((i : Int) + 1)) 128 143 = true) (t1 : tlI s ((i : Int) + 2) ((i : Int) + 4) = true) (w : World) :
    Calls Tryz.prog 294 #[.string s, .int .i64 i] w fun e w' => e = .returned (.int .i64 4) ∧ w' = w := by
  have x0 : ¬ atI s i ≤ 127 := by omega
  have y0 : wi (atI s i) 194 223 = false := by simp [wi]; omega
  have y1 : wi (atI s i) 225 236 = false := by simp [wi]; omega
  have y2 : wi (atI s i) 238 239 = false := by simp [wi]; omega
  have y3 : wi (atI s i) 241 243 = false := by simp [wi]; omega
  have z0 : (atI s i == 224) = false := by simp; omega
  have z1 : (atI s i == 237) = false := by simp; omega
  have z2 : (atI s i == 240) = false := by simp; omega
  have z3 : (atI s i == 244) = true := by simp; omega
  clear lo hi
  go_enter Tryz.func294, Tryz.ntmps294
  go_wp2_with (first | (go_at_call 314; refine (at_any _ _ (by omega) _).mono ?_; rintro e w' ⟨rfl, rfl⟩) | (go_at_call 315; refine (within_any _ _ _ _).mono ?_; rintro e w' ⟨rfl, rfl⟩) | (go_at_call 316; refine (tail_any _ _ _ (by omega) (by omega) (by omega) _).mono ?_; rintro e w' ⟨rfl, rfl⟩))
  go_ret
  exact ⟨rfl, rfl⟩
theorem point_way20 (s : ByteArray) (i : Nat) (hb : i ≤ 1000000) (lo : (244 : Int) ≤ atI s i) (hi : atI s i ≤ 244) (t0 : wi (atI s ((i : Int) + 1)) 128 143 = true) (t1 : tlI s ((i : Int) + 2) ((i : Int) + 4) = false) (w : World) :
    Calls Tryz.prog 294 #[.string s, .int .i64 i] w fun e w' => e = .returned (.int .i64 0) ∧ w' = w := by
  have x0 : ¬ atI s i ≤ 127 := by omega
  have y0 : wi (atI s i) 194 223 = false := by simp [wi]; omega
  have y1 : wi (atI s i) 225 236 = false := by simp [wi]; omega
  have y2 : wi (atI s i) 238 239 = false := by simp [wi]; omega
  have y3 : wi (atI s i) 241 243 = false := by simp [wi]; omega
  have z0 : (atI s i == 224) = false := by simp; omega
  have z1 : (atI s i == 237) = false := by simp; omega
  have z2 : (atI s i == 240) = false := by simp; omega
  have z3 : (atI s i == 244) = true := by simp; omega
  clear lo hi
  go_enter Tryz.func294, Tryz.ntmps294
  go_wp2_with (first | (go_at_call 314; refine (at_any _ _ (by omega) _).mono ?_; rintro e w' ⟨rfl, rfl⟩) | (go_at_call 315; refine (within_any _ _ _ _).mono ?_; rintro e w' ⟨rfl, rfl⟩) | (go_at_call 316; refine (tail_any _ _ _ (by omega) (by omega) (by omega) _).mono ?_; rintro e w' ⟨rfl, rfl⟩))
  go_ret
  exact ⟨rfl, rfl⟩
theorem point_way21 (s : ByteArray) (i : Nat) (hb : i ≤ 1000000) (lo : (244 : Int) ≤ atI s i) (hi : atI s i ≤ 244) (t0 : wi (atI s ((i : Int) + 1)) 128 143 = false) (w : World) :
    Calls Tryz.prog 294 #[.string s, .int .i64 i] w fun e w' => e = .returned (.int .i64 0) ∧ w' = w := by
  have x0 : ¬ atI s i ≤ 127 := by omega
  have y0 : wi (atI s i) 194 223 = false := by simp [wi]; omega
  have y1 : wi (atI s i) 225 236 = false := by simp [wi]; omega
  have y2 : wi (atI s i) 238 239 = false := by simp [wi]; omega
  have y3 : wi (atI s i) 241 243 = false := by simp [wi]; omega
  have z0 : (atI s i == 224) = false := by simp; omega
  have z1 : (atI s i == 237) = false := by simp; omega
  have z2 : (atI s i == 240) = false := by simp; omega
  have z3 : (atI s i == 244) = true := by simp; omega
  clear lo hi
  go_enter Tryz.func294, Tryz.ntmps294
  go_wp2_with (first | (go_at_call 314; refine (at_any _ _ (by omega) _).mono ?_; rintro e w' ⟨rfl, rfl⟩) | (go_at_call 315; refine (within_any _ _ _ _).mono ?_; rintro e w' ⟨rfl, rfl⟩) | (go_at_call 316; refine (tail_any _ _ _ (by omega) (by omega) (by omega) _).mono ?_; rintro e w' ⟨rfl, rfl⟩))
  go_ret
  exact ⟨rfl, rfl⟩
theorem point_way22 (s : ByteArray) (i : Nat) (hb : i ≤ 1000000) (lo : (245 : Int) ≤ atI s i) (hi : atI s i ≤ 255)  (w : World) :
    Calls Tryz.prog 294 #[.string s, .int .i64 i] w fun e w' => e = .returned (.int .i64 0) ∧ w' = w := by
  have x0 : ¬ atI s i ≤ 127 := by omega
  have y0 : wi (atI s i) 194 223 = false := by simp [wi]; omega
  have y1 : wi (atI s i) 225 236 = false := by simp [wi]; omega
  have y2 : wi (atI s i) 238 239 = false := by simp [wi]; omega
  have y3 : wi (atI s i) 241 243 = false := by simp [wi]; omega
  have z0 : (atI s i == 224) = false := by simp; omega
  have z1 : (atI s i == 237) = false := by simp; omega
  have z2 : (atI s i == 240) = false := by simp; omega
  have z3 : (atI s i == 244) = false := by simp; omega
  clear lo hi
  go_enter Tryz.func294, Tryz.ntmps294
  go_wp2_with (first | (go_at_call 314; refine (at_any _ _ (by omega) _).mono ?_; rintro e w' ⟨rfl, rfl⟩) | (go_at_call 315; refine (within_any _ _ _ _).mono ?_; rintro e w' ⟨rfl, rfl⟩) | (go_at_call 316; refine (tail_any _ _ _ (by omega) (by omega) (by omega) _).mono ?_; rintro e w' ⟨rfl, rfl⟩))
  go_ret
  exact ⟨rfl, rfl⟩
theorem tl12 (s : ByteArray) (i : Nat) : tlI s ((i : Int) + 1) ((i : Int) + 2) = wi (atB s (i + 1)) 128 191 := by
 have e : tlI s ((i : Int) + 1) ((i : Int) + 2) = tlN s (i + 1) 1 := by unfold tlI; congr 1 <;> omega
 rw [e]; simp [tlN, atI]
theorem tl13 (s : ByteArray) (i : Nat) : tlI s ((i : Int) + 1) ((i : Int) + 3) = (wi (atB s (i + 1)) 128 191 && wi (atB s (i + 2)) 128 191) := by
 have e : tlI s ((i : Int) + 1) ((i : Int) + 3) = tlN s (i + 1) 2 := by unfold tlI; congr 1 <;> omega
 rw [e]; simp [tlN, atI]; rfl
theorem tl14 (s : ByteArray) (i : Nat) : tlI s ((i : Int) + 1) ((i : Int) + 4) = (wi (atB s (i + 1)) 128 191 && wi (atB s (i + 2)) 128 191 && wi (atB s (i + 3)) 128 191) := by
 have e : tlI s ((i : Int) + 1) ((i : Int) + 4) = tlN s (i + 1) 3 := by unfold tlI; congr 1 <;> omega
 rw [e]; simp [tlN, atI]; rfl
theorem tl23 (s : ByteArray) (i : Nat) : tlI s ((i : Int) + 2) ((i : Int) + 3) = wi (atB s (i + 2)) 128 191 := by
 have e : tlI s ((i : Int) + 2) ((i : Int) + 3) = tlN s (i + 2) 1 := by unfold tlI; congr 1 <;> omega
 rw [e]; simp [tlN, atI]; rfl
theorem tl24 (s : ByteArray) (i : Nat) : tlI s ((i : Int) + 2) ((i : Int) + 4) = (wi (atB s (i + 2)) 128 191 && wi (atB s (i + 3)) 128 191) := by
 have e : tlI s ((i : Int) + 2) ((i : Int) + 4) = tlN s (i + 2) 2 := by unfold tlI; congr 1 <;> omega
 rw [e]; simp [tlN, atI]; rfl
theorem atI_nat (s : ByteArray) (i : Nat) : atI s (i : Int) = (atB s i : Int) := rfl
theorem atI_succ (s : ByteArray) (i : Nat) : atI s ((i : Int) + 1) = (atB s (i + 1) : Int) := rfl
theorem point_is0 (s : ByteArray) (i : Nat) (lo : (0 : Int) ≤ atI s i) (hi : atI s i ≤ 127)  : point s i = 1 := by
 rw [atI_nat] at lo hi
 unfold point pt
 rw [if_pos (by omega)]
theorem point_is1 (s : ByteArray) (i : Nat) (lo : (128 : Int) ≤ atI s i) (hi : atI s i ≤ 193)  : point s i = 0 := by
 rw [atI_nat] at lo hi
 unfold point pt
 rw [if_neg (by omega), if_neg (by omega), if_neg (by omega), if_neg (by omega)]
theorem point_is2 (s : ByteArray) (i : Nat) (lo : (194 : Int) ≤ atI s i) (hi : atI s i ≤ 223) (t0 : tlI s ((i : Int) + 1) ((i : Int) + 2) = true) : point s i = 2 := by
 rw [tl12] at t0
 simp only [wi, Bool.and_eq_true, Bool.and_eq_false_iff, decide_eq_true_eq, decide_eq_false_iff_not] at t0
 rw [atI_nat] at lo hi
 unfold point pt
 rw [if_neg (by omega), if_pos (by omega)]
theorem point_is3 (s : ByteArray) (i : Nat) (lo : (194 : Int) ≤ atI s i) (hi : atI s i ≤ 223) (t0 : tlI s ((i : Int) + 1) ((i : Int) + 2) = false) : point s i = 0 := by
 rw [tl12] at t0
 simp only [wi, Bool.and_eq_true, Bool.and_eq_false_iff, decide_eq_true_eq, decide_eq_false_iff_not] at t0
 rw [atI_nat] at lo hi
 unfold point pt
 rw [if_neg (by omega), if_neg (by omega), if_neg (by omega), if_neg (by omega)]
theorem point_is4 (s : ByteArray) (i : Nat) (lo : (224 : Int) ≤ atI s i) (hi : atI s i ≤ 224) (t0 : wi (atI s ((i : Int) + 1)) 160 191 = true) (t1 : tlI s ((i : Int) + 2) ((i : Int) + 3) = true) : point s i = 3 := by
 rw [atI_succ] at t0
 rw [tl23] at t1
 simp only [wi, Bool.and_eq_true, Bool.and_eq_false_iff, decide_eq_true_eq, decide_eq_false_iff_not] at t0 t1
 rw [atI_nat] at lo hi
 unfold point pt
 rw [if_neg (by omega), if_neg (by omega), if_pos (by omega)]
theorem point_is5 (s : ByteArray) (i : Nat) (lo : (224 : Int) ≤ atI s i) (hi : atI s i ≤ 224) (t0 : wi (atI s ((i : Int) + 1)) 160 191 = true) (t1 : tlI s ((i : Int) + 2) ((i : Int) + 3) = false) : point s i = 0 := by
 rw [atI_succ] at t0
 rw [tl23] at t1
 simp only [wi, Bool.and_eq_true, Bool.and_eq_false_iff, decide_eq_true_eq, decide_eq_false_iff_not] at t0 t1
 rw [atI_nat] at lo hi
 unfold point pt
 rw [if_neg (by omega), if_neg (by omega), if_neg (by omega), if_neg (by omega)]
theorem point_is6 (s : ByteArray) (i : Nat) (lo : (224 : Int) ≤ atI s i) (hi : atI s i ≤ 224) (t0 : wi (atI s ((i : Int) + 1)) 160 191 = false) : point s i = 0 := by
 rw [atI_succ] at t0
 simp only [wi, Bool.and_eq_true, Bool.and_eq_false_iff, decide_eq_true_eq, decide_eq_false_iff_not] at t0
 rw [atI_nat] at lo hi
 unfold point pt
 rw [if_neg (by omega), if_neg (by omega), if_neg (by omega), if_neg (by omega)]
theorem point_is7 (s : ByteArray) (i : Nat) (lo : (225 : Int) ≤ atI s i) (hi : atI s i ≤ 236) (t0 : tlI s ((i : Int) + 1) ((i : Int) + 3) = true) : point s i = 3 := by
 rw [tl13] at t0
 simp only [wi, Bool.and_eq_true, Bool.and_eq_false_iff, decide_eq_true_eq, decide_eq_false_iff_not] at t0
 rw [atI_nat] at lo hi
 unfold point pt
 rw [if_neg (by omega), if_neg (by omega), if_pos (by omega)]
theorem point_is8 (s : ByteArray) (i : Nat) (lo : (225 : Int) ≤ atI s i) (hi : atI s i ≤ 236) (t0 : tlI s ((i : Int) + 1) ((i : Int) + 3) = false) : point s i = 0 := by
 rw [tl13] at t0
 simp only [wi, Bool.and_eq_true, Bool.and_eq_false_iff, decide_eq_true_eq, decide_eq_false_iff_not] at t0
 rw [atI_nat] at lo hi
 unfold point pt
 rw [if_neg (by omega), if_neg (by omega), if_neg (by omega), if_neg (by omega)]
theorem point_is9 (s : ByteArray) (i : Nat) (lo : (237 : Int) ≤ atI s i) (hi : atI s i ≤ 237) (t0 : wi (atI s ((i : Int) + 1)) 128 159 = true) (t1 : tlI s ((i : Int) + 2) ((i : Int) + 3) = true) : point s i = 3 := by
 rw [atI_succ] at t0
 rw [tl23] at t1
 simp only [wi, Bool.and_eq_true, Bool.and_eq_false_iff, decide_eq_true_eq, decide_eq_false_iff_not] at t0 t1
 rw [atI_nat] at lo hi
 unfold point pt
 rw [if_neg (by omega), if_neg (by omega), if_pos (by omega)]
theorem point_is10 (s : ByteArray) (i : Nat) (lo : (237 : Int) ≤ atI s i) (hi : atI s i ≤ 237) (t0 : wi (atI s ((i : Int) + 1)) 128 159 = true) (t1 : tlI s ((i : Int) + 2) ((i : Int) + 3) = false) : point s i = 0 := by
 rw [atI_succ] at t0
 rw [tl23] at t1
 simp only [wi, Bool.and_eq_true, Bool.and_eq_false_iff, decide_eq_true_eq, decide_eq_false_iff_not] at t0 t1
 rw [atI_nat] at lo hi
 unfold point pt
 rw [if_neg (by omega), if_neg (by omega), if_neg (by omega), if_neg (by omega)]
theorem point_is11 (s : ByteArray) (i : Nat) (lo : (237 : Int) ≤ atI s i) (hi : atI s i ≤ 237) (t0 : wi (atI s ((i : Int) + 1)) 128 159 = false) : point s i = 0 := by
 rw [atI_succ] at t0
 simp only [wi, Bool.and_eq_true, Bool.and_eq_false_iff, decide_eq_true_eq, decide_eq_false_iff_not] at t0
 rw [atI_nat] at lo hi
 unfold point pt
 rw [if_neg (by omega), if_neg (by omega), if_neg (by omega), if_neg (by omega)]
theorem point_is12 (s : ByteArray) (i : Nat) (lo : (238 : Int) ≤ atI s i) (hi : atI s i ≤ 239) (t0 : tlI s ((i : Int) + 1) ((i : Int) + 3) = true) : point s i = 3 := by
 rw [tl13] at t0
 simp only [wi, Bool.and_eq_true, Bool.and_eq_false_iff, decide_eq_true_eq, decide_eq_false_iff_not] at t0
 rw [atI_nat] at lo hi
 unfold point pt
 rw [if_neg (by omega), if_neg (by omega), if_pos (by omega)]
theorem point_is13 (s : ByteArray) (i : Nat) (lo : (238 : Int) ≤ atI s i) (hi : atI s i ≤ 239) (t0 : tlI s ((i : Int) + 1) ((i : Int) + 3) = false) : point s i = 0 := by
 rw [tl13] at t0
 simp only [wi, Bool.and_eq_true, Bool.and_eq_false_iff, decide_eq_true_eq, decide_eq_false_iff_not] at t0
 rw [atI_nat] at lo hi
 unfold point pt
 rw [if_neg (by omega), if_neg (by omega), if_neg (by omega), if_neg (by omega)]
theorem point_is14 (s : ByteArray) (i : Nat) (lo : (240 : Int) ≤ atI s i) (hi : atI s i ≤ 240) (t0 : wi (atI s ((i : Int) + 1)) 144 191 = true) (t1 : tlI s ((i : Int) + 2) ((i : Int) + 4) = true) : point s i = 4 := by
 rw [atI_succ] at t0
 rw [tl24] at t1
 simp only [wi, Bool.and_eq_true, Bool.and_eq_false_iff, decide_eq_true_eq, decide_eq_false_iff_not] at t0 t1
 rw [atI_nat] at lo hi
 unfold point pt
 rw [if_neg (by omega), if_neg (by omega), if_neg (by omega), if_pos (by omega)]
theorem point_is15 (s : ByteArray) (i : Nat) (lo : (240 : Int) ≤ atI s i) (hi : atI s i ≤ 240) (t0 : wi (atI s ((i : Int) + 1)) 144 191 = true) (t1 : tlI s ((i : Int) + 2) ((i : Int) + 4) = false) : point s i = 0 := by
 rw [atI_succ] at t0
 rw [tl24] at t1
 simp only [wi, Bool.and_eq_true, Bool.and_eq_false_iff, decide_eq_true_eq, decide_eq_false_iff_not] at t0 t1
 rw [atI_nat] at lo hi
 unfold point pt
 rw [if_neg (by omega), if_neg (by omega), if_neg (by omega), if_neg (by omega)]
theorem point_is16 (s : ByteArray) (i : Nat) (lo : (240 : Int) ≤ atI s i) (hi : atI s i ≤ 240) (t0 : wi (atI s ((i : Int) + 1)) 144 191 = false) : point s i = 0 := by
 rw [atI_succ] at t0
 simp only [wi, Bool.and_eq_true, Bool.and_eq_false_iff, decide_eq_true_eq, decide_eq_false_iff_not] at t0
 rw [atI_nat] at lo hi
 unfold point pt
 rw [if_neg (by omega), if_neg (by omega), if_neg (by omega), if_neg (by omega)]
theorem point_is17 (s : ByteArray) (i : Nat) (lo : (241 : Int) ≤ atI s i) (hi : atI s i ≤ 243) (t0 : tlI s ((i : Int) + 1) ((i : Int) + 4) = true) : point s i = 4 := by
 rw [tl14] at t0
 simp only [wi, Bool.and_eq_true, Bool.and_eq_false_iff, decide_eq_true_eq, decide_eq_false_iff_not] at t0
 rw [atI_nat] at lo hi
 unfold point pt
 rw [if_neg (by omega), if_neg (by omega), if_neg (by omega), if_pos (by omega)]
theorem point_is18 (s : ByteArray) (i : Nat) (lo : (241 : Int) ≤ atI s i) (hi : atI s i ≤ 243) (t0 : tlI s ((i : Int) + 1) ((i : Int) + 4) = false) : point s i = 0 := by
 rw [tl14] at t0
 simp only [wi, Bool.and_eq_true, Bool.and_eq_false_iff, decide_eq_true_eq, decide_eq_false_iff_not] at t0
 rw [atI_nat] at lo hi
 unfold point pt
 rw [if_neg (by omega), if_neg (by omega), if_neg (by omega), if_neg (by omega)]
theorem point_is19 (s : ByteArray) (i : Nat) (lo : (244 : Int) ≤ atI s i) (hi : atI s i ≤ 244) (t0 : wi (atI s ((i : Int) + 1)) 128 143 = true) (t1 : tlI s ((i : Int) + 2) ((i : Int) + 4) = true) : point s i = 4 := by
 rw [atI_succ] at t0
 rw [tl24] at t1
 simp only [wi, Bool.and_eq_true, Bool.and_eq_false_iff, decide_eq_true_eq, decide_eq_false_iff_not] at t0 t1
 rw [atI_nat] at lo hi
 unfold point pt
 rw [if_neg (by omega), if_neg (by omega), if_neg (by omega), if_pos (by omega)]
theorem point_is20 (s : ByteArray) (i : Nat) (lo : (244 : Int) ≤ atI s i) (hi : atI s i ≤ 244) (t0 : wi (atI s ((i : Int) + 1)) 128 143 = true) (t1 : tlI s ((i : Int) + 2) ((i : Int) + 4) = false) : point s i = 0 := by
 rw [atI_succ] at t0
 rw [tl24] at t1
 simp only [wi, Bool.and_eq_true, Bool.and_eq_false_iff, decide_eq_true_eq, decide_eq_false_iff_not] at t0 t1
 rw [atI_nat] at lo hi
 unfold point pt
 rw [if_neg (by omega), if_neg (by omega), if_neg (by omega), if_neg (by omega)]
theorem point_is21 (s : ByteArray) (i : Nat) (lo : (244 : Int) ≤ atI s i) (hi : atI s i ≤ 244) (t0 : wi (atI s ((i : Int) + 1)) 128 143 = false) : point s i = 0 := by
 rw [atI_succ] at t0
 simp only [wi, Bool.and_eq_true, Bool.and_eq_false_iff, decide_eq_true_eq, decide_eq_false_iff_not] at t0
 rw [atI_nat] at lo hi
 unfold point pt
 rw [if_neg (by omega), if_neg (by omega), if_neg (by omega), if_neg (by omega)]
theorem point_is22 (s : ByteArray) (i : Nat) (lo : (245 : Int) ≤ atI s i) (hi : atI s i ≤ 255)  : point s i = 0 := by
 rw [atI_nat] at lo hi
 unfold point pt
 rw [if_neg (by omega), if_neg (by omega), if_neg (by omega), if_neg (by omega)]
theorem point_any (s : ByteArray) (i : Nat) (hb : i ≤ 1000000) (w : World) :
    Calls Tryz.prog 294 #[.string s, .int .i64 i] w fun e w' => e = .returned (.int .i64 (point s i)) ∧ w' = w := by
  have h0 : (0 : Int) ≤ atI s i := by rw [atI_nat]; omega
  have h1 : atI s i ≤ 255 := by rw [atI_nat]; have := atB_lt s i; omega
  by_cases k127 : atI s i ≤ 127
  · rw [point_is0 s i (by omega) (by omega)]
    exact point_way0 s i hb (by omega) (by omega) w
  by_cases k193 : atI s i ≤ 193
  · rw [point_is1 s i (by omega) (by omega)]
    exact point_way1 s i hb (by omega) (by omega) w
  by_cases k223 : atI s i ≤ 223
  · by_cases t223 : tlI s ((i : Int) + 1) ((i : Int) + 2) = true
    · rw [point_is2 s i (by omega) (by omega) t223]
      exact point_way2 s i hb (by omega) (by omega) t223 w
    · rw [point_is3 s i (by omega) (by omega) (by simpa using t223)]
      exact point_way3 s i hb (by omega) (by omega) (by simpa using t223) w
  by_cases k224 : atI s i ≤ 224
  · by_cases d224 : wi (atI s ((i : Int) + 1)) 160 191 = true
    · by_cases t224 : tlI s ((i : Int) + 2) ((i : Int) + 3) = true
      · rw [point_is4 s i (by omega) (by omega) d224 t224]
        exact point_way4 s i hb (by omega) (by omega) d224 t224 w
      · rw [point_is5 s i (by omega) (by omega) d224 (by simpa using t224)]
        exact point_way5 s i hb (by omega) (by omega) d224 (by simpa using t224) w
    · rw [point_is6 s i (by omega) (by omega) (by simpa using d224)]
      exact point_way6 s i hb (by omega) (by omega) (by simpa using d224) w
  by_cases k236 : atI s i ≤ 236
  · by_cases t236 : tlI s ((i : Int) + 1) ((i : Int) + 3) = true
    · rw [point_is7 s i (by omega) (by omega) t236]
      exact point_way7 s i hb (by omega) (by omega) t236 w
    · rw [point_is8 s i (by omega) (by omega) (by simpa using t236)]
      exact point_way8 s i hb (by omega) (by omega) (by simpa using t236) w
  by_cases k237 : atI s i ≤ 237
  · by_cases d237 : wi (atI s ((i : Int) + 1)) 128 159 = true
    · by_cases t237 : tlI s ((i : Int) + 2) ((i : Int) + 3) = true
      · rw [point_is9 s i (by omega) (by omega) d237 t237]
        exact point_way9 s i hb (by omega) (by omega) d237 t237 w
      · rw [point_is10 s i (by omega) (by omega) d237 (by simpa using t237)]
        exact point_way10 s i hb (by omega) (by omega) d237 (by simpa using t237) w
    · rw [point_is11 s i (by omega) (by omega) (by simpa using d237)]
      exact point_way11 s i hb (by omega) (by omega) (by simpa using d237) w
  by_cases k239 : atI s i ≤ 239
  · by_cases t239 : tlI s ((i : Int) + 1) ((i : Int) + 3) = true
    · rw [point_is12 s i (by omega) (by omega) t239]
      exact point_way12 s i hb (by omega) (by omega) t239 w
    · rw [point_is13 s i (by omega) (by omega) (by simpa using t239)]
      exact point_way13 s i hb (by omega) (by omega) (by simpa using t239) w
  by_cases k240 : atI s i ≤ 240
  · by_cases d240 : wi (atI s ((i : Int) + 1)) 144 191 = true
    · by_cases t240 : tlI s ((i : Int) + 2) ((i : Int) + 4) = true
      · rw [point_is14 s i (by omega) (by omega) d240 t240]
        exact point_way14 s i hb (by omega) (by omega) d240 t240 w
      · rw [point_is15 s i (by omega) (by omega) d240 (by simpa using t240)]
        exact point_way15 s i hb (by omega) (by omega) d240 (by simpa using t240) w
    · rw [point_is16 s i (by omega) (by omega) (by simpa using d240)]
      exact point_way16 s i hb (by omega) (by omega) (by simpa using d240) w
  by_cases k243 : atI s i ≤ 243
  · by_cases t243 : tlI s ((i : Int) + 1) ((i : Int) + 4) = true
    · rw [point_is17 s i (by omega) (by omega) t243]
      exact point_way17 s i hb (by omega) (by omega) t243 w
    · rw [point_is18 s i (by omega) (by omega) (by simpa using t243)]
      exact point_way18 s i hb (by omega) (by omega) (by simpa using t243) w
  by_cases k244 : atI s i ≤ 244
  · by_cases d244 : wi (atI s ((i : Int) + 1)) 128 143 = true
    · by_cases t244 : tlI s ((i : Int) + 2) ((i : Int) + 4) = true
      · rw [point_is19 s i (by omega) (by omega) d244 t244]
        exact point_way19 s i hb (by omega) (by omega) d244 t244 w
      · rw [point_is20 s i (by omega) (by omega) d244 (by simpa using t244)]
        exact point_way20 s i hb (by omega) (by omega) d244 (by simpa using t244) w
    · rw [point_is21 s i (by omega) (by omega) (by simpa using d244)]
      exact point_way21 s i hb (by omega) (by omega) (by simpa using d244) w
  rw [point_is22 s i (by omega) (by omega)]
  exact point_way22 s i hb (by omega) (by omega) w
end Go.Proofs.YtphofgnehdlafaaGreatDoor.Rm
