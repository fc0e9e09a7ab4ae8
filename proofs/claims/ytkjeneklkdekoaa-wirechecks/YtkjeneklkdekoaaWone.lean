import Derived.Test.YtkjeneklkdekoaaProg
import Derived.Test.YtkjeneklkdekoaaPt
import Derived.WalkKit
import Derived.WalkSpells
import Derived.WalkLawsBesides
namespace Go.Proofs.Ytkjeneklkdekoaa
open Go.RowKit
set_option linter.unusedSimpArgs false
set_option linter.unusedVariables false

/-- Is a number within two others? -/
def wi (c a b : Int) : Bool := decide (a ≤ c) && decide (c ≤ b)
/-- The byte at a place, as a number. -/
def atI (s : ByteArray) (j : Int) : Int := atB s j.toNat
/-- Do the bytes from a place on, so many, all go on with a code point? -/
def tlN (s : ByteArray) (f : Nat) : Nat → Bool
  | 0 => true
  | n + 1 => tlN s f n && wi (atI s (f + n : Nat)) 128 191
/-- From a place up to another. -/
def tlI (s : ByteArray) (j l : Int) : Bool := tlN s j.toNat (l - j).toNat

theorem tlN_false (s : ByteArray) (f : Nat) : ∀ (m n : Nat), tlN s f m = false → m ≤ n → tlN s f n = false
  | m, 0, h, hm => by
    obtain rfl : m = 0 := by omega
    exact h
  | m, n + 1, h, hm => by
    by_cases e : m = n + 1
    · subst e; exact h
    · simp [tlN, tlN_false s f m n h (by omega)]

theorem within_any (c a b : Int) (w : World) :
    Calls Try.prog 32 #[.int .u8 c, .int .u8 a, .int .u8 b] w fun e w' => e = .returned (.bool (wi c a b)) ∧ w' = w := by
  by_cases h1 : a ≤ c
  · by_cases h2 : c ≤ b
    · have hw : wi c a b = true := by simp [wi, h1, h2]
      rw [hw]
      clear hw
      go_enter Try.func32, Try.ntmps32
      go_wp2
      go_ret
      exact ⟨rfl, rfl⟩
    · have hw : wi c a b = false := by simp [wi, h2]
      rw [hw]
      clear hw
      go_enter Try.func32, Try.ntmps32
      go_wp2
      go_ret
      exact ⟨rfl, rfl⟩
  · have hw : wi c a b = false := by simp [wi, h1]
    rw [hw]
    clear hw
    go_enter Try.func32, Try.ntmps32
    go_wp2
    go_ret
    exact ⟨rfl, rfl⟩

theorem at_any (s : ByteArray) (j : Int) (hj : 0 ≤ j) (w : World) :
    Calls Try.prog 31 #[.string s, .int .i64 j] w fun e w' => e = .returned (.int .u8 (atI s j)) ∧ w' = w := by
  obtain ⟨i, rfl⟩ : ∃ i : Nat, j = i := ⟨j.toNat, by omega⟩
  have e : atI s (i : Int) = atB s i := rfl
  rw [e]
  clear e hj
  by_cases h : i < s.size
  · rw [atB_in s i h]
    go_enter Try.func31, Try.ntmps31
    go_wp2
    go_ret
    exact ⟨rfl, rfl⟩
  · rw [atB_out s i h]
    go_enter Try.func31, Try.ntmps31
    go_wp2
    go_ret
    exact ⟨rfl, rfl⟩

set_option maxHeartbeats 400000 in
theorem tail_nat (s : ByteArray) (f n : Nat) (hb : f + n ≤ 1000000000) (w : World) :
    Calls Try.prog 33 #[.string s, .int .i64 f, .int .i64 (f + n : Int)] w fun e w' => e = .returned (.bool (tlN s f n)) ∧ w' = w := by
  go_enter Try.func33, Try.ntmps33
  go_wp2
  go_loop [7] (fun i => ∃ k : Nat, k ≤ n ∧ i = .int .i64 ((f + k : Nat) : Int) ∧ tlN s f k = true) (fun i => f + n - (intOf i).toNat)
  case atStart => exact ⟨0, Nat.zero_le _, rfl, rfl⟩
  case round =>
    obtain ⟨k, hk, rfl, ht⟩ := hrel
    have HT : Hid (tlN s f k = true) := ht
    clear ht
    by_cases hlt : k < n
    · by_cases hw : wi (atI s ((f : Int) + (k : Int))) 128 191 = true
      · have HS : Hid (tlN s f (k + 1) = true) := by have h1 := HT.out; simp only [tlN, h1, Int.natCast_add, hw, Bool.and_true, Hid]
        go_wp2_with (first | (go_at_call 31; refine (at_any _ _ (by omega) _).mono ?_; rintro e w' ⟨rfl, rfl⟩) | (go_at_call 32; refine (within_any _ _ _ _).mono ?_; rintro e w' ⟨rfl, rfl⟩))
        go_round
        case rel => exact ⟨k + 1, by omega, by go_num, HS.out⟩
        case measure => simp [intOf]; omega
      · have hw' : wi (atI s ((f : Int) + (k : Int))) 128 191 = false := by simpa using hw
        clear hw
        have HS : Hid (tlN s f n = false) := tlN_false s f (k + 1) n (by simp [tlN, hw']) (by omega)
        go_wp2_with (first | (go_at_call 31; refine (at_any _ _ (by omega) _).mono ?_; rintro e w' ⟨rfl, rfl⟩) | (go_at_call 32; refine (within_any _ _ _ _).mono ?_; rintro e w' ⟨rfl, rfl⟩))
        go_ret
        exact ⟨by rw [HS.out]; rfl, rfl⟩
    · obtain rfl : k = n := by omega
      go_wp2
      go_ret
      exact ⟨by rw [HT.out]; rfl, rfl⟩

theorem tail_any (s : ByteArray) (j l : Int) (hj : 0 ≤ j) (hl : j ≤ l) (hb : l ≤ 1000000000) (w : World) :
    Calls Try.prog 33 #[.string s, .int .i64 j, .int .i64 l] w fun e w' => e = .returned (.bool (tlI s j l)) ∧ w' = w := by
  obtain ⟨f, rfl⟩ : ∃ f : Nat, j = f := ⟨j.toNat, by omega⟩
  obtain ⟨n, rfl⟩ : ∃ n : Nat, l = (f : Int) + n := ⟨(l - f).toNat, by omega⟩
  have e : tlI s f ((f : Int) + n) = tlN s f n := by
    unfold tlI
    congr 1
    omega
  rw [e]
  exact tail_nat s f n (by omega) w
end Go.Proofs.Ytkjeneklkdekoaa
