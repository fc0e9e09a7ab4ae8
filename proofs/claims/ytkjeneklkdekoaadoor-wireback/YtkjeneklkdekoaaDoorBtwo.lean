import Derived.Test.YtkjeneklkdekoaaDoorBone
import Derived.Deep.RegionWith
namespace Go.Proofs.YtkjeneklkdekoaaDoor
open Go Go.RowKit
set_option linter.unusedSimpArgs false
set_option linter.unusedVariables false

/-- A long number's bytes. -/
def lngZ (n : Int) : Nat → Int := fun i => if i = 0 then n / 16777216 % 256 else if i = 1 then n / 65536 % 256 else if i = 2 then n / 256 % 256 else if i = 3 then n % 256 else 0
theorem lngZ_bd (n : Int) (i : Nat) : 0 ≤ lngZ n i ∧ lngZ n i ≤ 255 := by
  unfold lngZ
  split
  · omega
  · split
    · omega
    · split
      · omega
      · split <;> omega

set_option maxRecDepth 100000 in
set_option maxHeartbeats 1000000 in
theorem putLong_any (a0 : Option Addr) (l0 k0 : Nat) (z0 : Nat → Int) (n : Int) (w : World) (h0 : Came w a0 l0 k0 z0) (hl0 : l0 ≤ 400000) :
    Calls Tryd.prog 10 #[.slice a0 l0 k0, .int .i64 n] w fun e w' => Made w w' e (l0 + 4) (cellsOf z0 l0 ++ cellsOf (lngZ n) 4) := by
  have B0 : Hid (Calls Tryd.prog 31 #[.slice a0 l0 k0, .slice (some ⟨w.heap.size, 0, none⟩) 4 4] (w.alloc (.cells #[.int .u8 (n / 16777216 % 256), .int .u8 (n / 65536 % 256), .int .u8 (n / 256 % 256), .int .u8 (n % 256)] 5)) fun e w' => Made w w' e (l0 + 4) (cellsOf z0 l0 ++ cellsOf (lngZ n) 4)) :=
    (behind_any a0 ⟨w.heap.size, 0, none⟩ l0 k0 4 4 z0 (lngZ n) _ (came_below (B := 0) h0 ((Below.refl _ _).alloc (Nat.le_refl _) _)) (new_came w 4 (lngZ n) _ rfl (lngZ_bd n)) (by omega) hl0 (by omega)).mono fun e w' h => made_alloc h
  clear h0
  go_enter Tryd.func10, Tryd.ntmps10
  go_wp2_with (go_at_call 31; refine B0.out.mono ?_; rintro e w' ⟨g, cp, rfl, ho, hb⟩)
  go_ret
  exact ⟨g, cp, rfl, ho, hb⟩

theorem mod_is (n m : Int) (h0 : 0 < m) (h1 : m ≤ 4294967296) : (wrap64 (n.tmod m + m)).tmod m = n % m := by
  have a := Int.tmod_lt_of_pos n h0
  have b := Int.lt_tmod_of_pos n h0
  have c := Int.mul_tdiv_add_tmod n m
  have d : wrap64 (n.tmod m + m) = n.tmod m + m := by unfold wrap64; omega
  rw [d, Int.tmod_eq_emod_of_nonneg (by omega), Int.add_emod_right]
  conv => rhs; rw [← c]
  rw [Int.add_comm, Int.add_mul_emod_self_left]

set_option maxRecDepth 100000 in
set_option maxHeartbeats 1000000 in
theorem mod_small (n : Int) (w : World) :
    Calls Tryd.prog 13 #[.int .i64 n, .int .i64 65536] w fun e w' => e = .returned (.int .i64 (n % 65536)) ∧ w' = w := by
  go_enter Tryd.func13, Tryd.ntmps13
  go_wp2
  go_ret
  exact ⟨by rw [← mod_is n 65536 (by decide) (by decide)]; rfl, rfl⟩

set_option maxRecDepth 100000 in
set_option maxHeartbeats 1000000 in
theorem mod_large (n : Int) (w : World) :
    Calls Tryd.prog 13 #[.int .i64 n, .int .i64 4294967296] w fun e w' => e = .returned (.int .i64 (n % 4294967296)) ∧ w' = w := by
  go_enter Tryd.func13, Tryd.ntmps13
  go_wp2
  go_ret
  exact ⟨by rw [← mod_is n 4294967296 (by decide) (by decide)]; rfl, rfl⟩

set_option maxRecDepth 100000 in
set_option maxHeartbeats 1000000 in
theorem putText_bad (s : ByteArray) (c q : Nat) (hcq : chk s = (c, q)) (hq : q ≠ 0) (w : World) :
    Calls Tryd.prog 18 #[.slice none 0 0, .string s] w fun e w' => e = .returned (.tuple #[.slice none 0 0, .int .i64 q]) ∧ Below w.heap.size w w' := by
  have K0 : Hid (Calls Tryd.prog 24 #[.string s] w fun e w' => e = .returned (.tuple #[.int .i64 c, .int .i64 q]) ∧ Below w.heap.size w w') := by
    refine (chk_any s w).mono ?_
    rw [hcq]
    rintro e w' ⟨rfl, hb, _⟩
    exact ⟨rfl, hb⟩
  have j1 : ((q : Int) != 0) = true := by simp; omega
  clear hcq hq
  go_enter Tryd.func18, Tryd.ntmps18
  go_wp2_with (go_at_call 24; refine K0.out.mono ?_; rintro e w1 ⟨rfl, hb1⟩)
  go_ret2
  exact ⟨rfl, hb1⟩

set_option maxRecDepth 100000 in
set_option maxHeartbeats 1000000 in
theorem putData_long (a : Option Addr) (l k : Nat) (hl : 65535 < l) (w : World) :
    Calls Tryd.prog 19 #[.slice none 0 0, .slice a l k] w fun e w' => e = .returned (.tuple #[.slice none 0 0, .int .i64 11]) ∧ w' = w := by
  have h1 : (65535 : Int) < l := by omega
  go_enter Tryd.func19, Tryd.ntmps19
  go_wp2
  go_ret2
  exact ⟨rfl, rfl⟩
end Go.Proofs.YtkjeneklkdekoaaDoor
