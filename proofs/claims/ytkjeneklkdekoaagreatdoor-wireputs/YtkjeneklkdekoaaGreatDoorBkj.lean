import Derived.Test.YtkjeneklkdekoaaGreatDoorBki
import Derived.Test.YtkjeneklkdekoaaGreatDoorGthree
namespace Go.Proofs.YtkjeneklkdekoaaGreatDoor
open Go Go.RowKit
set_option linter.unusedSimpArgs false
set_option linter.unusedVariables false

theorem BkAt.kept {w w' : World} {bb : Nat} {cs : Array Value} (h : BkAt w bb cs) (hb : Below w.heap.size w w') : BkAt w' bb cs := (hb.block bb (lt_of_block h)).trans h

set_option maxRecDepth 100000 in
set_option maxHeartbeats 1000000 in
theorem hold_bk (bb : Nat) (cs : Array Value) (w : World) (hB : BkAt w bb cs) (hr : Rest cs) (h1 : cs[1]? = some (.bool false)) (h : Calls Tryz.prog 43 #[.pointer (some ⟨bb, 0, none⟩)] w fun e w1 => e = .returned (.bool true) ∧ Below w.heap.size w w1) :
    Calls Tryz.prog 11 #[.pointer (some ⟨bb, 0, none⟩)] w fun e w1 => e = .returned (.bool true) ∧ Below w.heap.size w w1 := by
  have H0 : Hid (Calls Tryz.prog 43 #[.pointer (some ⟨bb, 0, none⟩)] w fun e w1 => e = .returned (.bool true) ∧ Below w.heap.size w w1) := h
  have HB : Hid (BkAt w bb cs ∧ Rest cs) := ⟨hB, hr⟩
  have x1 : w.cell? ⟨bb, 1, none⟩ = some (.bool false) := (bk_cell hB h1).1
  clear h hB hr h1
  go_enter Tryz.func11, Tryz.ntmps11
  go_wp2_with fail
  go_must (go_at_call 43)
  refine H0.out.mono ?_
  rintro e w1 ⟨rfl, hb⟩
  have HB1 : Hid (BkAt w1 bb cs ∧ Rest cs) := ⟨HB.out.1.kept hb, HB.out.2⟩
  have HL : Hid (Below w.heap.size w w1) := hb
  clear hb x1
  go_wp2_with (first | (go_at_call 44; refine (holdInts_none bb cs _ HB1.out.1 HB1.out.2).mono ?_; rintro e w2 ⟨rfl, he⟩; obtain rfl := he.symm; clear he) | (go_at_call 45; refine (holdTexts_none bb cs _ HB1.out.1 HB1.out.2).mono ?_; rintro e w2 ⟨rfl, he⟩; obtain rfl := he.symm; clear he) | (go_at_call 46; refine (holdEntries_none bb cs _ HB1.out.1 HB1.out.2).mono ?_; rintro e w2 ⟨rfl, he⟩; obtain rfl := he.symm; clear he) | (go_at_call 47; refine (holdAsks_none bb cs _ HB1.out.1 HB1.out.2).mono ?_; rintro e w2 ⟨rfl, he⟩; obtain rfl := he.symm; clear he) | (go_at_call 48; refine (holdUsers_none bb cs _ HB1.out.1 HB1.out.2).mono ?_; rintro e w2 ⟨rfl, he⟩; obtain rfl := he.symm; clear he) | (go_at_call 49; refine (holdWhos_none bb cs _ HB1.out.1 HB1.out.2).mono ?_; rintro e w2 ⟨rfl, he⟩; obtain rfl := he.symm; clear he) | (go_at_call 50; refine (holdChunks_none bb cs _ HB1.out.1 HB1.out.2).mono ?_; rintro e w2 ⟨rfl, he⟩; obtain rfl := he.symm; clear he) | (go_at_call 51; refine (holdMessages_none bb cs _ HB1.out.1 HB1.out.2).mono ?_; rintro e w2 ⟨rfl, he⟩; obtain rfl := he.symm; clear he) | (go_at_call 52; refine (holdPackets_none bb cs _ HB1.out.1 HB1.out.2).mono ?_; rintro e w2 ⟨rfl, he⟩; obtain rfl := he.symm; clear he) | (go_at_call 53; refine (holdFlights_none bb cs _ HB1.out.1 HB1.out.2).mono ?_; rintro e w2 ⟨rfl, he⟩; obtain rfl := he.symm; clear he) | (go_at_call 54; refine (holdOuts_none bb cs _ HB1.out.1 HB1.out.2).mono ?_; rintro e w2 ⟨rfl, he⟩; obtain rfl := he.symm; clear he) | (go_at_call 55; refine (holdInputs_none bb cs _ HB1.out.1 HB1.out.2).mono ?_; rintro e w2 ⟨rfl, he⟩; obtain rfl := he.symm; clear he) | (go_at_call 56; refine (holdTolds_none bb cs _ HB1.out.1 HB1.out.2).mono ?_; rintro e w2 ⟨rfl, he⟩; obtain rfl := he.symm; clear he) | (go_at_call 57; refine (holdSessions_none bb cs _ HB1.out.1 HB1.out.2).mono ?_; rintro e w2 ⟨rfl, he⟩; obtain rfl := he.symm; clear he) | (go_at_call 58; refine (holdShapes_none bb cs _ HB1.out.1 HB1.out.2).mono ?_; rintro e w2 ⟨rfl, he⟩; obtain rfl := he.symm; clear he) | (go_at_call 59; refine (holdSteps_none bb cs _ HB1.out.1 HB1.out.2).mono ?_; rintro e w2 ⟨rfl, he⟩; obtain rfl := he.symm; clear he))
  go_ret
  exact ⟨rfl, HL.out⟩

theorem mod_is (n m : Int) (h0 : 0 < m) (h1 : m ≤ 4294967296) : (wrap64 (n.tmod m + m)).tmod m = n % m := by
  have a := Int.tmod_lt_of_pos n h0
  have b := Int.lt_tmod_of_pos n h0
  have c := Int.mul_tdiv_add_tmod n m
  have d : wrap64 (n.tmod m + m) = n.tmod m + m := by unfold wrap64; omega
  rw [d, Int.tmod_eq_emod_of_nonneg (by omega), Int.add_emod_right]
  conv => rhs; rw [← c]
  rw [Int.add_comm, Int.add_mul_emod_self_left]

set_option maxRecDepth 100000 in
set_option maxHeartbeats 1000000 in
theorem rmod_small (n : Int) (w : World) :
    Calls Tryz.prog 84 #[.int .i64 n, .int .i64 65536] w fun e w' => e = .returned (.int .i64 (n % 65536)) ∧ w' = w := by
  go_enter Tryz.func84, Tryz.ntmps84
  go_wp2
  go_ret
  exact ⟨by rw [← mod_is n 65536 (by decide) (by decide)]; rfl, rfl⟩

set_option maxRecDepth 100000 in
set_option maxHeartbeats 1000000 in
theorem rmod_large (n : Int) (w : World) :
    Calls Tryz.prog 84 #[.int .i64 n, .int .i64 4294967296] w fun e w' => e = .returned (.int .i64 (n % 4294967296)) ∧ w' = w := by
  go_enter Tryz.func84, Tryz.ntmps84
  go_wp2
  go_ret
  exact ⟨by rw [← mod_is n 4294967296 (by decide) (by decide)]; rfl, rfl⟩

set_option maxRecDepth 100000 in
set_option maxHeartbeats 1000000 in
theorem rnumber_any (n : Int) (w : World) :
    Calls Tryz.prog 22 #[.int .i64 n] w fun e w' => e = .returned (.slice (some ⟨w.heap.size, 0, none⟩) 2 2) ∧ w' = w.alloc (.cells #[.int .u8 (n / 256 % 256), .int .u8 (n % 256)] 5) := by
  have M0 : Hid (Calls Tryz.prog 84 #[.int .i64 n, .int .i64 65536] w fun e w' => e = .returned (.int .i64 (n % 65536)) ∧ w' = w) := rmod_small n w
  have b0 : 0 ≤ n % 65536 := by omega
  have b1 : n % 65536 < 65536 := by omega
  have e1 : Hid (n % 65536 / 256 % 256 = n / 256 % 256) := show n % 65536 / 256 % 256 = n / 256 % 256 by omega
  have e2 : Hid (n % 65536 % 256 % 256 = n % 256) := show n % 65536 % 256 % 256 = n % 256 by omega
  go_enter Tryz.func22, Tryz.ntmps22
  go_wp2_with (go_at_call 84; refine M0.out.mono ?_; rintro e w2 ⟨rfl, he⟩; obtain rfl := he.symm; clear he)
  go_ret
  exact ⟨rfl, by rw [show n % 65536 / 256 = n / 256 % 256 by omega]⟩

end Go.Proofs.YtkjeneklkdekoaaGreatDoor
