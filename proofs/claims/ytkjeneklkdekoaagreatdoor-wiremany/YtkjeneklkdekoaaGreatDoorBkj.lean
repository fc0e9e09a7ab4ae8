import Derived.Test.YtkjeneklkdekoaaGreatDoorBki
import Derived.Test.YtkjeneklkdekoaaGreatDoorGthree
namespace Go.Proofs.YtkjeneklkdekoaaGreatDoor
open Go Go.RowKit
set_option linter.unusedSimpArgs false
set_option linter.unusedVariables false

theorem BkAt.kept {w w' : World} {bb : Nat} {cs : Array Value} (h : BkAt w bb cs) (hb : Below w.heap.size w w') : BkAt w' bb cs := (hb.block bb (lt_of_block h)).trans h

set_option maxRecDepth 100000 in
set_option maxHeartbeats 1000000 in
theorem hold_bk (bb : Nat) (cs : Array Value) (w : World) (hB : BkAt w bb cs) (hr : Rest cs) (h1 : cs[1]? = some (.bool false)) (h : Calls Tryz.prog 43 #[.pointer (some ⟨bb, 0, none⟩)] w fun e w1 => e = .returned (.bool true) ∧ Below w.heap.size w w1) :
    Calls Tryz.prog 11 #[.pointer (some ⟨bb, 0, none⟩)] w fun e w1 => e = .returned (.bool true) ∧ Below w.heap.size w w1 := by
  have H0 : Hid (Calls Tryz.prog 43 #[.pointer (some ⟨bb, 0, none⟩)] w fun e w1 => e = .returned (.bool true) ∧ Below w.heap.size w w1) := h
  have HB : Hid (BkAt w bb cs ∧ Rest cs) := ⟨hB, hr⟩
  have x1 : w.cell? ⟨bb, 1, none⟩ = some (.bool false) := (bk_cell hB h1).1
  clear h hB hr h1
  go_enter Tryz.func11, Tryz.ntmps11
  go_wp2_with fail
  go_must (go_at_call 43)
  refine H0.out.mono ?_
  rintro e w1 ⟨rfl, hb⟩
  have HB1 : Hid (BkAt w1 bb cs ∧ Rest cs) := ⟨HB.out.1.kept hb, HB.out.2⟩
  have HL : Hid (Below w.heap.size w w1) := hb
  clear hb x1
  go_wp2_with (first | (go_at_call 44; refine (holdInts_none bb cs _ HB1.out.1 HB1.out.2).mono ?_; rintro e w2 ⟨rfl, he⟩; obtain rfl := he.symm; clear he) | (go_at_call 45; refine (holdTexts_none bb cs _ HB1.out.1 HB1.out.2).mono ?_; rintro e w2 ⟨rfl, he⟩; obtain rfl := he.symm; clear he) | (go_at_call 46; refine (holdEntries_none bb cs _ HB1.out.1 HB1.out.2).mono ?_; rintro e w2 ⟨rfl, he⟩; obtain rfl := he.symm; clear he) | (go_at_call 47; refine (holdAsks_none bb cs _ HB1.out.1 HB1.out.2).mono ?_; rintro e w2 ⟨rfl, he⟩; obtain rfl := he.symm; clear he) | (go_at_call 48; refine (holdUsers_none bb cs _ HB1.out.1 HB1.out.2).mono ?_; rintro e w2 ⟨rfl, he⟩; obtain rfl := he.symm; clear he) | (go_at_call 49; refine (holdWhos_none bb cs _ HB1.out.1 HB1.out.2).mono ?_; rintro e w2 ⟨rfl, he⟩; obtain rfl := he.symm; clear he) | (go_at_call 50; refine (holdChunks_none bb cs _ HB1.out.1 HB1.out.2).mono ?_; rintro e w2 ⟨rfl, he⟩; obtain rfl := he.symm; clear he) | (go_at_call 51; refine (holdMessages_none bb cs _ HB1.out.1 HB1.out.2).mono ?_; rintro e w2 ⟨rfl, he⟩; obtain rfl := he.symm; clear he) | (go_at_call 52; refine (holdPackets_none bb cs _ HB1.out.1 HB1.out.2).mono ?_; rintro e w2 ⟨rfl, he⟩; obtain rfl := he.symm; clear he) | (go_at_call 53; refine (holdFlights_none bb cs _ HB1.out.1 HB1.out.2).mono ?_; rintro e w2 ⟨rfl, he⟩; obtain rfl := he.symm; clear he) | (go_at_call 54; refine (holdOuts_none bb cs _ HB1.out.1 HB1.out.2).mono ?_; rintro e w2 ⟨rfl, he⟩; obtain rfl := he.symm; clear he) | (go_at_call 55; refine (holdInputs_none bb cs _ HB1.out.1 HB1.out.2).mono ?_; rintro e w2 ⟨rfl, he⟩; obtain rfl := he.symm; clear he) | (go_at_call 56; refine (holdTolds_none bb cs _ HB1.out.1 HB1.out.2).mono ?_; rintro e w2 ⟨rfl, he⟩; obtain rfl := he.symm; clear he) | (go_at_call 57; refine (holdSessions_none bb cs _ HB1.out.1 HB1.out.2).mono ?_; rintro e w2 ⟨rfl, he⟩; obtain rfl := he.symm; clear he) | (go_at_call 58; refine (holdShapes_none bb cs _ HB1.out.1 HB1.out.2).mono ?_; rintro e w2 ⟨rfl, he⟩; obtain rfl := he.symm; clear he) | (go_at_call 59; refine (holdSteps_none bb cs _ HB1.out.1 HB1.out.2).mono ?_; rintro e w2 ⟨rfl, he⟩; obtain rfl := he.symm; clear he))
  go_ret
  exact ⟨rfl, HL.out⟩

end Go.Proofs.YtkjeneklkdekoaaGreatDoor
