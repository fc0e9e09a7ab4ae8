import Derived.Test.YtglnldopnoafoaaGreatDoorBkd
import Derived.Test.YtglnldopnoafoaaGreatDoorBke
namespace Go.Proofs.YtglnldopnoafoaaGreatDoor
open Go Go.RowKit
set_option linter.unusedSimpArgs false
set_option linter.unusedVariables false

set_option maxRecDepth 100000 in
set_option maxHeartbeats 1000000 in
theorem marks_any (bb : Nat) (w : World) (Q : World → Prop) (h0 : ∃ cs, BkAt w bb cs ∧ Rest cs) (h : Calls Tryz.prog 97 #[.pointer (some ⟨bb, 0, none⟩)] w fun e w1 => e = .returned (.tuple #[]) ∧ (∃ cs, BkAt w1 bb cs ∧ Rest cs) ∧ Q w1) :
    Calls Tryz.prog 62 #[.pointer (some ⟨bb, 0, none⟩)] w fun e w1 => e = .returned (.tuple #[]) ∧ Q w1 := by
  have H0 : Hid (Calls Tryz.prog 97 #[.pointer (some ⟨bb, 0, none⟩)] w fun e w1 => e = .returned (.tuple #[]) ∧ (∃ cs, BkAt w1 bb cs ∧ Rest cs) ∧ Q w1) := h
  obtain ⟨cs0, hB0, hr0⟩ := h0
  have HB0 : Hid (BkAt w bb cs0 ∧ Rest cs0) := ⟨hB0, hr0⟩
  clear h hB0 hr0
  go_enter Tryz.func62, Tryz.ntmps62
  go_wp2_with (first | (go_at_call 95; refine (markBytes_none bb cs0 w HB0.out.1 HB0.out.2).mono ?_; rintro e w2 ⟨rfl, he⟩; obtain rfl := he.symm; clear he) | (go_at_call 96; refine (markInts_none bb cs0 w HB0.out.1 HB0.out.2).mono ?_; rintro e w2 ⟨rfl, he⟩; obtain rfl := he.symm; clear he))
  go_must (go_at_call 97)
  refine H0.out.mono ?_
  rintro e w1 ⟨rfl, ⟨cs, hB, hr⟩, hq⟩
  have HB : Hid (BkAt w1 bb cs ∧ Rest cs) := ⟨hB, hr⟩
  have HQ : Hid (Q w1) := hq
  clear hB hr hq
  go_wp2_with (first | (go_at_call 98; refine (markEntries_none bb cs w1 HB.out.1 HB.out.2).mono ?_; rintro e w2 ⟨rfl, he⟩; obtain rfl := he.symm; clear he) | (go_at_call 99; refine (markAsks_none bb cs w1 HB.out.1 HB.out.2).mono ?_; rintro e w2 ⟨rfl, he⟩; obtain rfl := he.symm; clear he) | (go_at_call 100; refine (markUsers_none bb cs w1 HB.out.1 HB.out.2).mono ?_; rintro e w2 ⟨rfl, he⟩; obtain rfl := he.symm; clear he) | (go_at_call 101; refine (markWhos_none bb cs w1 HB.out.1 HB.out.2).mono ?_; rintro e w2 ⟨rfl, he⟩; obtain rfl := he.symm; clear he) | (go_at_call 102; refine (markChunks_none bb cs w1 HB.out.1 HB.out.2).mono ?_; rintro e w2 ⟨rfl, he⟩; obtain rfl := he.symm; clear he) | (go_at_call 103; refine (markMessages_none bb cs w1 HB.out.1 HB.out.2).mono ?_; rintro e w2 ⟨rfl, he⟩; obtain rfl := he.symm; clear he) | (go_at_call 104; refine (markPackets_none bb cs w1 HB.out.1 HB.out.2).mono ?_; rintro e w2 ⟨rfl, he⟩; obtain rfl := he.symm; clear he) | (go_at_call 105; refine (markFlights_none bb cs w1 HB.out.1 HB.out.2).mono ?_; rintro e w2 ⟨rfl, he⟩; obtain rfl := he.symm; clear he) | (go_at_call 106; refine (markOuts_none bb cs w1 HB.out.1 HB.out.2).mono ?_; rintro e w2 ⟨rfl, he⟩; obtain rfl := he.symm; clear he) | (go_at_call 107; refine (markInputs_none bb cs w1 HB.out.1 HB.out.2).mono ?_; rintro e w2 ⟨rfl, he⟩; obtain rfl := he.symm; clear he) | (go_at_call 108; refine (markTolds_none bb cs w1 HB.out.1 HB.out.2).mono ?_; rintro e w2 ⟨rfl, he⟩; obtain rfl := he.symm; clear he) | (go_at_call 109; refine (markSessions_none bb cs w1 HB.out.1 HB.out.2).mono ?_; rintro e w2 ⟨rfl, he⟩; obtain rfl := he.symm; clear he) | (go_at_call 110; refine (markShapes_none bb cs w1 HB.out.1 HB.out.2).mono ?_; rintro e w2 ⟨rfl, he⟩; obtain rfl := he.symm; clear he) | (go_at_call 111; refine (markSteps_none bb cs w1 HB.out.1 HB.out.2).mono ?_; rintro e w2 ⟨rfl, he⟩; obtain rfl := he.symm; clear he))
  go_end0
  exact ⟨rfl, HQ.out⟩
end Go.Proofs.YtglnldopnoafoaaGreatDoor
namespace Go.Proofs.YtglnldopnoafoaaGreatDoor
open Go Go.RowKit
set_option linter.unusedSimpArgs false
set_option linter.unusedVariables false

set_option maxRecDepth 100000 in
set_option maxHeartbeats 1000000 in
theorem grows_any (bb : Nat) (w : World) (Q : World → Prop) (hQ : ∀ w1 w2, Q w1 → w1.grownBy w2 (some bb) → (∃ cs, BkAt w1 bb cs ∧ BkAt w2 bb cs) → Q w2) (h0 : ∃ cs, BkAt w bb cs ∧ Rest cs) (h : ∀ u, w.grownBy u (some bb) → (∃ cs, BkAt w bb cs ∧ BkAt u bb cs) → Calls Tryz.prog 114 #[.pointer (some ⟨bb, 0, none⟩)] u fun e w1 => e = .returned (.tuple #[]) ∧ (∃ cs, BkAt w1 bb cs ∧ Rest cs) ∧ Q w1) :
    Calls Tryz.prog 63 #[.pointer (some ⟨bb, 0, none⟩)] w fun e w1 => e = .returned (.tuple #[]) ∧ Q w1 := by
  have H0 : Hid (∀ u, w.grownBy u (some bb) → (∃ cs, BkAt w bb cs ∧ BkAt u bb cs) → Calls Tryz.prog 114 #[.pointer (some ⟨bb, 0, none⟩)] u fun e w1 => e = .returned (.tuple #[]) ∧ (∃ cs, BkAt w1 bb cs ∧ Rest cs) ∧ Q w1) := h
  have QQ : Hid (∀ w1 w2, Q w1 → w1.grownBy w2 (some bb) → (∃ cs, BkAt w1 bb cs ∧ BkAt w2 bb cs) → Q w2) := hQ
  obtain ⟨cs0, hB0, hr0⟩ := h0
  have HR0 : Hid (Rest cs0) := hr0
  have HBx : Hid (BkAt w bb cs0) := hB0
  have HG0 : Hid (BkAt w bb cs0 ∧ w.grownBy w (some bb)) := ⟨hB0, World.grownBy.refl _ _⟩
  clear h hQ hB0 hr0
  go_enter Tryz.func63, Tryz.ntmps63
  go_wp2_with fail
  go_must (go_at_call 112)
  refine (growBytes_none bb cs0 w HG0.out.1 HR0.out).mono ?_
  rintro e u1 ⟨rfl, hB, hg⟩
  have HG1 : Hid (BkAt u1 bb cs0 ∧ w.grownBy u1 (some bb)) := ⟨hB, ⟨hg.os.trans HG0.out.2.os, hg.tape.trans HG0.out.2.tape, hg.output.trans HG0.out.2.output, Nat.le_trans HG0.out.2.size hg.size, fun j hj hn => (hg.block j (Nat.lt_of_lt_of_le hj HG0.out.2.size) hn).trans (HG0.out.2.block j hj hn)⟩⟩
  clear hB hg
  go_wp2_with fail
  go_must (go_at_call 113)
  refine (growInts_none bb cs0 u1 HG1.out.1 HR0.out).mono ?_
  rintro e u2 ⟨rfl, hB, hg⟩
  have HG2 : Hid (BkAt u2 bb cs0 ∧ w.grownBy u2 (some bb)) := ⟨hB, ⟨hg.os.trans HG1.out.2.os, hg.tape.trans HG1.out.2.tape, hg.output.trans HG1.out.2.output, Nat.le_trans HG1.out.2.size hg.size, fun j hj hn => (hg.block j (Nat.lt_of_lt_of_le hj HG1.out.2.size) hn).trans (HG1.out.2.block j hj hn)⟩⟩
  clear hB hg
  have HC : Hid (Calls Tryz.prog 114 #[.pointer (some ⟨bb, 0, none⟩)] u2 fun e w1 => e = .returned (.tuple #[]) ∧ (∃ cs, BkAt w1 bb cs ∧ Rest cs) ∧ Q w1) := H0.out _ HG2.out.2 ⟨cs0, HBx.out, HG2.out.1⟩
  go_wp2_with fail
  go_must (go_at_call 114)
  refine HC.out.mono ?_
  rintro e w0 ⟨rfl, ⟨cs, hB, hr⟩, hq⟩
  have HR : Hid (Rest cs) := hr
  have HB0 : Hid (BkAt w0 bb cs ∧ Q w0) := ⟨hB, hq⟩
  clear hB hr hq
  go_wp2_with fail
  go_must (go_at_call 115)
  refine (growEntries_none bb cs w0 HB0.out.1 HR.out).mono ?_
  rintro e w1 ⟨rfl, hB, hg⟩
  have HB1 : Hid (BkAt w1 bb cs ∧ Q w1) := ⟨hB, QQ.out w0 w1 HB0.out.2 hg ⟨cs, HB0.out.1, hB⟩⟩
  clear hB hg
  go_wp2_with fail
  go_must (go_at_call 116)
  refine (growAsks_none bb cs w1 HB1.out.1 HR.out).mono ?_
  rintro e w2 ⟨rfl, hB, hg⟩
  have HB2 : Hid (BkAt w2 bb cs ∧ Q w2) := ⟨hB, QQ.out w1 w2 HB1.out.2 hg ⟨cs, HB1.out.1, hB⟩⟩
  clear hB hg
  go_wp2_with fail
  go_must (go_at_call 117)
  refine (growUsers_none bb cs w2 HB2.out.1 HR.out).mono ?_
  rintro e w3 ⟨rfl, hB, hg⟩
  have HB3 : Hid (BkAt w3 bb cs ∧ Q w3) := ⟨hB, QQ.out w2 w3 HB2.out.2 hg ⟨cs, HB2.out.1, hB⟩⟩
  clear hB hg
  go_wp2_with fail
  go_must (go_at_call 118)
  refine (growWhos_none bb cs w3 HB3.out.1 HR.out).mono ?_
  rintro e w4 ⟨rfl, hB, hg⟩
  have HB4 : Hid (BkAt w4 bb cs ∧ Q w4) := ⟨hB, QQ.out w3 w4 HB3.out.2 hg ⟨cs, HB3.out.1, hB⟩⟩
  clear hB hg
  go_wp2_with fail
  go_must (go_at_call 119)
  refine (growChunks_none bb cs w4 HB4.out.1 HR.out).mono ?_
  rintro e w5 ⟨rfl, hB, hg⟩
  have HB5 : Hid (BkAt w5 bb cs ∧ Q w5) := ⟨hB, QQ.out w4 w5 HB4.out.2 hg ⟨cs, HB4.out.1, hB⟩⟩
  clear hB hg
  go_wp2_with fail
  go_must (go_at_call 120)
  refine (growMessages_none bb cs w5 HB5.out.1 HR.out).mono ?_
  rintro e w6 ⟨rfl, hB, hg⟩
  have HB6 : Hid (BkAt w6 bb cs ∧ Q w6) := ⟨hB, QQ.out w5 w6 HB5.out.2 hg ⟨cs, HB5.out.1, hB⟩⟩
  clear hB hg
  go_wp2_with fail
  go_must (go_at_call 121)
  refine (growPackets_none bb cs w6 HB6.out.1 HR.out).mono ?_
  rintro e w7 ⟨rfl, hB, hg⟩
  have HB7 : Hid (BkAt w7 bb cs ∧ Q w7) := ⟨hB, QQ.out w6 w7 HB6.out.2 hg ⟨cs, HB6.out.1, hB⟩⟩
  clear hB hg
  go_wp2_with fail
  go_must (go_at_call 122)
  refine (growFlights_none bb cs w7 HB7.out.1 HR.out).mono ?_
  rintro e w8 ⟨rfl, hB, hg⟩
  have HB8 : Hid (BkAt w8 bb cs ∧ Q w8) := ⟨hB, QQ.out w7 w8 HB7.out.2 hg ⟨cs, HB7.out.1, hB⟩⟩
  clear hB hg
  go_wp2_with fail
  go_must (go_at_call 123)
  refine (growOuts_none bb cs w8 HB8.out.1 HR.out).mono ?_
  rintro e w9 ⟨rfl, hB, hg⟩
  have HB9 : Hid (BkAt w9 bb cs ∧ Q w9) := ⟨hB, QQ.out w8 w9 HB8.out.2 hg ⟨cs, HB8.out.1, hB⟩⟩
  clear hB hg
  go_wp2_with fail
  go_must (go_at_call 124)
  refine (growInputs_none bb cs w9 HB9.out.1 HR.out).mono ?_
  rintro e w10 ⟨rfl, hB, hg⟩
  have HB10 : Hid (BkAt w10 bb cs ∧ Q w10) := ⟨hB, QQ.out w9 w10 HB9.out.2 hg ⟨cs, HB9.out.1, hB⟩⟩
  clear hB hg
  go_wp2_with fail
  go_must (go_at_call 125)
  refine (growTolds_none bb cs w10 HB10.out.1 HR.out).mono ?_
  rintro e w11 ⟨rfl, hB, hg⟩
  have HB11 : Hid (BkAt w11 bb cs ∧ Q w11) := ⟨hB, QQ.out w10 w11 HB10.out.2 hg ⟨cs, HB10.out.1, hB⟩⟩
  clear hB hg
  go_wp2_with fail
  go_must (go_at_call 126)
  refine (growSessions_none bb cs w11 HB11.out.1 HR.out).mono ?_
  rintro e w12 ⟨rfl, hB, hg⟩
  have HB12 : Hid (BkAt w12 bb cs ∧ Q w12) := ⟨hB, QQ.out w11 w12 HB11.out.2 hg ⟨cs, HB11.out.1, hB⟩⟩
  clear hB hg
  go_wp2_with fail
  go_must (go_at_call 127)
  refine (growShapes_none bb cs w12 HB12.out.1 HR.out).mono ?_
  rintro e w13 ⟨rfl, hB, hg⟩
  have HB13 : Hid (BkAt w13 bb cs ∧ Q w13) := ⟨hB, QQ.out w12 w13 HB12.out.2 hg ⟨cs, HB12.out.1, hB⟩⟩
  clear hB hg
  go_wp2_with fail
  go_must (go_at_call 128)
  refine (growSteps_none bb cs w13 HB13.out.1 HR.out).mono ?_
  rintro e w14 ⟨rfl, hB, hg⟩
  have HB14 : Hid (BkAt w14 bb cs ∧ Q w14) := ⟨hB, QQ.out w13 w14 HB13.out.2 hg ⟨cs, HB13.out.1, hB⟩⟩
  clear hB hg
  go_wp2_with fail
  go_end0
  exact ⟨rfl, HB14.out.2⟩
end Go.Proofs.YtglnldopnoafoaaGreatDoor
namespace Go.Proofs.YtglnldopnoafoaaGreatDoor
open Go Go.RowKit
set_option linter.unusedSimpArgs false
set_option linter.unusedVariables false

theorem BkAt.kept {w w' : World} {bb : Nat} {cs : Array Value} (h : BkAt w bb cs) (hb : Below w.heap.size w w') : BkAt w' bb cs := (hb.block bb (lt_of_block h)).trans h
set_option maxRecDepth 100000 in
set_option maxHeartbeats 1000000 in
theorem hold_bk (bb : Nat) (cs : Array Value) (w : World) (hB : BkAt w bb cs) (hr : Rest cs) (h1 : cs[1]? = some (.bool false)) (h : Calls Tryz.prog 26 #[.pointer (some ⟨bb, 0, none⟩)] w fun e w1 => e = .returned (.bool true) ∧ Below w.heap.size w w1) :
    Calls Tryz.prog 12 #[.pointer (some ⟨bb, 0, none⟩)] w fun e w1 => e = .returned (.bool true) ∧ Below w.heap.size w w1 := by
  have H0 : Hid (Calls Tryz.prog 26 #[.pointer (some ⟨bb, 0, none⟩)] w fun e w1 => e = .returned (.bool true) ∧ Below w.heap.size w w1) := h
  have HB : Hid (BkAt w bb cs ∧ Rest cs) := ⟨hB, hr⟩
  have x1 : w.cell? ⟨bb, 1, none⟩ = some (.bool false) := (bk_cell hB h1).1
  clear h hB hr h1
  go_enter Tryz.func12, Tryz.ntmps12
  go_wp2_with (first | (go_at_call 24; refine (holdBytes_none bb cs _ HB.out.1 HB.out.2).mono ?_; rintro e w2 ⟨rfl, he⟩; obtain rfl := he.symm; clear he) | (go_at_call 25; refine (holdInts_none bb cs _ HB.out.1 HB.out.2).mono ?_; rintro e w2 ⟨rfl, he⟩; obtain rfl := he.symm; clear he))
  go_must (go_at_call 26)
  refine H0.out.mono ?_
  rintro e w1 ⟨rfl, hb⟩
  have HB1 : Hid (BkAt w1 bb cs ∧ Rest cs) := ⟨HB.out.1.kept hb, HB.out.2⟩
  have HL : Hid (Below w.heap.size w w1) := hb
  clear hb x1
  go_wp2_with (first | (go_at_call 27; refine (holdEntries_none bb cs _ HB1.out.1 HB1.out.2).mono ?_; rintro e w2 ⟨rfl, he⟩; obtain rfl := he.symm; clear he) | (go_at_call 28; refine (holdAsks_none bb cs _ HB1.out.1 HB1.out.2).mono ?_; rintro e w2 ⟨rfl, he⟩; obtain rfl := he.symm; clear he) | (go_at_call 29; refine (holdUsers_none bb cs _ HB1.out.1 HB1.out.2).mono ?_; rintro e w2 ⟨rfl, he⟩; obtain rfl := he.symm; clear he) | (go_at_call 30; refine (holdWhos_none bb cs _ HB1.out.1 HB1.out.2).mono ?_; rintro e w2 ⟨rfl, he⟩; obtain rfl := he.symm; clear he) | (go_at_call 31; refine (holdChunks_none bb cs _ HB1.out.1 HB1.out.2).mono ?_; rintro e w2 ⟨rfl, he⟩; obtain rfl := he.symm; clear he) | (go_at_call 32; refine (holdMessages_none bb cs _ HB1.out.1 HB1.out.2).mono ?_; rintro e w2 ⟨rfl, he⟩; obtain rfl := he.symm; clear he) | (go_at_call 33; refine (holdPackets_none bb cs _ HB1.out.1 HB1.out.2).mono ?_; rintro e w2 ⟨rfl, he⟩; obtain rfl := he.symm; clear he) | (go_at_call 34; refine (holdFlights_none bb cs _ HB1.out.1 HB1.out.2).mono ?_; rintro e w2 ⟨rfl, he⟩; obtain rfl := he.symm; clear he) | (go_at_call 35; refine (holdOuts_none bb cs _ HB1.out.1 HB1.out.2).mono ?_; rintro e w2 ⟨rfl, he⟩; obtain rfl := he.symm; clear he) | (go_at_call 36; refine (holdInputs_none bb cs _ HB1.out.1 HB1.out.2).mono ?_; rintro e w2 ⟨rfl, he⟩; obtain rfl := he.symm; clear he) | (go_at_call 37; refine (holdTolds_none bb cs _ HB1.out.1 HB1.out.2).mono ?_; rintro e w2 ⟨rfl, he⟩; obtain rfl := he.symm; clear he) | (go_at_call 38; refine (holdSessions_none bb cs _ HB1.out.1 HB1.out.2).mono ?_; rintro e w2 ⟨rfl, he⟩; obtain rfl := he.symm; clear he) | (go_at_call 39; refine (holdShapes_none bb cs _ HB1.out.1 HB1.out.2).mono ?_; rintro e w2 ⟨rfl, he⟩; obtain rfl := he.symm; clear he) | (go_at_call 40; refine (holdSteps_none bb cs _ HB1.out.1 HB1.out.2).mono ?_; rintro e w2 ⟨rfl, he⟩; obtain rfl := he.symm; clear he))
  go_ret
  exact ⟨rfl, HL.out⟩
end Go.Proofs.YtglnldopnoafoaaGreatDoor
