import Derived.Test.YtkjeneklkdekoaaGreatDoorBkc
import Derived.Test.YtkjeneklkdekoaaGreatDoorBke
namespace Go.Proofs.YtkjeneklkdekoaaGreatDoor
open Go Go.RowKit
set_option linter.unusedSimpArgs false
set_option linter.unusedVariables false

set_option maxRecDepth 100000 in
set_option maxHeartbeats 1000000 in
theorem marks_any (bb : Nat) (w : World) (Q : World → Prop) (h : Calls Tryz.prog 138 #[.pointer (some ⟨bb, 0, none⟩)] w fun e w1 => e = .returned (.tuple #[]) ∧ (∃ cs, BkAt w1 bb cs ∧ Rest cs) ∧ Q w1) :
    Calls Tryz.prog 126 #[.pointer (some ⟨bb, 0, none⟩)] w fun e w1 => e = .returned (.tuple #[]) ∧ Q w1 := by
  have H0 : Hid (Calls Tryz.prog 138 #[.pointer (some ⟨bb, 0, none⟩)] w fun e w1 => e = .returned (.tuple #[]) ∧ (∃ cs, BkAt w1 bb cs ∧ Rest cs) ∧ Q w1) := h
  clear h
  go_enter Tryz.func126, Tryz.ntmps126
  go_wp2_with fail
  go_must (go_at_call 138)
  refine H0.out.mono ?_
  rintro e w1 ⟨rfl, ⟨cs, hB, hr⟩, hq⟩
  have HB : Hid (BkAt w1 bb cs ∧ Rest cs) := ⟨hB, hr⟩
  have HQ : Hid (Q w1) := hq
  clear hB hr hq
  go_wp2_with (first | (go_at_call 139; refine (markInts_none bb cs w1 HB.out.1 HB.out.2).mono ?_; rintro e w2 ⟨rfl, he⟩; obtain rfl := he.symm; clear he) | (go_at_call 140; refine (markTexts_none bb cs w1 HB.out.1 HB.out.2).mono ?_; rintro e w2 ⟨rfl, he⟩; obtain rfl := he.symm; clear he) | (go_at_call 141; refine (markEntries_none bb cs w1 HB.out.1 HB.out.2).mono ?_; rintro e w2 ⟨rfl, he⟩; obtain rfl := he.symm; clear he) | (go_at_call 142; refine (markAsks_none bb cs w1 HB.out.1 HB.out.2).mono ?_; rintro e w2 ⟨rfl, he⟩; obtain rfl := he.symm; clear he) | (go_at_call 143; refine (markUsers_none bb cs w1 HB.out.1 HB.out.2).mono ?_; rintro e w2 ⟨rfl, he⟩; obtain rfl := he.symm; clear he) | (go_at_call 144; refine (markWhos_none bb cs w1 HB.out.1 HB.out.2).mono ?_; rintro e w2 ⟨rfl, he⟩; obtain rfl := he.symm; clear he) | (go_at_call 145; refine (markChunks_none bb cs w1 HB.out.1 HB.out.2).mono ?_; rintro e w2 ⟨rfl, he⟩; obtain rfl := he.symm; clear he) | (go_at_call 146; refine (markMessages_none bb cs w1 HB.out.1 HB.out.2).mono ?_; rintro e w2 ⟨rfl, he⟩; obtain rfl := he.symm; clear he) | (go_at_call 147; refine (markPackets_none bb cs w1 HB.out.1 HB.out.2).mono ?_; rintro e w2 ⟨rfl, he⟩; obtain rfl := he.symm; clear he) | (go_at_call 148; refine (markFlights_none bb cs w1 HB.out.1 HB.out.2).mono ?_; rintro e w2 ⟨rfl, he⟩; obtain rfl := he.symm; clear he) | (go_at_call 149; refine (markOuts_none bb cs w1 HB.out.1 HB.out.2).mono ?_; rintro e w2 ⟨rfl, he⟩; obtain rfl := he.symm; clear he) | (go_at_call 150; refine (markInputs_none bb cs w1 HB.out.1 HB.out.2).mono ?_; rintro e w2 ⟨rfl, he⟩; obtain rfl := he.symm; clear he) | (go_at_call 151; refine (markTolds_none bb cs w1 HB.out.1 HB.out.2).mono ?_; rintro e w2 ⟨rfl, he⟩; obtain rfl := he.symm; clear he) | (go_at_call 152; refine (markSessions_none bb cs w1 HB.out.1 HB.out.2).mono ?_; rintro e w2 ⟨rfl, he⟩; obtain rfl := he.symm; clear he) | (go_at_call 153; refine (markShapes_none bb cs w1 HB.out.1 HB.out.2).mono ?_; rintro e w2 ⟨rfl, he⟩; obtain rfl := he.symm; clear he) | (go_at_call 154; refine (markSteps_none bb cs w1 HB.out.1 HB.out.2).mono ?_; rintro e w2 ⟨rfl, he⟩; obtain rfl := he.symm; clear he))
  go_end0
  exact ⟨rfl, HQ.out⟩

end Go.Proofs.YtkjeneklkdekoaaGreatDoor
namespace Go.Proofs.YtkjeneklkdekoaaGreatDoor
open Go Go.RowKit
set_option linter.unusedSimpArgs false
set_option linter.unusedVariables false

set_option maxRecDepth 100000 in
set_option maxHeartbeats 1000000 in
theorem grows_any (bb : Nat) (w : World) (Q : World → Prop) (hQ : ∀ w1 w2, Q w1 → w1.grownBy w2 (some bb) → (∃ cs, BkAt w1 bb cs ∧ BkAt w2 bb cs) → Q w2) (h : Calls Tryz.prog 155 #[.pointer (some ⟨bb, 0, none⟩)] w fun e w1 => e = .returned (.tuple #[]) ∧ (∃ cs, BkAt w1 bb cs ∧ Rest cs) ∧ Q w1) :
    Calls Tryz.prog 127 #[.pointer (some ⟨bb, 0, none⟩)] w fun e w1 => e = .returned (.tuple #[]) ∧ Q w1 := by
  have H0 : Hid (Calls Tryz.prog 155 #[.pointer (some ⟨bb, 0, none⟩)] w fun e w1 => e = .returned (.tuple #[]) ∧ (∃ cs, BkAt w1 bb cs ∧ Rest cs) ∧ Q w1) := h
  have QQ : Hid (∀ w1 w2, Q w1 → w1.grownBy w2 (some bb) → (∃ cs, BkAt w1 bb cs ∧ BkAt w2 bb cs) → Q w2) := hQ
  clear h hQ
  go_enter Tryz.func127, Tryz.ntmps127
  go_wp2_with fail
  go_must (go_at_call 155)
  refine H0.out.mono ?_
  rintro e w0 ⟨rfl, ⟨cs, hB, hr⟩, hq⟩
  have HR : Hid (Rest cs) := hr
  have HB0 : Hid (BkAt w0 bb cs ∧ Q w0) := ⟨hB, hq⟩
  clear hB hr hq
  go_wp2_with fail
  go_must (go_at_call 156)
  refine (growInts_none bb cs w0 HB0.out.1 HR.out).mono ?_
  rintro e w1 ⟨rfl, hB, hg⟩
  have HB1 : Hid (BkAt w1 bb cs ∧ Q w1) := ⟨hB, QQ.out w0 w1 HB0.out.2 hg ⟨cs, HB0.out.1, hB⟩⟩
  clear hB hg
  go_wp2_with fail
  go_must (go_at_call 157)
  refine (growTexts_none bb cs w1 HB1.out.1 HR.out).mono ?_
  rintro e w2 ⟨rfl, hB, hg⟩
  have HB2 : Hid (BkAt w2 bb cs ∧ Q w2) := ⟨hB, QQ.out w1 w2 HB1.out.2 hg ⟨cs, HB1.out.1, hB⟩⟩
  clear hB hg
  go_wp2_with fail
  go_must (go_at_call 158)
  refine (growEntries_none bb cs w2 HB2.out.1 HR.out).mono ?_
  rintro e w3 ⟨rfl, hB, hg⟩
  have HB3 : Hid (BkAt w3 bb cs ∧ Q w3) := ⟨hB, QQ.out w2 w3 HB2.out.2 hg ⟨cs, HB2.out.1, hB⟩⟩
  clear hB hg
  go_wp2_with fail
  go_must (go_at_call 159)
  refine (growAsks_none bb cs w3 HB3.out.1 HR.out).mono ?_
  rintro e w4 ⟨rfl, hB, hg⟩
  have HB4 : Hid (BkAt w4 bb cs ∧ Q w4) := ⟨hB, QQ.out w3 w4 HB3.out.2 hg ⟨cs, HB3.out.1, hB⟩⟩
  clear hB hg
  go_wp2_with fail
  go_must (go_at_call 160)
  refine (growUsers_none bb cs w4 HB4.out.1 HR.out).mono ?_
  rintro e w5 ⟨rfl, hB, hg⟩
  have HB5 : Hid (BkAt w5 bb cs ∧ Q w5) := ⟨hB, QQ.out w4 w5 HB4.out.2 hg ⟨cs, HB4.out.1, hB⟩⟩
  clear hB hg
  go_wp2_with fail
  go_must (go_at_call 161)
  refine (growWhos_none bb cs w5 HB5.out.1 HR.out).mono ?_
  rintro e w6 ⟨rfl, hB, hg⟩
  have HB6 : Hid (BkAt w6 bb cs ∧ Q w6) := ⟨hB, QQ.out w5 w6 HB5.out.2 hg ⟨cs, HB5.out.1, hB⟩⟩
  clear hB hg
  go_wp2_with fail
  go_must (go_at_call 162)
  refine (growChunks_none bb cs w6 HB6.out.1 HR.out).mono ?_
  rintro e w7 ⟨rfl, hB, hg⟩
  have HB7 : Hid (BkAt w7 bb cs ∧ Q w7) := ⟨hB, QQ.out w6 w7 HB6.out.2 hg ⟨cs, HB6.out.1, hB⟩⟩
  clear hB hg
  go_wp2_with fail
  go_must (go_at_call 163)
  refine (growMessages_none bb cs w7 HB7.out.1 HR.out).mono ?_
  rintro e w8 ⟨rfl, hB, hg⟩
  have HB8 : Hid (BkAt w8 bb cs ∧ Q w8) := ⟨hB, QQ.out w7 w8 HB7.out.2 hg ⟨cs, HB7.out.1, hB⟩⟩
  clear hB hg
  go_wp2_with fail
  go_must (go_at_call 164)
  refine (growPackets_none bb cs w8 HB8.out.1 HR.out).mono ?_
  rintro e w9 ⟨rfl, hB, hg⟩
  have HB9 : Hid (BkAt w9 bb cs ∧ Q w9) := ⟨hB, QQ.out w8 w9 HB8.out.2 hg ⟨cs, HB8.out.1, hB⟩⟩
  clear hB hg
  go_wp2_with fail
  go_must (go_at_call 165)
  refine (growFlights_none bb cs w9 HB9.out.1 HR.out).mono ?_
  rintro e w10 ⟨rfl, hB, hg⟩
  have HB10 : Hid (BkAt w10 bb cs ∧ Q w10) := ⟨hB, QQ.out w9 w10 HB9.out.2 hg ⟨cs, HB9.out.1, hB⟩⟩
  clear hB hg
  go_wp2_with fail
  go_must (go_at_call 166)
  refine (growOuts_none bb cs w10 HB10.out.1 HR.out).mono ?_
  rintro e w11 ⟨rfl, hB, hg⟩
  have HB11 : Hid (BkAt w11 bb cs ∧ Q w11) := ⟨hB, QQ.out w10 w11 HB10.out.2 hg ⟨cs, HB10.out.1, hB⟩⟩
  clear hB hg
  go_wp2_with fail
  go_must (go_at_call 167)
  refine (growInputs_none bb cs w11 HB11.out.1 HR.out).mono ?_
  rintro e w12 ⟨rfl, hB, hg⟩
  have HB12 : Hid (BkAt w12 bb cs ∧ Q w12) := ⟨hB, QQ.out w11 w12 HB11.out.2 hg ⟨cs, HB11.out.1, hB⟩⟩
  clear hB hg
  go_wp2_with fail
  go_must (go_at_call 168)
  refine (growTolds_none bb cs w12 HB12.out.1 HR.out).mono ?_
  rintro e w13 ⟨rfl, hB, hg⟩
  have HB13 : Hid (BkAt w13 bb cs ∧ Q w13) := ⟨hB, QQ.out w12 w13 HB12.out.2 hg ⟨cs, HB12.out.1, hB⟩⟩
  clear hB hg
  go_wp2_with fail
  go_must (go_at_call 169)
  refine (growSessions_none bb cs w13 HB13.out.1 HR.out).mono ?_
  rintro e w14 ⟨rfl, hB, hg⟩
  have HB14 : Hid (BkAt w14 bb cs ∧ Q w14) := ⟨hB, QQ.out w13 w14 HB13.out.2 hg ⟨cs, HB13.out.1, hB⟩⟩
  clear hB hg
  go_wp2_with fail
  go_must (go_at_call 170)
  refine (growShapes_none bb cs w14 HB14.out.1 HR.out).mono ?_
  rintro e w15 ⟨rfl, hB, hg⟩
  have HB15 : Hid (BkAt w15 bb cs ∧ Q w15) := ⟨hB, QQ.out w14 w15 HB14.out.2 hg ⟨cs, HB14.out.1, hB⟩⟩
  clear hB hg
  go_wp2_with fail
  go_must (go_at_call 171)
  refine (growSteps_none bb cs w15 HB15.out.1 HR.out).mono ?_
  rintro e w16 ⟨rfl, hB, hg⟩
  have HB16 : Hid (BkAt w16 bb cs ∧ Q w16) := ⟨hB, QQ.out w15 w16 HB15.out.2 hg ⟨cs, HB15.out.1, hB⟩⟩
  clear hB hg
  go_wp2
  go_end0
  exact ⟨rfl, HB16.out.2⟩

end Go.Proofs.YtkjeneklkdekoaaGreatDoor
namespace Go.Proofs.YtkjeneklkdekoaaGreatDoor
open Go Go.RowKit
set_option linter.unusedSimpArgs false
set_option linter.unusedVariables false

end Go.Proofs.YtkjeneklkdekoaaGreatDoor
