/-
  DERIVED. GIVEN WITH THE SEED: THE CARDS: each row of YtceigllifjgalaaGreatDoorRows.lean that lists a variable, with what it lists TIED to the program's text (the seventh form; the later family's looks); each row that meets fmt, with fmt's text TOLD by the authors' own Lean function (tested against real Go, not proved from fmt's source: count such statements apart). THE CARD IS WHAT COUNTS. Prove the row's statement (the work); the ties are given (YtceigllifjgalaaGreatDoorTie.lean); close each card by the builder's one call (the guide's Derived/Test/ToyasCard.lean, 'card_holds'). Laid BY PROGRAM, IN A SANDBOX (cutbox-door.mjs). By AI agents, Wed Nov 11 2026. No macro, syntax, notation, axiom, sorry.
-/
import Derived.Test.YtceigllifjgalaaGreatDoorRows
import GoSem.ClaimSeven
namespace Go.Proofs.YtceigllifjgalaaGreatDoor
namespace Rows

/-- THE TIED CARD OF 'crierlaw2.PacketTwo'. -/
def packetTwoCard : Claim7 := { stood := { row := packetTwoRow, standIns := [], harness := (true, "4dbdf6319f3481c1cf907e13662ad50107f24b11f6007dead30f43725fd41c39"), looks := true }, kinds := [], alts := [], laidByText := true, laidKinds := [.data, .data, .data], laidTests := true, laidLooks := .later }
def PacketTwoCardSaid : Prop := Claim7.holds Tryz.pinned (.plain (OpenSpec.ofChange packetTwoSpec)) packetTwoCard

/-- THE TIED CARD OF 'crierlaw3.CodecDecodes'. -/
def codecDecodesCard : Claim7 := { stood := { row := codecDecodesRow, standIns := [], harness := (true, "4dbdf6319f3481c1cf907e13662ad50107f24b11f6007dead30f43725fd41c39"), looks := true }, kinds := [], alts := [], laidByText := true, laidKinds := [.data, .data, .data, .data], laidTests := true, laidLooks := .later }
def CodecDecodesCardSaid : Prop := Claim7.holds Tryz.pinned (.plain (OpenSpec.ofChange codecDecodesSpec)) codecDecodesCard

/-- THE TIED CARD OF 'crierlaw3.CodecTurns'. -/
def codecTurnsCard : Claim7 := { stood := { row := codecTurnsRow, standIns := [], harness := (true, "4dbdf6319f3481c1cf907e13662ad50107f24b11f6007dead30f43725fd41c39"), looks := true }, kinds := [], alts := [], laidByText := true, laidKinds := [.data, .data, .data, .data], laidTests := true, laidLooks := .later }
def CodecTurnsCardSaid : Prop := Claim7.holds Tryz.pinned (.plain (OpenSpec.ofChange codecTurnsSpec)) codecTurnsCard

/-- THE TIED CARD OF 'crierlaw3.CodecPlays'. -/
def codecPlaysCard : Claim7 := { stood := { row := codecPlaysRow, standIns := [], harness := (true, "4dbdf6319f3481c1cf907e13662ad50107f24b11f6007dead30f43725fd41c39"), looks := true }, kinds := [], alts := [], laidByText := true, laidKinds := [.data, .data, .data, .data], laidTests := true, laidLooks := .later }
def CodecPlaysCardSaid : Prop := Claim7.holds Tryz.pinned (.plain (OpenSpec.ofChange codecPlaysSpec)) codecPlaysCard

/-- THE TIED CARD OF 'crierlaw4.FramePlays'. -/
def framePlaysCard : Claim7 := { stood := { row := framePlaysRow, standIns := [], harness := (true, "4dbdf6319f3481c1cf907e13662ad50107f24b11f6007dead30f43725fd41c39"), looks := true }, kinds := [], alts := [], laidByText := true, laidKinds := [.data, .data, .data, .handle, .data], laidTests := true, laidLooks := .later }
def FramePlaysCardSaid : Prop := Claim7.holds Tryz.pinned (.plain (OpenSpec.ofChange framePlaysSpec)) framePlaysCard

/-- THE TIED CARD OF 'crierlaw4.FrameMany'. -/
def frameManyCard : Claim7 := { stood := { row := frameManyRow, standIns := [], harness := (true, "4dbdf6319f3481c1cf907e13662ad50107f24b11f6007dead30f43725fd41c39"), looks := true }, kinds := [], alts := [], laidByText := true, laidKinds := [.data, .data, .data, .handle, .data], laidTests := true, laidLooks := .later }
def FrameManyCardSaid : Prop := Claim7.holds Tryz.pinned (.plain (OpenSpec.ofChange frameManySpec)) frameManyCard

/-- THE SECOND FORM's CARD OF 'crierlaw2.PacketTwo'. -/
def packetTwoUptoCard : Claim7 := { stood := { row := packetTwoUptoRow, standIns := [], harness := (true, "4dbdf6319f3481c1cf907e13662ad50107f24b11f6007dead30f43725fd41c39"), looks := true }, kinds := [], alts := [], laidByText := true, laidKinds := [.data, .data, .data], laidTests := true, laidLooks := .later }
def PacketTwoUptoCardSaid : Prop := Claim7.holds Tryz.pinned (.plain (OpenSpec.upto packetTwoSpec)) packetTwoUptoCard

/-- THE SECOND FORM's CARD OF 'crierlaw3.CodecDecodes'. -/
def codecDecodesUptoCard : Claim7 := { stood := { row := codecDecodesUptoRow, standIns := [], harness := (true, "4dbdf6319f3481c1cf907e13662ad50107f24b11f6007dead30f43725fd41c39"), looks := true }, kinds := [], alts := [], laidByText := true, laidKinds := [.data, .data, .data, .data], laidTests := true, laidLooks := .later }
def CodecDecodesUptoCardSaid : Prop := Claim7.holds Tryz.pinned (.plain (OpenSpec.upto codecDecodesSpec)) codecDecodesUptoCard

/-- THE SECOND FORM's CARD OF 'crierlaw3.CodecTurns'. -/
def codecTurnsUptoCard : Claim7 := { stood := { row := codecTurnsUptoRow, standIns := [], harness := (true, "4dbdf6319f3481c1cf907e13662ad50107f24b11f6007dead30f43725fd41c39"), looks := true }, kinds := [], alts := [], laidByText := true, laidKinds := [.data, .data, .data, .data], laidTests := true, laidLooks := .later }
def CodecTurnsUptoCardSaid : Prop := Claim7.holds Tryz.pinned (.plain (OpenSpec.upto codecTurnsSpec)) codecTurnsUptoCard

/-- THE SECOND FORM's CARD OF 'crierlaw3.CodecPlays'. -/
def codecPlaysUptoCard : Claim7 := { stood := { row := codecPlaysUptoRow, standIns := [], harness := (true, "4dbdf6319f3481c1cf907e13662ad50107f24b11f6007dead30f43725fd41c39"), looks := true }, kinds := [], alts := [], laidByText := true, laidKinds := [.data, .data, .data, .data], laidTests := true, laidLooks := .later }
def CodecPlaysUptoCardSaid : Prop := Claim7.holds Tryz.pinned (.plain (OpenSpec.upto codecPlaysSpec)) codecPlaysUptoCard

/-- THE SECOND FORM's CARD OF 'crierlaw4.FramePlays'. -/
def framePlaysUptoCard : Claim7 := { stood := { row := framePlaysUptoRow, standIns := [], harness := (true, "4dbdf6319f3481c1cf907e13662ad50107f24b11f6007dead30f43725fd41c39"), looks := true }, kinds := [], alts := [], laidByText := true, laidKinds := [.data, .data, .data, .handle, .data], laidTests := true, laidLooks := .later }
def FramePlaysUptoCardSaid : Prop := Claim7.holds Tryz.pinned (.plain (OpenSpec.upto framePlaysSpec)) framePlaysUptoCard

/-- THE SECOND FORM's CARD OF 'crierlaw4.FrameMany'. -/
def frameManyUptoCard : Claim7 := { stood := { row := frameManyUptoRow, standIns := [], harness := (true, "4dbdf6319f3481c1cf907e13662ad50107f24b11f6007dead30f43725fd41c39"), looks := true }, kinds := [], alts := [], laidByText := true, laidKinds := [.data, .data, .data, .handle, .data], laidTests := true, laidLooks := .later }
def FrameManyUptoCardSaid : Prop := Claim7.holds Tryz.pinned (.plain (OpenSpec.upto frameManySpec)) frameManyUptoCard
end Rows
end Go.Proofs.YtceigllifjgalaaGreatDoor
