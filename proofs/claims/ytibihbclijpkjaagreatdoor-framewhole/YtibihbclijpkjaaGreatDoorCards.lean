/-
  DERIVED. GIVEN WITH THE SEED: THE CARDS: each row of YtibihbclijpkjaaGreatDoorRows.lean that lists a variable, with what it lists TIED to the program's text (the seventh form; the later family's looks); each row that meets fmt, with fmt's text TOLD by the authors' own Lean function (tested against real Go, not proved from fmt's source: count such statements apart). THE CARD IS WHAT COUNTS. Prove the row's statement (the work); the ties are given (YtibihbclijpkjaaGreatDoorTie.lean); close each card by the builder's one call (the guide's Derived/Test/ToyasCard.lean, 'card_holds'). Laid BY PROGRAM, IN A SANDBOX (cutbox-door.mjs). By AI agents, Wed Nov 11 2026. No macro, syntax, notation, axiom, sorry.
-/
import Derived.Test.YtibihbclijpkjaaGreatDoorRows
import GoSem.ClaimSeven
namespace Go.Proofs.YtibihbclijpkjaaGreatDoor
namespace Rows

/-- THE TIED CARD OF 'crierlaw3.CodecBack'. -/
def codecBackCard : Claim7 := { stood := { row := codecBackRow, standIns := [], harness := (true, "f105939dc0d6986df7a2384e6d57fa2187cd9d8892dd472264d049e4b5c1e23c"), looks := true }, kinds := [], alts := [], laidByText := true, laidKinds := [.data], laidTests := true, laidLooks := .later }
def CodecBackCardSaid : Prop := Claim7.holds Tryz.pinned (.plain (OpenSpec.ofChange codecBackSpec)) codecBackCard

/-- THE TIED CARD OF 'crierlaw3.CodecForm'. -/
def codecFormCard : Claim7 := { stood := { row := codecFormRow, standIns := [], harness := (true, "f105939dc0d6986df7a2384e6d57fa2187cd9d8892dd472264d049e4b5c1e23c"), looks := true }, kinds := [], alts := [], laidByText := true, laidKinds := [.data], laidTests := true, laidLooks := .later }
def CodecFormCardSaid : Prop := Claim7.holds Tryz.pinned (.plain (OpenSpec.ofChange codecFormSpec)) codecFormCard

/-- THE TIED CARD OF 'crierlaw3.CodecFirm'. -/
def codecFirmCard : Claim7 := { stood := { row := codecFirmRow, standIns := [], harness := (true, "f105939dc0d6986df7a2384e6d57fa2187cd9d8892dd472264d049e4b5c1e23c"), looks := true }, kinds := [], alts := [], laidByText := true, laidKinds := [.data], laidTests := true, laidLooks := .later }
def CodecFirmCardSaid : Prop := Claim7.holds Tryz.pinned (.plain (OpenSpec.ofChange codecFirmSpec)) codecFirmCard

/-- THE TIED CARD OF 'crierlaw4.FrameCuts'. -/
def frameCutsCard : Claim7 := { stood := { row := frameCutsRow, standIns := [], harness := (true, "f105939dc0d6986df7a2384e6d57fa2187cd9d8892dd472264d049e4b5c1e23c"), looks := true }, kinds := [], alts := [], laidByText := true, laidKinds := [.handle, .data], laidTests := true, laidLooks := .later }
def FrameCutsCardSaid : Prop := Claim7.holds Tryz.pinned (.plain (OpenSpec.ofChange frameCutsSpec)) frameCutsCard

/-- THE TIED CARD OF 'crierlaw4.FrameWhole'. -/
def frameWholeCard : Claim7 := { stood := { row := frameWholeRow, standIns := [], harness := (true, "f105939dc0d6986df7a2384e6d57fa2187cd9d8892dd472264d049e4b5c1e23c"), looks := true }, kinds := [], alts := [], laidByText := true, laidKinds := [.handle, .data], laidTests := true, laidLooks := .later }
def FrameWholeCardSaid : Prop := Claim7.holds Tryz.pinned (.plain (OpenSpec.ofChange frameWholeSpec)) frameWholeCard

/-- THE SECOND FORM's CARD OF 'crierlaw3.CodecBack'. -/
def codecBackUptoCard : Claim7 := { stood := { row := codecBackUptoRow, standIns := [], harness := (true, "f105939dc0d6986df7a2384e6d57fa2187cd9d8892dd472264d049e4b5c1e23c"), looks := true }, kinds := [], alts := [], laidByText := true, laidKinds := [.data], laidTests := true, laidLooks := .later }
def CodecBackUptoCardSaid : Prop := Claim7.holds Tryz.pinned (.plain (OpenSpec.upto codecBackSpec)) codecBackUptoCard

/-- THE SECOND FORM's CARD OF 'crierlaw3.CodecForm'. -/
def codecFormUptoCard : Claim7 := { stood := { row := codecFormUptoRow, standIns := [], harness := (true, "f105939dc0d6986df7a2384e6d57fa2187cd9d8892dd472264d049e4b5c1e23c"), looks := true }, kinds := [], alts := [], laidByText := true, laidKinds := [.data], laidTests := true, laidLooks := .later }
def CodecFormUptoCardSaid : Prop := Claim7.holds Tryz.pinned (.plain (OpenSpec.upto codecFormSpec)) codecFormUptoCard

/-- THE SECOND FORM's CARD OF 'crierlaw3.CodecFirm'. -/
def codecFirmUptoCard : Claim7 := { stood := { row := codecFirmUptoRow, standIns := [], harness := (true, "f105939dc0d6986df7a2384e6d57fa2187cd9d8892dd472264d049e4b5c1e23c"), looks := true }, kinds := [], alts := [], laidByText := true, laidKinds := [.data], laidTests := true, laidLooks := .later }
def CodecFirmUptoCardSaid : Prop := Claim7.holds Tryz.pinned (.plain (OpenSpec.upto codecFirmSpec)) codecFirmUptoCard

/-- THE SECOND FORM's CARD OF 'crierlaw4.FrameCuts'. -/
def frameCutsUptoCard : Claim7 := { stood := { row := frameCutsUptoRow, standIns := [], harness := (true, "f105939dc0d6986df7a2384e6d57fa2187cd9d8892dd472264d049e4b5c1e23c"), looks := true }, kinds := [], alts := [], laidByText := true, laidKinds := [.handle, .data], laidTests := true, laidLooks := .later }
def FrameCutsUptoCardSaid : Prop := Claim7.holds Tryz.pinned (.plain (OpenSpec.upto frameCutsSpec)) frameCutsUptoCard

/-- THE SECOND FORM's CARD OF 'crierlaw4.FrameWhole'. -/
def frameWholeUptoCard : Claim7 := { stood := { row := frameWholeUptoRow, standIns := [], harness := (true, "f105939dc0d6986df7a2384e6d57fa2187cd9d8892dd472264d049e4b5c1e23c"), looks := true }, kinds := [], alts := [], laidByText := true, laidKinds := [.handle, .data], laidTests := true, laidLooks := .later }
def FrameWholeUptoCardSaid : Prop := Claim7.holds Tryz.pinned (.plain (OpenSpec.upto frameWholeSpec)) frameWholeUptoCard
end Rows
end Go.Proofs.YtibihbclijpkjaaGreatDoor
