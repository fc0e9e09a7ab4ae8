/-
  DERIVED. GIVEN WITH THE SEED: THE CARDS: each row of YtpldoeeahhaimaaGreatDoorRows.lean that lists a variable, with what it lists TIED to the program's text (the seventh form; the later family's looks); each row that meets fmt, with fmt's text TOLD by the authors' own Lean function (tested against real Go, not proved from fmt's source: count such statements apart). THE CARD IS WHAT COUNTS. Prove the row's statement (the work); the ties are given (YtpldoeeahhaimaaGreatDoorTie.lean); close each card by the builder's one call (the guide's Derived/Test/ToyasCard.lean, 'card_holds'). Laid BY PROGRAM, IN A SANDBOX (cutbox-door.mjs). By AI agents, Wed Nov 11 2026. No macro, syntax, notation, axiom, sorry.
-/
import Derived.Test.YtpldoeeahhaimaaGreatDoorRows
import GoSem.ClaimSeven
namespace Go.Proofs.YtpldoeeahhaimaaGreatDoor
namespace Rows

/-- THE TIED CARD OF 'crierlaw14.ConnPlays'. -/
def connPlaysCard : Claim7 := { stood := { row := connPlaysRow, standIns := [], harness := (true, "0da7e14c4906bda7c1c08345be51996415907671634b9729366639efd22ff15c"), looks := true }, kinds := [], alts := [], laidByText := true, laidKinds := [.handle, .data], laidTests := true, laidLooks := .later }
def ConnPlaysCardSaid : Prop := Claim7.holds Tryz.pinned (.plain (OpenSpec.ofChange connPlaysSpec)) connPlaysCard

/-- THE TIED CARD OF 'crierlaw14.ConnMany'. -/
def connManyCard : Claim7 := { stood := { row := connManyRow, standIns := [], harness := (true, "0da7e14c4906bda7c1c08345be51996415907671634b9729366639efd22ff15c"), looks := true }, kinds := [], alts := [], laidByText := true, laidKinds := [.handle, .data], laidTests := true, laidLooks := .later }
def ConnManyCardSaid : Prop := Claim7.holds Tryz.pinned (.plain (OpenSpec.ofChange connManySpec)) connManyCard

/-- THE SECOND FORM's CARD OF 'crierlaw14.ConnPlays'. -/
def connPlaysUptoCard : Claim7 := { stood := { row := connPlaysUptoRow, standIns := [], harness := (true, "0da7e14c4906bda7c1c08345be51996415907671634b9729366639efd22ff15c"), looks := true }, kinds := [], alts := [], laidByText := true, laidKinds := [.handle, .data], laidTests := true, laidLooks := .later }
def ConnPlaysUptoCardSaid : Prop := Claim7.holds Tryz.pinned (.plain (OpenSpec.upto connPlaysSpec)) connPlaysUptoCard

/-- THE SECOND FORM's CARD OF 'crierlaw14.ConnMany'. -/
def connManyUptoCard : Claim7 := { stood := { row := connManyUptoRow, standIns := [], harness := (true, "0da7e14c4906bda7c1c08345be51996415907671634b9729366639efd22ff15c"), looks := true }, kinds := [], alts := [], laidByText := true, laidKinds := [.handle, .data], laidTests := true, laidLooks := .later }
def ConnManyUptoCardSaid : Prop := Claim7.holds Tryz.pinned (.plain (OpenSpec.upto connManySpec)) connManyUptoCard
end Rows
end Go.Proofs.YtpldoeeahhaimaaGreatDoor
