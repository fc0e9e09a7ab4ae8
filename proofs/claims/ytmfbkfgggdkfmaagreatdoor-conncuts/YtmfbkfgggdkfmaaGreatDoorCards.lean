/-
  DERIVED. GIVEN WITH THE SEED: THE CARDS: each row of YtmfbkfgggdkfmaaGreatDoorRows.lean that lists a variable, with what it lists TIED to the program's text (the seventh form; the later family's looks); each row that meets fmt, with fmt's text TOLD by the authors' own Lean function (tested against real Go, not proved from fmt's source: count such statements apart). THE CARD IS WHAT COUNTS. Prove the row's statement (the work); the ties are given (YtmfbkfgggdkfmaaGreatDoorTie.lean); close each card by the builder's one call (the guide's Derived/Test/ToyasCard.lean, 'card_holds'). Laid BY PROGRAM, IN A SANDBOX (cutbox-door.mjs). By AI agents, Wed Nov 11 2026. No macro, syntax, notation, axiom, sorry.
-/
import Derived.Test.YtmfbkfgggdkfmaaGreatDoorRows
import GoSem.ClaimSeven
namespace Go.Proofs.YtmfbkfgggdkfmaaGreatDoor
namespace Rows

/-- THE TIED CARD OF 'crierlaw14.ConnCuts'. -/
def connCutsCard : Claim7 := { stood := { row := connCutsRow, standIns := [], harness := (true, "000ee2dc643ad2d54b3458e9545f28135d4ac50f3761e8831eee2fb5ca872e89"), looks := true }, kinds := [], alts := [], laidByText := true, laidKinds := [.handle, .data], laidTests := true, laidLooks := .later }
def ConnCutsCardSaid : Prop := Claim7.holds Tryz.pinned (.plain (OpenSpec.ofChange connCutsSpec)) connCutsCard

/-- THE TIED CARD OF 'crierlaw14.ConnOrder'. -/
def connOrderCard : Claim7 := { stood := { row := connOrderRow, standIns := [], harness := (true, "000ee2dc643ad2d54b3458e9545f28135d4ac50f3761e8831eee2fb5ca872e89"), looks := true }, kinds := [], alts := [], laidByText := true, laidKinds := [.handle, .data], laidTests := true, laidLooks := .later }
def ConnOrderCardSaid : Prop := Claim7.holds Tryz.pinned (.plain (OpenSpec.ofChange connOrderSpec)) connOrderCard

/-- THE TIED CARD OF 'crierlaw14.ConnSilence'. -/
def connSilenceCard : Claim7 := { stood := { row := connSilenceRow, standIns := [], harness := (true, "000ee2dc643ad2d54b3458e9545f28135d4ac50f3761e8831eee2fb5ca872e89"), looks := true }, kinds := [], alts := [], laidByText := true, laidKinds := [.handle, .data], laidTests := true, laidLooks := .later }
def ConnSilenceCardSaid : Prop := Claim7.holds Tryz.pinned (.plain (OpenSpec.ofChange connSilenceSpec)) connSilenceCard

/-- THE SECOND FORM's CARD OF 'crierlaw14.ConnCuts'. -/
def connCutsUptoCard : Claim7 := { stood := { row := connCutsUptoRow, standIns := [], harness := (true, "000ee2dc643ad2d54b3458e9545f28135d4ac50f3761e8831eee2fb5ca872e89"), looks := true }, kinds := [], alts := [], laidByText := true, laidKinds := [.handle, .data], laidTests := true, laidLooks := .later }
def ConnCutsUptoCardSaid : Prop := Claim7.holds Tryz.pinned (.plain (OpenSpec.upto connCutsSpec)) connCutsUptoCard

/-- THE SECOND FORM's CARD OF 'crierlaw14.ConnOrder'. -/
def connOrderUptoCard : Claim7 := { stood := { row := connOrderUptoRow, standIns := [], harness := (true, "000ee2dc643ad2d54b3458e9545f28135d4ac50f3761e8831eee2fb5ca872e89"), looks := true }, kinds := [], alts := [], laidByText := true, laidKinds := [.handle, .data], laidTests := true, laidLooks := .later }
def ConnOrderUptoCardSaid : Prop := Claim7.holds Tryz.pinned (.plain (OpenSpec.upto connOrderSpec)) connOrderUptoCard

/-- THE SECOND FORM's CARD OF 'crierlaw14.ConnSilence'. -/
def connSilenceUptoCard : Claim7 := { stood := { row := connSilenceUptoRow, standIns := [], harness := (true, "000ee2dc643ad2d54b3458e9545f28135d4ac50f3761e8831eee2fb5ca872e89"), looks := true }, kinds := [], alts := [], laidByText := true, laidKinds := [.handle, .data], laidTests := true, laidLooks := .later }
def ConnSilenceUptoCardSaid : Prop := Claim7.holds Tryz.pinned (.plain (OpenSpec.upto connSilenceSpec)) connSilenceUptoCard
end Rows
end Go.Proofs.YtmfbkfgggdkfmaaGreatDoor
