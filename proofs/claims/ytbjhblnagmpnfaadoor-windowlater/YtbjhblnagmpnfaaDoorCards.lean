/-
  DERIVED. GIVEN WITH THE SEED: THE CARDS: each row of YtbjhblnagmpnfaaDoorRows.lean that lists a variable, with what it lists TIED to the program's text (the seventh form; the later family's looks); each row that meets fmt, with fmt's text TOLD by the authors' own Lean function (tested against real Go, not proved from fmt's source: count such statements apart). THE CARD IS WHAT COUNTS. Prove the row's statement (the work); the ties are given (YtbjhblnagmpnfaaDoorTie.lean); close each card by the builder's one call (the guide's Derived/Test/ToyasCard.lean, 'card_holds'). Laid BY PROGRAM, IN A SANDBOX (cutbox-door.mjs). By AI agents, Wed Nov 11 2026. No macro, syntax, notation, axiom, sorry.
-/
import Derived.Test.YtbjhblnagmpnfaaDoorRows
import GoSem.ClaimSeven
namespace Go.Proofs.YtbjhblnagmpnfaaDoor
namespace Rows

/-- THE TIED CARD OF 'crierlaw12.WindowHolds'. -/
def windowHoldsCard : Claim7 := { stood := { row := windowHoldsRow, standIns := [], harness := (true, "fb9e5c766ae227439a2bb6136d5ae705c3abed6c88117a7f7018cbe5bad9a83c"), looks := false }, kinds := [], alts := [], laidByText := true, laidKinds := [.data], laidTests := true, laidLooks := .later }
def WindowHoldsCardSaid : Prop := Claim7.holds Tryd.pinned (.plain (OpenSpec.ofChange windowHoldsSpec)) windowHoldsCard

/-- THE TIED CARD OF 'crierlaw12.WindowOnce'. -/
def windowOnceCard : Claim7 := { stood := { row := windowOnceRow, standIns := [], harness := (true, "fb9e5c766ae227439a2bb6136d5ae705c3abed6c88117a7f7018cbe5bad9a83c"), looks := false }, kinds := [], alts := [], laidByText := true, laidKinds := [.data], laidTests := true, laidLooks := .later }
def WindowOnceCardSaid : Prop := Claim7.holds Tryd.pinned (.plain (OpenSpec.ofChange windowOnceSpec)) windowOnceCard

/-- THE TIED CARD OF 'crierlaw12.WindowLater'. -/
def windowLaterCard : Claim7 := { stood := { row := windowLaterRow, standIns := [], harness := (true, "fb9e5c766ae227439a2bb6136d5ae705c3abed6c88117a7f7018cbe5bad9a83c"), looks := false }, kinds := [], alts := [], laidByText := true, laidKinds := [.data], laidTests := true, laidLooks := .later }
def WindowLaterCardSaid : Prop := Claim7.holds Tryd.pinned (.plain (OpenSpec.ofChange windowLaterSpec)) windowLaterCard

/-- THE SECOND FORM's CARD OF 'crierlaw12.WindowHolds'. -/
def windowHoldsUptoCard : Claim7 := { stood := { row := windowHoldsUptoRow, standIns := [], harness := (true, "fb9e5c766ae227439a2bb6136d5ae705c3abed6c88117a7f7018cbe5bad9a83c"), looks := false }, kinds := [], alts := [], laidByText := true, laidKinds := [.data], laidTests := true, laidLooks := .later }
def WindowHoldsUptoCardSaid : Prop := Claim7.holds Tryd.pinned (.plain (OpenSpec.upto windowHoldsSpec)) windowHoldsUptoCard

/-- THE SECOND FORM's CARD OF 'crierlaw12.WindowOnce'. -/
def windowOnceUptoCard : Claim7 := { stood := { row := windowOnceUptoRow, standIns := [], harness := (true, "fb9e5c766ae227439a2bb6136d5ae705c3abed6c88117a7f7018cbe5bad9a83c"), looks := false }, kinds := [], alts := [], laidByText := true, laidKinds := [.data], laidTests := true, laidLooks := .later }
def WindowOnceUptoCardSaid : Prop := Claim7.holds Tryd.pinned (.plain (OpenSpec.upto windowOnceSpec)) windowOnceUptoCard

/-- THE SECOND FORM's CARD OF 'crierlaw12.WindowLater'. -/
def windowLaterUptoCard : Claim7 := { stood := { row := windowLaterUptoRow, standIns := [], harness := (true, "fb9e5c766ae227439a2bb6136d5ae705c3abed6c88117a7f7018cbe5bad9a83c"), looks := false }, kinds := [], alts := [], laidByText := true, laidKinds := [.data], laidTests := true, laidLooks := .later }
def WindowLaterUptoCardSaid : Prop := Claim7.holds Tryd.pinned (.plain (OpenSpec.upto windowLaterSpec)) windowLaterUptoCard
end Rows
end Go.Proofs.YtbjhblnagmpnfaaDoor
