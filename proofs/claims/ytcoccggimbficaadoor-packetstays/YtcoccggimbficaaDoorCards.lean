/-
  DERIVED. GIVEN WITH THE SEED: THE CARDS: each row of YtcoccggimbficaaDoorRows.lean that lists a variable, with what it lists TIED to the program's text (the seventh form; the later family's looks); each row that meets fmt, with fmt's text TOLD by the authors' own Lean function (tested against real Go, not proved from fmt's source: count such statements apart). THE CARD IS WHAT COUNTS. Prove the row's statement (the work); the ties are given (YtcoccggimbficaaDoorTie.lean); close each card by the builder's one call (the guide's Derived/Test/ToyasCard.lean, 'card_holds'). Laid BY PROGRAM, IN A SANDBOX (cutbox-door.mjs). By AI agents, Wed Nov 11 2026. No macro, syntax, notation, axiom, sorry.
-/
import Derived.Test.YtcoccggimbficaaDoorRows
import GoSem.ClaimSeven
namespace Go.Proofs.YtcoccggimbficaaDoor
namespace Rows

/-- THE TIED CARD OF 'crierlaw2.PacketKinds'. -/
def packetKindsCard : Claim7 := { stood := { row := packetKindsRow, standIns := [], harness := (true, "d3fbcf70d50610a5f9ea0481ab5084eff5a8f35a438f1f01e209de0f76d1759d"), looks := false }, kinds := [], alts := [], laidByText := true, laidKinds := [.data], laidTests := true, laidLooks := .later }
def PacketKindsCardSaid : Prop := Claim7.holds Tryd.pinned (.plain (OpenSpec.ofChange packetKindsSpec)) packetKindsCard

/-- THE TIED CARD OF 'crierlaw2.PacketRight'. -/
def packetRightCard : Claim7 := { stood := { row := packetRightRow, standIns := [], harness := (true, "d3fbcf70d50610a5f9ea0481ab5084eff5a8f35a438f1f01e209de0f76d1759d"), looks := false }, kinds := [], alts := [], laidByText := true, laidKinds := [.data], laidTests := true, laidLooks := .later }
def PacketRightCardSaid : Prop := Claim7.holds Tryd.pinned (.plain (OpenSpec.ofChange packetRightSpec)) packetRightCard

/-- THE TIED CARD OF 'crierlaw2.PacketStays'. -/
def packetStaysCard : Claim7 := { stood := { row := packetStaysRow, standIns := [], harness := (true, "d3fbcf70d50610a5f9ea0481ab5084eff5a8f35a438f1f01e209de0f76d1759d"), looks := false }, kinds := [], alts := [], laidByText := true, laidKinds := [.data], laidTests := true, laidLooks := .later }
def PacketStaysCardSaid : Prop := Claim7.holds Tryd.pinned (.plain (OpenSpec.ofChange packetStaysSpec)) packetStaysCard

/-- THE SECOND FORM's CARD OF 'crierlaw2.PacketKinds'. -/
def packetKindsUptoCard : Claim7 := { stood := { row := packetKindsUptoRow, standIns := [], harness := (true, "d3fbcf70d50610a5f9ea0481ab5084eff5a8f35a438f1f01e209de0f76d1759d"), looks := false }, kinds := [], alts := [], laidByText := true, laidKinds := [.data], laidTests := true, laidLooks := .later }
def PacketKindsUptoCardSaid : Prop := Claim7.holds Tryd.pinned (.plain (OpenSpec.upto packetKindsSpec)) packetKindsUptoCard

/-- THE SECOND FORM's CARD OF 'crierlaw2.PacketRight'. -/
def packetRightUptoCard : Claim7 := { stood := { row := packetRightUptoRow, standIns := [], harness := (true, "d3fbcf70d50610a5f9ea0481ab5084eff5a8f35a438f1f01e209de0f76d1759d"), looks := false }, kinds := [], alts := [], laidByText := true, laidKinds := [.data], laidTests := true, laidLooks := .later }
def PacketRightUptoCardSaid : Prop := Claim7.holds Tryd.pinned (.plain (OpenSpec.upto packetRightSpec)) packetRightUptoCard

/-- THE SECOND FORM's CARD OF 'crierlaw2.PacketStays'. -/
def packetStaysUptoCard : Claim7 := { stood := { row := packetStaysUptoRow, standIns := [], harness := (true, "d3fbcf70d50610a5f9ea0481ab5084eff5a8f35a438f1f01e209de0f76d1759d"), looks := false }, kinds := [], alts := [], laidByText := true, laidKinds := [.data], laidTests := true, laidLooks := .later }
def PacketStaysUptoCardSaid : Prop := Claim7.holds Tryd.pinned (.plain (OpenSpec.upto packetStaysSpec)) packetStaysUptoCard
end Rows
end Go.Proofs.YtcoccggimbficaaDoor
