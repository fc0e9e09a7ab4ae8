import Derived.Test.YtmfbkfgggdkfmaaGreatDoorPFr
import Derived.Test.YtmfbkfgggdkfmaaGreatDoorFrg
namespace Go.Proofs.YtmfbkfgggdkfmaaGreatDoor
open Go Go.ChangeShapes Go.WideShapes Go.ChangeAt Go.RowKit
open Pkt (forms kinds_of_laid KindsAt)
set_option linter.unusedSimpArgs false
set_option linter.unusedVariables false

theorem Tryz.et : Tryz.prog.globalNamed "errors.errorType" = some 0 := by kernel_rfl
theorem Tryz.rt : (Tryz.prog.cutTypes.find? (·.1 == "internal/reflectlite.rtype")).map (·.2) = some 108 := by kernel_rfl
theorem Tryz.oneRow : ((List.range 193).filter fun t => Tryz.prog.rowNamed t [101, 114, 114, 111, 114]) = [53] := by kernel_rfl
theorem Tryz.size : Tryz.prog.types.size = 193 := by kernel_rfl

/-- What is laid for a frame. -/
def frLaid : List (String × DataW Unit) := [("errors.errorType", Rows.laid_errors_errorType), ("crier/packet.kinds", Rows.laid_crier_packet_kinds)]
theorem fr_parts {W : World} (h : laidMetH Tryz.prog frLaid W) : KindsAt W ∧ Et W := by
  have h' : laidMet Tryz.prog [("crier/packet.kinds", Rows.laid_crier_packet_kinds)] W ∧ handlesMet Tryz.prog [("errors.errorType", Rows.laid_errors_errorType)] W := h
  refine ⟨kinds_of_laid h'.1, ?_⟩
  obtain ⟨name, u, ty, e1, e2, e3, e4, e5⟩ := h'.2 _ (List.mem_singleton.2 rfl)
  have en : name = [101, 114, 114, 111, 114] := (Option.some.inj e1).symm
  subst en
  obtain rfl := Option.some.inj (Tryz.rt.symm.trans e2)
  have hm : ty ∈ (List.range 193).filter fun t => Tryz.prog.rowNamed t [101, 114, 114, 111, 114] := List.mem_filter.2 ⟨List.mem_range.2 (by rw [← Tryz.size]; exact e3), e4⟩
  rw [Tryz.oneRow] at hm
  obtain rfl := List.mem_singleton.1 hm
  have hh : typeHandle Tryz.prog 53 = .pointer (some ⟨3, 53, none⟩) := by kernel_rfl
  rw [hh] at e5
  show W.cell? ⟨0, 0, none⟩ = _
  simpa using World.var?_cell Tryz.et e5 0
def putKinds : Obj → Obj
  | .cells _ t frozen => .cells kindCells t frozen
  | o => o
def putType : Obj → Obj
  | .cells _ t frozen => .cells #[.iface 108 (.agg #[.pointer (some ⟨3, 53, none⟩)])] t frozen
  | o => o
theorem frWorld_met (os : Os) (args : Array Value) : laidMetH Tryz.prog frLaid (({ World.holding Tryz.prog os ⟨#[], #[], []⟩ with heap := ((World.holding Tryz.prog os ⟨#[], #[], []⟩).heap.modify 1 putKinds).modify 0 putType } : World).forCall (fun _ _ => 0) ⟨#[], args, []⟩).memory :=
  laidMetH_of_parts (show laidMet Tryz.prog [("crier/packet.kinds", Rows.laid_crier_packet_kinds)] _ from laidMet_of_run' 8 (by kernel_rfl) (by kernel_rfl)) (by kernel_rfl)
end Go.Proofs.YtmfbkfgggdkfmaaGreatDoor
