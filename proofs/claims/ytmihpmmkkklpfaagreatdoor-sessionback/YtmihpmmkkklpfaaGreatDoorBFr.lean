import Derived.Test.YtmihpmmkkklpfaaGreatDoorBOd
import Derived.Test.YtmihpmmkkklpfaaGreatDoorRows
import Derived.ProofKit
import Derived.OpenShut
import Derived.ShutString
import Derived.ChangeOld
import Derived.Below
import Derived.ChangeSame
import Derived.ChangeVars
import Derived.JoinedOf
import Derived.RowKit
import Derived.RowKitTokens
import Derived.LaidLaws
import Derived.LaidHandle
import Derived.Stop.Joined
import Derived.Stop.LaidErr
import Derived.Lib.LaidTab
import Derived.Shelf.Vars
namespace Go.Proofs.YtmihpmmkkklpfaaGreatDoor
open Go Go.ChangeShapes Go.WideShapes Go.ChangeAt Go.RowKit
set_option linter.unusedSimpArgs false
set_option linter.unusedVariables false
theorem Tryz.own : ownKnob Tryz.prog.godebug = none := by kernel_rfl
theorem Tryz.laidOut : laidOutB Tryz.prog = true := by kernel_rfl
/-- A table's cells. -/
def litCell {H : Type} : DataW H → Value
  | .lit (.int k n) => .int k n
  | _ => .bool false
def tabCells {H : Type} : DataW H → Array Value
  | .agg l => (l.map litCell).toArray
  | _ => #[]
/-- What the row lists. -/
def laidL : List (String × DataW Unit) := [("math/bits.deBruijn64tab", Rows.laid_math_bits_deBruijn64tab)]
def putTab (i : Nat) (d : DataW Unit) (w : World) : World := { w with heap := w.heap.modify i fun
  | .cells _ t frozen => .cells (tabCells d) t frozen
  | o => o }
noncomputable def laidWorld (os : Os) : World := putTab 0 Rows.laid_math_bits_deBruijn64tab (World.holding Tryz.prog os ⟨#[], #[], []⟩)
theorem laidWorld_met (os : Os) (args : Array Value) : laidMetH Tryz.prog laidL ((laidWorld os).forCall (fun _ _ => 0) ⟨#[], args, []⟩).memory := by
  have h : laidMet Tryz.prog laidL ((laidWorld os).forCall (fun _ _ => 0) ⟨#[], args, []⟩).memory := laidMet_of_run' 8 (by kernel_rfl) (by kernel_rfl)
  exact h
set_option maxRecDepth 100000 in
theorem tab_type : (Tryz.prog.globals[0]?).map (·.type) = some 212 := by kernel_rfl
theorem tab_at : Tryz.prog.globalNamed "math/bits.deBruijn64tab" = some 0 := by kernel_rfl
theorem tab_data : (Rows.laid_math_bits_deBruijn64tab : DataW Unit) = Lib.tabData .u8 (Lib.deBruijn64tab.map Int.ofNat) := by rfl
theorem laid_plain {w : World} (h : laidMetH Tryz.prog laidL w) : laidMet Tryz.prog laidL w := h
theorem laid_tab {w : World} (h : laidMetH Tryz.prog laidL w) : Lib.TabIs Tryz.prog w "math/bits.deBruijn64tab" .u8 (Lib.deBruijn64tab.map Int.ofNat) := by
  have h1 := laid_plain h
  unfold laidL at h1
  rw [tab_data] at h1
  exact Lib.tabIs_of_head tab_at tab_type Tryz.underlying212 Tryz.underlying5 (by kernel_rfl) (by kernel_rfl) h1
theorem row0 : ((begin Tryz.prog (fun _ _ => 0) default).world.heap[0]?).bind Obj.row? = some (Array.replicate 64 (.int .u8 0), 212) := by kernel_rfl
theorem gd_of {w : World} (h : laidMetH Tryz.prog laidL w) (hs : w.ShapedOpen Tryz.prog) : Gd w := by
  obtain ⟨cs, hh, -, -⟩ := hs.1 0 _ _ (of_decide_eq_true (by kernel_rfl)) row0
  have ht := laid_tab h
  unfold Lib.TabIs World.var? at ht
  rw [tab_at] at ht
  simp only [Option.bind_some, hh, Option.some.injEq] at ht
  refine ⟨fun j hj => ?_, _, hh, ⟨cs, 212, _, rfl, by decide, by decide, by decide, by decide, by decide⟩⟩
  have hc : cs[j]? = some (.int .u8 (Lib.deBruijn64tab.getD j 0 : Nat)) := by
    rw [ht, List.map_map]
    simp [List.getElem?_map, List.getElem?_eq_getElem hj, List.getD_eq_getElem?_getD]
  exact box_cells hh j _ hc
end Go.Proofs.YtmihpmmkkklpfaaGreatDoor
