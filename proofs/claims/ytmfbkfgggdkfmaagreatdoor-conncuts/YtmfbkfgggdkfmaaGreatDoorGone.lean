import Derived.Test.YtmfbkfgggdkfmaaGreatDoorCv
import Derived.Lib.AppendZeros
import Derived.Laws.AppendOwnNone
namespace Go.Proofs.YtmfbkfgggdkfmaaGreatDoor
open Go Go.RowKit
set_option linter.unusedSimpArgs false
set_option linter.unusedVariables false

theorem Tryz.info5 : (Tryz.prog.info? 5).map (fun i => (i.zero, i.size, i.bytes)) = some (some (.int .u8 0), 1, 1) := by kernel_rfl

set_option maxRecDepth 100000 in
set_option maxHeartbeats 1000000 in
theorem cellsOf_zero (z : Nat → Int) : cellsOf z 0 = [] := rfl


end Go.Proofs.YtmfbkfgggdkfmaaGreatDoor
