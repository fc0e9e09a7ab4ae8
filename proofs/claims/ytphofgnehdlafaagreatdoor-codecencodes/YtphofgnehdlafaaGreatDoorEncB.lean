import Derived.Test.YtphofgnehdlafaaGreatDoorEncA
namespace Go.Proofs.YtphofgnehdlafaaGreatDoor.codecEncodes
open Go Go.ChangeShapes Go.WideShapes Go.ChangeAt Go.RowKit
theorem j3 : (Rows.codecEncodesRow.recurses == Tryz.prog.recurses 4) = true := by kernel_rfl
theorem j1 : (Rows.codecEncodesRow.inPlace == Tryz.prog.inPlace 4) = true := by kernel_rfl
theorem j2 : (Rows.codecEncodesRow.unfollowed == Tryz.prog.unfollowed 4) = true := by kernel_rfl
theorem j4 : (Rows.codecEncodesRow.named == Tryz.prog.varsNamed 4) = true := by kernel_rfl
end Go.Proofs.YtphofgnehdlafaaGreatDoor.codecEncodes
