import Derived.Test.YtceigllifjgalaaGreatDoorTwoA
import Derived.Test.YtceigllifjgalaaGreatDoorTwoB
namespace Go.Proofs.YtceigllifjgalaaGreatDoor.packetTwo
open Go Go.ChangeShapes Go.WideShapes Go.ChangeAt Go.RowKit
set_option linter.unusedSimpArgs false
set_option linter.unusedVariables false
theorem named3:Tryz.prog.funcNamed "crier/crierlaw2.PacketTwo" = some 3:=by kernel_rfl
theorem inst3:Tryz.f3.isInstance Tryz.prog Rows.packetTwoRow.origin Rows.packetTwoRow.targs:=of_decide_eq_true (by kernel_rfl)
theorem wrap3:Tryz.f3.isWrapper Tryz.prog Rows.packetTwoRow.wrapper Rows.packetTwoRow.mainSum:=by unfold Func.isWrapper;rw [if_neg (of_decide_eq_false (by kernel_rfl))];exact ⟨rfl,rfl⟩
theorem closed3:joinedFacts Tryz.prog 3 Tryz.f3 (OpenSpec.ofChange Rows.packetTwoSpec).bare Rows.packetTwoRow=true:=by
 unfold joinedFacts
 rw [j1,j2,j3,j4]
 kernel_rfl
theorem over:Rows.PacketTwoSaid :=
 OpenClaim.holds_of_cond 3 Tryz.f3 rfl rfl rfl rfl rfl rfl rfl ⟨rfl,rfl,rfl,rfl,rfl⟩ rfl rfl rfl rfl rfl named3 Tryz.func3 closed3
  inst3 wrap3
  (fun os started H enc _ F0=>by rw [OpenClaim.pre_eq_preRow];exact lifted os started H enc F0)
end Go.Proofs.YtceigllifjgalaaGreatDoor.packetTwo
