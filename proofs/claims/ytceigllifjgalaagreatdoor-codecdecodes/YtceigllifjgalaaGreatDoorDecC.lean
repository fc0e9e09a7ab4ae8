import Derived.Test.YtceigllifjgalaaGreatDoorDecA
import Derived.Test.YtceigllifjgalaaGreatDoorDecB
namespace Go.Proofs.YtceigllifjgalaaGreatDoor.codecDecodes
open Go Go.ChangeShapes Go.WideShapes Go.ChangeAt Go.RowKit
set_option linter.unusedSimpArgs false
set_option linter.unusedVariables false
theorem named4:Tryz.prog.funcNamed "crier/crierlaw3.CodecDecodes" = some 4:=by kernel_rfl
theorem inst4:Tryz.f4.isInstance Tryz.prog Rows.codecDecodesRow.origin Rows.codecDecodesRow.targs:=of_decide_eq_true (by kernel_rfl)
theorem wrap4:Tryz.f4.isWrapper Tryz.prog Rows.codecDecodesRow.wrapper Rows.codecDecodesRow.mainSum:=by unfold Func.isWrapper;rw [if_neg (of_decide_eq_false (by kernel_rfl))];exact ⟨rfl,rfl⟩
theorem closed4:joinedFacts Tryz.prog 4 Tryz.f4 (OpenSpec.ofChange Rows.codecDecodesSpec).bare Rows.codecDecodesRow=true:=by unfold joinedFacts;rw [j1,j2,j3,j4];kernel_rfl
theorem over:Rows.CodecDecodesSaid := OpenClaim.holds_of_cond 4 Tryz.f4 rfl rfl rfl rfl rfl rfl rfl ⟨rfl,rfl,rfl,rfl,rfl⟩ rfl rfl rfl rfl rfl named4 Tryz.func4 closed4 inst4 wrap4 (fun os started H enc _ F0=>by rw [OpenClaim.pre_eq_preRow];exact lifted os started H enc F0)
end Go.Proofs.YtceigllifjgalaaGreatDoor.codecDecodes
