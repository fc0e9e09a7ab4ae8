import Derived.Test.YtceigllifjgalaaGreatDoorCards
import Derived.SevenTiedAt
namespace Go.Proofs.YtceigllifjgalaaGreatDoor.codecDecodes
open Go
theorem c1:Rows.codecDecodesRow.wfByText (OpenSpec.ofChange Rows.codecDecodesSpec)=true:=by kernel_rfl
theorem c2:Tryz.prog.mainIs=some (true,"4dbdf6319f3481c1cf907e13662ad50107f24b11f6007dead30f43725fd41c39".toList):=by kernel_rfl
theorem c3:true=Tryz.prog.looks []:=by kernel_rfl
theorem c4:false=Rows.codecDecodesRow.goesBy Tryz.prog:=by kernel_rfl
theorem c5:Tryz.prog.wantsStandIn 22=false:=by kernel_rfl
theorem c6:Tryz.prog.wantsStandIn 3=false:=by kernel_rfl
end Go.Proofs.YtceigllifjgalaaGreatDoor.codecDecodes
