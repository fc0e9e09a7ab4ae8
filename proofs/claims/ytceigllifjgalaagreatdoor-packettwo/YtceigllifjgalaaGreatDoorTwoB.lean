import Derived.Test.YtceigllifjgalaaGreatDoorRows
import Derived.ProofKit
import Derived.Stop.Joined
namespace Go.Proofs.YtceigllifjgalaaGreatDoor.packetTwo
open Go Go.RowKit
theorem j3:(Rows.packetTwoRow.recurses==Tryz.prog.recurses 3)=true:=by kernel_rfl
theorem j1:(Rows.packetTwoRow.inPlace==Tryz.prog.inPlace 3)=true:=by kernel_rfl
theorem j2:(Rows.packetTwoRow.unfollowed==Tryz.prog.unfollowed 3)=true:=by kernel_rfl
theorem j4:(Rows.packetTwoRow.named==Tryz.prog.varsNamed 3)=true:=by kernel_rfl
end Go.Proofs.YtceigllifjgalaaGreatDoor.packetTwo
