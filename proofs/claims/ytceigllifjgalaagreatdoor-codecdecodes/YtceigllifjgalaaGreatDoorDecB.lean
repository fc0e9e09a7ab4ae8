import Derived.Test.YtceigllifjgalaaGreatDoorRows
import Derived.ProofKit
import Derived.Stop.Joined
namespace Go.Proofs.YtceigllifjgalaaGreatDoor.codecDecodes
open Go Go.RowKit
theorem j3:(Rows.codecDecodesRow.recurses==Tryz.prog.recurses 4)=true:=by kernel_rfl
theorem j1:(Rows.codecDecodesRow.inPlace==Tryz.prog.inPlace 4)=true:=by kernel_rfl
theorem j2:(Rows.codecDecodesRow.unfollowed==Tryz.prog.unfollowed 4)=true:=by kernel_rfl
theorem j4:(Rows.codecDecodesRow.named==Tryz.prog.varsNamed 4)=true:=by kernel_rfl
end Go.Proofs.YtceigllifjgalaaGreatDoor.codecDecodes
