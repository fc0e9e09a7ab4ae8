import Derived.Test.YtceigllifjgalaaGreatDoorProg
import Derived.Lib.QuietBelow
namespace Go.Proofs.YtceigllifjgalaaGreatDoor.Pkt
open Go
def regOps:Code->Array Oper | .seq a _=>regOps a | .region _ ops _=>ops | _=>#[]
def regOps2:Option Code->Array Oper | some (.seq _ b)=>regOps b | _=>#[]
theorem lex32:Region.lexB .any (regOps2 Tryz.f231.body)=true:=by kernel_rfl
end Go.Proofs.YtceigllifjgalaaGreatDoor.Pkt
