import Derived.Test.YtdanjbbemmngnaaGreatDoorProg
import Derived.Lib.QuietBelow
namespace Go.Proofs.YtdanjbbemmngnaaGreatDoor
open Go

/-- The operations of the first region of a body. -/
def regOps : Code → Array Oper
  | .seq a _ => regOps a
  | .region _ ops _ => ops
  | _ => #[]
/-- Of the region behind the first. -/
def regOps2 : Option Code → Array Oper
  | some (.seq _ b) => regOps b
  | _ => #[]
theorem lex32 : Region.lexB .any (regOps2 Tryz.f86.body) = true := by kernel_rfl
end Go.Proofs.YtdanjbbemmngnaaGreatDoor
