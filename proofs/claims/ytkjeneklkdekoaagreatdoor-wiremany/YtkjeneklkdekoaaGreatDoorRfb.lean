import Derived.Test.YtkjeneklkdekoaaGreatDoorMWfour
import Derived.Test.YtkjeneklkdekoaaGreatDoorGthree
import Derived.Test.YtkjeneklkdekoaaGreatDoorRfa
import Derived.Test.YtkjeneklkdekoaaGreatDoorBsix
import Derived.Test.YtkjeneklkdekoaaGreatDoorBkj
namespace Go.Proofs.YtkjeneklkdekoaaGreatDoor
open Go Go.RowKit
set_option linter.unusedSimpArgs false
set_option linter.unusedVariables false

/-! ### crierref1.Words -/
theorem chkF_rm (s : ByteArray) (b k : Nat) : Rm.chkF s b k = chkF s b k := by
  induction b generalizing k with
  | zero => rfl
  | succ n ih => simp only [Rm.chkF, chkF, ih]
theorem chk_rm (s : ByteArray) : Rm.chk s = chk s := by simp only [Rm.chk, chk, chkF_rm]
end Go.Proofs.YtkjeneklkdekoaaGreatDoor
namespace Go.Proofs.YtkjeneklkdekoaaGreatDoor
open Go Go.RowKit
set_option linter.unusedSimpArgs false
set_option linter.unusedVariables false

/-! ### PutText, PutData behind bytes that were lent -/
end Go.Proofs.YtkjeneklkdekoaaGreatDoor
namespace Go.Proofs.YtkjeneklkdekoaaGreatDoor
open Go Go.RowKit
set_option linter.unusedSimpArgs false
set_option linter.unusedVariables false

end Go.Proofs.YtkjeneklkdekoaaGreatDoor
