import Derived.Test.YtkjeneklkdekoaaGreatDoorBkj
import Derived.Test.YtkjeneklkdekoaaGreatDoorBsix
namespace Go.Proofs.YtkjeneklkdekoaaGreatDoor
open Go Go.RowKit
set_option linter.unusedSimpArgs false
set_option linter.unusedVariables false

end Go.Proofs.YtkjeneklkdekoaaGreatDoor
