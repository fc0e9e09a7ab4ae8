import Derived.Test.YtglnldopnoafoaaGreatDoorShelf
import Derived.Test.YtglnldopnoafoaaGreatDoorAa
import Derived.Laws.Runes
import Derived.WalkMore
import Derived.Deep.QuietTactic
import Derived.BigQuiet
namespace Go.Proofs.YtglnldopnoafoaaGreatDoor
open Go Go.RowKit
set_option linter.unusedSimpArgs false
set_option linter.unusedVariables false

end Go.Proofs.YtglnldopnoafoaaGreatDoor

