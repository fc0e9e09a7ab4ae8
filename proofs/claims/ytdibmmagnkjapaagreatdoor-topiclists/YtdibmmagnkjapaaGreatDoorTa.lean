import Derived.Test.YtdibmmagnkjapaaGreatDoorShelf
import Derived.Test.YtdibmmagnkjapaaGreatDoorAa
import Derived.Laws.Runes
import Derived.WalkMore
import Derived.Deep.QuietTactic
import Derived.BigQuiet
namespace Go.Proofs.YtdibmmagnkjapaaGreatDoor
open Go Go.RowKit
set_option linter.unusedSimpArgs false
set_option linter.unusedVariables false

end Go.Proofs.YtdibmmagnkjapaaGreatDoor
