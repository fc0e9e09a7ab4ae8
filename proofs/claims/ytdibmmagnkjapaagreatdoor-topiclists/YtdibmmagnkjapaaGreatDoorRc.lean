import Derived.Test.YtdibmmagnkjapaaGreatDoorRb
import Derived.Test.YtdibmmagnkjapaaGreatDoorTe
namespace Go.Proofs.YtdibmmagnkjapaaGreatDoor
open Go Go.RowKit
set_option linter.unusedSimpArgs false
set_option linter.unusedVariables false

end Go.Proofs.YtdibmmagnkjapaaGreatDoor
