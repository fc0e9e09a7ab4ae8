import Derived.Test.YtmfbkfgggdkfmaaGreatDoorFdv
namespace Go.Proofs.YtmfbkfgggdkfmaaGreatDoor
open Go Go.RowKit
set_option linter.unusedSimpArgs false
set_option linter.unusedVariables false


end Go.Proofs.YtmfbkfgggdkfmaaGreatDoor
