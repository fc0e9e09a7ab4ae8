import Derived.Test.YtmfbkfgggdkfmaaGreatDoorFdu
namespace Go.Proofs.YtmfbkfgggdkfmaaGreatDoor
open Go Go.RowKit
set_option linter.unusedSimpArgs false
set_option linter.unusedVariables false


end Go.Proofs.YtmfbkfgggdkfmaaGreatDoor
