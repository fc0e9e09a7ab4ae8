import Derived.Test.YtmfbkfgggdkfmaaGreatDoorGf
import Derived.Test.YtmfbkfgggdkfmaaGreatDoorPLb
import Derived.Test.YtmfbkfgggdkfmaaGreatDoorFdz
namespace Go.Proofs.YtmfbkfgggdkfmaaGreatDoor
open Go Go.RowKit Go.Sort
open Pkt (Pk Cn Sl In By Is Ss As pkCells Gd wpList_load_wanted quiet_load box_below Small ck TT sz Right check_any)
set_option linter.unusedSimpArgs false
set_option linter.unusedVariables false

end Go.Proofs.YtmfbkfgggdkfmaaGreatDoor
