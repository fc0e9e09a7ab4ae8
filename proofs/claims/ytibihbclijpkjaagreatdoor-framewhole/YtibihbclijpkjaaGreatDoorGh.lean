import Derived.Test.YtibihbclijpkjaaGreatDoorGg
import Derived.Test.YtibihbclijpkjaaGreatDoorFdz
namespace Go.Proofs.YtibihbclijpkjaaGreatDoor
open Go Go.RowKit
open Pkt (Pk Cn Sl In By Is Ss As pkCells Gd Small ck TT sz fg nilBy)
set_option linter.unusedSimpArgs false
set_option linter.unusedVariables false

end Go.Proofs.YtibihbclijpkjaaGreatDoor
