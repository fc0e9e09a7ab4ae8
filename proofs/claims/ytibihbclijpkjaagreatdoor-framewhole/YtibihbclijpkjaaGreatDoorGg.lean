import Derived.Test.YtibihbclijpkjaaGreatDoorGf
import Derived.Test.YtibihbclijpkjaaGreatDoorPLb
import Derived.Test.YtibihbclijpkjaaGreatDoorFdu
namespace Go.Proofs.YtibihbclijpkjaaGreatDoor
open Go Go.RowKit Go.Sort
open Pkt (Pk Cn Sl In By Is Ss As pkCells Gd wpList_load_wanted quiet_load box_below Small ck TT sz fg Right ck_right check_any length_any flags_any)
set_option linter.unusedSimpArgs false
set_option linter.unusedVariables false

theorem own_base {w : World} {B D n : Nat} {v : Value} {xs : List Value} (h : w.ownsRow D 5 1 v n xs) (hB : B ≤ D) : w.ownsRow B 5 1 v n xs := by
  refine ⟨h.1, ?_⟩
  rcases h.2 with h2 | ⟨g, cap, cur, rfl, h3, h4⟩
  · exact .inl h2
  · exact .inr ⟨g, cap, cur, rfl, Nat.le_trans hB h3, h4⟩
def oneZ (x : Int) : Nat → Int := fun i => if i = 0 then x else 0

end Go.Proofs.YtibihbclijpkjaaGreatDoor
