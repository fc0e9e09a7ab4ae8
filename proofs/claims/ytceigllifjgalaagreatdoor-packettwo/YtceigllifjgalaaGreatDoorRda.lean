import Derived.Test.YtceigllifjgalaaGreatDoorKc
import Derived.Lib.LazyBuf
namespace Go.Proofs.YtceigllifjgalaaGreatDoor
open Go Go.RowKit
set_option linter.unusedSimpArgs false
set_option linter.unusedVariables false
structure Rb (w:World) (rb g n cp:Nat) (z:Nat→Int):Prop where
 own:Own w g n z
 le:n≤cp
 few:n≤700000
 ne:g≠rb
theorem Rb.grown {w w':World} {rb g n cp:Nat} {z:Nat→Int} (h:Rb w rb g n cp z) (hg:w.grownBy w' (some rb)):Rb w' rb g n cp z:=⟨h.own.grown hg h.ne,h.le,h.few,h.ne⟩
end Go.Proofs.YtceigllifjgalaaGreatDoor
