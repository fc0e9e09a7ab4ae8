import Derived.Test.YtdibmmagnkjapaaGreatDoorTa
import Derived.Test.YtdibmmagnkjapaaGreatDoorAa
namespace Go.Proofs.YtdibmmagnkjapaaGreatDoor
open Go Go.RowKit
set_option linter.unusedSimpArgs false
set_option linter.unusedVariables false

theorem block_lt {w : World} {g : Nat} {o : Obj} (h : w.heap[g]? = some o) : g < w.heap.size := by
  rcases Nat.lt_or_ge g w.heap.size with h1 | h1
  · exact h1
  · rw [Array.getElem?_eq_none h1] at h; cases h
end Go.Proofs.YtdibmmagnkjapaaGreatDoor
set_option maxRecDepth 100000
namespace Go.Proofs.YtdibmmagnkjapaaGreatDoor
open Go Go.RowKit
set_option linter.unusedSimpArgs false
set_option linter.unusedVariables false

/-- What is told of a text that must not be empty. -/
def ct (s : ByteArray) : Int := if s.size = 0 then 50 else if txt s then 0 else 51
end Go.Proofs.YtdibmmagnkjapaaGreatDoor
namespace Go.Proofs.YtdibmmagnkjapaaGreatDoor
open Go Go.RowKit
set_option linter.unusedSimpArgs false
set_option linter.unusedVariables false

end Go.Proofs.YtdibmmagnkjapaaGreatDoor
