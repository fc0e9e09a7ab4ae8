import Derived.Test.YtkjeneklkdekoaaGreatDoorRea
namespace Go.Proofs.YtkjeneklkdekoaaGreatDoor
open Go Go.RowKit
set_option linter.unusedSimpArgs false
set_option linter.unusedVariables false

theorem rm0_nil : rm0 = Rm.nil28 := rfl
/-- Behind the first list. -/
def W1 (w : World) (l0 : Nat) (z0 : Nat → Int) (g1 : Nat) (W : World) : Prop := ∃ cs vb va xsb xsa cp, Rm.Rq W w.heap.size w.heap.size 1 cs vb va xsb xsa ∧ xsb = [.slice (some ⟨g1, 0, none⟩) (l0 + 600) cp] ∧ xsa = [.int .i64 (l0 : Nat)] ∧ Came W (some ⟨g1, 0, none⟩) l0 (l0 + 600) z0 ∧ (∃ c, W.heap[g1]? = some (.cells c 5 (0, 0))) ∧ w.heap.size + 2 ≤ g1 ∧ Below w.heap.size w W ∧ W.heap[w.heap.size + 1]? = some (.cells bk0 47 (0, 0))
end Go.Proofs.YtkjeneklkdekoaaGreatDoor
