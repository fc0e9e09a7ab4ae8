import Derived.Test.YtmfbkfgggdkfmaaGreatDoorGone
import Derived.Test.YtmfbkfgggdkfmaaGreatDoorChk
import Derived.Lib.AppendStr
namespace Go.Proofs.YtmfbkfgggdkfmaaGreatDoor
open Go Go.RowKit
set_option linter.unusedSimpArgs false
set_option linter.unusedVariables false

/-- New memory that holds so many bytes, these. -/
def Made (w w' : World) (e : Ending) (n : Nat) (xs : List Value) : Prop :=
  ∃ g cp, e = .returned (.slice (some ⟨g, 0, none⟩) n cp) ∧ w'.ownsRow w.heap.size 5 1 (.slice (some ⟨g, 0, none⟩) n cp) n xs ∧ Below w.heap.size w w'

theorem made_came {w w' : World} {g n cp : Nat} {z : Nat → Int} {base : Nat} (ho : w'.ownsRow base 5 1 (.slice (some ⟨g, 0, none⟩) n cp) n (cellsOf z n)) (hz : ∀ i, 0 ≤ z i ∧ z i ≤ 255) : Came w' (some ⟨g, 0, none⟩) n cp z := by
  refine ⟨?_, hz, .inr ⟨_, rfl, fun i hi => ?_⟩⟩
  · obtain ⟨_, h | ⟨g', cp', cur, hv, _, _, hc, _⟩⟩ := ho
    · cases h.1
    · cases hv
      exact hc
  · rw [plain_add, Nat.zero_add, ho.cellAt i (by omega)]
    exact cellsOf_at z n i hi

end Go.Proofs.YtmfbkfgggdkfmaaGreatDoor
