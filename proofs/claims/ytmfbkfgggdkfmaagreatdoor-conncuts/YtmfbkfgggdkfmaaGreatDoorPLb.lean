import Derived.Test.YtmfbkfgggdkfmaaGreatDoorPWm
import Derived.Test.YtmfbkfgggdkfmaaGreatDoorPWb
import Derived.Test.YtmfbkfgggdkfmaaGreatDoorPWf
import Derived.Laws.Rows
import Derived.Deep.LoopGhost
namespace Go.Proofs.YtmfbkfgggdkfmaaGreatDoor.Pkt
open Go Go.RowKit Go.Sort
set_option linter.unusedSimpArgs false
set_option linter.unusedVariables false

theorem sumN_many (f : Nat → Nat) (n : Nat) (h : ∀ i, i < n → 1 ≤ f i) : n ≤ sumN f n := by
  induction n with
  | zero => simp [sumN]
  | succ n ih =>
    have h1 := ih (fun i hi => h i (by omega))
    have h2 := h n (by omega)
    simp only [sumN]
    omega
end Go.Proofs.YtmfbkfgggdkfmaaGreatDoor.Pkt
namespace Go.Proofs.YtmfbkfgggdkfmaaGreatDoor.Pkt
open Go Go.RowKit Go.Sort
set_option linter.unusedSimpArgs false
set_option linter.unusedVariables false

theorem Right.q2 {T : Tx} {p : Pk} {c : Cn} (h : Right T p c) : p.mQ = 0 ∨ p.mQ = 1 ∨ p.mQ = 2 := by
  have := h.ql
  simp [qls, isQ] at this
  omega

end Go.Proofs.YtmfbkfgggdkfmaaGreatDoor.Pkt
