import Derived.Test.YtmfbkfgggdkfmaaGreatDoorPWm
import Derived.Test.YtmfbkfgggdkfmaaGreatDoorPWb
import Derived.Test.YtmfbkfgggdkfmaaGreatDoorPWf
import Derived.Laws.Rows
import Derived.Deep.LoopGhost
namespace Go.Proofs.YtmfbkfgggdkfmaaGreatDoor.Pkt
open Go Go.RowKit Go.Sort
set_option linter.unusedSimpArgs false
set_option linter.unusedVariables false

theorem sumN_many (f : Nat → Nat) (n : Nat) (h : ∀ i, i < n → 1 ≤ f i) : n ≤ sumN f n := by
  induction n with
  | zero => simp [sumN]
  | succ n ih =>
    have h1 := ih (fun i hi => h i (by omega))
    have h2 := h n (by omega)
    simp only [sumN]
    omega
set_option maxHeartbeats 1000000 in
set_option maxRecDepth 100000 in
theorem tmod_range (k : Int) (n : Nat) (h : 0 < n) : -(n : Int) < k.tmod n ∧ k.tmod n < n := by
  rw [tmod_eq_if]
  have h1 := Int.emod_nonneg k (b := (n : Int)) (by omega)
  have h2 := Int.emod_lt_of_pos k (b := (n : Int)) (by omega)
  have h3 := Int.emod_nonneg (-k) (b := (n : Int)) (by omega)
  have h4 := Int.emod_lt_of_pos (-k) (b := (n : Int)) (by omega)
  split <;> omega
end Go.Proofs.YtmfbkfgggdkfmaaGreatDoor.Pkt
namespace Go.Proofs.YtmfbkfgggdkfmaaGreatDoor.Pkt
open Go Go.RowKit Go.Sort
set_option linter.unusedSimpArgs false
set_option linter.unusedVariables false

theorem Right.q2 {T : Tx} {p : Pk} {c : Cn} (h : Right T p c) : p.mQ = 0 ∨ p.mQ = 1 ∨ p.mQ = 2 := by
  have := h.ql
  simp [qls, isQ] at this
  omega

end Go.Proofs.YtmfbkfgggdkfmaaGreatDoor.Pkt
