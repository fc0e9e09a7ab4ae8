import Derived.Test.YtmfbkfgggdkfmaaGreatDoorFdu
namespace Go.Proofs.YtmfbkfgggdkfmaaGreatDoor
open Go Go.RowKit
open Pkt (Pk Cn Sl In By Is Ss As pkCells Gd KindsAt form isK isKind_any Small ck TT sumN Tx wpList_load_wanted)
set_option linter.unusedSimpArgs false
set_option linter.unusedVariables false

/-! ### A fault has a number, a packet has bytes -/
section
variable {z : Nat → Int} {n : Nat}
theorem pack_ok {h : Nat} {y : Pk × Cn} (hn : n ≤ 700000) (hh : h ≤ n) (e : packP z n h = .ok y) : Small y.1 y.2 := by
  unfold packP at e
  split at e
  · cases e
  · rename_i y' hy
    split at e
    · cases e; exact into_small hn hh hy
    · cases e
theorem dec_ok (most : Int) (hz : ∀ i, 0 ≤ z i ∧ z i ≤ 255) (hn : n ≤ 700000) {p : Pk} {c : Cn} {N : Nat} (h : decP z n most = .ok p c N) : 0 < N ∧ N ≤ n ∧ Small p c := by
  unfold decP at h
  cases e : headP z n (clampM most) with
  | mk hd t =>
    obtain ⟨l, o⟩ := t
    rw [e] at h
    cases o with
    | some y => cases h
    | none =>
      unfold decH at h
      simp only at h
      split at h
      · cases h
      · rename_i hc
        split at h
        · cases h
        · rename_i y hy
          have h0 : hd ≠ 0 := fun q => hc (.inl q)
          obtain ⟨j, a1, a2, a3, a4, _⟩ := headP_out z n _ hz hd l e h0
          have hl : ¬ (n : Int) - hd < l := fun q => hc (.inr q)
          cases h
          refine ⟨by omega, by omega, pack_ok (by omega) (by omega) hy⟩
end
end Go.Proofs.YtmfbkfgggdkfmaaGreatDoor
namespace Go.Proofs.YtmfbkfgggdkfmaaGreatDoor
open Go Go.RowKit
open Pkt (Pk Cn Sl In By Is Ss As pkCells Gd KindsAt form isK isKind_any Small ck TT sumN Tx wpList_load_wanted)
set_option linter.unusedSimpArgs false
set_option linter.unusedVariables false

end Go.Proofs.YtmfbkfgggdkfmaaGreatDoor
namespace Go.Proofs.YtmfbkfgggdkfmaaGreatDoor
open Go Go.RowKit
open Pkt (Pk Cn Sl In By Is Ss As pkCells Gd KindsAt form isK isKind_any Small ck TT sumN Tx wpList_load_wanted)
set_option linter.unusedSimpArgs false
set_option linter.unusedVariables false



end Go.Proofs.YtmfbkfgggdkfmaaGreatDoor
namespace Go.Proofs.YtmfbkfgggdkfmaaGreatDoor
open Go Go.RowKit
open Pkt (Pk Cn Sl In By Is Ss As pkCells Gd KindsAt form isK isKind_any Small ck TT sumN Tx wpList_load_wanted)
set_option linter.unusedSimpArgs false
set_option linter.unusedVariables false

/-- Bytes of a list, and nothing behind. -/
def listZ (L : List Int) : Nat → Int := fun i => L.getD i 0
theorem ck_ping : ck TT (blank 12) noCn = 0 := by kernel_rfl
end Go.Proofs.YtmfbkfgggdkfmaaGreatDoor
namespace Go.Proofs.YtmfbkfgggdkfmaaGreatDoor
open Go Go.RowKit
open Pkt (Pk Cn Sl In By Is Ss As pkCells Gd KindsAt form isK isKind_any Small ck TT sumN Tx wpList_load_wanted)
set_option linter.unusedSimpArgs false
set_option linter.unusedVariables false

theorem listZ_bd (L : List Int) (h : ∀ x ∈ L, 0 ≤ x ∧ x ≤ 255) (i : Nat) : 0 ≤ listZ L i ∧ listZ L i ≤ 255 := by
  unfold listZ
  by_cases hi : i < L.length
  · have : L.getD i 0 ∈ L := by simp [hi]
    exact h _ this
  · simp [List.getD, List.getElem?_eq_none (by omega : L.length ≤ i)]
end Go.Proofs.YtmfbkfgggdkfmaaGreatDoor
