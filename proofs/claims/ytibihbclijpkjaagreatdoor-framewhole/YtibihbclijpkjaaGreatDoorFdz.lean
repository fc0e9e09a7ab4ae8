import Derived.Test.YtibihbclijpkjaaGreatDoorFdu
namespace Go.Proofs.YtibihbclijpkjaaGreatDoor
open Go Go.RowKit
open Pkt (Pk Cn Sl In By Is Ss As pkCells Gd KindsAt form isK isKind_any Small ck TT sumN Tx wpList_load_wanted)
set_option linter.unusedSimpArgs false
set_option linter.unusedVariables false

/-! ### A fault has a number, a packet has bytes -/
section
variable {z : Nat → Int} {n : Nat}
theorem errOut_err {y : Rs × Pk × Cn} {x : Int × Int} (h : errOut y = .error x) : x.2 ≠ 0 := by
  unfold errOut at h
  split at h
  · rename_i hq; cases h; exact hq
  · cases h
theorem connect_err {r : Rs} {p : Pk} {c : Cn} {x : Int × Int} (h : connectP z n r p c = .error x) : x.2 ≠ 0 := by
  unfold connectP at h
  split at h
  · cases h; simp
  split at h
  · cases h; simp
  unfold cMid cEnd at h
  split at h
  · rename_i hq; cases h; exact hq
  · cases h
theorem connack_err {r : Rs} {p : Pk} {c : Cn} {x : Int × Int} (h : connackP z n r p c = .error x) : x.2 ≠ 0 := by
  unfold connackP at h
  split at h
  · cases h; simp
  split at h
  · rename_i hq; cases h; exact hq
  · cases h
theorem into_err {r : Rs} {k fl : Int} {c : Cn} {x : Int × Int} (h : intoP z n r k c fl = .error x) : x.2 ≠ 0 := by
  unfold intoP at h
  split at h
  · exact connect_err h
  split at h
  · exact connack_err h
  repeat (first | exact errOut_err h | split at h)
theorem pack_err {h : Nat} {x : Int × Int} (e : packP z n h = .error x) : x.2 ≠ 0 := by
  unfold packP at e
  split at e
  · rename_i y hy; cases e; exact into_err hy
  · split at e
    · cases e
    · rename_i hc
      cases e
      intro q
      have q' : ((ck TT _ _ : Nat) : Int) = 0 := q
      exact hc (by omega)
theorem pack_ok {h : Nat} {y : Pk × Cn} (hn : n ≤ 700000) (hh : h ≤ n) (e : packP z n h = .ok y) : Small y.1 y.2 := by
  unfold packP at e
  split at e
  · cases e
  · rename_i y' hy
    split at e
    · cases e; exact into_small hn hh hy
    · cases e
theorem len_err (most : Int) (f k : Nat) (acc : Int) {a b : Int} {x : Int × Int} (h : lenF z n most f k acc = (a, b, some x)) : x.2 ≠ 0 := by
  induction f generalizing k acc with
  | zero => cases h; decide
  | succ f ih =>
    unfold lenF at h
    split at h
    · cases h
    split at h
    · split at h
      · cases h; simp
      · cases h
    · exact ih _ _ h
theorem head_err (most : Int) {a b : Int} {x : Int × Int} (h : headP z n most = (a, b, some x)) : x.2 ≠ 0 := by
  unfold headP at h
  split at h
  · cases h
  split at h
  · rename_i hf; cases h; exact hf
  · exact len_err most 4 1 0 h
theorem dec_fault (most : Int) {x : Int × Int} (h : decP z n most = .fault x) : x.2 ≠ 0 := by
  unfold decP at h
  cases e : headP z n (clampM most) with
  | mk hd t =>
    obtain ⟨l, o⟩ := t
    rw [e] at h
    cases o with
    | some y => cases h; exact head_err _ e
    | none =>
      unfold decH at h
      simp only at h
      split at h
      · cases h
      · split at h
        · rename_i y hy; cases h; exact pack_err hy
        · cases h
theorem dec_ok (most : Int) (hz : ∀ i, 0 ≤ z i ∧ z i ≤ 255) (hn : n ≤ 700000) {p : Pk} {c : Cn} {N : Nat} (h : decP z n most = .ok p c N) : 0 < N ∧ N ≤ n ∧ Small p c := by
  unfold decP at h
  cases e : headP z n (clampM most) with
  | mk hd t =>
    obtain ⟨l, o⟩ := t
    rw [e] at h
    cases o with
    | some y => cases h
    | none =>
      unfold decH at h
      simp only at h
      split at h
      · cases h
      · rename_i hc
        split at h
        · cases h
        · rename_i y hy
          have h0 : hd ≠ 0 := fun q => hc (.inl q)
          obtain ⟨j, a1, a2, a3, a4, _⟩ := headP_out z n _ hz hd l e h0
          have hl : ¬ (n : Int) - hd < l := fun q => hc (.inr q)
          cases h
          refine ⟨by omega, by omega, pack_ok (by omega) (by omega) hy⟩
end
end Go.Proofs.YtibihbclijpkjaaGreatDoor
namespace Go.Proofs.YtibihbclijpkjaaGreatDoor
open Go Go.RowKit
open Pkt (Pk Cn Sl In By Is Ss As pkCells Gd KindsAt form isK isKind_any Small ck TT sumN Tx wpList_load_wanted)
set_option linter.unusedSimpArgs false
set_option linter.unusedVariables false

end Go.Proofs.YtibihbclijpkjaaGreatDoor
namespace Go.Proofs.YtibihbclijpkjaaGreatDoor
open Go Go.RowKit
open Pkt (Pk Cn Sl In By Is Ss As pkCells Gd KindsAt form isK isKind_any Small ck TT sumN Tx wpList_load_wanted)
set_option linter.unusedSimpArgs false
set_option linter.unusedVariables false

end Go.Proofs.YtibihbclijpkjaaGreatDoor
namespace Go.Proofs.YtibihbclijpkjaaGreatDoor
open Go Go.RowKit
open Pkt (Pk Cn Sl In By Is Ss As pkCells Gd KindsAt form isK isKind_any Small ck TT sumN Tx wpList_load_wanted)
set_option linter.unusedSimpArgs false
set_option linter.unusedVariables false

/-- Bytes of a list, and nothing behind. -/
def listZ (L : List Int) : Nat → Int := fun i => L.getD i 0
theorem ck_ping : ck TT (blank 12) noCn = 0 := by kernel_rfl
end Go.Proofs.YtibihbclijpkjaaGreatDoor
namespace Go.Proofs.YtibihbclijpkjaaGreatDoor
open Go Go.RowKit
open Pkt (Pk Cn Sl In By Is Ss As pkCells Gd KindsAt form isK isKind_any Small ck TT sumN Tx wpList_load_wanted)
set_option linter.unusedSimpArgs false
set_option linter.unusedVariables false

theorem listZ_bd (L : List Int) (h : ∀ x ∈ L, 0 ≤ x ∧ x ≤ 255) (i : Nat) : 0 ≤ listZ L i ∧ listZ L i ≤ 255 := by
  unfold listZ
  by_cases hi : i < L.length
  · have : L.getD i 0 ∈ L := by simp [hi]
    exact h _ this
  · simp [List.getD, List.getElem?_eq_none (by omega : L.length ≤ i)]
end Go.Proofs.YtibihbclijpkjaaGreatDoor
