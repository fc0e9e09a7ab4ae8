import Derived.Test.YtdibmmagnkjapaaGreatDoorRb
import Derived.Test.YtdibmmagnkjapaaGreatDoorRc
import Derived.Laws.MakeOwn
import Derived.Test.YtdibmmagnkjapaaGreatDoorLa
namespace Go.Proofs.YtdibmmagnkjapaaGreatDoor
open Go Go.RowKit
set_option linter.unusedSimpArgs false
set_option linter.unusedVariables false

end Go.Proofs.YtdibmmagnkjapaaGreatDoor
namespace Go.Proofs.YtdibmmagnkjapaaGreatDoor
open Go Go.RowKit
set_option linter.unusedSimpArgs false
set_option linter.unusedVariables false

theorem lvs_most (s : ByteArray) : ∀ (b f i : Nat), (lvs s b f i).length ≤ b + 1
  | 0, f, i => by simp [lvs]
  | b + 1, f, i => by
    unfold lvs
    split
    · split
      · have := lvs_most s b (i + 1) (i + 1); simp; omega
      · have := lvs_most s b f (i + 1); omega
    · simp
end Go.Proofs.YtdibmmagnkjapaaGreatDoor
namespace Go.Proofs.YtdibmmagnkjapaaGreatDoor
open Go Go.RowKit
set_option linter.unusedSimpArgs false
set_option linter.unusedVariables false

end Go.Proofs.YtdibmmagnkjapaaGreatDoor
namespace Go.Proofs.YtdibmmagnkjapaaGreatDoor
open Go Go.RowKit
set_option linter.unusedSimpArgs false
set_option linter.unusedVariables false

theorem row_of {w : World} {B : Nat} {v : Value} {xs : List ByteArray} (ho : w.ownsRow B 9 1 v xs.length (xs.map Value.string)) : Row w v xs := by
  rcases ho.2 with ⟨rfl, h⟩ | ⟨g, cap, cur, rfl, hb, hg, hnc, hm, hcs, htk⟩
  · exact ⟨none, 0, 0, rfl, h.symm, Nat.le_refl _, fun hne => absurd (List.eq_nil_of_length_eq_zero h) hne⟩
  · refine ⟨_, _, cap, rfl, rfl, hnc, fun hne => ⟨g, 0, rfl, block_lt hg, fun k x hk => ?_⟩⟩
    have hlt : k < xs.length := by
      rcases Nat.lt_or_ge k xs.length with h | h
      · exact h
      · rw [List.getElem?_eq_none h] at hk; cases hk
    rw [Nat.zero_add, ho.cellAt k (by omega)]
    simp [List.getElem?_map, hk]
theorem levels_len (s : ByteArray) : (levels s).length ≤ s.size + 1 := lvs_most s s.size 0 0
theorem rlevels_row (s : ByteArray) (hs : s.size ≤ 1000000) (w : World) : Calls Tryz.prog 5 #[.string s] w fun e w' => ∃ v, e = .returned v ∧ Row w' v (levels s) ∧ Below w.heap.size w w' := by
  refine (levels_any s hs w).mono ?_
  rintro e w' ⟨v, rfl, ho, hb⟩
  exact ⟨v, rfl, row_of ho, hb⟩

end Go.Proofs.YtdibmmagnkjapaaGreatDoor
namespace Go.Proofs.YtdibmmagnkjapaaGreatDoor
open Go Go.RowKit
set_option linter.unusedSimpArgs false
set_option linter.unusedVariables false

theorem lib_join : ∀ (l : List Bs), Lib.join l [47] = joinL l
  | [] => rfl
  | [x] => by rw [Lib.join_one]; rfl
  | x :: y :: r => by
    rw [Lib.join_cons]
    have h := lib_join (y :: r)
    rw [Lib.join_cons] at h
    simp only [joinL]
    rw [← h]
    simp [Lib.joinTail]
set_option maxHeartbeats 1000000 in
set_option maxRecDepth 100000 in
theorem join_any (xs : List ByteArray) (v : Value) (w : World) (R : Row w v xs) (hne : xs ≠ []) (hl : xs.length ≤ 1000001) (hj : (joinL (xs.map unB)).length ≤ 1000001) : Calls Tryz.prog 12 #[v] w fun e w' => e = .returned (.string (mkB (joinL (xs.map unB)))) ∧ Below w.heap.size w w' := by
  obtain ⟨a, n, cap, rfl, hn, hc, hrow⟩ := R
  obtain ⟨g, o, rfl, hg, hcells⟩ := hrow hne
  subst hn
  have e : (⟨#[47]⟩ : ByteArray).data.toList = [47] := rfl
  have hJ := Tryz.strings_Join g o cap xs ⟨#[47]⟩ w hcells hg (by omega) hc (by rw [e]; exact Nat.le_trans (by rw [show (xs.map (·.data.toList)) = xs.map unB from rfl, lib_join]; exact hj) (by decide))
  rw [e, show (xs.map (·.data.toList)) = xs.map unB from rfl, lib_join] at hJ
  have HJ : Hid (Calls Tryz.prog 29 #[.slice (some ⟨g, o, none⟩) xs.length cap, .string ⟨#[47]⟩] w fun e w' => e = .returned (.string (mkB (joinL (xs.map unB)))) ∧ Below w.heap.size w w') := hJ
  clear hJ hcells hrow e
  go_enter Tryz.func12, Tryz.ntmps12
  go_wp2_with fail
  go_must (go_at_call 29)
  refine HJ.out.mono ?_
  rintro e w1 ⟨rfl, hb⟩
  have B1 : Hid (Below w.heap.size w w1) := hb
  clear hb
  go_wp2_with fail
  go_ret
  exact ⟨rfl, B1.out⟩
end Go.Proofs.YtdibmmagnkjapaaGreatDoor
