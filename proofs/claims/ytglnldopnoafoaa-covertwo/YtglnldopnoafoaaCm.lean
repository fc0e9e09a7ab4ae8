import Derived.Test.YtglnldopnoafoaaCl
namespace Go.Proofs.Ytglnldopnoafoaa
open Go Go.RowKit
set_option linter.unusedSimpArgs false
set_option linter.unusedVariables false

theorem mch_iff (f t : ByteArray) : mch f t = true ↔ rfc f = 0 ∧ tcode t = 0 ∧ ¬ (atB t 0 = 36 ∧ hd0 (split (unB f)) = true) ∧ mt (split (unB f)) (split (unB t)) = true := by
  simp only [mch, Bool.and_eq_true, decide_eq_true_eq, Bool.not_eq_true', Bool.and_eq_false_iff, decide_eq_false_iff_not, not_and, Bool.not_eq_true]
  constructor
  · rintro ⟨⟨⟨a, b⟩, c⟩, d⟩
    refine ⟨a, b, fun h => ?_, d⟩
    rcases c with c | c
    · exact absurd h c
    · exact c
  · rintro ⟨a, b, c, d⟩
    refine ⟨⟨⟨a, b⟩, ?_⟩, d⟩
    by_cases h : atB t 0 = 36
    · exact .inr (c h)
    · exact .inl h
theorem lib_join : ∀ (l : List Bs), Lib.join l [47] = joinL l
  | [] => rfl
  | [x] => by rw [Lib.join_one]; rfl
  | x :: y :: r => by
    rw [Lib.join_cons]
    have h := lib_join (y :: r)
    rw [Lib.join_cons] at h
    simp only [joinL]
    rw [← h]
    simp [Lib.joinTail]
set_option maxHeartbeats 1000000 in
set_option maxRecDepth 100000 in
theorem join_any (xs : List ByteArray) (v : Value) (w : World) (R : Row w v xs) (hne : xs ≠ []) (hl : xs.length ≤ 1000001) (hj : (joinL (xs.map unB)).length ≤ 1000001) : Calls Try.prog 48 #[v] w fun e w' => e = .returned (.string (mkB (joinL (xs.map unB)))) ∧ Below w.heap.size w w' := by
  obtain ⟨a, n, cap, rfl, hn, hc, hrow⟩ := R
  obtain ⟨g, o, rfl, hg, hcells⟩ := hrow hne
  subst hn
  have e : (⟨#[47]⟩ : ByteArray).data.toList = [47] := rfl
  have hJ := Try.strings_Join g o cap xs ⟨#[47]⟩ w hcells hg (by omega) hc (by rw [e]; exact Nat.le_trans (by rw [show (xs.map (·.data.toList)) = xs.map unB from rfl, lib_join]; exact hj) (by decide))
  rw [e, show (xs.map (·.data.toList)) = xs.map unB from rfl, lib_join] at hJ
  have HJ : Hid (Calls Try.prog 61 #[.slice (some ⟨g, o, none⟩) xs.length cap, .string ⟨#[47]⟩] w fun e w' => e = .returned (.string (mkB (joinL (xs.map unB)))) ∧ Below w.heap.size w w') := hJ
  clear hJ hcells hrow e
  go_enter Try.func48, Try.ntmps48
  go_wp2_with fail
  go_must (go_at_call 61)
  refine HJ.out.mono ?_
  rintro e w1 ⟨rfl, hb⟩
  have B1 : Hid (Below w.heap.size w w1) := hb
  clear hb
  go_wp2_with fail
  go_ret
  exact ⟨rfl, B1.out⟩
end Go.Proofs.Ytglnldopnoafoaa
