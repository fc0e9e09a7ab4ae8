import Derived.Test.YtipagdhoeocjeaaGreatCf
namespace Go.Proofs.YtipagdhoeocjeaaGreat
open Go Go.RowKit
set_option linter.unusedSimpArgs false
set_option linter.unusedVariables false

theorem row_of {w : World} {B : Nat} {v : Value} {xs : List ByteArray} (ho : w.ownsRow B 9 1 v xs.length (xs.map Value.string)) : Row w v xs := by
  rcases ho.2 with ⟨rfl, h⟩ | ⟨g, cap, cur, rfl, hb, hg, hnc, hm, hcs, htk⟩
  · exact ⟨none, 0, 0, rfl, h.symm, Nat.le_refl _, fun hne => absurd (List.eq_nil_of_length_eq_zero h) hne⟩
  · refine ⟨_, _, cap, rfl, rfl, hnc, fun hne => ⟨g, 0, rfl, block_lt hg, fun k x hk => ?_⟩⟩
    have hlt : k < xs.length := by
      rcases Nat.lt_or_ge k xs.length with h | h
      · exact h
      · rw [List.getElem?_eq_none h] at hk; cases hk
    rw [Nat.zero_add, ho.cellAt k (by omega)]
    simp [List.getElem?_map, hk]
theorem levels_len (s : ByteArray) : (levels s).length ≤ s.size + 1 := lvs_most s s.size 0 0
theorem levels_size (s t : ByteArray) (h : t ∈ levels s) : t.size ≤ s.size := lvs_size s s.size 0 0 t h

/-- Levels, as a row. -/
theorem tlevels_row (s : ByteArray) (hs : s.size ≤ 1000000) (w : World) : Calls Tryz.prog 28 #[.string s] w fun e w' => ∃ v, e = .returned v ∧ Row w' v (levels s) ∧ Below w.heap.size w w' := by
  refine (tlevels_any s hs w).mono ?_
  rintro e w' ⟨v, rfl, ho, hb⟩
  exact ⟨v, rfl, row_of ho, hb⟩
set_option maxRecDepth 100000 in
set_option maxHeartbeats 1000000 in
theorem fcheck_any (s : ByteArray) (w : World) : Calls Tryz.prog 40 #[.string s] w fun e w' => e = .returned (.int .i64 (rfc s)) ∧ Below w.heap.size w w' := by
  by_cases hc : ct s = 0
  · have hs := ct_zero hc
    have HS : Hid (s.size ≤ 65535) := hs
    obtain ⟨x, hx⟩ : ∃ x, x = lvAny (levels s) := ⟨_, rfl⟩
    have hr : rfc s = if x then 52 else 0 := by simp [rfc, hc, hx]
    have HX : Hid (x = lvAny (levels s)) := hx
    rw [hr]
    clear hr hx hs
    cases x with
    | true =>
      go_enter Tryz.func40, Tryz.ntmps40
      go_wp2_with (go_at_call 38; refine (checkText_any s _).mono ?_; rintro e w1 ⟨rfl, hb⟩; have B1 : Hid (Below w.heap.size w w1) := hb; clear hb; rw [hc])
      go_must (go_at_call 28)
      refine (tlevels_row s (by have := HS.out; omega) _).mono ?_
      rintro e w2 ⟨v, rfl, hr, hb⟩
      have R2 : Hid (Row w2 v (levels s)) := hr
      have B2 : Hid (Below w.heap.size w w2) := B1.out.trans (hb.mono B1.out.size)
      clear hb hr
      go_wp2_with fail
      go_must (go_at_call 61)
      refine (misplaced_any (levels s) v _ R2.out (by have := levels_len s; have := HS.out; omega) (fun t ht => by have := levels_size s t ht; have := HS.out; omega)).mono ?_
      rintro e w3 ⟨rfl, hb⟩
      have B3 : Hid (Below w.heap.size w w3) := B2.out.trans (hb.mono B2.out.size)
      clear hb
      rw [← HX.out]
      go_wp2_with fail
      go_ret
      exact ⟨rfl, B3.out⟩
    | false =>
      go_enter Tryz.func40, Tryz.ntmps40
      go_wp2_with (go_at_call 38; refine (checkText_any s _).mono ?_; rintro e w1 ⟨rfl, hb⟩; have B1 : Hid (Below w.heap.size w w1) := hb; clear hb; rw [hc])
      go_must (go_at_call 28)
      refine (tlevels_row s (by have := HS.out; omega) _).mono ?_
      rintro e w2 ⟨v, rfl, hr, hb⟩
      have R2 : Hid (Row w2 v (levels s)) := hr
      have B2 : Hid (Below w.heap.size w w2) := B1.out.trans (hb.mono B1.out.size)
      clear hb hr
      go_wp2_with fail
      go_must (go_at_call 61)
      refine (misplaced_any (levels s) v _ R2.out (by have := levels_len s; have := HS.out; omega) (fun t ht => by have := levels_size s t ht; have := HS.out; omega)).mono ?_
      rintro e w3 ⟨rfl, hb⟩
      have B3 : Hid (Below w.heap.size w w3) := B2.out.trans (hb.mono B2.out.size)
      clear hb
      rw [← HX.out]
      go_wp2_with fail
      go_ret
      exact ⟨rfl, B3.out⟩
  · have hc' : (ct s != 0) = true := by simpa using hc
    rw [show rfc s = ct s by simp [rfc, hc]]
    go_enter Tryz.func40, Tryz.ntmps40
    go_wp2_with (go_at_call 38; refine (checkText_any s _).mono ?_; rintro e w1 ⟨rfl, hb⟩; have B1 : Hid (Below w.heap.size w w1) := hb; clear hb)
    go_ret
    exact ⟨rfl, B1.out⟩
/-- Is the first level a sign? -/
def hd0 : List Bs → Bool
  | [] => false
  | f :: _ => decide (f = [43]) || decide (f = [35])
/-- What Match tells. -/
def mch (f t : ByteArray) : Bool := decide (rfc f = 0) && decide (tcode t = 0) && !(decide (atB t 0 = 36) && hd0 (split (unB f))) && mt (split (unB f)) (split (unB t))
theorem rfc_zero {s : ByteArray} (h : rfc s = 0) : s.size ≤ 65535 ∧ 0 < s.size := by
  unfold rfc at h
  by_cases hc : ct s = 0
  · refine ⟨ct_zero hc, ?_⟩
    unfold ct at hc
    by_cases h0 : s.size = 0
    · simp [h0] at hc
    · omega
  · rw [if_neg hc] at h; exact absurd h hc
theorem tcode_zero {s : ByteArray} (h : tcode s = 0) : s.size ≤ 65535 ∧ 0 < s.size := by
  unfold tcode at h
  by_cases hc : ct s = 0
  · refine ⟨ct_zero hc, ?_⟩
    unfold ct at hc
    by_cases h0 : s.size = 0
    · simp [h0] at hc
    · omega
  · rw [if_neg hc] at h; exact absurd h hc
theorem levels_head (s : ByteArray) : ∃ f r, levels s = f :: r ∧ split (unB s) = unB f :: r.map unB := by
  have h := levels_split s
  obtain ⟨a, b, e⟩ := split_some (unB s)
  cases hl : levels s with
  | nil => rw [hl, e] at h; cases h
  | cons f r => exact ⟨f, r, rfl, by rw [← h, hl]; rfl⟩


end Go.Proofs.YtipagdhoeocjeaaGreat
