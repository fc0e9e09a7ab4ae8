import Derived.Test.YtepjcfhbbcaldaaCf
namespace Go.Proofs.Ytepjcfhbbcaldaa
open Go Go.RowKit
set_option linter.unusedSimpArgs false
set_option linter.unusedVariables false

theorem row_of {w : World} {B : Nat} {v : Value} {xs : List ByteArray} (ho : w.ownsRow B 9 1 v xs.length (xs.map Value.string)) : Row w v xs := by
  rcases ho.2 with ⟨rfl, h⟩ | ⟨g, cap, cur, rfl, hb, hg, hnc, hm, hcs, htk⟩
  · exact ⟨none, 0, 0, rfl, h.symm, Nat.le_refl _, fun hne => absurd (List.eq_nil_of_length_eq_zero h) hne⟩
  · refine ⟨_, _, cap, rfl, rfl, hnc, fun hne => ⟨g, 0, rfl, block_lt hg, fun k x hk => ?_⟩⟩
    have hlt : k < xs.length := by
      rcases Nat.lt_or_ge k xs.length with h | h
      · exact h
      · rw [List.getElem?_eq_none h] at hk; cases hk
    rw [Nat.zero_add, ho.cellAt k (by omega)]
    simp [List.getElem?_map, hk]
theorem levels_len (s : ByteArray) : (levels s).length ≤ s.size + 1 := lvs_most s s.size 0 0
theorem levels_size (s t : ByteArray) (h : t ∈ levels s) : t.size ≤ s.size := lvs_size s s.size 0 0 t h

/-- Levels, as a row. -/
theorem tlevels_row (s : ByteArray) (hs : s.size ≤ 1000000) (w : World) : Calls Try.prog 28 #[.string s] w fun e w' => ∃ v, e = .returned v ∧ Row w' v (levels s) ∧ Below w.heap.size w w' := by
  refine (tlevels_any s hs w).mono ?_
  rintro e w' ⟨v, rfl, ho, hb⟩
  exact ⟨v, rfl, row_of ho, hb⟩
set_option maxRecDepth 100000 in
set_option maxHeartbeats 1000000 in
theorem fcheck_any (s : ByteArray) (w : World) : Calls Try.prog 24 #[.string s] w fun e w' => e = .returned (.int .i64 (rfc s)) ∧ Below w.heap.size w w' := by
  by_cases hc : ct s = 0
  · have hs := ct_zero hc
    have HS : Hid (s.size ≤ 65535) := hs
    obtain ⟨x, hx⟩ : ∃ x, x = lvAny (levels s) := ⟨_, rfl⟩
    have hr : rfc s = if x then 52 else 0 := by simp [rfc, hc, hx]
    have HX : Hid (x = lvAny (levels s)) := hx
    rw [hr]
    clear hr hx hs
    cases x with
    | true =>
      go_enter Try.func24, Try.ntmps24
      go_wp2_with (go_at_call 40; refine (checkText_any s _).mono ?_; rintro e w1 ⟨rfl, hb⟩; have B1 : Hid (Below w.heap.size w w1) := hb; clear hb; rw [hc])
      go_must (go_at_call 28)
      refine (tlevels_row s (by have := HS.out; omega) _).mono ?_
      rintro e w2 ⟨v, rfl, hr, hb⟩
      have R2 : Hid (Row w2 v (levels s)) := hr
      have B2 : Hid (Below w.heap.size w w2) := B1.out.trans (hb.mono B1.out.size)
      clear hb hr
      go_wp2_with fail
      go_must (go_at_call 41)
      refine (misplaced_any (levels s) v _ R2.out (by have := levels_len s; have := HS.out; omega) (fun t ht => by have := levels_size s t ht; have := HS.out; omega)).mono ?_
      rintro e w3 ⟨rfl, hb⟩
      have B3 : Hid (Below w.heap.size w w3) := B2.out.trans (hb.mono B2.out.size)
      clear hb
      rw [← HX.out]
      go_wp2_with fail
      go_ret
      exact ⟨rfl, B3.out⟩
    | false =>
      go_enter Try.func24, Try.ntmps24
      go_wp2_with (go_at_call 40; refine (checkText_any s _).mono ?_; rintro e w1 ⟨rfl, hb⟩; have B1 : Hid (Below w.heap.size w w1) := hb; clear hb; rw [hc])
      go_must (go_at_call 28)
      refine (tlevels_row s (by have := HS.out; omega) _).mono ?_
      rintro e w2 ⟨v, rfl, hr, hb⟩
      have R2 : Hid (Row w2 v (levels s)) := hr
      have B2 : Hid (Below w.heap.size w w2) := B1.out.trans (hb.mono B1.out.size)
      clear hb hr
      go_wp2_with fail
      go_must (go_at_call 41)
      refine (misplaced_any (levels s) v _ R2.out (by have := levels_len s; have := HS.out; omega) (fun t ht => by have := levels_size s t ht; have := HS.out; omega)).mono ?_
      rintro e w3 ⟨rfl, hb⟩
      have B3 : Hid (Below w.heap.size w w3) := B2.out.trans (hb.mono B2.out.size)
      clear hb
      rw [← HX.out]
      go_wp2_with fail
      go_ret
      exact ⟨rfl, B3.out⟩
  · have hc' : (ct s != 0) = true := by simpa using hc
    rw [show rfc s = ct s by simp [rfc, hc]]
    go_enter Try.func24, Try.ntmps24
    go_wp2_with (go_at_call 40; refine (checkText_any s _).mono ?_; rintro e w1 ⟨rfl, hb⟩; have B1 : Hid (Below w.heap.size w w1) := hb; clear hb)
    go_ret
    exact ⟨rfl, B1.out⟩
/-- Is the first level a sign? -/
def hd0 : List Bs → Bool
  | [] => false
  | f :: _ => decide (f = [43]) || decide (f = [35])
/-- What Match tells. -/
def mch (f t : ByteArray) : Bool := decide (rfc f = 0) && decide (tcode t = 0) && !(decide (atB t 0 = 36) && hd0 (split (unB f))) && mt (split (unB f)) (split (unB t))
theorem rfc_zero {s : ByteArray} (h : rfc s = 0) : s.size ≤ 65535 ∧ 0 < s.size := by
  unfold rfc at h
  by_cases hc : ct s = 0
  · refine ⟨ct_zero hc, ?_⟩
    unfold ct at hc
    by_cases h0 : s.size = 0
    · simp [h0] at hc
    · omega
  · rw [if_neg hc] at h; exact absurd h hc
theorem tcode_zero {s : ByteArray} (h : tcode s = 0) : s.size ≤ 65535 ∧ 0 < s.size := by
  unfold tcode at h
  by_cases hc : ct s = 0
  · refine ⟨ct_zero hc, ?_⟩
    unfold ct at hc
    by_cases h0 : s.size = 0
    · simp [h0] at hc
    · omega
  · rw [if_neg hc] at h; exact absurd h hc
theorem levels_head (s : ByteArray) : ∃ f r, levels s = f :: r ∧ split (unB s) = unB f :: r.map unB := by
  have h := levels_split s
  obtain ⟨a, b, e⟩ := split_some (unB s)
  cases hl : levels s with
  | nil => rw [hl, e] at h; cases h
  | cons f r => exact ⟨f, r, rfl, by rw [← h, hl]; rfl⟩

set_option maxRecDepth 100000 in
set_option maxHeartbeats 1000000 in
theorem tmatch_no (f t : ByteArray) (h : ¬ rfc f = 0 ∨ ¬ tcode t = 0) (w : World) : Calls Try.prog 22 #[.string f, .string t] w fun e w' => e = .returned (.bool false) ∧ Below w.heap.size w w' := by
  by_cases h1 : rfc f = 0
  · have h2 : (tcode t != 0) = true := by
      rcases h with h | h
      · exact absurd h1 h
      · simpa using h
    clear h
    go_enter Try.func22, Try.ntmps22
    go_wp2_with (first | (go_at_call 24; refine (fcheck_any f _).mono ?_; rintro e w1 ⟨rfl, hb⟩; have B1 : Hid (Below w.heap.size w w1) := hb; clear hb; rw [h1]) | (go_at_call 34; refine (tcheck_any t _).mono ?_; rintro e w2 ⟨rfl, hb⟩; have B2 : Hid (Below w.heap.size w w2) := B1.out.trans (hb.mono B1.out.size); clear hb))
    go_ret
    exact ⟨rfl, B2.out⟩
  · have h2 : (rfc f != 0) = true := by simpa using h1
    clear h h1
    go_enter Try.func22, Try.ntmps22
    go_wp2_with (first | (go_at_call 24; refine (fcheck_any f _).mono ?_; rintro e w1 ⟨rfl, hb⟩; have B1 : Hid (Below w.heap.size w w1) := hb; clear hb) | fail)
    go_ret
    exact ⟨rfl, B1.out⟩

set_option maxRecDepth 100000 in
set_option maxHeartbeats 1000000 in
theorem tmatch_plus (f t : ByteArray) (h1 : rfc f = 0) (h2 : tcode t = 0) (g : ByteArray) (r : List ByteArray) (hl : levels f = g :: r) (h36 : atB t 0 = 36) (h43 : unB g = [43]) (w : World) : Calls Try.prog 22 #[.string f, .string t] w fun e w' => e = .returned (.bool (false)) ∧ Below w.heap.size w w' := by
  have hf := rfc_zero h1
  have ht := tcode_zero h2
  have HS : Hid (f.size ≤ 1000000 ∧ t.size ≤ 1000000) := ⟨by omega, by omega⟩
  have p0 : (0 : Int) < t.size := by omega
  have p0' : 0 < t.size := ht.2
  have HL : Hid (levels f = g :: r) := hl
  have hat : atB t 0 = (t[0]'p0').toNat := atB_in t 0 p0'
  have q0 : (((t[0]'p0').toNat : Int) == 36) = true := by rw [← hat, h36]; rfl
  have q1 : (g.toList == (⟨#[43]⟩ : ByteArray).toList) = true := by rw [eq_one]; exact decide_eq_true h43
  have q1' : (g.toList == [43]) = true := by rw [eq_one']; exact decide_eq_true h43
  clear hf ht hl hat
  go_enter Try.func22, Try.ntmps22
  go_wp2_with (first | (go_at_call 24; refine (fcheck_any f _).mono ?_; rintro e w1 ⟨rfl, hb⟩; have B1 : Hid (Below w.heap.size w w1) := hb; clear hb; rw [h1]) | (go_at_call 34; refine (tcheck_any t _).mono ?_; rintro e w2 ⟨rfl, hb⟩; have B2 : Hid (Below w.heap.size w w2) := B1.out.trans (hb.mono B1.out.size); clear hb; rw [h2]))
  go_must (go_at_call 28)
  refine (tlevels_row f HS.out.1 _).mono ?_
  rintro e w3 ⟨v, rfl, hr, hb⟩
  rw [HL.out] at hr
  have R3 : Hid (Row w3 v (g :: r)) := hr
  have B3 : Hid (Below w.heap.size w w3) := B2.out.trans (hb.mono B2.out.size)
  obtain ⟨gb, o, n, cap, rfl, hn, hc, hg, c1, hk⟩ := hr.cons
  have hp : (0 : Int) < (n : Int) := by omega
  have HN : Hid (n = r.length + 1) := hn
  clear hb hr hn hk hg
  go_wp2_with fail
  go_ret
  exact ⟨rfl, B3.out⟩

set_option maxRecDepth 100000 in
set_option maxHeartbeats 1000000 in
theorem tmatch_hash (f t : ByteArray) (h1 : rfc f = 0) (h2 : tcode t = 0) (g : ByteArray) (r : List ByteArray) (hl : levels f = g :: r) (h36 : atB t 0 = 36) (h43 : ¬ unB g = [43]) (h35 : unB g = [35]) (w : World) : Calls Try.prog 22 #[.string f, .string t] w fun e w' => e = .returned (.bool (false)) ∧ Below w.heap.size w w' := by
  have hf := rfc_zero h1
  have ht := tcode_zero h2
  have HS : Hid (f.size ≤ 1000000 ∧ t.size ≤ 1000000) := ⟨by omega, by omega⟩
  have p0 : (0 : Int) < t.size := by omega
  have p0' : 0 < t.size := ht.2
  have HL : Hid (levels f = g :: r) := hl
  have hat : atB t 0 = (t[0]'p0').toNat := atB_in t 0 p0'
  have q0 : (((t[0]'p0').toNat : Int) == 36) = true := by rw [← hat, h36]; rfl
  have q1 : (g.toList == (⟨#[43]⟩ : ByteArray).toList) = false := by rw [eq_one]; exact decide_eq_false h43
  have q1' : (g.toList == [43]) = false := by rw [eq_one']; exact decide_eq_false h43
  have q2 : (g.toList == (⟨#[35]⟩ : ByteArray).toList) = true := by rw [eq_one]; exact decide_eq_true h35
  have q2' : (g.toList == [35]) = true := by rw [eq_one']; exact decide_eq_true h35
  clear hf ht hl hat
  go_enter Try.func22, Try.ntmps22
  go_wp2_with (first | (go_at_call 24; refine (fcheck_any f _).mono ?_; rintro e w1 ⟨rfl, hb⟩; have B1 : Hid (Below w.heap.size w w1) := hb; clear hb; rw [h1]) | (go_at_call 34; refine (tcheck_any t _).mono ?_; rintro e w2 ⟨rfl, hb⟩; have B2 : Hid (Below w.heap.size w w2) := B1.out.trans (hb.mono B1.out.size); clear hb; rw [h2]))
  go_must (go_at_call 28)
  refine (tlevels_row f HS.out.1 _).mono ?_
  rintro e w3 ⟨v, rfl, hr, hb⟩
  rw [HL.out] at hr
  have R3 : Hid (Row w3 v (g :: r)) := hr
  have B3 : Hid (Below w.heap.size w w3) := B2.out.trans (hb.mono B2.out.size)
  obtain ⟨gb, o, n, cap, rfl, hn, hc, hg, c1, hk⟩ := hr.cons
  have hp : (0 : Int) < (n : Int) := by omega
  have HN : Hid (n = r.length + 1) := hn
  clear hb hr hn hk hg
  go_wp2_with fail
  go_ret
  exact ⟨rfl, B3.out⟩

set_option maxRecDepth 100000 in
set_option maxHeartbeats 1000000 in
theorem tmatch_word (f t : ByteArray) (h1 : rfc f = 0) (h2 : tcode t = 0) (g : ByteArray) (r : List ByteArray) (hl : levels f = g :: r) (h36 : atB t 0 = 36) (h43 : ¬ unB g = [43]) (h35 : ¬ unB g = [35]) (w : World) : Calls Try.prog 22 #[.string f, .string t] w fun e w' => e = .returned (.bool (mt ((g :: r).map unB) ((levels t).map unB))) ∧ Below w.heap.size w w' := by
  have hf := rfc_zero h1
  have ht := tcode_zero h2
  have HS : Hid (f.size ≤ 1000000 ∧ t.size ≤ 1000000) := ⟨by omega, by omega⟩
  have p0 : (0 : Int) < t.size := by omega
  have p0' : 0 < t.size := ht.2
  have HL : Hid (levels f = g :: r) := hl
  have hat : atB t 0 = (t[0]'p0').toNat := atB_in t 0 p0'
  have q0 : (((t[0]'p0').toNat : Int) == 36) = true := by rw [← hat, h36]; rfl
  have q1 : (g.toList == (⟨#[43]⟩ : ByteArray).toList) = false := by rw [eq_one]; exact decide_eq_false h43
  have q1' : (g.toList == [43]) = false := by rw [eq_one']; exact decide_eq_false h43
  have q2 : (g.toList == (⟨#[35]⟩ : ByteArray).toList) = false := by rw [eq_one]; exact decide_eq_false h35
  have q2' : (g.toList == [35]) = false := by rw [eq_one']; exact decide_eq_false h35
  clear hf ht hl hat
  go_enter Try.func22, Try.ntmps22
  go_wp2_with (first | (go_at_call 24; refine (fcheck_any f _).mono ?_; rintro e w1 ⟨rfl, hb⟩; have B1 : Hid (Below w.heap.size w w1) := hb; clear hb; rw [h1]) | (go_at_call 34; refine (tcheck_any t _).mono ?_; rintro e w2 ⟨rfl, hb⟩; have B2 : Hid (Below w.heap.size w w2) := B1.out.trans (hb.mono B1.out.size); clear hb; rw [h2]))
  go_must (go_at_call 28)
  refine (tlevels_row f HS.out.1 _).mono ?_
  rintro e w3 ⟨v, rfl, hr, hb⟩
  rw [HL.out] at hr
  have R3 : Hid (Row w3 v (g :: r)) := hr
  have B3 : Hid (Below w.heap.size w w3) := B2.out.trans (hb.mono B2.out.size)
  obtain ⟨gb, o, n, cap, rfl, hn, hc, hg, c1, hk⟩ := hr.cons
  have hp : (0 : Int) < (n : Int) := by omega
  have HN : Hid (n = r.length + 1) := hn
  clear hb hr hn hk hg
  go_wp2_with fail
  go_must (go_at_call 28)
  refine (tlevels_row t HS.out.2 _).mono ?_
  rintro e w4 ⟨v4, rfl, hr, hb⟩
  have R4 : Hid (Row w4 v4 (levels t)) := hr
  have R5 : Hid (Row w4 (.slice (some ⟨gb, o, none⟩) n cap) (g :: r)) := R3.out.later hb
  have B4 : Hid (Below w.heap.size w w4) := B3.out.trans (hb.mono B3.out.size)
  clear hb hr
  go_wp2_with fail
  go_must (go_at_call 38)
  refine (matches_any _ _ _ _ _ R5.out R4.out).mono ?_
  rintro e w5 ⟨rfl, k5, hw5⟩
  have B5 : Hid (Below w.heap.size w w5) := by show Below _ _ _; rw [hw5]; exact below_drewN B4.out _
  clear hw5
  go_wp2_with fail
  go_ret
  exact ⟨rfl, B5.out⟩

set_option maxRecDepth 100000 in
set_option maxHeartbeats 1000000 in
theorem tmatch_open (f t : ByteArray) (h1 : rfc f = 0) (h2 : tcode t = 0) (g : ByteArray) (r : List ByteArray) (hl : levels f = g :: r) (h36 : ¬ atB t 0 = 36) (w : World) : Calls Try.prog 22 #[.string f, .string t] w fun e w' => e = .returned (.bool (mt ((g :: r).map unB) ((levels t).map unB))) ∧ Below w.heap.size w w' := by
  have hf := rfc_zero h1
  have ht := tcode_zero h2
  have HS : Hid (f.size ≤ 1000000 ∧ t.size ≤ 1000000) := ⟨by omega, by omega⟩
  have p0 : (0 : Int) < t.size := by omega
  have p0' : 0 < t.size := ht.2
  have HL : Hid (levels f = g :: r) := hl
  have hat : atB t 0 = (t[0]'p0').toNat := atB_in t 0 p0'
  have q0 : (((t[0]'p0').toNat : Int) == 36) = false := by rw [← hat, beq_eq_false_iff_ne]; omega
  clear hf ht hl hat
  go_enter Try.func22, Try.ntmps22
  go_wp2_with (first | (go_at_call 24; refine (fcheck_any f _).mono ?_; rintro e w1 ⟨rfl, hb⟩; have B1 : Hid (Below w.heap.size w w1) := hb; clear hb; rw [h1]) | (go_at_call 34; refine (tcheck_any t _).mono ?_; rintro e w2 ⟨rfl, hb⟩; have B2 : Hid (Below w.heap.size w w2) := B1.out.trans (hb.mono B1.out.size); clear hb; rw [h2]))
  go_must (go_at_call 28)
  refine (tlevels_row f HS.out.1 _).mono ?_
  rintro e w3 ⟨v, rfl, hr, hb⟩
  rw [HL.out] at hr
  have R3 : Hid (Row w3 v (g :: r)) := hr
  have B3 : Hid (Below w.heap.size w w3) := B2.out.trans (hb.mono B2.out.size)
  obtain ⟨gb, o, n, cap, rfl, hn, hc, hg, c1, hk⟩ := hr.cons
  have hp : (0 : Int) < (n : Int) := by omega
  have HN : Hid (n = r.length + 1) := hn
  clear hb hr hn hk hg
  go_wp2_with fail
  go_must (go_at_call 28)
  refine (tlevels_row t HS.out.2 _).mono ?_
  rintro e w4 ⟨v4, rfl, hr, hb⟩
  have R4 : Hid (Row w4 v4 (levels t)) := hr
  have R5 : Hid (Row w4 (.slice (some ⟨gb, o, none⟩) n cap) (g :: r)) := R3.out.later hb
  have B4 : Hid (Below w.heap.size w w4) := B3.out.trans (hb.mono B3.out.size)
  clear hb hr
  go_wp2_with fail
  go_must (go_at_call 38)
  refine (matches_any _ _ _ _ _ R5.out R4.out).mono ?_
  rintro e w5 ⟨rfl, k5, hw5⟩
  have B5 : Hid (Below w.heap.size w w5) := by show Below _ _ _; rw [hw5]; exact below_drewN B4.out _
  clear hw5
  go_wp2_with fail
  go_ret
  exact ⟨rfl, B5.out⟩

theorem tmatch_any (f t : ByteArray) (w : World) : Calls Try.prog 22 #[.string f, .string t] w fun e w' => e = .returned (.bool (mch f t)) ∧ Below w.heap.size w w' := by
  by_cases h1 : rfc f = 0
  · by_cases h2 : tcode t = 0
    · obtain ⟨g, r, hl, hs⟩ := levels_head f
      have e2 : (levels t).map unB = split (unB t) := levels_split t
      have e1 : (g :: r).map unB = split (unB f) := by rw [hs]; rfl
      by_cases h36 : atB t 0 = 36
      · by_cases h43 : unB g = [43]
        · rw [show mch f t = false by simp [mch, h36, hs, hd0, h43]]
          exact tmatch_plus f t h1 h2 g r hl h36 h43 w
        · by_cases h35 : unB g = [35]
          · rw [show mch f t = false by simp [mch, h36, hs, hd0, h35]]
            exact tmatch_hash f t h1 h2 g r hl h36 h43 h35 w
          · have := tmatch_word f t h1 h2 g r hl h36 h43 h35 w
            rw [e1, e2] at this
            rw [show mch f t = mt (split (unB f)) (split (unB t)) by rw [mch, hs]; simp [h1, h2, hd0, h43, h35]]
            exact this
      · have := tmatch_open f t h1 h2 g r hl h36 w
        rw [e1, e2] at this
        rw [show mch f t = mt (split (unB f)) (split (unB t)) by simp [mch, h1, h2, h36]]
        exact this
    · rw [show mch f t = false by simp [mch, h2]]
      exact tmatch_no f t (.inr h2) w
  · rw [show mch f t = false by simp [mch, h1]]
    exact tmatch_no f t (.inl h1) w
end Go.Proofs.Ytepjcfhbbcaldaa
