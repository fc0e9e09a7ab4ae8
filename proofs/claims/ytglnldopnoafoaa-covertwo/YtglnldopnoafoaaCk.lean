import Derived.Test.YtglnldopnoafoaaCg
namespace Go.Proofs.Ytglnldopnoafoaa
open Go Go.RowKit
set_option linter.unusedSimpArgs false
set_option linter.unusedVariables false

theorem rfc_any {f : ByteArray} (h : rfc f = 0) : lvAny (levels f) = false := by
  unfold rfc at h
  by_cases hc : ct f = 0
  · rw [if_pos hc] at h
    cases hl : lvAny (levels f) with
    | false => rfl
    | true => rw [hl] at h; cases h
  · rw [if_neg hc] at h; exact absurd h hc
theorem has_head (g : ByteArray) (c : UInt8) (t : Bs) (hg : unB g = c :: t) (hc : c = 43 ∨ c = 35) : hasS g = true := by
  refine (hsN_iff g g.size).2 ⟨0, ?_, ?_⟩
  · rw [← un_size, hg]; simp
  · rw [atB_un, hg]
    rcases hc with rfl | rfl
    · exact .inl rfl
    · exact .inr rfl
theorem first_sign (f g : ByteArray) (r : List ByteArray) (h : rfc f = 0) (hl : levels f = g :: r) (v : UInt8) (hv : v = 43 ∨ v = 35) : atB f 0 = v.toNat ↔ unB g = [v] := by
  have hs := levels_split f
  rw [hl, List.map_cons] at hs
  have hA := rfc_any h
  rw [hl] at hA
  have hX : lvX g (!r.isEmpty) = false := by
    simp only [lvAny, Bool.or_eq_false_iff] at hA
    exact hA.1
  have hpos := (rfc_zero h).2
  rw [← un_size] at hpos
  cases hu : unB f with
  | nil => rw [hu] at hpos; simp at hpos
  | cons c t =>
    have ha : atB f 0 = c.toNat := by rw [atB_un, hu]; rfl
    rw [ha, UInt8.toNat_inj]
    rw [hu] at hs
    by_cases h47 : c = 47
    · subst h47
      rw [split_slash] at hs
      have hg : unB g = [] := (List.cons.inj hs).1
      rw [hg]
      constructor
      · intro e; rcases hv with rfl | rfl <;> cases e
      · intro e; cases e
    · obtain ⟨p, q, e⟩ := split_some t
      rw [split_plain c t p q h47 e] at hs
      have hg : unB g = c :: p := (List.cons.inj hs).1
      rw [hg]
      constructor
      · intro e1
        subst e1
        have hh := has_head g c p hg hv
        have hsz : ¬ 1 < g.size := fun h1 => by simp [lvX, hh, h1] at hX
        rw [← un_size, hg] at hsz
        cases p with
        | nil => rfl
        | cons a b => simp at hsz
      · intro e1; exact (List.cons.inj e1).1

set_option maxRecDepth 100000 in
set_option maxHeartbeats 1000000 in
theorem rmatch_no (f t : ByteArray) (h : ¬ rfc f = 0 ∨ ¬ tcode t = 0) (w : World) : Calls Try.prog 9 #[.string f, .string t] w fun e w' => e = .returned (.bool false) ∧ Below w.heap.size w w' := by
  by_cases h1 : rfc f = 0
  · have h2 : (tcode t != 0) = true := by
      rcases h with h | h
      · exact absurd h1 h
      · simpa using h
    clear h
    go_enter Try.func9, Try.ntmps9
    go_wp2_with (first | (go_at_call 21; refine (rfilter_any f _).mono ?_; rintro e w1 ⟨rfl, hb⟩; have B1 : Hid (Below w.heap.size w w1) := hb; clear hb; rw [h1]) | (go_at_call 27; refine (rcheck_any t _).mono ?_; rintro e w2 ⟨rfl, hee⟩; obtain rfl := hee.symm; clear hee))
    go_ret
    exact ⟨rfl, B1.out⟩
  · have h2 : (rfc f != 0) = true := by simpa using h1
    clear h h1
    go_enter Try.func9, Try.ntmps9
    go_wp2_with (first | (go_at_call 21; refine (rfilter_any f _).mono ?_; rintro e w1 ⟨rfl, hb⟩; have B1 : Hid (Below w.heap.size w w1) := hb; clear hb) | fail)
    go_ret
    exact ⟨rfl, B1.out⟩

set_option maxRecDepth 100000 in
set_option maxHeartbeats 1000000 in
theorem rmatch_plus (f t : ByteArray) (h1 : rfc f = 0) (h2 : tcode t = 0) (h36 : atB t 0 = 36) (h43 : atB f 0 = 43) (w : World) : Calls Try.prog 9 #[.string f, .string t] w fun e w' => e = .returned (.bool (false)) ∧ Below w.heap.size w w' := by
  have hf := rfc_zero h1
  have ht := tcode_zero h2
  have HS : Hid (f.size ≤ 1000000 ∧ t.size ≤ 1000000) := ⟨by omega, by omega⟩
  have p0 : (0 : Int) < t.size := by omega
  have p0' : 0 < t.size := ht.2
  have s0 : (0 : Int) < f.size := by omega
  have s0' : 0 < f.size := hf.2
  have hat : atB t 0 = (t[0]'p0').toNat := atB_in t 0 p0'
  have has : atB f 0 = (f[0]'s0').toNat := atB_in f 0 s0'
  have q0 : (((t[0]'p0').toNat : Int) == 36) = true := by rw [← hat, h36]; rfl
  have q1 : (((f[0]'s0').toNat : Int) == 43) = true := by rw [← has, h43]; rfl
  clear hf ht hat has
  go_enter Try.func9, Try.ntmps9
  go_wp2_with (first | (go_at_call 21; refine (rfilter_any f _).mono ?_; rintro e w1 ⟨rfl, hb⟩; have B1 : Hid (Below w.heap.size w w1) := hb; clear hb; rw [h1]) | (go_at_call 27; refine (rcheck_any t _).mono ?_; rintro e w2 ⟨rfl, hee⟩; obtain rfl := hee.symm; clear hee; rw [h2]))
  go_ret
  exact ⟨rfl, B1.out⟩

set_option maxRecDepth 100000 in
set_option maxHeartbeats 1000000 in
theorem rmatch_hash (f t : ByteArray) (h1 : rfc f = 0) (h2 : tcode t = 0) (h36 : atB t 0 = 36) (h43 : ¬ atB f 0 = 43) (h35 : atB f 0 = 35) (w : World) : Calls Try.prog 9 #[.string f, .string t] w fun e w' => e = .returned (.bool (false)) ∧ Below w.heap.size w w' := by
  have hf := rfc_zero h1
  have ht := tcode_zero h2
  have HS : Hid (f.size ≤ 1000000 ∧ t.size ≤ 1000000) := ⟨by omega, by omega⟩
  have p0 : (0 : Int) < t.size := by omega
  have p0' : 0 < t.size := ht.2
  have s0 : (0 : Int) < f.size := by omega
  have s0' : 0 < f.size := hf.2
  have hat : atB t 0 = (t[0]'p0').toNat := atB_in t 0 p0'
  have has : atB f 0 = (f[0]'s0').toNat := atB_in f 0 s0'
  have q0 : (((t[0]'p0').toNat : Int) == 36) = true := by rw [← hat, h36]; rfl
  have q1 : (((f[0]'s0').toNat : Int) == 43) = false := by rw [← has, beq_eq_false_iff_ne]; omega
  have q2 : (((f[0]'s0').toNat : Int) == 35) = true := by rw [← has, h35]; rfl
  clear hf ht hat has
  go_enter Try.func9, Try.ntmps9
  go_wp2_with (first | (go_at_call 21; refine (rfilter_any f _).mono ?_; rintro e w1 ⟨rfl, hb⟩; have B1 : Hid (Below w.heap.size w w1) := hb; clear hb; rw [h1]) | (go_at_call 27; refine (rcheck_any t _).mono ?_; rintro e w2 ⟨rfl, hee⟩; obtain rfl := hee.symm; clear hee; rw [h2]))
  go_ret
  exact ⟨rfl, B1.out⟩

set_option maxRecDepth 100000 in
set_option maxHeartbeats 1000000 in
theorem rmatch_word (f t : ByteArray) (h1 : rfc f = 0) (h2 : tcode t = 0) (h36 : atB t 0 = 36) (h43 : ¬ atB f 0 = 43) (h35 : ¬ atB f 0 = 35) (w : World) : Calls Try.prog 9 #[.string f, .string t] w fun e w' => e = .returned (.bool (mt ((levels f).map unB) ((levels t).map unB))) ∧ Below w.heap.size w w' := by
  have hf := rfc_zero h1
  have ht := tcode_zero h2
  have HS : Hid (f.size ≤ 1000000 ∧ t.size ≤ 1000000) := ⟨by omega, by omega⟩
  have p0 : (0 : Int) < t.size := by omega
  have p0' : 0 < t.size := ht.2
  have s0 : (0 : Int) < f.size := by omega
  have s0' : 0 < f.size := hf.2
  have hat : atB t 0 = (t[0]'p0').toNat := atB_in t 0 p0'
  have has : atB f 0 = (f[0]'s0').toNat := atB_in f 0 s0'
  have q0 : (((t[0]'p0').toNat : Int) == 36) = true := by rw [← hat, h36]; rfl
  have q1 : (((f[0]'s0').toNat : Int) == 43) = false := by rw [← has, beq_eq_false_iff_ne]; omega
  have q2 : (((f[0]'s0').toNat : Int) == 35) = false := by rw [← has, beq_eq_false_iff_ne]; omega
  clear hf ht hat has
  go_enter Try.func9, Try.ntmps9
  go_wp2_with (first | (go_at_call 21; refine (rfilter_any f _).mono ?_; rintro e w1 ⟨rfl, hb⟩; have B1 : Hid (Below w.heap.size w w1) := hb; clear hb; rw [h1]) | (go_at_call 27; refine (rcheck_any t _).mono ?_; rintro e w2 ⟨rfl, hee⟩; obtain rfl := hee.symm; clear hee; rw [h2]))
  go_must (go_at_call 29)
  refine (rlevels_row f HS.out.1 _).mono ?_
  rintro e w3 ⟨v3, rfl, hr, hb⟩
  have R3 : Hid (Row w3 v3 (levels f)) := hr
  have B3 : Hid (Below w.heap.size w w3) := B1.out.trans (hb.mono B1.out.size)
  clear hb hr
  go_wp2_with fail
  go_must (go_at_call 29)
  refine (rlevels_row t HS.out.2 _).mono ?_
  rintro e w4 ⟨v4, rfl, hr, hb⟩
  have R4 : Hid (Row w4 v4 (levels t)) := hr
  have R5 : Hid (Row w4 v3 (levels f)) := R3.out.later hb
  have B4 : Hid (Below w.heap.size w w4) := B3.out.trans (hb.mono B3.out.size)
  clear hb hr
  go_wp2_with fail
  go_must (go_at_call 28)
  refine (goes_any _ _ _ _ _ R5.out R4.out (Nat.le_trans (levels_len f) (by have := HS.out; omega))).mono ?_
  rintro e w5 ⟨rfl, k5, hw5⟩
  have B5 : Hid (Below w.heap.size w w5) := by show Below _ _ _; rw [hw5]; exact below_drewN B4.out _
  clear hw5
  go_wp2_with fail
  go_ret
  exact ⟨rfl, B5.out⟩

set_option maxRecDepth 100000 in
set_option maxHeartbeats 1000000 in
theorem rmatch_open (f t : ByteArray) (h1 : rfc f = 0) (h2 : tcode t = 0) (h36 : ¬ atB t 0 = 36) (w : World) : Calls Try.prog 9 #[.string f, .string t] w fun e w' => e = .returned (.bool (mt ((levels f).map unB) ((levels t).map unB))) ∧ Below w.heap.size w w' := by
  have hf := rfc_zero h1
  have ht := tcode_zero h2
  have HS : Hid (f.size ≤ 1000000 ∧ t.size ≤ 1000000) := ⟨by omega, by omega⟩
  have p0 : (0 : Int) < t.size := by omega
  have p0' : 0 < t.size := ht.2
  have s0 : (0 : Int) < f.size := by omega
  have s0' : 0 < f.size := hf.2
  have hat : atB t 0 = (t[0]'p0').toNat := atB_in t 0 p0'
  have has : atB f 0 = (f[0]'s0').toNat := atB_in f 0 s0'
  have q0 : (((t[0]'p0').toNat : Int) == 36) = false := by rw [← hat, beq_eq_false_iff_ne]; omega
  clear hf ht hat has
  go_enter Try.func9, Try.ntmps9
  go_wp2_with (first | (go_at_call 21; refine (rfilter_any f _).mono ?_; rintro e w1 ⟨rfl, hb⟩; have B1 : Hid (Below w.heap.size w w1) := hb; clear hb; rw [h1]) | (go_at_call 27; refine (rcheck_any t _).mono ?_; rintro e w2 ⟨rfl, hee⟩; obtain rfl := hee.symm; clear hee; rw [h2]))
  go_must (go_at_call 29)
  refine (rlevels_row f HS.out.1 _).mono ?_
  rintro e w3 ⟨v3, rfl, hr, hb⟩
  have R3 : Hid (Row w3 v3 (levels f)) := hr
  have B3 : Hid (Below w.heap.size w w3) := B1.out.trans (hb.mono B1.out.size)
  clear hb hr
  go_wp2_with fail
  go_must (go_at_call 29)
  refine (rlevels_row t HS.out.2 _).mono ?_
  rintro e w4 ⟨v4, rfl, hr, hb⟩
  have R4 : Hid (Row w4 v4 (levels t)) := hr
  have R5 : Hid (Row w4 v3 (levels f)) := R3.out.later hb
  have B4 : Hid (Below w.heap.size w w4) := B3.out.trans (hb.mono B3.out.size)
  clear hb hr
  go_wp2_with fail
  go_must (go_at_call 28)
  refine (goes_any _ _ _ _ _ R5.out R4.out (Nat.le_trans (levels_len f) (by have := HS.out; omega))).mono ?_
  rintro e w5 ⟨rfl, k5, hw5⟩
  have B5 : Hid (Below w.heap.size w w5) := by show Below _ _ _; rw [hw5]; exact below_drewN B4.out _
  clear hw5
  go_wp2_with fail
  go_ret
  exact ⟨rfl, B5.out⟩

theorem rmatch_any (f t : ByteArray) (w : World) : Calls Try.prog 9 #[.string f, .string t] w fun e w' => e = .returned (.bool (mch f t)) ∧ Below w.heap.size w w' := by
  by_cases h1 : rfc f = 0
  · by_cases h2 : tcode t = 0
    · obtain ⟨g, r, hl, hs⟩ := levels_head f
      have e2 : (levels t).map unB = split (unB t) := levels_split t
      have e1 : (levels f).map unB = split (unB f) := levels_split f
      have f43 := first_sign f g r h1 hl 43 (.inl rfl)
      have f35 := first_sign f g r h1 hl 35 (.inr rfl)
      by_cases h36 : atB t 0 = 36
      · by_cases h43 : unB g = [43]
        · rw [show mch f t = false by simp [mch, h36, hs, hd0, h43]]
          exact rmatch_plus f t h1 h2 h36 (f43.2 h43) w
        · by_cases h35 : unB g = [35]
          · rw [show mch f t = false by simp [mch, h36, hs, hd0, h35]]
            exact rmatch_hash f t h1 h2 h36 (fun h => h43 (f43.1 h)) (f35.2 h35) w
          · have := rmatch_word f t h1 h2 h36 (fun h => h43 (f43.1 h)) (fun h => h35 (f35.1 h)) w
            rw [e1, e2] at this
            rw [show mch f t = mt (split (unB f)) (split (unB t)) by rw [mch, hs]; simp [h1, h2, hd0, h43, h35]]
            exact this
      · have := rmatch_open f t h1 h2 h36 w
        rw [e1, e2] at this
        rw [show mch f t = mt (split (unB f)) (split (unB t)) by simp [mch, h1, h2, h36]]
        exact this
    · rw [show mch f t = false by simp [mch, h2]]
      exact rmatch_no f t (.inr h2) w
  · rw [show mch f t = false by simp [mch, h1]]
    exact rmatch_no f t (.inl h1) w

end Go.Proofs.Ytglnldopnoafoaa
