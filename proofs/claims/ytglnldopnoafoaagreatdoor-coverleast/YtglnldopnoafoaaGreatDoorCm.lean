import Derived.Test.YtglnldopnoafoaaGreatDoorCf
import Derived.Test.YtglnldopnoafoaaGreatDoorAa
namespace Go.Proofs.YtglnldopnoafoaaGreatDoor
open Go Go.RowKit
set_option linter.unusedSimpArgs false
set_option linter.unusedVariables false

theorem row_of {w : World} {B : Nat} {v : Value} {xs : List ByteArray} (ho : w.ownsRow B 9 1 v xs.length (xs.map Value.string)) : Row w v xs := by
  rcases ho.2 with ⟨rfl, h⟩ | ⟨g, cap, cur, rfl, hb, hg, hnc, hm, hcs, htk⟩
  · exact ⟨none, 0, 0, rfl, h.symm, Nat.le_refl _, fun hne => absurd (List.eq_nil_of_length_eq_zero h) hne⟩
  · refine ⟨_, _, cap, rfl, rfl, hnc, fun hne => ⟨g, 0, rfl, block_lt hg, fun k x hk => ?_⟩⟩
    have hlt : k < xs.length := by
      rcases Nat.lt_or_ge k xs.length with h | h
      · exact h
      · rw [List.getElem?_eq_none h] at hk; cases hk
    rw [Nat.zero_add, ho.cellAt k (by omega)]
    simp [List.getElem?_map, hk]
theorem levels_len (s : ByteArray) : (levels s).length ≤ s.size + 1 := lvs_most s s.size 0 0
theorem levels_size (s t : ByteArray) (h : t ∈ levels s) : t.size ≤ s.size := lvs_size s s.size 0 0 t h

/-- Levels, as a row. -/
theorem tlevels_row (s : ByteArray) (hs : s.size ≤ 1000000) (w : World) : Calls Tryz.prog 58 #[.string s] w fun e w' => ∃ v, e = .returned v ∧ Row w' v (levels s) ∧ Below w.heap.size w w' := by
  refine (tlevels_any s hs w).mono ?_
  rintro e w' ⟨v, rfl, ho, hb⟩
  exact ⟨v, rfl, row_of ho, hb⟩
theorem rlevels_row (s : ByteArray) (hs : s.size ≤ 1000000) (w : World) : Calls Tryz.prog 146 #[.string s] w fun e w' => ∃ v, e = .returned v ∧ Row w' v (levels s) ∧ Below w.heap.size w w' := by
  refine (levels_any s hs w).mono ?_
  rintro e w' ⟨v, rfl, ho, hb⟩
  exact ⟨v, rfl, row_of ho, hb⟩

set_option maxRecDepth 100000 in
set_option maxHeartbeats 1000000 in
theorem fcheck_any (s : ByteArray) (w : World) : Calls Tryz.prog 57 #[.string s] w fun e w' => e = .returned (.int .i64 (rfc s)) ∧ Below w.heap.size w w' := by
  by_cases hc : ct s = 0
  · have hs := ct_zero hc
    have HS : Hid (s.size ≤ 65535) := hs
    obtain ⟨x, hx⟩ : ∃ x, x = lvAny (levels s) := ⟨_, rfl⟩
    have hr : rfc s = if x then 52 else 0 := by simp [rfc, hc, hx]
    have HX : Hid (x = lvAny (levels s)) := hx
    rw [hr]
    clear hr hx hs
    cases x with
    | true =>
      go_enter Tryz.func57, Tryz.ntmps57
      go_wp2_with (go_at_call 82; refine (checkText_any s _).mono ?_; rintro e w1 ⟨rfl, hb⟩; have B1 : Hid (Below w.heap.size w w1) := hb; clear hb; rw [hc])
      go_must (go_at_call 58)
      refine (tlevels_row s (by have := HS.out; omega) _).mono ?_
      rintro e w2 ⟨v, rfl, hr, hb⟩
      have R2 : Hid (Row w2 v (levels s)) := hr
      have B2 : Hid (Below w.heap.size w w2) := B1.out.trans (hb.mono B1.out.size)
      clear hb hr
      go_wp2_with fail
      go_must (go_at_call 83)
      refine (misplaced_any (levels s) v _ R2.out (by have := levels_len s; have := HS.out; omega) (fun t ht => by have := levels_size s t ht; have := HS.out; omega)).mono ?_
      rintro e w3 ⟨rfl, hb⟩
      have B3 : Hid (Below w.heap.size w w3) := B2.out.trans (hb.mono B2.out.size)
      clear hb
      rw [← HX.out]
      go_wp2_with fail
      go_ret
      exact ⟨rfl, B3.out⟩
    | false =>
      go_enter Tryz.func57, Tryz.ntmps57
      go_wp2_with (go_at_call 82; refine (checkText_any s _).mono ?_; rintro e w1 ⟨rfl, hb⟩; have B1 : Hid (Below w.heap.size w w1) := hb; clear hb; rw [hc])
      go_must (go_at_call 58)
      refine (tlevels_row s (by have := HS.out; omega) _).mono ?_
      rintro e w2 ⟨v, rfl, hr, hb⟩
      have R2 : Hid (Row w2 v (levels s)) := hr
      have B2 : Hid (Below w.heap.size w w2) := B1.out.trans (hb.mono B1.out.size)
      clear hb hr
      go_wp2_with fail
      go_must (go_at_call 83)
      refine (misplaced_any (levels s) v _ R2.out (by have := levels_len s; have := HS.out; omega) (fun t ht => by have := levels_size s t ht; have := HS.out; omega)).mono ?_
      rintro e w3 ⟨rfl, hb⟩
      have B3 : Hid (Below w.heap.size w w3) := B2.out.trans (hb.mono B2.out.size)
      clear hb
      rw [← HX.out]
      go_wp2_with fail
      go_ret
      exact ⟨rfl, B3.out⟩
  · have hc' : (ct s != 0) = true := by simpa using hc
    rw [show rfc s = ct s by simp [rfc, hc]]
    go_enter Tryz.func57, Tryz.ntmps57
    go_wp2_with (go_at_call 82; refine (checkText_any s _).mono ?_; rintro e w1 ⟨rfl, hb⟩; have B1 : Hid (Below w.heap.size w w1) := hb; clear hb)
    go_ret
    exact ⟨rfl, B1.out⟩
/-- Is the first level a sign? -/
def hd0 : List Bs → Bool
  | [] => false
  | f :: _ => decide (f = [43]) || decide (f = [35])
/-- What Match tells. -/
def mch (f t : ByteArray) : Bool := decide (rfc f = 0) && decide (tcode t = 0) && !(decide (atB t 0 = 36) && hd0 (split (unB f))) && mt (split (unB f)) (split (unB t))
theorem rfc_zero {s : ByteArray} (h : rfc s = 0) : s.size ≤ 65535 ∧ 0 < s.size := by
  unfold rfc at h
  by_cases hc : ct s = 0
  · refine ⟨ct_zero hc, ?_⟩
    unfold ct at hc
    by_cases h0 : s.size = 0
    · simp [h0] at hc
    · omega
  · rw [if_neg hc] at h; exact absurd h hc
theorem tcode_zero {s : ByteArray} (h : tcode s = 0) : s.size ≤ 65535 ∧ 0 < s.size := by
  unfold tcode at h
  by_cases hc : ct s = 0
  · refine ⟨ct_zero hc, ?_⟩
    unfold ct at hc
    by_cases h0 : s.size = 0
    · simp [h0] at hc
    · omega
  · rw [if_neg hc] at h; exact absurd h hc
theorem levels_head (s : ByteArray) : ∃ f r, levels s = f :: r ∧ split (unB s) = unB f :: r.map unB := by
  have h := levels_split s
  obtain ⟨a, b, e⟩ := split_some (unB s)
  cases hl : levels s with
  | nil => rw [hl, e] at h; cases h
  | cons f r => exact ⟨f, r, rfl, by rw [← h, hl]; rfl⟩

end Go.Proofs.YtglnldopnoafoaaGreatDoor

namespace Go.Proofs.YtglnldopnoafoaaGreatDoor
set_option linter.unusedSimpArgs false
set_option linter.unusedVariables false

/-- From a place code points lead to another one, none of them a zero. -/
def run (s : ByteArray) : Nat → Nat → Nat → Prop
  | 0, i, j => i = j
  | b + 1, i, j => i = j ∨ (i < j ∧ atB s i ≠ 0 ∧ point s i ≠ 0 ∧ i + point s i ≤ j ∧ run s b (i + point s i) j)

/-- The code point hangs on its own bytes alone. -/
theorem point_local (s t : ByteArray) (i i' : Nat) (h0 : point s i ≠ 0) (h : ∀ k, k < point s i → atB t (i' + k) = atB s (i + k)) : point t i' = point s i := by
  have a0 := h 0
  have a1 := h 1
  have a2 := h 2
  have a3 := h 3
  clear h
  unfold point at *
  simp only [Nat.add_zero] at a0
  generalize atB s i = c at *
  generalize atB s (i + 1) = d at *
  generalize atB s (i + 2) = e at *
  generalize atB s (i + 3) = f at *
  generalize atB t i' = c' at *
  generalize atB t (i' + 1) = d' at *
  generalize atB t (i' + 2) = e' at *
  generalize atB t (i' + 3) = f' at *
  obtain rfl := a0 (by omega)
  by_cases k1 : c' ≤ 0x7F
  · simp [pt, k1]
  by_cases k2 : (0xC2 ≤ c' ∧ c' ≤ 0xDF) ∧ (0x80 ≤ d ∧ d ≤ 0xBF)
  · have e2 : pt c' d e f = 2 := by unfold pt; rw [if_neg k1, if_pos k2]
    rw [e2] at a1 ⊢
    obtain rfl := a1 (by omega)
    unfold pt
    rw [if_neg k1, if_pos k2]
  by_cases k3 : (c' = 0xE0 ∧ (0xA0 ≤ d ∧ d ≤ 0xBF) ∧ (0x80 ≤ e ∧ e ≤ 0xBF)) ∨ ((0xE1 ≤ c' ∧ c' ≤ 0xEC) ∧ (0x80 ≤ d ∧ d ≤ 0xBF) ∧ (0x80 ≤ e ∧ e ≤ 0xBF)) ∨ (c' = 0xED ∧ (0x80 ≤ d ∧ d ≤ 0x9F) ∧ (0x80 ≤ e ∧ e ≤ 0xBF)) ∨ ((0xEE ≤ c' ∧ c' ≤ 0xEF) ∧ (0x80 ≤ d ∧ d ≤ 0xBF) ∧ (0x80 ≤ e ∧ e ≤ 0xBF))
  · have e3 : pt c' d e f = 3 := by unfold pt; rw [if_neg k1, if_neg k2, if_pos k3]
    rw [e3] at a1 a2 ⊢
    obtain rfl := a1 (by omega)
    obtain rfl := a2 (by omega)
    unfold pt
    rw [if_neg k1, if_neg k2, if_pos k3]
  by_cases k4 : (c' = 0xF0 ∧ (0x90 ≤ d ∧ d ≤ 0xBF) ∧ (0x80 ≤ e ∧ e ≤ 0xBF) ∧ (0x80 ≤ f ∧ f ≤ 0xBF)) ∨ ((0xF1 ≤ c' ∧ c' ≤ 0xF3) ∧ (0x80 ≤ d ∧ d ≤ 0xBF) ∧ (0x80 ≤ e ∧ e ≤ 0xBF) ∧ (0x80 ≤ f ∧ f ≤ 0xBF)) ∨ (c' = 0xF4 ∧ (0x80 ≤ d ∧ d ≤ 0x8F) ∧ (0x80 ≤ e ∧ e ≤ 0xBF) ∧ (0x80 ≤ f ∧ f ≤ 0xBF))
  · have e4 : pt c' d e f = 4 := by unfold pt; rw [if_neg k1, if_neg k2, if_neg k3, if_pos k4]
    rw [e4] at a1 a2 a3 ⊢
    obtain rfl := a1 (by omega)
    obtain rfl := a2 (by omega)
    obtain rfl := a3 (by omega)
    unfold pt
    rw [if_neg k1, if_neg k2, if_neg k3, if_pos k4]
  · exact absurd (by unfold pt; rw [if_neg k1, if_neg k2, if_neg k3, if_neg k4]) h0

/-- Behind a code point's first byte stand bytes that go on with it. -/
theorem point_tail (s : ByteArray) (i k : Nat) (hk : 0 < k) (h : k < point s i) : 0x80 ≤ atB s (i + k) ∧ atB s (i + k) ≤ 0xBF := by
  unfold point pt at h
  split at h
  · omega
  split at h
  · rename_i q
    obtain rfl : k = 1 := by omega
    exact q.2
  split at h
  · rename_i q
    rcases (show k = 1 ∨ k = 2 by omega) with rfl | rfl <;> omega
  split at h
  · rename_i q
    rcases (show k = 1 ∨ k = 2 ∨ k = 3 by omega) with rfl | rfl | rfl <;> omega
  · omega

theorem run_refl (s : ByteArray) (b i : Nat) : run s b i i := by
  cases b with
  | zero => rfl
  | succ b => exact .inl rfl
theorem run_le (s : ByteArray) : ∀ b i j, run s b i j → i ≤ j
  | 0, i, j, h => by simp only [run] at h; omega
  | b + 1, i, j, h => by
    rcases h with rfl | ⟨h, _⟩ <;> omega
theorem run_more (s : ByteArray) : ∀ b b' i j, run s b i j → b ≤ b' → run s b' i j
  | 0, b', i, j, h, _ => by simp only [run] at h; subst h; exact run_refl _ _ _
  | b + 1, 0, i, j, h, hb => by omega
  | b + 1, b' + 1, i, j, h, hb => by
    rcases h with rfl | ⟨h1, h2, h3, h4, h5⟩
    · exact .inl rfl
    · exact .inr ⟨h1, h2, h3, h4, run_more s b b' _ _ h5 (by omega)⟩
/-- As many steps as places are enough. -/
theorem run_few (s : ByteArray) : ∀ b c i j, run s b i j → j ≤ i + c → run s c i j
  | 0, c, i, j, h, _ => by simp only [run] at h; subst h; exact run_refl _ _ _
  | b + 1, 0, i, j, h, hc => by
    have := run_le s _ _ _ h
    obtain rfl : i = j := by omega
    rfl
  | b + 1, c + 1, i, j, h, hc => by
    rcases h with rfl | ⟨h1, h2, h3, h4, h5⟩
    · exact .inl rfl
    · exact .inr ⟨h1, h2, h3, h4, run_few s b c _ _ h5 (by omega)⟩
theorem run_trans (s : ByteArray) : ∀ b c i j k, run s b i j → run s c j k → run s (b + c) i k
  | 0, c, i, j, k, h, h' => by simp only [run] at h; subst h; rw [Nat.zero_add]; exact h'
  | b + 1, c, i, j, k, h, h' => by
    rcases h with rfl | ⟨h1, h2, h3, h4, h5⟩
    · exact run_more s _ _ _ _ h' (by omega)
    · have hjk := run_le s _ _ _ h'
      rw [Nat.add_right_comm]
      exact .inr ⟨by omega, h2, h3, by omega, run_trans s b c _ _ _ h5 h'⟩
theorem run_split (s : ByteArray) : ∀ b c i j k, run s b i j → run s c i k → j ≤ k → run s c j k
  | 0, c, i, j, k, h, h', _ => by simp only [run] at h; subst h; exact h'
  | b + 1, c, i, j, k, h, h', hjk => by
    rcases h with rfl | ⟨h1, h2, h3, h4, h5⟩
    · exact h'
    · cases c with
      | zero => simp only [run] at h'; omega
      | succ c =>
        rcases h' with rfl | ⟨_, _, _, _, h6⟩
        · omega
        · exact run_more s _ _ _ _ (run_split s b c _ _ _ h5 h6 hjk) (by omega)
/-- Where a byte doesn't go on with a code point, one begins. -/
theorem run_cut (s : ByteArray) : ∀ b i j c, run s b i j → i ≤ c → c ≤ j → (c < j → ¬ (0x80 ≤ atB s c ∧ atB s c ≤ 0xBF)) → run s b i c ∧ run s b c j
  | 0, i, j, c, h, h1, h2, _ => by
    simp only [run] at h ⊢
    omega
  | b + 1, i, j, c, h, h1, h2, hc => by
    by_cases e : c = i
    · subst e
      exact ⟨run_refl _ _ _, h⟩
    · rcases h with rfl | ⟨g1, g2, g3, g4, g5⟩
      · omega
      · by_cases hp : c < i + point s i
        · have ht := point_tail s i (c - i) (by omega) (by omega)
          rw [Nat.add_sub_cancel' h1] at ht
          exact absurd ht (hc (by omega))
        · obtain ⟨r1, r2⟩ := run_cut s b (i + point s i) j c g5 (by omega) h2 hc
          exact ⟨.inr ⟨by omega, g2, g3, by omega, r1⟩, run_more s _ _ _ _ r2 (by omega)⟩
/-- It hangs on the bytes between alone. -/
theorem run_local (s t : ByteArray) (o : Nat) : ∀ b i j, run s b i j → (∀ k, i ≤ k → k < j → atB t (o + k) = atB s k) → run t b (o + i) (o + j)
  | 0, i, j, h, _ => by simp only [run] at h ⊢; omega
  | b + 1, i, j, h, ha => by
    rcases h with rfl | ⟨h1, h2, h3, h4, h5⟩
    · exact .inl rfl
    · have hp : point t (o + i) = point s i := point_local s t i (o + i) h3 fun k hk => by
        rw [Nat.add_assoc]
        exact ha (i + k) (by omega) (by omega)
      have h0 := ha i (Nat.le_refl _) h1
      refine .inr ⟨by omega, by rw [h0]; exact h2, by rw [hp]; exact h3, by rw [hp]; omega, ?_⟩
      rw [hp, Nat.add_assoc]
      exact run_local s t o b _ _ h5 fun k hk hk' => ha k (by omega) hk'
theorem run_back (s t : ByteArray) (o : Nat) : ∀ b i j, run t b (o + i) (o + j) → (∀ k, i ≤ k → k < j → atB t (o + k) = atB s k) → run s b i j
  | 0, i, j, h, _ => by simp only [run] at h ⊢; omega
  | b + 1, i, j, h, ha => by
    rcases h with h | ⟨h1, h2, h3, h4, h5⟩
    · exact .inl (by omega)
    · have hp : point s i = point t (o + i) := point_local t s (o + i) i h3 fun k hk => by
        have := ha (i + k) (by omega) (by omega)
        rw [Nat.add_assoc]
        exact this.symm
      have h0 := ha i (Nat.le_refl _) (by omega)
      refine .inr ⟨by omega, by rw [← h0]; exact h2, by rw [hp]; exact h3, by omega, ?_⟩
      rw [← hp, Nat.add_assoc] at h5
      exact run_back s t o b _ _ h5 fun k hk hk' => ha k (by omega) hk'

/-- What Check tells, by runs. -/
theorem chkF_run (s : ByteArray) : ∀ b i, i ≤ s.size → s.size ≤ i + b → ((chkF s b i).2 = 0 → (chkF s b i).1 = 0 ∧ run s b i s.size) ∧
    ((chkF s b i).2 ≠ 0 → run s b i (chkF s b i).1 ∧ (chkF s b i).1 < s.size ∧ ((atB s (chkF s b i).1 = 0 ∧ (chkF s b i).2 = 14) ∨ (atB s (chkF s b i).1 ≠ 0 ∧ point s (chkF s b i).1 = 0 ∧ (chkF s b i).2 = 13)))
  | 0, i, h1, h2 => by
    obtain rfl : i = s.size := by omega
    simp [chkF, run]
  | b + 1, i, h1, h2 => by
    by_cases hi : i < s.size
    · by_cases hz : atB s i = 0
      · rw [chkF_zero s (b + 1) i hi h2 hz]
        exact ⟨fun h => by simp at h, fun _ => ⟨run_refl _ _ _, hi, .inl ⟨hz, rfl⟩⟩⟩
      · by_cases hp : point s i = 0
        · rw [chkF_utf s (b + 1) i hi h2 hz hp]
          exact ⟨fun h => by simp at h, fun _ => ⟨run_refl _ _ _, hi, .inr ⟨hz, hp, rfl⟩⟩⟩
        · have e : chkF s (b + 1) i = chkF s b (i + point s i) := by simp [chkF, hi, hz, hp]
          have hle := point_le s i hi
          obtain ⟨r1, r2⟩ := chkF_run s b (i + point s i) hle (by omega)
          rw [e]
          constructor
          · intro h
            obtain ⟨q1, q2⟩ := r1 h
            exact ⟨q1, .inr ⟨hi, hz, hp, hle, q2⟩⟩
          · intro h
            obtain ⟨q1, q2, q3⟩ := r2 h
            have := run_le s _ _ _ q1
            exact ⟨.inr ⟨by omega, hz, hp, this, q1⟩, q2, q3⟩
    · rw [chkF_end s (b + 1) i hi]
      obtain rfl : i = s.size := by omega
      exact ⟨fun _ => ⟨rfl, run_refl _ _ _⟩, fun h => absurd rfl h⟩
theorem chkF_of_run (s : ByteArray) : ∀ b c i j, run s c i j → j ≤ s.size → s.size ≤ i + b → ∃ b', chkF s b i = chkF s b' j ∧ s.size ≤ j + b'
  | b, 0, i, j, h, _, hb => by simp only [run] at h; subst h; exact ⟨b, rfl, hb⟩
  | b, c + 1, i, j, h, hj, hb => by
    rcases h with rfl | ⟨h1, h2, h3, h4, h5⟩
    · exact ⟨b, rfl, hb⟩
    · obtain ⟨b', e1, e2⟩ := chkF_step s b i (by omega) hb h2 h3
      obtain ⟨b'', e3, e4⟩ := chkF_of_run s b' c _ j h5 hj e2
      exact ⟨b'', e1.trans e3, e4⟩

/-- Is it a text? -/
def good (s : ByteArray) : Prop := (chk s).2 = 0
theorem good_iff (s : ByteArray) (h : s.size ≤ 65535) : good s ↔ run s s.size 0 s.size := by
  have e : chk s = chkF s s.size 0 := by unfold chk; rw [if_neg (by omega)]
  unfold good
  rw [e]
  constructor
  · intro hg
    exact ((chkF_run s s.size 0 (Nat.zero_le _) (by omega)).1 hg).2
  · intro hr
    obtain ⟨b', e1, e2⟩ := chkF_of_run s s.size s.size 0 s.size hr (Nat.le_refl _) (by omega)
    rw [e1, chkF_end s b' s.size (by omega)]
end Go.Proofs.YtglnldopnoafoaaGreatDoor

namespace Go.Proofs.YtglnldopnoafoaaGreatDoor
set_option linter.unusedSimpArgs false
set_option linter.unusedVariables false

theorem app_data (a b : ByteArray) : (a ++ b).data.toList = a.data.toList ++ b.data.toList := by
  simp
theorem app_size (a b : ByteArray) : (a ++ b).size = a.size + b.size := by simp
theorem ext_size (s : ByteArray) (i j : Nat) (h : j ≤ s.size) : (s.extract i j).size = j - i := by
  rw [ByteArray.size_extract]
  omega
theorem size_len (s : ByteArray) : s.data.toList.length = s.size := by simp
theorem atB_left (a b : ByteArray) (k : Nat) (h : k < a.size) : atB (a ++ b) k = atB a k := by
  rw [atB_list, atB_list, app_data, List.getElem?_append_left (by rw [size_len]; exact h)]
theorem atB_right (a b : ByteArray) (k : Nat) : atB (a ++ b) (a.size + k) = atB b k := by
  rw [atB_list, atB_list, app_data, List.getElem?_append_right (by rw [size_len]; omega), size_len, Nat.add_sub_cancel_left]
theorem atB_ext (s : ByteArray) (i j k : Nat) (h : i + k < j) : atB (s.extract i j) k = atB s (i + k) := by
  rw [atB_list, atB_list, Lib.extract_data, List.getElem?_take_of_lt (by omega), List.getElem?_drop]

theorem good_join (a b : ByteArray) (hab : a.size + b.size ≤ 65535) (h : good a) : good b ↔ good (a ++ b) := by
  have hs := app_size a b
  rw [good_iff b (by omega), good_iff (a ++ b) (by omega), hs]
  have ra := (good_iff a (by omega)).1 h
  have r1 : run (a ++ b) a.size 0 a.size := by
    have := run_local a (a ++ b) 0 a.size 0 a.size ra fun k _ hk => by rw [Nat.zero_add]; exact atB_left a b k hk
    simpa using this
  constructor
  · intro rb
    have r2 : run (a ++ b) b.size (a.size + 0) (a.size + b.size) := run_local b (a ++ b) a.size b.size 0 b.size rb fun k _ _ => atB_right a b k
    exact run_trans (a ++ b) a.size b.size 0 a.size _ r1 r2
  · intro r
    have r2 := run_split (a ++ b) a.size (a.size + b.size) 0 a.size _ r1 r (by omega)
    have r3 : run b (a.size + b.size) 0 b.size := run_back b (a ++ b) a.size _ 0 b.size r2 fun k _ _ => atB_right a b k
    exact run_few b _ _ _ _ r3 (by omega)

theorem good_cut (a : ByteArray) (ha : a.size ≤ 65535) (c : Nat) (hc : c < a.size) (h : good a) (hl : ¬ (0x80 ≤ atB a c ∧ atB a c ≤ 0xBF)) : good (a.extract 0 c) ∧ good (a.extract c a.size) := by
  have ra := (good_iff a (by omega)).1 h
  obtain ⟨r1, r2⟩ := run_cut a a.size 0 a.size c ra (Nat.zero_le _) (by omega) (fun _ => hl)
  have s1 := ext_size a 0 c (by omega)
  have s2 := ext_size a c a.size (Nat.le_refl _)
  constructor
  · rw [good_iff _ (by omega), s1]
    have r3 : run (a.extract 0 c) a.size 0 c := by
      have := run_local a (a.extract 0 c) 0 a.size 0 c r1 fun k _ hk => by rw [Nat.zero_add, atB_ext a 0 c k (by omega), Nat.zero_add]
      simpa using this
    exact run_few _ _ _ _ _ r3 (by omega)
  · rw [good_iff _ (by omega), s2]
    have r3 : run (a.extract c a.size) a.size 0 (a.size - c) := by
      refine run_back (a.extract c a.size) a c a.size 0 (a.size - c) ?_ fun k _ hk => (atB_ext a c a.size k (by omega)).symm
      rw [Nat.add_zero, Nat.add_sub_cancel' (by omega)]
      exact r2
    exact run_few _ _ _ _ _ r3 (by omega)

end Go.Proofs.YtglnldopnoafoaaGreatDoor

namespace Go.Proofs.YtglnldopnoafoaaGreatDoor
open Go
set_option linter.unusedSimpArgs false
set_option linter.unusedVariables false

/-- Does a level hold a sign where none may be? -/
def badL (x : Bs) (more : Bool) : Bool := (decide (43 ∈ x ∨ 35 ∈ x) && decide (1 < x.length)) || (decide (x = [35]) && more)
def anyL : List Bs → Bool
  | [] => false
  | x :: r => badL x (!r.isEmpty) || anyL r
theorem hasS_mem (t : ByteArray) : hasS t = decide (43 ∈ unB t ∨ 35 ∈ unB t) := by
  have h1 := mem_atB t 43
  have h2 := mem_atB t 35
  cases hh : hasS t with
  | true =>
    obtain ⟨i, hi, h⟩ := (hsN_iff t t.size).1 hh
    rw [eq_comm, decide_eq_true_eq]
    rcases h with h | h
    · exact .inl (h1.2 ⟨i, hi, h⟩)
    · exact .inr (h2.2 ⟨i, hi, h⟩)
  | false =>
    rw [eq_comm, decide_eq_false_iff_not]
    rintro (h | h)
    · obtain ⟨i, hi, e⟩ := h1.1 h
      have : hasS t = true := (hsN_iff t t.size).2 ⟨i, hi, .inl e⟩
      rw [hh] at this; cases this
    · obtain ⟨i, hi, e⟩ := h2.1 h
      have : hasS t = true := (hsN_iff t t.size).2 ⟨i, hi, .inr e⟩
      rw [hh] at this; cases this
theorem lvX_bad (t : ByteArray) (more : Bool) : lvX t more = badL (unB t) more := by
  have h : isHash t = decide (unB t = [35]) := by unfold isHash; rw [eq_one]
  rw [lvX, badL, hasS_mem, h, un_size]
theorem lvAny_any : ∀ (l : List ByteArray), lvAny l = anyL (l.map unB)
  | [] => rfl
  | t :: r => by
    have e : (r.map unB).isEmpty = r.isEmpty := by cases r <;> rfl
    simp only [lvAny, List.map_cons, anyL, lvX_bad, e, lvAny_any r]
theorem rfc_split (s : ByteArray) : rfc s = if ct s = 0 then (if anyL (split (unB s)) then 52 else 0) else ct s := by
  rw [rfc, lvAny_any, levels_split]
theorem ct_iff (s : ByteArray) : ct s = 0 ↔ 0 < s.size ∧ txt s = true := by
  unfold ct
  by_cases h : s.size = 0
  · simp [h]
  · rw [if_neg h]
    cases ht : txt s
    · simp
    · simp; omega
theorem rfc_iff (s : ByteArray) : rfc s = 0 ↔ (0 < s.size ∧ txt s = true) ∧ anyL (split (unB s)) = false := by
  rw [rfc_split, ← ct_iff]
  by_cases h : ct s = 0
  · rw [if_pos h]
    cases anyL (split (unB s)) <;> simp [h]
  · rw [if_neg h]; simp [h]
theorem tcode_iff (s : ByteArray) : tcode s = 0 ↔ (0 < s.size ∧ txt s = true) ∧ (¬ 43 ∈ unB s ∧ ¬ 35 ∈ unB s) := by
  rw [tcode, ← ct_iff, sgn_has, hasS_mem]
  by_cases h : ct s = 0
  · rw [if_pos h]
    by_cases h2 : 43 ∈ unB s ∨ 35 ∈ unB s
    · simp only [h2, decide_true, if_true, h, true_and]
      constructor
      · intro e; cases e
      · rintro ⟨a, b⟩; rcases h2 with h2 | h2
        · exact absurd h2 a
        · exact absurd h2 b
    · have h3 : ¬ 43 ∈ unB s ∧ ¬ 35 ∈ unB s := ⟨fun h => h2 (.inl h), fun h => h2 (.inr h)⟩
      simp [h2, h, h3]
  · rw [if_neg h]; simp [h]
/-- Is it a text, from its bytes? -/
def Gd (l : Bs) : Prop := good (mkB l)
theorem mk_size (l : Bs) : (mkB l).size = l.length := by rw [← un_size, un_mk]
theorem un_app (a b : ByteArray) : unB (a ++ b) = unB a ++ unB b := by
  show (a ++ b).data.toList = _
  simp [unB]
theorem mk_append (a b : Bs) : mkB (a ++ b) = mkB a ++ mkB b := un_inj (by rw [un_mk, un_app, un_mk, un_mk])
theorem gd_join (a b : Bs) (hab : a.length + b.length ≤ 65535) (h : Gd a) : Gd b ↔ Gd (a ++ b) := by
  unfold Gd
  rw [mk_append]
  exact good_join _ _ (by rw [mk_size, mk_size]; exact hab) h
theorem gd_cut (a b : Bs) (c : UInt8) (hc : c.toNat < 128) (hl : (a ++ c :: b).length ≤ 65535) (h : Gd (a ++ c :: b)) : Gd a ∧ Gd (c :: b) := by
  have hs : a.length < (mkB (a ++ c :: b)).size := by rw [mk_size]; simp
  have hat : atB (mkB (a ++ c :: b)) a.length = c.toNat := by rw [atB_un, un_mk]; simp
  have := good_cut (mkB (a ++ c :: b)) (by rw [mk_size]; exact hl) a.length hs h (by rw [hat]; omega)
  have e1 : (mkB (a ++ c :: b)).extract 0 a.length = mkB a := un_inj (by rw [un_extract, un_mk, un_mk]; simp)
  have e2 : (mkB (a ++ c :: b)).extract a.length (mkB (a ++ c :: b)).size = mkB (c :: b) := un_inj (by rw [un_extract, un_mk, un_mk, mk_size, List.take_of_length_le (Nat.le_refl _)]; simp)
  rw [e1, e2] at this
  exact this
theorem gd_slash : Gd [47] := by unfold Gd good; kernel_rfl
theorem gd_levels : ∀ (l : List Bs), l ≠ [] → (joinL l).length ≤ 65535 → (Gd (joinL l) ↔ ∀ x ∈ l, Gd x)
  | [], h, _ => absurd rfl h
  | [x], _, _ => by simp [joinL]
  | x :: y :: r, _, hl => by
    simp only [joinL] at hl ⊢
    have hl' : (joinL (y :: r)).length ≤ 65535 := by simp only [List.length_append, List.length_cons] at hl; omega
    have hx : x.length ≤ 65535 := by simp only [List.length_append, List.length_cons] at hl; omega
    have hj : (47 :: joinL (y :: r)).length ≤ 65535 := by simp only [List.length_append, List.length_cons] at hl ⊢; omega
    have ih := gd_levels (y :: r) (by simp) hl'
    have hs : Gd (joinL (y :: r)) ↔ Gd (47 :: joinL (y :: r)) := gd_join [47] _ (by simp only [List.length_append, List.length_cons] at hl hl' ⊢; simp; omega) gd_slash
    constructor
    · intro h
      obtain ⟨h1, h2⟩ := gd_cut x _ 47 (by decide) hl h
      intro z hz
      rcases List.mem_cons.1 hz with rfl | hz
      · exact h1
      · exact ih.1 (hs.2 h2) z hz
    · intro h
      exact (gd_join x _ (by simp only [List.length_append, List.length_cons] at hl ⊢; omega) (h x List.mem_cons_self)).1 (hs.1 (ih.2 (fun z hz => h z (List.mem_cons_of_mem _ hz))))
theorem txt_gd (s : ByteArray) : txt s = true ↔ Gd (unB s) := by
  unfold Gd good txt
  rw [mk_un]; simp
end Go.Proofs.YtglnldopnoafoaaGreatDoor

namespace Go.Proofs.YtglnldopnoafoaaGreatDoor
open Go
set_option linter.unusedSimpArgs false
set_option linter.unusedVariables false

/-- Is a level a sign? -/
def sgB (x : Bs) : Bool := decide (x = [43]) || decide (x = [35])
theorem sgB_iff (x : Bs) : sgB x = true ↔ x = [43] ∨ x = [35] := by simp [sgB]
theorem sgB_no (x : Bs) : sgB x = false ↔ ¬ x = [43] ∧ ¬ x = [35] := by simp [sgB]
def mayE : List Bs → Bool
  | [] => true
  | x :: _ => decide (x = [35])
def behL : List Bs → List Bs
  | [] => []
  | x :: r => if x = [35] then x :: r else r
theorem beh_cons (x : Bs) (r : List Bs) : behL (x :: r) = if x = [35] then x :: r else r := rfl
def comL (a b : Bs) : Option Bs := if sgB a && sgB b then some [] else if sgB a then some b else if sgB b || decide (a = b) then some a else none
/-- The levels that both have. -/
def com : Nat → List Bs → List Bs → Option (List Bs)
  | 0, _, _ => none
  | n + 1, f, g => if mayE f && mayE g then some [] else
    match f, g with
    | [], _ => none
    | _ :: _, [] => none
    | a :: r, b :: s =>
      match comL a b with
      | none => none
      | some l => (com n (behL (a :: r)) (behL (b :: s))).map (l :: ·)
/-- Levels of a filter. -/
def Fil : List Bs → Prop
  | [] => True
  | x :: r => (x = [35] → r = []) ∧ (43 ∈ x ∨ 35 ∈ x → sgB x = true) ∧ Fil r
theorem fil_any : ∀ (l : List Bs), anyL l = false → Fil l
  | [], _ => trivial
  | x :: r, h => by
    simp only [anyL, Bool.or_eq_false_iff] at h
    refine ⟨fun e => ?_, fun hs => ?_, fil_any r h.2⟩
    · have := h.1
      simp only [badL, e, decide_true, Bool.true_and, Bool.or_eq_false_iff] at this
      cases r with
      | nil => rfl
      | cons a b => simp at this
    · have := h.1
      simp only [badL, hs, decide_true, Bool.true_and, Bool.or_eq_false_iff, decide_eq_false_iff_not] at this
      have hl := this.1
      match x, hs, hl with
      | [], hs, _ => simp at hs
      | [c], hs, _ =>
        simp only [List.mem_cons, List.not_mem_nil, or_false] at hs
        rw [sgB_iff]
        rcases hs with e | e
        · left; rw [e]
        · right; rw [e]
      | c :: d :: t, _, hl => simp at hl
theorem fil_plain {x : Bs} {r : List Bs} (h : Fil (x :: r)) (hx : sgB x = false) : ¬ 43 ∈ x ∧ ¬ 35 ∈ x := by
  constructor
  · intro hm; have := h.2.1 (.inl hm); rw [hx] at this; cases this
  · intro hm; have := h.2.1 (.inr hm); rw [hx] at this; cases this

theorem mt_beh {a : Bs} {r : List Bs} {x : Bs} {xs : List Bs} (h : mt (a :: r) (x :: xs) = true) : mt (behL (a :: r)) xs = true ∧ (sgB a = true ∨ a = x) := by
  rw [beh_cons]
  by_cases ha : a = [35]
  · rw [if_pos ha]
    exact ⟨by simp [mt, ha], .inl ((sgB_iff a).2 (.inr ha))⟩
  · rw [if_neg ha]
    simp only [mt, ha, if_false] at h
    split at h
    · cases h
    · rename_i hn
      refine ⟨h, ?_⟩
      by_cases hp : a = [43]
      · exact .inl ((sgB_iff a).2 (.inl hp))
      · right
        apply Classical.byContradiction
        intro hx
        exact hn ⟨hp, hx⟩
/-- One list of levels is level for level no longer than the other. -/
def Sh : List Bs → List Bs → Prop
  | [], _ => True
  | _ :: _, [] => False
  | x :: t, y :: u => x.length ≤ y.length ∧ Sh t u
theorem sh_join : ∀ (t u : List Bs), Sh t u → (joinL t).length ≤ (joinL u).length
  | [], _, _ => by simp [joinL]
  | _ :: _, [], h => h.elim
  | [x], [y], h => h.1
  | [x], y :: z :: r, h => by
    simp only [joinL, List.length_append, List.length_cons]; have := h.1; omega
  | x :: y :: t, [z], h => h.2.elim
  | x :: y :: t, z :: v :: u, h => by
    have := sh_join (y :: t) (v :: u) h.2
    have := h.1
    simp only [joinL, List.length_append, List.length_cons] at *; omega
theorem mt_cons {a : Bs} {r : List Bs} {l : Bs} {t : List Bs} (h : mt (behL (a :: r)) t = true) (hl : sgB a = true ∨ a = l) : mt (a :: r) (l :: t) = true := by
  rw [beh_cons] at h
  by_cases ha : a = [35]
  · simp [mt, ha]
  · rw [if_neg ha] at h
    simp only [mt, ha, if_false]
    rw [if_neg ?_]
    · exact h
    · rintro ⟨h1, h2⟩
      rcases hl with hl | hl
      · rcases (sgB_iff a).1 hl with e | e
        · exact h1 e
        · exact ha e
      · exact h2 hl
/-- How much room levels take. -/
def tot : List Bs → Nat
  | [] => 0
  | x :: r => x.length + 1 + tot r
theorem join_tot : ∀ (l : List Bs), (joinL l).length ≤ tot l
  | [] => by simp [joinL]
  | [x] => by simp [joinL, tot]
  | x :: y :: r => by
    have := join_tot (y :: r)
    simp only [joinL, tot, List.length_append, List.length_cons] at *; omega
/-- A level in a sign's place. -/
def fillB (x : Bs) : Bs := if sgB x then [97] else x
def lvlB (a b : Bs) : Bs × Bool := if sgB b then (fillB a, false) else if sgB a && decide (b = [97]) then ([98], true) else (fillB a, decide (fillB a ≠ b))
/-- Levels that the first match and the second don't. -/
def bey : List Bs → List Bs → Option (List Bs)
  | [], [] => none
  | a :: r, [] => some ((a :: r).map fillB)
  | [], b :: s => if b = [35] then none else some []
  | a :: r, b :: s => if b = [35] then none else if a = [35] then some [] else
    if (lvlB a b).2 then some ((lvlB a b).1 :: r.map fillB) else (bey r s).map ((lvlB a b).1 :: ·)
theorem fill_len (x : Bs) : (fillB x).length = x.length := by
  unfold fillB
  split
  · rename_i h
    rcases (sgB_iff x).1 h with e | e <;> simp [e]
  · rfl
theorem lvlB_len (a b : Bs) : (lvlB a b).1.length = a.length := by
  unfold lvlB
  split
  · exact fill_len a
  · split
    · rename_i h
      simp only [Bool.and_eq_true] at h
      rcases (sgB_iff a).1 h.1 with e | e <;> simp [e]
    · exact fill_len a
theorem lvlB_goes (a b : Bs) : sgB a = true ∨ (lvlB a b).1 = a := by
  by_cases h : sgB a = true
  · exact .inl h
  · right
    unfold lvlB
    have e : fillB a = a := by simp [fillB, h]
    rw [e]
    split
    · rfl
    · simp [h]
theorem sh_fill : ∀ (l : List Bs), Sh (l.map fillB) l
  | [] => trivial
  | x :: r => ⟨by rw [fill_len]; exact Nat.le_refl _, sh_fill r⟩
theorem mt_fill : ∀ (l : List Bs), mt l (l.map fillB) = true
  | [] => rfl
  | x :: r => by
    simp only [List.map_cons, mt]
    split
    · rfl
    · rw [if_neg ?_]
      · exact mt_fill r
      · rintro ⟨h1, h2⟩
        rename_i h3
        apply h2
        have : sgB x = false := (sgB_no x).2 ⟨h1, h3⟩
        simp [fillB, this]
theorem bey_right : ∀ (f g t : List Bs), bey f g = some t → mt f t = true ∧ mt g t = false ∧ Sh t f
  | [], [], t, h => by simp [bey] at h
  | a :: r, [], t, h => by
    simp only [bey, Option.some.injEq] at h
    subst h
    exact ⟨mt_fill _, by simp [mt], sh_fill _⟩
  | [], b :: s, t, h => by
    unfold bey at h
    split at h
    · cases h
    · rename_i hb
      simp only [Option.some.injEq] at h; subst h
      exact ⟨rfl, by simp [mt, hb], trivial⟩
  | a :: r, b :: s, t, h => by
    unfold bey at h
    split at h
    · cases h
    · rename_i hb
      split at h
      · rename_i ha
        simp only [Option.some.injEq] at h; subst h
        exact ⟨by simp [mt, ha], by simp [mt, hb], trivial⟩
      · rename_i ha
        have hg := lvlB_goes a b
        have hl := lvlB_len a b
        split at h
        · rename_i hp
          simp only [Option.some.injEq] at h; subst h
          refine ⟨mt_cons (by rw [beh_cons, if_neg ha]; exact mt_fill r) (by rcases hg with e | e; exact .inl e; exact .inr e.symm), ?_, by rw [hl]; exact Nat.le_refl _, sh_fill r⟩
          unfold lvlB at hp ⊢
          by_cases sb : sgB b = true
          · simp [sb] at hp
          · have sb' := (sgB_no b).1 (by simpa using sb)
            by_cases hh : (sgB a && decide (b = [97])) = true
            · simp only [sb, hh, if_true, Bool.false_eq_true, if_false, mt, hb]
              simp only [Bool.and_eq_true, decide_eq_true_eq] at hh
              simp [hh.2]
            · simp only [sb, hh, Bool.false_eq_true, if_false, decide_eq_true_eq] at hp ⊢
              simp only [mt, hb, if_false]
              rw [if_pos ⟨sb'.1, fun e => hp e.symm⟩]
        · rename_i hp
          cases e : bey r s with
          | none => rw [e] at h; cases h
          | some u =>
            rw [e] at h
            simp only [Option.map_some, Option.some.injEq] at h; subst h
            obtain ⟨h1, h2, h3⟩ := bey_right r s u e
            refine ⟨mt_cons (by rw [beh_cons, if_neg ha]; exact h1) (by rcases hg with e | e; exact .inl e; exact .inr e.symm), ?_, by rw [hl]; exact Nat.le_refl _, h3⟩
            simp only [mt, hb, if_false]
            split
            · rfl
            · exact h2
theorem bey_full : ∀ (f g T : List Bs), mt f T = true → mt g T = false → ∃ t, bey f g = some t
  | [], [], T, hf, hg => by rw [hf] at hg; cases hg
  | a :: r, [], T, _, _ => ⟨_, rfl⟩
  | [], b :: s, T, hf, hg => by
    unfold bey
    have : ¬ b = [35] := fun e => by simp [mt, e] at hg
    rw [if_neg this]; exact ⟨_, rfl⟩
  | a :: r, b :: s, T, hf, hg => by
    unfold bey
    have hb : ¬ b = [35] := fun e => by simp [mt, e] at hg
    rw [if_neg hb]
    split
    · exact ⟨_, rfl⟩
    · rename_i ha
      split
      · exact ⟨_, rfl⟩
      · rename_i hp
        cases T with
        | nil => simp [mt, ha] at hf
        | cons x xs =>
          obtain ⟨h1, h2⟩ := mt_beh hf
          rw [beh_cons, if_neg ha] at h1
          have h3 : mt s xs = false := by
            apply Bool.eq_false_iff.2
            intro hs
            have : mt (b :: s) (x :: xs) = true := by
              refine mt_cons (by rw [beh_cons, if_neg hb]; exact hs) ?_
              unfold lvlB at hp
              by_cases sb : sgB b = true
              · exact .inl sb
              · right
                by_cases hh : (sgB a && decide (b = [97])) = true
                · simp [sb, hh] at hp
                · simp only [sb, hh, Bool.false_eq_true, if_false, decide_eq_true_eq, Classical.not_not] at hp
                  by_cases sa : sgB a = true
                  · have : fillB a = [97] := by simp [fillB, sa]
                    rw [this] at hp
                    exact absurd (by simp [sa, hp]) hh
                  · have : fillB a = a := by simp [fillB, sa]
                    rw [this] at hp
                    rcases h2 with h2 | h2
                    · exact absurd h2 sa
                    · rw [← hp, h2]
            rw [this] at hg; cases hg
          obtain ⟨t, e⟩ := bey_full r s xs h1 h3
          rw [e]; exact ⟨_, rfl⟩
theorem bey_all (Q : Bs → Prop) (h1 : Q [97]) (h2 : Q [98]) : ∀ (f g t : List Bs), bey f g = some t → (∀ x ∈ f, sgB x = false → Q x) → ∀ x ∈ t, Q x := by
  have hF : ∀ (f : List Bs), (∀ x ∈ f, sgB x = false → Q x) → ∀ x ∈ f.map fillB, Q x := by
    intro f hf x hx
    obtain ⟨y, hy, rfl⟩ := List.mem_map.1 hx
    unfold fillB
    split
    · exact h1
    · rename_i h
      exact hf y hy (by simpa using h)
  have hL : ∀ a b, (sgB a = false → Q a) → Q (lvlB a b).1 := by
    intro a b ha
    have hf : Q (fillB a) := by
      unfold fillB
      split
      · exact h1
      · rename_i h
        exact ha (by simpa using h)
    unfold lvlB
    split
    · exact hf
    · split
      · exact h2
      · exact hf
  intro f
  induction f with
  | nil =>
    intro g t h _
    cases g with
    | nil => simp [bey] at h
    | cons b s =>
      unfold bey at h
      split at h
      · cases h
      · simp only [Option.some.injEq] at h; subst h
        intro x hx; cases hx
  | cons a r ih =>
    intro g t h hf
    cases g with
    | nil =>
      simp only [bey, Option.some.injEq] at h; subst h
      exact hF _ hf
    | cons b s =>
      unfold bey at h
      split at h
      · cases h
      · split at h
        · simp only [Option.some.injEq] at h; subst h
          intro x hx; cases hx
        · have hr : ∀ x ∈ r, sgB x = false → Q x := fun x hx => hf x (List.mem_cons_of_mem _ hx)
          have ha := hL a b (hf a List.mem_cons_self)
          split at h
          · simp only [Option.some.injEq] at h; subst h
            intro x hx
            rcases List.mem_cons.1 hx with rfl | hx
            · exact ha
            · exact hF r hr x hx
          · cases e : bey r s with
            | none => rw [e] at h; cases h
            | some u =>
              rw [e] at h
              simp only [Option.map_some, Option.some.injEq] at h; subst h
              intro x hx
              rcases List.mem_cons.1 hx with rfl | hx
              · exact ha
              · exact ih s u e hr x hx
end Go.Proofs.YtglnldopnoafoaaGreatDoor

namespace Go.Proofs.YtglnldopnoafoaaGreatDoor
open Go Go.RowKit
set_option linter.unusedSimpArgs false
set_option linter.unusedVariables false

theorem mch_iff (f t : ByteArray) : mch f t = true ↔ rfc f = 0 ∧ tcode t = 0 ∧ ¬ (atB t 0 = 36 ∧ hd0 (split (unB f)) = true) ∧ mt (split (unB f)) (split (unB t)) = true := by
  simp only [mch, Bool.and_eq_true, decide_eq_true_eq, Bool.not_eq_true', Bool.and_eq_false_iff, decide_eq_false_iff_not, not_and, Bool.not_eq_true]
  constructor
  · rintro ⟨⟨⟨a, b⟩, c⟩, d⟩
    refine ⟨a, b, fun h => ?_, d⟩
    rcases c with c | c
    · exact absurd h c
    · exact c
  · rintro ⟨a, b, c, d⟩
    refine ⟨⟨⟨a, b⟩, ?_⟩, d⟩
    by_cases h : atB t 0 = 36
    · exact .inr (c h)
    · exact .inl h
end Go.Proofs.YtglnldopnoafoaaGreatDoor

