import Derived.Test.YtglnldopnoafoaaChk
namespace Go.Proofs.Ytglnldopnoafoaa
set_option linter.unusedSimpArgs false
set_option linter.unusedVariables false

/-- From a place code points lead to another one, none of them a zero. -/
def run (s : ByteArray) : Nat → Nat → Nat → Prop
  | 0, i, j => i = j
  | b + 1, i, j => i = j ∨ (i < j ∧ atB s i ≠ 0 ∧ point s i ≠ 0 ∧ i + point s i ≤ j ∧ run s b (i + point s i) j)

theorem point_le4 (s : ByteArray) (i : Nat) : point s i ≤ 4 := by
  unfold point pt
  split
  · omega
  split
  · omega
  split
  · omega
  split <;> omega

/-- The code point hangs on its own bytes alone. -/
theorem point_local (s t : ByteArray) (i i' : Nat) (h0 : point s i ≠ 0) (h : ∀ k, k < point s i → atB t (i' + k) = atB s (i + k)) : point t i' = point s i := by
  have a0 := h 0
  have a1 := h 1
  have a2 := h 2
  have a3 := h 3
  clear h
  unfold point at *
  simp only [Nat.add_zero] at a0
  generalize atB s i = c at *
  generalize atB s (i + 1) = d at *
  generalize atB s (i + 2) = e at *
  generalize atB s (i + 3) = f at *
  generalize atB t i' = c' at *
  generalize atB t (i' + 1) = d' at *
  generalize atB t (i' + 2) = e' at *
  generalize atB t (i' + 3) = f' at *
  obtain rfl := a0 (by omega)
  by_cases k1 : c' ≤ 0x7F
  · simp [pt, k1]
  by_cases k2 : (0xC2 ≤ c' ∧ c' ≤ 0xDF) ∧ (0x80 ≤ d ∧ d ≤ 0xBF)
  · have e2 : pt c' d e f = 2 := by unfold pt; rw [if_neg k1, if_pos k2]
    rw [e2] at a1 ⊢
    obtain rfl := a1 (by omega)
    unfold pt
    rw [if_neg k1, if_pos k2]
  by_cases k3 : (c' = 0xE0 ∧ (0xA0 ≤ d ∧ d ≤ 0xBF) ∧ (0x80 ≤ e ∧ e ≤ 0xBF)) ∨ ((0xE1 ≤ c' ∧ c' ≤ 0xEC) ∧ (0x80 ≤ d ∧ d ≤ 0xBF) ∧ (0x80 ≤ e ∧ e ≤ 0xBF)) ∨ (c' = 0xED ∧ (0x80 ≤ d ∧ d ≤ 0x9F) ∧ (0x80 ≤ e ∧ e ≤ 0xBF)) ∨ ((0xEE ≤ c' ∧ c' ≤ 0xEF) ∧ (0x80 ≤ d ∧ d ≤ 0xBF) ∧ (0x80 ≤ e ∧ e ≤ 0xBF))
  · have e3 : pt c' d e f = 3 := by unfold pt; rw [if_neg k1, if_neg k2, if_pos k3]
    rw [e3] at a1 a2 ⊢
    obtain rfl := a1 (by omega)
    obtain rfl := a2 (by omega)
    unfold pt
    rw [if_neg k1, if_neg k2, if_pos k3]
  by_cases k4 : (c' = 0xF0 ∧ (0x90 ≤ d ∧ d ≤ 0xBF) ∧ (0x80 ≤ e ∧ e ≤ 0xBF) ∧ (0x80 ≤ f ∧ f ≤ 0xBF)) ∨ ((0xF1 ≤ c' ∧ c' ≤ 0xF3) ∧ (0x80 ≤ d ∧ d ≤ 0xBF) ∧ (0x80 ≤ e ∧ e ≤ 0xBF) ∧ (0x80 ≤ f ∧ f ≤ 0xBF)) ∨ (c' = 0xF4 ∧ (0x80 ≤ d ∧ d ≤ 0x8F) ∧ (0x80 ≤ e ∧ e ≤ 0xBF) ∧ (0x80 ≤ f ∧ f ≤ 0xBF))
  · have e4 : pt c' d e f = 4 := by unfold pt; rw [if_neg k1, if_neg k2, if_neg k3, if_pos k4]
    rw [e4] at a1 a2 a3 ⊢
    obtain rfl := a1 (by omega)
    obtain rfl := a2 (by omega)
    obtain rfl := a3 (by omega)
    unfold pt
    rw [if_neg k1, if_neg k2, if_neg k3, if_pos k4]
  · exact absurd (by unfold pt; rw [if_neg k1, if_neg k2, if_neg k3, if_neg k4]) h0

/-- Behind a code point's first byte stand bytes that go on with it. -/
theorem point_tail (s : ByteArray) (i k : Nat) (hk : 0 < k) (h : k < point s i) : 0x80 ≤ atB s (i + k) ∧ atB s (i + k) ≤ 0xBF := by
  unfold point pt at h
  split at h
  · omega
  split at h
  · rename_i q
    obtain rfl : k = 1 := by omega
    exact q.2
  split at h
  · rename_i q
    rcases (show k = 1 ∨ k = 2 by omega) with rfl | rfl <;> omega
  split at h
  · rename_i q
    rcases (show k = 1 ∨ k = 2 ∨ k = 3 by omega) with rfl | rfl | rfl <;> omega
  · omega

theorem run_refl (s : ByteArray) (b i : Nat) : run s b i i := by
  cases b with
  | zero => rfl
  | succ b => exact .inl rfl
theorem run_le (s : ByteArray) : ∀ b i j, run s b i j → i ≤ j
  | 0, i, j, h => by simp only [run] at h; omega
  | b + 1, i, j, h => by
    rcases h with rfl | ⟨h, _⟩ <;> omega
theorem run_more (s : ByteArray) : ∀ b b' i j, run s b i j → b ≤ b' → run s b' i j
  | 0, b', i, j, h, _ => by simp only [run] at h; subst h; exact run_refl _ _ _
  | b + 1, 0, i, j, h, hb => by omega
  | b + 1, b' + 1, i, j, h, hb => by
    rcases h with rfl | ⟨h1, h2, h3, h4, h5⟩
    · exact .inl rfl
    · exact .inr ⟨h1, h2, h3, h4, run_more s b b' _ _ h5 (by omega)⟩
/-- As many steps as places are enough. -/
theorem run_few (s : ByteArray) : ∀ b c i j, run s b i j → j ≤ i + c → run s c i j
  | 0, c, i, j, h, _ => by simp only [run] at h; subst h; exact run_refl _ _ _
  | b + 1, 0, i, j, h, hc => by
    have := run_le s _ _ _ h
    obtain rfl : i = j := by omega
    rfl
  | b + 1, c + 1, i, j, h, hc => by
    rcases h with rfl | ⟨h1, h2, h3, h4, h5⟩
    · exact .inl rfl
    · exact .inr ⟨h1, h2, h3, h4, run_few s b c _ _ h5 (by omega)⟩
theorem run_trans (s : ByteArray) : ∀ b c i j k, run s b i j → run s c j k → run s (b + c) i k
  | 0, c, i, j, k, h, h' => by simp only [run] at h; subst h; rw [Nat.zero_add]; exact h'
  | b + 1, c, i, j, k, h, h' => by
    rcases h with rfl | ⟨h1, h2, h3, h4, h5⟩
    · exact run_more s _ _ _ _ h' (by omega)
    · have hjk := run_le s _ _ _ h'
      rw [Nat.add_right_comm]
      exact .inr ⟨by omega, h2, h3, by omega, run_trans s b c _ _ _ h5 h'⟩
theorem run_split (s : ByteArray) : ∀ b c i j k, run s b i j → run s c i k → j ≤ k → run s c j k
  | 0, c, i, j, k, h, h', _ => by simp only [run] at h; subst h; exact h'
  | b + 1, c, i, j, k, h, h', hjk => by
    rcases h with rfl | ⟨h1, h2, h3, h4, h5⟩
    · exact h'
    · cases c with
      | zero => simp only [run] at h'; omega
      | succ c =>
        rcases h' with rfl | ⟨_, _, _, _, h6⟩
        · omega
        · exact run_more s _ _ _ _ (run_split s b c _ _ _ h5 h6 hjk) (by omega)
/-- Where a byte doesn't go on with a code point, one begins. -/
theorem run_cut (s : ByteArray) : ∀ b i j c, run s b i j → i ≤ c → c ≤ j → (c < j → ¬ (0x80 ≤ atB s c ∧ atB s c ≤ 0xBF)) → run s b i c ∧ run s b c j
  | 0, i, j, c, h, h1, h2, _ => by
    simp only [run] at h ⊢
    omega
  | b + 1, i, j, c, h, h1, h2, hc => by
    by_cases e : c = i
    · subst e
      exact ⟨run_refl _ _ _, h⟩
    · rcases h with rfl | ⟨g1, g2, g3, g4, g5⟩
      · omega
      · by_cases hp : c < i + point s i
        · have ht := point_tail s i (c - i) (by omega) (by omega)
          rw [Nat.add_sub_cancel' h1] at ht
          exact absurd ht (hc (by omega))
        · obtain ⟨r1, r2⟩ := run_cut s b (i + point s i) j c g5 (by omega) h2 hc
          exact ⟨.inr ⟨by omega, g2, g3, by omega, r1⟩, run_more s _ _ _ _ r2 (by omega)⟩
/-- It hangs on the bytes between alone. -/
theorem run_local (s t : ByteArray) (o : Nat) : ∀ b i j, run s b i j → (∀ k, i ≤ k → k < j → atB t (o + k) = atB s k) → run t b (o + i) (o + j)
  | 0, i, j, h, _ => by simp only [run] at h ⊢; omega
  | b + 1, i, j, h, ha => by
    rcases h with rfl | ⟨h1, h2, h3, h4, h5⟩
    · exact .inl rfl
    · have hp : point t (o + i) = point s i := point_local s t i (o + i) h3 fun k hk => by
        rw [Nat.add_assoc]
        exact ha (i + k) (by omega) (by omega)
      have h0 := ha i (Nat.le_refl _) h1
      refine .inr ⟨by omega, by rw [h0]; exact h2, by rw [hp]; exact h3, by rw [hp]; omega, ?_⟩
      rw [hp, Nat.add_assoc]
      exact run_local s t o b _ _ h5 fun k hk hk' => ha k (by omega) hk'
theorem run_back (s t : ByteArray) (o : Nat) : ∀ b i j, run t b (o + i) (o + j) → (∀ k, i ≤ k → k < j → atB t (o + k) = atB s k) → run s b i j
  | 0, i, j, h, _ => by simp only [run] at h ⊢; omega
  | b + 1, i, j, h, ha => by
    rcases h with h | ⟨h1, h2, h3, h4, h5⟩
    · exact .inl (by omega)
    · have hp : point s i = point t (o + i) := point_local t s (o + i) i h3 fun k hk => by
        have := ha (i + k) (by omega) (by omega)
        rw [Nat.add_assoc]
        exact this.symm
      have h0 := ha i (Nat.le_refl _) (by omega)
      refine .inr ⟨by omega, by rw [← h0]; exact h2, by rw [hp]; exact h3, by omega, ?_⟩
      rw [← hp, Nat.add_assoc] at h5
      exact run_back s t o b _ _ h5 fun k hk hk' => ha k (by omega) hk'

/-- What Check tells, by runs. -/
theorem chkF_run (s : ByteArray) : ∀ b i, i ≤ s.size → s.size ≤ i + b → ((chkF s b i).2 = 0 → (chkF s b i).1 = 0 ∧ run s b i s.size) ∧
    ((chkF s b i).2 ≠ 0 → run s b i (chkF s b i).1 ∧ (chkF s b i).1 < s.size ∧ ((atB s (chkF s b i).1 = 0 ∧ (chkF s b i).2 = 14) ∨ (atB s (chkF s b i).1 ≠ 0 ∧ point s (chkF s b i).1 = 0 ∧ (chkF s b i).2 = 13)))
  | 0, i, h1, h2 => by
    obtain rfl : i = s.size := by omega
    simp [chkF, run]
  | b + 1, i, h1, h2 => by
    by_cases hi : i < s.size
    · by_cases hz : atB s i = 0
      · rw [chkF_zero s (b + 1) i hi h2 hz]
        exact ⟨fun h => by simp at h, fun _ => ⟨run_refl _ _ _, hi, .inl ⟨hz, rfl⟩⟩⟩
      · by_cases hp : point s i = 0
        · rw [chkF_utf s (b + 1) i hi h2 hz hp]
          exact ⟨fun h => by simp at h, fun _ => ⟨run_refl _ _ _, hi, .inr ⟨hz, hp, rfl⟩⟩⟩
        · have e : chkF s (b + 1) i = chkF s b (i + point s i) := by simp [chkF, hi, hz, hp]
          have hle := point_le s i hi
          obtain ⟨r1, r2⟩ := chkF_run s b (i + point s i) hle (by omega)
          rw [e]
          constructor
          · intro h
            obtain ⟨q1, q2⟩ := r1 h
            exact ⟨q1, .inr ⟨hi, hz, hp, hle, q2⟩⟩
          · intro h
            obtain ⟨q1, q2, q3⟩ := r2 h
            have := run_le s _ _ _ q1
            exact ⟨.inr ⟨by omega, hz, hp, this, q1⟩, q2, q3⟩
    · rw [chkF_end s (b + 1) i hi]
      obtain rfl : i = s.size := by omega
      exact ⟨fun _ => ⟨rfl, run_refl _ _ _⟩, fun h => absurd rfl h⟩
theorem chkF_of_run (s : ByteArray) : ∀ b c i j, run s c i j → j ≤ s.size → s.size ≤ i + b → ∃ b', chkF s b i = chkF s b' j ∧ s.size ≤ j + b'
  | b, 0, i, j, h, _, hb => by simp only [run] at h; subst h; exact ⟨b, rfl, hb⟩
  | b, c + 1, i, j, h, hj, hb => by
    rcases h with rfl | ⟨h1, h2, h3, h4, h5⟩
    · exact ⟨b, rfl, hb⟩
    · obtain ⟨b', e1, e2⟩ := chkF_step s b i (by omega) hb h2 h3
      obtain ⟨b'', e3, e4⟩ := chkF_of_run s b' c _ j h5 hj e2
      exact ⟨b'', e1.trans e3, e4⟩

/-- Is it a text? -/
def good (s : ByteArray) : Prop := (chk s).2 = 0
theorem good_iff (s : ByteArray) (h : s.size ≤ 65535) : good s ↔ run s s.size 0 s.size := by
  have e : chk s = chkF s s.size 0 := by unfold chk; rw [if_neg (by omega)]
  unfold good
  rw [e]
  constructor
  · intro hg
    exact ((chkF_run s s.size 0 (Nat.zero_le _) (by omega)).1 hg).2
  · intro hr
    obtain ⟨b', e1, e2⟩ := chkF_of_run s s.size s.size 0 s.size hr (Nat.le_refl _) (by omega)
    rw [e1, chkF_end s b' s.size (by omega)]
theorem good_at (s : ByteArray) (h : s.size ≤ 65535) (hg : good s) : (chk s).1 = 0 := by
  have e : chk s = chkF s s.size 0 := by unfold chk; rw [if_neg (by omega)]
  unfold good at hg
  rw [e] at hg ⊢
  exact ((chkF_run s s.size 0 (Nat.zero_le _) (by omega)).1 hg).1
theorem bad_at (s : ByteArray) (h : s.size ≤ 65535) (hg : ¬ good s) : run s s.size 0 (chk s).1 ∧ (chk s).1 < s.size ∧ ((atB s (chk s).1 = 0 ∧ (chk s).2 = 14) ∨ (atB s (chk s).1 ≠ 0 ∧ point s (chk s).1 = 0 ∧ (chk s).2 = 13)) := by
  have e : chk s = chkF s s.size 0 := by unfold chk; rw [if_neg (by omega)]
  unfold good at hg
  rw [e] at hg ⊢
  exact (chkF_run s s.size 0 (Nat.zero_le _) (by omega)).2 hg
theorem chk_bad_of (s : ByteArray) (h : s.size ≤ 65535) (c p : Nat) (hr : run s c 0 p) (hp : p < s.size) (hz : atB s p = 0 ∨ point s p = 0) : chk s = (p, if atB s p = 0 then 14 else 13) := by
  have e : chk s = chkF s s.size 0 := by unfold chk; rw [if_neg (by omega)]
  obtain ⟨b', e1, e2⟩ := chkF_of_run s s.size c 0 p hr (by omega) (by omega)
  rw [e, e1]
  by_cases h0 : atB s p = 0
  · rw [chkF_zero s b' p hp e2 h0, if_pos h0]
  · rw [chkF_utf s b' p hp e2 h0 (hz.resolve_left h0), if_neg h0]
end Go.Proofs.Ytglnldopnoafoaa
