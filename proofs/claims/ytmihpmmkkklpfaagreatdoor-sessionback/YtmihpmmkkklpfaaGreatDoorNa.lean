import Derived.Lib.TrailingZeros
import Derived.Laws.BitsAllLaws
namespace Go.Proofs.YtmihpmmkkklpfaaGreatDoor
open Go
set_option linter.unusedSimpArgs false
set_option linter.unusedVariables false

/-! ### Numbers, a bit each -/
/-- The order in which numbers are sought behind the last one given. -/
def rank (last j : Nat) : Nat := if last < j then j - last else j + 65535 - last
/-- The first number above the last one that is free. -/
def Abv (T : Nat → Bool) (last id : Nat) : Prop := 1 ≤ id ∧ id ≤ 65535 ∧ T id = false ∧ ∀ j, 1 ≤ j → j ≤ 65535 → rank last j < rank last id → T j = true
theorem Abv.uniq {T : Nat → Bool} {last a b : Nat} (hl : last ≤ 65535) (h : Abv T last a) (k : Abv T last b) : a = b := by
  obtain ⟨h1, h2, h3, h4⟩ := h
  obtain ⟨k1, k2, k3, k4⟩ := k
  rcases Nat.lt_trichotomy (rank last a) (rank last b) with q | q | q
  · rw [k4 a h1 h2 q] at h3; cases h3
  · unfold rank at q
    split at q <;> split at q <;> omega
  · rw [h4 b k1 k2 q] at k3; cases k3
/-- The words that hold a set. -/
def WB (W : Nat → Nat) (T : Nat → Bool) : Prop := ∀ k, W k < 18446744073709551616 ∧ ∀ i, i < 64 → (W k).testBit i = T (64 * k + i)
def fill (W : Nat) (m : Nat) (a b : Bool) : Nat :=
  let f := 18446744073709551615 - W
  let g := if a then f &&& (18446744073709551615 - (2 ^ m ||| (2 ^ m - 1))) else f
  if b then g &&& 18446744073709551614 else g
theorem comp_bit (x i : Nat) (hx : x < 18446744073709551616) : (18446744073709551615 - x).testBit i = (decide (i < 64) && !x.testBit i) := by
  have := Nat.testBit_two_pow_sub_succ (x := x) (n := 64) (by simpa using hx) i
  rw [← this]
  congr 1
  omega
theorem upto_bit (m i : Nat) : (2 ^ m ||| (2 ^ m - 1)).testBit i = decide (i ≤ m) := by
  rw [Nat.testBit_or, Nat.testBit_two_pow, Nat.testBit_two_pow_sub_one]
  by_cases h : m = i
  · subst h; simp
  · by_cases h2 : i < m
    · simp [h2, Nat.le_of_lt h2]
    · simp [h, h2]; omega
theorem upto_lt (m : Nat) (h : m < 64) : (2 ^ m ||| (2 ^ m - 1)) < 18446744073709551616 := by
  have h1 : 2 ^ m < 2 ^ 64 := Nat.pow_lt_pow_right (by omega) h
  exact Nat.or_lt_two_pow (n := 64) h1 (by omega)
theorem fill_bit (W m : Nat) (a b : Bool) (i : Nat) (hW : W < 18446744073709551616) (hm : m < 64) (hi : i < 64) : (fill W m a b).testBit i = (!W.testBit i && (!a || decide (m < i)) && (!b || decide (i ≠ 0))) := by
  have e1 := comp_bit W i hW
  have e2 := comp_bit _ i (upto_lt m hm)
  rw [upto_bit] at e2
  have e5 : (!decide (i ≤ m)) = decide (m < i) := by by_cases h : i ≤ m <;> simp [h] <;> omega
  rw [e5] at e2
  have e3 := comp_bit 1 i (by omega)
  have e4 : (1 : Nat).testBit i = decide (i = 0) := by
    have := Nat.testBit_two_pow (n := 0) (m := i)
    simp at this
    rw [this]
    by_cases h : i = 0
    · simp [h]
    · simp [h]; omega
  rw [e4] at e3
  simp only [Nat.reduceSub] at e3
  unfold fill
  cases a <;> cases b <;> simp [Nat.testBit_and, e1, e2, e3, hi]
theorem fill_lt (W m : Nat) (a b : Bool) : fill W m a b < 18446744073709551616 := by
  have h0 : (18446744073709551615 - W) < 2 ^ 64 := by omega
  unfold fill
  cases a <;> cases b
  · exact h0
  · exact Nat.and_lt_two_pow (n := 64) _ (by omega)
  · exact Nat.lt_of_le_of_lt Nat.and_le_left h0
  · exact Nat.lt_of_le_of_lt Nat.and_le_left (Nat.lt_of_le_of_lt Nat.and_le_left h0)
theorem ctz_bits (x : Nat) (h0 : x ≠ 0) (h : x < 18446744073709551616) : Lib.ctz 64 x < 64 ∧ x.testBit (Lib.ctz 64 x) = true ∧ ∀ i, i < Lib.ctz 64 x → x.testBit i = false := by
  unfold Lib.ctz
  rw [if_neg h0]
  obtain ⟨m, hm, hlt⟩ := Lib.ctzFrom_spec 64 x (by omega) (by simpa using h)
  refine ⟨hlt, ?_, fun i hi => ?_⟩
  · generalize Lib.ctzFrom 64 x = c at *
    rw [hm, Nat.testBit_two_pow_mul]
    simp [Nat.testBit_zero]
    try omega
  · generalize Lib.ctzFrom 64 x = c at *
    rw [hm, Nat.testBit_two_pow_mul]
    simp
    intro; omega
/-- In which round a number is seen. -/
def pos (last j : Nat) : Nat := if j / 64 = last / 64 then (if last < j then 0 else 1024) else if last / 64 < j / 64 then j / 64 - last / 64 else j / 64 + 1024 - last / 64
theorem pos_spec (last j : Nat) (hl : last ≤ 65535) : (j / 64 = last / 64 ∧ last < j ∧ pos last j = 0) ∨ (j / 64 = last / 64 ∧ j ≤ last ∧ pos last j = 1024) ∨ (last / 64 < j / 64 ∧ pos last j + last / 64 = j / 64) ∨ (j / 64 < last / 64 ∧ pos last j + last / 64 = j / 64 + 1024) := by
  unfold pos
  split
  · split
    · left; omega
    · right; left; omega
  · split
    · right; right; left; omega
    · right; right; right; omega
theorem above_found {W : Nat → Nat} {T : Nat → Bool} (hw : WB W T) {last i bl fw : Nat} (hl : last ≤ 65535) (hi : i ≤ 1024) (hb : bl = (last / 64 + i) % 1024) (inv : ∀ j, 1 ≤ j → j ≤ 65535 → pos last j < i → T j = true)
    (hf : fw = fill (W bl) (last % 64) (decide (i = 0)) (decide (bl = 0))) (hn : fw ≠ 0) : Abv T last (bl * 64 + Lib.ctz 64 fw) := by
  obtain ⟨c1, c2, c3⟩ := ctz_bits fw hn (by rw [hf]; exact fill_lt _ _ _ _)
  generalize Lib.ctz 64 fw = c at *
  have hbl : bl < 1024 := by omega
  rw [hf, fill_bit _ _ _ _ _ (hw bl).1 (by omega) c1, (hw bl).2 c c1] at c2
  simp only [Bool.and_eq_true, Bool.or_eq_true, Bool.not_eq_true', decide_eq_false_iff_not, decide_eq_true_eq] at c2
  obtain ⟨⟨t, ha⟩, hz⟩ := c2
  rw [Nat.mul_comm] at t
  have hge : 1 ≤ bl * 64 + c := by omega
  have hle : bl * 64 + c ≤ 65535 := by omega
  have t' : T (bl * 64 + c) = false := by rw [Nat.mul_comm]; rw [Nat.mul_comm] at t; exact t
  refine ⟨hge, hle, t', fun j j1 j2 hr => ?_⟩
  have hp : pos last (bl * 64 + c) = i := by
    have hnot : ¬ pos last (bl * 64 + c) < i := fun q => by rw [inv _ hge hle q] at t'; cases t'
    have hd : (bl * 64 + c) / 64 = bl := by omega
    unfold pos at hnot ⊢
    rw [hd] at hnot ⊢
    split
    · rename_i e
      rw [if_pos e] at hnot
      split
      · rename_i e2; rw [if_pos e2] at hnot; omega
      · rename_i e2; rw [if_neg e2] at hnot; omega
    · rename_i e
      rw [if_neg e] at hnot
      split
      · rename_i e2; rw [if_pos e2] at hnot; omega
      · rename_i e2; rw [if_neg e2] at hnot; omega
  by_cases q : pos last j < i
  · exact inv j j1 j2 q
  · have hj : j / 64 = bl ∧ j % 64 < c ∧ pos last j = i := by
      have hd : (bl * 64 + c) / 64 = bl := by omega
      unfold rank at hr
      have hpq : ¬ pos last j < pos last (bl * 64 + c) := by rw [hp]; exact q
      have key : j / 64 = bl ∧ j % 64 < c ∧ pos last j = pos last (bl * 64 + c) := by
        have s1 := pos_spec last j hl
        have s2 := pos_spec last (bl * 64 + c) hl
        rw [hd] at s2
        generalize pos last j = p1 at *
        generalize pos last (bl * 64 + c) = p2 at *
        clear inv hp hf c3
        rcases s1 with s1 | s1 | s1 | s1 <;> rcases s2 with s2 | s2 | s2 | s2 <;> split at hr <;> split at hr <;> omega
      rw [hp] at key
      exact key
    obtain ⟨e1, e2, e3⟩ := hj
    have := c3 (j % 64) e2
    rw [hf, fill_bit _ _ _ _ _ (hw bl).1 (by omega) (by omega), (hw bl).2 _ (by omega)] at this
    have ej : 64 * bl + j % 64 = j := by omega
    rw [ej] at this
    have k1 : i = 0 → last % 64 < j % 64 := fun e => by
      subst e
      unfold pos at e3
      split at e3
      · split at e3 <;> omega
      · split at e3 <;> omega
    have k2 : bl = 0 → j % 64 ≠ 0 := by omega
    cases hT : T j
    · exfalso
      rw [hT] at this
      by_cases a1 : i = 0 <;> by_cases a2 : bl = 0 <;> simp [a1, a2] at this
      · have := k1 a1; have := k2 a2; omega
      · have := k1 a1; omega
      · have := k2 a2; omega
    · rfl
theorem above_on {W : Nat → Nat} {T : Nat → Bool} (hw : WB W T) {last i bl : Nat} (hl : last ≤ 65535) (hi : i ≤ 1024) (hb : bl = (last / 64 + i) % 1024) (inv : ∀ j, 1 ≤ j → j ≤ 65535 → pos last j < i → T j = true)
    (hf : fill (W bl) (last % 64) (decide (i = 0)) (decide (bl = 0)) = 0) : ∀ j, 1 ≤ j → j ≤ 65535 → pos last j < i + 1 → T j = true := by
  intro j j1 j2 hp
  by_cases q : pos last j < i
  · exact inv j j1 j2 q
  · have e3 : pos last j = i := by omega
    have e1 : j / 64 = bl := by
      unfold pos at e3
      split at e3
      · split at e3 <;> omega
      · split at e3 <;> omega
    have := fill_bit (W bl) (last % 64) (decide (i = 0)) (decide (bl = 0)) (j % 64) (hw bl).1 (by omega) (by omega)
    rw [hf, (hw bl).2 _ (by omega)] at this
    have ej : 64 * bl + j % 64 = j := by omega
    rw [ej] at this
    have k1 : i = 0 → last % 64 < j % 64 := fun e => by
      subst e
      unfold pos at e3
      split at e3
      · split at e3 <;> omega
      · split at e3 <;> omega
    have k2 : bl = 0 → j % 64 ≠ 0 := by omega
    cases hT : T j
    · exfalso
      rw [hT] at this
      by_cases a1 : i = 0 <;> by_cases a2 : bl = 0 <;> simp [a1, a2] at this
      · have := k1 a1; have := k2 a2; omega
      · have := k1 a1; omega
      · have := k2 a2; omega
    · rfl
theorem pos_le (last j : Nat) (hl : last ≤ 65535) (hj : j ≤ 65535) : pos last j ≤ 1024 := by have := pos_spec last j hl; omega
/-! Laying a number down, and taking it out. -/
def setT (T : Nat → Bool) (id : Nat) (b : Bool) : Nat → Bool := fun j => if j = id then b else T j
def setW (W : Nat → Nat) (k x : Nat) : Nat → Nat := fun j => if j = k then x else W j
theorem wb_put {W : Nat → Nat} {T : Nat → Bool} (hw : WB W T) (id : Nat) : WB (setW W (id / 64) (W (id / 64) ||| 2 ^ (id % 64))) (setT T id true) := by
  intro k
  by_cases hk : k = id / 64
  · subst hk
    have h1 : 2 ^ (id % 64) < 2 ^ 64 := Nat.pow_lt_pow_right (by omega) (by omega)
    simp only [setW, if_true]
    refine ⟨Nat.or_lt_two_pow (n := 64) (hw _).1 h1, fun i hi => ?_⟩
    rw [Nat.testBit_or, (hw _).2 i hi, Nat.testBit_two_pow]
    unfold setT
    by_cases e : id % 64 = i
    · rw [if_pos (by omega)]; simp [e]
    · rw [if_neg (by omega)]; simp [e]
  · simp only [setW, if_neg hk]
    refine ⟨(hw k).1, fun i hi => ?_⟩
    rw [(hw k).2 i hi]
    unfold setT
    rw [if_neg (by omega)]
theorem wb_drop {W : Nat → Nat} {T : Nat → Bool} (hw : WB W T) (id : Nat) : WB (setW W (id / 64) (W (id / 64) &&& (18446744073709551615 - 2 ^ (id % 64)))) (setT T id false) := by
  intro k
  by_cases hk : k = id / 64
  · subst hk
    have h1 : 2 ^ (id % 64) < 2 ^ 64 := Nat.pow_lt_pow_right (by omega) (by omega)
    simp only [setW, if_true]
    refine ⟨Nat.lt_of_le_of_lt Nat.and_le_left (hw _).1, fun i hi => ?_⟩
    rw [Nat.testBit_and, (hw _).2 i hi, comp_bit _ _ h1, Nat.testBit_two_pow]
    unfold setT
    by_cases e : id % 64 = i
    · rw [if_pos (by omega)]; simp [e]
    · rw [if_neg (by omega)]; simp [e, hi]
  · simp only [setW, if_neg hk]
    refine ⟨(hw k).1, fun i hi => ?_⟩
    rw [(hw k).2 i hi]
    unfold setT
    rw [if_neg (by omega)]
theorem wb_has {W : Nat → Nat} {T : Nat → Bool} (hw : WB W T) (id : Nat) : (W (id / 64) &&& 2 ^ (id % 64) ≠ 0) ↔ T id = true := by
  have h1 := (hw (id / 64)).2 (id % 64) (by omega)
  have e : 64 * (id / 64) + id % 64 = id := by omega
  rw [e] at h1
  rw [← h1]
  constructor
  · intro h
    cases hb : (W (id / 64)).testBit (id % 64)
    · exfalso
      apply h
      apply Nat.eq_of_testBit_eq
      intro i
      rw [Nat.testBit_and, Nat.testBit_two_pow]
      by_cases e : id % 64 = i
      · subst e; simp [hb]
      · simp [e]
    · rfl
  · intro hb h
    have : (W (id / 64) &&& 2 ^ (id % 64)).testBit (id % 64) = true := by rw [Nat.testBit_and, Nat.testBit_two_pow, hb]; simp
    rw [h] at this
    simp at this
end Go.Proofs.YtmihpmmkkklpfaaGreatDoor
