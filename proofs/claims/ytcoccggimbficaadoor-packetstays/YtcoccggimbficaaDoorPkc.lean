import Derived.Test.YtcoccggimbficaaDoorPkb
namespace Go.Proofs.YtcoccggimbficaaDoor
open Go
set_option linter.unusedSimpArgs false
set_option linter.unusedVariables false

/-- What lies in a packet's lists. -/
structure Cn where
  wz : Nat → Int
  pz : Nat → Int
  mz : Nat → Int
  af : Nat → ByteArray
  aq : Nat → Int
  cs : Nat → Int
  fs : Nat → ByteArray

/-- What is told of texts. -/
structure Tx where
  txt : ByteArray → Bool
  top : ByteArray → Bool
  flt : ByteArray → Bool

def allN (n : Nat) (f : Nat → Bool) : Bool := (List.range n).all f
theorem allN_iff (n : Nat) (f : Nat → Bool) : allN n f = true ↔ ∀ i, i < n → f i = true := by
  simp [allN, List.all_eq_true, List.mem_range]
theorem allN_false {n : Nat} {f : Nat → Bool} (i : Nat) (hi : i < n) (h : f i = false) : allN n f = false := by
  cases hh : allN n f with
  | false => rfl
  | true => rw [(allN_iff n f).1 hh i hi] at h; cases h
def sumN (f : Nat → Nat) : Nat → Nat
  | 0 => 0
  | n + 1 => sumN f n + f n
theorem sumN_le (f : Nat → Nat) (n m : Nat) (h : n ≤ m) : sumN f n ≤ sumN f m := by
  induction m with
  | zero => obtain rfl : n = 0 := by omega
            exact Nat.le_refl _
  | succ m ih =>
    by_cases e : n = m + 1
    · subst e; exact Nat.le_refl _
    · have := ih (by omega)
      simp only [sumN]; omega
theorem sumN_congr (f g : Nat → Nat) (n : Nat) (h : ∀ i, i < n → f i = g i) : sumN f n = sumN g n := by
  induction n with
  | zero => rfl
  | succ n ih => simp only [sumN]; rw [ih (fun i hi => h i (by omega)), h n (by omega)]
/-- One taken out. -/
def outN {α : Type} (k : Nat) (f : Nat → α) (i : Nat) : α := if i < k then f i else f (i + 1)
theorem sumN_out (f : Nat → Nat) (k n : Nat) (h : k ≤ n) : sumN (outN k f) n + f k = sumN f (n + 1) := by
  induction n with
  | zero => obtain rfl : k = 0 := by omega
            simp [sumN]
  | succ n ih =>
    by_cases e : k = n + 1
    · subst e
      simp only [sumN]
      rw [sumN_congr (outN (n + 1) f) f n (fun i hi => by simp [outN, show i < n + 1 by omega])]
      simp [outN]
    · have := ih (by omega)
      have e2 : outN k f n = f (n + 1) := by simp [outN, show ¬ n < k by omega]
      simp only [sumN] at this ⊢
      rw [e2]; omega

def isQ (q : Int) : Bool := decide (0 ≤ q) && decide (q ≤ 2)
def isC (c : Int) : Bool := isQ c || decide (c = 128)
def bnd (p : Pk) : Bool := decide (0 ≤ p.level) && decide (p.level ≤ 255) && decide (0 ≤ p.code) && decide (p.code ≤ 255) && decide (0 ≤ p.keep) && decide (p.keep ≤ 65535)
def tps (T : Tx) (p : Pk) : Bool := !(p.hasWill && !T.top p.wT) && (decide (p.kind ≠ 3) || T.top p.mT)
def flts (T : Tx) (p : Pk) (c : Cn) : Bool := allN p.asks.n (fun i => T.flt (c.af i)) && allN p.filters.n (fun i => T.flt (c.fs i))
def qls (p : Pk) (c : Cn) : Bool := isQ p.wQ && isQ p.mQ && allN p.asks.n (fun i => isQ (c.aq i)) && allN p.codes.n (fun i => isC (c.cs i))
def nid (p : Pk) : Nat := if hasID p then 2 else 0
def szc (p : Pk) : Nat := 12 + p.client.size + (if p.hasWill then 4 + p.wT.size + p.wP.n else 0) + (if p.hasUser then 2 + p.user.size else 0) + if p.hasPass then 2 + p.pass.n else 0
def sz (p : Pk) (c : Cn) : Nat :=
  if p.kind = 1 then szc p else if p.kind = 2 then 2 else if p.kind = 3 then nid p + 2 + p.mT.size + p.mP.n
  else nid p + sumN (fun i => 3 + (c.af i).size) p.asks.n + sumN (fun i => 2 + (c.fs i).size) p.filters.n + p.codes.n

def isK (k : Int) : Bool := decide (1 ≤ k) && decide (k ≤ 14)
def bad1 (p : Pk) : Bool := (gv p &&& (18446744073709551615 - fl p) != 0) || !bnd p
def bad2 (T : Tx) (p : Pk) : Bool := !T.txt p.client || !T.txt p.user
def bad6 (p : Pk) : Bool := (fl p &&& 16384 != 0) && (decide (p.id < 1) || decide (65535 < p.id))
def bad7 (p : Pk) (c : Cn) : Bool := decide (65535 < p.wP.n) || decide (65535 < p.pass.n) || decide (268435455 < sz p c)
def bad8 (p : Pk) : Bool := (fl p &&& 229376 != 0) && (gv p &&& 229376 == 0)
def bad9 (p : Pk) : Bool := (p.hasPass && !p.hasUser) || (p.dup && decide (p.mQ = 0)) || (p.present && decide (p.code ≠ 0))
def ck (T : Tx) (p : Pk) (c : Cn) : Nat :=
  if !isK p.kind then 20 else if bad1 p then 21 else if bad2 T p then 22 else if !tps T p then 23 else if !flts T p c then 24 else if !qls p c then 25
  else if bad6 p then 26 else if bad7 p c then 27 else if bad8 p then 28 else if bad9 p then 29 else 0

theorem and_one (x k : Nat) (hx : x < 262144) (hk : k < 18) : x &&& 2 ^ k = 0 ↔ x.testBit k = false := by
  rw [and_zero_iff x _ hx]
  constructor
  · intro h
    cases hb : x.testBit k with
    | false => rfl
    | true => have := h k hk hb; simp [Nat.testBit_two_pow] at this
  · intro h i hi hb
    rw [Nat.testBit_two_pow]
    by_cases e : k = i
    · subst e; rw [h] at hb; cases hb
    · simp [e]
theorem had_id : ∀ n, n < 15 → (had n).testBit 14 = decide (3 ≤ n ∧ n ≤ 11) := by decide
theorem fl_id (p : Pk) (h1 : 1 ≤ p.kind) (h2 : p.kind ≤ 14) : (fl p &&& 16384 != 0) = hasID p := by
  have e : fl p &&& 16384 = 0 ↔ (fl p).testBit 14 = false := and_one _ 14 (fl_lt p) (by decide)
  rw [fl_bit p 14 (by decide), off_bit14, had_id _ (by omega)] at e
  have e' : (fl p &&& 16384 = 0) ↔ hasID p = false := by
    rw [e]
    unfold hasID
    by_cases h3 : p.kind = 3
    · simp [h3]
    · by_cases h4 : 4 ≤ p.kind <;> by_cases h5 : p.kind ≤ 11 <;> simp [h3, h4, h5] <;> omega
  cases hh : hasID p with
  | false => rw [e'.2 hh]; rfl
  | true =>
    rw [bne_iff_ne]
    intro h0
    rw [e'.1 h0] at hh; cases hh
theorem list_bits (x : Nat) (hx : x < 262144) : x &&& 229376 = 0 ↔ (x.testBit 15 = false ∧ x.testBit 16 = false ∧ x.testBit 17 = false) := by
  have h229 : ∀ i, i < 18 → Nat.testBit 229376 i = decide (15 ≤ i) := by decide
  rw [and_zero_iff x _ hx]
  constructor
  · intro h
    refine ⟨?_, ?_, ?_⟩
    · cases hb : x.testBit 15 with
      | false => rfl
      | true => have := h 15 (by decide) hb; rw [h229 15 (by decide)] at this; cases this
    · cases hb : x.testBit 16 with
      | false => rfl
      | true => have := h 16 (by decide) hb; rw [h229 16 (by decide)] at this; cases this
    · cases hb : x.testBit 17 with
      | false => rfl
      | true => have := h 17 (by decide) hb; rw [h229 17 (by decide)] at this; cases this
  · rintro ⟨a, b, d⟩ i hi hb
    rw [h229 i hi]
    by_cases hl : 15 ≤ i
    · have : i = 15 ∨ i = 16 ∨ i = 17 := by omega
      rcases this with rfl | rfl | rfl
      · rw [a] at hb; cases hb
      · rw [b] at hb; cases hb
      · rw [d] at hb; cases hb
    · simp [hl]
theorem fl_list (p : Pk) (h1 : 1 ≤ p.kind) (h2 : p.kind ≤ 14) : (fl p &&& 229376 != 0) = (decide (p.kind = 8) || decide (p.kind = 9) || decide (p.kind = 10)) := by
  have e := list_bits _ (fl_lt p)
  rw [fl_bit p 15 (by decide), fl_bit p 16 (by decide), fl_bit p 17 (by decide), off_bit15, off_bit16, off_bit17, had_bit15 _ (by omega), had_bit16 _ (by omega), had_bit17 _ (by omega)] at e
  by_cases h8 : p.kind = 8
  · have : ¬ (fl p &&& 229376 = 0) := by rw [e]; simp [h8]
    simp [this, h8]
  by_cases h9 : p.kind = 9
  · have : ¬ (fl p &&& 229376 = 0) := by rw [e]; simp [h9]
    simp [this, h9]
  by_cases h10 : p.kind = 10
  · have : ¬ (fl p &&& 229376 = 0) := by rw [e]; simp [h10]
    simp [this, h10]
  have : fl p &&& 229376 = 0 := by rw [e]; simp; omega
  simp [this, h8, h9, h10]
theorem gv_list (p : Pk) : (gv p &&& 229376 == 0) = (decide (p.asks.n = 0) && decide (p.codes.n = 0) && decide (p.filters.n = 0)) := by
  have e := list_bits _ (gv_lt p)
  rw [gv_bit15, gv_bit16, gv_bit17] at e
  by_cases h : p.asks.n = 0 ∧ p.codes.n = 0 ∧ p.filters.n = 0
  · have : gv p &&& 229376 = 0 := by rw [e]; simp [h.1, h.2.1, h.2.2]
    simp [this, h.1, h.2.1, h.2.2]
  · have : ¬ (gv p &&& 229376 = 0) := by rw [e]; simpa using h
    rw [show (gv p &&& 229376 == 0) = false from by simpa using this]
    symm
    simp
    intro a b d
    exact h ⟨a, b, d⟩

/-- A right packet. -/
structure Right (T : Tx) (p : Pk) (c : Cn) : Prop where
  k1 : 1 ≤ p.kind
  k2 : p.kind ≤ 14
  own : Own p
  bd : bnd p = true
  t1 : T.txt p.client = true
  t2 : T.txt p.user = true
  tp : tps T p = true
  ft : flts T p c = true
  ql : qls p c = true
  id : hasID p = true → 1 ≤ p.id ∧ p.id ≤ 65535
  s1 : p.wP.n ≤ 65535
  s2 : p.pass.n ≤ 65535
  s3 : sz p c ≤ 268435455
  ne : p.kind = 8 ∨ p.kind = 9 ∨ p.kind = 10 → ¬ (p.asks.n = 0 ∧ p.codes.n = 0 ∧ p.filters.n = 0)
  m1 : p.hasPass = true → p.hasUser = true
  m2 : p.dup = true → p.mQ ≠ 0
  m3 : p.present = true → p.code = 0

theorem ck_right (T : Tx) (p : Pk) (c : Cn) : ck T p c = 0 ↔ Right T p c := by
  unfold ck
  constructor
  · intro h
    have hk : isK p.kind = true := by cases e : isK p.kind <;> simp [e] at h ⊢
    simp only [hk, Bool.not_true, Bool.false_eq_true, if_false] at h
    have h1 : bad1 p = false := by cases e : bad1 p <;> simp [e] at h ⊢
    simp only [h1, Bool.false_eq_true, if_false] at h
    have h2 : bad2 T p = false := by cases e : bad2 T p <;> simp [e] at h ⊢
    simp only [h2, Bool.false_eq_true, if_false] at h
    have h3 : tps T p = true := by cases e : tps T p <;> simp [e] at h ⊢
    simp only [h3, Bool.not_true, Bool.false_eq_true, if_false] at h
    have h4 : flts T p c = true := by cases e : flts T p c <;> simp [e] at h ⊢
    simp only [h4, Bool.not_true, Bool.false_eq_true, if_false] at h
    have h5 : qls p c = true := by cases e : qls p c <;> simp [e] at h ⊢
    simp only [h5, Bool.not_true, Bool.false_eq_true, if_false] at h
    have h6 : bad6 p = false := by cases e : bad6 p <;> simp [e] at h ⊢
    simp only [h6, Bool.false_eq_true, if_false] at h
    have h7 : bad7 p c = false := by cases e : bad7 p c <;> simp [e] at h ⊢
    simp only [h7, Bool.false_eq_true, if_false] at h
    have h8 : bad8 p = false := by cases e : bad8 p <;> simp [e] at h ⊢
    simp only [h8, Bool.false_eq_true, if_false] at h
    have h9 : bad9 p = false := by cases e : bad9 p <;> simp [e] at h ⊢
    clear h
    simp only [isK, Bool.and_eq_true, decide_eq_true_eq] at hk
    simp only [bad1, Bool.or_eq_false_iff] at h1
    simp only [bad2, Bool.or_eq_false_iff, Bool.not_eq_false'] at h2
    rw [bad6, fl_id p hk.1 hk.2] at h6
    simp only [bad7, Bool.or_eq_false_iff, decide_eq_false_iff_not, Nat.not_lt] at h7
    rw [bad8, fl_list p hk.1 hk.2, gv_list] at h8
    refine ⟨hk.1, hk.2, (own_is p hk.1 hk.2).1 (by simpa using h1.1), by simpa using h1.2, h2.1, h2.2, h3, h4, h5, ?_, h7.1.1, h7.1.2, h7.2, ?_, ?_, ?_, ?_⟩
    · intro hi
      rw [hi] at h6
      simp at h6
      omega
    · rintro hl ⟨a, b, d⟩
      rcases hl with e | e | e <;> simp [e, a, b, d] at h8
    · intro hp
      cases hu : p.hasUser with
      | true => rfl
      | false => simp [bad9, hp, hu] at h9
    · intro hp hu
      simp [bad9, hp, hu] at h9
    · intro hp
      apply Classical.byContradiction
      intro hu
      simp [bad9, hp, hu] at h9
  · intro h
    have g1 : bad1 p = false := by
      simp only [bad1, Bool.or_eq_false_iff]
      exact ⟨by simpa using (own_is p h.k1 h.k2).2 h.own, by simp [h.bd]⟩
    have g6 : bad6 p = false := by
      rw [bad6, fl_id p h.k1 h.k2]
      cases e : hasID p with
      | false => rfl
      | true => have := h.id e; simp; omega
    have g7 : bad7 p c = false := by
      simp only [bad7, Bool.or_eq_false_iff, decide_eq_false_iff_not, Nat.not_lt]
      exact ⟨⟨h.s1, h.s2⟩, h.s3⟩
    have g8 : bad8 p = false := by
      rw [bad8, fl_list p h.k1 h.k2, gv_list]
      by_cases e : p.kind = 8 ∨ p.kind = 9 ∨ p.kind = 10
      · have hn := h.ne e
        have : (decide (p.asks.n = 0) && decide (p.codes.n = 0) && decide (p.filters.n = 0)) = false := by
          cases ee : (decide (p.asks.n = 0) && decide (p.codes.n = 0) && decide (p.filters.n = 0)) with
          | false => rfl
          | true => simp at ee; exact absurd ⟨ee.1.1, ee.1.2, ee.2⟩ hn
        rw [this, Bool.and_false]
      · have : (decide (p.kind = 8) || decide (p.kind = 9) || decide (p.kind = 10)) = false := by simp; omega
        rw [this, Bool.false_and]
    have g9 : bad9 p = false := by
      have a1 := h.m1
      have a2 := h.m2
      have a3 := h.m3
      unfold bad9
      cases e1 : p.hasPass <;> cases e2 : p.dup <;> cases e3 : p.present <;> simp_all
    simp [isK, h.k1, h.k2, g1, bad2, h.t1, h.t2, h.tp, h.ft, h.ql, g6, g7, g8, g9]

/-- What stays right. -/
theorem right_mono {T : Tx} {p : Pk} {c c' : Cn} (h : Right T p c) (w' s' m' a' d' f' : Sl) (q' : Int)
    (hw : w'.n = p.wP.n) (hs : s'.n = p.pass.n) (hm : m'.n ≤ p.mP.n) (hq : q' = p.mQ ∨ (p.kind = 3 ∧ 1 ≤ p.mQ ∧ 1 ≤ q' ∧ q' ≤ 2))
    (ha : a'.n ≤ p.asks.n) (ha0 : a'.n = 0 → p.asks.n = 0) (hd : d'.n = p.codes.n) (hf : f'.n ≤ p.filters.n) (hf0 : f'.n = 0 → p.filters.n = 0)
    (hai : ∀ i, i < a'.n → ∃ j, j < p.asks.n ∧ c'.af i = c.af j ∧ c'.aq i = c.aq j) (hci : ∀ i, i < d'.n → c'.cs i = c.cs i)
    (hfi : ∀ i, i < f'.n → ∃ j, j < p.filters.n ∧ c'.fs i = c.fs j)
    (hsa : sumN (fun i => 3 + (c'.af i).size) a'.n ≤ sumN (fun i => 3 + (c.af i).size) p.asks.n) (hsf : sumN (fun i => 2 + (c'.fs i).size) f'.n ≤ sumN (fun i => 2 + (c.fs i).size) p.filters.n) :
    Right T { p with wP := w', pass := s', mP := m', mQ := q', asks := a', codes := d', filters := f' } c' := by
  have hqz : q' = 0 ↔ p.mQ = 0 := by rcases hq with h | ⟨_, h1, h2, _⟩ <;> omega
  have hid : hasID { p with wP := w', pass := s', mP := m', mQ := q', asks := a', codes := d', filters := f' } = hasID p := by
    simp only [hasID, hqz, ne_eq]
  have hno : ¬ p.kind = 3 → q' = p.mQ := by
    intro hh
    rcases hq with h | ⟨h, _⟩
    · exact h
    · exact absurd h hh
  constructor
  · exact h.k1
  · exact h.k2
  · have o := h.own
    constructor
    · exact o.level
    · exact o.clean
    · exact o.keep
    · exact o.client
    · exact o.hasWill
    · intro hh; have := o.will hh; exact ⟨this.1, this.2.1, this.2.2.1, hw.trans this.2.2.2⟩
    · exact o.hasUser
    · exact o.user
    · exact o.hasPass
    · intro hh; exact hs.trans (o.pass hh)
    · exact o.present
    · exact o.code
    · exact o.dup
    · intro hh; have := o.msg hh; exact ⟨this.1, (hno hh).trans this.2.1, this.2.2.1, by have := this.2.2.2; show m'.n = 0; omega⟩
    · intro hh; rw [hid] at hh; exact o.id hh
    · intro hh; have := o.asks hh; show a'.n = 0; omega
    · intro hh; exact hd.trans (o.codes hh)
    · intro hh; have := o.filters hh; show f'.n = 0; omega
  · exact h.bd
  · exact h.t1
  · exact h.t2
  · exact h.tp
  · have hft := h.ft
    simp only [flts, Bool.and_eq_true, allN_iff] at hft ⊢
    refine ⟨fun i hi => ?_, fun i hi => ?_⟩
    · obtain ⟨j, hj, e, _⟩ := hai i hi; rw [e]; exact hft.1 j hj
    · obtain ⟨j, hj, e⟩ := hfi i hi; rw [e]; exact hft.2 j hj
  · have hql := h.ql
    simp only [qls, Bool.and_eq_true, allN_iff] at hql ⊢
    refine ⟨⟨⟨hql.1.1.1, ?_⟩, fun i hi => ?_⟩, fun i hi => ?_⟩
    · rcases hq with e | ⟨_, _, h2, h3⟩
      · rw [e]; exact hql.1.1.2
      · simp [isQ]; omega
    · obtain ⟨j, hj, _, e⟩ := hai i hi; rw [e]; exact hql.1.2 j hj
    · rw [hci i hi]; exact hql.2 i (by have : i < d'.n := hi; omega)
  · intro hh; rw [hid] at hh; exact h.id hh
  · show w'.n ≤ 65535; rw [hw]; exact h.s1
  · show s'.n ≤ 65535; rw [hs]; exact h.s2
  · refine Nat.le_trans ?_ h.s3
    simp only [sz, nid, hid, szc]
    split
    · rw [hw, hs]; exact Nat.le_refl _
    · split
      · exact Nat.le_refl _
      · split
        · omega
        · omega
  · rintro hh ⟨x, y, z⟩
    exact h.ne hh ⟨ha0 x, hd.symm.trans y, hf0 z⟩
  · exact h.m1
  · intro hh; have := h.m2 hh; intro e; exact this (hqz.1 e)
  · exact h.m3
end Go.Proofs.YtcoccggimbficaaDoor
