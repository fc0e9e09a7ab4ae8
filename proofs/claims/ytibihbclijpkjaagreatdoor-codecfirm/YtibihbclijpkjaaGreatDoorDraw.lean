import Derived.Test.YtibihbclijpkjaaGreatDoorPPkb
import Derived.Test.YtibihbclijpkjaaGreatDoorRows
import Derived.WalkKit
import Derived.ProofKit
import Derived.LaidLaws
import Derived.Below
import Derived.WalkSpells
import Derived.Lib.LaidTab
import Derived.Deep.Strs
import Derived.Shelf.Small.Utf8
import Derived.Shelf.Small.Strs
import Derived.Shelf.Utf8.RuneCount
import Derived.Shelf.Strings.Search1
import Derived.Shelf.Strings.Search2
import Derived.Shelf.Strings.Search3
import Derived.Shelf.Strings.Count
import Derived.Shelf.LaysM
import Derived.Shelf.Strings.Shaped
import Derived.Shelf.Strings.Prefix
import Derived.Shelf.Strings.Split
import Derived.Shelf.Strings.Runes
import Derived.Shelf.Strings.RuneCount
import Derived.Shelf.Strings.IndexAny
import Derived.Shelf.Strings.AsciiSet
import Derived.Shelf.Strings.IndexAnyAll
import Derived.Test.YtibihbclijpkjaaGreatDoorProg
import Derived.OpenShut
import Derived.ShutString
import Derived.ChangeOld
import Derived.ChangeSame
import Derived.ChangeVars
import Derived.JoinedOf
import Derived.RowKit
import Derived.RowKitTokens
import Derived.LaidHandle
import Derived.Stop.Joined
import Derived.WalkLawsBesides
import Derived.Recover
import Derived.Orders
namespace Go.Proofs.YtibihbclijpkjaaGreatDoor.Pkt
open Go
set_option linter.unusedSimpArgs false
set_option linter.unusedVariables false

/-- What lies in a packet's lists. -/
structure Cn where
  wz : Nat → Int
  pz : Nat → Int
  mz : Nat → Int
  af : Nat → ByteArray
  aq : Nat → Int
  cs : Nat → Int
  fs : Nat → ByteArray

/-- What is told of texts. -/
structure Tx where
  txt : ByteArray → Bool
  top : ByteArray → Bool
  flt : ByteArray → Bool

def allN (n : Nat) (f : Nat → Bool) : Bool := (List.range n).all f
theorem allN_iff (n : Nat) (f : Nat → Bool) : allN n f = true ↔ ∀ i, i < n → f i = true := by
  simp [allN, List.all_eq_true, List.mem_range]
theorem allN_false {n : Nat} {f : Nat → Bool} (i : Nat) (hi : i < n) (h : f i = false) : allN n f = false := by
  cases hh : allN n f with
  | false => rfl
  | true => rw [(allN_iff n f).1 hh i hi] at h; cases h
def sumN (f : Nat → Nat) : Nat → Nat
  | 0 => 0
  | n + 1 => sumN f n + f n
theorem sumN_le (f : Nat → Nat) (n m : Nat) (h : n ≤ m) : sumN f n ≤ sumN f m := by
  induction m with
  | zero => obtain rfl : n = 0 := by omega
            exact Nat.le_refl _
  | succ m ih =>
    by_cases e : n = m + 1
    · subst e; exact Nat.le_refl _
    · have := ih (by omega)
      simp only [sumN]; omega
theorem sumN_congr (f g : Nat → Nat) (n : Nat) (h : ∀ i, i < n → f i = g i) : sumN f n = sumN g n := by
  induction n with
  | zero => rfl
  | succ n ih => simp only [sumN]; rw [ih (fun i hi => h i (by omega)), h n (by omega)]
/-- One taken out. -/
def outN {α : Type} (k : Nat) (f : Nat → α) (i : Nat) : α := if i < k then f i else f (i + 1)
theorem sumN_out (f : Nat → Nat) (k n : Nat) (h : k ≤ n) : sumN (outN k f) n + f k = sumN f (n + 1) := by
  induction n with
  | zero => obtain rfl : k = 0 := by omega
            simp [sumN]
  | succ n ih =>
    by_cases e : k = n + 1
    · subst e
      simp only [sumN]
      rw [sumN_congr (outN (n + 1) f) f n (fun i hi => by simp [outN, show i < n + 1 by omega])]
      simp [outN]
    · have := ih (by omega)
      have e2 : outN k f n = f (n + 1) := by simp [outN, show ¬ n < k by omega]
      simp only [sumN] at this ⊢
      rw [e2]; omega

def isQ (q : Int) : Bool := decide (0 ≤ q) && decide (q ≤ 2)
def isC (c : Int) : Bool := isQ c || decide (c = 128)
def bnd (p : Pk) : Bool := decide (0 ≤ p.level) && decide (p.level ≤ 255) && decide (0 ≤ p.code) && decide (p.code ≤ 255) && decide (0 ≤ p.keep) && decide (p.keep ≤ 65535)
def tps (T : Tx) (p : Pk) : Bool := !(p.hasWill && !T.top p.wT) && (decide (p.kind ≠ 3) || T.top p.mT)
def flts (T : Tx) (p : Pk) (c : Cn) : Bool := allN p.asks.n (fun i => T.flt (c.af i)) && allN p.filters.n (fun i => T.flt (c.fs i))
def qls (p : Pk) (c : Cn) : Bool := isQ p.wQ && isQ p.mQ && allN p.asks.n (fun i => isQ (c.aq i)) && allN p.codes.n (fun i => isC (c.cs i))
def nid (p : Pk) : Nat := if hasID p then 2 else 0
def szc (p : Pk) : Nat := 12 + p.client.size + (if p.hasWill then 4 + p.wT.size + p.wP.n else 0) + (if p.hasUser then 2 + p.user.size else 0) + if p.hasPass then 2 + p.pass.n else 0
def sz (p : Pk) (c : Cn) : Nat :=
  if p.kind = 1 then szc p else if p.kind = 2 then 2 else if p.kind = 3 then nid p + 2 + p.mT.size + p.mP.n
  else nid p + sumN (fun i => 3 + (c.af i).size) p.asks.n + sumN (fun i => 2 + (c.fs i).size) p.filters.n + p.codes.n

def isK (k : Int) : Bool := decide (1 ≤ k) && decide (k ≤ 14)
def bad1 (p : Pk) : Bool := (gv p &&& (18446744073709551615 - fl p) != 0) || !bnd p
def bad2 (T : Tx) (p : Pk) : Bool := !T.txt p.client || !T.txt p.user
def bad6 (p : Pk) : Bool := (fl p &&& 16384 != 0) && (decide (p.id < 1) || decide (65535 < p.id))
def bad7 (p : Pk) (c : Cn) : Bool := decide (65535 < p.wP.n) || decide (65535 < p.pass.n) || decide (268435455 < sz p c)
def bad8 (p : Pk) : Bool := (fl p &&& 229376 != 0) && (gv p &&& 229376 == 0)
def bad9 (p : Pk) : Bool := (p.hasPass && !p.hasUser) || (p.dup && decide (p.mQ = 0)) || (p.present && decide (p.code ≠ 0))
def ck (T : Tx) (p : Pk) (c : Cn) : Nat :=
  if !isK p.kind then 20 else if bad1 p then 21 else if bad2 T p then 22 else if !tps T p then 23 else if !flts T p c then 24 else if !qls p c then 25
  else if bad6 p then 26 else if bad7 p c then 27 else if bad8 p then 28 else if bad9 p then 29 else 0

theorem and_one (x k : Nat) (hx : x < 262144) (hk : k < 18) : x &&& 2 ^ k = 0 ↔ x.testBit k = false := by
  rw [and_zero_iff x _ hx]
  constructor
  · intro h
    cases hb : x.testBit k with
    | false => rfl
    | true => have := h k hk hb; simp [Nat.testBit_two_pow] at this
  · intro h i hi hb
    rw [Nat.testBit_two_pow]
    by_cases e : k = i
    · subst e; rw [h] at hb; cases hb
    · simp [e]
theorem had_id : ∀ n, n < 15 → (had n).testBit 14 = decide (3 ≤ n ∧ n ≤ 11) := by decide
theorem fl_id (p : Pk) (h1 : 1 ≤ p.kind) (h2 : p.kind ≤ 14) : (fl p &&& 16384 != 0) = hasID p := by
  have e : fl p &&& 16384 = 0 ↔ (fl p).testBit 14 = false := and_one _ 14 (fl_lt p) (by decide)
  rw [fl_bit p 14 (by decide), off_bit14, had_id _ (by omega)] at e
  have e' : (fl p &&& 16384 = 0) ↔ hasID p = false := by
    rw [e]
    unfold hasID
    by_cases h3 : p.kind = 3
    · simp [h3]
    · by_cases h4 : 4 ≤ p.kind <;> by_cases h5 : p.kind ≤ 11 <;> simp [h3, h4, h5] <;> omega
  cases hh : hasID p with
  | false => rw [e'.2 hh]; rfl
  | true =>
    rw [bne_iff_ne]
    intro h0
    rw [e'.1 h0] at hh; cases hh
theorem list_bits (x : Nat) (hx : x < 262144) : x &&& 229376 = 0 ↔ (x.testBit 15 = false ∧ x.testBit 16 = false ∧ x.testBit 17 = false) := by
  have h229 : ∀ i, i < 18 → Nat.testBit 229376 i = decide (15 ≤ i) := by decide
  rw [and_zero_iff x _ hx]
  constructor
  · intro h
    refine ⟨?_, ?_, ?_⟩
    · cases hb : x.testBit 15 with
      | false => rfl
      | true => have := h 15 (by decide) hb; rw [h229 15 (by decide)] at this; cases this
    · cases hb : x.testBit 16 with
      | false => rfl
      | true => have := h 16 (by decide) hb; rw [h229 16 (by decide)] at this; cases this
    · cases hb : x.testBit 17 with
      | false => rfl
      | true => have := h 17 (by decide) hb; rw [h229 17 (by decide)] at this; cases this
  · rintro ⟨a, b, d⟩ i hi hb
    rw [h229 i hi]
    by_cases hl : 15 ≤ i
    · have : i = 15 ∨ i = 16 ∨ i = 17 := by omega
      rcases this with rfl | rfl | rfl
      · rw [a] at hb; cases hb
      · rw [b] at hb; cases hb
      · rw [d] at hb; cases hb
    · simp [hl]
theorem fl_list (p : Pk) (h1 : 1 ≤ p.kind) (h2 : p.kind ≤ 14) : (fl p &&& 229376 != 0) = (decide (p.kind = 8) || decide (p.kind = 9) || decide (p.kind = 10)) := by
  have e := list_bits _ (fl_lt p)
  rw [fl_bit p 15 (by decide), fl_bit p 16 (by decide), fl_bit p 17 (by decide), off_bit15, off_bit16, off_bit17, had_bit15 _ (by omega), had_bit16 _ (by omega), had_bit17 _ (by omega)] at e
  by_cases h8 : p.kind = 8
  · have : ¬ (fl p &&& 229376 = 0) := by rw [e]; simp [h8]
    simp [this, h8]
  by_cases h9 : p.kind = 9
  · have : ¬ (fl p &&& 229376 = 0) := by rw [e]; simp [h9]
    simp [this, h9]
  by_cases h10 : p.kind = 10
  · have : ¬ (fl p &&& 229376 = 0) := by rw [e]; simp [h10]
    simp [this, h10]
  have : fl p &&& 229376 = 0 := by rw [e]; simp; omega
  simp [this, h8, h9, h10]
theorem gv_list (p : Pk) : (gv p &&& 229376 == 0) = (decide (p.asks.n = 0) && decide (p.codes.n = 0) && decide (p.filters.n = 0)) := by
  have e := list_bits _ (gv_lt p)
  rw [gv_bit15, gv_bit16, gv_bit17] at e
  by_cases h : p.asks.n = 0 ∧ p.codes.n = 0 ∧ p.filters.n = 0
  · have : gv p &&& 229376 = 0 := by rw [e]; simp [h.1, h.2.1, h.2.2]
    simp [this, h.1, h.2.1, h.2.2]
  · have : ¬ (gv p &&& 229376 = 0) := by rw [e]; simpa using h
    rw [show (gv p &&& 229376 == 0) = false from by simpa using this]
    symm
    simp
    intro a b d
    exact h ⟨a, b, d⟩

/-- A right packet. -/
structure Right (T : Tx) (p : Pk) (c : Cn) : Prop where
  k1 : 1 ≤ p.kind
  k2 : p.kind ≤ 14
  own : Own p
  bd : bnd p = true
  t1 : T.txt p.client = true
  t2 : T.txt p.user = true
  tp : tps T p = true
  ft : flts T p c = true
  ql : qls p c = true
  id : hasID p = true → 1 ≤ p.id ∧ p.id ≤ 65535
  s1 : p.wP.n ≤ 65535
  s2 : p.pass.n ≤ 65535
  s3 : sz p c ≤ 268435455
  ne : p.kind = 8 ∨ p.kind = 9 ∨ p.kind = 10 → ¬ (p.asks.n = 0 ∧ p.codes.n = 0 ∧ p.filters.n = 0)
  m1 : p.hasPass = true → p.hasUser = true
  m2 : p.dup = true → p.mQ ≠ 0
  m3 : p.present = true → p.code = 0

theorem ck_right (T : Tx) (p : Pk) (c : Cn) : ck T p c = 0 ↔ Right T p c := by
  unfold ck
  constructor
  · intro h
    have hk : isK p.kind = true := by cases e : isK p.kind <;> simp [e] at h ⊢
    simp only [hk, Bool.not_true, Bool.false_eq_true, if_false] at h
    have h1 : bad1 p = false := by cases e : bad1 p <;> simp [e] at h ⊢
    simp only [h1, Bool.false_eq_true, if_false] at h
    have h2 : bad2 T p = false := by cases e : bad2 T p <;> simp [e] at h ⊢
    simp only [h2, Bool.false_eq_true, if_false] at h
    have h3 : tps T p = true := by cases e : tps T p <;> simp [e] at h ⊢
    simp only [h3, Bool.not_true, Bool.false_eq_true, if_false] at h
    have h4 : flts T p c = true := by cases e : flts T p c <;> simp [e] at h ⊢
    simp only [h4, Bool.not_true, Bool.false_eq_true, if_false] at h
    have h5 : qls p c = true := by cases e : qls p c <;> simp [e] at h ⊢
    simp only [h5, Bool.not_true, Bool.false_eq_true, if_false] at h
    have h6 : bad6 p = false := by cases e : bad6 p <;> simp [e] at h ⊢
    simp only [h6, Bool.false_eq_true, if_false] at h
    have h7 : bad7 p c = false := by cases e : bad7 p c <;> simp [e] at h ⊢
    simp only [h7, Bool.false_eq_true, if_false] at h
    have h8 : bad8 p = false := by cases e : bad8 p <;> simp [e] at h ⊢
    simp only [h8, Bool.false_eq_true, if_false] at h
    have h9 : bad9 p = false := by cases e : bad9 p <;> simp [e] at h ⊢
    clear h
    simp only [isK, Bool.and_eq_true, decide_eq_true_eq] at hk
    simp only [bad1, Bool.or_eq_false_iff] at h1
    simp only [bad2, Bool.or_eq_false_iff, Bool.not_eq_false'] at h2
    rw [bad6, fl_id p hk.1 hk.2] at h6
    simp only [bad7, Bool.or_eq_false_iff, decide_eq_false_iff_not, Nat.not_lt] at h7
    rw [bad8, fl_list p hk.1 hk.2, gv_list] at h8
    refine ⟨hk.1, hk.2, (own_is p hk.1 hk.2).1 (by simpa using h1.1), by simpa using h1.2, h2.1, h2.2, h3, h4, h5, ?_, h7.1.1, h7.1.2, h7.2, ?_, ?_, ?_, ?_⟩
    · intro hi
      rw [hi] at h6
      simp at h6
      omega
    · rintro hl ⟨a, b, d⟩
      rcases hl with e | e | e <;> simp [e, a, b, d] at h8
    · intro hp
      cases hu : p.hasUser with
      | true => rfl
      | false => simp [bad9, hp, hu] at h9
    · intro hp hu
      simp [bad9, hp, hu] at h9
    · intro hp
      apply Classical.byContradiction
      intro hu
      simp [bad9, hp, hu] at h9
  · intro h
    have g1 : bad1 p = false := by
      simp only [bad1, Bool.or_eq_false_iff]
      exact ⟨by simpa using (own_is p h.k1 h.k2).2 h.own, by simp [h.bd]⟩
    have g6 : bad6 p = false := by
      rw [bad6, fl_id p h.k1 h.k2]
      cases e : hasID p with
      | false => rfl
      | true => have := h.id e; simp; omega
    have g7 : bad7 p c = false := by
      simp only [bad7, Bool.or_eq_false_iff, decide_eq_false_iff_not, Nat.not_lt]
      exact ⟨⟨h.s1, h.s2⟩, h.s3⟩
    have g8 : bad8 p = false := by
      rw [bad8, fl_list p h.k1 h.k2, gv_list]
      by_cases e : p.kind = 8 ∨ p.kind = 9 ∨ p.kind = 10
      · have hn := h.ne e
        have : (decide (p.asks.n = 0) && decide (p.codes.n = 0) && decide (p.filters.n = 0)) = false := by
          cases ee : (decide (p.asks.n = 0) && decide (p.codes.n = 0) && decide (p.filters.n = 0)) with
          | false => rfl
          | true => simp at ee; exact absurd ⟨ee.1.1, ee.1.2, ee.2⟩ hn
        rw [this, Bool.and_false]
      · have : (decide (p.kind = 8) || decide (p.kind = 9) || decide (p.kind = 10)) = false := by simp; omega
        rw [this, Bool.false_and]
    have g9 : bad9 p = false := by
      have a1 := h.m1
      have a2 := h.m2
      have a3 := h.m3
      unfold bad9
      cases e1 : p.hasPass <;> cases e2 : p.dup <;> cases e3 : p.present <;> simp_all
    simp [isK, h.k1, h.k2, g1, bad2, h.t1, h.t2, h.tp, h.ft, h.ql, g6, g7, g8, g9]

/-- What stays right. -/
theorem right_mono {T : Tx} {p : Pk} {c c' : Cn} (h : Right T p c) (w' s' m' a' d' f' : Sl) (q' : Int)
    (hw : w'.n = p.wP.n) (hs : s'.n = p.pass.n) (hm : m'.n ≤ p.mP.n) (hq : q' = p.mQ ∨ (p.kind = 3 ∧ 1 ≤ p.mQ ∧ 1 ≤ q' ∧ q' ≤ 2))
    (ha : a'.n ≤ p.asks.n) (ha0 : a'.n = 0 → p.asks.n = 0) (hd : d'.n = p.codes.n) (hf : f'.n ≤ p.filters.n) (hf0 : f'.n = 0 → p.filters.n = 0)
    (hai : ∀ i, i < a'.n → ∃ j, j < p.asks.n ∧ c'.af i = c.af j ∧ c'.aq i = c.aq j) (hci : ∀ i, i < d'.n → c'.cs i = c.cs i)
    (hfi : ∀ i, i < f'.n → ∃ j, j < p.filters.n ∧ c'.fs i = c.fs j)
    (hsa : sumN (fun i => 3 + (c'.af i).size) a'.n ≤ sumN (fun i => 3 + (c.af i).size) p.asks.n) (hsf : sumN (fun i => 2 + (c'.fs i).size) f'.n ≤ sumN (fun i => 2 + (c.fs i).size) p.filters.n) :
    Right T { p with wP := w', pass := s', mP := m', mQ := q', asks := a', codes := d', filters := f' } c' := by
  have hqz : q' = 0 ↔ p.mQ = 0 := by rcases hq with h | ⟨_, h1, h2, _⟩ <;> omega
  have hid : hasID { p with wP := w', pass := s', mP := m', mQ := q', asks := a', codes := d', filters := f' } = hasID p := by
    simp only [hasID, hqz, ne_eq]
  have hno : ¬ p.kind = 3 → q' = p.mQ := by
    intro hh
    rcases hq with h | ⟨h, _⟩
    · exact h
    · exact absurd h hh
  constructor
  · exact h.k1
  · exact h.k2
  · have o := h.own
    constructor
    · exact o.level
    · exact o.clean
    · exact o.keep
    · exact o.client
    · exact o.hasWill
    · intro hh; have := o.will hh; exact ⟨this.1, this.2.1, this.2.2.1, hw.trans this.2.2.2⟩
    · exact o.hasUser
    · exact o.user
    · exact o.hasPass
    · intro hh; exact hs.trans (o.pass hh)
    · exact o.present
    · exact o.code
    · exact o.dup
    · intro hh; have := o.msg hh; exact ⟨this.1, (hno hh).trans this.2.1, this.2.2.1, by have := this.2.2.2; show m'.n = 0; omega⟩
    · intro hh; rw [hid] at hh; exact o.id hh
    · intro hh; have := o.asks hh; show a'.n = 0; omega
    · intro hh; exact hd.trans (o.codes hh)
    · intro hh; have := o.filters hh; show f'.n = 0; omega
  · exact h.bd
  · exact h.t1
  · exact h.t2
  · exact h.tp
  · have hft := h.ft
    simp only [flts, Bool.and_eq_true, allN_iff] at hft ⊢
    refine ⟨fun i hi => ?_, fun i hi => ?_⟩
    · obtain ⟨j, hj, e, _⟩ := hai i hi; rw [e]; exact hft.1 j hj
    · obtain ⟨j, hj, e⟩ := hfi i hi; rw [e]; exact hft.2 j hj
  · have hql := h.ql
    simp only [qls, Bool.and_eq_true, allN_iff] at hql ⊢
    refine ⟨⟨⟨hql.1.1.1, ?_⟩, fun i hi => ?_⟩, fun i hi => ?_⟩
    · rcases hq with e | ⟨_, _, h2, h3⟩
      · rw [e]; exact hql.1.1.2
      · simp [isQ]; omega
    · obtain ⟨j, hj, _, e⟩ := hai i hi; rw [e]; exact hql.1.2 j hj
    · rw [hci i hi]; exact hql.2 i (by have : i < d'.n := hi; omega)
  · intro hh; rw [hid] at hh; exact h.id hh
  · show w'.n ≤ 65535; rw [hw]; exact h.s1
  · show s'.n ≤ 65535; rw [hs]; exact h.s2
  · refine Nat.le_trans ?_ h.s3
    simp only [sz, nid, hid, szc]
    split
    · rw [hw, hs]; exact Nat.le_refl _
    · split
      · exact Nat.le_refl _
      · split
        · omega
        · omega
  · rintro hh ⟨x, y, z⟩
    exact h.ne hh ⟨ha0 x, hd.symm.trans y, hf0 z⟩
  · exact h.m1
  · intro hh; have := h.m2 hh; intro e; exact this (hqz.1 e)
  · exact h.m3
end Go.Proofs.YtibihbclijpkjaaGreatDoor.Pkt
namespace Go.Proofs.YtibihbclijpkjaaGreatDoor.Pkt
open Go Go.RowKit
set_option linter.unusedSimpArgs false
set_option linter.unusedVariables false

def forms : List (List UInt8 × Int × Int) := [([], 0, 0), ([67, 111, 110, 110, 101, 99, 116], 0, 1023), ([67, 111, 110, 110, 97, 99, 107], 0, 3072), ([80, 117, 98, 108, 105, 115, 104], 0, 28672), ([80, 117, 98, 97, 99, 107], 0, 16384), ([80, 117, 98, 114, 101, 99], 0, 16384), ([80, 117, 98, 114, 101, 108], 2, 16384), ([80, 117, 98, 99, 111, 109, 112], 0, 16384), ([83, 117, 98, 115, 99, 114, 105, 98, 101], 2, 49152), ([83, 117, 98, 97, 99, 107], 0, 81920), ([85, 110, 115, 117, 98, 115, 99, 114, 105, 98, 101], 2, 147456), ([85, 110, 115, 117, 98, 97, 99, 107], 0, 16384), ([80, 105, 110, 103, 114, 101, 113], 0, 0), ([80, 105, 110, 103, 114, 101, 115, 112], 0, 0), ([68, 105, 115, 99, 111, 110, 110, 101, 99, 116], 0, 0)]
def form (i : Nat) : List UInt8 × Int × Int := forms.getD i ([], 0, 0)

theorem cells_of_forms {H : Type} {enc : TypeId × Value → H} {P : Program} {w : World} {base : Nat} {sp : Nat → Bool} {held : Bool} {fuel : Nat} {t e : TypeId} {f0 f1 f2 : Field} {n : Nat} {cs : List Value} {L : List (List UInt8 × Int × Int)} {p : List MemPlace}
    (ht : P.underlying t = some (.array n e)) (he : P.underlying e = some (.struct #[f0, f1, f2])) (hs : P.underlying f0.type = some .string) (h1 : P.underlying f1.type = some (.int .i64)) (h2 : P.underlying f2.type = some (.int .i64))
    (o0 : f0.offset = 0) (o1 : f1.offset = 1) (o2 : f2.offset = 2) (c0 : P.cellsOf f0.type = 1) (c1 : P.cellsOf f1.type = 1) (c2 : P.cellsOf f2.type = 1) (hce : P.cellsOf e = 3) (hct : P.cellsOf t = n * 3)
    (h : DataW.trod enc P w base sp held fuel t cs = some (.agg (L.map fun x => .agg [.lit (.string x.1), .lit (.int .i64 x.2.1), .lit (.int .i64 x.2.2)]), p)) :
    ∀ i x, L[i]? = some x → ∃ s : ByteArray, cs[i * 3]? = some (.string s) ∧ s.data.toList = x.1 ∧ cs[i * 3 + 1]? = some (.int .i64 x.2.1) ∧ cs[i * 3 + 2]? = some (.int .i64 x.2.2) := by
  cases fuel with
  | zero => simp [DataW.trod] at h
  | succ fuel =>
    simp only [DataW.trod, ht, hce, hct] at h
    split at h
    · rename_i hl
      obtain ⟨xs, hm, hx⟩ := Option.map_eq_some_iff.1 h
      have hxs : xs.map (·.1) = L.map fun x => (DataW.agg [.lit (.string x.1), .lit (.int .i64 x.2.1), .lit (.int .i64 x.2.2)] : DataW H) := by
        have := congrArg Prod.fst hx
        simpa using this
      have hxl : xs.length = n := by simpa using Lib.mapM_length hm
      have hLl : L.length = n := by
        have := congrArg List.length hxs
        simp at this
        omega
      intro i x hix
      have hi : i < n := by rw [← hLl]; exact (List.getElem?_eq_some_iff.1 hix).1
      obtain ⟨b, hb, hf⟩ := Lib.mapM_at hm i i (by simp [hi])
      have hbx : b.1 = .agg [.lit (.string x.1), .lit (.int .i64 x.2.1), .lit (.int .i64 x.2.2)] := by
        have e1 : (xs.map (·.1))[i]? = some b.1 := by simp [hb]
        rw [hxs] at e1
        simpa [hix] using e1.symm
      obtain ⟨y0, y1, y2, m, hy, _, t0, t1, t2⟩ := Deep.trod_struct3 he hf
      rw [o0, c0] at t0
      rw [o1, c1] at t1
      rw [o2, c2] at t2
      obtain ⟨s, hs1, hs2, _⟩ := DataW.trod_string hs t0
      obtain ⟨z1, hz1, hz2, _⟩ := DataW.trod_int h1 t1
      obtain ⟨z2, hw1, hw2, _⟩ := DataW.trod_int h2 t2
      rw [hy, hs2, hz2, hw2] at hbx
      simp at hbx
      obtain ⟨b1, b2, b3⟩ := hbx
      refine ⟨s, ?_, b1, ?_, ?_⟩
      · have := congrArg (·[0]?) hs1
        simpa [List.getElem?_take, List.getElem?_drop] using this
      · have := congrArg (·[0]?) hz1
        rw [← b2]
        simpa [List.getElem?_take, List.getElem?_drop, Nat.add_comm] using this
      · have := congrArg (·[0]?) hw1
        rw [← b3]
        simpa [List.getElem?_take, List.getElem?_drop, Nat.add_comm] using this
    · cases h

/-- The table of the kinds in memory. -/
def KindsAt (w : World) : Prop := ∀ i, i < 15 → (w.cell? ⟨0, i * 3, none⟩ = some (.string ⟨(form i).1.toArray⟩) ∧ w.cell? ⟨0, i * 3 + 1, none⟩ = some (.int .i64 (form i).2.1) ∧ w.cell? ⟨0, i * 3 + 2, none⟩ = some (.int .i64 (form i).2.2))

theorem Tryz.gk : Tryz.prog.globalNamed "crier/packet.kinds" = some 0 := by kernel_rfl
theorem Tryz.gkt : (Tryz.prog.globals[0]?).map (·.type) = some 99 := by kernel_rfl

theorem kinds_of_laid {W : World} (h : laidMetH Tryz.prog [("crier/packet.kinds", Rows.laid_crier_packet_kinds)] W) : KindsAt W := by
  have h' : laidMet Tryz.prog [("crier/packet.kinds", Rows.laid_crier_packet_kinds)] W := h
  obtain ⟨ps, ⟨g', t', cs, fuel, p, q, hg', ht', hvar, hd, _, _⟩, _⟩ := h'
  obtain rfl := Option.some.inj (Tryz.gk.symm.trans hg')
  obtain rfl := Option.some.inj (Tryz.gkt.symm.trans ht')
  have hx := cells_of_forms (L := forms) Tryz.underlying99 Tryz.underlying98 Tryz.underlying9 Tryz.underlying3 Tryz.underlying3 rfl rfl rfl (by kernel_rfl) (by kernel_rfl) (by kernel_rfl) (by kernel_rfl) (by kernel_rfl) hd
  intro i hi
  have hf : forms[i]? = some (form i) := by
    have : i < forms.length := hi
    simp [form, List.getD, this]
  obtain ⟨s, e1, e2, e3, e4⟩ := hx i _ hf
  have hs : s = ⟨(form i).1.toArray⟩ := by
    rw [← e2]
  refine ⟨?_, ?_, ?_⟩
  · rw [World.var?_cell Tryz.gk hvar (i * 3), ← hs]; simpa using e1
  · rw [World.var?_cell Tryz.gk hvar (i * 3 + 1)]; simpa using e3
  · rw [World.var?_cell Tryz.gk hvar (i * 3 + 2)]; simpa using e4
theorem KindsAt.below {w w' : World} (h : KindsAt w) (hb : Below w.heap.size w w') : KindsAt w' := fun i hi =>
  ⟨cell_later hb (h i hi).1, cell_later hb (h i hi).2.1, cell_later hb (h i hi).2.2⟩
end Go.Proofs.YtibihbclijpkjaaGreatDoor.Pkt
namespace Go.Proofs
open Go.Shelf
def Tryz.laysM138_ren : Go.Shelf.Ren := ⟨fun | 138 => 110 | 195 => 132 | 218 => 133 | 143 => 134 | 219 => 145 | 217 => 146 | 225 => 144 | 224 => 143 | 267 => 147 | 266 => 148 | 314 => 149 | n => n, fun | 9 => 9 | 3 => 3 | 4 => 4 | 5 => 5 | 0 => 0 | 46 => 71 | 146 => 183 | 51 => 182 | n => n, fun | 1 => 2 | n => n⟩
theorem Tryz.laysM138 : Go.Proofs.LaysM.n138 Tryz.prog Tryz.laysM138_ren := {
  mixed := by kernel_rfl
  f138 := Tryz.func110.trans (congrArg some (by kernel_rfl))
  f143 := Tryz.func134.trans (congrArg some (by kernel_rfl))
  f195 := Tryz.func132.trans (congrArg some (by kernel_rfl))
  f217 := Tryz.func146.trans (congrArg some (by kernel_rfl))
  f218 := Tryz.func133.trans (congrArg some (by kernel_rfl))
  f219 := Tryz.func145.trans (congrArg some (by kernel_rfl))
  f224 := Tryz.func143.trans (congrArg some (by kernel_rfl))
  f225 := Tryz.func144.trans (congrArg some (by kernel_rfl))
  f266 := Tryz.func148.trans (congrArg some (by kernel_rfl))
  f267 := Tryz.func147.trans (congrArg some (by kernel_rfl))
  f314 := Tryz.func149.trans (congrArg some (by kernel_rfl))
  t0 := Tryz.underlying0
  a0 := Tryz.isAgg0
  z0 := Tryz.sizeOf0
  v0 := Tryz.zeroValue0
  t3 := Tryz.underlying3
  a3 := Tryz.isAgg3
  z3 := Tryz.sizeOf3
  v3 := Tryz.zeroValue3
  t4 := Tryz.underlying4
  a4 := Tryz.isAgg4
  z4 := Tryz.sizeOf4
  v4 := Tryz.zeroValue4
  t5 := Tryz.underlying5
  a5 := Tryz.isAgg5
  z5 := Tryz.sizeOf5
  v5 := Tryz.zeroValue5
  t9 := Tryz.underlying9
  a9 := Tryz.isAgg9
  z9 := Tryz.sizeOf9
  v9 := Tryz.zeroValue9
  t46 := Tryz.underlying71
  a46 := Tryz.isAgg71
  z46 := Tryz.sizeOf71
  v46 := Tryz.zeroValue71
  t51 := Tryz.underlying182
  a51 := Tryz.isAgg182
  z51 := Tryz.sizeOf182
  v51 := Tryz.zeroValue182
  t146 := Tryz.underlying183
  a146 := Tryz.isAgg183
  z146 := Tryz.sizeOf183
  v146 := Tryz.zeroValue183
  g1 := by kernel_rfl
  i0 := by kernel_rfl
  i3 := by kernel_rfl
  i4 := by kernel_rfl
  i5 := by kernel_rfl
  i9 := by kernel_rfl
  i46 := by kernel_rfl
  i51 := by kernel_rfl
  i146 := by kernel_rfl
  m1 := by kernel_rfl
  s1_3 := fun w h => Go.Proofs.cell_of_shapedOpen_int (zero := #[.int .i64 0]) (t := 3) h (of_decide_eq_true (by kernel_rfl)) (by kernel_rfl) rfl (by kernel_rfl) (by kernel_rfl) Tryz.underlying3 }
end Go.Proofs
namespace Go.Proofs.YtibihbclijpkjaaGreatDoor
open Go Go.ChangeShapes Go.WideShapes Go.ChangeAt Go.RowKit
open Pkt (forms)
set_option linter.unusedSimpArgs false
set_option linter.unusedVariables false

theorem Tryz.own : ownKnob Tryz.prog.godebug = none := by kernel_rfl
theorem Tryz.laidOut : laidOutB Tryz.prog = true := by kernel_rfl

/-- The table's cells. -/
def kindCells : Array Value := (forms.flatMap fun x => [.string ⟨x.1.toArray⟩, .int .i64 x.2.1, .int .i64 x.2.2]).toArray

theorem laidWorld_met (os : Os) (args : Array Value) : laidMetH Tryz.prog [("crier/packet.kinds", Rows.laid_crier_packet_kinds)] (({ World.holding Tryz.prog os ⟨#[], #[], []⟩ with heap := (World.holding Tryz.prog os ⟨#[], #[], []⟩).heap.modify 0 fun
      | .cells _ t frozen => .cells kindCells t frozen
      | o => o } : World).forCall (fun _ _ => 0) ⟨#[], args, []⟩).memory := by
  have h : laidMet Tryz.prog [("crier/packet.kinds", Rows.laid_crier_packet_kinds)] (({ World.holding Tryz.prog os ⟨#[], #[], []⟩ with heap := (World.holding Tryz.prog os ⟨#[], #[], []⟩).heap.modify 0 fun
      | .cells _ t frozen => .cells kindCells t frozen
      | o => o } : World).forCall (fun _ _ => 0) ⟨#[], args, []⟩).memory := laidMet_of_run' 8 (by kernel_rfl) (by kernel_rfl)
  exact h
end Go.Proofs.YtibihbclijpkjaaGreatDoor
namespace Go.Proofs.YtibihbclijpkjaaGreatDoor
open Go Go.RowKit
set_option linter.unusedSimpArgs false
set_option linter.unusedVariables false

/-- A region that draws its order, in a deferred call that may recover. -/
theorem wpS_region_draw {P : Program} {Q : Exit → Act → List Frame → World → Prop} {a : Act} {cs : List Frame} {w : World} {id : Nat} {ops : Array Oper}
    (h : ∀ t, wpOpsS P ops Q (Region.schedule (P.follows .mixedOrders) ops t) a cs { w with drawn := w.drawn + 1 }) : (Code.region id ops true).wpS P Q a cs w :=
  fun b k hb hr => let ⟨e, a', cs', w', q, r⟩ := wp_opsS _ a cs _ (h _) b k hb hr; ⟨e, a', cs', w', q, .of_steps (.one step_region_draw) r⟩

/-- Something holds of every order in which a region's operations may come. -/
def AnyOrder (md : Region.Mode) (ops : Array Oper) : Nat → Array Bool → (List Nat → Prop) → Prop
  | 0, listed, F => Region.ready md ops listed = [] ∧ F []
  | fuel + 1, listed, F => (Region.ready md ops listed = [] → F []) ∧ ∀ i ∈ Region.ready md ops listed, AnyOrder md ops fuel (listed.setIfInBounds i true) fun l => F (i :: l)

theorem anyOrder_sound (md : Region.Mode) (ops : Array Oper) : ∀ (fuel t : Nat) (listed : Array Bool) (F : List Nat → Prop), AnyOrder md ops fuel listed F → F (Region.linearise.go md ops fuel t listed []) := by
  intro fuel
  induction fuel with
  | zero => intro t listed F h; simpa [Region.linearise.go] using h.2
  | succ fuel ih =>
    intro t listed F h
    obtain ⟨h₀, h₁⟩ := h
    simp only [Region.linearise.go]
    change F (match (Region.ready md ops listed)[t % (Region.ready md ops listed).length]? with
      | some i => Region.linearise.go md ops fuel (t / (Region.ready md ops listed).length) (listed.setIfInBounds i true) [i]
      | none => [].reverse)
    cases hi : (Region.ready md ops listed)[t % (Region.ready md ops listed).length]? with
    | none =>
      have hnil : Region.ready md ops listed = [] := by
        cases hr : Region.ready md ops listed with
        | nil => rfl
        | cons x xs =>
          rw [hr] at hi
          have hlt : t % (x :: xs).length < (x :: xs).length := Nat.mod_lt _ (by simp)
          simp at hi
          simp at hlt
          omega
      exact h₀ hnil
    | some i =>
      simp only []
      rw [linearise_go_acc, List.reverse_singleton, List.singleton_append]
      exact ih _ _ _ (h₁ i (List.mem_of_getElem? hi))

theorem wpS_region_any {P : Program} {Q : Exit → Act → List Frame → World → Prop} {a : Act} {cs : List Frame} {w : World} {id : Nat} {ops : Array Oper} (hm : P.follows .mixedOrders = true)
    (h : AnyOrder .any ops ops.size (Array.replicate ops.size false) fun l => wpOpsS P ops Q l a cs { w with drawn := w.drawn + 1 }) : (Code.region id ops true).wpS P Q a cs w :=
  wpS_region_draw fun t => by
    simp only [Region.schedule, hm, Bool.true_or, if_true]
    exact anyOrder_sound .any ops ops.size t _ _ h

/-! Worlds that part in one block alone. -/
theorem gb_refl (w : World) (r : Option Nat) : w.grownBy w r := ⟨rfl, rfl, rfl, Nat.le_refl _, fun _ _ _ => rfl⟩
theorem gb_trans {w w1 w2 : World} {r : Option Nat} (h : w.grownBy w1 r) (h' : w1.grownBy w2 r) : w.grownBy w2 r :=
  ⟨h'.os.trans h.os, h'.tape.trans h.tape, h'.output.trans h.output, Nat.le_trans h.size h'.size, fun k hk hn => (h'.block k (Nat.lt_of_lt_of_le hk h.size) hn).trans (h.block k hk hn)⟩
theorem gb_alloc {w w1 : World} {r : Option Nat} (h : w.grownBy w1 r) (o : Obj) : w.grownBy (w1.alloc o) r :=
  gb_trans h ⟨rfl, rfl, rfl, by simp, fun k hk _ => Below.heap_alloc w1 o k hk⟩
theorem gb_set {w w1 : World} {r : Nat} (h : w.grownBy w1 (some r)) (i : Nat) (v : Value) : w.grownBy (w1.setCell ⟨r, i, none⟩ v) (some r) :=
  gb_trans h ⟨rfl, rfl, rfl, by simp [World.setCell], fun k _ hn => Below.heap_setCell w1 _ v k (fun e => hn (by rw [e]))⟩
theorem gb_drew {w w1 : World} {r : Option Nat} (h : w.grownBy w1 r) : w.grownBy w1.drew r := gb_trans h ⟨rfl, rfl, rfl, Nat.le_refl _, fun _ _ _ => rfl⟩
theorem gb_new {w w1 : World} {r : Option Nat} (h : w.grownBy w1 r) {a : Addr} (ha : w.heap.size ≤ a.block) (v : Value) : w.grownBy (w1.setCell a v) r :=
  ⟨h.os, h.tape, h.output, by simpa [World.setCell] using h.size, fun k hk hn => (Below.heap_setCell w1 a v k (by omega)).trans (h.block k hk hn)⟩

end Go.Proofs.YtibihbclijpkjaaGreatDoor
