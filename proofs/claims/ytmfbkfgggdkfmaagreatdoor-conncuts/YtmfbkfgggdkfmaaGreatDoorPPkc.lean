import Derived.WalkKit
import Derived.ProofKit
namespace Go.Proofs.YtmfbkfgggdkfmaaGreatDoor.Pkt
open Go
set_option linter.unusedSimpArgs false
set_option linter.unusedVariables false

/-- A slice: its place, its length, its capacity. -/
structure Sl where
  a : Option Addr
  n : Nat
  c : Nat

/-- What a packet is, cell by cell. -/
structure Pk where
  kind : Int
  level : Int
  clean : Bool
  keep : Int
  client : ByteArray
  hasWill : Bool
  wT : ByteArray
  wP : Sl
  wQ : Int
  wR : Bool
  hasUser : Bool
  user : ByteArray
  hasPass : Bool
  pass : Sl
  present : Bool
  code : Int
  dup : Bool
  mT : ByteArray
  mP : Sl
  mQ : Int
  mR : Bool
  id : Int
  asks : Sl
  codes : Sl
  filters : Sl

def Sl.v (s : Sl) : Value := .slice s.a s.n s.c

def Pk.v (p : Pk) : Value := .agg #[.int .i64 p.kind, .int .i64 p.level, .bool p.clean, .int .i64 p.keep, .string p.client, .bool p.hasWill, .string p.wT, p.wP.v, .int .i64 p.wQ, .bool p.wR, .bool p.hasUser, .string p.user, .bool p.hasPass, p.pass.v, .bool p.present, .int .i64 p.code, .bool p.dup, .string p.mT, p.mP.v, .int .i64 p.mQ, .bool p.mR, .int .i64 p.id, p.asks.v, p.codes.v, p.filters.v]

/-! ### bits -/
theorem bits_ofNat (a : Nat) (ha : a < 4611686018427387904) : (BitVec.ofInt 64 (a : Int)).toNat = a := by
  rw [BitVec.ofInt_natCast, BitVec.toNat_ofNat]; exact Nat.mod_eq_of_lt (by omega)
theorem wrap_small (a : Nat) (ha : a < 4611686018427387904) : IntKind.i64.wrap (a : Int) = (a : Int) := by
  rw [IntKind.wrap_i64]; omega
theorem bits_or (a b : Nat) (ha : a < 4611686018427387904) (hb : b < 4611686018427387904) : bits .or .i64 (a : Int) (b : Int) = ((a ||| b : Nat) : Int) := by
  have hx : a ||| b < 2 ^ 62 := Nat.or_lt_two_pow (by omega) (by omega)
  show IntKind.i64.wrap ((BitVec.ofInt 64 (a : Int) ||| BitVec.ofInt 64 (b : Int)).toNat : Int) = _
  rw [BitVec.toNat_or, bits_ofNat a ha, bits_ofNat b hb]
  exact wrap_small _ (by omega)
theorem bits_and (a b : Nat) (ha : a < 4611686018427387904) (hb : b < 4611686018427387904) : bits .and .i64 (a : Int) (b : Int) = ((a &&& b : Nat) : Int) := by
  have hx : a &&& b < 2 ^ 62 := Nat.and_lt_two_pow _ (by omega)
  show IntKind.i64.wrap ((BitVec.ofInt 64 (a : Int) &&& BitVec.ofInt 64 (b : Int)).toNat : Int) = _
  rw [BitVec.toNat_and, bits_ofNat a ha, bits_ofNat b hb]
  exact wrap_small _ (by omega)
theorem bits_andNot (a b : Nat) (ha : a < 4611686018427387904) (hb : b < 4611686018427387904) : bits .andNot .i64 (a : Int) (b : Int) = ((a &&& (18446744073709551615 - b) : Nat) : Int) := by
  have hx : (18446744073709551615 - b) &&& a < 2 ^ 62 := Nat.and_lt_two_pow _ (by omega)
  show IntKind.i64.wrap ((BitVec.ofInt 64 (a : Int) &&& ~~~ BitVec.ofInt 64 (b : Int)).toNat : Int) = _
  rw [BitVec.toNat_and, BitVec.toNat_not, bits_ofNat a ha, bits_ofNat b hb]
  rw [Nat.and_comm] at hx
  exact wrap_small _ (by omega)

/-- A mark: the bit, if it is so. -/
def mk (b : Bool) (n : Nat) : Nat := if b then n else 0
theorem mk_lt (b : Bool) (n : Nat) (h : n < 262144) : mk b n < 262144 := by unfold mk; split <;> omega
theorem or_lt {a b : Nat} (ha : a < 262144) (hb : b < 262144) : a ||| b < 262144 := Nat.or_lt_two_pow (n := 18) (by omega) (by omega)
/-- What of a packet isn't zero. -/
def gv (p : Pk) : Nat :=
  mk (p.level != 0) 1 ||| mk p.clean 2 ||| mk (p.keep != 0) 4 ||| mk (p.client.size != 0) 8 ||| mk p.hasWill 16 ||| mk (! (decide (p.wT.size = 0) && decide (p.wQ = 0) && !p.wR && decide (p.wP.n = 0))) 32 ||| mk p.hasUser 64 ||| mk (p.user.size != 0) 128 ||| mk p.hasPass 256 |||
  mk (p.pass.n != 0) 512 ||| mk p.present 1024 ||| mk (p.code != 0) 2048 ||| mk p.dup 4096 ||| mk (! (decide (p.mT.size = 0) && decide (p.mQ = 0) && !p.mR && decide (p.mP.n = 0))) 8192 ||| mk (p.id != 0) 16384 ||| mk (p.asks.n != 0) 32768 ||| mk (p.codes.n != 0) 65536 ||| mk (p.filters.n != 0) 131072

/-- The fields of a kind. -/
def had : Nat → Nat
  | 1 => 1023 | 2 => 3072 | 3 => 28672 | 4 => 16384 | 5 => 16384 | 6 => 16384 | 7 => 16384 | 8 => 49152 | 9 => 81920 | 10 => 147456 | 11 => 16384 | _ => 0
def off (p : Pk) : Nat := mk (!p.hasWill) 32 ||| mk (!p.hasUser) 128 ||| mk (!p.hasPass) 512 ||| mk (decide (p.kind = 3) && decide (p.mQ = 0)) 16384
def fl (p : Pk) : Nat := had p.kind.toNat &&& (18446744073709551615 - off p)
theorem had_lt (n : Nat) : had n < 262144 := by unfold had; split <;> omega
theorem off_lt (p : Pk) : off p < 262144 := or_lt (or_lt (or_lt (mk_lt _ _ (by decide)) (mk_lt _ _ (by decide))) (mk_lt _ _ (by decide))) (mk_lt _ _ (by decide))
theorem fl_lt (p : Pk) : fl p < 262144 := by
  have h := had_lt p.kind.toNat
  exact Nat.lt_of_le_of_lt Nat.and_le_left h
theorem gv_lt (p : Pk) : gv p < 262144 := by
  unfold gv
  repeat' first | exact mk_lt _ _ (by decide) | apply or_lt

end Go.Proofs.YtmfbkfgggdkfmaaGreatDoor.Pkt
namespace Go.Proofs.YtmfbkfgggdkfmaaGreatDoor.Pkt
open Go
set_option linter.unusedSimpArgs false
set_option linter.unusedVariables false

theorem mk_bit (b : Bool) (k i : Nat) : (mk b (2 ^ k)).testBit i = (b && decide (k = i)) := by
  cases b <;> simp [mk, Nat.testBit_two_pow]
theorem mk_bit5 (b : Bool) (i : Nat) : (mk b 32).testBit i = (b && decide (5 = i)) := mk_bit b 5 i
theorem mk_bit7 (b : Bool) (i : Nat) : (mk b 128).testBit i = (b && decide (7 = i)) := mk_bit b 7 i
theorem mk_bit9 (b : Bool) (i : Nat) : (mk b 512).testBit i = (b && decide (9 = i)) := mk_bit b 9 i
theorem mk_bit14 (b : Bool) (i : Nat) : (mk b 16384).testBit i = (b && decide (14 = i)) := mk_bit b 14 i
theorem off_bit14 (p : Pk) : (off p).testBit 14 = ((decide (p.kind = 3) && decide (p.mQ = 0))) := by
  simp only [off, Nat.testBit_or, mk_bit5, mk_bit7, mk_bit9, mk_bit14]
  simp
theorem and_zero_iff (x y : Nat) (hx : x < 262144) : x &&& y = 0 ↔ ∀ i, i < 18 → x.testBit i = true → y.testBit i = false := by
  constructor
  · intro h i hi hb
    have := congrArg (fun n => n.testBit i) h
    simp only [Nat.testBit_and, hb, Bool.true_and, Nat.zero_testBit] at this
    exact this
  · intro h
    apply Nat.eq_of_testBit_eq
    intro i
    rw [Nat.testBit_and, Nat.zero_testBit]
    by_cases hi : i < 18
    · cases hb : x.testBit i with
      | false => simp
      | true => simp [h i hi hb]
    · have : x.testBit i = false := Nat.testBit_lt_two_pow (Nat.lt_of_lt_of_le hx (by
        have : 2 ^ 18 ≤ 2 ^ i := Nat.pow_le_pow_right (by decide) (by omega)
        omega))
      simp [this]
theorem not_bit (x i : Nat) (hx : x < 18446744073709551616) (hi : i < 64) : (18446744073709551615 - x).testBit i = !x.testBit i := by
  have h := BitVec.toNat_not (x := BitVec.ofNat 64 x)
  have hx' : (BitVec.ofNat 64 x).toNat = x := by rw [BitVec.toNat_ofNat]; exact Nat.mod_eq_of_lt hx
  rw [hx'] at h
  have e : (18446744073709551615 - x) = (~~~ BitVec.ofNat 64 x).toNat := by rw [h]
  rw [e, BitVec.testBit_toNat, BitVec.getLsbD_not, ← BitVec.testBit_toNat, hx']
  simp [hi]
theorem fl_bit (p : Pk) (i : Nat) (hi : i < 18) : (fl p).testBit i = ((had p.kind.toNat).testBit i && !(off p).testBit i) := by
  unfold fl
  rw [Nat.testBit_and, not_bit _ _ (by have := off_lt p; omega) (by omega)]
/-- Which packets have a number. -/
def hasID (p : Pk) : Bool := (decide (p.kind = 3) && decide (p.mQ ≠ 0)) || (decide (4 ≤ p.kind) && decide (p.kind ≤ 11))

structure Own (p : Pk) : Prop where
  level : p.kind ≠ 1 → p.level = 0
  clean : p.kind ≠ 1 → p.clean = false
  keep : p.kind ≠ 1 → p.keep = 0
  client : p.kind ≠ 1 → p.client.size = 0
  hasWill : p.kind ≠ 1 → p.hasWill = false
  will : ¬ (p.kind = 1 ∧ p.hasWill = true) → p.wT.size = 0 ∧ p.wQ = 0 ∧ p.wR = false ∧ p.wP.n = 0
  hasUser : p.kind ≠ 1 → p.hasUser = false
  user : ¬ (p.kind = 1 ∧ p.hasUser = true) → p.user.size = 0
  hasPass : p.kind ≠ 1 → p.hasPass = false
  pass : ¬ (p.kind = 1 ∧ p.hasPass = true) → p.pass.n = 0
  present : p.kind ≠ 2 → p.present = false
  code : p.kind ≠ 2 → p.code = 0
  dup : p.kind ≠ 3 → p.dup = false
  msg : p.kind ≠ 3 → p.mT.size = 0 ∧ p.mQ = 0 ∧ p.mR = false ∧ p.mP.n = 0
  id : hasID p = false → p.id = 0
  asks : p.kind ≠ 8 → p.asks.n = 0
  codes : p.kind ≠ 9 → p.codes.n = 0
  filters : p.kind ≠ 10 → p.filters.n = 0

end Go.Proofs.YtmfbkfgggdkfmaaGreatDoor.Pkt
namespace Go.Proofs.YtmfbkfgggdkfmaaGreatDoor.Pkt
open Go
set_option linter.unusedSimpArgs false
set_option linter.unusedVariables false

/-- What lies in a packet's lists. -/
structure Cn where
  wz : Nat → Int
  pz : Nat → Int
  mz : Nat → Int
  af : Nat → ByteArray
  aq : Nat → Int
  cs : Nat → Int
  fs : Nat → ByteArray

/-- What is told of texts. -/
structure Tx where
  txt : ByteArray → Bool
  top : ByteArray → Bool
  flt : ByteArray → Bool

def allN (n : Nat) (f : Nat → Bool) : Bool := (List.range n).all f
theorem allN_iff (n : Nat) (f : Nat → Bool) : allN n f = true ↔ ∀ i, i < n → f i = true := by
  simp [allN, List.all_eq_true, List.mem_range]
theorem allN_false {n : Nat} {f : Nat → Bool} (i : Nat) (hi : i < n) (h : f i = false) : allN n f = false := by
  cases hh : allN n f with
  | false => rfl
  | true => rw [(allN_iff n f).1 hh i hi] at h; cases h
def sumN (f : Nat → Nat) : Nat → Nat
  | 0 => 0
  | n + 1 => sumN f n + f n
theorem sumN_le (f : Nat → Nat) (n m : Nat) (h : n ≤ m) : sumN f n ≤ sumN f m := by
  induction m with
  | zero => obtain rfl : n = 0 := by omega
            exact Nat.le_refl _
  | succ m ih =>
    by_cases e : n = m + 1
    · subst e; exact Nat.le_refl _
    · have := ih (by omega)
      simp only [sumN]; omega
theorem sumN_congr (f g : Nat → Nat) (n : Nat) (h : ∀ i, i < n → f i = g i) : sumN f n = sumN g n := by
  induction n with
  | zero => rfl
  | succ n ih => simp only [sumN]; rw [ih (fun i hi => h i (by omega)), h n (by omega)]
def isQ (q : Int) : Bool := decide (0 ≤ q) && decide (q ≤ 2)
def isC (c : Int) : Bool := isQ c || decide (c = 128)
def bnd (p : Pk) : Bool := decide (0 ≤ p.level) && decide (p.level ≤ 255) && decide (0 ≤ p.code) && decide (p.code ≤ 255) && decide (0 ≤ p.keep) && decide (p.keep ≤ 65535)
def tps (T : Tx) (p : Pk) : Bool := !(p.hasWill && !T.top p.wT) && (decide (p.kind ≠ 3) || T.top p.mT)
def flts (T : Tx) (p : Pk) (c : Cn) : Bool := allN p.asks.n (fun i => T.flt (c.af i)) && allN p.filters.n (fun i => T.flt (c.fs i))
def qls (p : Pk) (c : Cn) : Bool := isQ p.wQ && isQ p.mQ && allN p.asks.n (fun i => isQ (c.aq i)) && allN p.codes.n (fun i => isC (c.cs i))
def nid (p : Pk) : Nat := if hasID p then 2 else 0
def szc (p : Pk) : Nat := 12 + p.client.size + (if p.hasWill then 4 + p.wT.size + p.wP.n else 0) + (if p.hasUser then 2 + p.user.size else 0) + if p.hasPass then 2 + p.pass.n else 0
def sz (p : Pk) (c : Cn) : Nat :=
  if p.kind = 1 then szc p else if p.kind = 2 then 2 else if p.kind = 3 then nid p + 2 + p.mT.size + p.mP.n
  else nid p + sumN (fun i => 3 + (c.af i).size) p.asks.n + sumN (fun i => 2 + (c.fs i).size) p.filters.n + p.codes.n

def isK (k : Int) : Bool := decide (1 ≤ k) && decide (k ≤ 14)
def bad1 (p : Pk) : Bool := (gv p &&& (18446744073709551615 - fl p) != 0) || !bnd p
def bad2 (T : Tx) (p : Pk) : Bool := !T.txt p.client || !T.txt p.user
def bad6 (p : Pk) : Bool := (fl p &&& 16384 != 0) && (decide (p.id < 1) || decide (65535 < p.id))
def bad7 (p : Pk) (c : Cn) : Bool := decide (65535 < p.wP.n) || decide (65535 < p.pass.n) || decide (268435455 < sz p c)
def bad8 (p : Pk) : Bool := (fl p &&& 229376 != 0) && (gv p &&& 229376 == 0)
def bad9 (p : Pk) : Bool := (p.hasPass && !p.hasUser) || (p.dup && decide (p.mQ = 0)) || (p.present && decide (p.code ≠ 0))
def ck (T : Tx) (p : Pk) (c : Cn) : Nat :=
  if !isK p.kind then 20 else if bad1 p then 21 else if bad2 T p then 22 else if !tps T p then 23 else if !flts T p c then 24 else if !qls p c then 25
  else if bad6 p then 26 else if bad7 p c then 27 else if bad8 p then 28 else if bad9 p then 29 else 0

theorem and_one (x k : Nat) (hx : x < 262144) (hk : k < 18) : x &&& 2 ^ k = 0 ↔ x.testBit k = false := by
  rw [and_zero_iff x _ hx]
  constructor
  · intro h
    cases hb : x.testBit k with
    | false => rfl
    | true => have := h k hk hb; simp [Nat.testBit_two_pow] at this
  · intro h i hi hb
    rw [Nat.testBit_two_pow]
    by_cases e : k = i
    · subst e; rw [h] at hb; cases hb
    · simp [e]
theorem had_id : ∀ n, n < 15 → (had n).testBit 14 = decide (3 ≤ n ∧ n ≤ 11) := by decide
theorem fl_id (p : Pk) (h1 : 1 ≤ p.kind) (h2 : p.kind ≤ 14) : (fl p &&& 16384 != 0) = hasID p := by
  have e : fl p &&& 16384 = 0 ↔ (fl p).testBit 14 = false := and_one _ 14 (fl_lt p) (by decide)
  rw [fl_bit p 14 (by decide), off_bit14, had_id _ (by omega)] at e
  have e' : (fl p &&& 16384 = 0) ↔ hasID p = false := by
    rw [e]
    unfold hasID
    by_cases h3 : p.kind = 3
    · simp [h3]
    · by_cases h4 : 4 ≤ p.kind <;> by_cases h5 : p.kind ≤ 11 <;> simp [h3, h4, h5] <;> omega
  cases hh : hasID p with
  | false => rw [e'.2 hh]; rfl
  | true =>
    rw [bne_iff_ne]
    intro h0
    rw [e'.1 h0] at hh; cases hh
/-- A right packet. -/
structure Right (T : Tx) (p : Pk) (c : Cn) : Prop where
  k1 : 1 ≤ p.kind
  k2 : p.kind ≤ 14
  own : Own p
  bd : bnd p = true
  t1 : T.txt p.client = true
  t2 : T.txt p.user = true
  tp : tps T p = true
  ft : flts T p c = true
  ql : qls p c = true
  id : hasID p = true → 1 ≤ p.id ∧ p.id ≤ 65535
  s1 : p.wP.n ≤ 65535
  s2 : p.pass.n ≤ 65535
  s3 : sz p c ≤ 268435455
  ne : p.kind = 8 ∨ p.kind = 9 ∨ p.kind = 10 → ¬ (p.asks.n = 0 ∧ p.codes.n = 0 ∧ p.filters.n = 0)
  m1 : p.hasPass = true → p.hasUser = true
  m2 : p.dup = true → p.mQ ≠ 0
  m3 : p.present = true → p.code = 0

end Go.Proofs.YtmfbkfgggdkfmaaGreatDoor.Pkt
