import Derived.WalkKit
import Derived.ProofKit
namespace Go.Proofs.YtdanjbbemmngnaaDoor
open Go
set_option linter.unusedSimpArgs false
set_option linter.unusedVariables false

/-- A slice: its place, its length, its capacity. -/
structure Sl where
  a : Option Addr
  n : Nat
  c : Nat

/-- What a packet is, cell by cell. -/
structure Pk where
  kind : Int
  level : Int
  clean : Bool
  keep : Int
  client : ByteArray
  hasWill : Bool
  wT : ByteArray
  wP : Sl
  wQ : Int
  wR : Bool
  hasUser : Bool
  user : ByteArray
  hasPass : Bool
  pass : Sl
  present : Bool
  code : Int
  dup : Bool
  mT : ByteArray
  mP : Sl
  mQ : Int
  mR : Bool
  id : Int
  asks : Sl
  codes : Sl
  filters : Sl

def Sl.v (s : Sl) : Value := .slice s.a s.n s.c

def Pk.v (p : Pk) : Value := .agg #[.int .i64 p.kind, .int .i64 p.level, .bool p.clean, .int .i64 p.keep, .string p.client, .bool p.hasWill, .string p.wT, p.wP.v, .int .i64 p.wQ, .bool p.wR, .bool p.hasUser, .string p.user, .bool p.hasPass, p.pass.v, .bool p.present, .int .i64 p.code, .bool p.dup, .string p.mT, p.mP.v, .int .i64 p.mQ, .bool p.mR, .int .i64 p.id, p.asks.v, p.codes.v, p.filters.v]

/-! ### bits -/
theorem bits_ofNat (a : Nat) (ha : a < 4611686018427387904) : (BitVec.ofInt 64 (a : Int)).toNat = a := by
  rw [BitVec.ofInt_natCast, BitVec.toNat_ofNat]; exact Nat.mod_eq_of_lt (by omega)
theorem wrap_small (a : Nat) (ha : a < 4611686018427387904) : IntKind.i64.wrap (a : Int) = (a : Int) := by
  rw [IntKind.wrap_i64]; omega
theorem bits_or (a b : Nat) (ha : a < 4611686018427387904) (hb : b < 4611686018427387904) : bits .or .i64 (a : Int) (b : Int) = ((a ||| b : Nat) : Int) := by
  have hx : a ||| b < 2 ^ 62 := Nat.or_lt_two_pow (by omega) (by omega)
  show IntKind.i64.wrap ((BitVec.ofInt 64 (a : Int) ||| BitVec.ofInt 64 (b : Int)).toNat : Int) = _
  rw [BitVec.toNat_or, bits_ofNat a ha, bits_ofNat b hb]
  exact wrap_small _ (by omega)
theorem bits_and (a b : Nat) (ha : a < 4611686018427387904) (hb : b < 4611686018427387904) : bits .and .i64 (a : Int) (b : Int) = ((a &&& b : Nat) : Int) := by
  have hx : a &&& b < 2 ^ 62 := Nat.and_lt_two_pow _ (by omega)
  show IntKind.i64.wrap ((BitVec.ofInt 64 (a : Int) &&& BitVec.ofInt 64 (b : Int)).toNat : Int) = _
  rw [BitVec.toNat_and, bits_ofNat a ha, bits_ofNat b hb]
  exact wrap_small _ (by omega)
theorem bits_andNot (a b : Nat) (ha : a < 4611686018427387904) (hb : b < 4611686018427387904) : bits .andNot .i64 (a : Int) (b : Int) = ((a &&& (18446744073709551615 - b) : Nat) : Int) := by
  have hx : (18446744073709551615 - b) &&& a < 2 ^ 62 := Nat.and_lt_two_pow _ (by omega)
  show IntKind.i64.wrap ((BitVec.ofInt 64 (a : Int) &&& ~~~ BitVec.ofInt 64 (b : Int)).toNat : Int) = _
  rw [BitVec.toNat_and, BitVec.toNat_not, bits_ofNat a ha, bits_ofNat b hb]
  rw [Nat.and_comm] at hx
  exact wrap_small _ (by omega)

/-- A mark: the bit, if it is so. -/
def mk (b : Bool) (n : Nat) : Nat := if b then n else 0
theorem mk_lt (b : Bool) (n : Nat) (h : n < 262144) : mk b n < 262144 := by unfold mk; split <;> omega
theorem or_lt {a b : Nat} (ha : a < 262144) (hb : b < 262144) : a ||| b < 262144 := Nat.or_lt_two_pow (n := 18) (by omega) (by omega)
theorem mk_and (b : Bool) (n m : Nat) : mk b n &&& m = mk b (n &&& m) := by cases b <;> simp [mk]
theorem mk_zero (b : Bool) : mk b 0 = 0 := by cases b <;> rfl
theorem mk_eq_zero (b : Bool) (n : Nat) (h : n ≠ 0) : mk b n = 0 ↔ b = false := by cases b <;> simp [mk, h]

/-- What of a packet isn't zero. -/
def gv (p : Pk) : Nat :=
  mk (p.level != 0) 1 ||| mk p.clean 2 ||| mk (p.keep != 0) 4 ||| mk (p.client.size != 0) 8 ||| mk p.hasWill 16 ||| mk (! (decide (p.wT.size = 0) && decide (p.wQ = 0) && !p.wR && decide (p.wP.n = 0))) 32 ||| mk p.hasUser 64 ||| mk (p.user.size != 0) 128 ||| mk p.hasPass 256 |||
  mk (p.pass.n != 0) 512 ||| mk p.present 1024 ||| mk (p.code != 0) 2048 ||| mk p.dup 4096 ||| mk (! (decide (p.mT.size = 0) && decide (p.mQ = 0) && !p.mR && decide (p.mP.n = 0))) 8192 ||| mk (p.id != 0) 16384 ||| mk (p.asks.n != 0) 32768 ||| mk (p.codes.n != 0) 65536 ||| mk (p.filters.n != 0) 131072

/-- The fields of a kind. -/
def had : Nat → Nat
  | 1 => 1023 | 2 => 3072 | 3 => 28672 | 4 => 16384 | 5 => 16384 | 6 => 16384 | 7 => 16384 | 8 => 49152 | 9 => 81920 | 10 => 147456 | 11 => 16384 | _ => 0
def off (p : Pk) : Nat := mk (!p.hasWill) 32 ||| mk (!p.hasUser) 128 ||| mk (!p.hasPass) 512 ||| mk (decide (p.kind = 3) && decide (p.mQ = 0)) 16384
def fl (p : Pk) : Nat := had p.kind.toNat &&& (18446744073709551615 - off p)
theorem had_lt (n : Nat) : had n < 262144 := by unfold had; split <;> omega
theorem off_lt (p : Pk) : off p < 262144 := or_lt (or_lt (or_lt (mk_lt _ _ (by decide)) (mk_lt _ _ (by decide))) (mk_lt _ _ (by decide))) (mk_lt _ _ (by decide))
theorem fl_lt (p : Pk) : fl p < 262144 := by
  have h := had_lt p.kind.toNat
  exact Nat.lt_of_le_of_lt Nat.and_le_left h
theorem gv_lt (p : Pk) : gv p < 262144 := by
  unfold gv
  repeat' first | exact mk_lt _ _ (by decide) | apply or_lt

end Go.Proofs.YtdanjbbemmngnaaDoor
