import Derived.Test.YtkjeneklkdekoaaGreatDoorProg
import Derived.WalkKit
import Derived.WalkSpells
import Derived.WalkLawsBesides
import Derived.Laws.BitsAllLaws
namespace Go.Proofs.YtkjeneklkdekoaaGreatDoor.Rm
open Go.RowKit
set_option linter.unusedSimpArgs false
set_option linter.unusedVariables false

/-- The length at the beginning of so many bytes, these being the first. -/
def lenX (len : Nat) (x0 x1 x2 x3 : Int) : Int × Int × Int :=
  if len = 0 then (0, 0, 10) else if x0 < 128 then (x0 % 128, 1, 0)
  else if len = 1 then (0, 0, 10) else if x1 < 128 then (x0 % 128 + x1 % 128 * 128, 2, 0)
  else if len = 2 then (0, 0, 10) else if x2 < 128 then (x0 % 128 + x1 % 128 * 128 + x2 % 128 * 16384, 3, 0)
  else if len = 3 then (0, 0, 10) else if x3 < 128 then (x0 % 128 + x1 % 128 * 128 + x2 % 128 * 16384 + x3 % 128 * 2097152, 4, 0) else (0, 0, 12)
theorem lenX_short0 {len : Nat} {x0 x1 x2 x3 : Int}  (h : len = 0) : lenX len x0 x1 x2 x3 = (0, 0, 10) := by simp [lenX, h]
theorem lenX_done0 {len : Nat} {x0 x1 x2 x3 : Int}  (a : ¬ len = 0) (h : x0 < 128) : lenX len x0 x1 x2 x3 = (x0 % 128, 1, 0) := by simp [lenX, a, h]
theorem lenX_short1 {len : Nat} {x0 x1 x2 x3 : Int} (a0 : ¬ len = 0) (b0 : ¬ x0 < 128) (h : len = 1) : lenX len x0 x1 x2 x3 = (0, 0, 10) := by simp [lenX, a0, b0, h]
theorem lenX_done1 {len : Nat} {x0 x1 x2 x3 : Int} (a0 : ¬ len = 0) (b0 : ¬ x0 < 128) (a : ¬ len = 1) (h : x1 < 128) : lenX len x0 x1 x2 x3 = (x0 % 128 + x1 % 128 * 128, 2, 0) := by simp [lenX, a0, b0, a, h]
theorem lenX_short2 {len : Nat} {x0 x1 x2 x3 : Int} (a0 : ¬ len = 0) (b0 : ¬ x0 < 128) (a1 : ¬ len = 1) (b1 : ¬ x1 < 128) (h : len = 2) : lenX len x0 x1 x2 x3 = (0, 0, 10) := by simp [lenX, a0, b0, a1, b1, h]
theorem lenX_done2 {len : Nat} {x0 x1 x2 x3 : Int} (a0 : ¬ len = 0) (b0 : ¬ x0 < 128) (a1 : ¬ len = 1) (b1 : ¬ x1 < 128) (a : ¬ len = 2) (h : x2 < 128) : lenX len x0 x1 x2 x3 = (x0 % 128 + x1 % 128 * 128 + x2 % 128 * 16384, 3, 0) := by simp [lenX, a0, b0, a1, b1, a, h]
theorem lenX_short3 {len : Nat} {x0 x1 x2 x3 : Int} (a0 : ¬ len = 0) (b0 : ¬ x0 < 128) (a1 : ¬ len = 1) (b1 : ¬ x1 < 128) (a2 : ¬ len = 2) (b2 : ¬ x2 < 128) (h : len = 3) : lenX len x0 x1 x2 x3 = (0, 0, 10) := by simp [lenX, a0, b0, a1, b1, a2, b2, h]
theorem lenX_done3 {len : Nat} {x0 x1 x2 x3 : Int} (a0 : ¬ len = 0) (b0 : ¬ x0 < 128) (a1 : ¬ len = 1) (b1 : ¬ x1 < 128) (a2 : ¬ len = 2) (b2 : ¬ x2 < 128) (a : ¬ len = 3) (h : x3 < 128) : lenX len x0 x1 x2 x3 = (x0 % 128 + x1 % 128 * 128 + x2 % 128 * 16384 + x3 % 128 * 2097152, 4, 0) := by simp [lenX, a0, b0, a1, b1, a2, b2, a, h]
theorem lenX_form {len : Nat} {x0 x1 x2 x3 : Int} (a0 : ¬ len = 0) (b0 : ¬ x0 < 128) (a1 : ¬ len = 1) (b1 : ¬ x1 < 128) (a2 : ¬ len = 2) (b2 : ¬ x2 < 128) (a3 : ¬ len = 3) (b3 : ¬ x3 < 128) : lenX len x0 x1 x2 x3 = (0, 0, 12) := by simp [lenX, a0, b0, a1, b1, a2, b2, a3, b3]

set_option maxHeartbeats 1000000 in
theorem rlen_some (b off len cap : Nat) (x0 x1 x2 x3 : Int) (w : World) (hm : len ≤ 1000000) (z0 : 0 ≤ x0 ∧ x0 ≤ 255) (z1 : 0 ≤ x1 ∧ x1 ≤ 255) (z2 : 0 ≤ x2 ∧ x2 ≤ 255) (z3 : 0 ≤ x3 ∧ x3 ≤ 255) (c0 : 0 < len → w.cell? ⟨b, off, none⟩ = some (.int .u8 x0)) (c1 : 1 < len → w.cell? ⟨b, off + 1, none⟩ = some (.int .u8 x1)) (c2 : 2 < len → w.cell? ⟨b, off + 2, none⟩ = some (.int .u8 x2)) (c3 : 3 < len → w.cell? ⟨b, off + 3, none⟩ = some (.int .u8 x3)) :
    Calls Tryz.prog 117 #[.slice (some ⟨b, off, none⟩) len cap] w fun e w' => e = .returned (.tuple #[.int .i64 (lenX len x0 x1 x2 x3).1, .int .i64 (lenX len x0 x1 x2 x3).2.1, .int .i64 (lenX len x0 x1 x2 x3).2.2]) ∧ w' = w := by
  go_enter Tryz.func117, Tryz.ntmps117
  go_wp2
  go_loop [5, 6, 7] (fun n u i => (i = .int .i64 0 ∧ n = .int .i64 (0) ∧ u = .int .i64 1) ∨ (i = .int .i64 1 ∧ n = .int .i64 (x0 % 128) ∧ u = .int .i64 128 ∧ ¬ len = 0 ∧ ¬ x0 < 128) ∨ (i = .int .i64 2 ∧ n = .int .i64 (x0 % 128 + x1 % 128 * 128) ∧ u = .int .i64 16384 ∧ ¬ len = 0 ∧ ¬ x0 < 128 ∧ ¬ len = 1 ∧ ¬ x1 < 128) ∨ (i = .int .i64 3 ∧ n = .int .i64 (x0 % 128 + x1 % 128 * 128 + x2 % 128 * 16384) ∧ u = .int .i64 2097152 ∧ ¬ len = 0 ∧ ¬ x0 < 128 ∧ ¬ len = 1 ∧ ¬ x1 < 128 ∧ ¬ len = 2 ∧ ¬ x2 < 128) ∨ (i = .int .i64 4 ∧ n = .int .i64 (x0 % 128 + x1 % 128 * 128 + x2 % 128 * 16384 + x3 % 128 * 2097152) ∧ u = .int .i64 268435456 ∧ ¬ len = 0 ∧ ¬ x0 < 128 ∧ ¬ len = 1 ∧ ¬ x1 < 128 ∧ ¬ len = 2 ∧ ¬ x2 < 128 ∧ ¬ len = 3 ∧ ¬ x3 < 128)) (fun _ _ i => 4 - (intOf i).toNat)
  case atStart => exact .inl ⟨rfl, rfl, rfl⟩
  case round =>
    rcases hrel with ⟨rfl, rfl, rfl⟩ | ⟨rfl, rfl, rfl, a0, b0⟩ | ⟨rfl, rfl, rfl, a0, b0, a1, b1⟩ | ⟨rfl, rfl, rfl, a0, b0, a1, b1, a2, b2⟩ | ⟨rfl, rfl, rfl, a0, b0, a1, b1, a2, b2, a3, b3⟩
    · by_cases a0 : len = 0
      · have HR : Hid (lenX len x0 x1 x2 x3 = (0, 0, 10)) := lenX_short0  a0
        subst a0
        go_wp2
        go_ret3
        exact ⟨by rw [HR.out]; rfl, rfl⟩
      · have q : ¬ (len : Int) ≤ 0 := by omega
        have hc := c0 (by omega)
        clear c0 c1 c2 c3
        by_cases b0 : x0 < 128
        · have HR : Hid (lenX len x0 x1 x2 x3 = (x0 % 128, 1, 0)) := lenX_done0  a0 b0
          go_wp2
          go_ret3
          exact ⟨by rw [HR.out]; first | rfl | go_num, rfl⟩
        · go_wp2
          go_round
          case rel => exact .inr (.inl ⟨rfl, by go_num, rfl, a0, b0⟩)
          case measure => simp [intOf]
    · by_cases a1 : len = 1
      · have HR : Hid (lenX len x0 x1 x2 x3 = (0, 0, 10)) := lenX_short1 a0 b0 a1
        subst a1
        go_wp2
        go_ret3
        exact ⟨by rw [HR.out]; rfl, rfl⟩
      · have q : ¬ (len : Int) ≤ 1 := by omega
        have hc := c1 (by omega)
        clear c0 c1 c2 c3
        by_cases b1 : x1 < 128
        · have HR : Hid (lenX len x0 x1 x2 x3 = (x0 % 128 + x1 % 128 * 128, 2, 0)) := lenX_done1 a0 b0 a1 b1
          go_wp2
          go_ret3
          exact ⟨by rw [HR.out]; first | rfl | go_num, rfl⟩
        · go_wp2
          go_round
          case rel => exact .inr (.inr (.inl ⟨rfl, by go_num, rfl, a0, b0, a1, b1⟩))
          case measure => simp [intOf]
    · by_cases a2 : len = 2
      · have HR : Hid (lenX len x0 x1 x2 x3 = (0, 0, 10)) := lenX_short2 a0 b0 a1 b1 a2
        subst a2
        go_wp2
        go_ret3
        exact ⟨by rw [HR.out]; rfl, rfl⟩
      · have q : ¬ (len : Int) ≤ 2 := by omega
        have hc := c2 (by omega)
        clear c0 c1 c2 c3
        by_cases b2 : x2 < 128
        · have HR : Hid (lenX len x0 x1 x2 x3 = (x0 % 128 + x1 % 128 * 128 + x2 % 128 * 16384, 3, 0)) := lenX_done2 a0 b0 a1 b1 a2 b2
          go_wp2
          go_ret3
          exact ⟨by rw [HR.out]; first | rfl | go_num, rfl⟩
        · go_wp2
          go_round
          case rel => exact .inr (.inr (.inr (.inl ⟨rfl, by go_num, rfl, a0, b0, a1, b1, a2, b2⟩)))
          case measure => simp [intOf]
    · by_cases a3 : len = 3
      · have HR : Hid (lenX len x0 x1 x2 x3 = (0, 0, 10)) := lenX_short3 a0 b0 a1 b1 a2 b2 a3
        subst a3
        go_wp2
        go_ret3
        exact ⟨by rw [HR.out]; rfl, rfl⟩
      · have q : ¬ (len : Int) ≤ 3 := by omega
        have hc := c3 (by omega)
        clear c0 c1 c2 c3
        by_cases b3 : x3 < 128
        · have HR : Hid (lenX len x0 x1 x2 x3 = (x0 % 128 + x1 % 128 * 128 + x2 % 128 * 16384 + x3 % 128 * 2097152, 4, 0)) := lenX_done3 a0 b0 a1 b1 a2 b2 a3 b3
          go_wp2
          go_ret3
          exact ⟨by rw [HR.out]; first | rfl | go_num, rfl⟩
        · go_wp2
          go_round
          case rel => exact .inr (.inr (.inr (.inr (⟨rfl, by go_num, rfl, a0, b0, a1, b1, a2, b2, a3, b3⟩))))
          case measure => simp [intOf]
    · have HR : Hid (lenX len x0 x1 x2 x3 = (0, 0, 12)) := lenX_form a0 b0 a1 b1 a2 b2 a3 b3
      go_wp2
      go_ret3
      exact ⟨by rw [HR.out]; rfl, rfl⟩
end Go.Proofs.YtkjeneklkdekoaaGreatDoor.Rm
namespace Go.Proofs.YtkjeneklkdekoaaGreatDoor.Rm
open Go.RowKit
set_option linter.unusedSimpArgs false
set_option linter.unusedVariables false

theorem wraps_i64 (n : Int) (h₀ : 0 ≤ n) (h₁ : n < 2 ^ 62) : IntKind.i64.wrap n = n := by rw [IntKind.wrap_i64]; omega
theorem and127 (x : Int) (h : 0 ≤ x ∧ x ≤ 255) : bits .and .u8 x 127 = x % 128 := bits_mask .u8 8 (by decide) wraps_u8 7 (by decide) x h.1 (by omega)
set_option maxRecDepth 100000 in
theorem nat128 : ∀ n : Nat, n < 256 → ((n &&& 128 = 0) ↔ n < 128) := by decide
theorem and128 (x : Int) (h : 0 ≤ x ∧ x ≤ 255) : (bits .and .u8 x 128 == 0) = decide (x < 128) := by
  rw [u8_and x 128 h.1 (by omega) (by decide) (by decide)]
  have h1 := nat128 x.toNat (by omega)
  rw [Bool.eq_iff_iff]
  simp only [beq_iff_eq, decide_eq_true_eq]
  have e : (128 : Int).toNat = 128 := rfl
  rw [e]
  omega
theorem or_up (i : Nat) (hi : i ≤ 62) (x y : Int) (hx₀ : 0 ≤ x) (hx : x < 2 ^ i) (hx₁ : x < 2 ^ 62) (hy₀ : 0 ≤ y) (hy : y % 2 ^ i = 0) (hy₁ : y < 2 ^ 62) : bits .or .i64 x y = x + y := by
  have h : bits .or .i64 y x = y + x := bits_join .i64 62 (by decide) wraps_i64 i y x hy₀ hy hy₁ hx₀ hx hx₁
  have c : bits .or .i64 x y = bits .or .i64 y x := by
    obtain ⟨a, rfl⟩ := Int.eq_ofNat_of_zero_le hx₀
    obtain ⟨b, rfl⟩ := Int.eq_ofNat_of_zero_le hy₀
    have ha : a < 2 ^ 62 := by exact_mod_cast hx₁
    have hb : b < 2 ^ 62 := by exact_mod_cast hy₁
    rw [(bits_nat .i64 62 (by decide) wraps_i64 a b ha hb).2, (bits_nat .i64 62 (by decide) wraps_i64 b a hb ha).2, Nat.or_comm]
  rw [c, h]
  omega

set_option maxHeartbeats 1000000 in
theorem wlen0 (ao : Option Addr) (cap : Nat) (x0 x1 x2 x3 : Int) (w : World) (hcap : 0 ≤ cap)   :
    Calls Tryz.prog 114 #[.slice ao 0 cap] w fun e w' => e = .returned (.tuple #[.int .i64 (lenX 0 x0 x1 x2 x3).1, .int .i64 (lenX 0 x0 x1 x2 x3).2.1, .int .i64 (lenX 0 x0 x1 x2 x3).2.2]) ∧ w' = w := by
  go_enter Tryz.func114, Tryz.ntmps114
  go_wp2
  go_loop [5, 14] (fun n i => (i = .int .i64 0 ∧ n = .int .i64 (0))) (fun _ i => 4 - (intOf i).toNat)
  case atStart => exact ⟨rfl, rfl⟩
  case round =>
    rcases hrel with ⟨rfl, rfl⟩
    have HR : Hid (lenX 0 x0 x1 x2 x3 = (0, 0, 10)) := lenX_short0  rfl
    go_wp2
    go_ret3
    exact ⟨by rw [HR.out]; rfl, rfl⟩

set_option maxHeartbeats 1000000 in
theorem wlen1 (b off cap : Nat) (x0 x1 x2 x3 : Int) (w : World) (hcap : 1 ≤ cap) (z0 : 0 ≤ x0 ∧ x0 ≤ 255) (c0 : w.cell? ⟨b, off, none⟩ = some (.int .u8 x0)) :
    Calls Tryz.prog 114 #[.slice (some ⟨b, off, none⟩) 1 cap] w fun e w' => e = .returned (.tuple #[.int .i64 (lenX 1 x0 x1 x2 x3).1, .int .i64 (lenX 1 x0 x1 x2 x3).2.1, .int .i64 (lenX 1 x0 x1 x2 x3).2.2]) ∧ w' = w := by
  have f0 := and127 x0 z0
  have g0 : bits .or .i64 0 (x0 % 128) = x0 % 128 := by have h := or_up 0 (by decide) 0 (x0 % 128) (by omega) (by omega) (by omega) (by omega) (by omega) (by omega); omega
  go_enter Tryz.func114, Tryz.ntmps114
  go_wp2
  go_loop [5, 14] (fun n i => (i = .int .i64 0 ∧ n = .int .i64 (0)) ∨ (i = .int .i64 1 ∧ n = .int .i64 (x0 % 128) ∧ ¬ x0 < 128)) (fun _ i => 4 - (intOf i).toNat)
  case atStart => exact .inl ⟨rfl, rfl⟩
  case round =>
    rcases hrel with ⟨rfl, rfl⟩ | ⟨rfl, rfl, b0⟩
    · have hb := and128 x0 z0
      by_cases b0 : x0 < 128
      · have HR : Hid (lenX 1 x0 x1 x2 x3 = (x0 % 128, 1, 0)) := lenX_done0  (by decide) b0
        rw [decide_eq_true b0] at hb
        go_wp2
        go_ret3
        exact ⟨by rw [HR.out]; first | rfl | go_num, rfl⟩
      · rw [decide_eq_false b0] at hb
        go_wp2
        go_round
        case rel => exact .inr (⟨rfl, by first | rfl | go_num, b0⟩)
        case measure => simp [intOf]
    · have HR : Hid (lenX 1 x0 x1 x2 x3 = (0, 0, 10)) := lenX_short1 (by decide) b0 rfl
      go_wp2
      go_ret3
      exact ⟨by rw [HR.out]; rfl, rfl⟩

set_option maxHeartbeats 1000000 in
theorem wlen2 (b off cap : Nat) (x0 x1 x2 x3 : Int) (w : World) (hcap : 2 ≤ cap) (z0 : 0 ≤ x0 ∧ x0 ≤ 255) (z1 : 0 ≤ x1 ∧ x1 ≤ 255) (c0 : w.cell? ⟨b, off, none⟩ = some (.int .u8 x0)) (c1 : w.cell? ⟨b, off + 1, none⟩ = some (.int .u8 x1)) :
    Calls Tryz.prog 114 #[.slice (some ⟨b, off, none⟩) 2 cap] w fun e w' => e = .returned (.tuple #[.int .i64 (lenX 2 x0 x1 x2 x3).1, .int .i64 (lenX 2 x0 x1 x2 x3).2.1, .int .i64 (lenX 2 x0 x1 x2 x3).2.2]) ∧ w' = w := by
  have f0 := and127 x0 z0
  have g0 : bits .or .i64 0 (x0 % 128) = x0 % 128 := by have h := or_up 0 (by decide) 0 (x0 % 128) (by omega) (by omega) (by omega) (by omega) (by omega) (by omega); omega
  have f1 := and127 x1 z1
  have g1 : bits .or .i64 (x0 % 128) (x1 % 128 * 128) = x0 % 128 + x1 % 128 * 128 := or_up 7 (by decide) _ _ (by omega) (by omega) (by omega) (by omega) (by omega) (by omega)
  go_enter Tryz.func114, Tryz.ntmps114
  go_wp2
  go_loop [5, 14] (fun n i => (i = .int .i64 0 ∧ n = .int .i64 (0)) ∨ (i = .int .i64 1 ∧ n = .int .i64 (x0 % 128) ∧ ¬ x0 < 128) ∨ (i = .int .i64 2 ∧ n = .int .i64 (x0 % 128 + x1 % 128 * 128) ∧ ¬ x0 < 128 ∧ ¬ x1 < 128)) (fun _ i => 4 - (intOf i).toNat)
  case atStart => exact .inl ⟨rfl, rfl⟩
  case round =>
    rcases hrel with ⟨rfl, rfl⟩ | ⟨rfl, rfl, b0⟩ | ⟨rfl, rfl, b0, b1⟩
    · have hb := and128 x0 z0
      by_cases b0 : x0 < 128
      · have HR : Hid (lenX 2 x0 x1 x2 x3 = (x0 % 128, 1, 0)) := lenX_done0  (by decide) b0
        rw [decide_eq_true b0] at hb
        go_wp2
        go_ret3
        exact ⟨by rw [HR.out]; first | rfl | go_num, rfl⟩
      · rw [decide_eq_false b0] at hb
        go_wp2
        go_round
        case rel => exact .inr (.inl ⟨rfl, by first | rfl | go_num, b0⟩)
        case measure => simp [intOf]
    · have hb := and128 x1 z1
      by_cases b1 : x1 < 128
      · have HR : Hid (lenX 2 x0 x1 x2 x3 = (x0 % 128 + x1 % 128 * 128, 2, 0)) := lenX_done1 (by decide) b0 (by decide) b1
        rw [decide_eq_true b1] at hb
        go_wp2
        go_ret3
        exact ⟨by rw [HR.out]; first | rfl | go_num, rfl⟩
      · rw [decide_eq_false b1] at hb
        go_wp2
        go_round
        case rel => exact .inr (.inr (⟨rfl, by first | rfl | go_num, b0, b1⟩))
        case measure => simp [intOf]
    · have HR : Hid (lenX 2 x0 x1 x2 x3 = (0, 0, 10)) := lenX_short2 (by decide) b0 (by decide) b1 rfl
      go_wp2
      go_ret3
      exact ⟨by rw [HR.out]; rfl, rfl⟩

set_option maxHeartbeats 1000000 in
theorem wlen3 (b off cap : Nat) (x0 x1 x2 x3 : Int) (w : World) (hcap : 3 ≤ cap) (z0 : 0 ≤ x0 ∧ x0 ≤ 255) (z1 : 0 ≤ x1 ∧ x1 ≤ 255) (z2 : 0 ≤ x2 ∧ x2 ≤ 255) (c0 : w.cell? ⟨b, off, none⟩ = some (.int .u8 x0)) (c1 : w.cell? ⟨b, off + 1, none⟩ = some (.int .u8 x1)) (c2 : w.cell? ⟨b, off + 2, none⟩ = some (.int .u8 x2)) :
    Calls Tryz.prog 114 #[.slice (some ⟨b, off, none⟩) 3 cap] w fun e w' => e = .returned (.tuple #[.int .i64 (lenX 3 x0 x1 x2 x3).1, .int .i64 (lenX 3 x0 x1 x2 x3).2.1, .int .i64 (lenX 3 x0 x1 x2 x3).2.2]) ∧ w' = w := by
  have f0 := and127 x0 z0
  have g0 : bits .or .i64 0 (x0 % 128) = x0 % 128 := by have h := or_up 0 (by decide) 0 (x0 % 128) (by omega) (by omega) (by omega) (by omega) (by omega) (by omega); omega
  have f1 := and127 x1 z1
  have g1 : bits .or .i64 (x0 % 128) (x1 % 128 * 128) = x0 % 128 + x1 % 128 * 128 := or_up 7 (by decide) _ _ (by omega) (by omega) (by omega) (by omega) (by omega) (by omega)
  have f2 := and127 x2 z2
  have g2 : bits .or .i64 (x0 % 128 + x1 % 128 * 128) (x2 % 128 * 16384) = x0 % 128 + x1 % 128 * 128 + x2 % 128 * 16384 := or_up 14 (by decide) _ _ (by omega) (by omega) (by omega) (by omega) (by omega) (by omega)
  go_enter Tryz.func114, Tryz.ntmps114
  go_wp2
  go_loop [5, 14] (fun n i => (i = .int .i64 0 ∧ n = .int .i64 (0)) ∨ (i = .int .i64 1 ∧ n = .int .i64 (x0 % 128) ∧ ¬ x0 < 128) ∨ (i = .int .i64 2 ∧ n = .int .i64 (x0 % 128 + x1 % 128 * 128) ∧ ¬ x0 < 128 ∧ ¬ x1 < 128) ∨ (i = .int .i64 3 ∧ n = .int .i64 (x0 % 128 + x1 % 128 * 128 + x2 % 128 * 16384) ∧ ¬ x0 < 128 ∧ ¬ x1 < 128 ∧ ¬ x2 < 128)) (fun _ i => 4 - (intOf i).toNat)
  case atStart => exact .inl ⟨rfl, rfl⟩
  case round =>
    rcases hrel with ⟨rfl, rfl⟩ | ⟨rfl, rfl, b0⟩ | ⟨rfl, rfl, b0, b1⟩ | ⟨rfl, rfl, b0, b1, b2⟩
    · have hb := and128 x0 z0
      by_cases b0 : x0 < 128
      · have HR : Hid (lenX 3 x0 x1 x2 x3 = (x0 % 128, 1, 0)) := lenX_done0  (by decide) b0
        rw [decide_eq_true b0] at hb
        go_wp2
        go_ret3
        exact ⟨by rw [HR.out]; first | rfl | go_num, rfl⟩
      · rw [decide_eq_false b0] at hb
        go_wp2
        go_round
        case rel => exact .inr (.inl ⟨rfl, by first | rfl | go_num, b0⟩)
        case measure => simp [intOf]
    · have hb := and128 x1 z1
      by_cases b1 : x1 < 128
      · have HR : Hid (lenX 3 x0 x1 x2 x3 = (x0 % 128 + x1 % 128 * 128, 2, 0)) := lenX_done1 (by decide) b0 (by decide) b1
        rw [decide_eq_true b1] at hb
        go_wp2
        go_ret3
        exact ⟨by rw [HR.out]; first | rfl | go_num, rfl⟩
      · rw [decide_eq_false b1] at hb
        go_wp2
        go_round
        case rel => exact .inr (.inr (.inl ⟨rfl, by first | rfl | go_num, b0, b1⟩))
        case measure => simp [intOf]
    · have hb := and128 x2 z2
      by_cases b2 : x2 < 128
      · have HR : Hid (lenX 3 x0 x1 x2 x3 = (x0 % 128 + x1 % 128 * 128 + x2 % 128 * 16384, 3, 0)) := lenX_done2 (by decide) b0 (by decide) b1 (by decide) b2
        rw [decide_eq_true b2] at hb
        go_wp2
        go_ret3
        exact ⟨by rw [HR.out]; first | rfl | go_num, rfl⟩
      · rw [decide_eq_false b2] at hb
        go_wp2
        go_round
        case rel => exact .inr (.inr (.inr (⟨rfl, by first | rfl | go_num, b0, b1, b2⟩)))
        case measure => simp [intOf]
    · have HR : Hid (lenX 3 x0 x1 x2 x3 = (0, 0, 10)) := lenX_short3 (by decide) b0 (by decide) b1 (by decide) b2 rfl
      go_wp2
      go_ret3
      exact ⟨by rw [HR.out]; rfl, rfl⟩

set_option maxHeartbeats 1000000 in
theorem wlen4 (b off cap : Nat) (x0 x1 x2 x3 : Int) (w : World) (hcap : 4 ≤ cap) (z0 : 0 ≤ x0 ∧ x0 ≤ 255) (z1 : 0 ≤ x1 ∧ x1 ≤ 255) (z2 : 0 ≤ x2 ∧ x2 ≤ 255) (z3 : 0 ≤ x3 ∧ x3 ≤ 255) (c0 : w.cell? ⟨b, off, none⟩ = some (.int .u8 x0)) (c1 : w.cell? ⟨b, off + 1, none⟩ = some (.int .u8 x1)) (c2 : w.cell? ⟨b, off + 2, none⟩ = some (.int .u8 x2)) (c3 : w.cell? ⟨b, off + 3, none⟩ = some (.int .u8 x3)) :
    Calls Tryz.prog 114 #[.slice (some ⟨b, off, none⟩) 4 cap] w fun e w' => e = .returned (.tuple #[.int .i64 (lenX 4 x0 x1 x2 x3).1, .int .i64 (lenX 4 x0 x1 x2 x3).2.1, .int .i64 (lenX 4 x0 x1 x2 x3).2.2]) ∧ w' = w := by
  have f0 := and127 x0 z0
  have g0 : bits .or .i64 0 (x0 % 128) = x0 % 128 := by have h := or_up 0 (by decide) 0 (x0 % 128) (by omega) (by omega) (by omega) (by omega) (by omega) (by omega); omega
  have f1 := and127 x1 z1
  have g1 : bits .or .i64 (x0 % 128) (x1 % 128 * 128) = x0 % 128 + x1 % 128 * 128 := or_up 7 (by decide) _ _ (by omega) (by omega) (by omega) (by omega) (by omega) (by omega)
  have f2 := and127 x2 z2
  have g2 : bits .or .i64 (x0 % 128 + x1 % 128 * 128) (x2 % 128 * 16384) = x0 % 128 + x1 % 128 * 128 + x2 % 128 * 16384 := or_up 14 (by decide) _ _ (by omega) (by omega) (by omega) (by omega) (by omega) (by omega)
  have f3 := and127 x3 z3
  have g3 : bits .or .i64 (x0 % 128 + x1 % 128 * 128 + x2 % 128 * 16384) (x3 % 128 * 2097152) = x0 % 128 + x1 % 128 * 128 + x2 % 128 * 16384 + x3 % 128 * 2097152 := or_up 21 (by decide) _ _ (by omega) (by omega) (by omega) (by omega) (by omega) (by omega)
  go_enter Tryz.func114, Tryz.ntmps114
  go_wp2
  go_loop [5, 14] (fun n i => (i = .int .i64 0 ∧ n = .int .i64 (0)) ∨ (i = .int .i64 1 ∧ n = .int .i64 (x0 % 128) ∧ ¬ x0 < 128) ∨ (i = .int .i64 2 ∧ n = .int .i64 (x0 % 128 + x1 % 128 * 128) ∧ ¬ x0 < 128 ∧ ¬ x1 < 128) ∨ (i = .int .i64 3 ∧ n = .int .i64 (x0 % 128 + x1 % 128 * 128 + x2 % 128 * 16384) ∧ ¬ x0 < 128 ∧ ¬ x1 < 128 ∧ ¬ x2 < 128) ∨ (i = .int .i64 4 ∧ n = .int .i64 (x0 % 128 + x1 % 128 * 128 + x2 % 128 * 16384 + x3 % 128 * 2097152) ∧ ¬ x0 < 128 ∧ ¬ x1 < 128 ∧ ¬ x2 < 128 ∧ ¬ x3 < 128)) (fun _ i => 4 - (intOf i).toNat)
  case atStart => exact .inl ⟨rfl, rfl⟩
  case round =>
    rcases hrel with ⟨rfl, rfl⟩ | ⟨rfl, rfl, b0⟩ | ⟨rfl, rfl, b0, b1⟩ | ⟨rfl, rfl, b0, b1, b2⟩ | ⟨rfl, rfl, b0, b1, b2, b3⟩
    · have hb := and128 x0 z0
      by_cases b0 : x0 < 128
      · have HR : Hid (lenX 4 x0 x1 x2 x3 = (x0 % 128, 1, 0)) := lenX_done0  (by decide) b0
        rw [decide_eq_true b0] at hb
        go_wp2
        go_ret3
        exact ⟨by rw [HR.out]; first | rfl | go_num, rfl⟩
      · rw [decide_eq_false b0] at hb
        go_wp2
        go_round
        case rel => exact .inr (.inl ⟨rfl, by first | rfl | go_num, b0⟩)
        case measure => simp [intOf]
    · have hb := and128 x1 z1
      by_cases b1 : x1 < 128
      · have HR : Hid (lenX 4 x0 x1 x2 x3 = (x0 % 128 + x1 % 128 * 128, 2, 0)) := lenX_done1 (by decide) b0 (by decide) b1
        rw [decide_eq_true b1] at hb
        go_wp2
        go_ret3
        exact ⟨by rw [HR.out]; first | rfl | go_num, rfl⟩
      · rw [decide_eq_false b1] at hb
        go_wp2
        go_round
        case rel => exact .inr (.inr (.inl ⟨rfl, by first | rfl | go_num, b0, b1⟩))
        case measure => simp [intOf]
    · have hb := and128 x2 z2
      by_cases b2 : x2 < 128
      · have HR : Hid (lenX 4 x0 x1 x2 x3 = (x0 % 128 + x1 % 128 * 128 + x2 % 128 * 16384, 3, 0)) := lenX_done2 (by decide) b0 (by decide) b1 (by decide) b2
        rw [decide_eq_true b2] at hb
        go_wp2
        go_ret3
        exact ⟨by rw [HR.out]; first | rfl | go_num, rfl⟩
      · rw [decide_eq_false b2] at hb
        go_wp2
        go_round
        case rel => exact .inr (.inr (.inr (.inl ⟨rfl, by first | rfl | go_num, b0, b1, b2⟩)))
        case measure => simp [intOf]
    · have hb := and128 x3 z3
      by_cases b3 : x3 < 128
      · have HR : Hid (lenX 4 x0 x1 x2 x3 = (x0 % 128 + x1 % 128 * 128 + x2 % 128 * 16384 + x3 % 128 * 2097152, 4, 0)) := lenX_done3 (by decide) b0 (by decide) b1 (by decide) b2 (by decide) b3
        rw [decide_eq_true b3] at hb
        go_wp2
        go_ret3
        exact ⟨by rw [HR.out]; first | rfl | go_num, rfl⟩
      · rw [decide_eq_false b3] at hb
        go_wp2
        go_round
        case rel => exact .inr (.inr (.inr (.inr (⟨rfl, by first | rfl | go_num, b0, b1, b2, b3⟩))))
        case measure => simp [intOf]
    · have HR : Hid (lenX 4 x0 x1 x2 x3 = (0, 0, 12)) := lenX_form (by decide) b0 (by decide) b1 (by decide) b2 (by decide) b3
      go_wp2
      go_ret3
      exact ⟨by rw [HR.out]; rfl, rfl⟩

set_option maxHeartbeats 1000000 in
theorem wlen5 (b off cap : Nat) (x0 x1 x2 x3 : Int) (w : World) (len : Nat) (h4 : 4 < len) (hm : len ≤ 1000000) (hcap : len ≤ cap) (z0 : 0 ≤ x0 ∧ x0 ≤ 255) (z1 : 0 ≤ x1 ∧ x1 ≤ 255) (z2 : 0 ≤ x2 ∧ x2 ≤ 255) (z3 : 0 ≤ x3 ∧ x3 ≤ 255) (c0 : w.cell? ⟨b, off, none⟩ = some (.int .u8 x0)) (c1 : w.cell? ⟨b, off + 1, none⟩ = some (.int .u8 x1)) (c2 : w.cell? ⟨b, off + 2, none⟩ = some (.int .u8 x2)) (c3 : w.cell? ⟨b, off + 3, none⟩ = some (.int .u8 x3)) :
    Calls Tryz.prog 114 #[.slice (some ⟨b, off, none⟩) len cap] w fun e w' => e = .returned (.tuple #[.int .i64 (lenX len x0 x1 x2 x3).1, .int .i64 (lenX len x0 x1 x2 x3).2.1, .int .i64 (lenX len x0 x1 x2 x3).2.2]) ∧ w' = w := by
  have h4i : ¬ (len : Int) ≤ 4 := by omega
  have HN : Hid (∀ k, k < 4 → ¬ len = k) := fun k hk => by omega
  have f0 := and127 x0 z0
  have g0 : bits .or .i64 0 (x0 % 128) = x0 % 128 := by have h := or_up 0 (by decide) 0 (x0 % 128) (by omega) (by omega) (by omega) (by omega) (by omega) (by omega); omega
  have f1 := and127 x1 z1
  have g1 : bits .or .i64 (x0 % 128) (x1 % 128 * 128) = x0 % 128 + x1 % 128 * 128 := or_up 7 (by decide) _ _ (by omega) (by omega) (by omega) (by omega) (by omega) (by omega)
  have f2 := and127 x2 z2
  have g2 : bits .or .i64 (x0 % 128 + x1 % 128 * 128) (x2 % 128 * 16384) = x0 % 128 + x1 % 128 * 128 + x2 % 128 * 16384 := or_up 14 (by decide) _ _ (by omega) (by omega) (by omega) (by omega) (by omega) (by omega)
  have f3 := and127 x3 z3
  have g3 : bits .or .i64 (x0 % 128 + x1 % 128 * 128 + x2 % 128 * 16384) (x3 % 128 * 2097152) = x0 % 128 + x1 % 128 * 128 + x2 % 128 * 16384 + x3 % 128 * 2097152 := or_up 21 (by decide) _ _ (by omega) (by omega) (by omega) (by omega) (by omega) (by omega)
  go_enter Tryz.func114, Tryz.ntmps114
  go_wp2
  go_loop [5, 14] (fun n i => (i = .int .i64 0 ∧ n = .int .i64 (0)) ∨ (i = .int .i64 1 ∧ n = .int .i64 (x0 % 128) ∧ ¬ x0 < 128) ∨ (i = .int .i64 2 ∧ n = .int .i64 (x0 % 128 + x1 % 128 * 128) ∧ ¬ x0 < 128 ∧ ¬ x1 < 128) ∨ (i = .int .i64 3 ∧ n = .int .i64 (x0 % 128 + x1 % 128 * 128 + x2 % 128 * 16384) ∧ ¬ x0 < 128 ∧ ¬ x1 < 128 ∧ ¬ x2 < 128) ∨ (i = .int .i64 4 ∧ n = .int .i64 (x0 % 128 + x1 % 128 * 128 + x2 % 128 * 16384 + x3 % 128 * 2097152) ∧ ¬ x0 < 128 ∧ ¬ x1 < 128 ∧ ¬ x2 < 128 ∧ ¬ x3 < 128)) (fun _ i => 4 - (intOf i).toNat)
  case atStart => exact .inl ⟨rfl, rfl⟩
  case round =>
    rcases hrel with ⟨rfl, rfl⟩ | ⟨rfl, rfl, b0⟩ | ⟨rfl, rfl, b0, b1⟩ | ⟨rfl, rfl, b0, b1, b2⟩ | ⟨rfl, rfl, b0, b1, b2, b3⟩
    · have hb := and128 x0 z0
      by_cases b0 : x0 < 128
      · have HR : Hid (lenX len x0 x1 x2 x3 = (x0 % 128, 1, 0)) := lenX_done0  (HN.out 0 (by decide)) b0
        rw [decide_eq_true b0] at hb
        go_wp2
        go_ret3
        exact ⟨by rw [HR.out]; first | rfl | go_num, rfl⟩
      · rw [decide_eq_false b0] at hb
        go_wp2
        go_round
        case rel => exact .inr (.inl ⟨rfl, by first | rfl | go_num, b0⟩)
        case measure => simp [intOf]
    · have hb := and128 x1 z1
      by_cases b1 : x1 < 128
      · have HR : Hid (lenX len x0 x1 x2 x3 = (x0 % 128 + x1 % 128 * 128, 2, 0)) := lenX_done1 (HN.out 0 (by decide)) b0 (HN.out 1 (by decide)) b1
        rw [decide_eq_true b1] at hb
        go_wp2
        go_ret3
        exact ⟨by rw [HR.out]; first | rfl | go_num, rfl⟩
      · rw [decide_eq_false b1] at hb
        go_wp2
        go_round
        case rel => exact .inr (.inr (.inl ⟨rfl, by first | rfl | go_num, b0, b1⟩))
        case measure => simp [intOf]
    · have hb := and128 x2 z2
      by_cases b2 : x2 < 128
      · have HR : Hid (lenX len x0 x1 x2 x3 = (x0 % 128 + x1 % 128 * 128 + x2 % 128 * 16384, 3, 0)) := lenX_done2 (HN.out 0 (by decide)) b0 (HN.out 1 (by decide)) b1 (HN.out 2 (by decide)) b2
        rw [decide_eq_true b2] at hb
        go_wp2
        go_ret3
        exact ⟨by rw [HR.out]; first | rfl | go_num, rfl⟩
      · rw [decide_eq_false b2] at hb
        go_wp2
        go_round
        case rel => exact .inr (.inr (.inr (.inl ⟨rfl, by first | rfl | go_num, b0, b1, b2⟩)))
        case measure => simp [intOf]
    · have hb := and128 x3 z3
      by_cases b3 : x3 < 128
      · have HR : Hid (lenX len x0 x1 x2 x3 = (x0 % 128 + x1 % 128 * 128 + x2 % 128 * 16384 + x3 % 128 * 2097152, 4, 0)) := lenX_done3 (HN.out 0 (by decide)) b0 (HN.out 1 (by decide)) b1 (HN.out 2 (by decide)) b2 (HN.out 3 (by decide)) b3
        rw [decide_eq_true b3] at hb
        go_wp2
        go_ret3
        exact ⟨by rw [HR.out]; first | rfl | go_num, rfl⟩
      · rw [decide_eq_false b3] at hb
        go_wp2
        go_round
        case rel => exact .inr (.inr (.inr (.inr (⟨rfl, by first | rfl | go_num, b0, b1, b2, b3⟩))))
        case measure => simp [intOf]
    · have HR : Hid (lenX len x0 x1 x2 x3 = (0, 0, 12)) := lenX_form (HN.out 0 (by decide)) b0 (HN.out 1 (by decide)) b1 (HN.out 2 (by decide)) b2 (HN.out 3 (by decide)) b3
      go_wp2
      go_ret3
      exact ⟨by rw [HR.out]; rfl, rfl⟩
end Go.Proofs.YtkjeneklkdekoaaGreatDoor.Rm
namespace Go.Proofs.YtkjeneklkdekoaaGreatDoor.Rm
open Go.RowKit
set_option linter.unusedSimpArgs false
set_option linter.unusedVariables false

/-- A slice of bytes: these bytes are its elements. -/
def Byt (w : World) (ao : Option Addr) (len cap : Nat) (z : Nat → Int) : Prop :=
  len ≤ cap ∧ (∀ i, 0 ≤ z i ∧ z i ≤ 255) ∧ (len = 0 ∨ ∃ b off, ao = some ⟨b, off, none⟩ ∧ ∀ i, i < len → w.cell? ⟨b, off + i, none⟩ = some (.int .u8 (z i)))

/-- What Length tells of such a slice. -/
def lenZ (len : Nat) (z : Nat → Int) : Int × Int × Int := lenX len (z 0) (z 1) (z 2) (z 3)

set_option maxHeartbeats 400000 in
theorem rlen_zero (ao : Option Addr) (cap : Nat) (w : World) :
    Calls Tryz.prog 117 #[.slice ao 0 cap] w fun e w' => e = .returned (.tuple #[.int .i64 0, .int .i64 0, .int .i64 10]) ∧ w' = w := by
  go_enter Tryz.func117, Tryz.ntmps117
  go_wp2
  go_loop [5, 6, 7] (fun n u i => i = .int .i64 0 ∧ n = .int .i64 0 ∧ u = .int .i64 1) (fun _ _ i => 4 - (intOf i).toNat)
  case atStart => exact ⟨rfl, rfl, rfl⟩
  case round =>
    obtain ⟨rfl, rfl, rfl⟩ := hrel
    go_wp2
    go_ret3
    exact ⟨rfl, rfl⟩

theorem rlen_any (ao : Option Addr) (len cap : Nat) (z : Nat → Int) (w : World) (h : Byt w ao len cap z) (hm : len ≤ 1000000) :
    Calls Tryz.prog 117 #[.slice ao len cap] w fun e w' => e = .returned (.tuple #[.int .i64 (lenZ len z).1, .int .i64 (lenZ len z).2.1, .int .i64 (lenZ len z).2.2]) ∧ w' = w := by
  obtain ⟨hcap, hz, h⟩ := h
  by_cases h0 : len = 0
  · subst h0
    exact rlen_zero ao cap w
  · rcases h with h | ⟨b, off, rfl, hc⟩
    · exact absurd h h0
    · exact rlen_some b off len cap _ _ _ _ w hm (hz 0) (hz 1) (hz 2) (hz 3) (fun h => hc 0 h) (fun h => hc 1 h) (fun h => hc 2 h) (fun h => hc 3 h)

theorem wlen_any (ao : Option Addr) (len cap : Nat) (z : Nat → Int) (w : World) (h : Byt w ao len cap z) (hm : len ≤ 1000000) :
    Calls Tryz.prog 114 #[.slice ao len cap] w fun e w' => e = .returned (.tuple #[.int .i64 (lenZ len z).1, .int .i64 (lenZ len z).2.1, .int .i64 (lenZ len z).2.2]) ∧ w' = w := by
  obtain ⟨hcap, hz, h⟩ := h
  by_cases h0 : len = 0
  · subst h0
    exact wlen0 ao cap _ _ _ _ w hcap
  · rcases h with h | ⟨b, off, rfl, hc⟩
    · exact absurd h h0
    · by_cases h1 : len = 1
      · subst h1
        exact wlen1 b off cap _ _ _ _ w hcap (hz 0) (hc 0 (by omega))
      by_cases h2 : len = 2
      · subst h2
        exact wlen2 b off cap _ _ _ _ w hcap (hz 0) (hz 1) (hc 0 (by omega)) (hc 1 (by omega))
      by_cases h3 : len = 3
      · subst h3
        exact wlen3 b off cap _ _ _ _ w hcap (hz 0) (hz 1) (hz 2) (hc 0 (by omega)) (hc 1 (by omega)) (hc 2 (by omega))
      by_cases h4 : len = 4
      · subst h4
        exact wlen4 b off cap _ _ _ _ w hcap (hz 0) (hz 1) (hz 2) (hz 3) (hc 0 (by omega)) (hc 1 (by omega)) (hc 2 (by omega)) (hc 3 (by omega))
      · exact wlen5 b off cap _ _ _ _ w len (by omega) hm hcap (hz 0) (hz 1) (hz 2) (hz 3) (hc 0 (by omega)) (hc 1 (by omega)) (hc 2 (by omega)) (hc 3 (by omega))
end Go.Proofs.YtkjeneklkdekoaaGreatDoor.Rm
