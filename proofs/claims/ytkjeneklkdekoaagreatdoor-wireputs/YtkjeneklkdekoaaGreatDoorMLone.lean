import Derived.Test.YtkjeneklkdekoaaGreatDoorProg
import Derived.WalkKit
import Derived.WalkSpells
import Derived.WalkLawsBesides
namespace Go.Proofs.YtkjeneklkdekoaaGreatDoor.Rm
open Go.RowKit
set_option linter.unusedSimpArgs false
set_option linter.unusedVariables false

/-- The length at the beginning of so many bytes, these being the first. -/
def lenX (len : Nat) (x0 x1 x2 x3 : Int) : Int × Int × Int :=
  if len = 0 then (0, 0, 10) else if x0 < 128 then (x0 % 128, 1, 0)
  else if len = 1 then (0, 0, 10) else if x1 < 128 then (x0 % 128 + x1 % 128 * 128, 2, 0)
  else if len = 2 then (0, 0, 10) else if x2 < 128 then (x0 % 128 + x1 % 128 * 128 + x2 % 128 * 16384, 3, 0)
  else if len = 3 then (0, 0, 10) else if x3 < 128 then (x0 % 128 + x1 % 128 * 128 + x2 % 128 * 16384 + x3 % 128 * 2097152, 4, 0) else (0, 0, 12)
theorem lenX_short0 {len : Nat} {x0 x1 x2 x3 : Int}  (h : len = 0) : lenX len x0 x1 x2 x3 = (0, 0, 10) := by simp [lenX, h]
theorem lenX_done0 {len : Nat} {x0 x1 x2 x3 : Int}  (a : ¬ len = 0) (h : x0 < 128) : lenX len x0 x1 x2 x3 = (x0 % 128, 1, 0) := by simp [lenX, a, h]
theorem lenX_short1 {len : Nat} {x0 x1 x2 x3 : Int} (a0 : ¬ len = 0) (b0 : ¬ x0 < 128) (h : len = 1) : lenX len x0 x1 x2 x3 = (0, 0, 10) := by simp [lenX, a0, b0, h]
theorem lenX_done1 {len : Nat} {x0 x1 x2 x3 : Int} (a0 : ¬ len = 0) (b0 : ¬ x0 < 128) (a : ¬ len = 1) (h : x1 < 128) : lenX len x0 x1 x2 x3 = (x0 % 128 + x1 % 128 * 128, 2, 0) := by simp [lenX, a0, b0, a, h]
theorem lenX_short2 {len : Nat} {x0 x1 x2 x3 : Int} (a0 : ¬ len = 0) (b0 : ¬ x0 < 128) (a1 : ¬ len = 1) (b1 : ¬ x1 < 128) (h : len = 2) : lenX len x0 x1 x2 x3 = (0, 0, 10) := by simp [lenX, a0, b0, a1, b1, h]
theorem lenX_done2 {len : Nat} {x0 x1 x2 x3 : Int} (a0 : ¬ len = 0) (b0 : ¬ x0 < 128) (a1 : ¬ len = 1) (b1 : ¬ x1 < 128) (a : ¬ len = 2) (h : x2 < 128) : lenX len x0 x1 x2 x3 = (x0 % 128 + x1 % 128 * 128 + x2 % 128 * 16384, 3, 0) := by simp [lenX, a0, b0, a1, b1, a, h]
theorem lenX_short3 {len : Nat} {x0 x1 x2 x3 : Int} (a0 : ¬ len = 0) (b0 : ¬ x0 < 128) (a1 : ¬ len = 1) (b1 : ¬ x1 < 128) (a2 : ¬ len = 2) (b2 : ¬ x2 < 128) (h : len = 3) : lenX len x0 x1 x2 x3 = (0, 0, 10) := by simp [lenX, a0, b0, a1, b1, a2, b2, h]
theorem lenX_done3 {len : Nat} {x0 x1 x2 x3 : Int} (a0 : ¬ len = 0) (b0 : ¬ x0 < 128) (a1 : ¬ len = 1) (b1 : ¬ x1 < 128) (a2 : ¬ len = 2) (b2 : ¬ x2 < 128) (a : ¬ len = 3) (h : x3 < 128) : lenX len x0 x1 x2 x3 = (x0 % 128 + x1 % 128 * 128 + x2 % 128 * 16384 + x3 % 128 * 2097152, 4, 0) := by simp [lenX, a0, b0, a1, b1, a2, b2, a, h]
theorem lenX_form {len : Nat} {x0 x1 x2 x3 : Int} (a0 : ¬ len = 0) (b0 : ¬ x0 < 128) (a1 : ¬ len = 1) (b1 : ¬ x1 < 128) (a2 : ¬ len = 2) (b2 : ¬ x2 < 128) (a3 : ¬ len = 3) (b3 : ¬ x3 < 128) : lenX len x0 x1 x2 x3 = (0, 0, 12) := by simp [lenX, a0, b0, a1, b1, a2, b2, a3, b3]

set_option maxHeartbeats 1000000 in
theorem rlen_some (b off len cap : Nat) (x0 x1 x2 x3 : Int) (w : World) (hm : len ≤ 1000000) (z0 : 0 ≤ x0 ∧ x0 ≤ 255) (z1 : 0 ≤ x1 ∧ x1 ≤ 255) (z2 : 0 ≤ x2 ∧ x2 ≤ 255) (z3 : 0 ≤ x3 ∧ x3 ≤ 255) (c0 : 0 < len → w.cell? ⟨b, off, none⟩ = some (.int .u8 x0)) (c1 : 1 < len → w.cell? ⟨b, off + 1, none⟩ = some (.int .u8 x1)) (c2 : 2 < len → w.cell? ⟨b, off + 2, none⟩ = some (.int .u8 x2)) (c3 : 3 < len → w.cell? ⟨b, off + 3, none⟩ = some (.int .u8 x3)) :
    Calls Tryz.prog 117 #[.slice (some ⟨b, off, none⟩) len cap] w fun e w' => e = .returned (.tuple #[.int .i64 (lenX len x0 x1 x2 x3).1, .int .i64 (lenX len x0 x1 x2 x3).2.1, .int .i64 (lenX len x0 x1 x2 x3).2.2]) ∧ w' = w := by
  go_enter Tryz.func117, Tryz.ntmps117
  go_wp2
  go_loop [5, 6, 7] (fun n u i => (i = .int .i64 0 ∧ n = .int .i64 (0) ∧ u = .int .i64 1) ∨ (i = .int .i64 1 ∧ n = .int .i64 (x0 % 128) ∧ u = .int .i64 128 ∧ ¬ len = 0 ∧ ¬ x0 < 128) ∨ (i = .int .i64 2 ∧ n = .int .i64 (x0 % 128 + x1 % 128 * 128) ∧ u = .int .i64 16384 ∧ ¬ len = 0 ∧ ¬ x0 < 128 ∧ ¬ len = 1 ∧ ¬ x1 < 128) ∨ (i = .int .i64 3 ∧ n = .int .i64 (x0 % 128 + x1 % 128 * 128 + x2 % 128 * 16384) ∧ u = .int .i64 2097152 ∧ ¬ len = 0 ∧ ¬ x0 < 128 ∧ ¬ len = 1 ∧ ¬ x1 < 128 ∧ ¬ len = 2 ∧ ¬ x2 < 128) ∨ (i = .int .i64 4 ∧ n = .int .i64 (x0 % 128 + x1 % 128 * 128 + x2 % 128 * 16384 + x3 % 128 * 2097152) ∧ u = .int .i64 268435456 ∧ ¬ len = 0 ∧ ¬ x0 < 128 ∧ ¬ len = 1 ∧ ¬ x1 < 128 ∧ ¬ len = 2 ∧ ¬ x2 < 128 ∧ ¬ len = 3 ∧ ¬ x3 < 128)) (fun _ _ i => 4 - (intOf i).toNat)
  case atStart => exact .inl ⟨rfl, rfl, rfl⟩
  case round =>
    rcases hrel with ⟨rfl, rfl, rfl⟩ | ⟨rfl, rfl, rfl, a0, b0⟩ | ⟨rfl, rfl, rfl, a0, b0, a1, b1⟩ | ⟨rfl, rfl, rfl, a0, b0, a1, b1, a2, b2⟩ | ⟨rfl, rfl, rfl, a0, b0, a1, b1, a2, b2, a3, b3⟩
    · by_cases a0 : len = 0
      · have HR : Hid (lenX len x0 x1 x2 x3 = (0, 0, 10)) := lenX_short0  a0
        subst a0
        go_wp2
        go_ret3
        exact ⟨by rw [HR.out]; rfl, rfl⟩
      · have q : ¬ (len : Int) ≤ 0 := by omega
        have hc := c0 (by omega)
        clear c0 c1 c2 c3
        by_cases b0 : x0 < 128
        · have HR : Hid (lenX len x0 x1 x2 x3 = (x0 % 128, 1, 0)) := lenX_done0  a0 b0
          go_wp2
          go_ret3
          exact ⟨by rw [HR.out]; first | rfl | go_num, rfl⟩
        · go_wp2
          go_round
          case rel => exact .inr (.inl ⟨rfl, by go_num, rfl, a0, b0⟩)
          case measure => simp [intOf]
    · by_cases a1 : len = 1
      · have HR : Hid (lenX len x0 x1 x2 x3 = (0, 0, 10)) := lenX_short1 a0 b0 a1
        subst a1
        go_wp2
        go_ret3
        exact ⟨by rw [HR.out]; rfl, rfl⟩
      · have q : ¬ (len : Int) ≤ 1 := by omega
        have hc := c1 (by omega)
        clear c0 c1 c2 c3
        by_cases b1 : x1 < 128
        · have HR : Hid (lenX len x0 x1 x2 x3 = (x0 % 128 + x1 % 128 * 128, 2, 0)) := lenX_done1 a0 b0 a1 b1
          go_wp2
          go_ret3
          exact ⟨by rw [HR.out]; first | rfl | go_num, rfl⟩
        · go_wp2
          go_round
          case rel => exact .inr (.inr (.inl ⟨rfl, by go_num, rfl, a0, b0, a1, b1⟩))
          case measure => simp [intOf]
    · by_cases a2 : len = 2
      · have HR : Hid (lenX len x0 x1 x2 x3 = (0, 0, 10)) := lenX_short2 a0 b0 a1 b1 a2
        subst a2
        go_wp2
        go_ret3
        exact ⟨by rw [HR.out]; rfl, rfl⟩
      · have q : ¬ (len : Int) ≤ 2 := by omega
        have hc := c2 (by omega)
        clear c0 c1 c2 c3
        by_cases b2 : x2 < 128
        · have HR : Hid (lenX len x0 x1 x2 x3 = (x0 % 128 + x1 % 128 * 128 + x2 % 128 * 16384, 3, 0)) := lenX_done2 a0 b0 a1 b1 a2 b2
          go_wp2
          go_ret3
          exact ⟨by rw [HR.out]; first | rfl | go_num, rfl⟩
        · go_wp2
          go_round
          case rel => exact .inr (.inr (.inr (.inl ⟨rfl, by go_num, rfl, a0, b0, a1, b1, a2, b2⟩)))
          case measure => simp [intOf]
    · by_cases a3 : len = 3
      · have HR : Hid (lenX len x0 x1 x2 x3 = (0, 0, 10)) := lenX_short3 a0 b0 a1 b1 a2 b2 a3
        subst a3
        go_wp2
        go_ret3
        exact ⟨by rw [HR.out]; rfl, rfl⟩
      · have q : ¬ (len : Int) ≤ 3 := by omega
        have hc := c3 (by omega)
        clear c0 c1 c2 c3
        by_cases b3 : x3 < 128
        · have HR : Hid (lenX len x0 x1 x2 x3 = (x0 % 128 + x1 % 128 * 128 + x2 % 128 * 16384 + x3 % 128 * 2097152, 4, 0)) := lenX_done3 a0 b0 a1 b1 a2 b2 a3 b3
          go_wp2
          go_ret3
          exact ⟨by rw [HR.out]; first | rfl | go_num, rfl⟩
        · go_wp2
          go_round
          case rel => exact .inr (.inr (.inr (.inr (⟨rfl, by go_num, rfl, a0, b0, a1, b1, a2, b2, a3, b3⟩))))
          case measure => simp [intOf]
    · have HR : Hid (lenX len x0 x1 x2 x3 = (0, 0, 12)) := lenX_form a0 b0 a1 b1 a2 b2 a3 b3
      go_wp2
      go_ret3
      exact ⟨by rw [HR.out]; rfl, rfl⟩
end Go.Proofs.YtkjeneklkdekoaaGreatDoor.Rm
