import Derived.Test.YtkjeneklkdekoaaDoorProg
import Derived.WalkKit
import Derived.WalkSpells
import Derived.WalkLawsBesides
namespace Go.Proofs.YtkjeneklkdekoaaDoor
open Go.RowKit
set_option linter.unusedSimpArgs false
set_option linter.unusedVariables false

/-- The length at the beginning of so many bytes, these being the first. -/
def lenX (len : Nat) (x0 x1 x2 x3 : Int) : Int × Int × Int :=
  if len = 0 then (0, 0, 10) else if x0 < 128 then (x0 % 128, 1, 0)
  else if len = 1 then (0, 0, 10) else if x1 < 128 then (x0 % 128 + x1 % 128 * 128, 2, 0)
  else if len = 2 then (0, 0, 10) else if x2 < 128 then (x0 % 128 + x1 % 128 * 128 + x2 % 128 * 16384, 3, 0)
  else if len = 3 then (0, 0, 10) else if x3 < 128 then (x0 % 128 + x1 % 128 * 128 + x2 % 128 * 16384 + x3 % 128 * 2097152, 4, 0) else (0, 0, 12)
theorem lenX_short0 {len : Nat} {x0 x1 x2 x3 : Int}  (h : len = 0) : lenX len x0 x1 x2 x3 = (0, 0, 10) := by simp [lenX, h]
theorem lenX_done0 {len : Nat} {x0 x1 x2 x3 : Int}  (a : ¬ len = 0) (h : x0 < 128) : lenX len x0 x1 x2 x3 = (x0 % 128, 1, 0) := by simp [lenX, a, h]
theorem lenX_short1 {len : Nat} {x0 x1 x2 x3 : Int} (a0 : ¬ len = 0) (b0 : ¬ x0 < 128) (h : len = 1) : lenX len x0 x1 x2 x3 = (0, 0, 10) := by simp [lenX, a0, b0, h]
theorem lenX_done1 {len : Nat} {x0 x1 x2 x3 : Int} (a0 : ¬ len = 0) (b0 : ¬ x0 < 128) (a : ¬ len = 1) (h : x1 < 128) : lenX len x0 x1 x2 x3 = (x0 % 128 + x1 % 128 * 128, 2, 0) := by simp [lenX, a0, b0, a, h]
theorem lenX_short2 {len : Nat} {x0 x1 x2 x3 : Int} (a0 : ¬ len = 0) (b0 : ¬ x0 < 128) (a1 : ¬ len = 1) (b1 : ¬ x1 < 128) (h : len = 2) : lenX len x0 x1 x2 x3 = (0, 0, 10) := by simp [lenX, a0, b0, a1, b1, h]
theorem lenX_done2 {len : Nat} {x0 x1 x2 x3 : Int} (a0 : ¬ len = 0) (b0 : ¬ x0 < 128) (a1 : ¬ len = 1) (b1 : ¬ x1 < 128) (a : ¬ len = 2) (h : x2 < 128) : lenX len x0 x1 x2 x3 = (x0 % 128 + x1 % 128 * 128 + x2 % 128 * 16384, 3, 0) := by simp [lenX, a0, b0, a1, b1, a, h]
theorem lenX_short3 {len : Nat} {x0 x1 x2 x3 : Int} (a0 : ¬ len = 0) (b0 : ¬ x0 < 128) (a1 : ¬ len = 1) (b1 : ¬ x1 < 128) (a2 : ¬ len = 2) (b2 : ¬ x2 < 128) (h : len = 3) : lenX len x0 x1 x2 x3 = (0, 0, 10) := by simp [lenX, a0, b0, a1, b1, a2, b2, h]
theorem lenX_done3 {len : Nat} {x0 x1 x2 x3 : Int} (a0 : ¬ len = 0) (b0 : ¬ x0 < 128) (a1 : ¬ len = 1) (b1 : ¬ x1 < 128) (a2 : ¬ len = 2) (b2 : ¬ x2 < 128) (a : ¬ len = 3) (h : x3 < 128) : lenX len x0 x1 x2 x3 = (x0 % 128 + x1 % 128 * 128 + x2 % 128 * 16384 + x3 % 128 * 2097152, 4, 0) := by simp [lenX, a0, b0, a1, b1, a2, b2, a, h]
theorem lenX_form {len : Nat} {x0 x1 x2 x3 : Int} (a0 : ¬ len = 0) (b0 : ¬ x0 < 128) (a1 : ¬ len = 1) (b1 : ¬ x1 < 128) (a2 : ¬ len = 2) (b2 : ¬ x2 < 128) (a3 : ¬ len = 3) (b3 : ¬ x3 < 128) : lenX len x0 x1 x2 x3 = (0, 0, 12) := by simp [lenX, a0, b0, a1, b1, a2, b2, a3, b3]
end Go.Proofs.YtkjeneklkdekoaaDoor
