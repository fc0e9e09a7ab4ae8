import Derived.Test.YtmfbkfgggdkfmaaGreatDoorPKt
import Derived.WalkLawsBesides
namespace Go.Proofs.YtmfbkfgggdkfmaaGreatDoor.Pkt
open Go Go.RowKit
set_option linter.unusedSimpArgs false
set_option linter.unusedVariables false

theorem isKind_any (k : Int) (w : World) : Calls Tryz.prog 67 #[.int .i64 k] w fun e w' => e = .returned (.bool (isK k)) ∧ w' = w := by
  by_cases h1 : 1 ≤ k
  · by_cases h2 : k ≤ 14
    · have e : isK k = true := by simp [isK, h1, h2]
      rw [e]; clear e
      go_enter Tryz.func67, Tryz.ntmps67
      go_wp2
      go_ret
      exact ⟨rfl, rfl⟩
    · have e : isK k = false := by simp [isK, h1, h2]
      rw [e]; clear e
      go_enter Tryz.func67, Tryz.ntmps67
      go_wp2
      go_ret
      exact ⟨rfl, rfl⟩
  · have e : isK k = false := by simp [isK, h1]
    rw [e]; clear e
    go_enter Tryz.func67, Tryz.ntmps67
    go_wp2
    go_ret
    exact ⟨rfl, rfl⟩

def mayP (f : Int) : Bool := decide (f = 0 ∨ f = 1 ∨ f = 2 ∨ f = 3 ∨ f = 4 ∨ f = 5 ∨ f = 10 ∨ f = 11 ∨ f = 12 ∨ f = 13)
def may (k f : Int) : Bool := isK k && (if k = 3 then mayP f else f == (form k.toNat).2.1)

end Go.Proofs.YtmfbkfgggdkfmaaGreatDoor.Pkt
