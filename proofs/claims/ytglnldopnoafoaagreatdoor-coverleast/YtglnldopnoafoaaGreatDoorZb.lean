import Derived.Test.YtglnldopnoafoaaGreatDoorYi
import Derived.Test.YtglnldopnoafoaaGreatDoorZa
namespace Go.Proofs.YtglnldopnoafoaaGreatDoor
open Go Go.RowKit
set_option linter.unusedSimpArgs false
set_option linter.unusedVariables false

set_option maxRecDepth 100000 in
set_option maxHeartbeats 1000000 in
/-- crierref6.Within. -/
theorem refWithin_any (f g : ByteArray) (w : World) : Calls Tryz.prog 21 #[.string f, .string g] w fun e w' => e = .returned (.bool (inP f g)) ∧ Below w.heap.size w w' := by
  have e0 : inP f g = !(outP f g).isSome := by unfold inP; cases outP f g <;> rfl
  have HO : Hid (Calls Tryz.prog 61 #[.string f, .string g] w fun e w' => (∃ s, e = .returned (.tuple #[.string s, .bool (outP f g).isSome])) ∧ Below w.heap.size w w') := refOut_any f g w
  rw [e0]
  obtain ⟨b, hb⟩ : ∃ b, (outP f g).isSome = b := ⟨_, rfl⟩
  rw [hb] at HO ⊢
  clear hb e0
  go_enter Tryz.func21, Tryz.ntmps21
  go_wp2_with fail
  go_must (go_at_call 61)
  refine HO.out.mono ?_
  rintro e w1 ⟨⟨s, rfl⟩, hb⟩
  have B1 : Hid (Below w.heap.size w w1) := hb
  clear hb
  go_wp2_with fail
  go_ret
  exact ⟨rfl, B1.out⟩
end Go.Proofs.YtglnldopnoafoaaGreatDoor
