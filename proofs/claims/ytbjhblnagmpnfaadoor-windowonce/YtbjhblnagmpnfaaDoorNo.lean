import Derived.Test.YtbjhblnagmpnfaaDoorNn
import Derived.Test.YtbjhblnagmpnfaaDoorShelf
import Derived.Shelf.SlSortCmp.Whole1
namespace Go.Proofs.YtbjhblnagmpnfaaDoor
open Go Go.RowKit Go.Shelf Go.Maps Go.Sort
set_option linter.unusedSimpArgs false
set_option linter.unusedVariables false
set_option maxRecDepth 100000 in
set_option maxHeartbeats 1000000 in
theorem byTurn_any {a b : Nat} {x y : Int} {w : World} (ha : w.cell? ⟨a, 0, none⟩ = some (.int .i64 x)) (hb : w.cell? ⟨b, 0, none⟩ = some (.int .i64 y)) :
    Calls Tryd.prog 54 #[.pointer (some ⟨a, 0, none⟩), .pointer (some ⟨b, 0, none⟩)] w fun e w' => e = .returned (.int .i64 (Lib.compareInt x y)) ∧ ∃ m, w' = w.drewN m := by
  have hc := Tryd.cmp_Compare_int x y
  go_enter Tryd.func54, Tryd.ntmps54
  go_wp2_with fail
  go_quiet ((go_at_call 66; exact Calls.quiet_of_same (hc _)))
  go_wp2_with fail
  go_ret
  exact ⟨rfl, _, rfl⟩
end Go.Proofs.YtbjhblnagmpnfaaDoor
