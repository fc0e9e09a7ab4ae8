import Derived.Test.YtglnldopnoafoaaGreatDoorBkj
import Derived.Deep.QuietTactic
import Derived.BigQuiet
namespace Go.Proofs.YtglnldopnoafoaaGreatDoor
open Go Go.RowKit
set_option linter.unusedSimpArgs false
set_option linter.unusedVariables false

def RowAt (w : World) (v : Value) (n : Nat) (xs : List Value) : Prop :=
  xs.length = n ∧ ((v = .slice none 0 0 ∧ n = 0) ∨ ∃ g cp, v = .slice (some ⟨g, 0, none⟩) n cp ∧ n ≤ cp ∧ ∀ i, i < n → w.cell? ⟨g, i, none⟩ = xs[i]?)
theorem due_any (bb : Nat) (cs : Array Value) (n t : Nat) (w : World) (hn : n ≤ 1000000) (ht : t ≤ 1000000) (hB : BkAt w bb cs) (c0 : cs[0]? = some (.bool false)) (c2 : cs[2]? = some (.int .i64 t)) :
    Calls Tryz.prog 22 #[.pointer (some ⟨bb, 0, none⟩), .int .i64 n] w fun e w1 => (∃ d : Nat, e = .returned (.int .i64 d) ∧ t ≤ d ∧ d ≤ t + 8) ∧ w1 = w := by
  have x0 := (bk_cell hB c0).1
  have x2 := (bk_cell hB c2).1
  clear hB c0 c2
  go_enter Tryz.func22, Tryz.ntmps22
  go_wp2
  · go_ret
    exact ⟨⟨t, rfl, by omega, by omega⟩, rfl⟩
  · go_ret
    exact ⟨⟨t + 1 + n / 3 % 8, by simp, by omega, by omega⟩, rfl⟩
  · go_ret
    exact ⟨⟨t + 1, by simp, by omega, by omega⟩, rfl⟩
end Go.Proofs.YtglnldopnoafoaaGreatDoor
