import Derived.Test.YtkjeneklkdekoaaDoorAs
import Derived.Test.YtkjeneklkdekoaaDoorSsix
namespace Go.Proofs.YtkjeneklkdekoaaDoor
open Go Go.RowKit Go.Extern.Stop Go.Stop Go.Extern
set_option linter.unusedSimpArgs false
set_option linter.unusedVariables false

theorem eql_ints (a b : Int) (w : World) : (binOp .eql 31 (.iface 33 (.int .i64 a)) (.iface 33 (.int .i64 b))).run Tryd.prog w = .ok (.bool (a == b)) w := by
  kernel_rfl
theorem eql_other (v : Value) (b : Int) (w : World) : (binOp .eql 31 (.iface 48 v) (.iface 33 (.int .i64 b))).run Tryd.prog w = .ok (.bool false) w := by
  kernel_rfl
theorem noIs48 (v : Value) (xT : TypeId) (w : World) : (Instr.typeAssert (.iface 48 v) xT 94 true).run Tryd.prog w = .ok (.tuple #[.nilIface, .bool false]) w := run_typeAssert_lacksB Tryd.underlying94 (by kernel_rfl) (by kernel_rfl) v xT w
theorem hasUn48 (v : Value) (xT : TypeId) (w : World) : (Instr.typeAssert (.iface 48 v) xT 90 true).run Tryd.prog w = .ok (.tuple #[.iface 48 v, .bool true]) w := run_typeAssert_hasB Tryd.underlying90 (by kernel_rfl) v xT w
theorem call81 (w : World) : (callFunc 81 #[.agg #[.pointer (some ⟨1, 33, none⟩)]]).run Tryd.prog w = .ok (.value (.bool true)) w := by kernel_rfl
theorem typeOf33 (v : Value) (w : World) : (ReflectliteType.typeOf #[.iface 33 v]).run Tryd.prog w = .ok (.iface 83 (.agg #[.pointer (some ⟨1, 33, none⟩)])) w := by kernel_rfl
theorem methodComparable (h : Value) (w : World) : (Go.method 226 83 (.agg #[h]) "Comparable").run Tryd.prog w = .ok (81, .agg #[h]) w := by kernel_rfl
theorem methodUnwrap (a : Addr) (w : World) : (Go.method 226 48 (.pointer (some a)) "Unwrap").run Tryd.prog w = .ok (75, .pointer (some a)) w := by kernel_rfl

set_option maxRecDepth 100000 in
set_option maxHeartbeats 4000000 in
theorem is_hit (pb po : Nat) (q : Int) (w : World) (h1 : w.cell? ⟨pb, po + 1, none⟩ = some (.int .i64 q)) :
    Calls Tryd.prog 28 #[.iface 48 (.pointer (some ⟨pb, po, none⟩)), .iface 33 (.int .i64 q)] w fun ev w' => ev = .returned (.bool true) ∧ w' = w := by
  have h48 := @run_callFunc_extern Tryd.prog 48 _ ReflectliteType.typeOf Tryd.func48 (by kernel_rfl) (by kernel_rfl) (by kernel_rfl) (by kernel_rfl)
  have e1 := eql_ints
  have e2 := eql_other
  have n1 := noIs48
  have n2 := hasUn48
  have t1 := typeOf33
  have m1 := methodComparable
  have m2 := methodUnwrap
  have m3 := call81
  have e3 : (q == q) = true := by simp
  go_enter Tryd.func28, Tryd.ntmps28
  go_wp2
  refine wp_loop_rounds 2 ?_
  rw [rounds_succ]
  go_wp2
  rw [rounds_succ]
  go_wp2
  go_ret
  exact ⟨rfl, rfl⟩
end Go.Proofs.YtkjeneklkdekoaaDoor
