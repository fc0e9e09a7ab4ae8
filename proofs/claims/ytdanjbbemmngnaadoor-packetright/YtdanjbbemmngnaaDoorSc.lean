import Derived.Test.YtdanjbbemmngnaaDoorSb
import Derived.Test.YtdanjbbemmngnaaDoorLd
import Derived.Deep.RegionHeld
namespace Go.Proofs.YtdanjbbemmngnaaDoor
open Go Go.RowKit Go.Sort
set_option linter.unusedSimpArgs false
set_option linter.unusedVariables false

/-- What a packet is but for its lists, cell by cell. -/
def plCells (p : Pk) : Array Value := #[.int .i64 p.kind, .int .i64 p.level, .int .i64 p.keep, .int .i64 p.code, .int .i64 p.id, .bool p.clean, .bool p.present, .bool p.dup, .bool p.hasWill, .bool p.hasUser, .bool p.hasPass, .string p.client, .string p.user, .string p.wT, .int .i64 p.wQ, .bool p.wR, .string p.mT, .int .i64 p.mQ, .bool p.mR]

theorem eqIn_heading (d : Nat) (t t' : ByteArray) (q q' : Int) (r r' : Bool) (w : World) : (Op.equalIn (d + 2) 49 (.agg #[.string t, .int .i64 q, .bool r]) (.agg #[.string t', .int .i64 q', .bool r'])).run Tryd.prog w = .ok (hdEq t t' q q' r r') w := by
  have hu : Tryd.prog.underlying 49 = some (.struct (Tryd.prog.fieldsOf 49)) := by kernel_rfl
  have hp : Tryd.prog.stoodInHeld 49 = false := by kernel_rfl
  rw [run_equalIn_agg w (d + 1) 49 _ _ hu hp]
  clear hu hp
  simp only [Program.fieldsOf, Tryd.underlying49, hdEq]
  cases h1 : (t.toList == t'.toList)
  · go_simp
  · cases h2 : (q == q')
    · go_simp
    · cases r <;> cases r' <;> go_simp

set_option maxHeartbeats 4000000 in
theorem eq_plain (p q : Pk) (w : World) : (binOp .eql 51 (.agg (plCells p)) (.agg (plCells q))).run Tryd.prog w = .ok (.bool (plEq p q)) w := by
  have hu : Tryd.prog.underlying 51 = some (.struct (Tryd.prog.fieldsOf 51)) := by kernel_rfl
  have hp : Tryd.prog.stoodInHeld 51 = false := by kernel_rfl
  rw [run_eql_struct, run_equalIn_agg w 9999 51 _ _ hu hp]
  clear hu hp
  have E1 := fun d => eqIn_heading d p.wT q.wT p.wQ q.wQ p.wR q.wR
  have E2 := fun d => eqIn_heading d p.mT q.mT p.mQ q.mQ p.mR q.mR
  have E1 : ∀ w, (Op.equalIn 9999 49 (.agg #[.string p.wT, .int .i64 p.wQ, .bool p.wR]) (.agg #[.string q.wT, .int .i64 q.wQ, .bool q.wR])).run Tryd.prog w = .ok (hdEq p.wT q.wT p.wQ q.wQ p.wR q.wR) w := E1 9997
  have E2 : ∀ w, (Op.equalIn 9999 49 (.agg #[.string p.mT, .int .i64 p.mQ, .bool p.mR]) (.agg #[.string q.mT, .int .i64 q.mQ, .bool q.mR])).run Tryd.prog w = .ok (hdEq p.mT q.mT p.mQ q.mQ p.mR q.mR) w := E2 9997
  simp only [Program.fieldsOf, Tryd.underlying51, plEq, plCells]
  cases h0 : (p.kind == q.kind)
  · go_simp
  cases h1 : (p.level == q.level)
  · go_simp
  cases h2 : (p.keep == q.keep)
  · go_simp
  cases h3 : (p.code == q.code)
  · go_simp
  cases h4 : (p.id == q.id)
  · go_simp
  cases h5 : (p.clean == q.clean)
  · go_simp
  cases h6 : (p.present == q.present)
  · go_simp
  cases h7 : (p.dup == q.dup)
  · go_simp
  cases h8 : (p.hasWill == q.hasWill)
  · go_simp
  cases h9 : (p.hasUser == q.hasUser)
  · go_simp
  cases h10 : (p.hasPass == q.hasPass)
  · go_simp
  cases h11 : (p.client.toList == q.client.toList)
  · go_simp
  cases h12 : (p.user.toList == q.user.toList)
  · go_simp
  cases h13 : (hdEq p.wT q.wT p.wQ q.wQ p.wR q.wR)
  · go_simp
  cases h14 : (hdEq p.mT q.mT p.mQ q.mQ p.mR q.mR)
  · go_simp
  go_simp

end Go.Proofs.YtdanjbbemmngnaaDoor
