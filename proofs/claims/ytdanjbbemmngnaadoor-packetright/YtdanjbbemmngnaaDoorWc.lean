import Derived.Test.YtdanjbbemmngnaaDoorWb
import Derived.Lib.QuietBelow
import Derived.Laws.Rows
import Derived.Laws.StructEq
namespace Go.Proofs.YtdanjbbemmngnaaDoor
open Go Go.RowKit Go.Sort
set_option linter.unusedSimpArgs false
set_option linter.unusedVariables false

theorem below2 (w : World) (o o' : Obj) : Below w.heap.size w ((w.alloc o).alloc o') := ((Below.refl _ _).alloc (Nat.le_refl _) _).alloc (by simp) _

set_option maxHeartbeats 400000 in
theorem heading_any (t : ByteArray) (a : Option Addr) (n c : Nat) (q : Int) (r : Bool) (w : World) : Calls Tryd.prog 43 #[.agg #[.string t, .slice a n c, .int .i64 q, .bool r]] w fun e w' => e = .returned (.agg #[.string t, .int .i64 q, .bool r]) ∧ Below w.heap.size w w' := by
  go_enter Tryd.func43, Tryd.ntmps43
  go_wp2
  exact bodyPost_ret (results_cell_row rfl _ _ _ _ _ _ _ rfl (heap_alloc2_new _ _ _) Tryd.underlying49 rfl (by kernel_rfl)) rfl ⟨rfl, below2 _ _ _⟩

set_option maxHeartbeats 400000 in
theorem eq_heading (t t' : ByteArray) (q q' : Int) (r r' : Bool) (w : World) : (binOp .eql 49 (.agg #[.string t, .int .i64 q, .bool r]) (.agg #[.string t', .int .i64 q', .bool r'])).run Tryd.prog w = .ok (.bool ((t.toList == t'.toList) && (q == q') && (r == r'))) w := by
  have hu : Tryd.prog.underlying 49 = some (.struct (Tryd.prog.fieldsOf 49)) := by kernel_rfl
  have hp : Tryd.prog.stoodInHeld 49 = false := by kernel_rfl
  rw [run_eql_struct, run_equalIn_agg w 9999 49 _ _ hu hp]
  clear hu hp
  simp only [Program.fieldsOf, Tryd.underlying49]
  cases h1 : (t.toList == t'.toList)
  · go_simp
  · cases h2 : (q == q')
    · go_simp
    · cases r <;> cases r' <;> go_simp
set_option maxHeartbeats 400000 in
theorem sameMessage_any (t t' : ByteArray) (s s' : Sl) (q q' : Int) (r r' : Bool) (z z' : Nat → Int) (w : World) (h : By w s z) (h' : By w s' z') :
    Calls Tryd.prog 44 #[.agg #[.string t, s.v, .int .i64 q, .bool r], .agg #[.string t', s'.v, .int .i64 q', .bool r']] w fun e w' => e = .returned (.bool ((t.toList == t'.toList) && (q == q') && (r == r') && ((strZ z s.n).toList == (strZ z' s'.n).toList))) ∧ Below w.heap.size w w' := by
  have HB : Hid (∀ w', Below w.heap.size w w' → Calls Tryd.prog 24 #[s.v, s'.v] w' fun e w'' => e = .returned (.bool ((strZ z s.n).toList == (strZ z' s'.n).toList)) ∧ w'' = w') := fun w' hb => beq_any s s' z z' w' (h.below hb) (h'.below hb)
  simp only [Sl.v] at HB ⊢
  clear h h'
  go_enter Tryd.func44, Tryd.ntmps44
  go_wp2_with fail
  have b0 := below2 w (Obj.cells #[Value.string t, Value.slice s.a s.n s.c, Value.int IntKind.i64 q, Value.bool r] 26) (Obj.cells #[Value.string t', Value.slice s'.a s'.n s'.c, Value.int IntKind.i64 q', Value.bool r'] 26)
  have g0 := heap_alloc2_new w (Obj.cells #[Value.string t, Value.slice s.a s.n s.c, Value.int IntKind.i64 q, Value.bool r] 26) (Obj.cells #[Value.string t', Value.slice s'.a s'.n s'.c, Value.int IntKind.i64 q', Value.bool r'] 26)
  generalize hW : ((w.alloc (Obj.cells #[Value.string t, Value.slice s.a s.n s.c, Value.int IntKind.i64 q, Value.bool r] 26)).alloc
      (Obj.cells #[Value.string t', Value.slice s'.a s'.n s'.c, Value.int IntKind.i64 q', Value.bool r'] 26)) = W at *
  have k0 : W.cell? ⟨w.heap.size, 0, none⟩ = some (.string t) := by subst hW; simp
  have k1 : W.cell? ⟨w.heap.size, 1, none⟩ = some (Value.slice s.a s.n s.c) := by subst hW; simp
  have k2 : W.cell? ⟨w.heap.size, 2, none⟩ = some (.int .i64 q) := by subst hW; simp
  have k3 : W.cell? ⟨w.heap.size, 3, none⟩ = some (.bool r) := by subst hW; simp
  have l0 : W.cell? ⟨w.heap.size + 1, 0, none⟩ = some (.string t') := by subst hW; simp
  have l1 : W.cell? ⟨w.heap.size + 1, 1, none⟩ = some (Value.slice s'.a s'.n s'.c) := by subst hW; simp
  have l2 : W.cell? ⟨w.heap.size + 1, 2, none⟩ = some (.int .i64 q') := by subst hW; simp
  have l3 : W.cell? ⟨w.heap.size + 1, 3, none⟩ = some (.bool r') := by subst hW; simp
  have B0 : Hid (Below w.heap.size w W) := b0
  clear hW b0 g0
  have k0 := cell_regrown k0
  have k1 := cell_regrown k1
  have k2 := cell_regrown k2
  have k3 := cell_regrown k3
  have l0 := cell_regrown l0
  have l1 := cell_regrown l1
  have l2 := cell_regrown l2
  have l3 := cell_regrown l3
  have EG : Tryd.prog.eqGuardType Tryd.prog.depth 49 = false := by kernel_rfl
  have EQ := eq_heading t t' q q' r r'
  have HC : Hid (∀ d os, Calls Tryd.prog 24 #[Value.slice s.a s.n s.c, Value.slice s'.a s'.n s'.c] (grow (redrawn W d) os) fun e w'' => e = .returned (.bool ((strZ z s.n).toList == (strZ z' s'.n).toList)) ∧ Below (grow (redrawn W d) os).heap.size (grow (redrawn W d) os) w'') := fun d os =>
    (HB.out _ (B0.out.trans ((below_regrown W d os).mono B0.out.size))).mono fun e w'' ⟨h1, h2⟩ => ⟨h1, by rw [h2]; exact Below.refl _ _⟩
  clear HB
  cases hB : (t.toList == t'.toList && q == q' && r == r')
  · rw [hB] at EQ
    refine wp_region_quiet_below (by kernel_rfl) (by kernel_rfl) ?_
    repeat (quiet_step (first | exact Calls.regrown_of (heading_any _ _ _ _ _ _ _)))
    refine wpQuiet_nil ?_
    rintro _ ⟨⟨d, os⟩, rfl⟩
    go_wp2
    go_ret
    exact ⟨by rw [hB, Bool.false_and]; rfl, B0.out.trans ((below_regrown W d os).mono B0.out.size)⟩
  · rw [hB] at EQ
    refine wp_region_quiet_below (by kernel_rfl) (by kernel_rfl) ?_
    repeat (quiet_step (first | exact Calls.regrown_of (heading_any _ _ _ _ _ _ _) | exact Calls.regrown_of (HC.out _ _)))
    refine wpQuiet_nil ?_
    rintro _ ⟨⟨d, os⟩, rfl⟩
    go_wp2
    go_ret
    exact ⟨by rw [hB, Bool.true_and]; rfl, B0.out.trans ((below_regrown W d os).mono B0.out.size)⟩
end Go.Proofs.YtdanjbbemmngnaaDoor
