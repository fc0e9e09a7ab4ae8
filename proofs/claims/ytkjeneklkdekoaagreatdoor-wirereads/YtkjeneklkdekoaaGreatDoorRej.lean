import Derived.Test.YtkjeneklkdekoaaGreatDoorReh
namespace Go.Proofs.YtkjeneklkdekoaaGreatDoor
open Go Go.RowKit
set_option linter.unusedSimpArgs false
set_option linter.unusedVariables false

theorem built83 (a : Option Addr) (n k : Nat) : Tryz.prog.built 83 [(0, .slice a n k)] = some #[.slice a n k, .int .i64 0, .int .i64 0, .int .i64 0] := by kernel_rfl
theorem came_cl {w : World} {a : Option Addr} {l k : Nat} {z : Nat → Int} (h : Came w a l k z) : CL w a l k (cellsOf z l) := by
  obtain ⟨h1, h2, h3⟩ := came_byt h
  refine ⟨h1, by simp [cellsOf], ?_⟩
  rcases h3 with q | ⟨b, off, e, hc⟩
  · exact .inl q
  · refine .inr ⟨b, off, e, fun j hj => ?_⟩
    rw [hc j hj, cellsOf_at z l j hj]
set_option maxRecDepth 100000 in
set_option maxHeartbeats 1000000 in
/-- The document's Read. -/
theorem refRead_any {w : World} {ao : Option Addr} {l k : Nat} {z : Nat → Int} (h : Came w ao l k z) (hl : l ≤ 300000) : Calls Tryz.prog 13 #[.slice ao l k] w fun e w' => ∃ mb a c, e = .returned (.pointer (some ⟨mb, 0, none⟩)) ∧ Rrd w' mb a l c z ⟨0, 0, 0⟩ ∧ w.heap.size ≤ mb ∧ (∀ g, a = some ⟨g, 0, none⟩ → w.heap.size ≤ g) ∧ Below w.heap.size w w' := by
  obtain ⟨a, c, w1, hr, ho, hb⟩ := nil_run (w := w) 22 ao l k (cellsOf z l) (came_cl h) (fun u hu => cellsOf_one z l u hu) (by omega)
  have HRUN := hidi hr
  have hb83 : ∀ w', (Instr.build 83 #[(0, .slice a l c)]).run Tryz.prog w' = .ok (.agg #[.slice a l c, .int .i64 0, .int .i64 0, .int .i64 0]) w' := fun w' => run_build w' 83 _ _ (built83 a l c)
  have hbel : Below w.heap.size w (w1.alloc (.cells #[.slice a l c, .int .i64 0, .int .i64 0, .int .i64 0] 83)) := hb.alloc hb.size _
  have hcm : Came (w1.alloc (.cells #[.slice a l c, .int .i64 0, .int .i64 0, .int .i64 0] 83)) a l c z := came_below (B := 0) (ownv_came (own_zero ho) rfl h.2.1) ((Below.refl _ _).alloc (Nat.le_refl _) _)
  have hsh : a = none ∨ ∃ g, a = some ⟨g, 0, none⟩ ∧ w.heap.size ≤ g ∧ g < w1.heap.size := by
    rcases ho.2 with ⟨q, _⟩ | ⟨g, cap, cur, q, e1, hg, _⟩
    · injection q with q1 q2 q3
      exact .inl q1
    · injection q with q1 q2 q3
      exact .inr ⟨g, q1, e1, lt_of_block hg⟩
  have Z : Hid (∃ mb a' c', (.returned (.pointer (some ⟨w1.heap.size, 0, none⟩)) : Ending) = .returned (.pointer (some ⟨mb, 0, none⟩)) ∧ Rrd (w1.alloc (.cells #[.slice a l c, .int .i64 0, .int .i64 0, .int .i64 0] 83)) mb a' l c' z ⟨0, 0, 0⟩ ∧ w.heap.size ≤ mb ∧ (∀ g, a' = some ⟨g, 0, none⟩ → w.heap.size ≤ g) ∧ Below w.heap.size w (w1.alloc (.cells #[.slice a l c, .int .i64 0, .int .i64 0, .int .i64 0] 83))) := by
    refine ⟨w1.heap.size, a, c, rfl, ⟨heap_alloc_new w1 _, hcm, ?_, Nat.zero_le _, hl⟩, hb.size, fun g e => ?_, hbel⟩
    · rcases hsh with q | ⟨g, q, _, q2⟩
      · exact .inl q
      · exact .inr ⟨g, q, by omega⟩
    · rcases hsh with q | ⟨g', q, q1, _⟩
      · rw [q] at e
        cases e
      · rw [q] at e
        cases e
        exact q1
  clear h hl hr ho hb hbel hcm hsh
  go_enter Tryz.func13, Tryz.ntmps13
  go_wp2_with (at_builtin; refine Lib.wpList_append_run _ rfl (.tmp 4) (.tmp 5) 22 22 rfl _ _ rfl rfl _ w1 HRUN.out ?_)
  all_goals (try go_ret)
  all_goals exact Z.out
end Go.Proofs.YtkjeneklkdekoaaGreatDoor
