import Derived.Test.YtdhinpmjbcohaaaHh
import Derived.Laws.Rows
namespace Go.Proofs.Ytdhinpmjbcohaaa
open Go Go.RowKit Go.Shelf
set_option linter.unusedSimpArgs false
set_option linter.unusedVariables false
open Rf (e2 e2_len e2_app e2_one e2_at ER own_er own_shape app_many addr0 RS AftR)

/-- The world behind begin. -/
def bgw (w : World) (rm : Nat) : World := ((((w.alloc (.cells #[pt (w.heap.size + 1), pt (w.heap.size + 1 + 1), pt (w.heap.size + 1 + 1 + 1), pt (w.heap.size + 1 + 1 + 1 + 1)] 28)).alloc (.cells #[.int .i64 rm, .pointer none, .map none] 124)).alloc (.cells #[.int .i64 rm, .slice none 0 0] 79)).alloc (.cells #[.slice none 0 0] 67)).alloc (.cells #[.slice none 0 0] 69)
set_option maxRecDepth 100000 in
set_option maxHeartbeats 4000000 in
theorem begin_walk {w : World} {most : Int} {rm : Nat} 
    (h1 : ∀ W, Calls Try.prog 25 #[.int .i64 most] W fun r w' => r = .returned (pt W.heap.size) ∧ w' = W.alloc (.cells #[.int .i64 rm, .pointer none, .map none] 124))
    (h2 : ∀ W, Calls Try.prog 26 #[.int .i64 most] W fun r w' => r = .returned (pt W.heap.size) ∧ w' = W.alloc (.cells #[.int .i64 rm, .slice none 0 0] 79)) :
    Calls Try.prog 7 #[.int .i64 most] w fun r w' => r = .returned (.agg #[pt (w.heap.size + 1), pt (w.heap.size + 1 + 1), pt (w.heap.size + 1 + 1 + 1), pt (w.heap.size + 1 + 1 + 1 + 1)]) ∧ w' = bgw w rm := by
  have H1 := hidi h1
  have H2 := hidi h2
  have H3 : Hid ((bgw w rm).heap[w.heap.size]? = some (.cells #[pt (w.heap.size + 1), pt (w.heap.size + 1 + 1), pt (w.heap.size + 1 + 1 + 1), pt (w.heap.size + 1 + 1 + 1 + 1)] 28 (0, 0))) := by
    have hb : ∀ (A : World) (o : Obj) (j : Nat), j < A.heap.size → (A.alloc o).heap[j]? = A.heap[j]? := fun A o j hj => (World.grownBy_alloc A o none).block j hj (by simp)
    unfold bgw
    show _ = _
    rw [hb _ _ _ (by simp <;> omega), hb _ _ _ (by simp <;> omega), hb _ _ _ (by simp <;> omega), hb _ _ _ (by simp <;> omega)]
    exact (MapKept.heap_alloc _ _).1
  clear h1 h2
  unfold bgw pt at *
  go_enter Try.func7, Try.ntmps7
  go_wp2_with fail
  go_must (go_at_call 25)
  refine (H1.out _).mono ?_
  rintro e w1 ⟨rfl, rfl⟩
  go_wp2_with fail
  go_must (go_at_call 26)
  refine (H2.out _).mono ?_
  rintro e w2 ⟨rfl, rfl⟩
  go_wp2_with fail
  (try simp only [Exit.inBlock, Exit.then])
  refine bodyPost_ret (results_cell_row rfl _ _ w.heap.size 28 _ (0, 0) _ rfl H3.out Try.underlying28 rfl (by kernel_rfl)) rfl ?_
  exact ⟨rfl, rfl⟩
/-- A new pair. -/
theorem begin_any (w : World) (most : Int) : Calls Try.prog 7 #[.int .i64 most] w fun r w' => r = .returned (.agg #[pt (w.heap.size + 1), pt (w.heap.size + 1 + 1), pt (w.heap.size + 1 + 1 + 1), pt (w.heap.size + 1 + 1 + 1 + 1)]) ∧ w'.heap.size = w.heap.size + 5 ∧ Below w.heap.size w w' ∧
    ∃ F G1 G2 G3, PR w' (w.heap.size + 1) (w.heap.size + 1 + 1) (w.heap.size + 1 + 1 + 1) (w.heap.size + 1 + 1 + 1 + 1) (Si.rm most) [] [] [] [] F G1 G2 G3 ∧ ∀ j, F j ∨ G1 j ∨ G2 j ∨ G3 j → w.heap.size ≤ j := by
  refine (begin_walk (fun W => Si.new_run most W) (fun W => Rf.rnew_run most _ (Si.rm_eq most) W)).mono ?_
  rintro r w' ⟨rfl, rfl⟩
  have hb : ∀ (A : World) (o : Obj) (j : Nat), j < A.heap.size → (A.alloc o).heap[j]? = A.heap[j]? := fun A o j hj => (World.grownBy_alloc A o none).block j hj (by simp)
  have hnew : ∀ (A : World) (o : Obj) (j : Nat), j = A.heap.size → (A.alloc o).heap[j]? = some o := fun A o j hj => by
    rw [hj]
    exact (MapKept.heap_alloc A o).1
  have e1 : (bgw w (Si.rm most)).heap[w.heap.size + 1]? = some (.cells #[.int .i64 (Si.rm most), .pointer none, .map none] 124 (0, 0)) := by
    unfold bgw
    rw [hb _ _ _ (by simp <;> omega), hb _ _ _ (by simp <;> omega), hb _ _ _ (by simp <;> omega)]
    exact hnew _ _ _ (by simp)
  have e2 : (bgw w (Si.rm most)).heap[w.heap.size + 1 + 1]? = some (.cells #[.int .i64 (Si.rm most), .slice none 0 0] 79 (0, 0)) := by
    unfold bgw
    rw [hb _ _ _ (by simp <;> omega), hb _ _ _ (by simp <;> omega)]
    exact hnew _ _ _ (by simp)
  have e3 : (bgw w (Si.rm most)).heap[w.heap.size + 1 + 1 + 1]? = some (.cells #[.slice none 0 0] 67 (0, 0)) := by
    unfold bgw
    rw [hb _ _ _ (by simp <;> omega)]
    exact hnew _ _ _ (by simp)
  have e4 : (bgw w (Si.rm most)).heap[w.heap.size + 1 + 1 + 1 + 1]? = some (.cells #[.slice none 0 0] 69 (0, 0)) := by
    unfold bgw
    exact hnew _ _ _ (by simp)
  refine ⟨rfl, by simp [bgw], ?_, (fun j => j = w.heap.size + 1), (fun j => j = w.heap.size + 1 + 1 + 1), (fun j => j = w.heap.size + 1 + 1 + 1 + 1), (fun j => j = w.heap.size + 1 + 1), ⟨?_, ?_, ?_, ?_, ?_, ?_, ?_⟩, ?_⟩
  · unfold bgw
    exact (((((Below.refl _ _).alloc (Nat.le_refl _) _).alloc (by simp) _).alloc (by simp <;> omega) _).alloc (by simp <;> omega) _).alloc (by simp <;> omega) _
  · refine ⟨.map none, [], id, id, fun _ => default, fun _ => 0, ⟨e1, fun b hb => (by cases hb), List.nodup_nil, trivial, fun a ha => (by cases ha), fun a ha => (by cases ha), .inl ⟨rfl, rfl⟩⟩, rfl, fun j => ?_, by simp⟩
    simp [Si.FP]
  · exact ⟨_, e3, World.ownsRow_nil _ _ _ _, fun j => by simp [Value.ownBlock], fun _ => rfl⟩
  · exact ⟨_, e4, World.ownsRow_nil _ _ _ _, fun j => by simp [Value.ownBlock], fun _ => rfl⟩
  · exact ⟨⟨_, e2, World.ownsRow_nil _ _ _ _, fun j => by simp [Value.ownBlock]⟩, List.nodup_nil⟩
  · intro j hj
    exact ⟨by omega, by omega, by omega⟩
  · intro j hj
    exact ⟨by omega, by omega⟩
  · intro j hj
    omega
  · intro j hj
    omega
end Go.Proofs.Ytdhinpmjbcohaaa
