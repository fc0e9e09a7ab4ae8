import Derived.Test.YtbjhblnagmpnfaaDoorOn
namespace Go.Proofs.YtbjhblnagmpnfaaDoor
open Go Go.RowKit Go.Shelf Go.Maps Go.Sort
set_option linter.unusedSimpArgs false
set_option linter.unusedVariables false
/-! ### Ack -/
set_option maxRecDepth 100000 in
set_option maxHeartbeats 1000000 in
/-- Nothing under way with that number, or offline. -/
theorem ack_none {w : World} {wb : Nat} {mu : Value} {kind id : Int} (c5 : w.cell? ⟨wb, 5, none⟩ = some mu) (hl : (Instr.lookup 68 mu (.int .i64 id) true).run Tryd.prog w = .ok (.tuple #[.pointer none, .bool false]) w) :
    Calls Tryd.prog 20 #[.pointer (some ⟨wb, 0, none⟩), .int .i64 kind, .int .i64 id] w fun e w' => e = .returned (.slice none 0 0) ∧ w' = w := by
  go_enter Tryd.func20, Tryd.ntmps20
  go_wp2_with fail
  go_ret
  exact ⟨rfl, rfl⟩
set_option maxRecDepth 100000 in
set_option maxHeartbeats 1000000 in
theorem ack_off {w : World} {wb b : Nat} {mu : Value} {kind id : Int} (c5 : w.cell? ⟨wb, 5, none⟩ = some mu) (c2 : w.cell? ⟨wb, 2, none⟩ = some (.bool false)) (hl : (Instr.lookup 68 mu (.int .i64 id) true).run Tryd.prog w = .ok (.tuple #[.pointer (some ⟨b, 0, none⟩), .bool true]) w) :
    Calls Tryd.prog 20 #[.pointer (some ⟨wb, 0, none⟩), .int .i64 kind, .int .i64 id] w fun e w' => e = .returned (.slice none 0 0) ∧ w' = w := by
  go_enter Tryd.func20, Tryd.ntmps20
  go_wp2_with fail
  go_ret
  exact ⟨rfl, rfl⟩
set_option maxRecDepth 100000 in
set_option maxHeartbeats 4000000 in
theorem ack_nil5 {w : World} {wb b tn : Nat} {t : ByteArray} {v mu : Value} {q : Int} {r : Bool} {id : Int} (hb : w.heap[b]? = some (.cells #[.int .i64 tn, .int .i64 4, .int .i64 id, .string t, v, .int .i64 q, .bool r] 90 (0, 0))) (hwb : wb < w.heap.size) (c5 : w.cell? ⟨wb, 5, none⟩ = some mu) (c2 : w.cell? ⟨wb, 2, none⟩ = some (.bool true)) (hl : (Instr.lookup 68 mu (.int .i64 id) true).run Tryd.prog w = .ok (.tuple #[.pointer (some ⟨b, 0, none⟩), .bool true]) w) :
    Calls Tryd.prog 20 #[.pointer (some ⟨wb, 0, none⟩), .int .i64 5, .int .i64 id] w fun e w' => e = .returned (.slice none 0 0) ∧ Below w.heap.size w w' := by
  have HBK := hidi hb
  have hbl : b < w.heap.size := (Array.getElem?_eq_some_iff.1 hb).1
  have k1 := box_cells hb 1 _ rfl
  have k2 := box_cells hb 2 _ rfl
  have k3 := box_cells hb 3 _ rfl
  have k4 := box_cells hb 4 _ rfl
  have k5 := box_cells hb 5 _ rfl
  have k6 := box_cells hb 6 _ rfl
  have kf := box_frozen hb
  have n1 : b ≠ w.heap.size := by omega
  have n2 : b ≠ w.heap.size + 1 := by omega
  have n3 : w.heap.size ≠ b := by omega
  have n4 : w.heap.size + 1 ≠ b := by omega
  clear hb
  go_enter Tryd.func20, Tryd.ntmps20
  go_wp2_with fail
  go_quiet (fail)
  go_wp2_with fail
  go_quiet (fail)
  go_wp2_with fail
  go_ret
  exact ⟨rfl, below_drewN (below_drewN (two_below _ _ _))⟩
set_option maxRecDepth 100000 in
set_option maxHeartbeats 4000000 in
theorem ack_nilk {w : World} {wb b tn : Nat} {t : ByteArray} {v mu : Value} {q : Int} {r : Bool} {kind a id : Int} (hk5 : (kind == 5) = false) (hka : (a == kind) = false) (hb : w.heap[b]? = some (.cells #[.int .i64 tn, .int .i64 a, .int .i64 id, .string t, v, .int .i64 q, .bool r] 90 (0, 0))) (hwb : wb < w.heap.size) (c5 : w.cell? ⟨wb, 5, none⟩ = some mu) (c2 : w.cell? ⟨wb, 2, none⟩ = some (.bool true)) (hl : (Instr.lookup 68 mu (.int .i64 id) true).run Tryd.prog w = .ok (.tuple #[.pointer (some ⟨b, 0, none⟩), .bool true]) w) :
    Calls Tryd.prog 20 #[.pointer (some ⟨wb, 0, none⟩), .int .i64 kind, .int .i64 id] w fun e w' => e = .returned (.slice none 0 0) ∧ Below w.heap.size w w' := by
  have HBK := hidi hb
  have hbl : b < w.heap.size := (Array.getElem?_eq_some_iff.1 hb).1
  have k1 := box_cells hb 1 _ rfl
  have k2 := box_cells hb 2 _ rfl
  have k3 := box_cells hb 3 _ rfl
  have k4 := box_cells hb 4 _ rfl
  have k5 := box_cells hb 5 _ rfl
  have k6 := box_cells hb 6 _ rfl
  have kf := box_frozen hb
  have n1 : b ≠ w.heap.size := by omega
  have n2 : b ≠ w.heap.size + 1 := by omega
  have n3 : w.heap.size ≠ b := by omega
  have n4 : w.heap.size + 1 ≠ b := by omega
  clear hb
  go_enter Tryd.func20, Tryd.ntmps20
  go_wp2_with fail
  go_quiet (fail)
  go_wp2_with fail
  go_quiet (fail)
  go_wp2_with fail
  go_ret
  exact ⟨rfl, below_drewN (below_drewN (two_below _ _ _))⟩
set_option maxRecDepth 100000 in
set_option maxHeartbeats 4000000 in
theorem ack_rel5 {w : World} {wb b tn : Nat} {t : ByteArray} {v mu : Value} {q : Int} {r : Bool} {id : Int} {R : Value → World → Prop} (hb : w.heap[b]? = some (.cells #[.int .i64 tn, .int .i64 5, .int .i64 id, .string t, v, .int .i64 q, .bool r] 90 (0, 0))) (hwb : wb < w.heap.size) (c5 : w.cell? ⟨wb, 5, none⟩ = some mu) (c2 : w.cell? ⟨wb, 2, none⟩ = some (.bool true)) (hl : (Instr.lookup 68 mu (.int .i64 id) true).run Tryd.prog w = .ok (.tuple #[.pointer (some ⟨b, 0, none⟩), .bool true]) w) (HK : ∀ w3, Ch (fun j => j = b) w w3 → w3.heap[b]? = some (.cells #[.int .i64 tn, .int .i64 7, .int .i64 id, .string ⟨#[]⟩, .slice none 0 0, .int .i64 0, .bool false] 90 (0, 0)) → ∀ w4, Below w3.heap.size w3 w4 → R (.slice (some ⟨w4.heap.size, 0, none⟩) 1 1) (w4.alloc (.cells (pkc 6 false ⟨#[]⟩ (.slice none 0 0) 0 false id) 51))) :
    Calls Tryd.prog 20 #[.pointer (some ⟨wb, 0, none⟩), .int .i64 5, .int .i64 id] w fun e w' => ∃ x, e = .returned x ∧ R x w' := by
  have HBK := hidi hb
  have hbl : b < w.heap.size := (Array.getElem?_eq_some_iff.1 hb).1
  have k1 := box_cells hb 1 _ rfl
  have k2 := box_cells hb 2 _ rfl
  have k3 := box_cells hb 3 _ rfl
  have k4 := box_cells hb 4 _ rfl
  have k5 := box_cells hb 5 _ rfl
  have k6 := box_cells hb 6 _ rfl
  have kf := box_frozen hb
  have n1 : b ≠ w.heap.size := by omega
  have n2 : b ≠ w.heap.size + 1 := by omega
  have n3 : w.heap.size ≠ b := by omega
  have n4 : w.heap.size + 1 ≠ b := by omega
  have H := hidi HK
  clear hb HK
  go_enter Tryd.func20, Tryd.ntmps20
  go_wp2_with fail
  go_quiet (fail)
  obtain ⟨w2, hw2⟩ : ∃ w2, w2 = (((w.alloc (.cells #[.int .i64 5, .int .i64 id] 88)).alloc (.cells #[.int .i64 7, .int .i64 id] 88)).drewN nq) := ⟨_, rfl⟩
  rw [← hw2]
  have B2 := hidi (show Below w.heap.size w w2 by rw [hw2]; exact below_drewN (two_below _ _ _))
  have q1 : w2.heap[w.heap.size + 1]? = some (.cells #[.int .i64 7, .int .i64 id] 88 (0, 0)) := by rw [hw2]; simpa using (two_alloc w (.cells #[.int .i64 5, .int .i64 id] 88) (.cells #[.int .i64 7, .int .i64 id] 88)).2.1
  have q2 : w2.heap[b]? = some (.cells #[.int .i64 tn, .int .i64 5, .int .i64 id, .string t, v, .int .i64 q, .bool r] 90 (0, 0)) := (B2.out.block b hbl).trans HBK.out
  clear hw2 k1 k2 k3 k4 k5 k6 kf c5 c2 hl
  have k1 := box_cells q2 1 _ rfl
  have k2 := box_cells q2 2 _ rfl
  have k3 := box_cells q2 3 _ rfl
  have k4 := box_cells q2 4 _ rfl
  have k5 := box_cells q2 5 _ rfl
  have k6 := box_cells q2 6 _ rfl
  have kf := box_frozen q2
  have g0 := box_cells q1 0 _ rfl
  have g1 := box_cells q1 1 _ rfl
  have Q2 := hidi q2
  clear q1 q2
  go_wp2_with fail
  go_must (go_at_call 40)
  obtain ⟨w3, hw3⟩ : ∃ w3, w3 = (((((w2.setCell ⟨b, 1, none⟩ (.int .i64 7)).setCell ⟨b, 2, none⟩ (.int .i64 id)).setCell ⟨b, 3, none⟩ (.string ⟨#[]⟩)).setCell ⟨b, 4, none⟩ (.slice none 0 0)).setCell ⟨b, 5, none⟩ (.int .i64 0)).setCell ⟨b, 6, none⟩ (.bool false) := ⟨_, rfl⟩
  rw [← hw3]
  have c3 : Ch (fun j => j = b) w w3 := by
    rw [hw3]
    exact (((((((Below.ch B2.out).then (ch_set b 1 _)).then (ch_set b 2 _)).then (ch_set b 3 _)).then (ch_set b 4 _)).then (ch_set b 5 _)).then (ch_set b 6 _))
  have b3 : w3.heap[b]? = some (.cells #[.int .i64 tn, .int .i64 7, .int .i64 id, .string ⟨#[]⟩, .slice none 0 0, .int .i64 0, .bool false] 90 (0, 0)) := by
    rw [hw3, heap_set (heap_set (heap_set (heap_set (heap_set (heap_set Q2.out _) _) _) _) _) _]
    rfl
  have HZ := hidi (H.out w3 c3 b3)
  clear c3 b3 hw3 H k1 k2 k3 k4 k5 k6 kf g0 g1
  refine (pubrel_any id w3).mono ?_
  rintro e w4 ⟨rfl, hb4⟩
  have HZ2 := hidi (HZ.out w4 hb4)
  clear hb4 HZ
  simp only [pkc]
  go_wp2_with fail
  go_ret
  exact ⟨_, rfl, HZ2.out⟩
set_option maxRecDepth 100000 in
set_option maxHeartbeats 4000000 in
theorem ack_rel7 {w : World} {wb b tn : Nat} {t : ByteArray} {v mu : Value} {q : Int} {r : Bool} {id : Int} {R : Value → World → Prop} (hb : w.heap[b]? = some (.cells #[.int .i64 tn, .int .i64 7, .int .i64 id, .string t, v, .int .i64 q, .bool r] 90 (0, 0))) (hwb : wb < w.heap.size) (c5 : w.cell? ⟨wb, 5, none⟩ = some mu) (c2 : w.cell? ⟨wb, 2, none⟩ = some (.bool true)) (hl : (Instr.lookup 68 mu (.int .i64 id) true).run Tryd.prog w = .ok (.tuple #[.pointer (some ⟨b, 0, none⟩), .bool true]) w) (HK : ∀ w3, Ch (fun j => j = b) w w3 → w3.heap[b]? = some (.cells #[.int .i64 tn, .int .i64 7, .int .i64 id, .string ⟨#[]⟩, .slice none 0 0, .int .i64 0, .bool false] 90 (0, 0)) → ∀ w4, Below w3.heap.size w3 w4 → R (.slice (some ⟨w4.heap.size, 0, none⟩) 1 1) (w4.alloc (.cells (pkc 6 false ⟨#[]⟩ (.slice none 0 0) 0 false id) 51))) :
    Calls Tryd.prog 20 #[.pointer (some ⟨wb, 0, none⟩), .int .i64 5, .int .i64 id] w fun e w' => ∃ x, e = .returned x ∧ R x w' := by
  have HBK := hidi hb
  have hbl : b < w.heap.size := (Array.getElem?_eq_some_iff.1 hb).1
  have k1 := box_cells hb 1 _ rfl
  have k2 := box_cells hb 2 _ rfl
  have k3 := box_cells hb 3 _ rfl
  have k4 := box_cells hb 4 _ rfl
  have k5 := box_cells hb 5 _ rfl
  have k6 := box_cells hb 6 _ rfl
  have kf := box_frozen hb
  have n1 : b ≠ w.heap.size := by omega
  have n2 : b ≠ w.heap.size + 1 := by omega
  have n3 : w.heap.size ≠ b := by omega
  have n4 : w.heap.size + 1 ≠ b := by omega
  have H := hidi HK
  clear hb HK
  go_enter Tryd.func20, Tryd.ntmps20
  go_wp2_with fail
  go_quiet (fail)
  obtain ⟨w2, hw2⟩ : ∃ w2, w2 = (((w.alloc (.cells #[.int .i64 5, .int .i64 id] 88)).alloc (.cells #[.int .i64 7, .int .i64 id] 88)).drewN nq) := ⟨_, rfl⟩
  rw [← hw2]
  have B2 := hidi (show Below w.heap.size w w2 by rw [hw2]; exact below_drewN (two_below _ _ _))
  have q1 : w2.heap[w.heap.size + 1]? = some (.cells #[.int .i64 7, .int .i64 id] 88 (0, 0)) := by rw [hw2]; simpa using (two_alloc w (.cells #[.int .i64 5, .int .i64 id] 88) (.cells #[.int .i64 7, .int .i64 id] 88)).2.1
  have q2 : w2.heap[b]? = some (.cells #[.int .i64 tn, .int .i64 7, .int .i64 id, .string t, v, .int .i64 q, .bool r] 90 (0, 0)) := (B2.out.block b hbl).trans HBK.out
  clear hw2 k1 k2 k3 k4 k5 k6 kf c5 c2 hl
  have k1 := box_cells q2 1 _ rfl
  have k2 := box_cells q2 2 _ rfl
  have k3 := box_cells q2 3 _ rfl
  have k4 := box_cells q2 4 _ rfl
  have k5 := box_cells q2 5 _ rfl
  have k6 := box_cells q2 6 _ rfl
  have kf := box_frozen q2
  have g0 := box_cells q1 0 _ rfl
  have g1 := box_cells q1 1 _ rfl
  have Q2 := hidi q2
  clear q1 q2
  go_wp2_with fail
  go_must (go_at_call 40)
  obtain ⟨w3, hw3⟩ : ∃ w3, w3 = (((((w2.setCell ⟨b, 1, none⟩ (.int .i64 7)).setCell ⟨b, 2, none⟩ (.int .i64 id)).setCell ⟨b, 3, none⟩ (.string ⟨#[]⟩)).setCell ⟨b, 4, none⟩ (.slice none 0 0)).setCell ⟨b, 5, none⟩ (.int .i64 0)).setCell ⟨b, 6, none⟩ (.bool false) := ⟨_, rfl⟩
  rw [← hw3]
  have c3 : Ch (fun j => j = b) w w3 := by
    rw [hw3]
    exact (((((((Below.ch B2.out).then (ch_set b 1 _)).then (ch_set b 2 _)).then (ch_set b 3 _)).then (ch_set b 4 _)).then (ch_set b 5 _)).then (ch_set b 6 _))
  have b3 : w3.heap[b]? = some (.cells #[.int .i64 tn, .int .i64 7, .int .i64 id, .string ⟨#[]⟩, .slice none 0 0, .int .i64 0, .bool false] 90 (0, 0)) := by
    rw [hw3, heap_set (heap_set (heap_set (heap_set (heap_set (heap_set Q2.out _) _) _) _) _) _]
    rfl
  have HZ := hidi (H.out w3 c3 b3)
  clear c3 b3 hw3 H k1 k2 k3 k4 k5 k6 kf g0 g1
  refine (pubrel_any id w3).mono ?_
  rintro e w4 ⟨rfl, hb4⟩
  have HZ2 := hidi (HZ.out w4 hb4)
  clear hb4 HZ
  simp only [pkc]
  go_wp2_with fail
  go_ret
  exact ⟨_, rfl, HZ2.out⟩
set_option maxRecDepth 100000 in
set_option maxHeartbeats 4000000 in
theorem ack_land {w : World} {wb b tn : Nat} {t : ByteArray} {v mu : Value} {q : Int} {r : Bool} {kind id : Int} (hk5 : (kind == 5) = false) {K : World → Prop} {R : Value → World → Prop} (hb : w.heap[b]? = some (.cells #[.int .i64 tn, .int .i64 kind, .int .i64 id, .string t, v, .int .i64 q, .bool r] 90 (0, 0))) (hwb : wb < w.heap.size) (c5 : w.cell? ⟨wb, 5, none⟩ = some mu) (c2 : w.cell? ⟨wb, 2, none⟩ = some (.bool true)) (hl : (Instr.lookup 68 mu (.int .i64 id) true).run Tryd.prog w = .ok (.tuple #[.pointer (some ⟨b, 0, none⟩), .bool true]) w) (H42 : ∀ W, Below w.heap.size w W → Calls Tryd.prog 42 #[.pointer (some ⟨wb, 0, none⟩), .int .i64 id] W fun e w' => e = .returned (.tuple #[]) ∧ K w') (H41 : ∀ W, K W → Calls Tryd.prog 41 #[.pointer (some ⟨wb, 0, none⟩), .slice none 0 0] W fun e w' => ∃ v, e = .returned v ∧ R v w') :
    Calls Tryd.prog 20 #[.pointer (some ⟨wb, 0, none⟩), .int .i64 kind, .int .i64 id] w fun e w' => ∃ x, e = .returned x ∧ R x w' := by
  have HBK := hidi hb
  have hbl : b < w.heap.size := (Array.getElem?_eq_some_iff.1 hb).1
  have k1 := box_cells hb 1 _ rfl
  have k2 := box_cells hb 2 _ rfl
  have k3 := box_cells hb 3 _ rfl
  have k4 := box_cells hb 4 _ rfl
  have k5 := box_cells hb 5 _ rfl
  have k6 := box_cells hb 6 _ rfl
  have kf := box_frozen hb
  have n1 : b ≠ w.heap.size := by omega
  have n2 : b ≠ w.heap.size + 1 := by omega
  have n3 : w.heap.size ≠ b := by omega
  have n4 : w.heap.size + 1 ≠ b := by omega
  have A42 := hidi H42
  have A41 := hidi H41
  clear hb H42 H41
  go_enter Tryd.func20, Tryd.ntmps20
  go_wp2_with fail
  go_quiet (fail)
  go_wp2_with fail
  go_quiet (fail)
  go_wp2_with fail
  go_must (go_at_call 42)
  refine (A42.out _ (below_drewN (two_below _ _ _))).mono ?_
  clear A42
  rintro e w2 ⟨rfl, hk⟩
  have HK := hidi hk
  clear hk k1 k2 k3 k4 k5 k6 kf c5 c2 hl
  go_wp2_with fail
  go_must (go_at_call 41)
  refine (A41.out _ HK.out).mono ?_
  clear A41
  rintro e w3 ⟨x, rfl, hr⟩
  have HR := hidi hr
  clear hr
  go_wp2_with fail
  go_ret
  exact ⟨_, rfl, HR.out⟩
end Go.Proofs.YtbjhblnagmpnfaaDoor
