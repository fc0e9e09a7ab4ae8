import Derived.Test.YtmihpmmkkklpfaaGreatDoorBOn
import Derived.Lib.MinMax
namespace Go.Proofs.YtmihpmmkkklpfaaGreatDoor
open Go Go.RowKit Go.Shelf Go.Maps Go.Sort
set_option linter.unusedSimpArgs false
set_option linter.unusedVariables false
/-! ### Ack -/
set_option maxRecDepth 100000 in
set_option maxHeartbeats 1000000 in
/-- Nothing under way with that number, or offline. -/
theorem ack_none {w : World} {wb : Nat} {mu : Value} {kind id : Int} (c5 : w.cell? ⟨wb, 5, none⟩ = some mu) (hl : (Instr.lookup 94 mu (.int .i64 id) true).run Tryz.prog w = .ok (.tuple #[.pointer none, .bool false]) w) :
    Calls Tryz.prog 17 #[.pointer (some ⟨wb, 0, none⟩), .int .i64 kind, .int .i64 id] w fun e w' => e = .returned (.slice none 0 0) ∧ w' = w := by
  go_enter Tryz.func17, Tryz.ntmps17
  go_wp2_with fail
  go_ret
  exact ⟨rfl, rfl⟩
set_option maxRecDepth 100000 in
set_option maxHeartbeats 1000000 in
theorem ack_off {w : World} {wb b : Nat} {mu : Value} {kind id : Int} (c5 : w.cell? ⟨wb, 5, none⟩ = some mu) (c2 : w.cell? ⟨wb, 2, none⟩ = some (.bool false)) (hl : (Instr.lookup 94 mu (.int .i64 id) true).run Tryz.prog w = .ok (.tuple #[.pointer (some ⟨b, 0, none⟩), .bool true]) w) :
    Calls Tryz.prog 17 #[.pointer (some ⟨wb, 0, none⟩), .int .i64 kind, .int .i64 id] w fun e w' => e = .returned (.slice none 0 0) ∧ w' = w := by
  go_enter Tryz.func17, Tryz.ntmps17
  go_wp2_with fail
  go_ret
  exact ⟨rfl, rfl⟩
set_option maxRecDepth 100000 in
set_option maxHeartbeats 4000000 in
theorem ack_nil5 {w : World} {wb b tn : Nat} {t : ByteArray} {v mu : Value} {q : Int} {r : Bool} {id : Int} (hb : w.heap[b]? = some (.cells #[.int .i64 tn, .int .i64 4, .int .i64 id, .string t, v, .int .i64 q, .bool r] 119 (0, 0))) (hwb : wb < w.heap.size) (c5 : w.cell? ⟨wb, 5, none⟩ = some mu) (c2 : w.cell? ⟨wb, 2, none⟩ = some (.bool true)) (hl : (Instr.lookup 94 mu (.int .i64 id) true).run Tryz.prog w = .ok (.tuple #[.pointer (some ⟨b, 0, none⟩), .bool true]) w) :
    Calls Tryz.prog 17 #[.pointer (some ⟨wb, 0, none⟩), .int .i64 5, .int .i64 id] w fun e w' => e = .returned (.slice none 0 0) ∧ Below w.heap.size w w' := by
  have HBK := hidi hb
  have hbl : b < w.heap.size := (Array.getElem?_eq_some_iff.1 hb).1
  have k1 := box_cells hb 1 _ rfl
  have k2 := box_cells hb 2 _ rfl
  have k3 := box_cells hb 3 _ rfl
  have k4 := box_cells hb 4 _ rfl
  have k5 := box_cells hb 5 _ rfl
  have k6 := box_cells hb 6 _ rfl
  have kf := box_frozen hb
  have n1 : b ≠ w.heap.size := by omega
  have n2 : b ≠ w.heap.size + 1 := by omega
  have n3 : w.heap.size ≠ b := by omega
  have n4 : w.heap.size + 1 ≠ b := by omega
  clear hb
  go_enter Tryz.func17, Tryz.ntmps17
  go_wp2_with fail
  go_quiet (fail)
  go_wp2_with fail
  go_quiet (fail)
  go_wp2_with fail
  go_ret
  exact ⟨rfl, below_drewN (below_drewN (two_below _ _ _))⟩
set_option maxRecDepth 100000 in
set_option maxHeartbeats 4000000 in
theorem ack_nilk {w : World} {wb b tn : Nat} {t : ByteArray} {v mu : Value} {q : Int} {r : Bool} {kind a id : Int} (hk5 : (kind == 5) = false) (hka : (a == kind) = false) (hb : w.heap[b]? = some (.cells #[.int .i64 tn, .int .i64 a, .int .i64 id, .string t, v, .int .i64 q, .bool r] 119 (0, 0))) (hwb : wb < w.heap.size) (c5 : w.cell? ⟨wb, 5, none⟩ = some mu) (c2 : w.cell? ⟨wb, 2, none⟩ = some (.bool true)) (hl : (Instr.lookup 94 mu (.int .i64 id) true).run Tryz.prog w = .ok (.tuple #[.pointer (some ⟨b, 0, none⟩), .bool true]) w) :
    Calls Tryz.prog 17 #[.pointer (some ⟨wb, 0, none⟩), .int .i64 kind, .int .i64 id] w fun e w' => e = .returned (.slice none 0 0) ∧ Below w.heap.size w w' := by
  have HBK := hidi hb
  have hbl : b < w.heap.size := (Array.getElem?_eq_some_iff.1 hb).1
  have k1 := box_cells hb 1 _ rfl
  have k2 := box_cells hb 2 _ rfl
  have k3 := box_cells hb 3 _ rfl
  have k4 := box_cells hb 4 _ rfl
  have k5 := box_cells hb 5 _ rfl
  have k6 := box_cells hb 6 _ rfl
  have kf := box_frozen hb
  have n1 : b ≠ w.heap.size := by omega
  have n2 : b ≠ w.heap.size + 1 := by omega
  have n3 : w.heap.size ≠ b := by omega
  have n4 : w.heap.size + 1 ≠ b := by omega
  clear hb
  go_enter Tryz.func17, Tryz.ntmps17
  go_wp2_with fail
  go_quiet (fail)
  go_wp2_with fail
  go_quiet (fail)
  go_wp2_with fail
  go_ret
  exact ⟨rfl, below_drewN (below_drewN (two_below _ _ _))⟩
set_option maxRecDepth 100000 in
set_option maxHeartbeats 4000000 in
theorem ack_rel5 {w : World} {wb b tn : Nat} {t : ByteArray} {v mu : Value} {q : Int} {r : Bool} {id : Int} {R : Value → World → Prop} (hb : w.heap[b]? = some (.cells #[.int .i64 tn, .int .i64 5, .int .i64 id, .string t, v, .int .i64 q, .bool r] 119 (0, 0))) (hwb : wb < w.heap.size) (c5 : w.cell? ⟨wb, 5, none⟩ = some mu) (c2 : w.cell? ⟨wb, 2, none⟩ = some (.bool true)) (hl : (Instr.lookup 94 mu (.int .i64 id) true).run Tryz.prog w = .ok (.tuple #[.pointer (some ⟨b, 0, none⟩), .bool true]) w) (HK : ∀ w3, Ch (fun j => j = b) w w3 → w3.heap[b]? = some (.cells #[.int .i64 tn, .int .i64 7, .int .i64 id, .string ⟨#[]⟩, .slice none 0 0, .int .i64 0, .bool false] 119 (0, 0)) → ∀ w4, Below w3.heap.size w3 w4 → R (.slice (some ⟨w4.heap.size, 0, none⟩) 1 1) (w4.alloc (.cells (pkc 6 false ⟨#[]⟩ (.slice none 0 0) 0 false id) 66))) :
    Calls Tryz.prog 17 #[.pointer (some ⟨wb, 0, none⟩), .int .i64 5, .int .i64 id] w fun e w' => ∃ x, e = .returned x ∧ R x w' := by
  have HBK := hidi hb
  have hbl : b < w.heap.size := (Array.getElem?_eq_some_iff.1 hb).1
  have k1 := box_cells hb 1 _ rfl
  have k2 := box_cells hb 2 _ rfl
  have k3 := box_cells hb 3 _ rfl
  have k4 := box_cells hb 4 _ rfl
  have k5 := box_cells hb 5 _ rfl
  have k6 := box_cells hb 6 _ rfl
  have kf := box_frozen hb
  have n1 : b ≠ w.heap.size := by omega
  have n2 : b ≠ w.heap.size + 1 := by omega
  have n3 : w.heap.size ≠ b := by omega
  have n4 : w.heap.size + 1 ≠ b := by omega
  have H := hidi HK
  clear hb HK
  go_enter Tryz.func17, Tryz.ntmps17
  go_wp2_with fail
  go_quiet (fail)
  obtain ⟨w2, hw2⟩ : ∃ w2, w2 = (((w.alloc (.cells #[.int .i64 5, .int .i64 id] 117)).alloc (.cells #[.int .i64 7, .int .i64 id] 117)).drewN nq) := ⟨_, rfl⟩
  rw [← hw2]
  have B2 := hidi (show Below w.heap.size w w2 by rw [hw2]; exact below_drewN (two_below _ _ _))
  have q1 : w2.heap[w.heap.size + 1]? = some (.cells #[.int .i64 7, .int .i64 id] 117 (0, 0)) := by rw [hw2]; simpa using (two_alloc w (.cells #[.int .i64 5, .int .i64 id] 117) (.cells #[.int .i64 7, .int .i64 id] 117)).2.1
  have q2 : w2.heap[b]? = some (.cells #[.int .i64 tn, .int .i64 5, .int .i64 id, .string t, v, .int .i64 q, .bool r] 119 (0, 0)) := (B2.out.block b hbl).trans HBK.out
  clear hw2 k1 k2 k3 k4 k5 k6 kf c5 c2 hl
  have k1 := box_cells q2 1 _ rfl
  have k2 := box_cells q2 2 _ rfl
  have k3 := box_cells q2 3 _ rfl
  have k4 := box_cells q2 4 _ rfl
  have k5 := box_cells q2 5 _ rfl
  have k6 := box_cells q2 6 _ rfl
  have kf := box_frozen q2
  have g0 := box_cells q1 0 _ rfl
  have g1 := box_cells q1 1 _ rfl
  have Q2 := hidi q2
  clear q1 q2
  go_wp2_with fail
  go_must (go_at_call 47)
  obtain ⟨w3, hw3⟩ : ∃ w3, w3 = (((((w2.setCell ⟨b, 1, none⟩ (.int .i64 7)).setCell ⟨b, 2, none⟩ (.int .i64 id)).setCell ⟨b, 3, none⟩ (.string ⟨#[]⟩)).setCell ⟨b, 4, none⟩ (.slice none 0 0)).setCell ⟨b, 5, none⟩ (.int .i64 0)).setCell ⟨b, 6, none⟩ (.bool false) := ⟨_, rfl⟩
  rw [← hw3]
  have c3 : Ch (fun j => j = b) w w3 := by
    rw [hw3]
    exact (((((((Below.ch B2.out).then (ch_set b 1 _)).then (ch_set b 2 _)).then (ch_set b 3 _)).then (ch_set b 4 _)).then (ch_set b 5 _)).then (ch_set b 6 _))
  have b3 : w3.heap[b]? = some (.cells #[.int .i64 tn, .int .i64 7, .int .i64 id, .string ⟨#[]⟩, .slice none 0 0, .int .i64 0, .bool false] 119 (0, 0)) := by
    rw [hw3, heap_set (heap_set (heap_set (heap_set (heap_set (heap_set Q2.out _) _) _) _) _) _]
    rfl
  have HZ := hidi (H.out w3 c3 b3)
  clear c3 b3 hw3 H k1 k2 k3 k4 k5 k6 kf g0 g1
  refine (pubrel_any id w3).mono ?_
  rintro e w4 ⟨rfl, hb4⟩
  have HZ2 := hidi (HZ.out w4 hb4)
  clear hb4 HZ
  simp only [pkc]
  go_wp2_with fail
  go_ret
  exact ⟨_, rfl, HZ2.out⟩
set_option maxRecDepth 100000 in
set_option maxHeartbeats 4000000 in
theorem ack_rel7 {w : World} {wb b tn : Nat} {t : ByteArray} {v mu : Value} {q : Int} {r : Bool} {id : Int} {R : Value → World → Prop} (hb : w.heap[b]? = some (.cells #[.int .i64 tn, .int .i64 7, .int .i64 id, .string t, v, .int .i64 q, .bool r] 119 (0, 0))) (hwb : wb < w.heap.size) (c5 : w.cell? ⟨wb, 5, none⟩ = some mu) (c2 : w.cell? ⟨wb, 2, none⟩ = some (.bool true)) (hl : (Instr.lookup 94 mu (.int .i64 id) true).run Tryz.prog w = .ok (.tuple #[.pointer (some ⟨b, 0, none⟩), .bool true]) w) (HK : ∀ w3, Ch (fun j => j = b) w w3 → w3.heap[b]? = some (.cells #[.int .i64 tn, .int .i64 7, .int .i64 id, .string ⟨#[]⟩, .slice none 0 0, .int .i64 0, .bool false] 119 (0, 0)) → ∀ w4, Below w3.heap.size w3 w4 → R (.slice (some ⟨w4.heap.size, 0, none⟩) 1 1) (w4.alloc (.cells (pkc 6 false ⟨#[]⟩ (.slice none 0 0) 0 false id) 66))) :
    Calls Tryz.prog 17 #[.pointer (some ⟨wb, 0, none⟩), .int .i64 5, .int .i64 id] w fun e w' => ∃ x, e = .returned x ∧ R x w' := by
  have HBK := hidi hb
  have hbl : b < w.heap.size := (Array.getElem?_eq_some_iff.1 hb).1
  have k1 := box_cells hb 1 _ rfl
  have k2 := box_cells hb 2 _ rfl
  have k3 := box_cells hb 3 _ rfl
  have k4 := box_cells hb 4 _ rfl
  have k5 := box_cells hb 5 _ rfl
  have k6 := box_cells hb 6 _ rfl
  have kf := box_frozen hb
  have n1 : b ≠ w.heap.size := by omega
  have n2 : b ≠ w.heap.size + 1 := by omega
  have n3 : w.heap.size ≠ b := by omega
  have n4 : w.heap.size + 1 ≠ b := by omega
  have H := hidi HK
  clear hb HK
  go_enter Tryz.func17, Tryz.ntmps17
  go_wp2_with fail
  go_quiet (fail)
  obtain ⟨w2, hw2⟩ : ∃ w2, w2 = (((w.alloc (.cells #[.int .i64 5, .int .i64 id] 117)).alloc (.cells #[.int .i64 7, .int .i64 id] 117)).drewN nq) := ⟨_, rfl⟩
  rw [← hw2]
  have B2 := hidi (show Below w.heap.size w w2 by rw [hw2]; exact below_drewN (two_below _ _ _))
  have q1 : w2.heap[w.heap.size + 1]? = some (.cells #[.int .i64 7, .int .i64 id] 117 (0, 0)) := by rw [hw2]; simpa using (two_alloc w (.cells #[.int .i64 5, .int .i64 id] 117) (.cells #[.int .i64 7, .int .i64 id] 117)).2.1
  have q2 : w2.heap[b]? = some (.cells #[.int .i64 tn, .int .i64 7, .int .i64 id, .string t, v, .int .i64 q, .bool r] 119 (0, 0)) := (B2.out.block b hbl).trans HBK.out
  clear hw2 k1 k2 k3 k4 k5 k6 kf c5 c2 hl
  have k1 := box_cells q2 1 _ rfl
  have k2 := box_cells q2 2 _ rfl
  have k3 := box_cells q2 3 _ rfl
  have k4 := box_cells q2 4 _ rfl
  have k5 := box_cells q2 5 _ rfl
  have k6 := box_cells q2 6 _ rfl
  have kf := box_frozen q2
  have g0 := box_cells q1 0 _ rfl
  have g1 := box_cells q1 1 _ rfl
  have Q2 := hidi q2
  clear q1 q2
  go_wp2_with fail
  go_must (go_at_call 47)
  obtain ⟨w3, hw3⟩ : ∃ w3, w3 = (((((w2.setCell ⟨b, 1, none⟩ (.int .i64 7)).setCell ⟨b, 2, none⟩ (.int .i64 id)).setCell ⟨b, 3, none⟩ (.string ⟨#[]⟩)).setCell ⟨b, 4, none⟩ (.slice none 0 0)).setCell ⟨b, 5, none⟩ (.int .i64 0)).setCell ⟨b, 6, none⟩ (.bool false) := ⟨_, rfl⟩
  rw [← hw3]
  have c3 : Ch (fun j => j = b) w w3 := by
    rw [hw3]
    exact (((((((Below.ch B2.out).then (ch_set b 1 _)).then (ch_set b 2 _)).then (ch_set b 3 _)).then (ch_set b 4 _)).then (ch_set b 5 _)).then (ch_set b 6 _))
  have b3 : w3.heap[b]? = some (.cells #[.int .i64 tn, .int .i64 7, .int .i64 id, .string ⟨#[]⟩, .slice none 0 0, .int .i64 0, .bool false] 119 (0, 0)) := by
    rw [hw3, heap_set (heap_set (heap_set (heap_set (heap_set (heap_set Q2.out _) _) _) _) _) _]
    rfl
  have HZ := hidi (H.out w3 c3 b3)
  clear c3 b3 hw3 H k1 k2 k3 k4 k5 k6 kf g0 g1
  refine (pubrel_any id w3).mono ?_
  rintro e w4 ⟨rfl, hb4⟩
  have HZ2 := hidi (HZ.out w4 hb4)
  clear hb4 HZ
  simp only [pkc]
  go_wp2_with fail
  go_ret
  exact ⟨_, rfl, HZ2.out⟩
set_option maxRecDepth 100000 in
set_option maxHeartbeats 4000000 in
theorem ack_land {w : World} {wb b tn : Nat} {t : ByteArray} {v mu : Value} {q : Int} {r : Bool} {kind id : Int} (hk5 : (kind == 5) = false) {K : World → Prop} {R : Value → World → Prop} (hb : w.heap[b]? = some (.cells #[.int .i64 tn, .int .i64 kind, .int .i64 id, .string t, v, .int .i64 q, .bool r] 119 (0, 0))) (hwb : wb < w.heap.size) (c5 : w.cell? ⟨wb, 5, none⟩ = some mu) (c2 : w.cell? ⟨wb, 2, none⟩ = some (.bool true)) (hl : (Instr.lookup 94 mu (.int .i64 id) true).run Tryz.prog w = .ok (.tuple #[.pointer (some ⟨b, 0, none⟩), .bool true]) w) (H42 : ∀ W, Below w.heap.size w W → Calls Tryz.prog 51 #[.pointer (some ⟨wb, 0, none⟩), .int .i64 id] W fun e w' => e = .returned (.tuple #[]) ∧ K w') (H41 : ∀ W, K W → Calls Tryz.prog 48 #[.pointer (some ⟨wb, 0, none⟩), .slice none 0 0] W fun e w' => ∃ v, e = .returned v ∧ R v w') :
    Calls Tryz.prog 17 #[.pointer (some ⟨wb, 0, none⟩), .int .i64 kind, .int .i64 id] w fun e w' => ∃ x, e = .returned x ∧ R x w' := by
  have HBK := hidi hb
  have hbl : b < w.heap.size := (Array.getElem?_eq_some_iff.1 hb).1
  have k1 := box_cells hb 1 _ rfl
  have k2 := box_cells hb 2 _ rfl
  have k3 := box_cells hb 3 _ rfl
  have k4 := box_cells hb 4 _ rfl
  have k5 := box_cells hb 5 _ rfl
  have k6 := box_cells hb 6 _ rfl
  have kf := box_frozen hb
  have n1 : b ≠ w.heap.size := by omega
  have n2 : b ≠ w.heap.size + 1 := by omega
  have n3 : w.heap.size ≠ b := by omega
  have n4 : w.heap.size + 1 ≠ b := by omega
  have A42 := hidi H42
  have A41 := hidi H41
  clear hb H42 H41
  go_enter Tryz.func17, Tryz.ntmps17
  go_wp2_with fail
  go_quiet (fail)
  go_wp2_with fail
  go_quiet (fail)
  go_wp2_with fail
  go_must (go_at_call 51)
  refine (A42.out _ (below_drewN (two_below _ _ _))).mono ?_
  clear A42
  rintro e w2 ⟨rfl, hk⟩
  have HK := hidi hk
  clear hk k1 k2 k3 k4 k5 k6 kf c5 c2 hl
  go_wp2_with fail
  go_must (go_at_call 48)
  refine (A41.out _ HK.out).mono ?_
  clear A41
  rintro e w3 ⟨x, rfl, hr⟩
  have HR := hidi hr
  clear hr
  go_wp2_with fail
  go_ret
  exact ⟨_, rfl, HR.out⟩
end Go.Proofs.YtmihpmmkkklpfaaGreatDoor
namespace Go.Proofs.YtmihpmmkkklpfaaGreatDoor
open Go Go.RowKit Go.Shelf Go.Maps Go.Sort
set_option linter.unusedSimpArgs false
set_option linter.unusedVariables false
/-! ### Ack, by the state -/
theorem fill_out {w w' : World} {wb : Nat} {i : WI} {c : Nat} {v : Value} (h : WS w wb i c) (hF : FillOut w w' wb i c 0 (.slice none 0 0) 0 [] v) : Out w w' wb i c (pFill i.p).1 (pFill i.p).2 v := by
  obtain ⟨ir, S, hI, e1, e2⟩ := hF
  have hst : St w w' wb i ir c := ⟨hI.ws, hI.ch.mono (fun j _ q => q.elim id (fun e => by simp [Value.ownBlock] at e)), hI.bl⟩
  refine ⟨⟨ir, S, hst, ?_, by simpa using hI.pay, e1, e2⟩, hI.gd⟩
  have ho : w'.ownsRow 0 66 25 v S.length (prow S) := by simpa using hI.own
  refine ⟨ho.1, ?_⟩
  rcases ho.2 with q | ⟨g, cap, cur, q, q1, q2⟩
  · exact .inl q
  · refine .inr ⟨g, cap, cur, q, ?_, q2⟩
    rcases hI.nb g (by rw [q]; rfl) with e | e
    · simp [Value.ownBlock] at e
    · exact e
theorem Out.after {w w1 w' : World} {wb : Nat} {i i1 : WI} {c1 c' : Nat} {P : Pw} {X : List Pp} {v : Value} (s : St w w1 wb i i1 c1) (h : Out w1 w' wb i1 c' P X v) : Out w w' wb i c' P X v := by
  obtain ⟨i', S, s', ho, hp, e1, e2⟩ := h.ex
  refine ⟨⟨i', S, s.trans s', ?_, hp, e1, e2⟩, h.gd⟩
  refine ⟨ho.1, ?_⟩
  rcases ho.2 with q | ⟨g, cap, cur, q, q1, q2⟩
  · exact .inl q
  · exact .inr ⟨g, cap, cur, q, Nat.le_trans s.ch.size q1, q2⟩
theorem ack_ws {w : World} {wb : Nat} {i : WI} {c : Nat} (h : WS w wb i c) (g : Gd w) (hc : c ≤ 200000) (kind id : Int) (hid : okI id) :
    Calls Tryz.prog 17 #[.pointer (some ⟨wb, 0, none⟩), .int .i64 kind, .int .i64 id] w fun e w' => ∃ v, e = .returned v ∧ Out w w' wb i c (pAck i.p kind id).1 (pAck i.p kind id).2 v := by
  have hwl : wb < w.heap.size := h.lt (.inl rfl)
  have c5 : w.cell? ⟨wb, 5, none⟩ = some i.mu := box_cells h.blk 5 _ rfl
  have c2 : w.cell? ⟨wb, 2, none⟩ = some (.bool i.on) := box_cells h.blk 2 _ rfl
  have hl := h.und.look2 Tryz.underlying94 zero78 hid
  have hpa : pAck i.p kind id = match (i.fs.find? (fun f => decide ((f.id : Int) = id))).map Fm.p with
    | none => (i.p, [])
    | some f => pAckF i.p kind id f := by
    unfold pAck
    rw [show i.p.fl = i.fs.map Fm.p from rfl, find_p]
    cases i.fs.find? (fun f => decide ((f.id : Int) = id)) <;> rfl
  cases hf : i.fs.find? (fun f => decide ((f.id : Int) = id)) with
  | none =>
    rw [hf] at hpa
    rw [show lookF i.fs id = none by unfold lookF; rw [hf]; rfl] at hl
    refine (ack_none c5 hl).mono ?_
    rintro e w' ⟨rfl, rfl⟩
    rw [hpa]
    exact ⟨_, rfl, Out.same h g (Below.refl _ _) (Nat.le_refl _)⟩
  | some f =>
    rw [hf] at hpa
    have hfm := List.mem_of_find?_eq_some hf
    have hfe : (f.id : Int) = id := by simpa using List.find?_some hf
    rw [show lookF i.fs id = some f.b by unfold lookF; rw [hf]; rfl] at hl
    have hl' : (Instr.lookup 94 i.mu (.int .i64 id) true).run Tryz.prog w = .ok (.tuple #[.pointer (some ⟨f.b, 0, none⟩), .bool true]) w := hl
    have hids : f.id ∈ i.ids := List.mem_map.2 ⟨f, hfm, rfl⟩
    rw [hpa]
    simp only [Option.map_some]
    by_cases hon : i.on = true
    · have hne : ¬ i.p.on = false := by show ¬ i.on = false; rw [hon]; simp
      rw [hon] at c2
      have hb := (h.fls f hfm).blk
      unfold Fm.cs at hb
      rw [hfe] at hb
      have ha : awt f.m.q f.rel = awt f.p.m.q f.p.rel := rfl
      have ha3 : awt f.m.q f.rel = 4 ∨ awt f.m.q f.rel = 5 ∨ awt f.m.q f.rel = 7 := by
        unfold awt
        cases f.rel
        · by_cases q : f.m.q = 2 <;> simp [q]
        · simp
      by_cases hk5 : kind = 5
      · subst hk5
        rcases ha3 with h4 | h57
        · rw [h4] at hb
          have e : pAckF i.p 5 id f.p = (i.p, []) := by
            unfold pAckF
            rw [if_neg hne, ← ha, h4, if_neg (by omega), if_neg (by omega)]
          rw [e]
          refine (ack_nil5 hb hwl c5 c2 hl').mono ?_
          rintro e w' ⟨rfl, hbl⟩
          exact ⟨_, rfl, Out.same h g hbl (Nat.le_refl _)⟩
        · have e : pAckF i.p 5 id f.p = ({ i.p with fl := i.p.fl.map (relP f.id) }, [⟨6, false, id, zMp⟩]) := by
            unfold pAckF
            rw [if_neg hne, ← ha, if_pos ⟨rfl, h57⟩]
            rfl
          rw [e]
          have fin : ∀ w3, Ch (fun j => j = f.b) w w3 → w3.heap[f.b]? = some (.cells #[.int .i64 f.tn, .int .i64 7, .int .i64 id, .string ⟨#[]⟩, .slice none 0 0, .int .i64 0, .bool false] 119 (0, 0)) → ∀ w4, Below w3.heap.size w3 w4 → Out (w) (w4.alloc (.cells (pkc 6 false ⟨#[]⟩ (.slice none 0 0) 0 false id) 66)) wb i c { i.p with fl := i.p.fl.map (relP f.id) } [⟨6, false, id, zMp⟩] (.slice (some ⟨w4.heap.size, 0, none⟩) 1 1) := by
            intro w3 hch hb3 w4 hb4
            rw [← hfe] at hb3
            have s3 := ws_rel h hfm hch hb3
            have bA : Below w3.heap.size w3 (w4.alloc (.cells (pkc 6 false ⟨#[]⟩ (.slice none 0 0) 0 false id) 66)) := hb4.alloc hb4.size _
            have st := s3.trans (St.below s3.ws bA)
            refine ⟨⟨_, [⟨6, false, id, zMs⟩], st, ?_, ?_, ?_, rfl⟩, st.gd h g⟩
            · exact own_one (Nat.le_trans hch.size hb4.size) (Pq.cs ⟨6, false, id, zMs⟩) rfl
            · intro p hp
              simp only [List.mem_singleton] at hp
              subst hp
              exact .inl ⟨rfl, rfl⟩
            · unfold WI.p
              simp only [map_rel_p]
          rcases h57 with h5 | h7
          · rw [h5] at hb
            exact ack_rel5 hb hwl c5 c2 hl' fin
          · rw [h7] at hb
            exact ack_rel7 hb hwl c5 c2 hl' fin
      · have hk5' : (kind == 5) = false := by simpa using hk5
        by_cases hka : awt f.m.q f.rel = kind
        · rw [hka] at hb
          have e : pAckF i.p kind id f.p = pFill { i.p with fl := i.p.fl.filter (fun g => g.id != f.id) } := by
            unfold pAckF
            rw [if_neg hne, if_neg (fun z => hk5 z.1), ← ha, if_pos hka]
            rfl
          rw [e]
          refine ack_land (K := fun W => ∃ i1, St w W wb i i1 c ∧ Gd W ∧ i1.p = { i.p with fl := i.p.fl.filter (fun g => g.id != f.id) }) (R := fun v w' => Out w w' wb i c (pFill { i.p with fl := i.p.fl.filter (fun g => g.id != f.id) }).1 (pFill { i.p with fl := i.p.fl.filter (fun g => g.id != f.id) }).2 v) hk5' hb hwl c5 c2 hl' (fun W hW => ?_) (fun W hK => ?_)
          · rw [← hfe]
            refine (land_ws (h.below hW) hc hids).mono ?_
            rintro e w' ⟨rfl, mu, mt, s⟩
            have st := (St.below h hW).trans s
            refine ⟨rfl, _, st, st.gd h g, ?_⟩
            unfold WI.p WI.land
            simp only [filter_p]
          · obtain ⟨i1, s1, g1, e1⟩ := hK
            refine (fill_ws s1.ws g1 hc (B := 0) (n := 0) (S0 := []) (World.ownsRow_nil _ _ _ _) (by omega) (by simp)).mono ?_
            rintro e w' ⟨v, rfl, hF⟩
            have := fill_out s1.ws hF
            rw [e1] at this
            exact ⟨v, rfl, this.after s1⟩
        · have hka' : (awt f.m.q f.rel == kind) = false := by simpa using hka
          have e : pAckF i.p kind id f.p = (i.p, []) := by
            unfold pAckF
            rw [if_neg hne, if_neg (fun z => hk5 z.1), ← ha, if_neg hka]
          rw [e]
          refine (ack_nilk hk5' hka' hb hwl c5 c2 hl').mono ?_
          rintro e w' ⟨rfl, hbl⟩
          exact ⟨_, rfl, Out.same h g hbl (Nat.le_refl _)⟩
    · have hoff : i.on = false := by simpa using hon
      rw [hoff] at c2
      refine (ack_off c5 c2 hl').mono ?_
      rintro e w' ⟨rfl, rfl⟩
      have e : pAckF i.p kind id f.p = (i.p, []) := by unfold pAckF; rw [if_pos (show i.p.on = false from hoff)]
      rw [e]
      exact ⟨_, rfl, Out.same h g (Below.refl _ _) (Nat.le_refl _)⟩
end Go.Proofs.YtmihpmmkkklpfaaGreatDoor
namespace Go.Proofs.YtmihpmmkkklpfaaGreatDoor
open Go Go.RowKit Go.Shelf Go.Maps Go.Sort
set_option linter.unusedSimpArgs false
set_option linter.unusedVariables false
/-! ### The calls that only tell; Down -/
set_option maxHeartbeats 1000000 in
theorem online_ws {w : World} {wb : Nat} {i : WI} {c : Nat} (h : WS w wb i c) : Calls Tryz.prog 14 #[.pointer (some ⟨wb, 0, none⟩)] w fun e w' => e = .returned (.bool i.on) ∧ w' = w := by
  have c2 : w.cell? ⟨wb, 2, none⟩ = some (.bool i.on) := box_cells h.blk 2 _ rfl
  clear h
  go_enter Tryz.func14, Tryz.ntmps14
  go_wp2_with fail
  go_ret
  exact ⟨rfl, rfl⟩
set_option maxHeartbeats 1000000 in
theorem WS.kl {w : World} {wb : Nat} {i : WI} {c : Nat} (h : WS w wb i c) (hc : c ≤ 200000) : i.Z.length + i.L.length ≤ 1000000 := by
  have hbc := h.bc
  rcases h.half with q | q
  · omega
  · rw [q]; simp; omega
theorem WS.length {w : World} {wb : Nat} {i : WI} {c : Nat} (h : WS w wb i c) (hc : c ≤ 200000) : Calls Tryz.prog 74 #[.pointer (some ⟨wb, 6, none⟩)] w fun e w' => e = .returned (.int .i64 (i.L.length : Int)) ∧ ∃ m, w' = w.drewN m := by
  obtain ⟨la, lc, hlv⟩ := own_sl h.row
  have := length_any (w := w) (wb := wb) (k := i.Z.length + i.L.length) (gone := i.Z.length) (la := la) (lc := lc) (by rw [← hlv]; exact box_cells h.blk 6 _ rfl) (box_cells h.blk 7 _ rfl) (h.kl hc) (by omega)
  rw [show i.Z.length + i.L.length - i.Z.length = i.L.length by omega] at this
  exact this
set_option maxHeartbeats 1000000 in
set_option maxHeartbeats 1000000 in
theorem down_ws {w : World} {wb : Nat} {i : WI} {c : Nat} (h : WS w wb i c) : Calls Tryz.prog 11 #[.pointer (some ⟨wb, 0, none⟩)] w fun e w' => e = .returned (.tuple #[]) ∧ St w w' wb i { i with on := false } c := by
  have c2 : w.cell? ⟨wb, 2, none⟩ = some (.bool i.on) := box_cells h.blk 2 _ rfl
  have f2 := box_frozen h.blk 2
  have Z := hidi (h.set (i' := { i with on := false }) 2 (.bool false) rfl rfl rfl rfl rfl rfl rfl rfl rfl rfl rfl rfl h.bs (Nat.le_refl c)).2
  clear h
  go_enter Tryz.func11, Tryz.ntmps11
  go_wp2_with fail
  go_end0
  exact ⟨rfl, Z.out⟩
/-! ### Image -/
/-- What an image holds. -/
structure Im (w w' : World) (i : WI) (vf vq : Value) : Prop where
  fl : ∃ L, w'.ownsRow w.heap.size 108 6 vf i.fs.length (frow L) ∧ L.map Fo.p = i.fs.map Fm.p ∧ ∀ o ∈ L, PB w' o.m.v o.m.xs
  qu : ∃ L', w'.ownsRow w.heap.size 45 4 vq i.L.length (mrow L') ∧ L'.map Ms.p = i.L.map Ms.p ∧ ∀ o ∈ L', PB w' o.v o.xs
theorem WS.flights {w : World} {wb : Nat} {i : WI} {c : Nat} (h : WS w wb i c) : Calls Tryz.prog 46 #[.pointer (some ⟨wb, 0, none⟩)] w fun e w' => ∃ v, e = .returned v ∧ FlOut w w' i.fs v :=
  flights_any (box_cells h.blk 5 _ rfl) h.und h.fls (List.nodup_append.1 h.nd).1 (fun f hf => (h.rng f.id (List.mem_append.2 (.inl (List.mem_map.2 ⟨f, hf, rfl⟩)))).2) h.srt (Nat.le_trans h.bf h.bm.2)
theorem WS.told {w : World} {wb : Nat} {i : WI} {c : Nat} (h : WS w wb i c) (hc : c ≤ 200000) : Calls Tryz.prog 60 #[.pointer (some ⟨wb, 6, none⟩)] w fun e w' => ∃ v, e = .returned v ∧ MsOut w w' i.L v :=
  told_any (box_cells h.blk 6 _ rfl) (box_cells h.blk 7 _ rfl) h.row rfl (h.kl hc) h.pay
theorem im_set {w : World} {b t : Nat} {x0 x1 x2 : Value} (hb : w.heap[b]? = some (.cells #[x0, x1, x2] t (0, 0))) (y0 y1 y2 : Value) : (((w.setCell ⟨b, 0, none⟩ y0).setCell ⟨b, 1, none⟩ y1).setCell ⟨b, 2, none⟩ y2).heap[b]? = some (.cells #[y0, y1, y2] t (0, 0)) := by
  rw [heap_set (heap_set (heap_set hb _) _) _]
  simp
set_option maxRecDepth 100000 in
set_option maxHeartbeats 4000000 in
theorem image_ws {w : World} {wb : Nat} {i : WI} {c : Nat} (h : WS w wb i c) (hc : c ≤ 200000) : Calls Tryz.prog 35 #[.pointer (some ⟨wb, 0, none⟩)] w fun e w' => ∃ vf vq, e = .returned (.agg #[.int .i64 (i.last : Int), vf, vq]) ∧ Im w w' i vf vq ∧ Below w.heap.size w w' := by
  have hwl : wb < w.heap.size := h.lt (.inl rfl)
  have H := hidi (And.intro h hc)
  have hne : wb ≠ w.heap.size := by omega
  have hne' : w.heap.size ≠ wb := by omega
  obtain ⟨w1, hw1⟩ : ∃ w1, w1 = w.alloc (.cells #[.int .i64 0, .slice none 0 0, .slice none 0 0] 31) := ⟨_, rfl⟩
  have a1 := heap_alloc_new w (.cells #[.int .i64 0, .slice none 0 0, .slice none 0 0] 31)
  have b1 : Below w.heap.size w (w.alloc (.cells #[.int .i64 0, .slice none 0 0, .slice none 0 0] 31)) := (Below.refl _ _).alloc (Nat.le_refl _) _
  rw [← hw1] at a1 b1
  have HB1 := hidi (And.intro a1 b1)
  have c3 : w1.cell? ⟨wb, 3, none⟩ = some (.int .i64 (i.last : Int)) := (b1.cell (p := ⟨wb, 3, none⟩) hwl).trans (box_cells h.blk 3 _ rfl)
  have F33 := hidi ((h.below b1.drew).flights)
  clear h hc a1 b1
  go_enter Tryz.func35, Tryz.ntmps35
  go_upto_region 1 with fail
  rw [← hw1]
  clear hw1
  go_region_held_law (fun w' => w'.cell? ⟨wb, 3, none⟩ = some (.int .i64 (i.last : Int))) (first | exact c3 | go_keep) (first
    | (go_at_call 46; refine F33.out.mono ?_; clear F33; rintro e w2 ⟨vf, rfl, hf⟩; obtain ⟨fa, fc, rfl⟩ := own_sl hf.choose_spec.1; have hb2 := hf.choose_spec.2.2.2; have HB2 := hidi (HB1.out.2.drew.trans (hb2.mono HB1.out.2.size)); have HX2 := hidi (later_at (w := w1.drew) HB1.out.1 hb2); have F34 := hidi ((H.out.1.below HB2.out).told H.out.2); have HF := hidi hf; clear c3; have c3 : w2.cell? ⟨wb, 3, none⟩ = some (.int .i64 (i.last : Int)) := (HB2.out.cell (p := ⟨wb, 3, none⟩) hwl).trans (box_cells H.out.1.blk 3 _ rfl); clear hf hb2)
    | (go_at_call 60; refine F34.out.mono ?_; clear F34; rintro e w3 ⟨vq, rfl, hq⟩; obtain ⟨qa, qc, rfl⟩ := own_sl hq.choose_spec.1; have hb3 := hq.choose_spec.2.2.2; have HB3 := hidi (HB2.out.trans (hb3.mono HB2.out.size)); have HX3 := hidi (later_at HX2.out hb3); have HQ := hidi (And.intro hq hb3); clear c3; have c3 : w3.cell? ⟨wb, 3, none⟩ = some (.int .i64 (i.last : Int)) := (HB3.out.cell (p := ⟨wb, 3, none⟩) hwl).trans (box_cells H.out.1.blk 3 _ rfl); have d0 := box_cells HX3.out 0 _ rfl; have d1 := box_cells HX3.out 1 _ rfl; have d2 := box_cells HX3.out 2 _ rfl; have df := box_frozen HX3.out; clear hq hb3))
  go_wp2_with fail
  refine bodyPost_ret (results_cell_row rfl _ _ _ _ _ _ _ rfl (im_set HX3.out _ _ _) Tryz.underlying31 rfl (by kernel_rfl)) rfl ⟨_, _, rfl, ?_, ?_⟩
  · obtain ⟨W, hW⟩ : ∃ W, W = (((w3.setCell ⟨w.heap.size, 0, none⟩ (.int .i64 (i.last : Int))).setCell ⟨w.heap.size, 1, none⟩ (.slice fa i.fs.length fc)).setCell ⟨w.heap.size, 2, none⟩ (.slice qa i.L.length qc)) := ⟨_, rfl⟩
    rw [← hW]
    have hch : Ch (fun j => j = w.heap.size) w3 W := by
      rw [hW]
      exact ((ch_set _ 0 _).then (ch_set _ 1 _)).then (ch_set _ 2 _)
    have hkb : Kb w3 W := Kb.ch hch (fun j hj cs fz q => by rw [hj, HX3.out] at q; simp at q)
    obtain ⟨L, f1, f2, f3, f4⟩ := HF.out
    obtain ⟨L', q1, q2, q3, q4⟩ := HQ.out.1
    have hs1 : w.heap.size < w1.heap.size := (Array.getElem?_eq_some_iff.1 HB1.out.1).1
    have hbw : ∀ {w0 W' : World} {e s n : Nat} {v : Value} {xs : List Value}, w.heap.size < w0.heap.size → W'.ownsRow w0.heap.size e s v n xs → W'.ownsRow w.heap.size e s v n xs := fun hlt ho => ⟨ho.1, ho.2.elim .inl (fun ⟨g, cap, cur, a, b, c⟩ => .inr ⟨g, cap, cur, a, by omega, c⟩)⟩
    have hnb : ∀ {w0 W' : World} {e s n : Nat} {v : Value} {xs : List Value}, w.heap.size < w0.heap.size → W'.ownsRow w0.heap.size e s v n xs → ∀ g, v.ownBlock = some g → ¬ g = w.heap.size := fun hlt ho g hg q => by
      rcases ho.2 with ⟨a, _⟩ | ⟨g', cap, cur, a, b, _⟩
      · rw [a] at hg; simp [Value.ownBlock] at hg
      · rw [a] at hg; simp [Value.ownBlock] at hg; omega
    have hs2 : w.heap.size < w2.heap.size := (Array.getElem?_eq_some_iff.1 HX2.out).1
    refine ⟨⟨L, ?_, f2, fun o ho => ((f3 o ho).keep (Kb.below HQ.out.2)).keep hkb⟩, ⟨L', ?_, q2, fun o ho => (q3 o ho).keep hkb⟩⟩
    · exact own_ch (hbw (w0 := w1.drew) hs1 (own_below f1 HQ.out.2)) hch (hnb (w0 := w1.drew) hs1 (own_below f1 HQ.out.2))
    · exact own_ch (hbw hs2 q1) hch (hnb hs2 q1)
  · exact ((HB3.out.setCell (Nat.le_refl _) _).setCell (Nat.le_refl _) _).setCell (Nat.le_refl _) _
end Go.Proofs.YtmihpmmkkklpfaaGreatDoor
namespace Go.Proofs.YtmihpmmkkklpfaaGreatDoor
open Go Go.RowKit Go.Shelf Go.Maps Go.Sort
set_option linter.unusedSimpArgs false
set_option linter.unusedVariables false
/-! ### New -/
def newI (mo qu : Nat) : WI := ⟨mo, qu, false, 0, 0, [], .map none, .slice none 0 0, [], [], .map none, [], 0⟩
def mostOf (n : Int) : Nat := (min (max n 1) 65535).toNat
def queueOf (n : Int) : Nat := (min (max n 0) 65536).toNat
theorem mostOf_is (n : Int) : 1 ≤ mostOf n ∧ mostOf n ≤ 65535 ∧ (mostOf n : Int) = min (max n 1) 65535 := by unfold mostOf; omega
theorem queueOf_is (n : Int) : queueOf n ≤ 65536 ∧ (queueOf n : Int) = min (max n 0) 65536 := by unfold queueOf; omega
theorem ws_new (w : World) (mo qu : Nat) (h1 : 1 ≤ mo ∧ mo ≤ 65535) (h2 : qu ≤ 65536) : WS (w.alloc (.cells (newI mo qu).cs 101)) w.heap.size (newI mo qu) 0 where
  blk := heap_alloc_new w _
  und := (MI.nil _).congr (fun k _ => rfl)
  fls := by intro f hf; cases hf
  tkn := by
    have : (newI mo qu).T = fun _ => false := by funext j; simp [WI.T, WI.ids, newI]
    rw [this]
    exact NT.nil _
  row := World.ownsRow_nil _ _ _ _
  pay := by intro f hf; cases hf
  half := .inr rfl
  apt := by intro j hj; cases hj
  nd := List.nodup_nil
  rng := by intro j hj; cases hj
  srt := List.Pairwise.nil
  tns := by intro f hf; cases hf
  snf := by intro f hf; cases hf
  snl := by intro f hf; cases hf
  bm := h1
  bq := h2
  bf := Nat.zero_le _
  bl := Nat.zero_le _
  br := Nat.zero_le _
  bs := Nat.zero_le _
  bc := ⟨Nat.le_refl _, Nat.le_refl _⟩
set_option maxRecDepth 100000 in
set_option maxHeartbeats 1000000 in
theorem new_any (n q : Int) (w : World) : Calls Tryz.prog 33 #[.int .i64 n, .int .i64 q] w fun e w' => e = .returned (pt w.heap.size) ∧ w' = w.alloc (.cells (newI (mostOf n) (queueOf q)).cs 101) := by
  obtain ⟨a, ha⟩ : ∃ a, max n 1 = a := ⟨_, rfl⟩
  obtain ⟨b, hb⟩ : ∃ b, max q 0 = b := ⟨_, rfl⟩
  have ha2 : min a 65535 = (mostOf n : Int) := by rw [(mostOf_is n).2.2, ha]
  have hb2 : min b 65536 = (queueOf q : Int) := by rw [(queueOf_is q).2, hb]
  unfold pt
  go_enter Tryz.func33, Tryz.ntmps33
  go_wp2_with fail
  go_ret
  exact ⟨rfl, rfl⟩
/-! ### Reserve -/
noncomputable def pReserve (p : Pw) : Pw × Int × Bool := if 65535 - p.most ≤ p.R.length then (p, 0, false) else ({ p with last := abvF p.T p.last, R := p.R ++ [abvF p.T p.last] }, (abvF p.T p.last : Int), true)
end Go.Proofs.YtmihpmmkkklpfaaGreatDoor
namespace Go.Proofs.YtmihpmmkkklpfaaGreatDoor
open Go Go.RowKit Go.Shelf Go.Maps Go.Sort
set_option linter.unusedSimpArgs false
set_option linter.unusedVariables false
/-! ### Free -/
def pFree (p : Pw) (id : Int) : Pw × Bool := if 0 ≤ id ∧ id.toNat ∈ p.R then ({ p with R := p.R.filter (fun j => j != id.toNat) }, true) else (p, false)
end Go.Proofs.YtmihpmmkkklpfaaGreatDoor
