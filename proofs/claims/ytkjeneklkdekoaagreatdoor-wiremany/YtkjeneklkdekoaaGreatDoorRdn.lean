import Derived.Test.YtkjeneklkdekoaaGreatDoorRdm
import Derived.Test.YtkjeneklkdekoaaGreatDoorRdb
namespace Go.Proofs.YtkjeneklkdekoaaGreatDoor.Rw
open Go Go.RowKit
set_option linter.unusedSimpArgs false
set_option linter.unusedVariables false

/-! ### A reader of nothing, whose list is nil -/
set_option maxRecDepth 100000 in
set_option maxHeartbeats 400000 in
theorem left_nil (rb : Nat) (p0 : Int) (w : World) (hR : RdAt w rb (.slice none 0 0) 0 p0 0) :
    Calls Tryz.prog 115 #[.pointer (some ⟨rb, 0, none⟩)] w fun e w' => e = .returned (.slice none 0 0) ∧ w' = w.drew := by
  obtain ⟨hlt, c0, c1, c2, c3, f1, f2, f3⟩ := hR.facts
  clear hR
  go_enter Tryz.func115, Tryz.ntmps115
  go_wp2
  go_region
  all_goals (try go_wp2)
  all_goals go_ret
  all_goals exact ⟨rfl, rfl⟩
set_option maxRecDepth 100000 in
set_option maxHeartbeats 400000 in
theorem take_nil (rb k : Nat) (p0 : Int) (w : World) (hR : RdAt w rb (.slice none 0 0) 0 p0 0) (hk : 0 < k) :
    Calls Tryz.prog 108 #[.pointer (some ⟨rb, 0, none⟩), .int .i64 k] w fun e w' => e = gave 0 10 ∧ Below w.heap.size w w' := by
  have HL : Hid (Calls Tryz.prog 115 #[.pointer (some ⟨rb, 0, none⟩)] w fun e w' => e = .returned (.slice none 0 0) ∧ w' = w.drew) := left_nil rb p0 w hR
  obtain ⟨hlt, c0, c1, c2, c3, f1, f2, f3⟩ := hR.facts
  clear hR
  have hx : (0 : Int) < (k : Int) := by omega
  go_enter Tryz.func108, Tryz.ntmps108
  go_wp2_with (first | (go_at_call 115; refine HL.out.mono ?_; rintro e w' ⟨rfl, rfl⟩) | (go_at_call 116; refine (give_any _ _ _).mono ?_; rintro e w' ⟨rfl, rfl⟩))
  exact ⟨rfl, rfl, (Below.refl _ _).drew⟩
set_option maxRecDepth 100000 in
set_option maxHeartbeats 400000 in
theorem take_nil0 (rb : Nat) (p0 : Int) (w : World) (hR : RdAt w rb (.slice none 0 0) 0 p0 0) :
    Calls Tryz.prog 108 #[.pointer (some ⟨rb, 0, none⟩), .int .i64 0] w fun e w' => e = .returned (.slice none 0 0) ∧ RdAt w' rb (.slice none 0 0) 0 p0 0 ∧ w.grownBy w' (some rb) := by
  have HL : Hid (Calls Tryz.prog 115 #[.pointer (some ⟨rb, 0, none⟩)] w fun e w' => e = .returned (.slice none 0 0) ∧ w' = w.drew) := left_nil rb p0 w hR
  obtain ⟨hlt, c0, c1, c2, c3, f1, f2, f3⟩ := hR.facts
  have HR : Hid (RdAt w rb (.slice none 0 0) 0 p0 0) := hR
  clear hR
  go_enter Tryz.func108, Tryz.ntmps108
  go_wp2_with (go_at_call 115; refine HL.out.mono ?_; rintro e w' ⟨rfl, rfl⟩)
  go_ret
  exact ⟨rfl, HR.out.moved _, gb_drew (gb_set (gb_refl _ _) _ _)⟩
theorem eql_nil0 (w : World) : (binOp .eql 22 (.slice none 0 0) (.slice none 0 0)).run Tryz.prog w = .ok (.bool true) w := by kernel_rfl
set_option maxRecDepth 100000 in
set_option maxHeartbeats 400000 in
theorem clone_nil (w : World) : Calls Tryz.prog 60 #[.slice none 0 0] w fun e w' => e = .returned (.slice none 0 0) ∧ w' = w := by
  have en := eql_nil0
  go_enter Tryz.func60, Tryz.ntmps60
  go_wp2
  go_ret
  exact ⟨rfl, rfl⟩
set_option maxRecDepth 100000 in
set_option maxHeartbeats 1000000 in
theorem num_nil (rb k : Nat) (p0 : Int) (w : World) (hR : RdAt w rb (.slice none 0 0) 0 p0 0) (hk : 0 < k) :
    Calls Tryz.prog 111 #[.pointer (some ⟨rb, 0, none⟩), .int .i64 k] w fun e w' => e = gave 0 10 ∧ Below w.heap.size w w' := by
  have T0 : Hid (Calls Tryz.prog 108 #[.pointer (some ⟨rb, 0, none⟩), .int .i64 k] w fun e w' => e = gave 0 10 ∧ Below w.heap.size w w') := take_nil rb k p0 w hR hk
  clear hR
  go_enter Tryz.func111, Tryz.ntmps111
  go_wp2_with (go_at_call 108; refine T0.out.mono ?_; rintro e w' ⟨rfl, hb⟩)
  exact ⟨rfl, rfl, hb⟩
set_option maxRecDepth 100000 in
set_option maxHeartbeats 1000000 in
theorem byte_nil (rb : Nat) (p0 : Int) (w : World) (hR : RdAt w rb (.slice none 0 0) 0 p0 0) :
    Calls Tryz.prog 65 #[.pointer (some ⟨rb, 0, none⟩)] w fun e w' => e = .returned (.int .u8 0) ∧ RdAt w' rb (.slice none 0 0) 0 0 10 ∧ w.grownBy w' (some rb) := by
  have hlt : rb < w.heap.size := lt_of_block hR
  have W0 : Hid (RdAt (w.alloc (.cells #[.pointer (some ⟨rb, 0, none⟩)] 55)) rb (.slice none 0 0) 0 p0 0) := hR.kept ((Below.refl _ _).alloc (Nat.le_refl _) _)
  obtain ⟨_, c0, c1, c2, c3, f1, f2, f3⟩ := hR.facts
  have T0 : Hid (Calls Tryz.prog 108 #[.pointer (some ⟨rb, 0, none⟩), .int .i64 1] (w.alloc (.cells #[.pointer (some ⟨rb, 0, none⟩)] 55)) fun e w' => e = gave 0 10 ∧ Below (w.alloc (.cells #[.pointer (some ⟨rb, 0, none⟩)] 55)).heap.size (w.alloc (.cells #[.pointer (some ⟨rb, 0, none⟩)] 55)) w') := take_nil rb 1 p0 _ W0.out (by omega)
  have hmf := hmf
  clear hR
  go_enter_defers Tryz.func65, Tryz.ntmps65
  go_wp2_with (go_at_call 108; refine T0.out.mono ?_; rintro e w1 ⟨rfl, hb1⟩)
  refine leaves_cons (f := 106) (args := #[.int .i64 0, .pointer (some ⟨w.heap.size, 0, none⟩)]) (by simp) (by simp [go_sem]) ?_
  refine (cloB_hit rb _ (.slice none 0 0) 0 p0 0 0 0 10 [] _ (W0.out.kept hb1) ?_).mono ?_
  · exact box_cell hlt (gb_below hb1)
  rintro e u' w4 ⟨rfl, rfl, hR4, hg4⟩
  simp [Leaves, settle, results, Tryz.results65, go_sem]
  exact ⟨hR4, gb_trans (gb_trans (gb_alloc (gb_refl _ _) _) (gb_below hb1)) hg4⟩
set_option maxRecDepth 100000 in
set_option maxHeartbeats 1000000 in
theorem number_nil (rb : Nat) (p0 : Int) (w : World) (hR : RdAt w rb (.slice none 0 0) 0 p0 0) :
    Calls Tryz.prog 67 #[.pointer (some ⟨rb, 0, none⟩)] w fun e w' => e = .returned (.int .i64 0) ∧ RdAt w' rb (.slice none 0 0) 0 0 10 ∧ w.grownBy w' (some rb) := by
  have hlt : rb < w.heap.size := lt_of_block hR
  have W0 : Hid (RdAt (w.alloc (.cells #[.pointer (some ⟨rb, 0, none⟩)] 55)) rb (.slice none 0 0) 0 p0 0) := hR.kept ((Below.refl _ _).alloc (Nat.le_refl _) _)
  obtain ⟨_, c0, c1, c2, c3, f1, f2, f3⟩ := hR.facts
  have T0 : Hid (Calls Tryz.prog 111 #[.pointer (some ⟨rb, 0, none⟩), .int .i64 2] (w.alloc (.cells #[.pointer (some ⟨rb, 0, none⟩)] 55)) fun e w' => e = gave 0 10 ∧ Below (w.alloc (.cells #[.pointer (some ⟨rb, 0, none⟩)] 55)).heap.size (w.alloc (.cells #[.pointer (some ⟨rb, 0, none⟩)] 55)) w') := num_nil rb 2 p0 _ W0.out (by omega)
  have hmf := hmf
  clear hR
  go_enter_defers Tryz.func67, Tryz.ntmps67
  go_wp2_with (go_at_call 111; refine T0.out.mono ?_; rintro e w1 ⟨rfl, hb1⟩)
  refine leaves_cons (f := 110) (args := #[.int .i64 0, .pointer (some ⟨w.heap.size, 0, none⟩)]) (by simp) (by simp [go_sem]) ?_
  refine (cloN_hit rb _ (.slice none 0 0) 0 p0 0 0 0 10 [] _ (W0.out.kept hb1) ?_).mono ?_
  · exact box_cell hlt (gb_below hb1)
  rintro e u' w4 ⟨rfl, rfl, hR4, hg4⟩
  simp [Leaves, settle, results, Tryz.results67, go_sem]
  exact ⟨hR4, gb_trans (gb_trans (gb_alloc (gb_refl _ _) _) (gb_below hb1)) hg4⟩
set_option maxRecDepth 100000 in
set_option maxHeartbeats 1000000 in
theorem long_nil (rb : Nat) (p0 : Int) (w : World) (hR : RdAt w rb (.slice none 0 0) 0 p0 0) :
    Calls Tryz.prog 69 #[.pointer (some ⟨rb, 0, none⟩)] w fun e w' => e = .returned (.int .i64 0) ∧ RdAt w' rb (.slice none 0 0) 0 0 10 ∧ w.grownBy w' (some rb) := by
  have hlt : rb < w.heap.size := lt_of_block hR
  have W0 : Hid (RdAt (w.alloc (.cells #[.pointer (some ⟨rb, 0, none⟩)] 55)) rb (.slice none 0 0) 0 p0 0) := hR.kept ((Below.refl _ _).alloc (Nat.le_refl _) _)
  obtain ⟨_, c0, c1, c2, c3, f1, f2, f3⟩ := hR.facts
  have T0 : Hid (Calls Tryz.prog 111 #[.pointer (some ⟨rb, 0, none⟩), .int .i64 4] (w.alloc (.cells #[.pointer (some ⟨rb, 0, none⟩)] 55)) fun e w' => e = gave 0 10 ∧ Below (w.alloc (.cells #[.pointer (some ⟨rb, 0, none⟩)] 55)).heap.size (w.alloc (.cells #[.pointer (some ⟨rb, 0, none⟩)] 55)) w') := num_nil rb 4 p0 _ W0.out (by omega)
  have hmf := hmf
  clear hR
  go_enter_defers Tryz.func69, Tryz.ntmps69
  go_wp2_with (go_at_call 111; refine T0.out.mono ?_; rintro e w1 ⟨rfl, hb1⟩)
  refine leaves_cons (f := 112) (args := #[.int .i64 0, .pointer (some ⟨w.heap.size, 0, none⟩)]) (by simp) (by simp [go_sem]) ?_
  refine (cloL_hit rb _ (.slice none 0 0) 0 p0 0 0 0 10 [] _ (W0.out.kept hb1) ?_).mono ?_
  · exact box_cell hlt (gb_below hb1)
  rintro e u' w4 ⟨rfl, rfl, hR4, hg4⟩
  simp [Leaves, settle, results, Tryz.results69, go_sem]
  exact ⟨hR4, gb_trans (gb_trans (gb_alloc (gb_refl _ _) _) (gb_below hb1)) hg4⟩
set_option maxRecDepth 100000 in
set_option maxHeartbeats 1000000 in
theorem text_nil (rb : Nat) (p0 : Int) (w : World) (hR : RdAt w rb (.slice none 0 0) 0 p0 0) :
    Calls Tryz.prog 73 #[.pointer (some ⟨rb, 0, none⟩)] w fun e w' => e = .returned (.string ⟨#[]⟩) ∧ RdAt w' rb (.slice none 0 0) 0 0 10 ∧ w.grownBy w' (some rb) := by
  have hlt : rb < w.heap.size := lt_of_block hR
  have W0 : Hid (RdAt (w.alloc (.cells #[.pointer (some ⟨rb, 0, none⟩)] 55)) rb (.slice none 0 0) 0 p0 0) := hR.kept ((Below.refl _ _).alloc (Nat.le_refl _) _)
  obtain ⟨_, c0, c1, c2, c3, f1, f2, f3⟩ := hR.facts
  have T0 : Hid (Calls Tryz.prog 111 #[.pointer (some ⟨rb, 0, none⟩), .int .i64 2] (w.alloc (.cells #[.pointer (some ⟨rb, 0, none⟩)] 55)) fun e w' => e = gave 0 10 ∧ Below (w.alloc (.cells #[.pointer (some ⟨rb, 0, none⟩)] 55)).heap.size (w.alloc (.cells #[.pointer (some ⟨rb, 0, none⟩)] 55)) w') := num_nil rb 2 p0 _ W0.out (by omega)
  have hmf := hmf
  clear hR
  go_enter_defers Tryz.func73, Tryz.ntmps73
  go_wp2_with (go_at_call 111; refine T0.out.mono ?_; rintro e w1 ⟨rfl, hb1⟩)
  refine leaves_cons (f := 119) (args := #[.int .i64 0, .pointer (some ⟨w.heap.size, 0, none⟩)]) (by simp) (by simp [go_sem]) ?_
  refine (cloT_hit rb _ (.slice none 0 0) 0 p0 0 0 0 10 [] _ (W0.out.kept hb1) ?_).mono ?_
  · exact box_cell hlt (gb_below hb1)
  rintro e u' w4 ⟨rfl, rfl, hR4, hg4⟩
  simp [Leaves, settle, results, Tryz.results73, go_sem]
  exact ⟨hR4, gb_trans (gb_trans (gb_alloc (gb_refl _ _) _) (gb_below hb1)) hg4⟩
set_option maxRecDepth 100000 in
set_option maxHeartbeats 1000000 in
theorem data_nil (rb : Nat) (p0 : Int) (w : World) (hR : RdAt w rb (.slice none 0 0) 0 p0 0) :
    Calls Tryz.prog 75 #[.pointer (some ⟨rb, 0, none⟩)] w fun e w' => e = .returned (.slice none 0 0) ∧ RdAt w' rb (.slice none 0 0) 0 0 10 ∧ w.grownBy w' (some rb) := by
  have hlt : rb < w.heap.size := lt_of_block hR
  have W0 : Hid (RdAt (w.alloc (.cells #[.pointer (some ⟨rb, 0, none⟩)] 55)).drew rb (.slice none 0 0) 0 p0 0) := hR.kept (((Below.refl _ _).alloc (Nat.le_refl _) _).drew)
  obtain ⟨_, c0, c1, c2, c3, f1, f2, f3⟩ := hR.facts
  have T0 : Hid (Calls Tryz.prog 111 #[.pointer (some ⟨rb, 0, none⟩), .int .i64 2] (w.alloc (.cells #[.pointer (some ⟨rb, 0, none⟩)] 55)).drew fun e w' => e = gave 0 10 ∧ Below (w.alloc (.cells #[.pointer (some ⟨rb, 0, none⟩)] 55)).drew.heap.size (w.alloc (.cells #[.pointer (some ⟨rb, 0, none⟩)] 55)).drew w') := num_nil rb 2 p0 _ W0.out (by omega)
  have FIN : Hid (∀ w1, Below (w.alloc (.cells #[.pointer (some ⟨rb, 0, none⟩)] 55)).drew.heap.size (w.alloc (.cells #[.pointer (some ⟨rb, 0, none⟩)] 55)).drew w1 → w1.cell? ⟨w.heap.size, 0, none⟩ = some (.pointer (some ⟨rb, 0, none⟩)) ∧ ∀ w4, w1.grownBy w4 (some rb) → w.grownBy w4 (some rb)) := by
    intro w1 hb1
    have q3 := gb_trans (gb_drew (gb_refl (w.alloc (.cells #[.pointer (some ⟨rb, 0, none⟩)] 55)) (some rb))) (gb_below hb1)
    exact ⟨box_cell hlt q3, fun w4 hg4 => gb_trans (gb_trans (gb_alloc (gb_refl _ _) _) q3) hg4⟩
  have hmf := hmf
  clear hR
  go_enter_defers Tryz.func75, Tryz.ntmps75
  go_wp2
  first | go_region_with (go_at_call 111; refine T0.out.mono ?_; rintro e w1 ⟨rfl, hb1⟩; refine aside Tryz.prog { tmps := #[], defers := [] } w ?_ ?_; (refine leaves_cons (f := 120) (args := #[.int .i64 0, .pointer (some ⟨w.heap.size, 0, none⟩)]) (by simp) (by simp [go_sem]) ?_; refine (cloD_hit rb _ (.slice none 0 0) 0 p0 0 0 0 10 [] _ (W0.out.kept hb1) (FIN.out w1 hb1).1).mono ?_; rintro e u' w4 ⟨rfl, rfl, hR4, hg4⟩; simp [Leaves, settle, results, Tryz.results75, go_sem]; exact ⟨hR4, (FIN.out w1 hb1).2 w4 hg4⟩)) | fail
  all_goals trivial
set_option maxRecDepth 100000 in
set_option maxHeartbeats 1000000 in
theorem end_nil (rb : Nat) (p0 : Int) (w : World) (hR : RdAt w rb (.slice none 0 0) 0 p0 0) :
    Calls Tryz.prog 79 #[.pointer (some ⟨rb, 0, none⟩)] w fun e w' => e = .returned (.tuple #[]) ∧ RdAt w' rb (.slice none 0 0) 0 p0 0 ∧ w.grownBy w' (some rb) := by
  have hlt : rb < w.heap.size := lt_of_block hR
  have W0 : Hid (RdAt (w.alloc (.cells #[.pointer (some ⟨rb, 0, none⟩)] 55)) rb (.slice none 0 0) 0 p0 0) := hR.kept ((Below.refl _ _).alloc (Nat.le_refl _) _)
  obtain ⟨_, c0, c1, c2, c3, f1, f2, f3⟩ := hR.facts
  have L0 := hidi (left_nil rb p0 _ W0.out)
  have hmf := hmf
  clear hR
  go_enter_defers Tryz.func79, Tryz.ntmps79
  go_wp2_with (go_at_call 115; refine L0.out.mono ?_; rintro e w' ⟨rfl, rfl⟩)
  refine leaves_cons (f := 122) (args := #[.int .i64 0, .pointer (some ⟨w.heap.size, 0, none⟩)]) (by simp) (by simp [go_sem]) ?_
  refine (cloE_idle rb _ 0 _ ?_).mono ?_
  · simp [go_sem]
  rintro e u' w4 ⟨rfl, rfl, hb4⟩
  simp [Leaves, settle, results, Tryz.results79, go_sem]
  have hb5 : Below (w.alloc (.cells #[.pointer (some ⟨rb, 0, none⟩)] 55)).heap.size (w.alloc (.cells #[.pointer (some ⟨rb, 0, none⟩)] 55)) w4 := (Below.refl _ _).drew.trans hb4
  exact ⟨W0.out.kept hb5, gb_trans (gb_alloc (gb_refl _ _) _) (gb_below hb5)⟩
set_option maxRecDepth 100000 in
set_option maxHeartbeats 1000000 in
theorem length_nil (rb : Nat) (p0 : Int) (w : World) (hR : RdAt w rb (.slice none 0 0) 0 p0 0) :
    Calls Tryz.prog 71 #[.pointer (some ⟨rb, 0, none⟩)] w fun e w' => e = .returned (.int .i64 0) ∧ RdAt w' rb (.slice none 0 0) 0 0 10 ∧ w.grownBy w' (some rb) := by
  have hlt : rb < w.heap.size := lt_of_block hR
  have W0 : Hid (RdAt (w.alloc (.cells #[.pointer (some ⟨rb, 0, none⟩)] 55)) rb (.slice none 0 0) 0 p0 0) := hR.kept ((Below.refl _ _).alloc (Nat.le_refl _) _)
  have L0 := hidi (left_nil rb p0 _ W0.out)
  have N0 : Hid (∀ (w1 : World), Calls Tryz.prog 114 #[.slice none 0 0] w1 fun e w' => e = .returned (.tuple #[.int .i64 0, .int .i64 0, .int .i64 10]) ∧ w' = w1) := fun w1 => wlen_any none 0 0 (fun _ => 0) w1 ⟨Nat.le_refl _, fun _ => by simp, .inl rfl⟩ (by omega)
  obtain ⟨_, c0, c1, c2, c3, f1, f2, f3⟩ := hR.facts
  have hmf := hmf
  clear hR
  go_enter_defers Tryz.func71, Tryz.ntmps71
  go_wp2_with (first | (go_at_call 115; refine L0.out.mono ?_; rintro e w1 ⟨rfl, rfl⟩) | (go_at_call 114; refine (N0.out _).mono ?_; rintro e w2 ⟨rfl, rfl⟩) | (go_at_call 116; refine (give_any _ _ _).mono ?_; rintro e w' ⟨rfl, rfl⟩))
  refine leaves_cons (f := 113) (args := #[.int .i64 0, .pointer (some ⟨w.heap.size, 0, none⟩)]) (by simp) (by simp [go_sem]) ?_
  refine (cloG_hit rb _ (.slice none 0 0) 0 p0 0 0 0 10 [] _ ?_ ?_).mono ?_
  · exact W0.out
  · simp [go_sem]
  rintro e u' w4 ⟨rfl, rfl, hR4, hg4⟩
  simp [Leaves, settle, results, Tryz.results71, go_sem]
  exact ⟨hR4, gb_trans (gb_drew (gb_alloc (gb_refl _ _) _)) hg4⟩
set_option maxRecDepth 100000 in
set_option maxHeartbeats 1000000 in
theorem rest_nil (rb : Nat) (p0 : Int) (w : World) (hR : RdAt w rb (.slice none 0 0) 0 p0 0) :
    Calls Tryz.prog 77 #[.pointer (some ⟨rb, 0, none⟩)] w fun e w' => e = .returned (.slice none 0 0) ∧ RdAt w' rb (.slice none 0 0) 0 p0 0 ∧ w.grownBy w' (some rb) := by
  have hlt : rb < w.heap.size := lt_of_block hR
  have W0 : Hid (RdAt (w.alloc (.cells #[.pointer (some ⟨rb, 0, none⟩)] 55)).drew rb (.slice none 0 0) 0 p0 0) := hR.kept (((Below.refl _ _).alloc (Nat.le_refl _) _).drew)
  obtain ⟨_, c0, c1, c2, c3, f1, f2, f3⟩ := hR.facts
  have N0 : Hid (Calls Tryz.prog 115 #[.pointer (some ⟨rb, 0, none⟩)] (w.alloc (.cells #[.pointer (some ⟨rb, 0, none⟩)] 55)).drew fun e w' => e = .returned (.slice none 0 0) ∧ RdAt w' rb (.slice none 0 0) 0 p0 0 ∧ w'.cell? ⟨w.heap.size, 0, none⟩ = some (.pointer (some ⟨rb, 0, none⟩)) ∧ (w.alloc (.cells #[.pointer (some ⟨rb, 0, none⟩)] 55)).grownBy w' (some rb)) := by
    refine (left_nil rb p0 _ W0.out).mono ?_
    rintro e w' ⟨rfl, rfl⟩
    have q3 : (w.alloc (.cells #[.pointer (some ⟨rb, 0, none⟩)] 55)).grownBy (w.alloc (.cells #[.pointer (some ⟨rb, 0, none⟩)] 55)).drew.drew (some rb) := gb_drew (gb_drew (gb_refl _ _))
    exact ⟨rfl, W0.out.kept (Below.refl _ _).drew, box_cell hlt q3, q3⟩
  have T0 : Hid (∀ w1, RdAt w1 rb (.slice none 0 0) 0 p0 0 → (w.alloc (.cells #[.pointer (some ⟨rb, 0, none⟩)] 55)).grownBy w1 (some rb) → Calls Tryz.prog 108 #[.pointer (some ⟨rb, 0, none⟩), .int .i64 0] w1 fun e w' => e = .returned (.slice none 0 0) ∧ RdAt w' rb (.slice none 0 0) 0 p0 0 ∧ (w.alloc (.cells #[.pointer (some ⟨rb, 0, none⟩)] 55)).grownBy w' (some rb)) := by
    intro w1 r1 b1
    refine (take_nil0 rb p0 w1 r1).mono ?_
    rintro e w' ⟨rfl, q1, q2⟩
    exact ⟨rfl, q1, gb_trans b1 q2⟩
  have FIN : Hid (∀ w3, RdAt w3 rb (.slice none 0 0) 0 p0 0 → (w.alloc (.cells #[.pointer (some ⟨rb, 0, none⟩)] 55)).grownBy w3 (some rb) → ∀ w4, Below w3.heap.size w3 w4 → RdAt w4 rb (.slice none 0 0) 0 p0 0 ∧ w.grownBy w4 (some rb)) :=
    fun w3 r3 b3 w4 hb => ⟨r3.kept hb, gb_trans (gb_trans (gb_alloc (gb_refl _ _) _) b3) (gb_below hb)⟩
  have hmf := hmf
  clear hR
  go_enter_defers Tryz.func77, Tryz.ntmps77
  go_wp2
  first | go_region_with (first | (go_at_call 115; refine N0.out.mono ?_; rintro e w1 ⟨rfl, hR1, bx1, hg1⟩; have Y1 : Hid (RdAt w1 rb (.slice none 0 0) 0 p0 0 ∧ (w.alloc (.cells #[.pointer (some ⟨rb, 0, none⟩)] 55)).grownBy w1 (some rb)) := ⟨hR1, hg1⟩; clear hR1 hg1) | (go_at_call 108; (refine (T0.out _ Y1.out.1 Y1.out.2).mono ?_; rintro e w2 ⟨rfl, hR2, hg2⟩; have bx2 := box_cell hlt hg2; have Y3 := hidi (FIN.out _ hR2 hg2); clear hR2 hg2)) | (go_at_call 60; (refine (clone_nil _).mono ?_; rintro e w3 ⟨rfl, rfl⟩))) | fail
  all_goals go_wp2
  all_goals refine leaves_cons (f := 121) (args := #[.int .i64 0, .pointer (some ⟨w.heap.size, 0, none⟩)]) (by simp) (by simp [go_sem]) ?_
  all_goals refine (cloR_idle rb _ 0 _ bx2).mono ?_
  all_goals rintro e u' w4 ⟨rfl, rfl, hb4⟩
  all_goals obtain ⟨q2, q3⟩ := Y3.out w4 hb4
  all_goals simp [Leaves, settle, results, Tryz.results77, go_sem]
  all_goals exact ⟨q2, q3⟩
end Go.Proofs.YtkjeneklkdekoaaGreatDoor.Rw
