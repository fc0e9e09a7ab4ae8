import Derived.Test.YtkjeneklkdekoaaDoorSfive
namespace Go.Proofs.YtkjeneklkdekoaaDoor
open Go Go.RowKit
set_option linter.unusedSimpArgs false
set_option linter.unusedVariables false

set_option maxRecDepth 100000 in
set_option maxHeartbeats 400000 in
theorem at_any (rb : Nat) (bv : Value) (at0 p0 q0 : Int) (w : World) (hR : RdAt w rb bv at0 p0 q0) :
    Calls Tryd.prog 14 #[.pointer (some ⟨rb, 0, none⟩)] w fun e w' => e = .returned (.int .i64 at0) ∧ w' = w := by
  obtain ⟨hlt, c0, c1, c2, c3, f1, f2, f3⟩ := hR.facts
  clear hR
  go_enter Tryd.func14, Tryd.ntmps14
  go_wp2
  go_ret
  exact ⟨rfl, rfl⟩

set_option maxRecDepth 100000 in
set_option maxHeartbeats 400000 in
theorem err_nil (rb : Nat) (bv : Value) (at0 p0 : Int) (w : World) (hR : RdAt w rb bv at0 p0 0) :
    Calls Tryd.prog 17 #[.pointer (some ⟨rb, 0, none⟩)] w fun e w' => e = .returned .nilIface ∧ w' = w := by
  obtain ⟨hlt, c0, c1, c2, c3, f1, f2, f3⟩ := hR.facts
  clear hR
  go_enter Tryd.func17, Tryd.ntmps17
  go_wp2
  go_ret
  exact ⟨rfl, rfl⟩

set_option maxRecDepth 100000 in
set_option maxHeartbeats 400000 in
theorem err_some (rb : Nat) (bv : Value) (at0 p0 q0 : Int) (w : World) (hR : RdAt w rb bv at0 p0 q0) (hq : ¬ q0 = 0) :
    Calls Tryd.prog 17 #[.pointer (some ⟨rb, 0, none⟩)] w fun e w' => e = .returned (.iface 48 (.pointer (some ⟨w.heap.size, 0, none⟩))) ∧ w' = (w.alloc (.cells #[.int .i64 p0, .int .i64 q0] 52)).drew := by
  obtain ⟨hlt, c0, c1, c2, c3, f1, f2, f3⟩ := hR.facts
  clear hR
  have hq' : (q0 == 0) = false := by simpa using hq
  clear hq
  go_enter Tryd.func17, Tryd.ntmps17
  go_wp2
  go_region
  all_goals (try go_wp2)
  all_goals go_ret
  all_goals exact ⟨rfl, rfl⟩

set_option maxRecDepth 100000 in
set_option maxHeartbeats 1000000 in
theorem end_rest (rb g n cp at0 : Nat) (p0 : Int) (w : World) (hR : RdAt w rb (.slice (some ⟨g, 0, none⟩) n cp) at0 p0 0) (h1 : at0 < n) (h2 : n ≤ cp) (h3 : n ≤ 1000000) :
    Calls Tryd.prog 26 #[.pointer (some ⟨rb, 0, none⟩)] w fun e w' => e = .returned (.tuple #[]) ∧ RdAt w' rb (.slice (some ⟨g, 0, none⟩) n cp) at0 at0 15 ∧ w.grownBy w' (some rb) := by
  have hlt : rb < w.heap.size := lt_of_block hR
  have W0 : Hid (RdAt (w.alloc (.cells #[.pointer (some ⟨rb, 0, none⟩)] 24)) rb (.slice (some ⟨g, 0, none⟩) n cp) at0 p0 0) := hR.kept ((Below.refl _ _).alloc (Nat.le_refl _) _)
  obtain ⟨_, c0, c1, c2, c3, f1, f2, f3⟩ := hR.facts
  have L0 : Hid (Calls Tryd.prog 37 #[.pointer (some ⟨rb, 0, none⟩)] (w.alloc (.cells #[.pointer (some ⟨rb, 0, none⟩)] 24)) fun e w' => (∃ ad, e = .returned (.slice (some ad) (n - at0) (cp - at0)) ∧ (at0 < cp → ad = ⟨g, at0, none⟩)) ∧ w' = (w.alloc (.cells #[.pointer (some ⟨rb, 0, none⟩)] 24)).drew) := left_ok rb g n cp at0 p0 _ W0.out (by omega) h2 h3
  have hx : (0 : Int) < ((n - at0 : Nat) : Int) := by omega
  have hmf := hmf
  clear hR
  go_enter_defers Tryd.func26, Tryd.ntmps26
  go_wp2_with (first | (go_at_call 37; refine L0.out.mono ?_; rintro e w' ⟨⟨ad, rfl, _⟩, rfl⟩) | (go_at_call 38; refine (give_any _ _ _).mono ?_; rintro e w' ⟨rfl, rfl⟩))
  refine leaves_cons (f := 43) (args := #[.int .i64 at0, .pointer (some ⟨w.heap.size, 0, none⟩)]) (by simp) (by simp [go_sem]) ?_
  refine (clo43_hit rb _ (.slice (some ⟨g, 0, none⟩) n cp) at0 p0 0 at0 at0 15 [] _ ?_ ?_).mono ?_
  · exact W0.out
  · simp [go_sem]
  rintro e u' w4 ⟨rfl, rfl, hR4, hg4⟩
  simp [Leaves, settle, results, Tryd.results26, go_sem]
  exact ⟨hR4, gb_trans (gb_drew (gb_alloc (gb_refl _ _) _)) hg4⟩

set_option maxRecDepth 100000 in
set_option maxHeartbeats 1000000 in
theorem byte_bad (rb : Nat) (bv : Value) (at0 p0 q0 : Int) (w : World) (hR : RdAt w rb bv at0 p0 q0) (hq : ¬ q0 = 0) :
    Calls Tryd.prog 29 #[.pointer (some ⟨rb, 0, none⟩)] w fun e w' => e = .returned (.int .u8 0) ∧ RdAt w' rb bv at0 p0 q0 ∧ w.grownBy w' (some rb) := by
  have hlt : rb < w.heap.size := lt_of_block hR
  have W0 : Hid (RdAt (w.alloc (.cells #[.pointer (some ⟨rb, 0, none⟩)] 24)) rb bv at0 p0 q0) := hR.kept ((Below.refl _ _).alloc (Nat.le_refl _) _)
  obtain ⟨_, c0, c1, c2, c3, f1, f2, f3⟩ := hR.facts
  have T0 : Hid (Calls Tryd.prog 39 #[.pointer (some ⟨rb, 0, none⟩), .int .i64 1] (w.alloc (.cells #[.pointer (some ⟨rb, 0, none⟩)] 24)) fun e w' => e = gave p0 q0 ∧ Below (w.alloc (.cells #[.pointer (some ⟨rb, 0, none⟩)] 24)).heap.size (w.alloc (.cells #[.pointer (some ⟨rb, 0, none⟩)] 24)) w') := take_bad rb bv at0 p0 q0 1 _ W0.out hq
  have hmf := hmf
  clear hR hq
  go_enter_defers Tryd.func29, Tryd.ntmps29
  go_wp2_with (go_at_call 39; refine T0.out.mono ?_; rintro e w1 ⟨rfl, hb1⟩)
  refine leaves_cons (f := 50) (args := #[.int .i64 at0, .pointer (some ⟨w.heap.size, 0, none⟩)]) (by simp) (by simp [go_sem]) ?_
  refine (clo50_hit rb _ bv at0 p0 q0 at0 p0 q0 [] _ (W0.out.kept hb1) ?_).mono ?_
  · exact box_cell hlt (gb_below hb1)
  rintro e u' w4 ⟨rfl, rfl, hR4, hg4⟩
  simp [Leaves, settle, results, Tryd.results29, go_sem]
  exact ⟨hR4, gb_trans (gb_trans (gb_alloc (gb_refl _ _) _) (gb_below hb1)) hg4⟩
end Go.Proofs.YtkjeneklkdekoaaDoor
