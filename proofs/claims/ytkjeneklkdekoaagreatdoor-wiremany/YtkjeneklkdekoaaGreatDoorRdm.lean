import Derived.Test.YtkjeneklkdekoaaGreatDoorRdl
import Derived.Test.YtkjeneklkdekoaaGreatDoorBsix
import Derived.Test.YtkjeneklkdekoaaGreatDoorRei
namespace Go.Proofs.YtkjeneklkdekoaaGreatDoor.Rw
open Go Go.RowKit
set_option linter.unusedSimpArgs false
set_option linter.unusedVariables false

theorem cloG_hit (rb : Nat) (pc : Addr) (bv : Value) (at0 p0 q0 f p q : Int) (older : List PanicEntry) (w : World) (hR : RdAt w rb bv at0 p0 q0) (hp : w.cell? pc = some (.pointer (some ⟨rb, 0, none⟩))) :
    CallsD Tryz.prog 113 #[.int .i64 f, .pointer (some pc)] (.panicking ({ v := .iface 79 (.agg #[.int .i64 p, .int .i64 q]), recovered := false } :: older)) w fun e u' w' =>
      e = .returned (.tuple #[]) ∧ u' = .panicking ({ v := .iface 79 (.agg #[.int .i64 p, .int .i64 q]), recovered := true } :: older) ∧ RdAt w' rb bv f p q ∧ w.grownBy w' (some rb) :=
  callsD_of_wpS Tryz.func113 rfl fun c₀ cs hu => clo_hit "reader.go:41" Tryz.f113 (fun tmps w => results_none rfl _ _ _) rb pc bv at0 p0 q0 f p q older w hR hp c₀ cs hu
theorem cloG_idle (rb : Nat) (pc : Addr) (f : Int) (w : World) (hp : w.cell? pc = some (.pointer (some ⟨rb, 0, none⟩))) :
    CallsD Tryz.prog 113 #[.int .i64 f, .pointer (some pc)] .returning w fun e u' w' => e = .returned (.tuple #[]) ∧ u' = .returning ∧ Below w.heap.size w w' :=
  callsD_of_wpS Tryz.func113 rfl fun c₀ cs hu => clo_idle "reader.go:41" Tryz.f113 (fun tmps w => results_none rfl _ _ _) rb pc f w hp c₀ cs hu
set_option maxRecDepth 100000 in
set_option maxHeartbeats 1000000 in
theorem length_dead (rb : Nat) (bv : Value) (at0 p0 q0 : Int) (w : World) (hR : RdAt w rb bv at0 p0 q0) (hq : ¬ q0 = 0) :
    Calls Tryz.prog 71 #[.pointer (some ⟨rb, 0, none⟩)] w fun e w' => e = .returned (.int .i64 0) ∧ RdAt w' rb bv at0 p0 q0 ∧ w.grownBy w' (some rb) := by
  have hlt : rb < w.heap.size := lt_of_block hR
  have W0 : Hid (RdAt (w.alloc (.cells #[.pointer (some ⟨rb, 0, none⟩)] 55)) rb bv at0 p0 q0) := hR.kept ((Below.refl _ _).alloc (Nat.le_refl _) _)
  obtain ⟨_, c0, c1, c2, c3, f1, f2, f3⟩ := hR.facts
  have T0 : Hid (Calls Tryz.prog 115 #[.pointer (some ⟨rb, 0, none⟩)] (w.alloc (.cells #[.pointer (some ⟨rb, 0, none⟩)] 55)) fun e w' => e = gave p0 q0 ∧ Below (w.alloc (.cells #[.pointer (some ⟨rb, 0, none⟩)] 55)).heap.size (w.alloc (.cells #[.pointer (some ⟨rb, 0, none⟩)] 55)) w') := left_bad rb bv at0 p0 q0 _ W0.out hq
  have hmf := hmf
  clear hR hq
  go_enter_defers Tryz.func71, Tryz.ntmps71
  go_wp2_with (go_at_call 115; refine T0.out.mono ?_; rintro e w1 ⟨rfl, hb1⟩)
  refine leaves_cons (f := 113) (args := #[.int .i64 at0, .pointer (some ⟨w.heap.size, 0, none⟩)]) (by simp) (by simp [go_sem]) ?_
  refine (cloG_hit rb _ bv at0 p0 q0 at0 p0 q0 [] _ (W0.out.kept hb1) ?_).mono ?_
  · exact box_cell hlt (gb_below hb1)
  rintro e u' w4 ⟨rfl, rfl, hR4, hg4⟩
  simp [Leaves, settle, results, Tryz.results71, go_sem]
  exact ⟨hR4, gb_trans (gb_trans (gb_alloc (gb_refl _ _) _) (gb_below hb1)) hg4⟩
theorem left_byt {w : World} {rb g n cp at0 : Nat} {p0 : Int} {z : Nat → Int} (hR : RdAt w rb (.slice (some ⟨g, 0, none⟩) n cp) at0 p0 0) (hB : Rb w rb g n cp z) (hn : at0 ≤ n) :
    Calls Tryz.prog 115 #[.pointer (some ⟨rb, 0, none⟩)] w fun e w' => ∃ ad, e = .returned (.slice (some ad) (n - at0) (cp - at0)) ∧ Byt w.drew (some ad) (n - at0) (cp - at0) (fun i => z (at0 + i)) ∧ w' = w.drew := by
  have hle := hB.le
  have hf := hB.few
  refine (left_ok rb g n cp at0 p0 _ hR hn hle (by omega)).mono ?_
  rintro e w' ⟨⟨ad, rfl, had⟩, rfl⟩
  refine ⟨ad, rfl, ⟨by omega, fun i => hB.own.1 _, ?_⟩, rfl⟩
  by_cases h0 : n - at0 = 0
  · exact .inl h0
  · obtain rfl := had (by omega)
    exact .inr ⟨g, at0, rfl, fun i hi => (hB.own.below (Below.refl _ _).drew).2 (at0 + i) (by omega)⟩
set_option maxRecDepth 100000 in
set_option maxHeartbeats 1000000 in
theorem length_short (rb g n cp at0 : Nat) (p0 : Int) (z : Nat → Int) (w : World) (hR : RdAt w rb (.slice (some ⟨g, 0, none⟩) n cp) at0 p0 0) (hB : Rb w rb g n cp z) (hn : at0 ≤ n) (v k : Int) (hl : lenZ (n - at0) (fun i => z (at0 + i)) = (v, k, 10)) :
    Calls Tryz.prog 71 #[.pointer (some ⟨rb, 0, none⟩)] w fun e w' => e = .returned (.int .i64 0) ∧ RdAt w' rb (.slice (some ⟨g, 0, none⟩) n cp) at0 n 10 ∧ w.grownBy w' (some rb) := by
  have hlt : rb < w.heap.size := lt_of_block hR
  have hle := hB.le
  have hf := hB.few
  have W0 : Hid (RdAt (w.alloc (.cells #[.pointer (some ⟨rb, 0, none⟩)] 55)) rb (.slice (some ⟨g, 0, none⟩) n cp) at0 p0 0) := hR.kept ((Below.refl _ _).alloc (Nat.le_refl _) _)
  have O0 : Hid (Rb (w.alloc (.cells #[.pointer (some ⟨rb, 0, none⟩)] 55)) rb g n cp z) := hB.below ((Below.refl _ _).alloc (Nat.le_refl _) _)
  have L0 := hidi (left_byt W0.out O0.out hn)
  have N0 : Hid (∀ (w1 : World) ad, Byt w1 (some ad) (n - at0) (cp - at0) (fun i => z (at0 + i)) → Calls Tryz.prog 114 #[.slice (some ad) (n - at0) (cp - at0)] w1 fun e w' => e = .returned (.tuple #[.int .i64 v, .int .i64 k, .int .i64 10]) ∧ w' = w1) := fun w1 ad h => by
    have t := wlen_any (some ad) (n - at0) (cp - at0) _ w1 h (by omega)
    rw [hl] at t
    exact t
  obtain ⟨_, c0, c1, c2, c3, f1, f2, f3⟩ := hR.facts
  have hmf := hmf
  clear hR hB hl
  go_enter_defers Tryz.func71, Tryz.ntmps71
  go_wp2_with (first | (go_at_call 115; refine L0.out.mono ?_; rintro e w1 ⟨ad, rfl, hby, rfl⟩; have N1 := hidi (N0.out _ _ hby); clear hby) | (go_at_call 114; refine N1.out.mono ?_; rintro e w2 ⟨rfl, rfl⟩) | (go_at_call 116; refine (give_any _ _ _).mono ?_; rintro e w' ⟨rfl, rfl⟩))
  refine leaves_cons (f := 113) (args := #[.int .i64 at0, .pointer (some ⟨w.heap.size, 0, none⟩)]) (by simp) (by simp [go_sem]) ?_
  refine (cloG_hit rb _ (.slice (some ⟨g, 0, none⟩) n cp) at0 p0 0 at0 n 10 [] _ ?_ ?_).mono ?_
  · exact W0.out
  · simp [go_sem]
  rintro e u' w4 ⟨rfl, rfl, hR4, hg4⟩
  simp [Leaves, settle, results, Tryz.results71, go_sem]
  exact ⟨hR4, gb_trans (gb_drew (gb_alloc (gb_refl _ _) _)) hg4⟩
set_option maxRecDepth 100000 in
set_option maxHeartbeats 1000000 in
theorem length_form (rb g n cp at0 : Nat) (p0 : Int) (z : Nat → Int) (w : World) (hR : RdAt w rb (.slice (some ⟨g, 0, none⟩) n cp) at0 p0 0) (hB : Rb w rb g n cp z) (hn : at0 ≤ n) (v k : Int) (hl : lenZ (n - at0) (fun i => z (at0 + i)) = (v, k, 12)) :
    Calls Tryz.prog 71 #[.pointer (some ⟨rb, 0, none⟩)] w fun e w' => e = .returned (.int .i64 0) ∧ RdAt w' rb (.slice (some ⟨g, 0, none⟩) n cp) at0 ((at0 + 3 : Nat) : Int) 12 ∧ w.grownBy w' (some rb) := by
  have hlt : rb < w.heap.size := lt_of_block hR
  have hle := hB.le
  have hf := hB.few
  have W0 : Hid (RdAt (w.alloc (.cells #[.pointer (some ⟨rb, 0, none⟩)] 55)) rb (.slice (some ⟨g, 0, none⟩) n cp) at0 p0 0) := hR.kept ((Below.refl _ _).alloc (Nat.le_refl _) _)
  have O0 : Hid (Rb (w.alloc (.cells #[.pointer (some ⟨rb, 0, none⟩)] 55)) rb g n cp z) := hB.below ((Below.refl _ _).alloc (Nat.le_refl _) _)
  have L0 := hidi (left_byt W0.out O0.out hn)
  have N0 : Hid (∀ (w1 : World) ad, Byt w1 (some ad) (n - at0) (cp - at0) (fun i => z (at0 + i)) → Calls Tryz.prog 114 #[.slice (some ad) (n - at0) (cp - at0)] w1 fun e w' => e = .returned (.tuple #[.int .i64 v, .int .i64 k, .int .i64 12]) ∧ w' = w1) := fun w1 ad h => by
    have t := wlen_any (some ad) (n - at0) (cp - at0) _ w1 h (by omega)
    rw [hl] at t
    exact t
  obtain ⟨_, c0, c1, c2, c3, f1, f2, f3⟩ := hR.facts
  have hw4 : IntKind.i64.wrap ((at0 : Int) + 4) = (at0 : Int) + 4 := wraps_i64 _ (by omega) (by omega)
  have hw3 : IntKind.i64.wrap ((at0 : Int) + 4 - 1) = ((at0 + 3 : Nat) : Int) := by rw [wraps_i64 _ (by omega) (by omega)]; omega
  have hmf := hmf
  clear hR hB hl
  go_enter_defers Tryz.func71, Tryz.ntmps71
  go_wp2_with (first | (go_at_call 115; refine L0.out.mono ?_; rintro e w1 ⟨ad, rfl, hby, rfl⟩; have N1 := hidi (N0.out _ _ hby); clear hby) | (go_at_call 114; refine N1.out.mono ?_; rintro e w2 ⟨rfl, rfl⟩) | (go_at_call 116; refine (give_any _ _ _).mono ?_; rintro e w' ⟨rfl, rfl⟩))
  refine leaves_cons (f := 113) (args := #[.int .i64 at0, .pointer (some ⟨w.heap.size, 0, none⟩)]) (by simp) (by simp [go_sem]) ?_
  refine (cloG_hit rb _ (.slice (some ⟨g, 0, none⟩) n cp) at0 p0 0 at0 _ 12 [] _ ?_ ?_).mono ?_
  · exact W0.out
  · simp [go_sem]
  rintro e u' w4 ⟨rfl, rfl, hR4, hg4⟩
  simp [Leaves, settle, results, Tryz.results71, go_sem]
  exact ⟨hR4, gb_trans (gb_drew (gb_alloc (gb_refl _ _) _)) hg4⟩
set_option maxRecDepth 100000 in
set_option maxHeartbeats 1000000 in
theorem length_fine (rb g n cp at0 : Nat) (p0 : Int) (z : Nat → Int) (w : World) (hR : RdAt w rb (.slice (some ⟨g, 0, none⟩) n cp) at0 p0 0) (hB : Rb w rb g n cp z) (hn : at0 ≤ n) (v : Int) (k : Nat) (hk : at0 + k ≤ n) (hl : lenZ (n - at0) (fun i => z (at0 + i)) = (v, (k : Int), 0)) :
    Calls Tryz.prog 71 #[.pointer (some ⟨rb, 0, none⟩)] w fun e w' => e = .returned (.int .i64 v) ∧ RdAt w' rb (.slice (some ⟨g, 0, none⟩) n cp) ((at0 + k : Nat) : Int) p0 0 ∧ w.grownBy w' (some rb) := by
  have hlt : rb < w.heap.size := lt_of_block hR
  have hle := hB.le
  have hf := hB.few
  have W0 : Hid (RdAt (w.alloc (.cells #[.pointer (some ⟨rb, 0, none⟩)] 55)) rb (.slice (some ⟨g, 0, none⟩) n cp) at0 p0 0) := hR.kept ((Below.refl _ _).alloc (Nat.le_refl _) _)
  have O0 : Hid (Rb (w.alloc (.cells #[.pointer (some ⟨rb, 0, none⟩)] 55)) rb g n cp z) := hB.below ((Below.refl _ _).alloc (Nat.le_refl _) _)
  have L0 := hidi (left_byt W0.out O0.out hn)
  have N0 : Hid (∀ (w1 : World) ad, Byt w1 (some ad) (n - at0) (cp - at0) (fun i => z (at0 + i)) → Calls Tryz.prog 114 #[.slice (some ad) (n - at0) (cp - at0)] w1 fun e w' => e = .returned (.tuple #[.int .i64 v, .int .i64 k, .int .i64 0]) ∧ w' = w1) := fun w1 ad h => by
    have t := wlen_any (some ad) (n - at0) (cp - at0) _ w1 h (by omega)
    rw [hl] at t
    exact t
  have T0 : Hid (Calls Tryz.prog 108 #[.pointer (some ⟨rb, 0, none⟩), .int .i64 k] (w.alloc (.cells #[.pointer (some ⟨rb, 0, none⟩)] 55)).drew fun e w' => (∃ ad, e = .returned (.slice (some ad) k (cp - at0))) ∧ RdAt w' rb (.slice (some ⟨g, 0, none⟩) n cp) ((at0 + k : Nat) : Int) p0 0 ∧ (w.alloc (.cells #[.pointer (some ⟨rb, 0, none⟩)] 55)).grownBy w' (some rb)) := by
    refine (take_ok rb g n cp at0 k p0 (w.alloc (.cells #[.pointer (some ⟨rb, 0, none⟩)] 55)).drew W0.out hle (by omega) hk).mono ?_
    rintro e w' ⟨⟨ad, rfl, _⟩, h, h'⟩
    exact ⟨⟨ad, rfl⟩, h, gb_trans (gb_drew (gb_refl _ _)) h'⟩
  obtain ⟨_, c0, c1, c2, c3, f1, f2, f3⟩ := hR.facts
  have hmf := hmf
  clear hR hB hl
  go_enter_defers Tryz.func71, Tryz.ntmps71
  go_wp2_with (first | (go_at_call 115; refine L0.out.mono ?_; rintro e w1 ⟨ad, rfl, hby, rfl⟩; have N1 := hidi (N0.out _ _ hby); clear hby) | (go_at_call 114; refine N1.out.mono ?_; rintro e w2 ⟨rfl, rfl⟩) | (go_at_call 108; refine T0.out.mono ?_; rintro e w3 ⟨⟨ad', rfl⟩, hR1, hg1⟩))
  refine leaves_cons (f := 113) (args := #[.int .i64 at0, .pointer (some ⟨w.heap.size, 0, none⟩)]) (by simp) (by simp [go_sem]) ?_
  refine (cloG_idle rb _ at0 _ (box_cell hlt hg1)).mono ?_
  rintro e u' w4 ⟨rfl, rfl, hb4⟩
  simp [Leaves, settle, results, Tryz.results71, go_sem]
  exact ⟨hR1.kept hb4, gb_trans (gb_trans (gb_alloc (gb_refl _ _) _) hg1) (gb_below hb4)⟩
end Go.Proofs.YtkjeneklkdekoaaGreatDoor.Rw
