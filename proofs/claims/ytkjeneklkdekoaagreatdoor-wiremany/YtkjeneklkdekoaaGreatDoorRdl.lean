import Derived.Test.YtkjeneklkdekoaaGreatDoorRda
import Derived.Test.YtkjeneklkdekoaaGreatDoorBsix
namespace Go.Proofs.YtkjeneklkdekoaaGreatDoor.Rw
open Go Go.RowKit
set_option linter.unusedSimpArgs false
set_option linter.unusedVariables false

theorem cloL_hit (rb : Nat) (pc : Addr) (bv : Value) (at0 p0 q0 f p q : Int) (older : List PanicEntry) (w : World) (hR : RdAt w rb bv at0 p0 q0) (hp : w.cell? pc = some (.pointer (some ⟨rb, 0, none⟩))) :
    CallsD Tryz.prog 112 #[.int .i64 f, .pointer (some pc)] (.panicking ({ v := .iface 79 (.agg #[.int .i64 p, .int .i64 q]), recovered := false } :: older)) w fun e u' w' =>
      e = .returned (.tuple #[]) ∧ u' = .panicking ({ v := .iface 79 (.agg #[.int .i64 p, .int .i64 q]), recovered := true } :: older) ∧ RdAt w' rb bv f p q ∧ w.grownBy w' (some rb) :=
  callsD_of_wpS Tryz.func112 rfl fun c₀ cs hu => clo_hit "reader.go:35" Tryz.f112 (fun tmps w => results_none rfl _ _ _) rb pc bv at0 p0 q0 f p q older w hR hp c₀ cs hu
theorem cloL_idle (rb : Nat) (pc : Addr) (f : Int) (w : World) (hp : w.cell? pc = some (.pointer (some ⟨rb, 0, none⟩))) :
    CallsD Tryz.prog 112 #[.int .i64 f, .pointer (some pc)] .returning w fun e u' w' => e = .returned (.tuple #[]) ∧ u' = .returning ∧ Below w.heap.size w w' :=
  callsD_of_wpS Tryz.func112 rfl fun c₀ cs hu => clo_idle "reader.go:35" Tryz.f112 (fun tmps w => results_none rfl _ _ _) rb pc f w hp c₀ cs hu
set_option maxRecDepth 100000 in
set_option maxHeartbeats 1000000 in
theorem long_dead (rb : Nat) (bv : Value) (at0 p0 q0 : Int) (w : World) (hR : RdAt w rb bv at0 p0 q0) (hq : ¬ q0 = 0) :
    Calls Tryz.prog 69 #[.pointer (some ⟨rb, 0, none⟩)] w fun e w' => e = .returned (.int .i64 0) ∧ RdAt w' rb bv at0 p0 q0 ∧ w.grownBy w' (some rb) := by
  have hlt : rb < w.heap.size := lt_of_block hR
  have W0 : Hid (RdAt (w.alloc (.cells #[.pointer (some ⟨rb, 0, none⟩)] 55)) rb bv at0 p0 q0) := hR.kept ((Below.refl _ _).alloc (Nat.le_refl _) _)
  obtain ⟨_, c0, c1, c2, c3, f1, f2, f3⟩ := hR.facts
  have T0 : Hid (Calls Tryz.prog 111 #[.pointer (some ⟨rb, 0, none⟩), .int .i64 4] (w.alloc (.cells #[.pointer (some ⟨rb, 0, none⟩)] 55)) fun e w' => e = gave p0 q0 ∧ Below (w.alloc (.cells #[.pointer (some ⟨rb, 0, none⟩)] 55)).heap.size (w.alloc (.cells #[.pointer (some ⟨rb, 0, none⟩)] 55)) w') := num_bad rb bv at0 p0 q0 4 _ W0.out hq
  have hmf := hmf
  clear hR hq
  go_enter_defers Tryz.func69, Tryz.ntmps69
  go_wp2_with (go_at_call 111; refine T0.out.mono ?_; rintro e w1 ⟨rfl, hb1⟩)
  refine leaves_cons (f := 112) (args := #[.int .i64 at0, .pointer (some ⟨w.heap.size, 0, none⟩)]) (by simp) (by simp [go_sem]) ?_
  refine (cloL_hit rb _ bv at0 p0 q0 at0 p0 q0 [] _ (W0.out.kept hb1) ?_).mono ?_
  · exact box_cell hlt (gb_below hb1)
  rintro e u' w4 ⟨rfl, rfl, hR4, hg4⟩
  simp [Leaves, settle, results, Tryz.results69, go_sem]
  exact ⟨hR4, gb_trans (gb_trans (gb_alloc (gb_refl _ _) _) (gb_below hb1)) hg4⟩
set_option maxRecDepth 100000 in
set_option maxHeartbeats 1000000 in
theorem long_short (rb g n cp at0 : Nat) (p0 : Int) (w : World) (hR : RdAt w rb (.slice (some ⟨g, 0, none⟩) n cp) at0 p0 0) (h1 : at0 ≤ n) (h2 : n ≤ cp) (h3 : n ≤ 1000000) (hk : n < at0 + 4) :
    Calls Tryz.prog 69 #[.pointer (some ⟨rb, 0, none⟩)] w fun e w' => e = .returned (.int .i64 0) ∧ RdAt w' rb (.slice (some ⟨g, 0, none⟩) n cp) at0 n 10 ∧ w.grownBy w' (some rb) := by
  have hlt : rb < w.heap.size := lt_of_block hR
  have W0 : Hid (RdAt (w.alloc (.cells #[.pointer (some ⟨rb, 0, none⟩)] 55)) rb (.slice (some ⟨g, 0, none⟩) n cp) at0 p0 0) := hR.kept ((Below.refl _ _).alloc (Nat.le_refl _) _)
  obtain ⟨_, c0, c1, c2, c3, f1, f2, f3⟩ := hR.facts
  have T0 : Hid (Calls Tryz.prog 111 #[.pointer (some ⟨rb, 0, none⟩), .int .i64 4] (w.alloc (.cells #[.pointer (some ⟨rb, 0, none⟩)] 55)) fun e w' => e = gave n 10 ∧ Below (w.alloc (.cells #[.pointer (some ⟨rb, 0, none⟩)] 55)).heap.size (w.alloc (.cells #[.pointer (some ⟨rb, 0, none⟩)] 55)) w') := num_short rb g n cp at0 4 p0 _ W0.out h1 h2 h3 hk
  have hmf := hmf
  clear hR
  go_enter_defers Tryz.func69, Tryz.ntmps69
  go_wp2_with (go_at_call 111; refine T0.out.mono ?_; rintro e w1 ⟨rfl, hb1⟩)
  refine leaves_cons (f := 112) (args := #[.int .i64 at0, .pointer (some ⟨w.heap.size, 0, none⟩)]) (by simp) (by simp [go_sem]) ?_
  refine (cloL_hit rb _ (.slice (some ⟨g, 0, none⟩) n cp) at0 p0 0 at0 n 10 [] _ (W0.out.kept hb1) ?_).mono ?_
  · exact box_cell hlt (gb_below hb1)
  rintro e u' w4 ⟨rfl, rfl, hR4, hg4⟩
  simp [Leaves, settle, results, Tryz.results69, go_sem]
  exact ⟨hR4, gb_trans (gb_trans (gb_alloc (gb_refl _ _) _) (gb_below hb1)) hg4⟩
set_option maxRecDepth 100000 in
set_option maxHeartbeats 1000000 in
theorem long_ok (rb g n cp at0 : Nat) (p0 : Int) (z : Nat → Int) (w : World) (hR : RdAt w rb (.slice (some ⟨g, 0, none⟩) n cp) at0 p0 0) (hB : Rb w rb g n cp z) (hk : at0 + 4 ≤ n) :
    Calls Tryz.prog 69 #[.pointer (some ⟨rb, 0, none⟩)] w fun e w' => e = .returned (.int .i64 (((z at0 * 256 + z (at0 + 1)) * 256 + z (at0 + 2)) * 256 + z (at0 + 3))) ∧ RdAt w' rb (.slice (some ⟨g, 0, none⟩) n cp) ((at0 + 4 : Nat) : Int) p0 0 ∧ w.grownBy w' (some rb) := by
  have hlt : rb < w.heap.size := lt_of_block hR
  have hf := hB.few
  have W0 : Hid (RdAt (w.alloc (.cells #[.pointer (some ⟨rb, 0, none⟩)] 55)) rb (.slice (some ⟨g, 0, none⟩) n cp) at0 p0 0) := hR.kept ((Below.refl _ _).alloc (Nat.le_refl _) _)
  have O0 := (hB.below ((Below.refl _ _).alloc (Nat.le_refl _) (.cells #[.pointer (some ⟨rb, 0, none⟩)] 55))).own
  have N0 : Hid (Calls Tryz.prog 111 #[.pointer (some ⟨rb, 0, none⟩), .int .i64 4] (w.alloc (.cells #[.pointer (some ⟨rb, 0, none⟩)] 55)) fun e w' => e = .returned (.int .i64 (((z at0 * 256 + z (at0 + 1)) * 256 + z (at0 + 2)) * 256 + z (at0 + 3))) ∧ RdAt w' rb (.slice (some ⟨g, 0, none⟩) n cp) ((at0 + 4 : Nat) : Int) p0 0 ∧ (w.alloc (.cells #[.pointer (some ⟨rb, 0, none⟩)] 55)).grownBy w' (some rb)) :=
    num4_ok rb g n cp at0 p0 (z at0) (z (at0 + 1)) (z (at0 + 2)) (z (at0 + 3)) _ W0.out hB.le (by omega) hk hB.ne (hB.own.1 _) (hB.own.1 _) (hB.own.1 _) (hB.own.1 _) (O0.2 _ (by omega)) (O0.2 _ (by omega)) (O0.2 _ (by omega)) (O0.2 _ (by omega))
  obtain ⟨_, c0, c1, c2, c3, f1, f2, f3⟩ := hR.facts
  have hmf := hmf
  clear hR hB O0
  go_enter_defers Tryz.func69, Tryz.ntmps69
  go_wp2_with (go_at_call 111; refine N0.out.mono ?_; rintro e w1 ⟨rfl, hR1, hg1⟩; have bx1 := box_cell hlt hg1; have X1 : Hid (RdAt w1 rb (.slice (some ⟨g, 0, none⟩) n cp) ((at0 + 4 : Nat) : Int) p0 0 ∧ (w.alloc (.cells #[.pointer (some ⟨rb, 0, none⟩)] 55)).grownBy w1 (some rb)) := ⟨hR1, hg1⟩; clear hR1 hg1)
  refine leaves_cons (f := 112) (args := #[.int .i64 at0, .pointer (some ⟨w.heap.size, 0, none⟩)]) (by simp) (by simp [go_sem]) ?_
  refine (cloL_idle rb _ at0 _ bx1).mono ?_
  rintro e u' w4 ⟨rfl, rfl, hb4⟩
  simp [Leaves, settle, results, Tryz.results69, go_sem]
  exact ⟨X1.out.1.kept hb4, gb_trans (gb_trans (gb_alloc (gb_refl _ _) _) X1.out.2) (gb_below hb4)⟩
end Go.Proofs.YtkjeneklkdekoaaGreatDoor.Rw
