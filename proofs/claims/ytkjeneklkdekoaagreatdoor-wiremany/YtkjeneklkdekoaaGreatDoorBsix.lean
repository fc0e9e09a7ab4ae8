import Derived.Test.YtkjeneklkdekoaaGreatDoorGthree
import Derived.Deep.RegionWith
namespace Go.Proofs.YtkjeneklkdekoaaGreatDoor
open Go Go.RowKit
set_option linter.unusedSimpArgs false
set_option linter.unusedVariables false

end Go.Proofs.YtkjeneklkdekoaaGreatDoor
namespace Go.Proofs.YtkjeneklkdekoaaGreatDoor
open Go Go.RowKit
set_option linter.unusedSimpArgs false
set_option linter.unusedVariables false

end Go.Proofs.YtkjeneklkdekoaaGreatDoor
namespace Go.Proofs.YtkjeneklkdekoaaGreatDoor
open Go Go.RowKit
set_option linter.unusedSimpArgs false
set_option linter.unusedVariables false

theorem clo32_idle (rb : Nat) (pc : Addr) (f : Int) (w : World) (hp : w.cell? pc = some (.pointer (some ⟨rb, 0, none⟩))) :
    CallsD Tryz.prog 110 #[.int .i64 f, .pointer (some pc)] .returning w fun e u' w' => e = .returned (.tuple #[]) ∧ u' = .returning ∧ Below w.heap.size w w' :=
  callsD_of_wpS Tryz.func110 rfl fun c₀ cs hu => clo_idle "reader.go:29" Tryz.f110 (fun tmps w => results_none rfl _ _ _) rb pc f w hp c₀ cs hu

theorem clo35_idle (rb : Nat) (pc : Addr) (f : Int) (w : World) (hp : w.cell? pc = some (.pointer (some ⟨rb, 0, none⟩))) :
    CallsD Tryz.prog 112 #[.int .i64 f, .pointer (some pc)] .returning w fun e u' w' => e = .returned (.tuple #[]) ∧ u' = .returning ∧ Below w.heap.size w w' :=
  callsD_of_wpS Tryz.func112 rfl fun c₀ cs hu => clo_idle "reader.go:35" Tryz.f112 (fun tmps w => results_none rfl _ _ _) rb pc f w hp c₀ cs hu

theorem clo40_idle (rb : Nat) (pc : Addr) (f : Int) (w : World) (hp : w.cell? pc = some (.pointer (some ⟨rb, 0, none⟩))) :
    CallsD Tryz.prog 120 #[.int .i64 f, .pointer (some pc)] .returning w fun e u' w' => e = .returned (.tuple #[]) ∧ u' = .returning ∧ Below w.heap.size w w' :=
  callsD_of_wpS Tryz.func120 rfl fun c₀ cs hu => clo_idle "reader.go:67" Tryz.f120 (fun tmps w => results_none rfl _ _ _) rb pc f w hp c₀ cs hu

set_option maxRecDepth 100000 in
set_option maxHeartbeats 1000000 in
theorem num4_ok (rb g n cp at0 : Nat) (p0 x0 x1 x2 x3 : Int) (w : World) (hR : RdAt w rb (.slice (some ⟨g, 0, none⟩) n cp) at0 p0 0) (h2 : n ≤ cp) (h3 : n ≤ 1000000) (hk : at0 + 4 ≤ n) (hgr : g ≠ rb)
    (z0 : 0 ≤ x0 ∧ x0 ≤ 255) (z1 : 0 ≤ x1 ∧ x1 ≤ 255) (z2 : 0 ≤ x2 ∧ x2 ≤ 255) (z3 : 0 ≤ x3 ∧ x3 ≤ 255) (c0 : w.cell? ⟨g, at0, none⟩ = some (.int .u8 x0)) (c1 : w.cell? ⟨g, at0 + 1, none⟩ = some (.int .u8 x1)) (c2 : w.cell? ⟨g, at0 + 2, none⟩ = some (.int .u8 x2)) (c3 : w.cell? ⟨g, at0 + 3, none⟩ = some (.int .u8 x3)) :
    Calls Tryz.prog 111 #[.pointer (some ⟨rb, 0, none⟩), .int .i64 4] w fun e w' => e = .returned (.int .i64 (((x0 * 256 + x1) * 256 + x2) * 256 + x3)) ∧ RdAt w' rb (.slice (some ⟨g, 0, none⟩) n cp) ((at0 + 4 : Nat) : Int) p0 0 ∧ w.grownBy w' (some rb) := by
  have HT : Hid (Calls Tryz.prog 108 #[.pointer (some ⟨rb, 0, none⟩), .int .i64 4] w fun e w' => (∃ ad, e = .returned (.slice (some ad) 4 (cp - at0)) ∧ (at0 < cp → ad = ⟨g, at0, none⟩)) ∧ RdAt w' rb (.slice (some ⟨g, 0, none⟩) n cp) ((at0 + 4 : Nat) : Int) p0 0 ∧ w.grownBy w' (some rb)) := take_ok rb g n cp at0 4 p0 w hR h2 h3 hk
  have HC : Hid (∀ w', w.grownBy w' (some rb) → w'.cell? ⟨g, at0, none⟩ = some (.int .u8 x0) ∧ w'.cell? ⟨g, at0 + 1, none⟩ = some (.int .u8 x1) ∧ w'.cell? ⟨g, at0 + 2, none⟩ = some (.int .u8 x2) ∧ w'.cell? ⟨g, at0 + 3, none⟩ = some (.int .u8 x3)) := fun w' h => ⟨h.cell c0 (by simpa using hgr), h.cell c1 (by simpa using hgr), h.cell c2 (by simpa using hgr), h.cell c3 (by simpa using hgr)⟩
  clear hR c0 c1 c2 c3
  have hat : at0 < cp := by omega
  have o0 : bits .or .i64 0 x0 = x0 := by have h := or_up 0 (by decide) 0 x0 (by omega) (by omega) (by omega) (by omega) (by omega) (by omega); omega
  have o1 : bits .or .i64 (x0 * 256) x1 = x0 * 256 + x1 := bits_join .i64 62 (by decide) wraps_i64 8 _ _ (by omega) (by omega) (by omega) (by omega) (by omega) (by omega)
  have o2 : bits .or .i64 ((x0 * 256 + x1) * 256) x2 = (x0 * 256 + x1) * 256 + x2 := bits_join .i64 62 (by decide) wraps_i64 8 _ _ (by omega) (by omega) (by omega) (by omega) (by omega) (by omega)
  have o3 : bits .or .i64 (((x0 * 256 + x1) * 256 + x2) * 256) x3 = ((x0 * 256 + x1) * 256 + x2) * 256 + x3 := bits_join .i64 62 (by decide) wraps_i64 8 _ _ (by omega) (by omega) (by omega) (by omega) (by omega) (by omega)
  go_enter Tryz.func111, Tryz.ntmps111
  go_wp2_with (go_at_call 108; refine HT.out.mono ?_; rintro e w1 ⟨⟨ad, rfl, had⟩, hR1, hg1⟩; obtain rfl := had hat; clear had; obtain ⟨d0, d1, d2, d3⟩ := HC.out _ hg1; have HR1 : Hid (RdAt w1 rb (.slice (some ⟨g, 0, none⟩) n cp) ((at0 + 4 : Nat) : Int) p0 0 ∧ w.grownBy w1 (some rb)) := ⟨hR1, hg1⟩; clear hR1 hg1)
  go_loop [5, 7, 12] (fun v _ i => (i = .int .i64 0 ∧ v = .int .i64 0) ∨ (i = .int .i64 1 ∧ v = .int .i64 x0) ∨ (i = .int .i64 2 ∧ v = .int .i64 (x0 * 256 + x1)) ∨ (i = .int .i64 3 ∧ v = .int .i64 ((x0 * 256 + x1) * 256 + x2)) ∨ (i = .int .i64 4 ∧ v = .int .i64 (((x0 * 256 + x1) * 256 + x2) * 256 + x3))) (fun _ _ i => 4 - (intOf i).toNat)
  case atStart => exact .inl ⟨rfl, rfl⟩
  case round =>
    rcases hrel with ⟨rfl, rfl⟩ | ⟨rfl, rfl⟩ | ⟨rfl, rfl⟩ | ⟨rfl, rfl⟩ | ⟨rfl, rfl⟩
    · go_wp2
      go_round
      case rel => exact .inr (.inl ⟨rfl, rfl⟩)
      case measure => simp [intOf]
    · go_wp2
      go_round
      case rel => exact .inr (.inr (.inl ⟨rfl, rfl⟩))
      case measure => simp [intOf]
    · go_wp2
      go_round
      case rel => exact .inr (.inr (.inr (.inl ⟨rfl, rfl⟩)))
      case measure => simp [intOf]
    · go_wp2
      go_round
      case rel => exact .inr (.inr (.inr (.inr ⟨rfl, rfl⟩)))
      case measure => simp [intOf]
    · go_wp2
      go_ret
      exact ⟨rfl, HR1.out.1, HR1.out.2⟩

set_option maxRecDepth 100000 in
set_option maxHeartbeats 1000000 in
theorem number_ok (rb g n cp : Nat) (z : Nat → Int) (w : World) (hR : RdAt w rb (.slice (some ⟨g, 0, none⟩) n cp) 0 0 0) (hO : Own w g n z) (h2 : n ≤ cp) (h3 : n ≤ 1000000) (hgr : g ≠ rb) (hk : 2 ≤ n) :
    Calls Tryz.prog 67 #[.pointer (some ⟨rb, 0, none⟩)] w fun e w' => e = .returned (.int .i64 (z 0 * 256 + z 1)) ∧ RdAt w' rb (.slice (some ⟨g, 0, none⟩) n cp) 2 0 0 ∧ w.grownBy w' (some rb) := by
  have hlt : rb < w.heap.size := lt_of_block hR
  have W0 : Hid (RdAt (w.alloc (.cells #[.pointer (some ⟨rb, 0, none⟩)] 55)) rb (.slice (some ⟨g, 0, none⟩) n cp) ((0 : Nat) : Int) 0 0) := hR.kept ((Below.refl _ _).alloc (Nat.le_refl _) _)
  have O0 : Hid (Own (w.alloc (.cells #[.pointer (some ⟨rb, 0, none⟩)] 55)) g n z) := hO.below ((Below.refl _ _).alloc (Nat.le_refl _) _)
  obtain ⟨_, c0, c1, c2, c3, f1, f2, f3⟩ := hR.facts
  have N0 : Hid (Calls Tryz.prog 111 #[.pointer (some ⟨rb, 0, none⟩), .int .i64 2] (w.alloc (.cells #[.pointer (some ⟨rb, 0, none⟩)] 55)) fun e w' => e = .returned (.int .i64 (z 0 * 256 + z 1)) ∧ RdAt w' rb (.slice (some ⟨g, 0, none⟩) n cp) 2 0 0 ∧ (w.alloc (.cells #[.pointer (some ⟨rb, 0, none⟩)] 55)).grownBy w' (some rb)) :=
    num2_ok rb g n cp 0 0 (z 0) (z 1) _ W0.out h2 h3 (by omega) hgr (O0.out.1 _) (O0.out.1 _) (O0.out.2 0 (by omega)) (O0.out.2 1 (by omega))
  have hmf := hmf
  clear hR hO
  go_enter_defers Tryz.func67, Tryz.ntmps67
  go_wp2_with (go_at_call 111; refine N0.out.mono ?_; rintro e w1 ⟨rfl, hR1, hg1⟩)
  refine leaves_cons (f := 110) (args := #[.int .i64 0, .pointer (some ⟨w.heap.size, 0, none⟩)]) (by simp) (by simp [go_sem]) ?_
  refine (clo32_idle rb _ 0 _ (box_cell hlt hg1)).mono ?_
  rintro e u' w4 ⟨rfl, rfl, hb4⟩
  simp [Leaves, settle, results, Tryz.results67, go_sem]
  exact ⟨hR1.kept hb4, gb_trans (gb_trans (gb_alloc (gb_refl _ _) _) hg1) (gb_below hb4)⟩

set_option maxRecDepth 100000 in
set_option maxHeartbeats 1000000 in
theorem long_ok (rb g n cp : Nat) (z : Nat → Int) (w : World) (hR : RdAt w rb (.slice (some ⟨g, 0, none⟩) n cp) 0 0 0) (hO : Own w g n z) (h2 : n ≤ cp) (h3 : n ≤ 1000000) (hgr : g ≠ rb) (hk : 4 ≤ n) :
    Calls Tryz.prog 69 #[.pointer (some ⟨rb, 0, none⟩)] w fun e w' => e = .returned (.int .i64 (((z 0 * 256 + z 1) * 256 + z 2) * 256 + z 3)) ∧ RdAt w' rb (.slice (some ⟨g, 0, none⟩) n cp) 4 0 0 ∧ w.grownBy w' (some rb) := by
  have hlt : rb < w.heap.size := lt_of_block hR
  have W0 : Hid (RdAt (w.alloc (.cells #[.pointer (some ⟨rb, 0, none⟩)] 55)) rb (.slice (some ⟨g, 0, none⟩) n cp) ((0 : Nat) : Int) 0 0) := hR.kept ((Below.refl _ _).alloc (Nat.le_refl _) _)
  have O0 : Hid (Own (w.alloc (.cells #[.pointer (some ⟨rb, 0, none⟩)] 55)) g n z) := hO.below ((Below.refl _ _).alloc (Nat.le_refl _) _)
  obtain ⟨_, c0, c1, c2, c3, f1, f2, f3⟩ := hR.facts
  have N0 : Hid (Calls Tryz.prog 111 #[.pointer (some ⟨rb, 0, none⟩), .int .i64 4] (w.alloc (.cells #[.pointer (some ⟨rb, 0, none⟩)] 55)) fun e w' => e = .returned (.int .i64 (((z 0 * 256 + z 1) * 256 + z 2) * 256 + z 3)) ∧ RdAt w' rb (.slice (some ⟨g, 0, none⟩) n cp) 4 0 0 ∧ (w.alloc (.cells #[.pointer (some ⟨rb, 0, none⟩)] 55)).grownBy w' (some rb)) :=
    num4_ok rb g n cp 0 0 (z 0) (z 1) (z 2) (z 3) _ W0.out h2 h3 (by omega) hgr (O0.out.1 _) (O0.out.1 _) (O0.out.1 _) (O0.out.1 _) (O0.out.2 0 (by omega)) (O0.out.2 1 (by omega)) (O0.out.2 2 (by omega)) (O0.out.2 3 (by omega))
  have hmf := hmf
  clear hR hO
  go_enter_defers Tryz.func69, Tryz.ntmps69
  go_wp2_with (go_at_call 111; refine N0.out.mono ?_; rintro e w1 ⟨rfl, hR1, hg1⟩)
  refine leaves_cons (f := 112) (args := #[.int .i64 0, .pointer (some ⟨w.heap.size, 0, none⟩)]) (by simp) (by simp [go_sem]) ?_
  refine (clo35_idle rb _ 0 _ (box_cell hlt hg1)).mono ?_
  rintro e u' w4 ⟨rfl, rfl, hb4⟩
  simp [Leaves, settle, results, Tryz.results69, go_sem]
  exact ⟨hR1.kept hb4, gb_trans (gb_trans (gb_alloc (gb_refl _ _) _) hg1) (gb_below hb4)⟩
end Go.Proofs.YtkjeneklkdekoaaGreatDoor
namespace Go.Proofs.YtkjeneklkdekoaaGreatDoor
open Go Go.RowKit
set_option linter.unusedSimpArgs false
set_option linter.unusedVariables false

end Go.Proofs.YtkjeneklkdekoaaGreatDoor
namespace Go.Proofs.YtkjeneklkdekoaaGreatDoor
open Go Go.RowKit
set_option linter.unusedSimpArgs false
set_option linter.unusedVariables false

end Go.Proofs.YtkjeneklkdekoaaGreatDoor
namespace Go.Proofs.YtkjeneklkdekoaaGreatDoor
open Go Go.RowKit
set_option linter.unusedSimpArgs false
set_option linter.unusedVariables false

set_option maxRecDepth 100000 in
set_option maxHeartbeats 1000000 in
theorem data_ok (rb g n cp L : Nat) (z : Nat → Int) (w : World) (hR : RdAt w rb (.slice (some ⟨g, 0, none⟩) n cp) 0 0 0) (hO : Own w g n z) (h2 : n ≤ cp) (h3 : n ≤ 800000) (hgr : g ≠ rb) (hL : z 0 * 256 + z 1 = L) (hn : 2 + L ≤ n) :
    Calls Tryz.prog 75 #[.pointer (some ⟨rb, 0, none⟩)] w fun e w' => ∃ g' c', e = .returned (.slice (some ⟨g', 0, none⟩) L c') ∧ Came w' (some ⟨g', 0, none⟩) L c' (fun i => z (2 + i)) ∧ RdAt w' rb (.slice (some ⟨g, 0, none⟩) n cp) ((2 + L : Nat) : Int) 0 0 ∧ w.grownBy w' (some rb) := by
  have hlt : rb < w.heap.size := lt_of_block hR
  have W0 : Hid (RdAt (w.alloc (.cells #[.pointer (some ⟨rb, 0, none⟩)] 55)).drew rb (.slice (some ⟨g, 0, none⟩) n cp) ((0 : Nat) : Int) 0 0) := hR.kept (((Below.refl _ _).alloc (Nat.le_refl _) _).drew)
  have O0 : Hid (Own (w.alloc (.cells #[.pointer (some ⟨rb, 0, none⟩)] 55)).drew g n z) := hO.below (((Below.refl _ _).alloc (Nat.le_refl _) _).drew)
  have hgr' : Hid (g ≠ rb) := hgr
  obtain ⟨_, c0, c1, c2, c3, f1, f2, f3⟩ := hR.facts
  have N0 : Hid (Calls Tryz.prog 111 #[.pointer (some ⟨rb, 0, none⟩), .int .i64 2] (w.alloc (.cells #[.pointer (some ⟨rb, 0, none⟩)] 55)).drew fun e w' => e = .returned (.int .i64 L) ∧ RdAt w' rb (.slice (some ⟨g, 0, none⟩) n cp) ((2 : Nat) : Int) 0 0 ∧ w'.cell? ⟨w.heap.size, 0, none⟩ = some (.pointer (some ⟨rb, 0, none⟩)) ∧ (w.alloc (.cells #[.pointer (some ⟨rb, 0, none⟩)] 55)).grownBy w' (some rb)) := by
    have h := num2_ok rb g n cp 0 0 (z 0) (z 1) _ W0.out h2 (by omega) (by omega) hgr (O0.out.1 _) (O0.out.1 _) (O0.out.2 0 (by omega)) (O0.out.2 1 (by omega))
    rw [hL] at h
    refine h.mono ?_
    rintro e w' ⟨rfl, q1, q2⟩
    have q3 := gb_trans (gb_drew (gb_refl (w.alloc (.cells #[.pointer (some ⟨rb, 0, none⟩)] 55)) (some rb))) q2
    exact ⟨rfl, q1, box_cell hlt q3, q3⟩
  have T0 : Hid (∀ w1, RdAt w1 rb (.slice (some ⟨g, 0, none⟩) n cp) ((2 : Nat) : Int) 0 0 → (w.alloc (.cells #[.pointer (some ⟨rb, 0, none⟩)] 55)).grownBy w1 (some rb) → Calls Tryz.prog 108 #[.pointer (some ⟨rb, 0, none⟩), .int .i64 L] w1 fun e w' => (∃ ad, e = .returned (.slice (some ad) L (cp - 2)) ∧ Came w' (some ad) L (cp - 2) (fun i => z (2 + i))) ∧ RdAt w' rb (.slice (some ⟨g, 0, none⟩) n cp) ((2 + L : Nat) : Int) 0 0 ∧ (w.alloc (.cells #[.pointer (some ⟨rb, 0, none⟩)] 55)).grownBy w' (some rb)) := by
    intro w1 r1 b1
    refine (take_ok rb g n cp 2 L 0 w1 r1 h2 (by omega) hn).mono ?_
    rintro e w' ⟨⟨ad, rfl, had⟩, q1, q2⟩
    have q3 := gb_trans b1 q2
    refine ⟨⟨ad, rfl, by omega, fun i => O0.out.1 _, .inr ⟨ad, rfl, fun i hi => ?_⟩⟩, q1, q3⟩
    obtain rfl := had (by omega)
    rw [plain_add]
    have q4 := (Own.grown (w := w.alloc (.cells #[.pointer (some ⟨rb, 0, none⟩)] 55)) O0.out q3 hgr).2 (2 + i) (by omega)
    exact q4
  have C0 : Hid (∀ w2 ad, Came w2 (some ad) L (cp - 2) (fun i => z (2 + i)) → RdAt w2 rb (.slice (some ⟨g, 0, none⟩) n cp) ((2 + L : Nat) : Int) 0 0 → (w.alloc (.cells #[.pointer (some ⟨rb, 0, none⟩)] 55)).grownBy w2 (some rb) → Calls Tryz.prog 60 #[.slice (some ad) L (cp - 2)] w2 fun e w' => ∃ g' c', e = .returned (.slice (some ⟨g', 0, none⟩) L c') ∧ Came w' (some ⟨g', 0, none⟩) L c' (fun i => z (2 + i)) ∧ RdAt w' rb (.slice (some ⟨g, 0, none⟩) n cp) ((2 + L : Nat) : Int) 0 0 ∧ (w.alloc (.cells #[.pointer (some ⟨rb, 0, none⟩)] 55)).grownBy w' (some rb)) := by
    intro w2 ad cm r2 b2
    refine (clone_some ad L (cp - 2) _ w2 cm (by omega)).mono ?_
    rintro e w' ⟨g', c', rfl, ho, hb⟩
    exact ⟨g', c', rfl, made_came (w := w) ho (fun i => O0.out.1 _), r2.kept hb, gb_trans b2 (gb_below hb)⟩
  have FIN : Hid (∀ w3 g' c', Came w3 (some ⟨g', 0, none⟩) L c' (fun i => z (2 + i)) → RdAt w3 rb (.slice (some ⟨g, 0, none⟩) n cp) ((2 + L : Nat) : Int) 0 0 → (w.alloc (.cells #[.pointer (some ⟨rb, 0, none⟩)] 55)).grownBy w3 (some rb) → ∀ w4, Below w3.heap.size w3 w4 → Came w4 (some ⟨g', 0, none⟩) L c' (fun i => z (2 + i)) ∧ RdAt w4 rb (.slice (some ⟨g, 0, none⟩) n cp) ((2 + L : Nat) : Int) 0 0 ∧ w.grownBy w4 (some rb)) :=
    fun w3 g' c' cm r3 b3 w4 hb => ⟨came_below (B := 0) cm hb, r3.kept hb, gb_trans (gb_trans (gb_alloc (gb_refl _ _) _) b3) (gb_below hb)⟩
  have hmf := hmf
  clear hR hO hL hgr
  go_enter_defers Tryz.func75, Tryz.ntmps75
  go_wp2
  first | go_region_with (first | (go_at_call 111; refine N0.out.mono ?_; rintro e w1 ⟨rfl, hR1, bx1, hg1⟩; have Y1 : Hid (RdAt w1 rb (.slice (some ⟨g, 0, none⟩) n cp) ((2 : Nat) : Int) 0 0 ∧ (w.alloc (.cells #[.pointer (some ⟨rb, 0, none⟩)] 55)).grownBy w1 (some rb)) := ⟨hR1, hg1⟩; clear hR1 hg1) | (go_at_call 108; (refine (T0.out _ Y1.out.1 Y1.out.2).mono ?_; rintro e w2 ⟨⟨ad, rfl, hcm⟩, hR2, hg2⟩; have Y2 : Hid (Came w2 (some ad) L (cp - 2) (fun i => z (2 + i)) ∧ RdAt w2 rb (.slice (some ⟨g, 0, none⟩) n cp) ((2 + L : Nat) : Int) 0 0 ∧ (w.alloc (.cells #[.pointer (some ⟨rb, 0, none⟩)] 55)).grownBy w2 (some rb)) := ⟨hcm, hR2, hg2⟩; clear hR2 hg2 hcm)) | (go_at_call 60; (refine (C0.out _ _ Y2.out.1 Y2.out.2.1 Y2.out.2.2).mono ?_; rintro e w3 ⟨g', c', rfl, hcm3, hR3, hg3⟩; have bx3 := box_cell hlt hg3; have Y3 : Hid (∀ w4, Below w3.heap.size w3 w4 → Came w4 (some ⟨g', 0, none⟩) L c' (fun i => z (2 + i)) ∧ RdAt w4 rb (.slice (some ⟨g, 0, none⟩) n cp) ((2 + L : Nat) : Int) 0 0 ∧ w.grownBy w4 (some rb)) := FIN.out w3 g' c' hcm3 hR3 hg3; clear hcm3 hR3 hg3))) | fail
  all_goals go_wp2
  all_goals refine leaves_cons (f := 120) (args := #[.int .i64 0, .pointer (some ⟨w.heap.size, 0, none⟩)]) (by simp) (by simp [go_sem]) ?_
  all_goals refine (clo40_idle rb _ 0 _ bx3).mono ?_
  all_goals rintro e u' w4 ⟨rfl, rfl, hb4⟩
  all_goals obtain ⟨q1, q2, q3⟩ := Y3.out w4 hb4
  all_goals simp only [Leaves, settle, results, Tryz.results75, go_sem]
  all_goals first | exact ⟨g', c', rfl, q1, q2, q3⟩ | (simp [Leaves, settle, results, Tryz.results75, go_sem]; exact ⟨g', c', ⟨rfl, rfl⟩, q1, q2, q3⟩)
end Go.Proofs.YtkjeneklkdekoaaGreatDoor
namespace Go.Proofs.YtkjeneklkdekoaaGreatDoor
open Go Go.RowKit
set_option linter.unusedSimpArgs false
set_option linter.unusedVariables false
end Go.Proofs.YtkjeneklkdekoaaGreatDoor
namespace Go.Proofs.YtkjeneklkdekoaaGreatDoor
open Go Go.RowKit
set_option linter.unusedSimpArgs false
set_option linter.unusedVariables false

/-- A reader of these bytes, nothing taken yet. -/
def Rd (w : World) (rb g n cp : Nat) (z : Nat → Int) : Prop := RdAt w rb (.slice (some ⟨g, 0, none⟩) n cp) 0 0 0 ∧ Own w g n z ∧ g ≠ rb ∧ n ≤ cp
theorem Rd.below {w w' : World} {rb g n cp : Nat} {z : Nat → Int} (h : Rd w rb g n cp z) (hb : Below w.heap.size w w') : Rd w' rb g n cp z := ⟨h.1.kept hb, h.2.1.below hb, h.2.2⟩
theorem Rd.grown {w w' : World} {rb g n cp r : Nat} {z : Nat → Int} (h : Rd w rb g n cp z) (hg : w.grownBy w' (some r)) (h1 : rb ≠ r) (h2 : g ≠ r) : Rd w' rb g n cp z := ⟨h.1.grown hg h1, h.2.1.grown hg h2, h.2.2⟩
theorem Rd.lt {w : World} {rb g n cp : Nat} {z : Nat → Int} (h : Rd w rb g n cp z) : rb < w.heap.size := lt_of_block h.1

theorem same_d (w : World) (a b : Option Addr) (n k k' : Nat) (z : Nat → Int) (h : Came w a n k z) (h' : Came w b n k' z) : Calls Tryz.prog 8 #[.slice a n k, .slice b n k'] w fun e w' => e = .returned (.bool true) ∧ w' = w := by
  have t := same_any a b n k n k' z z w h h'
  rw [beq_self_eq_true] at t
  exact t
end Go.Proofs.YtkjeneklkdekoaaGreatDoor
