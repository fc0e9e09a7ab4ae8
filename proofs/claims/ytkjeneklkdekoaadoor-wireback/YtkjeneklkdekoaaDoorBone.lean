import Derived.Test.YtkjeneklkdekoaaDoorVone
namespace Go.Proofs.YtkjeneklkdekoaaDoor
open Go Go.RowKit
set_option linter.unusedSimpArgs false
set_option linter.unusedVariables false

theorem clo32_idle (rb : Nat) (pc : Addr) (f : Int) (w : World) (hp : w.cell? pc = some (.pointer (some ⟨rb, 0, none⟩))) :
    CallsD Tryd.prog 32 #[.int .i64 f, .pointer (some pc)] .returning w fun e u' w' => e = .returned (.tuple #[]) ∧ u' = .returning ∧ Below w.heap.size w w' :=
  callsD_of_wpS Tryd.func32 rfl fun c₀ cs hu => clo_idle "reader.go:29" Tryd.f32 (fun tmps w => results_none rfl _ _ _) rb pc f w hp c₀ cs hu

theorem clo35_idle (rb : Nat) (pc : Addr) (f : Int) (w : World) (hp : w.cell? pc = some (.pointer (some ⟨rb, 0, none⟩))) :
    CallsD Tryd.prog 35 #[.int .i64 f, .pointer (some pc)] .returning w fun e u' w' => e = .returned (.tuple #[]) ∧ u' = .returning ∧ Below w.heap.size w w' :=
  callsD_of_wpS Tryd.func35 rfl fun c₀ cs hu => clo_idle "reader.go:35" Tryd.f35 (fun tmps w => results_none rfl _ _ _) rb pc f w hp c₀ cs hu

theorem clo36_idle (rb : Nat) (pc : Addr) (f : Int) (w : World) (hp : w.cell? pc = some (.pointer (some ⟨rb, 0, none⟩))) :
    CallsD Tryd.prog 36 #[.int .i64 f, .pointer (some pc)] .returning w fun e u' w' => e = .returned (.tuple #[]) ∧ u' = .returning ∧ Below w.heap.size w w' :=
  callsD_of_wpS Tryd.func36 rfl fun c₀ cs hu => clo_idle "reader.go:41" Tryd.f36 (fun tmps w => results_none rfl _ _ _) rb pc f w hp c₀ cs hu

theorem clo40_idle (rb : Nat) (pc : Addr) (f : Int) (w : World) (hp : w.cell? pc = some (.pointer (some ⟨rb, 0, none⟩))) :
    CallsD Tryd.prog 40 #[.int .i64 f, .pointer (some pc)] .returning w fun e u' w' => e = .returned (.tuple #[]) ∧ u' = .returning ∧ Below w.heap.size w w' :=
  callsD_of_wpS Tryd.func40 rfl fun c₀ cs hu => clo_idle "reader.go:67" Tryd.f40 (fun tmps w => results_none rfl _ _ _) rb pc f w hp c₀ cs hu

set_option maxRecDepth 100000 in
set_option maxHeartbeats 1000000 in
theorem num4_ok (rb g n cp at0 : Nat) (p0 x0 x1 x2 x3 : Int) (w : World) (hR : RdAt w rb (.slice (some ⟨g, 0, none⟩) n cp) at0 p0 0) (h2 : n ≤ cp) (h3 : n ≤ 1000000) (hk : at0 + 4 ≤ n) (hgr : g ≠ rb)
    (z0 : 0 ≤ x0 ∧ x0 ≤ 255) (z1 : 0 ≤ x1 ∧ x1 ≤ 255) (z2 : 0 ≤ x2 ∧ x2 ≤ 255) (z3 : 0 ≤ x3 ∧ x3 ≤ 255) (c0 : w.cell? ⟨g, at0, none⟩ = some (.int .u8 x0)) (c1 : w.cell? ⟨g, at0 + 1, none⟩ = some (.int .u8 x1)) (c2 : w.cell? ⟨g, at0 + 2, none⟩ = some (.int .u8 x2)) (c3 : w.cell? ⟨g, at0 + 3, none⟩ = some (.int .u8 x3)) :
    Calls Tryd.prog 34 #[.pointer (some ⟨rb, 0, none⟩), .int .i64 4] w fun e w' => e = .returned (.int .i64 (((x0 * 256 + x1) * 256 + x2) * 256 + x3)) ∧ RdAt w' rb (.slice (some ⟨g, 0, none⟩) n cp) ((at0 + 4 : Nat) : Int) p0 0 ∧ w.grownBy w' (some rb) := by
  have HT : Hid (Calls Tryd.prog 39 #[.pointer (some ⟨rb, 0, none⟩), .int .i64 4] w fun e w' => (∃ ad, e = .returned (.slice (some ad) 4 (cp - at0)) ∧ (at0 < cp → ad = ⟨g, at0, none⟩)) ∧ RdAt w' rb (.slice (some ⟨g, 0, none⟩) n cp) ((at0 + 4 : Nat) : Int) p0 0 ∧ w.grownBy w' (some rb)) := take_ok rb g n cp at0 4 p0 w hR h2 h3 hk
  have HC : Hid (∀ w', w.grownBy w' (some rb) → w'.cell? ⟨g, at0, none⟩ = some (.int .u8 x0) ∧ w'.cell? ⟨g, at0 + 1, none⟩ = some (.int .u8 x1) ∧ w'.cell? ⟨g, at0 + 2, none⟩ = some (.int .u8 x2) ∧ w'.cell? ⟨g, at0 + 3, none⟩ = some (.int .u8 x3)) := fun w' h => ⟨h.cell c0 (by simpa using hgr), h.cell c1 (by simpa using hgr), h.cell c2 (by simpa using hgr), h.cell c3 (by simpa using hgr)⟩
  clear hR c0 c1 c2 c3
  have hat : at0 < cp := by omega
  have o0 : bits .or .i64 0 x0 = x0 := by have h := or_up 0 (by decide) 0 x0 (by omega) (by omega) (by omega) (by omega) (by omega) (by omega); omega
  have o1 : bits .or .i64 (x0 * 256) x1 = x0 * 256 + x1 := bits_join .i64 62 (by decide) wraps_i64 8 _ _ (by omega) (by omega) (by omega) (by omega) (by omega) (by omega)
  have o2 : bits .or .i64 ((x0 * 256 + x1) * 256) x2 = (x0 * 256 + x1) * 256 + x2 := bits_join .i64 62 (by decide) wraps_i64 8 _ _ (by omega) (by omega) (by omega) (by omega) (by omega) (by omega)
  have o3 : bits .or .i64 (((x0 * 256 + x1) * 256 + x2) * 256) x3 = ((x0 * 256 + x1) * 256 + x2) * 256 + x3 := bits_join .i64 62 (by decide) wraps_i64 8 _ _ (by omega) (by omega) (by omega) (by omega) (by omega) (by omega)
  go_enter Tryd.func34, Tryd.ntmps34
  go_wp2_with (go_at_call 39; refine HT.out.mono ?_; rintro e w1 ⟨⟨ad, rfl, had⟩, hR1, hg1⟩; obtain rfl := had hat; clear had; obtain ⟨d0, d1, d2, d3⟩ := HC.out _ hg1; have HR1 : Hid (RdAt w1 rb (.slice (some ⟨g, 0, none⟩) n cp) ((at0 + 4 : Nat) : Int) p0 0 ∧ w.grownBy w1 (some rb)) := ⟨hR1, hg1⟩; clear hR1 hg1)
  go_loop [5, 7, 12] (fun v _ i => (i = .int .i64 0 ∧ v = .int .i64 0) ∨ (i = .int .i64 1 ∧ v = .int .i64 x0) ∨ (i = .int .i64 2 ∧ v = .int .i64 (x0 * 256 + x1)) ∨ (i = .int .i64 3 ∧ v = .int .i64 ((x0 * 256 + x1) * 256 + x2)) ∨ (i = .int .i64 4 ∧ v = .int .i64 (((x0 * 256 + x1) * 256 + x2) * 256 + x3))) (fun _ _ i => 4 - (intOf i).toNat)
  case atStart => exact .inl ⟨rfl, rfl⟩
  case round =>
    rcases hrel with ⟨rfl, rfl⟩ | ⟨rfl, rfl⟩ | ⟨rfl, rfl⟩ | ⟨rfl, rfl⟩ | ⟨rfl, rfl⟩
    · go_wp2
      go_round
      case rel => exact .inr (.inl ⟨rfl, rfl⟩)
      case measure => simp [intOf]
    · go_wp2
      go_round
      case rel => exact .inr (.inr (.inl ⟨rfl, rfl⟩))
      case measure => simp [intOf]
    · go_wp2
      go_round
      case rel => exact .inr (.inr (.inr (.inl ⟨rfl, rfl⟩)))
      case measure => simp [intOf]
    · go_wp2
      go_round
      case rel => exact .inr (.inr (.inr (.inr ⟨rfl, rfl⟩)))
      case measure => simp [intOf]
    · go_wp2
      go_ret
      exact ⟨rfl, HR1.out.1, HR1.out.2⟩

set_option maxRecDepth 100000 in
set_option maxHeartbeats 1000000 in
theorem number_ok (rb g n cp : Nat) (z : Nat → Int) (w : World) (hR : RdAt w rb (.slice (some ⟨g, 0, none⟩) n cp) 0 0 0) (hO : Own w g n z) (h2 : n ≤ cp) (h3 : n ≤ 1000000) (hgr : g ≠ rb) (hk : 2 ≤ n) :
    Calls Tryd.prog 12 #[.pointer (some ⟨rb, 0, none⟩)] w fun e w' => e = .returned (.int .i64 (z 0 * 256 + z 1)) ∧ RdAt w' rb (.slice (some ⟨g, 0, none⟩) n cp) 2 0 0 ∧ w.grownBy w' (some rb) := by
  have hlt : rb < w.heap.size := lt_of_block hR
  have W0 : Hid (RdAt (w.alloc (.cells #[.pointer (some ⟨rb, 0, none⟩)] 24)) rb (.slice (some ⟨g, 0, none⟩) n cp) ((0 : Nat) : Int) 0 0) := hR.kept ((Below.refl _ _).alloc (Nat.le_refl _) _)
  have O0 : Hid (Own (w.alloc (.cells #[.pointer (some ⟨rb, 0, none⟩)] 24)) g n z) := hO.below ((Below.refl _ _).alloc (Nat.le_refl _) _)
  obtain ⟨_, c0, c1, c2, c3, f1, f2, f3⟩ := hR.facts
  have N0 : Hid (Calls Tryd.prog 34 #[.pointer (some ⟨rb, 0, none⟩), .int .i64 2] (w.alloc (.cells #[.pointer (some ⟨rb, 0, none⟩)] 24)) fun e w' => e = .returned (.int .i64 (z 0 * 256 + z 1)) ∧ RdAt w' rb (.slice (some ⟨g, 0, none⟩) n cp) 2 0 0 ∧ (w.alloc (.cells #[.pointer (some ⟨rb, 0, none⟩)] 24)).grownBy w' (some rb)) :=
    num2_ok rb g n cp 0 0 (z 0) (z 1) _ W0.out h2 h3 (by omega) hgr (O0.out.1 _) (O0.out.1 _) (O0.out.2 0 (by omega)) (O0.out.2 1 (by omega))
  have hmf := hmf
  clear hR hO
  go_enter_defers Tryd.func12, Tryd.ntmps12
  go_wp2_with (go_at_call 34; refine N0.out.mono ?_; rintro e w1 ⟨rfl, hR1, hg1⟩)
  refine leaves_cons (f := 32) (args := #[.int .i64 0, .pointer (some ⟨w.heap.size, 0, none⟩)]) (by simp) (by simp [go_sem]) ?_
  refine (clo32_idle rb _ 0 _ (box_cell hlt hg1)).mono ?_
  rintro e u' w4 ⟨rfl, rfl, hb4⟩
  simp [Leaves, settle, results, Tryd.results12, go_sem]
  exact ⟨hR1.kept hb4, gb_trans (gb_trans (gb_alloc (gb_refl _ _) _) hg1) (gb_below hb4)⟩

set_option maxRecDepth 100000 in
set_option maxHeartbeats 1000000 in
theorem long_ok (rb g n cp : Nat) (z : Nat → Int) (w : World) (hR : RdAt w rb (.slice (some ⟨g, 0, none⟩) n cp) 0 0 0) (hO : Own w g n z) (h2 : n ≤ cp) (h3 : n ≤ 1000000) (hgr : g ≠ rb) (hk : 4 ≤ n) :
    Calls Tryd.prog 15 #[.pointer (some ⟨rb, 0, none⟩)] w fun e w' => e = .returned (.int .i64 (((z 0 * 256 + z 1) * 256 + z 2) * 256 + z 3)) ∧ RdAt w' rb (.slice (some ⟨g, 0, none⟩) n cp) 4 0 0 ∧ w.grownBy w' (some rb) := by
  have hlt : rb < w.heap.size := lt_of_block hR
  have W0 : Hid (RdAt (w.alloc (.cells #[.pointer (some ⟨rb, 0, none⟩)] 24)) rb (.slice (some ⟨g, 0, none⟩) n cp) ((0 : Nat) : Int) 0 0) := hR.kept ((Below.refl _ _).alloc (Nat.le_refl _) _)
  have O0 : Hid (Own (w.alloc (.cells #[.pointer (some ⟨rb, 0, none⟩)] 24)) g n z) := hO.below ((Below.refl _ _).alloc (Nat.le_refl _) _)
  obtain ⟨_, c0, c1, c2, c3, f1, f2, f3⟩ := hR.facts
  have N0 : Hid (Calls Tryd.prog 34 #[.pointer (some ⟨rb, 0, none⟩), .int .i64 4] (w.alloc (.cells #[.pointer (some ⟨rb, 0, none⟩)] 24)) fun e w' => e = .returned (.int .i64 (((z 0 * 256 + z 1) * 256 + z 2) * 256 + z 3)) ∧ RdAt w' rb (.slice (some ⟨g, 0, none⟩) n cp) 4 0 0 ∧ (w.alloc (.cells #[.pointer (some ⟨rb, 0, none⟩)] 24)).grownBy w' (some rb)) :=
    num4_ok rb g n cp 0 0 (z 0) (z 1) (z 2) (z 3) _ W0.out h2 h3 (by omega) hgr (O0.out.1 _) (O0.out.1 _) (O0.out.1 _) (O0.out.1 _) (O0.out.2 0 (by omega)) (O0.out.2 1 (by omega)) (O0.out.2 2 (by omega)) (O0.out.2 3 (by omega))
  have hmf := hmf
  clear hR hO
  go_enter_defers Tryd.func15, Tryd.ntmps15
  go_wp2_with (go_at_call 34; refine N0.out.mono ?_; rintro e w1 ⟨rfl, hR1, hg1⟩)
  refine leaves_cons (f := 35) (args := #[.int .i64 0, .pointer (some ⟨w.heap.size, 0, none⟩)]) (by simp) (by simp [go_sem]) ?_
  refine (clo35_idle rb _ 0 _ (box_cell hlt hg1)).mono ?_
  rintro e u' w4 ⟨rfl, rfl, hb4⟩
  simp [Leaves, settle, results, Tryd.results15, go_sem]
  exact ⟨hR1.kept hb4, gb_trans (gb_trans (gb_alloc (gb_refl _ _) _) hg1) (gb_below hb4)⟩
end Go.Proofs.YtkjeneklkdekoaaDoor
