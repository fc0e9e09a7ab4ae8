import Derived.Test.YtkjeneklkdekoaaDoorBone
import Derived.Deep.RegionWith
namespace Go.Proofs.YtkjeneklkdekoaaDoor
open Go Go.RowKit
set_option linter.unusedSimpArgs false
set_option linter.unusedVariables false

set_option maxRecDepth 100000 in
set_option maxHeartbeats 1000000 in
theorem data_ok (rb g n cp L : Nat) (z : Nat → Int) (w : World) (hR : RdAt w rb (.slice (some ⟨g, 0, none⟩) n cp) 0 0 0) (hO : Own w g n z) (h2 : n ≤ cp) (h3 : n ≤ 800000) (hgr : g ≠ rb) (hL : z 0 * 256 + z 1 = L) (hn : 2 + L ≤ n) :
    Calls Tryd.prog 22 #[.pointer (some ⟨rb, 0, none⟩)] w fun e w' => ∃ g' c', e = .returned (.slice (some ⟨g', 0, none⟩) L c') ∧ Came w' (some ⟨g', 0, none⟩) L c' (fun i => z (2 + i)) ∧ RdAt w' rb (.slice (some ⟨g, 0, none⟩) n cp) ((2 + L : Nat) : Int) 0 0 ∧ w.grownBy w' (some rb) := by
  have hlt : rb < w.heap.size := lt_of_block hR
  have W0 : Hid (RdAt (w.alloc (.cells #[.pointer (some ⟨rb, 0, none⟩)] 24)).drew rb (.slice (some ⟨g, 0, none⟩) n cp) ((0 : Nat) : Int) 0 0) := hR.kept (((Below.refl _ _).alloc (Nat.le_refl _) _).drew)
  have O0 : Hid (Own (w.alloc (.cells #[.pointer (some ⟨rb, 0, none⟩)] 24)).drew g n z) := hO.below (((Below.refl _ _).alloc (Nat.le_refl _) _).drew)
  have hgr' : Hid (g ≠ rb) := hgr
  obtain ⟨_, c0, c1, c2, c3, f1, f2, f3⟩ := hR.facts
  have N0 : Hid (Calls Tryd.prog 34 #[.pointer (some ⟨rb, 0, none⟩), .int .i64 2] (w.alloc (.cells #[.pointer (some ⟨rb, 0, none⟩)] 24)).drew fun e w' => e = .returned (.int .i64 L) ∧ RdAt w' rb (.slice (some ⟨g, 0, none⟩) n cp) ((2 : Nat) : Int) 0 0 ∧ w'.cell? ⟨w.heap.size, 0, none⟩ = some (.pointer (some ⟨rb, 0, none⟩)) ∧ (w.alloc (.cells #[.pointer (some ⟨rb, 0, none⟩)] 24)).grownBy w' (some rb)) := by
    have h := num2_ok rb g n cp 0 0 (z 0) (z 1) _ W0.out h2 (by omega) (by omega) hgr (O0.out.1 _) (O0.out.1 _) (O0.out.2 0 (by omega)) (O0.out.2 1 (by omega))
    rw [hL] at h
    refine h.mono ?_
    rintro e w' ⟨rfl, q1, q2⟩
    have q3 := gb_trans (gb_drew (gb_refl (w.alloc (.cells #[.pointer (some ⟨rb, 0, none⟩)] 24)) (some rb))) q2
    exact ⟨rfl, q1, box_cell hlt q3, q3⟩
  have T0 : Hid (∀ w1, RdAt w1 rb (.slice (some ⟨g, 0, none⟩) n cp) ((2 : Nat) : Int) 0 0 → (w.alloc (.cells #[.pointer (some ⟨rb, 0, none⟩)] 24)).grownBy w1 (some rb) → Calls Tryd.prog 39 #[.pointer (some ⟨rb, 0, none⟩), .int .i64 L] w1 fun e w' => (∃ ad, e = .returned (.slice (some ad) L (cp - 2)) ∧ Came w' (some ad) L (cp - 2) (fun i => z (2 + i))) ∧ RdAt w' rb (.slice (some ⟨g, 0, none⟩) n cp) ((2 + L : Nat) : Int) 0 0 ∧ (w.alloc (.cells #[.pointer (some ⟨rb, 0, none⟩)] 24)).grownBy w' (some rb)) := by
    intro w1 r1 b1
    refine (take_ok rb g n cp 2 L 0 w1 r1 h2 (by omega) hn).mono ?_
    rintro e w' ⟨⟨ad, rfl, had⟩, q1, q2⟩
    have q3 := gb_trans b1 q2
    refine ⟨⟨ad, rfl, by omega, fun i => O0.out.1 _, .inr ⟨ad, rfl, fun i hi => ?_⟩⟩, q1, q3⟩
    obtain rfl := had (by omega)
    rw [plain_add]
    have q4 := (Own.grown (w := w.alloc (.cells #[.pointer (some ⟨rb, 0, none⟩)] 24)) O0.out q3 hgr).2 (2 + i) (by omega)
    exact q4
  have C0 : Hid (∀ w2 ad, Came w2 (some ad) L (cp - 2) (fun i => z (2 + i)) → RdAt w2 rb (.slice (some ⟨g, 0, none⟩) n cp) ((2 + L : Nat) : Int) 0 0 → (w.alloc (.cells #[.pointer (some ⟨rb, 0, none⟩)] 24)).grownBy w2 (some rb) → Calls Tryd.prog 30 #[.slice (some ad) L (cp - 2)] w2 fun e w' => ∃ g' c', e = .returned (.slice (some ⟨g', 0, none⟩) L c') ∧ Came w' (some ⟨g', 0, none⟩) L c' (fun i => z (2 + i)) ∧ RdAt w' rb (.slice (some ⟨g, 0, none⟩) n cp) ((2 + L : Nat) : Int) 0 0 ∧ (w.alloc (.cells #[.pointer (some ⟨rb, 0, none⟩)] 24)).grownBy w' (some rb)) := by
    intro w2 ad cm r2 b2
    refine (clone_some ad L (cp - 2) _ w2 cm (by omega)).mono ?_
    rintro e w' ⟨g', c', rfl, ho, hb⟩
    exact ⟨g', c', rfl, made_came (w := w) ho (fun i => O0.out.1 _), r2.kept hb, gb_trans b2 (gb_below hb)⟩
  have FIN : Hid (∀ w3 g' c', Came w3 (some ⟨g', 0, none⟩) L c' (fun i => z (2 + i)) → RdAt w3 rb (.slice (some ⟨g, 0, none⟩) n cp) ((2 + L : Nat) : Int) 0 0 → (w.alloc (.cells #[.pointer (some ⟨rb, 0, none⟩)] 24)).grownBy w3 (some rb) → ∀ w4, Below w3.heap.size w3 w4 → Came w4 (some ⟨g', 0, none⟩) L c' (fun i => z (2 + i)) ∧ RdAt w4 rb (.slice (some ⟨g, 0, none⟩) n cp) ((2 + L : Nat) : Int) 0 0 ∧ w.grownBy w4 (some rb)) :=
    fun w3 g' c' cm r3 b3 w4 hb => ⟨came_below (B := 0) cm hb, r3.kept hb, gb_trans (gb_trans (gb_alloc (gb_refl _ _) _) b3) (gb_below hb)⟩
  have hmf := hmf
  clear hR hO hL hgr
  go_enter_defers Tryd.func22, Tryd.ntmps22
  go_wp2
  first | go_region_with (first | (go_at_call 34; refine N0.out.mono ?_; rintro e w1 ⟨rfl, hR1, bx1, hg1⟩; have Y1 : Hid (RdAt w1 rb (.slice (some ⟨g, 0, none⟩) n cp) ((2 : Nat) : Int) 0 0 ∧ (w.alloc (.cells #[.pointer (some ⟨rb, 0, none⟩)] 24)).grownBy w1 (some rb)) := ⟨hR1, hg1⟩; clear hR1 hg1) | (go_at_call 39; (refine (T0.out _ Y1.out.1 Y1.out.2).mono ?_; rintro e w2 ⟨⟨ad, rfl, hcm⟩, hR2, hg2⟩; have Y2 : Hid (Came w2 (some ad) L (cp - 2) (fun i => z (2 + i)) ∧ RdAt w2 rb (.slice (some ⟨g, 0, none⟩) n cp) ((2 + L : Nat) : Int) 0 0 ∧ (w.alloc (.cells #[.pointer (some ⟨rb, 0, none⟩)] 24)).grownBy w2 (some rb)) := ⟨hcm, hR2, hg2⟩; clear hR2 hg2 hcm)) | (go_at_call 30; (refine (C0.out _ _ Y2.out.1 Y2.out.2.1 Y2.out.2.2).mono ?_; rintro e w3 ⟨g', c', rfl, hcm3, hR3, hg3⟩; have bx3 := box_cell hlt hg3; have Y3 : Hid (∀ w4, Below w3.heap.size w3 w4 → Came w4 (some ⟨g', 0, none⟩) L c' (fun i => z (2 + i)) ∧ RdAt w4 rb (.slice (some ⟨g, 0, none⟩) n cp) ((2 + L : Nat) : Int) 0 0 ∧ w.grownBy w4 (some rb)) := FIN.out w3 g' c' hcm3 hR3 hg3; clear hcm3 hR3 hg3))) | fail
  all_goals go_wp2
  all_goals refine leaves_cons (f := 40) (args := #[.int .i64 0, .pointer (some ⟨w.heap.size, 0, none⟩)]) (by simp) (by simp [go_sem]) ?_
  all_goals refine (clo40_idle rb _ 0 _ bx3).mono ?_
  all_goals rintro e u' w4 ⟨rfl, rfl, hb4⟩
  all_goals obtain ⟨q1, q2, q3⟩ := Y3.out w4 hb4
  all_goals simp only [Leaves, settle, results, Tryd.results22, go_sem]
  all_goals first | exact ⟨g', c', rfl, q1, q2, q3⟩ | (simp [Leaves, settle, results, Tryd.results22, go_sem]; exact ⟨g', c', ⟨rfl, rfl⟩, q1, q2, q3⟩)
end Go.Proofs.YtkjeneklkdekoaaDoor
