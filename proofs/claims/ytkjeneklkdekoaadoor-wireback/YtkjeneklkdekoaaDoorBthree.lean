import Derived.Test.YtkjeneklkdekoaaDoorBone
import Derived.Deep.RegionWith
namespace Go.Proofs.YtkjeneklkdekoaaDoor
open Go Go.RowKit
set_option linter.unusedSimpArgs false
set_option linter.unusedVariables false

set_option maxRecDepth 100000 in
set_option maxHeartbeats 1000000 in
theorem length_ok (rb g n cp : Nat) (z : Nat → Int) (v : Int) (k : Nat) (w : World) (hR : RdAt w rb (.slice (some ⟨g, 0, none⟩) n cp) 0 0 0) (hO : Own w g n z) (h2 : n ≤ cp) (h3 : n ≤ 1000000) (hgr : g ≠ rb) (hl : lenZ n z = (v, (k : Int), 0)) (hk : k ≤ n) (hn : 1 ≤ n) :
    Calls Tryd.prog 16 #[.pointer (some ⟨rb, 0, none⟩)] w fun e w' => e = .returned (.int .i64 v) ∧ RdAt w' rb (.slice (some ⟨g, 0, none⟩) n cp) k 0 0 ∧ w.grownBy w' (some rb) := by
  have hlt : rb < w.heap.size := lt_of_block hR
  have W0 : Hid (RdAt (w.alloc (.cells #[.pointer (some ⟨rb, 0, none⟩)] 24)) rb (.slice (some ⟨g, 0, none⟩) n cp) ((0 : Nat) : Int) 0 0) := hR.kept ((Below.refl _ _).alloc (Nat.le_refl _) _)
  have O0 : Hid (Own (w.alloc (.cells #[.pointer (some ⟨rb, 0, none⟩)] 24)) g n z) := hO.below ((Below.refl _ _).alloc (Nat.le_refl _) _)
  obtain ⟨_, c0, c1, c2, c3, f1, f2, f3⟩ := hR.facts
  have L0 : Hid (Calls Tryd.prog 37 #[.pointer (some ⟨rb, 0, none⟩)] (w.alloc (.cells #[.pointer (some ⟨rb, 0, none⟩)] 24)) fun e w' => e = .returned (.slice (some ⟨g, 0, none⟩) n cp) ∧ w' = (w.alloc (.cells #[.pointer (some ⟨rb, 0, none⟩)] 24)).drew) := by
    refine (left_ok rb g n cp 0 0 _ W0.out (by omega) h2 h3).mono ?_
    rintro e w' ⟨⟨ad, rfl, had⟩, rfl⟩
    obtain rfl := had (by omega)
    exact ⟨rfl, rfl⟩
  have N0 : Hid (Calls Tryd.prog 25 #[.slice (some ⟨g, 0, none⟩) n cp] (w.alloc (.cells #[.pointer (some ⟨rb, 0, none⟩)] 24)).drew fun e w' => e = .returned (.tuple #[.int .i64 v, .int .i64 k, .int .i64 0]) ∧ w' = (w.alloc (.cells #[.pointer (some ⟨rb, 0, none⟩)] 24)).drew) := by
    have t := wlen_any (some ⟨g, 0, none⟩) n cp z (w.alloc (.cells #[.pointer (some ⟨rb, 0, none⟩)] 24)).drew ⟨h2, O0.out.1, .inr ⟨g, 0, rfl, fun i hi => by rw [Nat.zero_add]; exact O0.out.2 i hi⟩⟩ h3
    rw [hl] at t
    exact t
  have T0 : Hid (Calls Tryd.prog 39 #[.pointer (some ⟨rb, 0, none⟩), .int .i64 k] (w.alloc (.cells #[.pointer (some ⟨rb, 0, none⟩)] 24)).drew fun e w' => (∃ ad, e = .returned (.slice (some ad) k cp)) ∧ RdAt w' rb (.slice (some ⟨g, 0, none⟩) n cp) k 0 0 ∧ (w.alloc (.cells #[.pointer (some ⟨rb, 0, none⟩)] 24)).grownBy w' (some rb)) := by
    refine (take_ok rb g n cp 0 k 0 (w.alloc (.cells #[.pointer (some ⟨rb, 0, none⟩)] 24)).drew W0.out h2 h3 (by omega)).mono ?_
    rintro e w' ⟨⟨ad, rfl, _⟩, h, h'⟩
    rw [Nat.zero_add] at h
    exact ⟨⟨ad, rfl⟩, h, gb_trans (gb_drew (gb_refl _ _)) h'⟩
  have hmf := hmf
  clear hR hO hl
  go_enter_defers Tryd.func16, Tryd.ntmps16
  go_wp2_with (first | (go_at_call 37; refine L0.out.mono ?_; rintro e w1 ⟨rfl, rfl⟩) | (go_at_call 25; refine N0.out.mono ?_; rintro e w2 ⟨rfl, rfl⟩) | (go_at_call 39; refine T0.out.mono ?_; rintro e w3 ⟨⟨ad, rfl⟩, hR1, hg1⟩))
  refine leaves_cons (f := 36) (args := #[.int .i64 0, .pointer (some ⟨w.heap.size, 0, none⟩)]) (by simp) (by simp [go_sem]) ?_
  refine (clo36_idle rb _ 0 _ (box_cell hlt hg1)).mono ?_
  rintro e u' w4 ⟨rfl, rfl, hb4⟩
  simp [Leaves, settle, results, Tryd.results16, go_sem]
  exact ⟨hR1.kept hb4, gb_trans (gb_trans (gb_alloc (gb_refl _ _) _) hg1) (gb_below hb4)⟩
end Go.Proofs.YtkjeneklkdekoaaDoor
