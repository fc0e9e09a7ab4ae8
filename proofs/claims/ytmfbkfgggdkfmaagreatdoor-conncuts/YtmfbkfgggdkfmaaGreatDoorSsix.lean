import Derived.Test.YtmfbkfgggdkfmaaGreatDoorPt
import Derived.Test.YtmfbkfgggdkfmaaGreatDoorChk
import Derived.Test.YtmfbkfgggdkfmaaGreatDoorCv
namespace Go.Proofs.YtmfbkfgggdkfmaaGreatDoor
open Go Go.RowKit
set_option linter.unusedSimpArgs false
set_option linter.unusedVariables false

theorem hmf (fn : Fn) (first cap : Array Value) (w : World) : (Instr.makeFunc fn first cap).run Tryz.prog w = .ok (.func fn first cap) w := rfl

/-- The reader's own bytes. -/
def Own (w : World) (g n : Nat) (z : Nat → Int) : Prop := (∀ i, 0 ≤ z i ∧ z i ≤ 255) ∧ ∀ i, i < n → w.cell? ⟨g, i, none⟩ = some (.int .u8 (z i))
theorem Own.grown {w w' : World} {g n rb : Nat} {z : Nat → Int} (h : Own w g n z) (hg : w.grownBy w' (some rb)) (hne : g ≠ rb) : Own w' g n z := ⟨h.1, fun i hi => hg.cell (h.2 i hi) (by simpa using hne)⟩
theorem Own.below {w w' : World} {g n : Nat} {z : Nat → Int} (h : Own w g n z) (hb : Below w.heap.size w w') : Own w' g n z := ⟨h.1, fun i hi => cell_later hb (h.2 i hi)⟩
theorem RdAt.grown {w w' : World} {rb rb' : Nat} {bv : Value} {at0 p0 q0 : Int} (h : RdAt w rb bv at0 p0 q0) (hg : w.grownBy w' (some rb')) (hne : rb ≠ rb') : RdAt w' rb bv at0 p0 q0 := (hg.block rb (lt_of_block h) (by simpa using hne)).trans h
theorem gb_below {w w' : World} {r : Option Nat} (h : Below w.heap.size w w') : w.grownBy w' r := ⟨h.os, h.tape, h.output, h.size, fun k hk _ => h.block k hk⟩

theorem box_cell {w w1 : World} {rb : Nat} {v : Value} {t : TypeId} (hlt : rb < w.heap.size) (h : (w.alloc (.cells #[v] t)).grownBy w1 (some rb)) : w1.cell? ⟨w.heap.size, 0, none⟩ = some v :=
  h.cell (a := ⟨w.heap.size, 0, none⟩) (by rw [World.cell?_alloc_at _ _ _ _ rfl]; rfl) (by simp; omega)

set_option maxRecDepth 100000 in
set_option maxHeartbeats 1000000 in
theorem text_ok (rb g n cp at0 L : Nat) (p0 : Int) (z : Nat → Int) (w : World) (hR : RdAt w rb (.slice (some ⟨g, 0, none⟩) n cp) at0 p0 0) (hO : Own w g n z) (h2 : n ≤ cp) (h3 : n ≤ 1000000) (hgr : g ≠ rb)
    (hL : z at0 * 256 + z (at0 + 1) = L) (hn : at0 + 2 + L ≤ n) (hc : (chk (strZ (fun i => z (at0 + 2 + i)) L)).2 = 0) :
    Calls Tryz.prog 79 #[.pointer (some ⟨rb, 0, none⟩)] w fun e w' => e = .returned (.string (strZ (fun i => z (at0 + 2 + i)) L)) ∧ RdAt w' rb (.slice (some ⟨g, 0, none⟩) n cp) ((at0 + 2 + L : Nat) : Int) p0 0 ∧ w.grownBy w' (some rb) := by
  have hlt : rb < w.heap.size := lt_of_block hR
  have W0 : Hid (RdAt (w.alloc (.cells #[.pointer (some ⟨rb, 0, none⟩)] 97)) rb (.slice (some ⟨g, 0, none⟩) n cp) at0 p0 0) := hR.kept ((Below.refl _ _).alloc (Nat.le_refl _) _)
  have O0 : Hid (Own (w.alloc (.cells #[.pointer (some ⟨rb, 0, none⟩)] 97)) g n z) := hO.below ((Below.refl _ _).alloc (Nat.le_refl _) _)
  obtain ⟨_, c0, c1, c2, c3, f1, f2, f3⟩ := hR.facts
  have N0 : Hid (Calls Tryz.prog 85 #[.pointer (some ⟨rb, 0, none⟩), .int .i64 2] (w.alloc (.cells #[.pointer (some ⟨rb, 0, none⟩)] 97)) fun e w' => e = .returned (.int .i64 L) ∧ RdAt w' rb (.slice (some ⟨g, 0, none⟩) n cp) ((at0 + 2 : Nat) : Int) p0 0 ∧ (w.alloc (.cells #[.pointer (some ⟨rb, 0, none⟩)] 97)).grownBy w' (some rb)) := by
    have h := num2_ok rb g n cp at0 p0 (z at0) (z (at0 + 1)) _ W0.out h2 h3 (by omega) hgr (hO.1 _) (hO.1 _) (O0.out.2 _ (by omega)) (O0.out.2 _ (by omega))
    rw [hL] at h
    exact h
  have hmf := hmf
  clear hR hO hL
  go_enter_defers Tryz.func79, Tryz.ntmps79
  go_wp2_with (go_at_call 85; refine N0.out.mono ?_; rintro e w1 ⟨rfl, hR1, hg1⟩; have bx1 := box_cell hlt hg1; have at1 := hR1.facts.2.2.1; have X1 : Hid (RdAt w1 rb (.slice (some ⟨g, 0, none⟩) n cp) ((at0 + 2 : Nat) : Int) p0 0 ∧ (w.alloc (.cells #[.pointer (some ⟨rb, 0, none⟩)] 97)).grownBy w1 (some rb)) := ⟨hR1, hg1⟩; clear hR1 hg1)
  go_must (go_at_call 57)
  have T1 := take_ok rb g n cp (at0 + 2) L p0 w1 X1.out.1 h2 h3 hn
  refine T1.mono ?_
  clear T1
  rintro e w2 ⟨⟨ad, rfl, had⟩, hR2, hg2⟩
  have hg02 := gb_trans X1.out.2 hg2
  have bx2 := box_cell hlt hg02
  have cv : (convert 22 9 (.slice (some ad) L (cp - (at0 + 2)))).run Tryz.prog w2 = .ok (.string (strZ (fun i => z (at0 + 2 + i)) L)) w2 := by
    refine conv_any (some ad) L (cp - (at0 + 2)) _ w2 ⟨by omega, fun i => O0.out.1 _, .inr ⟨ad, rfl, fun i hi => ?_⟩⟩
    obtain rfl := had (by omega)
    rw [plain_add]
    exact (O0.out.grown hg02 hgr).2 _ (by omega)
  clear had
  have X2 : Hid (RdAt w2 rb (.slice (some ⟨g, 0, none⟩) n cp) ((at0 + 2 + L : Nat) : Int) p0 0 ∧ (w.alloc (.cells #[.pointer (some ⟨rb, 0, none⟩)] 97)).grownBy w2 (some rb)) := ⟨hR2, hg02⟩
  clear hR2 hg2 hg02 bx1 at1
  obtain ⟨s, hs⟩ : ∃ s, strZ (fun i => z (at0 + 2 + i)) L = s := ⟨_, rfl⟩
  rw [hs] at hc cv
  have HS : Hid (strZ (fun i => z (at0 + 2 + i)) L = s) := hs
  clear hs
  obtain ⟨c, q, hcq⟩ : ∃ c q, chk s = (c, q) := ⟨_, _, rfl⟩
  have C0 : Hid (Calls Tryz.prog 89 #[.string s] w2 fun e w' => e = .returned (.tuple #[.int .i64 c, .int .i64 0]) ∧ Below w2.heap.size w2 w') := by
    refine (chk_any s w2).mono ?_
    rw [hcq] at hc ⊢
    have hq : q = 0 := hc
    subst hq
    rintro e w' ⟨rfl, hb, _⟩
    exact ⟨rfl, hb⟩
  clear hc hcq
  go_wp2_with (go_at_call 89; refine C0.out.mono ?_; rintro e w3 ⟨rfl, hb3⟩)
  have bx3 := cell_later hb3 bx2
  have X3 : Hid (RdAt w3 rb (.slice (some ⟨g, 0, none⟩) n cp) ((at0 + 2 + L : Nat) : Int) p0 0 ∧ w.grownBy w3 (some rb)) := ⟨X2.out.1.kept hb3, gb_trans (gb_trans (gb_alloc (gb_refl _ _) _) X2.out.2) (gb_below hb3)⟩
  refine leaves_cons (f := 94) (args := #[.int .i64 at0, .pointer (some ⟨w.heap.size, 0, none⟩)]) (by simp) (by simp [go_sem]) ?_
  refine (clo41_idle rb _ at0 _ bx3).mono ?_
  rintro e u' w4 ⟨rfl, rfl, hb4⟩
  rw [HS.out]
  simp [Leaves, settle, results, Tryz.results79, go_sem]
  exact ⟨X3.out.1.kept hb4, gb_trans X3.out.2 (gb_below hb4)⟩
end Go.Proofs.YtmfbkfgggdkfmaaGreatDoor
namespace Go.Proofs.YtmfbkfgggdkfmaaGreatDoor
open Go Go.RowKit
set_option linter.unusedSimpArgs false
set_option linter.unusedVariables false

set_option maxRecDepth 100000 in
set_option maxHeartbeats 400000 in
theorem at_any (rb : Nat) (bv : Value) (at0 p0 q0 : Int) (w : World) (hR : RdAt w rb bv at0 p0 q0) :
    Calls Tryz.prog 78 #[.pointer (some ⟨rb, 0, none⟩)] w fun e w' => e = .returned (.int .i64 at0) ∧ w' = w := by
  obtain ⟨hlt, c0, c1, c2, c3, f1, f2, f3⟩ := hR.facts
  clear hR
  go_enter Tryz.func78, Tryz.ntmps78
  go_wp2
  go_ret
  exact ⟨rfl, rfl⟩

set_option maxRecDepth 100000 in
set_option maxHeartbeats 400000 in
theorem err_nil (rb : Nat) (bv : Value) (at0 p0 : Int) (w : World) (hR : RdAt w rb bv at0 p0 0) :
    Calls Tryz.prog 66 #[.pointer (some ⟨rb, 0, none⟩)] w fun e w' => e = .returned .nilIface ∧ w' = w := by
  obtain ⟨hlt, c0, c1, c2, c3, f1, f2, f3⟩ := hR.facts
  clear hR
  go_enter Tryz.func66, Tryz.ntmps66
  go_wp2
  go_ret
  exact ⟨rfl, rfl⟩

set_option maxRecDepth 100000 in
set_option maxHeartbeats 400000 in
theorem err_some (rb : Nat) (bv : Value) (at0 p0 q0 : Int) (w : World) (hR : RdAt w rb bv at0 p0 q0) (hq : ¬ q0 = 0) :
    Calls Tryz.prog 66 #[.pointer (some ⟨rb, 0, none⟩)] w fun e w' => e = .returned (.iface 71 (.pointer (some ⟨w.heap.size, 0, none⟩))) ∧ w' = (w.alloc (.cells #[.int .i64 p0, .int .i64 q0] 61)).drew := by
  obtain ⟨hlt, c0, c1, c2, c3, f1, f2, f3⟩ := hR.facts
  clear hR
  have hq' : (q0 == 0) = false := by simpa using hq
  clear hq
  go_enter Tryz.func66, Tryz.ntmps66
  go_wp2
  go_region
  all_goals (try go_wp2)
  all_goals go_ret
  all_goals exact ⟨rfl, rfl⟩

set_option maxRecDepth 100000 in
set_option maxHeartbeats 1000000 in
theorem end_rest (rb g n cp at0 : Nat) (p0 : Int) (w : World) (hR : RdAt w rb (.slice (some ⟨g, 0, none⟩) n cp) at0 p0 0) (h1 : at0 < n) (h2 : n ≤ cp) (h3 : n ≤ 1000000) :
    Calls Tryz.prog 65 #[.pointer (some ⟨rb, 0, none⟩)] w fun e w' => e = .returned (.tuple #[]) ∧ RdAt w' rb (.slice (some ⟨g, 0, none⟩) n cp) at0 at0 15 ∧ w.grownBy w' (some rb) := by
  have hlt : rb < w.heap.size := lt_of_block hR
  have W0 : Hid (RdAt (w.alloc (.cells #[.pointer (some ⟨rb, 0, none⟩)] 97)) rb (.slice (some ⟨g, 0, none⟩) n cp) at0 p0 0) := hR.kept ((Below.refl _ _).alloc (Nat.le_refl _) _)
  obtain ⟨_, c0, c1, c2, c3, f1, f2, f3⟩ := hR.facts
  have L0 : Hid (Calls Tryz.prog 76 #[.pointer (some ⟨rb, 0, none⟩)] (w.alloc (.cells #[.pointer (some ⟨rb, 0, none⟩)] 97)) fun e w' => (∃ ad, e = .returned (.slice (some ad) (n - at0) (cp - at0)) ∧ (at0 < cp → ad = ⟨g, at0, none⟩)) ∧ w' = (w.alloc (.cells #[.pointer (some ⟨rb, 0, none⟩)] 97)).drew) := left_ok rb g n cp at0 p0 _ W0.out (by omega) h2 h3
  have hx : (0 : Int) < ((n - at0 : Nat) : Int) := by omega
  have hmf := hmf
  clear hR
  go_enter_defers Tryz.func65, Tryz.ntmps65
  go_wp2_with (first | (go_at_call 76; refine L0.out.mono ?_; rintro e w' ⟨⟨ad, rfl, _⟩, rfl⟩) | (go_at_call 77; refine (give_any _ _ _).mono ?_; rintro e w' ⟨rfl, rfl⟩))
  refine leaves_cons (f := 86) (args := #[.int .i64 at0, .pointer (some ⟨w.heap.size, 0, none⟩)]) (by simp) (by simp [go_sem]) ?_
  refine (clo43_hit rb _ (.slice (some ⟨g, 0, none⟩) n cp) at0 p0 0 at0 at0 15 [] _ ?_ ?_).mono ?_
  · exact W0.out
  · simp [go_sem]
  rintro e u' w4 ⟨rfl, rfl, hR4, hg4⟩
  simp [Leaves, settle, results, Tryz.results65, go_sem]
  exact ⟨hR4, gb_trans (gb_drew (gb_alloc (gb_refl _ _) _)) hg4⟩

end Go.Proofs.YtmfbkfgggdkfmaaGreatDoor
