import Derived.Test.YtkjeneklkdekoaaGreatDoorByc
import Derived.Test.YtkjeneklkdekoaaGreatDoorChk
import Derived.Test.YtkjeneklkdekoaaGreatDoorCv
namespace Go.Proofs.YtkjeneklkdekoaaGreatDoor
open Go Go.RowKit
set_option linter.unusedSimpArgs false
set_option linter.unusedVariables false

theorem hmf (fn : Fn) (first cap : Array Value) (w : World) : (Instr.makeFunc fn first cap).run Tryz.prog w = .ok (.func fn first cap) w := rfl

/-- The reader's own bytes. -/
def Own (w : World) (g n : Nat) (z : Nat → Int) : Prop := (∀ i, 0 ≤ z i ∧ z i ≤ 255) ∧ ∀ i, i < n → w.cell? ⟨g, i, none⟩ = some (.int .u8 (z i))
theorem Own.grown {w w' : World} {g n rb : Nat} {z : Nat → Int} (h : Own w g n z) (hg : w.grownBy w' (some rb)) (hne : g ≠ rb) : Own w' g n z := ⟨h.1, fun i hi => hg.cell (h.2 i hi) (by simpa using hne)⟩
theorem Own.below {w w' : World} {g n : Nat} {z : Nat → Int} (h : Own w g n z) (hb : Below w.heap.size w w') : Own w' g n z := ⟨h.1, fun i hi => cell_later hb (h.2 i hi)⟩
theorem RdAt.grown {w w' : World} {rb rb' : Nat} {bv : Value} {at0 p0 q0 : Int} (h : RdAt w rb bv at0 p0 q0) (hg : w.grownBy w' (some rb')) (hne : rb ≠ rb') : RdAt w' rb bv at0 p0 q0 := (hg.block rb (lt_of_block h) (by simpa using hne)).trans h
theorem gb_below {w w' : World} {r : Option Nat} (h : Below w.heap.size w w') : w.grownBy w' r := ⟨h.os, h.tape, h.output, h.size, fun k hk _ => h.block k hk⟩

theorem box_cell {w w1 : World} {rb : Nat} {v : Value} {t : TypeId} (hlt : rb < w.heap.size) (h : (w.alloc (.cells #[v] t)).grownBy w1 (some rb)) : w1.cell? ⟨w.heap.size, 0, none⟩ = some v :=
  h.cell (a := ⟨w.heap.size, 0, none⟩) (by rw [World.cell?_alloc_at _ _ _ _ rfl]; rfl) (by simp; omega)

set_option maxRecDepth 100000 in
set_option maxHeartbeats 1000000 in
theorem text_ok (rb g n cp at0 L : Nat) (p0 : Int) (z : Nat → Int) (w : World) (hR : RdAt w rb (.slice (some ⟨g, 0, none⟩) n cp) at0 p0 0) (hO : Own w g n z) (h2 : n ≤ cp) (h3 : n ≤ 1000000) (hgr : g ≠ rb)
    (hL : z at0 * 256 + z (at0 + 1) = L) (hn : at0 + 2 + L ≤ n) (hc : (chk (strZ (fun i => z (at0 + 2 + i)) L)).2 = 0) :
    Calls Tryz.prog 73 #[.pointer (some ⟨rb, 0, none⟩)] w fun e w' => e = .returned (.string (strZ (fun i => z (at0 + 2 + i)) L)) ∧ RdAt w' rb (.slice (some ⟨g, 0, none⟩) n cp) ((at0 + 2 + L : Nat) : Int) p0 0 ∧ w.grownBy w' (some rb) := by
  have hlt : rb < w.heap.size := lt_of_block hR
  have W0 : Hid (RdAt (w.alloc (.cells #[.pointer (some ⟨rb, 0, none⟩)] 55)) rb (.slice (some ⟨g, 0, none⟩) n cp) at0 p0 0) := hR.kept ((Below.refl _ _).alloc (Nat.le_refl _) _)
  have O0 : Hid (Own (w.alloc (.cells #[.pointer (some ⟨rb, 0, none⟩)] 55)) g n z) := hO.below ((Below.refl _ _).alloc (Nat.le_refl _) _)
  obtain ⟨_, c0, c1, c2, c3, f1, f2, f3⟩ := hR.facts
  have N0 : Hid (Calls Tryz.prog 111 #[.pointer (some ⟨rb, 0, none⟩), .int .i64 2] (w.alloc (.cells #[.pointer (some ⟨rb, 0, none⟩)] 55)) fun e w' => e = .returned (.int .i64 L) ∧ RdAt w' rb (.slice (some ⟨g, 0, none⟩) n cp) ((at0 + 2 : Nat) : Int) p0 0 ∧ (w.alloc (.cells #[.pointer (some ⟨rb, 0, none⟩)] 55)).grownBy w' (some rb)) := by
    have h := num2_ok rb g n cp at0 p0 (z at0) (z (at0 + 1)) _ W0.out h2 h3 (by omega) hgr (hO.1 _) (hO.1 _) (O0.out.2 _ (by omega)) (O0.out.2 _ (by omega))
    rw [hL] at h
    exact h
  have hmf := hmf
  clear hR hO hL
  go_enter_defers Tryz.func73, Tryz.ntmps73
  go_wp2_with (go_at_call 111; refine N0.out.mono ?_; rintro e w1 ⟨rfl, hR1, hg1⟩; have bx1 := box_cell hlt hg1; have at1 := hR1.facts.2.2.1; have X1 : Hid (RdAt w1 rb (.slice (some ⟨g, 0, none⟩) n cp) ((at0 + 2 : Nat) : Int) p0 0 ∧ (w.alloc (.cells #[.pointer (some ⟨rb, 0, none⟩)] 55)).grownBy w1 (some rb)) := ⟨hR1, hg1⟩; clear hR1 hg1)
  go_must (go_at_call 108)
  have T1 := take_ok rb g n cp (at0 + 2) L p0 w1 X1.out.1 h2 h3 hn
  refine T1.mono ?_
  clear T1
  rintro e w2 ⟨⟨ad, rfl, had⟩, hR2, hg2⟩
  have hg02 := gb_trans X1.out.2 hg2
  have bx2 := box_cell hlt hg02
  have cv : (convert 22 9 (.slice (some ad) L (cp - (at0 + 2)))).run Tryz.prog w2 = .ok (.string (strZ (fun i => z (at0 + 2 + i)) L)) w2 := by
    refine conv_any (some ad) L (cp - (at0 + 2)) _ w2 ⟨by omega, fun i => O0.out.1 _, .inr ⟨ad, rfl, fun i hi => ?_⟩⟩
    obtain rfl := had (by omega)
    rw [plain_add]
    exact (O0.out.grown hg02 hgr).2 _ (by omega)
  clear had
  have X2 : Hid (RdAt w2 rb (.slice (some ⟨g, 0, none⟩) n cp) ((at0 + 2 + L : Nat) : Int) p0 0 ∧ (w.alloc (.cells #[.pointer (some ⟨rb, 0, none⟩)] 55)).grownBy w2 (some rb)) := ⟨hR2, hg02⟩
  clear hR2 hg2 hg02 bx1 at1
  obtain ⟨s, hs⟩ : ∃ s, strZ (fun i => z (at0 + 2 + i)) L = s := ⟨_, rfl⟩
  rw [hs] at hc cv
  have HS : Hid (strZ (fun i => z (at0 + 2 + i)) L = s) := hs
  clear hs
  obtain ⟨c, q, hcq⟩ : ∃ c q, chk s = (c, q) := ⟨_, _, rfl⟩
  have C0 : Hid (Calls Tryz.prog 83 #[.string s] w2 fun e w' => e = .returned (.tuple #[.int .i64 c, .int .i64 0]) ∧ Below w2.heap.size w2 w') := by
    refine (chk_any s w2).mono ?_
    rw [hcq] at hc ⊢
    have hq : q = 0 := hc
    subst hq
    rintro e w' ⟨rfl, hb, _⟩
    exact ⟨rfl, hb⟩
  clear hc hcq
  go_wp2_with (go_at_call 83; refine C0.out.mono ?_; rintro e w3 ⟨rfl, hb3⟩)
  have bx3 := cell_later hb3 bx2
  have X3 : Hid (RdAt w3 rb (.slice (some ⟨g, 0, none⟩) n cp) ((at0 + 2 + L : Nat) : Int) p0 0 ∧ w.grownBy w3 (some rb)) := ⟨X2.out.1.kept hb3, gb_trans (gb_trans (gb_alloc (gb_refl _ _) _) X2.out.2) (gb_below hb3)⟩
  refine leaves_cons (f := 119) (args := #[.int .i64 at0, .pointer (some ⟨w.heap.size, 0, none⟩)]) (by simp) (by simp [go_sem]) ?_
  refine (clo41_idle rb _ at0 _ bx3).mono ?_
  rintro e u' w4 ⟨rfl, rfl, hb4⟩
  rw [HS.out]
  simp [Leaves, settle, results, Tryz.results73, go_sem]
  exact ⟨X3.out.1.kept hb4, gb_trans X3.out.2 (gb_below hb4)⟩
end Go.Proofs.YtkjeneklkdekoaaGreatDoor
namespace Go.Proofs.YtkjeneklkdekoaaGreatDoor
open Go Go.RowKit
set_option linter.unusedSimpArgs false
set_option linter.unusedVariables false

set_option maxRecDepth 100000 in
set_option maxHeartbeats 400000 in
theorem at_any (rb : Nat) (bv : Value) (at0 p0 q0 : Int) (w : World) (hR : RdAt w rb bv at0 p0 q0) :
    Calls Tryz.prog 63 #[.pointer (some ⟨rb, 0, none⟩)] w fun e w' => e = .returned (.int .i64 at0) ∧ w' = w := by
  obtain ⟨hlt, c0, c1, c2, c3, f1, f2, f3⟩ := hR.facts
  clear hR
  go_enter Tryz.func63, Tryz.ntmps63
  go_wp2
  go_ret
  exact ⟨rfl, rfl⟩

set_option maxRecDepth 100000 in
set_option maxHeartbeats 400000 in
theorem err_nil (rb : Nat) (bv : Value) (at0 p0 : Int) (w : World) (hR : RdAt w rb bv at0 p0 0) :
    Calls Tryz.prog 62 #[.pointer (some ⟨rb, 0, none⟩)] w fun e w' => e = .returned .nilIface ∧ w' = w := by
  obtain ⟨hlt, c0, c1, c2, c3, f1, f2, f3⟩ := hR.facts
  clear hR
  go_enter Tryz.func62, Tryz.ntmps62
  go_wp2
  go_ret
  exact ⟨rfl, rfl⟩

set_option maxRecDepth 100000 in
set_option maxHeartbeats 400000 in
theorem err_some (rb : Nat) (bv : Value) (at0 p0 q0 : Int) (w : World) (hR : RdAt w rb bv at0 p0 q0) (hq : ¬ q0 = 0) :
    Calls Tryz.prog 62 #[.pointer (some ⟨rb, 0, none⟩)] w fun e w' => e = .returned (.iface 157 (.pointer (some ⟨w.heap.size, 0, none⟩))) ∧ w' = (w.alloc (.cells #[.int .i64 p0, .int .i64 q0] 79)).drew := by
  obtain ⟨hlt, c0, c1, c2, c3, f1, f2, f3⟩ := hR.facts
  clear hR
  have hq' : (q0 == 0) = false := by simpa using hq
  clear hq
  go_enter Tryz.func62, Tryz.ntmps62
  go_wp2
  go_region
  all_goals (try go_wp2)
  all_goals go_ret
  all_goals exact ⟨rfl, rfl⟩

set_option maxRecDepth 100000 in
set_option maxHeartbeats 1000000 in
theorem end_rest (rb g n cp at0 : Nat) (p0 : Int) (w : World) (hR : RdAt w rb (.slice (some ⟨g, 0, none⟩) n cp) at0 p0 0) (h1 : at0 < n) (h2 : n ≤ cp) (h3 : n ≤ 1000000) :
    Calls Tryz.prog 79 #[.pointer (some ⟨rb, 0, none⟩)] w fun e w' => e = .returned (.tuple #[]) ∧ RdAt w' rb (.slice (some ⟨g, 0, none⟩) n cp) at0 at0 15 ∧ w.grownBy w' (some rb) := by
  have hlt : rb < w.heap.size := lt_of_block hR
  have W0 : Hid (RdAt (w.alloc (.cells #[.pointer (some ⟨rb, 0, none⟩)] 55)) rb (.slice (some ⟨g, 0, none⟩) n cp) at0 p0 0) := hR.kept ((Below.refl _ _).alloc (Nat.le_refl _) _)
  obtain ⟨_, c0, c1, c2, c3, f1, f2, f3⟩ := hR.facts
  have L0 : Hid (Calls Tryz.prog 115 #[.pointer (some ⟨rb, 0, none⟩)] (w.alloc (.cells #[.pointer (some ⟨rb, 0, none⟩)] 55)) fun e w' => (∃ ad, e = .returned (.slice (some ad) (n - at0) (cp - at0)) ∧ (at0 < cp → ad = ⟨g, at0, none⟩)) ∧ w' = (w.alloc (.cells #[.pointer (some ⟨rb, 0, none⟩)] 55)).drew) := left_ok rb g n cp at0 p0 _ W0.out (by omega) h2 h3
  have hx : (0 : Int) < ((n - at0 : Nat) : Int) := by omega
  have hmf := hmf
  clear hR
  go_enter_defers Tryz.func79, Tryz.ntmps79
  go_wp2_with (first | (go_at_call 115; refine L0.out.mono ?_; rintro e w' ⟨⟨ad, rfl, _⟩, rfl⟩) | (go_at_call 116; refine (give_any _ _ _).mono ?_; rintro e w' ⟨rfl, rfl⟩))
  refine leaves_cons (f := 122) (args := #[.int .i64 at0, .pointer (some ⟨w.heap.size, 0, none⟩)]) (by simp) (by simp [go_sem]) ?_
  refine (clo43_hit rb _ (.slice (some ⟨g, 0, none⟩) n cp) at0 p0 0 at0 at0 15 [] _ ?_ ?_).mono ?_
  · exact W0.out
  · simp [go_sem]
  rintro e u' w4 ⟨rfl, rfl, hR4, hg4⟩
  simp [Leaves, settle, results, Tryz.results79, go_sem]
  exact ⟨hR4, gb_trans (gb_drew (gb_alloc (gb_refl _ _) _)) hg4⟩

end Go.Proofs.YtkjeneklkdekoaaGreatDoor
namespace Go.Proofs.YtkjeneklkdekoaaGreatDoor
open Go Go.RowKit
set_option linter.unusedSimpArgs false
set_option linter.unusedVariables false

/-- The book's cells. -/
def BkAt (w : World) (bb : Nat) (cs : Array Value) : Prop := w.heap[bb]? = some (.cells cs 47 (0, 0))
theorem bk_cell {w : World} {bb i : Nat} {cs : Array Value} {v : Value} (h : BkAt w bb cs) (hi : cs[i]? = some v) : w.cell? ⟨bb, i, none⟩ = some v ∧ w.frozen? ⟨bb, i, none⟩ = false := by
  unfold BkAt at h
  constructor
  · simp [World.cell?, h, hi]
  · simp [World.frozen?, h]
theorem set_same {cs : Array Value} {i : Nat} {v : Value} (hi : cs[i]? = some v) : cs.setIfInBounds i v = cs := by
  apply Array.ext_getElem?
  intro j
  rw [Array.getElem?_setIfInBounds]
  split
  · rename_i e
    subst e
    split
    · exact hi.symm
    · rename_i h
      rw [Array.getElem?_eq_none (by omega)] at hi
      cases hi
  · rfl
theorem BkAt.same {w : World} {bb i : Nat} {cs : Array Value} {v : Value} (h : BkAt w bb cs) (hi : cs[i]? = some v) : BkAt (w.setCell ⟨bb, i, none⟩ v) bb cs := by
  have q := heap_set (i := i) h v
  rw [set_same hi] at q
  exact q
/-- The kinds that nothing was kept of: their lists are nil. -/
def Rest (cs : Array Value) : Prop := ∀ k, 1 ≤ k → k ≤ 16 → ∀ i, i ≤ 7 → cs[4 + 9 * k + i]? = some (.slice none 0 0)

end Go.Proofs.YtkjeneklkdekoaaGreatDoor
namespace Go.Proofs.YtkjeneklkdekoaaGreatDoor
open Go Go.RowKit
set_option linter.unusedSimpArgs false
set_option linter.unusedVariables false

set_option maxRecDepth 100000 in
set_option maxHeartbeats 400000 in
theorem markInts_none (bb : Nat) (cs : Array Value) (w : World) (hB : BkAt w bb cs) (hr : Rest cs) :
    Calls Tryz.prog 139 #[.pointer (some ⟨bb, 0, none⟩)] w fun e w' => e = .returned (.tuple #[]) ∧ w' = w := by
  have x2 : w.cell? ⟨bb, 15, none⟩ = some (.slice none 0 0) := (bk_cell hB (hr 1 (by decide) (by decide) 2 (by decide))).1
  have x3 : w.cell? ⟨bb, 16, none⟩ = some (.slice none 0 0) := (bk_cell hB (hr 1 (by decide) (by decide) 3 (by decide))).1
  have x5 : w.cell? ⟨bb, 18, none⟩ = some (.slice none 0 0) := (bk_cell hB (hr 1 (by decide) (by decide) 5 (by decide))).1
  have x6 : w.cell? ⟨bb, 19, none⟩ = some (.slice none 0 0) := (bk_cell hB (hr 1 (by decide) (by decide) 6 (by decide))).1
  clear hB hr
  go_enter Tryz.func139, Tryz.ntmps139
  go_wp2
  exact bodyPost_ret (results_none rfl _ _ _) rfl ⟨rfl, rfl⟩
set_option maxRecDepth 100000 in
set_option maxHeartbeats 400000 in
theorem holdInts_none (bb : Nat) (cs : Array Value) (w : World) (hB : BkAt w bb cs) (hr : Rest cs) :
    Calls Tryz.prog 44 #[.pointer (some ⟨bb, 0, none⟩)] w fun e w' => e = .returned (.bool true) ∧ w' = w := by
  have x0 : w.cell? ⟨bb, 13, none⟩ = some (.slice none 0 0) := (bk_cell hB (hr 1 (by decide) (by decide) 0 (by decide))).1
  have x2 : w.cell? ⟨bb, 15, none⟩ = some (.slice none 0 0) := (bk_cell hB (hr 1 (by decide) (by decide) 2 (by decide))).1
  clear hB hr
  go_enter Tryz.func44, Tryz.ntmps44
  go_wp2
  go_loop [3] (fun i => i = .int .i64 0) (fun _ => 0)
  case atStart => rfl
  case round =>
    subst hrel
    go_wp2
    go_loop [4] (fun i => i = .int .i64 0) (fun _ => 0)
    case atStart => rfl
    case round =>
      subst hrel
      go_wp2
      go_ret
      exact ⟨rfl, rfl⟩
set_option maxRecDepth 100000 in
set_option maxHeartbeats 400000 in
theorem growInts_none (bb : Nat) (cs : Array Value) (w : World) (hB : BkAt w bb cs) (hr : Rest cs) :
    Calls Tryz.prog 156 #[.pointer (some ⟨bb, 0, none⟩)] w fun e w' => e = .returned (.tuple #[]) ∧ BkAt w' bb cs ∧ w.grownBy w' (some bb) := by
  have r4 : cs[17]? = some (.slice none 0 0) := hr 1 (by decide) (by decide) 4 (by decide)
  have r7 : cs[20]? = some (.slice none 0 0) := hr 1 (by decide) (by decide) 7 (by decide)
  obtain ⟨x4, y4⟩ := bk_cell hB r4
  obtain ⟨x7, y7⟩ := bk_cell hB r7
  have HB : Hid (BkAt w bb cs) := hB
  have R4 : Hid (cs[17]? = some (.slice none 0 0)) := r4
  have R7 : Hid (cs[20]? = some (.slice none 0 0)) := r7
  clear hB hr r4 r7
  go_enter Tryz.func156, Tryz.ntmps156
  go_wp2
  go_loop [2] (fun i => i = .int .i64 0) (fun _ => 0)
  case atStart => rfl
  case round =>
    subst hrel
    go_wp2
    go_end0
    exact ⟨rfl, (HB.out.same R4.out).same R7.out, gb_set (gb_set (gb_refl _ _) _ _) _ _⟩
set_option maxRecDepth 100000 in
set_option maxHeartbeats 400000 in
theorem markTexts_none (bb : Nat) (cs : Array Value) (w : World) (hB : BkAt w bb cs) (hr : Rest cs) :
    Calls Tryz.prog 140 #[.pointer (some ⟨bb, 0, none⟩)] w fun e w' => e = .returned (.tuple #[]) ∧ w' = w := by
  have x2 : w.cell? ⟨bb, 24, none⟩ = some (.slice none 0 0) := (bk_cell hB (hr 2 (by decide) (by decide) 2 (by decide))).1
  have x3 : w.cell? ⟨bb, 25, none⟩ = some (.slice none 0 0) := (bk_cell hB (hr 2 (by decide) (by decide) 3 (by decide))).1
  have x5 : w.cell? ⟨bb, 27, none⟩ = some (.slice none 0 0) := (bk_cell hB (hr 2 (by decide) (by decide) 5 (by decide))).1
  have x6 : w.cell? ⟨bb, 28, none⟩ = some (.slice none 0 0) := (bk_cell hB (hr 2 (by decide) (by decide) 6 (by decide))).1
  clear hB hr
  go_enter Tryz.func140, Tryz.ntmps140
  go_wp2
  exact bodyPost_ret (results_none rfl _ _ _) rfl ⟨rfl, rfl⟩
set_option maxRecDepth 100000 in
set_option maxHeartbeats 400000 in
theorem holdTexts_none (bb : Nat) (cs : Array Value) (w : World) (hB : BkAt w bb cs) (hr : Rest cs) :
    Calls Tryz.prog 45 #[.pointer (some ⟨bb, 0, none⟩)] w fun e w' => e = .returned (.bool true) ∧ w' = w := by
  have x0 : w.cell? ⟨bb, 22, none⟩ = some (.slice none 0 0) := (bk_cell hB (hr 2 (by decide) (by decide) 0 (by decide))).1
  have x2 : w.cell? ⟨bb, 24, none⟩ = some (.slice none 0 0) := (bk_cell hB (hr 2 (by decide) (by decide) 2 (by decide))).1
  clear hB hr
  go_enter Tryz.func45, Tryz.ntmps45
  go_wp2
  go_loop [3] (fun i => i = .int .i64 0) (fun _ => 0)
  case atStart => rfl
  case round =>
    subst hrel
    go_wp2
    go_loop [4] (fun i => i = .int .i64 0) (fun _ => 0)
    case atStart => rfl
    case round =>
      subst hrel
      go_wp2
      go_ret
      exact ⟨rfl, rfl⟩
set_option maxRecDepth 100000 in
set_option maxHeartbeats 400000 in
theorem growTexts_none (bb : Nat) (cs : Array Value) (w : World) (hB : BkAt w bb cs) (hr : Rest cs) :
    Calls Tryz.prog 157 #[.pointer (some ⟨bb, 0, none⟩)] w fun e w' => e = .returned (.tuple #[]) ∧ BkAt w' bb cs ∧ w.grownBy w' (some bb) := by
  have r4 : cs[26]? = some (.slice none 0 0) := hr 2 (by decide) (by decide) 4 (by decide)
  have r7 : cs[29]? = some (.slice none 0 0) := hr 2 (by decide) (by decide) 7 (by decide)
  obtain ⟨x4, y4⟩ := bk_cell hB r4
  obtain ⟨x7, y7⟩ := bk_cell hB r7
  have HB : Hid (BkAt w bb cs) := hB
  have R4 : Hid (cs[26]? = some (.slice none 0 0)) := r4
  have R7 : Hid (cs[29]? = some (.slice none 0 0)) := r7
  clear hB hr r4 r7
  go_enter Tryz.func157, Tryz.ntmps157
  go_wp2
  go_loop [2] (fun i => i = .int .i64 0) (fun _ => 0)
  case atStart => rfl
  case round =>
    subst hrel
    go_wp2
    go_end0
    exact ⟨rfl, (HB.out.same R4.out).same R7.out, gb_set (gb_set (gb_refl _ _) _ _) _ _⟩
set_option maxRecDepth 100000 in
set_option maxHeartbeats 400000 in
theorem markEntries_none (bb : Nat) (cs : Array Value) (w : World) (hB : BkAt w bb cs) (hr : Rest cs) :
    Calls Tryz.prog 141 #[.pointer (some ⟨bb, 0, none⟩)] w fun e w' => e = .returned (.tuple #[]) ∧ w' = w := by
  have x2 : w.cell? ⟨bb, 33, none⟩ = some (.slice none 0 0) := (bk_cell hB (hr 3 (by decide) (by decide) 2 (by decide))).1
  have x3 : w.cell? ⟨bb, 34, none⟩ = some (.slice none 0 0) := (bk_cell hB (hr 3 (by decide) (by decide) 3 (by decide))).1
  have x5 : w.cell? ⟨bb, 36, none⟩ = some (.slice none 0 0) := (bk_cell hB (hr 3 (by decide) (by decide) 5 (by decide))).1
  have x6 : w.cell? ⟨bb, 37, none⟩ = some (.slice none 0 0) := (bk_cell hB (hr 3 (by decide) (by decide) 6 (by decide))).1
  clear hB hr
  go_enter Tryz.func141, Tryz.ntmps141
  go_wp2
  exact bodyPost_ret (results_none rfl _ _ _) rfl ⟨rfl, rfl⟩
set_option maxRecDepth 100000 in
set_option maxHeartbeats 400000 in
theorem holdEntries_none (bb : Nat) (cs : Array Value) (w : World) (hB : BkAt w bb cs) (hr : Rest cs) :
    Calls Tryz.prog 46 #[.pointer (some ⟨bb, 0, none⟩)] w fun e w' => e = .returned (.bool true) ∧ w' = w := by
  have x0 : w.cell? ⟨bb, 31, none⟩ = some (.slice none 0 0) := (bk_cell hB (hr 3 (by decide) (by decide) 0 (by decide))).1
  have x2 : w.cell? ⟨bb, 33, none⟩ = some (.slice none 0 0) := (bk_cell hB (hr 3 (by decide) (by decide) 2 (by decide))).1
  clear hB hr
  go_enter Tryz.func46, Tryz.ntmps46
  go_wp2
  go_loop [3] (fun i => i = .int .i64 0) (fun _ => 0)
  case atStart => rfl
  case round =>
    subst hrel
    go_wp2
    go_loop [4] (fun i => i = .int .i64 0) (fun _ => 0)
    case atStart => rfl
    case round =>
      subst hrel
      go_wp2
      go_ret
      exact ⟨rfl, rfl⟩
set_option maxRecDepth 100000 in
set_option maxHeartbeats 400000 in
theorem growEntries_none (bb : Nat) (cs : Array Value) (w : World) (hB : BkAt w bb cs) (hr : Rest cs) :
    Calls Tryz.prog 158 #[.pointer (some ⟨bb, 0, none⟩)] w fun e w' => e = .returned (.tuple #[]) ∧ BkAt w' bb cs ∧ w.grownBy w' (some bb) := by
  have r4 : cs[35]? = some (.slice none 0 0) := hr 3 (by decide) (by decide) 4 (by decide)
  have r7 : cs[38]? = some (.slice none 0 0) := hr 3 (by decide) (by decide) 7 (by decide)
  obtain ⟨x4, y4⟩ := bk_cell hB r4
  obtain ⟨x7, y7⟩ := bk_cell hB r7
  have HB : Hid (BkAt w bb cs) := hB
  have R4 : Hid (cs[35]? = some (.slice none 0 0)) := r4
  have R7 : Hid (cs[38]? = some (.slice none 0 0)) := r7
  clear hB hr r4 r7
  go_enter Tryz.func158, Tryz.ntmps158
  go_wp2
  go_loop [2] (fun i => i = .int .i64 0) (fun _ => 0)
  case atStart => rfl
  case round =>
    subst hrel
    go_wp2
    go_end0
    exact ⟨rfl, (HB.out.same R4.out).same R7.out, gb_set (gb_set (gb_refl _ _) _ _) _ _⟩
set_option maxRecDepth 100000 in
set_option maxHeartbeats 400000 in
theorem markAsks_none (bb : Nat) (cs : Array Value) (w : World) (hB : BkAt w bb cs) (hr : Rest cs) :
    Calls Tryz.prog 142 #[.pointer (some ⟨bb, 0, none⟩)] w fun e w' => e = .returned (.tuple #[]) ∧ w' = w := by
  have x2 : w.cell? ⟨bb, 42, none⟩ = some (.slice none 0 0) := (bk_cell hB (hr 4 (by decide) (by decide) 2 (by decide))).1
  have x3 : w.cell? ⟨bb, 43, none⟩ = some (.slice none 0 0) := (bk_cell hB (hr 4 (by decide) (by decide) 3 (by decide))).1
  have x5 : w.cell? ⟨bb, 45, none⟩ = some (.slice none 0 0) := (bk_cell hB (hr 4 (by decide) (by decide) 5 (by decide))).1
  have x6 : w.cell? ⟨bb, 46, none⟩ = some (.slice none 0 0) := (bk_cell hB (hr 4 (by decide) (by decide) 6 (by decide))).1
  clear hB hr
  go_enter Tryz.func142, Tryz.ntmps142
  go_wp2
  exact bodyPost_ret (results_none rfl _ _ _) rfl ⟨rfl, rfl⟩
set_option maxRecDepth 100000 in
set_option maxHeartbeats 400000 in
theorem holdAsks_none (bb : Nat) (cs : Array Value) (w : World) (hB : BkAt w bb cs) (hr : Rest cs) :
    Calls Tryz.prog 47 #[.pointer (some ⟨bb, 0, none⟩)] w fun e w' => e = .returned (.bool true) ∧ w' = w := by
  have x0 : w.cell? ⟨bb, 40, none⟩ = some (.slice none 0 0) := (bk_cell hB (hr 4 (by decide) (by decide) 0 (by decide))).1
  have x2 : w.cell? ⟨bb, 42, none⟩ = some (.slice none 0 0) := (bk_cell hB (hr 4 (by decide) (by decide) 2 (by decide))).1
  clear hB hr
  go_enter Tryz.func47, Tryz.ntmps47
  go_wp2
  go_loop [3] (fun i => i = .int .i64 0) (fun _ => 0)
  case atStart => rfl
  case round =>
    subst hrel
    go_wp2
    go_loop [4] (fun i => i = .int .i64 0) (fun _ => 0)
    case atStart => rfl
    case round =>
      subst hrel
      go_wp2
      go_ret
      exact ⟨rfl, rfl⟩
set_option maxRecDepth 100000 in
set_option maxHeartbeats 400000 in
theorem growAsks_none (bb : Nat) (cs : Array Value) (w : World) (hB : BkAt w bb cs) (hr : Rest cs) :
    Calls Tryz.prog 159 #[.pointer (some ⟨bb, 0, none⟩)] w fun e w' => e = .returned (.tuple #[]) ∧ BkAt w' bb cs ∧ w.grownBy w' (some bb) := by
  have r4 : cs[44]? = some (.slice none 0 0) := hr 4 (by decide) (by decide) 4 (by decide)
  have r7 : cs[47]? = some (.slice none 0 0) := hr 4 (by decide) (by decide) 7 (by decide)
  obtain ⟨x4, y4⟩ := bk_cell hB r4
  obtain ⟨x7, y7⟩ := bk_cell hB r7
  have HB : Hid (BkAt w bb cs) := hB
  have R4 : Hid (cs[44]? = some (.slice none 0 0)) := r4
  have R7 : Hid (cs[47]? = some (.slice none 0 0)) := r7
  clear hB hr r4 r7
  go_enter Tryz.func159, Tryz.ntmps159
  go_wp2
  go_loop [2] (fun i => i = .int .i64 0) (fun _ => 0)
  case atStart => rfl
  case round =>
    subst hrel
    go_wp2
    go_end0
    exact ⟨rfl, (HB.out.same R4.out).same R7.out, gb_set (gb_set (gb_refl _ _) _ _) _ _⟩
end Go.Proofs.YtkjeneklkdekoaaGreatDoor
namespace Go.Proofs.YtkjeneklkdekoaaGreatDoor
open Go Go.RowKit
set_option linter.unusedSimpArgs false
set_option linter.unusedVariables false

set_option maxRecDepth 100000 in
set_option maxHeartbeats 400000 in
theorem markUsers_none (bb : Nat) (cs : Array Value) (w : World) (hB : BkAt w bb cs) (hr : Rest cs) :
    Calls Tryz.prog 143 #[.pointer (some ⟨bb, 0, none⟩)] w fun e w' => e = .returned (.tuple #[]) ∧ w' = w := by
  have x2 : w.cell? ⟨bb, 51, none⟩ = some (.slice none 0 0) := (bk_cell hB (hr 5 (by decide) (by decide) 2 (by decide))).1
  have x3 : w.cell? ⟨bb, 52, none⟩ = some (.slice none 0 0) := (bk_cell hB (hr 5 (by decide) (by decide) 3 (by decide))).1
  have x5 : w.cell? ⟨bb, 54, none⟩ = some (.slice none 0 0) := (bk_cell hB (hr 5 (by decide) (by decide) 5 (by decide))).1
  have x6 : w.cell? ⟨bb, 55, none⟩ = some (.slice none 0 0) := (bk_cell hB (hr 5 (by decide) (by decide) 6 (by decide))).1
  clear hB hr
  go_enter Tryz.func143, Tryz.ntmps143
  go_wp2
  exact bodyPost_ret (results_none rfl _ _ _) rfl ⟨rfl, rfl⟩
set_option maxRecDepth 100000 in
set_option maxHeartbeats 400000 in
theorem holdUsers_none (bb : Nat) (cs : Array Value) (w : World) (hB : BkAt w bb cs) (hr : Rest cs) :
    Calls Tryz.prog 48 #[.pointer (some ⟨bb, 0, none⟩)] w fun e w' => e = .returned (.bool true) ∧ w' = w := by
  have x0 : w.cell? ⟨bb, 49, none⟩ = some (.slice none 0 0) := (bk_cell hB (hr 5 (by decide) (by decide) 0 (by decide))).1
  have x2 : w.cell? ⟨bb, 51, none⟩ = some (.slice none 0 0) := (bk_cell hB (hr 5 (by decide) (by decide) 2 (by decide))).1
  clear hB hr
  go_enter Tryz.func48, Tryz.ntmps48
  go_wp2
  go_loop [3] (fun i => i = .int .i64 0) (fun _ => 0)
  case atStart => rfl
  case round =>
    subst hrel
    go_wp2
    go_loop [4] (fun i => i = .int .i64 0) (fun _ => 0)
    case atStart => rfl
    case round =>
      subst hrel
      go_wp2
      go_ret
      exact ⟨rfl, rfl⟩
set_option maxRecDepth 100000 in
set_option maxHeartbeats 400000 in
theorem growUsers_none (bb : Nat) (cs : Array Value) (w : World) (hB : BkAt w bb cs) (hr : Rest cs) :
    Calls Tryz.prog 160 #[.pointer (some ⟨bb, 0, none⟩)] w fun e w' => e = .returned (.tuple #[]) ∧ BkAt w' bb cs ∧ w.grownBy w' (some bb) := by
  have r4 : cs[53]? = some (.slice none 0 0) := hr 5 (by decide) (by decide) 4 (by decide)
  have r7 : cs[56]? = some (.slice none 0 0) := hr 5 (by decide) (by decide) 7 (by decide)
  obtain ⟨x4, y4⟩ := bk_cell hB r4
  obtain ⟨x7, y7⟩ := bk_cell hB r7
  have HB : Hid (BkAt w bb cs) := hB
  have R4 : Hid (cs[53]? = some (.slice none 0 0)) := r4
  have R7 : Hid (cs[56]? = some (.slice none 0 0)) := r7
  clear hB hr r4 r7
  go_enter Tryz.func160, Tryz.ntmps160
  go_wp2
  go_loop [2] (fun i => i = .int .i64 0) (fun _ => 0)
  case atStart => rfl
  case round =>
    subst hrel
    go_wp2
    go_end0
    exact ⟨rfl, (HB.out.same R4.out).same R7.out, gb_set (gb_set (gb_refl _ _) _ _) _ _⟩
set_option maxRecDepth 100000 in
set_option maxHeartbeats 400000 in
theorem markWhos_none (bb : Nat) (cs : Array Value) (w : World) (hB : BkAt w bb cs) (hr : Rest cs) :
    Calls Tryz.prog 144 #[.pointer (some ⟨bb, 0, none⟩)] w fun e w' => e = .returned (.tuple #[]) ∧ w' = w := by
  have x2 : w.cell? ⟨bb, 60, none⟩ = some (.slice none 0 0) := (bk_cell hB (hr 6 (by decide) (by decide) 2 (by decide))).1
  have x3 : w.cell? ⟨bb, 61, none⟩ = some (.slice none 0 0) := (bk_cell hB (hr 6 (by decide) (by decide) 3 (by decide))).1
  have x5 : w.cell? ⟨bb, 63, none⟩ = some (.slice none 0 0) := (bk_cell hB (hr 6 (by decide) (by decide) 5 (by decide))).1
  have x6 : w.cell? ⟨bb, 64, none⟩ = some (.slice none 0 0) := (bk_cell hB (hr 6 (by decide) (by decide) 6 (by decide))).1
  clear hB hr
  go_enter Tryz.func144, Tryz.ntmps144
  go_wp2
  exact bodyPost_ret (results_none rfl _ _ _) rfl ⟨rfl, rfl⟩
set_option maxRecDepth 100000 in
set_option maxHeartbeats 400000 in
theorem holdWhos_none (bb : Nat) (cs : Array Value) (w : World) (hB : BkAt w bb cs) (hr : Rest cs) :
    Calls Tryz.prog 49 #[.pointer (some ⟨bb, 0, none⟩)] w fun e w' => e = .returned (.bool true) ∧ w' = w := by
  have x0 : w.cell? ⟨bb, 58, none⟩ = some (.slice none 0 0) := (bk_cell hB (hr 6 (by decide) (by decide) 0 (by decide))).1
  have x2 : w.cell? ⟨bb, 60, none⟩ = some (.slice none 0 0) := (bk_cell hB (hr 6 (by decide) (by decide) 2 (by decide))).1
  clear hB hr
  go_enter Tryz.func49, Tryz.ntmps49
  go_wp2
  go_loop [3] (fun i => i = .int .i64 0) (fun _ => 0)
  case atStart => rfl
  case round =>
    subst hrel
    go_wp2
    go_loop [4] (fun i => i = .int .i64 0) (fun _ => 0)
    case atStart => rfl
    case round =>
      subst hrel
      go_wp2
      go_ret
      exact ⟨rfl, rfl⟩
set_option maxRecDepth 100000 in
set_option maxHeartbeats 400000 in
theorem growWhos_none (bb : Nat) (cs : Array Value) (w : World) (hB : BkAt w bb cs) (hr : Rest cs) :
    Calls Tryz.prog 161 #[.pointer (some ⟨bb, 0, none⟩)] w fun e w' => e = .returned (.tuple #[]) ∧ BkAt w' bb cs ∧ w.grownBy w' (some bb) := by
  have r4 : cs[62]? = some (.slice none 0 0) := hr 6 (by decide) (by decide) 4 (by decide)
  have r7 : cs[65]? = some (.slice none 0 0) := hr 6 (by decide) (by decide) 7 (by decide)
  obtain ⟨x4, y4⟩ := bk_cell hB r4
  obtain ⟨x7, y7⟩ := bk_cell hB r7
  have HB : Hid (BkAt w bb cs) := hB
  have R4 : Hid (cs[62]? = some (.slice none 0 0)) := r4
  have R7 : Hid (cs[65]? = some (.slice none 0 0)) := r7
  clear hB hr r4 r7
  go_enter Tryz.func161, Tryz.ntmps161
  go_wp2
  go_loop [2] (fun i => i = .int .i64 0) (fun _ => 0)
  case atStart => rfl
  case round =>
    subst hrel
    go_wp2
    go_end0
    exact ⟨rfl, (HB.out.same R4.out).same R7.out, gb_set (gb_set (gb_refl _ _) _ _) _ _⟩
set_option maxRecDepth 100000 in
set_option maxHeartbeats 400000 in
theorem markChunks_none (bb : Nat) (cs : Array Value) (w : World) (hB : BkAt w bb cs) (hr : Rest cs) :
    Calls Tryz.prog 145 #[.pointer (some ⟨bb, 0, none⟩)] w fun e w' => e = .returned (.tuple #[]) ∧ w' = w := by
  have x2 : w.cell? ⟨bb, 69, none⟩ = some (.slice none 0 0) := (bk_cell hB (hr 7 (by decide) (by decide) 2 (by decide))).1
  have x3 : w.cell? ⟨bb, 70, none⟩ = some (.slice none 0 0) := (bk_cell hB (hr 7 (by decide) (by decide) 3 (by decide))).1
  have x5 : w.cell? ⟨bb, 72, none⟩ = some (.slice none 0 0) := (bk_cell hB (hr 7 (by decide) (by decide) 5 (by decide))).1
  have x6 : w.cell? ⟨bb, 73, none⟩ = some (.slice none 0 0) := (bk_cell hB (hr 7 (by decide) (by decide) 6 (by decide))).1
  clear hB hr
  go_enter Tryz.func145, Tryz.ntmps145
  go_wp2
  exact bodyPost_ret (results_none rfl _ _ _) rfl ⟨rfl, rfl⟩
set_option maxRecDepth 100000 in
set_option maxHeartbeats 400000 in
theorem holdChunks_none (bb : Nat) (cs : Array Value) (w : World) (hB : BkAt w bb cs) (hr : Rest cs) :
    Calls Tryz.prog 50 #[.pointer (some ⟨bb, 0, none⟩)] w fun e w' => e = .returned (.bool true) ∧ w' = w := by
  have x0 : w.cell? ⟨bb, 67, none⟩ = some (.slice none 0 0) := (bk_cell hB (hr 7 (by decide) (by decide) 0 (by decide))).1
  have x2 : w.cell? ⟨bb, 69, none⟩ = some (.slice none 0 0) := (bk_cell hB (hr 7 (by decide) (by decide) 2 (by decide))).1
  clear hB hr
  go_enter Tryz.func50, Tryz.ntmps50
  go_wp2
  go_loop [3] (fun i => i = .int .i64 0) (fun _ => 0)
  case atStart => rfl
  case round =>
    subst hrel
    go_wp2
    go_loop [4] (fun i => i = .int .i64 0) (fun _ => 0)
    case atStart => rfl
    case round =>
      subst hrel
      go_wp2
      go_ret
      exact ⟨rfl, rfl⟩
set_option maxRecDepth 100000 in
set_option maxHeartbeats 400000 in
theorem growChunks_none (bb : Nat) (cs : Array Value) (w : World) (hB : BkAt w bb cs) (hr : Rest cs) :
    Calls Tryz.prog 162 #[.pointer (some ⟨bb, 0, none⟩)] w fun e w' => e = .returned (.tuple #[]) ∧ BkAt w' bb cs ∧ w.grownBy w' (some bb) := by
  have r4 : cs[71]? = some (.slice none 0 0) := hr 7 (by decide) (by decide) 4 (by decide)
  have r7 : cs[74]? = some (.slice none 0 0) := hr 7 (by decide) (by decide) 7 (by decide)
  obtain ⟨x4, y4⟩ := bk_cell hB r4
  obtain ⟨x7, y7⟩ := bk_cell hB r7
  have HB : Hid (BkAt w bb cs) := hB
  have R4 : Hid (cs[71]? = some (.slice none 0 0)) := r4
  have R7 : Hid (cs[74]? = some (.slice none 0 0)) := r7
  clear hB hr r4 r7
  go_enter Tryz.func162, Tryz.ntmps162
  go_wp2
  go_loop [2] (fun i => i = .int .i64 0) (fun _ => 0)
  case atStart => rfl
  case round =>
    subst hrel
    go_wp2
    go_end0
    exact ⟨rfl, (HB.out.same R4.out).same R7.out, gb_set (gb_set (gb_refl _ _) _ _) _ _⟩
set_option maxRecDepth 100000 in
set_option maxHeartbeats 400000 in
theorem markMessages_none (bb : Nat) (cs : Array Value) (w : World) (hB : BkAt w bb cs) (hr : Rest cs) :
    Calls Tryz.prog 146 #[.pointer (some ⟨bb, 0, none⟩)] w fun e w' => e = .returned (.tuple #[]) ∧ w' = w := by
  have x2 : w.cell? ⟨bb, 78, none⟩ = some (.slice none 0 0) := (bk_cell hB (hr 8 (by decide) (by decide) 2 (by decide))).1
  have x3 : w.cell? ⟨bb, 79, none⟩ = some (.slice none 0 0) := (bk_cell hB (hr 8 (by decide) (by decide) 3 (by decide))).1
  have x5 : w.cell? ⟨bb, 81, none⟩ = some (.slice none 0 0) := (bk_cell hB (hr 8 (by decide) (by decide) 5 (by decide))).1
  have x6 : w.cell? ⟨bb, 82, none⟩ = some (.slice none 0 0) := (bk_cell hB (hr 8 (by decide) (by decide) 6 (by decide))).1
  clear hB hr
  go_enter Tryz.func146, Tryz.ntmps146
  go_wp2
  exact bodyPost_ret (results_none rfl _ _ _) rfl ⟨rfl, rfl⟩
set_option maxRecDepth 100000 in
set_option maxHeartbeats 400000 in
theorem holdMessages_none (bb : Nat) (cs : Array Value) (w : World) (hB : BkAt w bb cs) (hr : Rest cs) :
    Calls Tryz.prog 51 #[.pointer (some ⟨bb, 0, none⟩)] w fun e w' => e = .returned (.bool true) ∧ w' = w := by
  have x0 : w.cell? ⟨bb, 76, none⟩ = some (.slice none 0 0) := (bk_cell hB (hr 8 (by decide) (by decide) 0 (by decide))).1
  have x2 : w.cell? ⟨bb, 78, none⟩ = some (.slice none 0 0) := (bk_cell hB (hr 8 (by decide) (by decide) 2 (by decide))).1
  clear hB hr
  go_enter Tryz.func51, Tryz.ntmps51
  go_wp2
  go_loop [3] (fun i => i = .int .i64 0) (fun _ => 0)
  case atStart => rfl
  case round =>
    subst hrel
    go_wp2
    go_loop [4] (fun i => i = .int .i64 0) (fun _ => 0)
    case atStart => rfl
    case round =>
      subst hrel
      go_wp2
      go_ret
      exact ⟨rfl, rfl⟩
set_option maxRecDepth 100000 in
set_option maxHeartbeats 400000 in
theorem growMessages_none (bb : Nat) (cs : Array Value) (w : World) (hB : BkAt w bb cs) (hr : Rest cs) :
    Calls Tryz.prog 163 #[.pointer (some ⟨bb, 0, none⟩)] w fun e w' => e = .returned (.tuple #[]) ∧ BkAt w' bb cs ∧ w.grownBy w' (some bb) := by
  have r4 : cs[80]? = some (.slice none 0 0) := hr 8 (by decide) (by decide) 4 (by decide)
  have r7 : cs[83]? = some (.slice none 0 0) := hr 8 (by decide) (by decide) 7 (by decide)
  obtain ⟨x4, y4⟩ := bk_cell hB r4
  obtain ⟨x7, y7⟩ := bk_cell hB r7
  have HB : Hid (BkAt w bb cs) := hB
  have R4 : Hid (cs[80]? = some (.slice none 0 0)) := r4
  have R7 : Hid (cs[83]? = some (.slice none 0 0)) := r7
  clear hB hr r4 r7
  go_enter Tryz.func163, Tryz.ntmps163
  go_wp2
  go_loop [2] (fun i => i = .int .i64 0) (fun _ => 0)
  case atStart => rfl
  case round =>
    subst hrel
    go_wp2
    go_end0
    exact ⟨rfl, (HB.out.same R4.out).same R7.out, gb_set (gb_set (gb_refl _ _) _ _) _ _⟩
end Go.Proofs.YtkjeneklkdekoaaGreatDoor
