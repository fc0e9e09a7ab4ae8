import Derived.Test.YtkjeneklkdekoaaGreatDoorBtwo
import Derived.Deep.RegionWith
namespace Go.Proofs.YtkjeneklkdekoaaGreatDoor
open Go Go.RowKit
set_option linter.unusedSimpArgs false
set_option linter.unusedVariables false

set_option maxRecDepth 100000 in
set_option maxHeartbeats 1000000 in
theorem length_ok (rb g n cp : Nat) (z : Nat → Int) (v : Int) (k : Nat) (w : World) (hR : RdAt w rb (.slice (some ⟨g, 0, none⟩) n cp) 0 0 0) (hO : Own w g n z) (h2 : n ≤ cp) (h3 : n ≤ 1000000) (hgr : g ≠ rb) (hl : lenZ n z = (v, (k : Int), 0)) (hk : k ≤ n) (hn : 1 ≤ n) :
    Calls Tryz.prog 71 #[.pointer (some ⟨rb, 0, none⟩)] w fun e w' => e = .returned (.int .i64 v) ∧ RdAt w' rb (.slice (some ⟨g, 0, none⟩) n cp) k 0 0 ∧ w.grownBy w' (some rb) := by
  have hlt : rb < w.heap.size := lt_of_block hR
  have W0 : Hid (RdAt (w.alloc (.cells #[.pointer (some ⟨rb, 0, none⟩)] 55)) rb (.slice (some ⟨g, 0, none⟩) n cp) ((0 : Nat) : Int) 0 0) := hR.kept ((Below.refl _ _).alloc (Nat.le_refl _) _)
  have O0 : Hid (Own (w.alloc (.cells #[.pointer (some ⟨rb, 0, none⟩)] 55)) g n z) := hO.below ((Below.refl _ _).alloc (Nat.le_refl _) _)
  obtain ⟨_, c0, c1, c2, c3, f1, f2, f3⟩ := hR.facts
  have L0 : Hid (Calls Tryz.prog 115 #[.pointer (some ⟨rb, 0, none⟩)] (w.alloc (.cells #[.pointer (some ⟨rb, 0, none⟩)] 55)) fun e w' => e = .returned (.slice (some ⟨g, 0, none⟩) n cp) ∧ w' = (w.alloc (.cells #[.pointer (some ⟨rb, 0, none⟩)] 55)).drew) := by
    refine (left_ok rb g n cp 0 0 _ W0.out (by omega) h2 h3).mono ?_
    rintro e w' ⟨⟨ad, rfl, had⟩, rfl⟩
    obtain rfl := had (by omega)
    exact ⟨rfl, rfl⟩
  have N0 : Hid (Calls Tryz.prog 114 #[.slice (some ⟨g, 0, none⟩) n cp] (w.alloc (.cells #[.pointer (some ⟨rb, 0, none⟩)] 55)).drew fun e w' => e = .returned (.tuple #[.int .i64 v, .int .i64 k, .int .i64 0]) ∧ w' = (w.alloc (.cells #[.pointer (some ⟨rb, 0, none⟩)] 55)).drew) := by
    have t := wlen_any (some ⟨g, 0, none⟩) n cp z (w.alloc (.cells #[.pointer (some ⟨rb, 0, none⟩)] 55)).drew ⟨h2, O0.out.1, .inr ⟨g, 0, rfl, fun i hi => by rw [Nat.zero_add]; exact O0.out.2 i hi⟩⟩ h3
    rw [hl] at t
    exact t
  have T0 : Hid (Calls Tryz.prog 108 #[.pointer (some ⟨rb, 0, none⟩), .int .i64 k] (w.alloc (.cells #[.pointer (some ⟨rb, 0, none⟩)] 55)).drew fun e w' => (∃ ad, e = .returned (.slice (some ad) k cp)) ∧ RdAt w' rb (.slice (some ⟨g, 0, none⟩) n cp) k 0 0 ∧ (w.alloc (.cells #[.pointer (some ⟨rb, 0, none⟩)] 55)).grownBy w' (some rb)) := by
    refine (take_ok rb g n cp 0 k 0 (w.alloc (.cells #[.pointer (some ⟨rb, 0, none⟩)] 55)).drew W0.out h2 h3 (by omega)).mono ?_
    rintro e w' ⟨⟨ad, rfl, _⟩, h, h'⟩
    rw [Nat.zero_add] at h
    exact ⟨⟨ad, rfl⟩, h, gb_trans (gb_drew (gb_refl _ _)) h'⟩
  have hmf := hmf
  clear hR hO hl
  go_enter_defers Tryz.func71, Tryz.ntmps71
  go_wp2_with (first | (go_at_call 115; refine L0.out.mono ?_; rintro e w1 ⟨rfl, rfl⟩) | (go_at_call 114; refine N0.out.mono ?_; rintro e w2 ⟨rfl, rfl⟩) | (go_at_call 108; refine T0.out.mono ?_; rintro e w3 ⟨⟨ad, rfl⟩, hR1, hg1⟩))
  refine leaves_cons (f := 113) (args := #[.int .i64 0, .pointer (some ⟨w.heap.size, 0, none⟩)]) (by simp) (by simp [go_sem]) ?_
  refine (clo36_idle rb _ 0 _ (box_cell hlt hg1)).mono ?_
  rintro e u' w4 ⟨rfl, rfl, hb4⟩
  simp [Leaves, settle, results, Tryz.results71, go_sem]
  exact ⟨hR1.kept hb4, gb_trans (gb_trans (gb_alloc (gb_refl _ _) _) hg1) (gb_below hb4)⟩
end Go.Proofs.YtkjeneklkdekoaaGreatDoor
namespace Go.Proofs.YtkjeneklkdekoaaGreatDoor
open Go Go.RowKit
set_option linter.unusedSimpArgs false
set_option linter.unusedVariables false

set_option maxRecDepth 100000 in
set_option maxHeartbeats 1000000 in
theorem data_ok (rb g n cp L : Nat) (z : Nat → Int) (w : World) (hR : RdAt w rb (.slice (some ⟨g, 0, none⟩) n cp) 0 0 0) (hO : Own w g n z) (h2 : n ≤ cp) (h3 : n ≤ 800000) (hgr : g ≠ rb) (hL : z 0 * 256 + z 1 = L) (hn : 2 + L ≤ n) :
    Calls Tryz.prog 75 #[.pointer (some ⟨rb, 0, none⟩)] w fun e w' => ∃ g' c', e = .returned (.slice (some ⟨g', 0, none⟩) L c') ∧ Came w' (some ⟨g', 0, none⟩) L c' (fun i => z (2 + i)) ∧ RdAt w' rb (.slice (some ⟨g, 0, none⟩) n cp) ((2 + L : Nat) : Int) 0 0 ∧ w.grownBy w' (some rb) := by
  have hlt : rb < w.heap.size := lt_of_block hR
  have W0 : Hid (RdAt (w.alloc (.cells #[.pointer (some ⟨rb, 0, none⟩)] 55)).drew rb (.slice (some ⟨g, 0, none⟩) n cp) ((0 : Nat) : Int) 0 0) := hR.kept (((Below.refl _ _).alloc (Nat.le_refl _) _).drew)
  have O0 : Hid (Own (w.alloc (.cells #[.pointer (some ⟨rb, 0, none⟩)] 55)).drew g n z) := hO.below (((Below.refl _ _).alloc (Nat.le_refl _) _).drew)
  have hgr' : Hid (g ≠ rb) := hgr
  obtain ⟨_, c0, c1, c2, c3, f1, f2, f3⟩ := hR.facts
  have N0 : Hid (Calls Tryz.prog 111 #[.pointer (some ⟨rb, 0, none⟩), .int .i64 2] (w.alloc (.cells #[.pointer (some ⟨rb, 0, none⟩)] 55)).drew fun e w' => e = .returned (.int .i64 L) ∧ RdAt w' rb (.slice (some ⟨g, 0, none⟩) n cp) ((2 : Nat) : Int) 0 0 ∧ w'.cell? ⟨w.heap.size, 0, none⟩ = some (.pointer (some ⟨rb, 0, none⟩)) ∧ (w.alloc (.cells #[.pointer (some ⟨rb, 0, none⟩)] 55)).grownBy w' (some rb)) := by
    have h := num2_ok rb g n cp 0 0 (z 0) (z 1) _ W0.out h2 (by omega) (by omega) hgr (O0.out.1 _) (O0.out.1 _) (O0.out.2 0 (by omega)) (O0.out.2 1 (by omega))
    rw [hL] at h
    refine h.mono ?_
    rintro e w' ⟨rfl, q1, q2⟩
    have q3 := gb_trans (gb_drew (gb_refl (w.alloc (.cells #[.pointer (some ⟨rb, 0, none⟩)] 55)) (some rb))) q2
    exact ⟨rfl, q1, box_cell hlt q3, q3⟩
  have T0 : Hid (∀ w1, RdAt w1 rb (.slice (some ⟨g, 0, none⟩) n cp) ((2 : Nat) : Int) 0 0 → (w.alloc (.cells #[.pointer (some ⟨rb, 0, none⟩)] 55)).grownBy w1 (some rb) → Calls Tryz.prog 108 #[.pointer (some ⟨rb, 0, none⟩), .int .i64 L] w1 fun e w' => (∃ ad, e = .returned (.slice (some ad) L (cp - 2)) ∧ Came w' (some ad) L (cp - 2) (fun i => z (2 + i))) ∧ RdAt w' rb (.slice (some ⟨g, 0, none⟩) n cp) ((2 + L : Nat) : Int) 0 0 ∧ (w.alloc (.cells #[.pointer (some ⟨rb, 0, none⟩)] 55)).grownBy w' (some rb)) := by
    intro w1 r1 b1
    refine (take_ok rb g n cp 2 L 0 w1 r1 h2 (by omega) hn).mono ?_
    rintro e w' ⟨⟨ad, rfl, had⟩, q1, q2⟩
    have q3 := gb_trans b1 q2
    refine ⟨⟨ad, rfl, by omega, fun i => O0.out.1 _, .inr ⟨ad, rfl, fun i hi => ?_⟩⟩, q1, q3⟩
    obtain rfl := had (by omega)
    rw [plain_add]
    have q4 := (Own.grown (w := w.alloc (.cells #[.pointer (some ⟨rb, 0, none⟩)] 55)) O0.out q3 hgr).2 (2 + i) (by omega)
    exact q4
  have C0 : Hid (∀ w2 ad, Came w2 (some ad) L (cp - 2) (fun i => z (2 + i)) → RdAt w2 rb (.slice (some ⟨g, 0, none⟩) n cp) ((2 + L : Nat) : Int) 0 0 → (w.alloc (.cells #[.pointer (some ⟨rb, 0, none⟩)] 55)).grownBy w2 (some rb) → Calls Tryz.prog 60 #[.slice (some ad) L (cp - 2)] w2 fun e w' => ∃ g' c', e = .returned (.slice (some ⟨g', 0, none⟩) L c') ∧ Came w' (some ⟨g', 0, none⟩) L c' (fun i => z (2 + i)) ∧ RdAt w' rb (.slice (some ⟨g, 0, none⟩) n cp) ((2 + L : Nat) : Int) 0 0 ∧ (w.alloc (.cells #[.pointer (some ⟨rb, 0, none⟩)] 55)).grownBy w' (some rb)) := by
    intro w2 ad cm r2 b2
    refine (clone_some ad L (cp - 2) _ w2 cm (by omega)).mono ?_
    rintro e w' ⟨g', c', rfl, ho, hb⟩
    exact ⟨g', c', rfl, made_came (w := w) ho (fun i => O0.out.1 _), r2.kept hb, gb_trans b2 (gb_below hb)⟩
  have FIN : Hid (∀ w3 g' c', Came w3 (some ⟨g', 0, none⟩) L c' (fun i => z (2 + i)) → RdAt w3 rb (.slice (some ⟨g, 0, none⟩) n cp) ((2 + L : Nat) : Int) 0 0 → (w.alloc (.cells #[.pointer (some ⟨rb, 0, none⟩)] 55)).grownBy w3 (some rb) → ∀ w4, Below w3.heap.size w3 w4 → Came w4 (some ⟨g', 0, none⟩) L c' (fun i => z (2 + i)) ∧ RdAt w4 rb (.slice (some ⟨g, 0, none⟩) n cp) ((2 + L : Nat) : Int) 0 0 ∧ w.grownBy w4 (some rb)) :=
    fun w3 g' c' cm r3 b3 w4 hb => ⟨came_below (B := 0) cm hb, r3.kept hb, gb_trans (gb_trans (gb_alloc (gb_refl _ _) _) b3) (gb_below hb)⟩
  have hmf := hmf
  clear hR hO hL hgr
  go_enter_defers Tryz.func75, Tryz.ntmps75
  go_wp2
  first | go_region_with (first | (go_at_call 111; refine N0.out.mono ?_; rintro e w1 ⟨rfl, hR1, bx1, hg1⟩; have Y1 : Hid (RdAt w1 rb (.slice (some ⟨g, 0, none⟩) n cp) ((2 : Nat) : Int) 0 0 ∧ (w.alloc (.cells #[.pointer (some ⟨rb, 0, none⟩)] 55)).grownBy w1 (some rb)) := ⟨hR1, hg1⟩; clear hR1 hg1) | (go_at_call 108; (refine (T0.out _ Y1.out.1 Y1.out.2).mono ?_; rintro e w2 ⟨⟨ad, rfl, hcm⟩, hR2, hg2⟩; have Y2 : Hid (Came w2 (some ad) L (cp - 2) (fun i => z (2 + i)) ∧ RdAt w2 rb (.slice (some ⟨g, 0, none⟩) n cp) ((2 + L : Nat) : Int) 0 0 ∧ (w.alloc (.cells #[.pointer (some ⟨rb, 0, none⟩)] 55)).grownBy w2 (some rb)) := ⟨hcm, hR2, hg2⟩; clear hR2 hg2 hcm)) | (go_at_call 60; (refine (C0.out _ _ Y2.out.1 Y2.out.2.1 Y2.out.2.2).mono ?_; rintro e w3 ⟨g', c', rfl, hcm3, hR3, hg3⟩; have bx3 := box_cell hlt hg3; have Y3 : Hid (∀ w4, Below w3.heap.size w3 w4 → Came w4 (some ⟨g', 0, none⟩) L c' (fun i => z (2 + i)) ∧ RdAt w4 rb (.slice (some ⟨g, 0, none⟩) n cp) ((2 + L : Nat) : Int) 0 0 ∧ w.grownBy w4 (some rb)) := FIN.out w3 g' c' hcm3 hR3 hg3; clear hcm3 hR3 hg3))) | fail
  all_goals go_wp2
  all_goals refine leaves_cons (f := 120) (args := #[.int .i64 0, .pointer (some ⟨w.heap.size, 0, none⟩)]) (by simp) (by simp [go_sem]) ?_
  all_goals refine (clo40_idle rb _ 0 _ bx3).mono ?_
  all_goals rintro e u' w4 ⟨rfl, rfl, hb4⟩
  all_goals obtain ⟨q1, q2, q3⟩ := Y3.out w4 hb4
  all_goals simp only [Leaves, settle, results, Tryz.results75, go_sem]
  all_goals first | exact ⟨g', c', rfl, q1, q2, q3⟩ | (simp [Leaves, settle, results, Tryz.results75, go_sem]; exact ⟨g', c', ⟨rfl, rfl⟩, q1, q2, q3⟩)
end Go.Proofs.YtkjeneklkdekoaaGreatDoor
namespace Go.Proofs.YtkjeneklkdekoaaGreatDoor
open Go Go.RowKit
set_option linter.unusedSimpArgs false
set_option linter.unusedVariables false
set_option maxRecDepth 100000 in
set_option maxHeartbeats 1000000 in
theorem putLength_low (a0 : Option Addr) (l0 k0 : Nat) (z0 : Nat → Int) (n : Int) (hn : n < 0) (m : Int) (hm : m = 0) (w : World) (h0 : Came w a0 l0 k0 z0) (hl0 : l0 ≤ 300000) :
    Calls Tryz.prog 19 #[.slice a0 l0 k0, .int .i64 n] w fun e w' => Made w w' e (l0 + kn m) (cellsOf z0 l0 ++ cellsOf (glZ m) (kn m)) := by
  obtain ⟨i0, hi, hz0, hz1, hz2⟩ := info_parts Tryz.info5
  have HC : Hid (Came w a0 l0 k0 z0) := h0
  clear h0
  have hkb := kn_bd m
  have hm0 : 0 ≤ m := by omega
  have hm1 : m ≤ 268435455 := by omega
  have HM : Hid (m = 0) := hm
  have n1 : n ≤ 0 := by omega
  have n2 : ¬ 0 < n := by omega
  have n3 : ¬ 0 ≤ n := by omega
  have n4 : n < 0 := by omega
  clear hm
  go_enter Tryz.func19, Tryz.ntmps19
  go_wp2
  clear n1 n2 n3 n4
  go_loopw [1, 5] (fun n v wr => ∃ j : Nat, j < kn m ∧ n = .int .i64 (qn m j) ∧ wr.ownsRow w.heap.size 5 1 v j (cellsOf (glZ m) j) ∧ Below w.heap.size w wr) (fun n _ _ => (intOf n).toNat)
  case atStart => exact ⟨0, by omega, by rw [show qn m 0 = m from rfl, HM.out], World.ownsRow_nil _ _ _ _, Below.refl _ _⟩
  case round =>
    obtain ⟨j, hj, rfl, ho, hbel⟩ := hrel
    have hq := qn_more m hm0 hm1 j hj
    have HO : Hid (wr.ownsRow w.heap.size 5 1 u5 j (cellsOf (glZ m) j)) := ho
    have HB : Hid (Below w.heap.size w wr) := hbel
    have HG : Hid (glZ m j = if j + 1 < kn m then qn m j % 128 + 128 else qn m j) := by
      show glZ m j = _
      unfold glZ
      split
      · rfl
      · rw [if_pos (by omega)]
    have HQ : Hid (qn m (j + 1) = qn m j / 128) := rfl
    obtain ⟨x, hx⟩ : ∃ x, qn m j = x := ⟨_, rfl⟩
    rw [hx] at hq ⊢
    have HX : Hid (qn m j = x) := hx
    clear ho hbel hx
    obtain ⟨hq0, hq1, hq2⟩ := hq
    have f1 := and127i x hq0 hq1
    have f2 := or128i x
    by_cases hlt : 127 < x
    · have hj1 : j + 1 < kn m := hq2.1 hlt
      have hw : (x % 128 + 128) % 256 = x % 128 + 128 := by omega
      clear hq2
      go_wp2_with (at_builtin; refine wpList_append_own _ rfl (.tmp 11) (.tmp 16) 22 rfl w.heap.size 5 i0 (.int .u8 0) 1 1 Tryz.underlying22 hi hz0 hz1 hz2 rfl (by decide) _ _ _ rfl (HO.out.alloc _) ⟨_, 0, none⟩ 1 1 [.int .u8 (x % 128 + 128)] rfl rfl ?d1 ?d2 ?d3 ?d4 ?d5 ?_)
      case d1 => exact cell_one_new _ _ _
      case d2 => intro u hu; simp at hu; subst hu; rfl
      case d3 => unfold maxLen; omega
      case d4 => omega
      case d5 => have := HB.out.size; simp; omega
      intro v2 w2 hown2 hgrow2 hnil2
      have hb2 := (HB.out.alloc HB.out.size _).grown hgrow2 (by have := HB.out.size; simp; omega) (by intro q hq; exact (HO.out.lt _ hq).1)
      have HS2 : Hid (w2.ownsRow w.heap.size 5 1 v2 (j + 1) (cellsOf (glZ m) (j + 1)) ∧ Below w.heap.size w w2) := ⟨by rw [cellsOf_succ, HG.out, if_pos hj1, HX.out]; exact hown2, hb2⟩
      clear hown2 hgrow2 hnil2 hb2
      go_wp2
      go_roundw
      case rel => exact ⟨j + 1, hj1, by rw [HQ.out, HX.out], HS2.out.1, HS2.out.2⟩
      case measure => simp [intOf]; omega
    · have hj1 : j + 1 = kn m := by omega
      have hw : x % 256 = x := by omega
      have HJ : Hid (j + 1 = kn m) := hj1
      clear hq2 hj1 f1 f2
      go_wp2_with (at_builtin; refine wpList_append_own _ rfl (.tmp 21) (.tmp 24) 22 rfl w.heap.size 5 i0 (.int .u8 0) 1 1 Tryz.underlying22 hi hz0 hz1 hz2 rfl (by decide) _ _ _ rfl (HO.out.alloc _) ⟨_, 0, none⟩ 1 1 [.int .u8 x] rfl rfl ?e1 ?e2 ?e3 ?e4 ?e5 ?_)
      case e2 => first | rfl | (intro u hu; simp at hu; subst hu; rfl)
      case e3 => unfold maxLen; omega
      case e4 => omega
      case e5 => have := HB.out.size; first | omega | (simp; omega)
      intro v2 w2 hown2 hgrow2 hnil2
      have hb2 := (HB.out.alloc HB.out.size _).grown hgrow2 (by have := HB.out.size; simp; omega) (by intro q hq; exact (HO.out.lt _ hq).1)
      have hex : ∃ g cp, v2 = .slice (some ⟨g, 0, none⟩) (j + 1) cp := by
        obtain ⟨_, h | ⟨g, cp, cur, hv, _⟩⟩ := hown2
        · exact absurd h.1 (by simpa using hnil2)
        · exact ⟨g, cp, hv⟩
      obtain ⟨g2, cp2, rfl⟩ := hex
      have hown3 : w2.ownsRow w.heap.size 5 1 (.slice (some ⟨g2, 0, none⟩) (j + 1) cp2) (j + 1) (cellsOf (glZ m) (j + 1)) := by
        rw [cellsOf_succ, HG.out, if_neg (by have := HJ.out; omega), HX.out]
        exact hown2
      have hcm := made_came (w := w) hown3 (glZ_bd m hm0 hm1)
      have B0 : Hid (Calls Tryz.prog 82 #[.slice a0 l0 k0, .slice (some ⟨g2, 0, none⟩) (j + 1) cp2] w2 fun e w' => Made w w' e (l0 + kn m) (cellsOf z0 l0 ++ cellsOf (glZ m) (kn m))) := by
        have h := behind_any a0 ⟨g2, 0, none⟩ l0 k0 (j + 1) cp2 z0 (glZ m) w2 (came_below (B := 0) HC.out hb2) hcm (by omega) (by omega) (by omega)
        rw [HJ.out] at h ⊢
        exact h.mono fun e w' h => made_below hb2 h
      clear hown2 hgrow2 hnil2 hb2 hown3 hcm
      go_wp2_with (go_at_call 82; refine B0.out.mono ?_; rintro e w' ⟨g, cp, rfl, ho, hb⟩)
      go_ret
      exact ⟨g, cp, rfl, ho, hb⟩

set_option maxRecDepth 100000 in
set_option maxHeartbeats 1000000 in
theorem putLength_high (a0 : Option Addr) (l0 k0 : Nat) (z0 : Nat → Int) (n : Int) (hn : 268435455 < n) (m : Int) (hm : m = 268435455) (w : World) (h0 : Came w a0 l0 k0 z0) (hl0 : l0 ≤ 300000) :
    Calls Tryz.prog 19 #[.slice a0 l0 k0, .int .i64 n] w fun e w' => Made w w' e (l0 + kn m) (cellsOf z0 l0 ++ cellsOf (glZ m) (kn m)) := by
  obtain ⟨i0, hi, hz0, hz1, hz2⟩ := info_parts Tryz.info5
  have HC : Hid (Came w a0 l0 k0 z0) := h0
  clear h0
  have hkb := kn_bd m
  have hm0 : 0 ≤ m := by omega
  have hm1 : m ≤ 268435455 := by omega
  have HM : Hid (m = 268435455) := hm
  have n1 : 0 ≤ n := by omega
  have n2 : 0 < n := by omega
  have n3 : ¬ n < 0 := by omega
  have n4 : ¬ n ≤ 0 := by omega
  have n5 : ¬ n ≤ 268435455 := by omega
  have n6 : 268435455 ≤ n := by omega
  have n7 : ¬ n < 268435455 := by omega
  clear hm
  go_enter Tryz.func19, Tryz.ntmps19
  go_wp2
  clear n1 n2 n3 n4
  go_loopw [1, 5] (fun n v wr => ∃ j : Nat, j < kn m ∧ n = .int .i64 (qn m j) ∧ wr.ownsRow w.heap.size 5 1 v j (cellsOf (glZ m) j) ∧ Below w.heap.size w wr) (fun n _ _ => (intOf n).toNat)
  case atStart => exact ⟨0, by omega, by rw [show qn m 0 = m from rfl, HM.out], World.ownsRow_nil _ _ _ _, Below.refl _ _⟩
  case round =>
    obtain ⟨j, hj, rfl, ho, hbel⟩ := hrel
    have hq := qn_more m hm0 hm1 j hj
    have HO : Hid (wr.ownsRow w.heap.size 5 1 u5 j (cellsOf (glZ m) j)) := ho
    have HB : Hid (Below w.heap.size w wr) := hbel
    have HG : Hid (glZ m j = if j + 1 < kn m then qn m j % 128 + 128 else qn m j) := by
      show glZ m j = _
      unfold glZ
      split
      · rfl
      · rw [if_pos (by omega)]
    have HQ : Hid (qn m (j + 1) = qn m j / 128) := rfl
    obtain ⟨x, hx⟩ : ∃ x, qn m j = x := ⟨_, rfl⟩
    rw [hx] at hq ⊢
    have HX : Hid (qn m j = x) := hx
    clear ho hbel hx
    obtain ⟨hq0, hq1, hq2⟩ := hq
    have f1 := and127i x hq0 hq1
    have f2 := or128i x
    by_cases hlt : 127 < x
    · have hj1 : j + 1 < kn m := hq2.1 hlt
      have hw : (x % 128 + 128) % 256 = x % 128 + 128 := by omega
      clear hq2
      go_wp2_with (at_builtin; refine wpList_append_own _ rfl (.tmp 11) (.tmp 16) 22 rfl w.heap.size 5 i0 (.int .u8 0) 1 1 Tryz.underlying22 hi hz0 hz1 hz2 rfl (by decide) _ _ _ rfl (HO.out.alloc _) ⟨_, 0, none⟩ 1 1 [.int .u8 (x % 128 + 128)] rfl rfl ?d1 ?d2 ?d3 ?d4 ?d5 ?_)
      case d1 => exact cell_one_new _ _ _
      case d2 => intro u hu; simp at hu; subst hu; rfl
      case d3 => unfold maxLen; omega
      case d4 => omega
      case d5 => have := HB.out.size; simp; omega
      intro v2 w2 hown2 hgrow2 hnil2
      have hb2 := (HB.out.alloc HB.out.size _).grown hgrow2 (by have := HB.out.size; simp; omega) (by intro q hq; exact (HO.out.lt _ hq).1)
      have HS2 : Hid (w2.ownsRow w.heap.size 5 1 v2 (j + 1) (cellsOf (glZ m) (j + 1)) ∧ Below w.heap.size w w2) := ⟨by rw [cellsOf_succ, HG.out, if_pos hj1, HX.out]; exact hown2, hb2⟩
      clear hown2 hgrow2 hnil2 hb2
      go_wp2
      go_roundw
      case rel => exact ⟨j + 1, hj1, by rw [HQ.out, HX.out], HS2.out.1, HS2.out.2⟩
      case measure => simp [intOf]; omega
    · have hj1 : j + 1 = kn m := by omega
      have hw : x % 256 = x := by omega
      have HJ : Hid (j + 1 = kn m) := hj1
      clear hq2 hj1 f1 f2
      go_wp2_with (at_builtin; refine wpList_append_own _ rfl (.tmp 21) (.tmp 24) 22 rfl w.heap.size 5 i0 (.int .u8 0) 1 1 Tryz.underlying22 hi hz0 hz1 hz2 rfl (by decide) _ _ _ rfl (HO.out.alloc _) ⟨_, 0, none⟩ 1 1 [.int .u8 x] rfl rfl ?e1 ?e2 ?e3 ?e4 ?e5 ?_)
      case e2 => first | rfl | (intro u hu; simp at hu; subst hu; rfl)
      case e3 => unfold maxLen; omega
      case e4 => omega
      case e5 => have := HB.out.size; first | omega | (simp; omega)
      intro v2 w2 hown2 hgrow2 hnil2
      have hb2 := (HB.out.alloc HB.out.size _).grown hgrow2 (by have := HB.out.size; simp; omega) (by intro q hq; exact (HO.out.lt _ hq).1)
      have hex : ∃ g cp, v2 = .slice (some ⟨g, 0, none⟩) (j + 1) cp := by
        obtain ⟨_, h | ⟨g, cp, cur, hv, _⟩⟩ := hown2
        · exact absurd h.1 (by simpa using hnil2)
        · exact ⟨g, cp, hv⟩
      obtain ⟨g2, cp2, rfl⟩ := hex
      have hown3 : w2.ownsRow w.heap.size 5 1 (.slice (some ⟨g2, 0, none⟩) (j + 1) cp2) (j + 1) (cellsOf (glZ m) (j + 1)) := by
        rw [cellsOf_succ, HG.out, if_neg (by have := HJ.out; omega), HX.out]
        exact hown2
      have hcm := made_came (w := w) hown3 (glZ_bd m hm0 hm1)
      have B0 : Hid (Calls Tryz.prog 82 #[.slice a0 l0 k0, .slice (some ⟨g2, 0, none⟩) (j + 1) cp2] w2 fun e w' => Made w w' e (l0 + kn m) (cellsOf z0 l0 ++ cellsOf (glZ m) (kn m))) := by
        have h := behind_any a0 ⟨g2, 0, none⟩ l0 k0 (j + 1) cp2 z0 (glZ m) w2 (came_below (B := 0) HC.out hb2) hcm (by omega) (by omega) (by omega)
        rw [HJ.out] at h ⊢
        exact h.mono fun e w' h => made_below hb2 h
      clear hown2 hgrow2 hnil2 hb2 hown3 hcm
      go_wp2_with (go_at_call 82; refine B0.out.mono ?_; rintro e w' ⟨g, cp, rfl, ho, hb⟩)
      go_ret
      exact ⟨g, cp, rfl, ho, hb⟩

theorem came_own {w' : World} {g n cp base : Nat} {z z' : Nat → Int} {xs : List Value} (ho : w'.ownsRow base 5 1 (.slice (some ⟨g, 0, none⟩) n cp) n xs) (hx : xs = cellsOf z n) (hz : ∀ i, 0 ≤ z i ∧ z i ≤ 255) : Came w' (some ⟨g, 0, none⟩) n cp z := by
  subst hx
  exact made_came (w := w') ho hz

set_option maxRecDepth 100000 in
set_option maxHeartbeats 1000000 in
theorem putData_ok (a : Option Addr) (l k : Nat) (z : Nat → Int) (w : World) (h : Came w a l k z) (hl : l ≤ 65535) :
    Calls Tryz.prog 21 #[.slice none 0 0, .slice a l k] w fun e w' => ∃ g cp, e = .returned (.tuple #[.slice (some ⟨g, 0, none⟩) (2 + l) cp, .int .i64 0]) ∧ Came w' (some ⟨g, 0, none⟩) (2 + l) cp (cat (numZ l) 2 z) ∧ Below w.heap.size w w' := by
  obtain ⟨i0, hi, hz0, hz1, hz2⟩ := info_parts Tryz.info5
  have P0 : Hid (Calls Tryz.prog 17 #[.slice none 0 0, .int .i64 l] w fun e w' => ∃ g cp, e = .returned (.slice (some ⟨g, 0, none⟩) 2 cp) ∧ w'.ownsRow w.heap.size 5 1 (.slice (some ⟨g, 0, none⟩) 2 cp) 2 (cellsOf (numZ l) 2) ∧ Below w.heap.size w w') := by
    refine (putNumber_any none 0 0 (lZ []) l w (nil_came _ _ (lZ_bd _ (by decide))) (by decide)).mono ?_
    rintro e w' ⟨g, cp, rfl, ho, hb⟩
    exact ⟨g, cp, rfl, ho, hb⟩
  have h1 : ¬ (65535 : Int) < l := by omega
  have HC : Hid (∀ w', Below w.heap.size w w' → Came w' a l k z) := fun w' hb => came_below (B := 0) h hb
  have HN : Hid (a = none → l = 0 ∧ k = 0) := by rintro rfl; exact came_nil h
  have HZ : Hid (∀ i, 0 ≤ z i ∧ z i ≤ 255) := h.2.1
  clear h
  cases a with
  | none =>
    obtain ⟨rfl, rfl⟩ := HN.out rfl
    go_enter Tryz.func21, Tryz.ntmps21
    go_wp2_with (first | (go_at_call 17; refine P0.out.mono ?_; rintro e w1 ⟨g, cp, rfl, ho, hb⟩; have HO : Hid (w1.ownsRow w.heap.size 5 1 (.slice (some ⟨g, 0, none⟩) 2 cp) 2 (cellsOf (numZ (0 : Nat)) 2)) := ho; have HB : Hid (Below w.heap.size w w1) := hb; clear ho hb) | (at_builtin; refine wpList_append_own_none rfl (.tmp 12) (.tmp 13) 22 rfl w.heap.size 5 i0 1 Tryz.underlying22 hi _ 2 (cellsOf (numZ (0 : Nat)) 2) rfl HO.out rfl ?_))
    go_ret2
    refine ⟨g, cp, rfl, ?_, HB.out⟩
    refine came_own (z' := z) HO.out ?_ (cat_bd (numZ_bd _) HZ.out)
    exact cellsOf_congr _ _ _ fun i hi => by simp [cat, hi]
  | some ad =>
    go_enter Tryz.func21, Tryz.ntmps21
    go_wp2_with (first | (go_at_call 17; refine P0.out.mono ?_; rintro e w1 ⟨g, cp, rfl, ho, hb⟩; have HO : Hid (w1.ownsRow w.heap.size 5 1 (.slice (some ⟨g, 0, none⟩) 2 cp) 2 (cellsOf (numZ l) 2)) := ho; have HB : Hid (Below w.heap.size w w1) := hb; clear ho hb) | (at_builtin; refine wpList_append_own _ rfl (.tmp 12) (.tmp 13) 22 rfl w.heap.size 5 i0 (.int .u8 0) 1 1 Tryz.underlying22 hi hz0 hz1 hz2 rfl (by decide) _ _ _ rfl HO.out ad l k (cellsOf z l) rfl ?c0 ?c1 ?c2 ?c3 ?c4 ?c5 ?_))
    case c0 => simp [cellsOf]
    case c1 => exact came_cells (HC.out _ HB.out)
    case c2 => exact fun u hu => cellsOf_one z l u hu
    case c3 => unfold maxLen; omega
    case c4 => omega
    case c5 => exact HB.out.size
    intro v3 w3 hown3 hgrow3 hnil3
    have hb3 := HB.out.grown hgrow3 HB.out.size (fun q hq => (HO.out.lt q hq).1)
    have hex : ∃ g cp, v3 = .slice (some ⟨g, 0, none⟩) (2 + l) cp := by
      obtain ⟨_, h | ⟨g, cp, cur, hv, _⟩⟩ := hown3
      · exact absurd h.1 (by simpa using hnil3)
      · exact ⟨g, cp, hv⟩
    obtain ⟨g3, cp3, rfl⟩ := hex
    have HS : Hid (Came w3 (some ⟨g3, 0, none⟩) (2 + l) cp3 (cat (numZ l) 2 z) ∧ Below w.heap.size w w3) := ⟨came_own (z' := z) hown3 (cells_cat (numZ l) z 2 l) (cat_bd (numZ_bd _) HZ.out), hb3⟩
    clear hown3 hgrow3 hnil3 hb3
    go_wp2
    go_ret2
    exact ⟨g3, cp3, rfl, HS.out.1, HS.out.2⟩
end Go.Proofs.YtkjeneklkdekoaaGreatDoor
