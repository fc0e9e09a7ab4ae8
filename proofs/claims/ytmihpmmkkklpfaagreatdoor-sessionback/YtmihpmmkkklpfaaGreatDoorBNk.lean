import Derived.Test.YtmihpmmkkklpfaaGreatDoorBSc
namespace Go.Proofs.YtmihpmmkkklpfaaGreatDoor
open Go Go.RowKit
set_option linter.unusedSimpArgs false
set_option linter.unusedVariables false
set_option maxRecDepth 100000 in
set_option maxHeartbeats 1000000 in
theorem length_any {w : World} {wb k gone lc : Nat} {la : Option Addr} (c6 : w.cell? ⟨wb, 6, none⟩ = some (.slice la k lc)) (c7 : w.cell? ⟨wb, 7, none⟩ = some (.int .i64 gone)) (hk : k ≤ 1000000) (hg : gone ≤ k) :
    Calls Tryz.prog 74 #[.pointer (some ⟨wb, 6, none⟩)] w fun e w' => e = .returned (.int .i64 ((k - gone : Nat) : Int)) ∧ ∃ m, w' = w.drewN m := by
  have hw : IntKind.i64.wrap ((k : Int) - (gone : Int)) = ((k - gone : Nat) : Int) := by rw [IntKind.wrap_i64]; omega
  generalize hm : k - gone = mm at *
  clear hm
  go_enter Tryz.func74, Tryz.ntmps74
  go_wp2_with fail
  go_quiet (fail)
  go_wp2_with fail
  go_ret
  exact ⟨by simp, _, rfl⟩
def zap (cur : Array Value) (i : Nat) : Array Value := (((cur.setIfInBounds i (.string ⟨#[]⟩)).setIfInBounds (i + 1) (.slice none 0 0)).setIfInBounds (i + 2) (.int .i64 0)).setIfInBounds (i + 3) (.bool false)
set_option maxRecDepth 100000 in
set_option maxHeartbeats 2000000 in
theorem next_walk {w : World} {wb g k gone cap t0 : Nat} {cs cur : Array Value} {t : ByteArray} {a : Option Addr} {n c : Nat} {q : Int} {r : Bool} (hB : w.heap[wb]? = some (.cells cs t0 (0, 0))) (h6 : cs[6]? = some (.slice (some ⟨g, 0, none⟩) k cap)) (h7 : cs[7]? = some (.int .i64 gone)) (hk : k ≤ 1000000) (hg : gone < k) (hcap : k ≤ cap)
    (hwg : wb ≠ g) (hG : w.heap[g]? = some (.cells cur 45 (0, 0)))
    (g0 : cur[gone * 4]? = some (.string t)) (g1 : cur[gone * 4 + 1]? = some (.slice a n c)) (g2 : cur[gone * 4 + 2]? = some (.int .i64 q)) (g3 : cur[gone * 4 + 3]? = some (.bool r))
    {R : World → Prop}
    (hR1 : k ≤ 2 * (gone + 1) → ∀ w4, Ch (fun j => j = g ∨ j = wb) w w4 → w4.heap[wb]? = some (.cells (cs.setIfInBounds 7 (.int .i64 ((gone + 1 : Nat) : Int))) t0 (0, 0)) → w4.heap[g]? = some (.cells (zap cur (gone * 4)) 45 (0, 0)) → w.heap.size < w4.heap.size → ∀ ad : Addr, (cap = gone + 1 ∧ ad = ⟨g, 0, none⟩ ∨ cap ≠ gone + 1 ∧ ad = ⟨g, (gone + 1) * 4, none⟩) →
      ∃ v' w5, (Builtin.append_ #[29, 29] 29 #[.slice none 0 0, .slice (some ad) (k - (gone + 1)) (cap - (gone + 1))]).run Tryz.prog w4 = .ok v' w5 ∧ (∃ la ln lc, v' = .slice la ln lc) ∧ Below w4.heap.size w4 w5 ∧ ∀ w6, Ch (fun j => j = wb ∨ w.heap.size = j) w5 w6 → w6.heap[wb]? = some (.cells ((((cs.setIfInBounds 7 (.int .i64 ((gone + 1 : Nat) : Int))).setIfInBounds 6 v')).setIfInBounds 7 (.int .i64 0)) t0 (0, 0)) → R w6)
    (hR2 : 2 * (gone + 1) < k → ∀ w6, Ch (fun j => j = g ∨ j = wb) w w6 → w6.heap[wb]? = some (.cells (cs.setIfInBounds 7 (.int .i64 ((gone + 1 : Nat) : Int))) t0 (0, 0)) → w6.heap[g]? = some (.cells (zap cur (gone * 4)) 45 (0, 0)) → R w6) :
    Calls Tryz.prog 76 #[.pointer (some ⟨wb, 6, none⟩)] w fun e w' => e = .returned (mg t (.slice a n c) q r) ∧ R w' := by
  have hlt : (gone : Int) < (k : Int) := by omega
  have hge : (0 : Int) ≤ (gone : Int) := by omega
  have hgw : g ≠ wb := hwg.symm
  have hwl : wb < w.heap.size := (Array.getElem?_eq_some_iff.1 hB).1
  have hgl : g < w.heap.size := (Array.getElem?_eq_some_iff.1 hG).1
  have c6 := box_cells hB 6 _ h6
  have c7 := box_cells hB 7 _ h7
  have m0 := box_cells hG _ _ g0
  have m1 := box_cells hG _ _ g1
  have m2 := box_cells hG _ _ g2
  have m3 := box_cells hG _ _ g3
  have HR1 : Hid _ := hR1
  have HR2 : Hid _ := hR2
  have HB : Hid (w.heap[wb]? = some (.cells cs t0 (0, 0))) := hB
  have HG : Hid (w.heap[g]? = some (.cells cur 45 (0, 0))) := hG
  have H6 : Hid (cs[6]? = some (.slice (some ⟨g, 0, none⟩) k cap)) := h6
  have H7 : Hid (cs[7]? = some (.int .i64 gone)) := h7
  clear hR1 hR2 hB hG h6 h7 g0 g1 g2 g3
  unfold mg
  go_enter Tryz.func76, Tryz.ntmps76
  go_wp2_with fail
  go_region
  obtain ⟨w1, hw1⟩ : ∃ w1, w1 = ((w.alloc (.cells #[.string ⟨#[]⟩, .slice none 0 0, .int .i64 0, .bool false] 45)).alloc (.cells #[.string t, .slice a n c, .int .i64 q, .bool r] 45)).drew := ⟨_, rfl⟩
  rw [← hw1]
  have B1 : Below w.heap.size w w1 := by rw [hw1]; exact (two_below w _ _).drew
  obtain ⟨a1, a2, a3⟩ := two_alloc w (.cells #[.string ⟨#[]⟩, .slice none 0 0, .int .i64 0, .bool false] 45) (.cells #[.string t, .slice a n c, .int .i64 q, .bool r] 45)
  have A1 : Hid (w1.heap[w.heap.size]? = some (.cells #[.string ⟨#[]⟩, .slice none 0 0, .int .i64 0, .bool false] 45 (0, 0))) := by rw [hw1]; exact a1
  have A2 : Hid (w1.heap[w.heap.size + 1]? = some (.cells #[.string t, .slice a n c, .int .i64 q, .bool r] 45 (0, 0))) := by rw [hw1]; exact a2
  have HB1 : Hid (Below w.heap.size w w1) := B1
  have b1 : w1.heap[wb]? = some (.cells cs t0 (0, 0)) := (B1.block wb hwl).trans HB.out
  have b2 : w1.heap[g]? = some (.cells cur 45 (0, 0)) := (B1.block g hgl).trans HG.out
  have p6 := box_cells b1 6 _ H6.out
  have p7 := box_cells b1 7 _ H7.out
  have r0 := (B1.cell (p := ⟨g, gone * 4, none⟩) hgl).trans m0
  have r1 := (B1.cell (p := ⟨g, gone * 4 + 1, none⟩) hgl).trans m1
  have r2 := (B1.cell (p := ⟨g, gone * 4 + 2, none⟩) hgl).trans m2
  have r3 := (B1.cell (p := ⟨g, gone * 4 + 3, none⟩) hgl).trans m3
  have s0 := box_frozen b2
  have s1 := box_frozen b1
  have hwv : IntKind.i64.wrap ((gone : Int) + 1) = ((gone + 1 : Nat) : Int) := by rw [IntKind.wrap_i64]; omega
  have hwm : IntKind.i64.wrap (2 * ((gone + 1 : Nat) : Int)) = ((2 * (gone + 1) : Nat) : Int) := by rw [IntKind.wrap_i64]; omega
  have D1 : Hid (w1.heap[wb]? = some (.cells cs t0 (0, 0))) := b1
  have D2 : Hid (w1.heap[g]? = some (.cells cur 45 (0, 0))) := b2
  clear hw1 B1 a1 a2 a3 c6 c7 m0 m1 m2 m3 b1 b2
  generalize hgn : gone + 1 = gn at *
  go_wp2_with fail
  go_region
  go_wp2_with fail
  obtain ⟨w3, hw3⟩ : ∃ w3, w3 = (((((w1.setCell ⟨g, gone * 4, none⟩ (.string ⟨#[]⟩)).setCell ⟨g, gone * 4 + 1, none⟩ (.slice none 0 0)).setCell ⟨g, gone * 4 + 2, none⟩ (.int .i64 0)).setCell ⟨g, gone * 4 + 3, none⟩ (.bool false)).setCell ⟨wb, 7, none⟩ (.int .i64 (gn : Int))).drew := ⟨_, rfl⟩
  rw [← hw3]
  have E1 : w3.heap[wb]? = some (.cells (cs.setIfInBounds 7 (.int .i64 (gn : Int))) t0 (0, 0)) := by
    rw [hw3]
    exact heap_set (by rw [heap_set_ne _ hwg, heap_set_ne _ hwg, heap_set_ne _ hwg, heap_set_ne _ hwg]; exact D1.out) _
  have E2 : w3.heap[g]? = some (.cells (zap cur (gone * 4)) 45 (0, 0)) := by
    rw [hw3]
    exact (heap_set_ne _ hgw).trans (heap_set (heap_set (heap_set (heap_set D2.out _) _) _) _)
  have E3 : Ch (fun j => j = g ∨ j = wb) w1 w3 := by
    rw [hw3]
    exact ((((((ch_set g _ _).mono (fun j _ q => .inl q)).trans (ch_set g _ _) (fun j _ q => .inl q)).trans (ch_set g _ _) (fun j _ q => .inl q)).trans (ch_set g _ _) (fun j _ q => .inl q)).trans (ch_set wb _ _) (fun j _ q => .inr q)).then (ch_drew _ _)
  have E4 : Hid (Ch (fun j => j = g ∨ j = wb) w w3) := (Below.ch HB1.out).then E3
  have hs1 : w.heap.size + 2 ≤ w1.heap.size := by have := (Array.getElem?_eq_some_iff.1 A2.out).1; omega
  have A1' : Hid (w3.heap[w.heap.size]? = some (.cells #[.string ⟨#[]⟩, .slice none 0 0, .int .i64 0, .bool false] 45 (0, 0))) := (E3.block _ (by omega) (by omega)).trans A1.out
  have A2' : Hid (w3.heap[w.heap.size + 1]? = some (.cells #[.string t, .slice a n c, .int .i64 q, .bool r] 45 (0, 0))) := (E3.block _ (by omega) (by omega)).trans A2.out
  have HE1 : Hid (w3.heap[wb]? = some (.cells (cs.setIfInBounds 7 (.int .i64 (gn : Int))) t0 (0, 0))) := E1
  have HE2 : Hid (w3.heap[g]? = some (.cells (zap cur (gone * 4)) 45 (0, 0))) := E2
  have p6' : w3.cell? ⟨wb, 6, none⟩ = some (.slice (some ⟨g, 0, none⟩) k cap) := box_cells E1 6 _ (by rw [Array.getElem?_setIfInBounds_ne (by decide)]; exact H6.out)
  have p7' : w3.cell? ⟨wb, 7, none⟩ = some (.int .i64 (gn : Int)) := box_cells E1 7 _ (by rw [Array.getElem?_setIfInBounds_self_of_lt (by have := (Array.getElem?_eq_some_iff.1 H7.out).1; exact this)])
  have s1' := box_frozen E1
  clear hw3 E1 E2 E3 p6 p7 r0 r1 r2 r3 s0 s1 D1 D2 A1 A2 hs1
  go_quiet (fail)
  obtain ⟨w4, hw4⟩ : ∃ w4, w4 = w3.drewN nq := ⟨_, rfl⟩
  rw [← hw4]
  have F1 : w4.heap[wb]? = some (.cells (cs.setIfInBounds 7 (.int .i64 (gn : Int))) t0 (0, 0)) := by rw [hw4]; simpa using HE1.out
  have F2 : w4.heap[g]? = some (.cells (zap cur (gone * 4)) 45 (0, 0)) := by rw [hw4]; simpa using HE2.out
  have F3 : w4.heap[w.heap.size]? = some (.cells #[.string ⟨#[]⟩, .slice none 0 0, .int .i64 0, .bool false] 45 (0, 0)) := by rw [hw4]; simpa using A1'.out
  have F4 : w4.heap[w.heap.size + 1]? = some (.cells #[.string t, .slice a n c, .int .i64 q, .bool r] 45 (0, 0)) := by rw [hw4]; simpa using A2'.out
  have F5 : Hid (Ch (fun j => j = g ∨ j = wb) w w4) := by
    have h := E4.out
    rw [hw4]
    exact ⟨h.os, h.tape, h.output, by simpa using h.size, fun j hj hn => by simpa using h.block j hj hn⟩
  have G1 : Hid (w4.heap[wb]? = some (.cells (cs.setIfInBounds 7 (.int .i64 (gn : Int))) t0 (0, 0))) := F1
  have G2 : Hid (w4.heap[g]? = some (.cells (zap cur (gone * 4)) 45 (0, 0))) := F2
  have G3 : Hid (w4.heap[w.heap.size]? = some (.cells #[.string ⟨#[]⟩, .slice none 0 0, .int .i64 0, .bool false] 45 (0, 0))) := F3
  have G4 : Hid (w4.heap[w.heap.size + 1]? = some (.cells #[.string t, .slice a n c, .int .i64 q, .bool r] 45 (0, 0))) := F4
  clear hw4 F1 F2 F3 F4 p6' p7' s1' E4 A1' A2' HE1 HE2 HB1 hwv hwm hge hlt
  by_cases hc : k ≤ 2 * gn
  · have hc1 : (k : Int) ≤ 2 * (gn : Int) := by omega
    obtain ⟨ad, had, had2⟩ : ∃ ad : Addr, (if cap = gn then some (⟨g, 0, none⟩ : Addr) else some ⟨g, gn * 4, none⟩) = some ad ∧ (cap = gn ∧ ad = ⟨g, 0, none⟩ ∨ cap ≠ gn ∧ ad = ⟨g, gn * 4, none⟩) := by
      by_cases e : cap = gn
      · exact ⟨_, by rw [if_pos e], .inl ⟨e, rfl⟩⟩
      · exact ⟨_, by rw [if_neg e], .inr ⟨e, rfl⟩⟩
    obtain ⟨v', w5, hrun, ⟨la, ln, lc, rfl⟩, hBel, hfin⟩ := HR1.out hc w4.drew (F5.out.then (ch_drew _ _)) G1.out G2.out (Array.getElem?_eq_some_iff.1 G3.out).1 ad had2
    clear had2
    have HRN : Hid ((Builtin.append_ #[29, 29] 29 #[.slice none 0 0, .slice (some ad) (k - gn) (cap - gn)]).run Tryz.prog w4.drew = .ok (.slice la ln lc) w5) := hrun
    have HFN : Hid _ := hfin
    have u1 : w5.heap[wb]? = some (.cells (cs.setIfInBounds 7 (.int .i64 (gn : Int))) t0 (0, 0)) := later_at (w := w4.drew) G1.out hBel
    have u3 : w5.heap[w.heap.size]? = some (.cells #[.string ⟨#[]⟩, .slice none 0 0, .int .i64 0, .bool false] 45 (0, 0)) := later_at (w := w4.drew) G3.out hBel
    have u4 : w5.heap[w.heap.size + 1]? = some (.cells #[.string t, .slice a n c, .int .i64 q, .bool r] 45 (0, 0)) := later_at (w := w4.drew) G4.out hBel
    have p6 : w4.cell? ⟨wb, 6, none⟩ = some (.slice (some ⟨g, 0, none⟩) k cap) := box_cells G1.out 6 _ (by rw [Array.getElem?_setIfInBounds_ne (by decide)]; exact H6.out)
    have p7 : w4.cell? ⟨wb, 7, none⟩ = some (.int .i64 (gn : Int)) := box_cells G1.out 7 _ (by rw [Array.getElem?_setIfInBounds_self_of_lt (by have := (Array.getElem?_eq_some_iff.1 H7.out).1; exact this)])
    have q6 : w5.cell? ⟨wb, 6, none⟩ = some (.slice (some ⟨g, 0, none⟩) k cap) := box_cells u1 6 _ (by rw [Array.getElem?_setIfInBounds_ne (by decide)]; exact H6.out)
    have q7 : w5.cell? ⟨wb, 7, none⟩ = some (.int .i64 (gn : Int)) := box_cells u1 7 _ (by rw [Array.getElem?_setIfInBounds_self_of_lt (by have := (Array.getElem?_eq_some_iff.1 H7.out).1; exact this)])
    have k0 := box_cells u4 0 _ rfl
    have k1 := box_cells u4 1 _ rfl
    have k2 := box_cells u4 2 _ rfl
    have k3 := box_cells u4 3 _ rfl
    have d0 := box_cells u3 0 _ rfl
    have d1 := box_cells u3 1 _ rfl
    have d2 := box_cells u3 2 _ rfl
    have d3 := box_cells u3 3 _ rfl
    have fu1 := box_frozen u1
    have fu3 := box_frozen u3
    have hwne : wb ≠ w.heap.size := by omega
    have hwne2 : wb ≠ w.heap.size + 1 := by omega
    have hwne3 : w.heap.size ≠ wb := by omega
    have hwne4 : w.heap.size + 1 ≠ wb := by omega
    have hgk : gn ≤ k := by omega
    have hgk1 : (gn : Int) ≤ (k : Int) := by omega
    have hgk0 : (0 : Int) ≤ (gn : Int) := by omega
    have hgc : gn ≤ cap := by omega
    have U1 : Hid (w5.heap[wb]? = some (.cells (cs.setIfInBounds 7 (.int .i64 (gn : Int))) t0 (0, 0))) := u1
    have U3 : Hid (w5.heap[w.heap.size]? = some (.cells #[.string ⟨#[]⟩, .slice none 0 0, .int .i64 0, .bool false] 45 (0, 0))) := u3
    clear hrun hfin hBel u1 u3 u4 hc HR1 HR2
    go_wp2_with fail
    go_region_law (refine step_app rfl (.const (.slice none 0 0)) (.tmp 52) 29 29 rfl (.slice none 0 0) (.slice (some ad) (k - gn) (cap - gn)) rfl rfl (.slice la ln lc) w5 HRN.out ?_)
    all_goals go_wp2_with fail
    all_goals refine bodyPost_ret (results_cell_row rfl _ _ _ _ _ _ _ rfl (mset4 (by rw [heap_set_ne _ hwne3, heap_set_ne _ hwne3]; exact U3.out) _ _ _ _) Tryz.underlying45 rfl (by kernel_rfl)) rfl ⟨rfl, ?_⟩
    all_goals refine HFN.out _ ?_ ?_
    all_goals first
      | exact ((((((ch_set wb _ _).mono (fun j _ q => .inl q)).trans (ch_set wb _ _) (fun j _ q => .inl q)).trans (ch_set w.heap.size _ _) (fun j _ q => .inr q.symm)).trans (ch_set w.heap.size _ _) (fun j _ q => .inr q.symm)).trans (ch_set w.heap.size _ _) (fun j _ q => .inr q.symm)).trans (ch_set w.heap.size _ _) (fun j _ q => .inr q.symm)
      | (rw [heap_set_ne _ hwne, heap_set_ne _ hwne, heap_set_ne _ hwne, heap_set_ne _ hwne]; exact heap_set (heap_set U1.out _) _)
  · have hc1 : ¬ (k : Int) ≤ 2 * (gn : Int) := by omega
    have k0 := box_cells G4.out 0 _ rfl
    have k1 := box_cells G4.out 1 _ rfl
    have k2 := box_cells G4.out 2 _ rfl
    have k3 := box_cells G4.out 3 _ rfl
    have d0 := box_cells G3.out 0 _ rfl
    have d1 := box_cells G3.out 1 _ rfl
    have d2 := box_cells G3.out 2 _ rfl
    have d3 := box_cells G3.out 3 _ rfl
    have f3 := box_frozen G3.out
    have HC : Hid (2 * gn < k) := by show 2 * gn < k; omega
    clear hc
    go_wp2_with fail
    refine bodyPost_ret (results_cell_row rfl _ _ _ _ _ _ _ rfl (mset4 G3.out _ _ _ _) Tryz.underlying45 rfl (by kernel_rfl)) rfl ⟨rfl, ?_⟩
    refine HR2.out HC.out _ ?_ ?_ ?_
    · exact ((((F5.out.trans (ch_set w.heap.size 0 _) (fun j hj e => by omega)).trans (ch_set w.heap.size 1 _) (fun j hj e => by omega)).trans (ch_set w.heap.size 2 _) (fun j hj e => by omega)).trans (ch_set w.heap.size 3 _) (fun j hj e => by omega))
    · rw [heap_set_ne _ (by omega), heap_set_ne _ (by omega), heap_set_ne _ (by omega), heap_set_ne _ (by omega)]
      exact G1.out
    · rw [heap_set_ne _ (by omega), heap_set_ne _ (by omega), heap_set_ne _ (by omega), heap_set_ne _ (by omega)]
      exact G2.out
end Go.Proofs.YtmihpmmkkklpfaaGreatDoor
