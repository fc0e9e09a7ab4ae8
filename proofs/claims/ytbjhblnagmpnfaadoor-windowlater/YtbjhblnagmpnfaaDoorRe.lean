import Derived.Test.YtbjhblnagmpnfaaDoorRb
namespace Go.Proofs.YtbjhblnagmpnfaaDoor
open Go Go.RowKit Go.Shelf Go.Maps Go.Sort
set_option linter.unusedSimpArgs false
set_option linter.unusedVariables false
/-! ### sameWindow of two images of one state -/
theorem bel_on {a b c : World} (h : Below a.heap.size a b) (k : Below b.heap.size b c) : Below a.heap.size a c := h.trans (k.mono h.size)
set_option maxRecDepth 100000 in
set_option maxHeartbeats 8000000 in
theorem sameWin_any {w : World} {p : Pw} {L M : List Fo} {L' M' : List Ms} {vf vq vg vr : Value} (h : Imo w p L L' vf vq) (k : Imo w p M M' vg vr) (hs : p.fl.length + p.wt.length ≤ 200000) : Calls Tryd.prog 25 #[.agg #[.int .i64 (p.last : Int), vf, vq], .agg #[.int .i64 (p.last : Int), vg, vr]] w fun e w' => e = .returned (.bool true) ∧ Below w.heap.size w w' := by
  have e1 : L.length = p.fl.length := by rw [← h.ef, List.length_map]
  have e2 : L'.length = p.wt.length := by rw [← h.eq, List.length_map]
  have e3 : M.length = p.fl.length := by rw [← k.ef, List.length_map]
  have e4 : M'.length = p.wt.length := by rw [← k.eq, List.length_map]
  obtain ⟨fa, fc, rfl⟩ := own_sl h.fl
  obtain ⟨qa, qc, hvq⟩ := own_sl h.qu
  obtain ⟨ga, gc, hvg⟩ := own_sl k.fl
  obtain ⟨ra, rc, hvr⟩ := own_sl k.qu
  subst hvq hvg hvr
  obtain ⟨ls, hls⟩ : ∃ ls : Int, ls = (p.last : Int) := ⟨_, rfl⟩
  obtain ⟨nf, hnf⟩ : ∃ n, n = p.fl.length := ⟨_, rfl⟩
  obtain ⟨nw, hnw⟩ : ∃ n, n = p.wt.length := ⟨_, rfl⟩
  rw [← hnf] at e1 e3 hs
  rw [← hnw] at e2 e4 hs
  have hFL := h.fl
  have hQU := h.qu
  have kFL := k.fl
  have kQU := k.qu
  rw [e1] at hFL
  rw [e2] at hQU
  rw [e3] at kFL
  rw [e4] at kQU
  have H := hidi (And.intro hFL (And.intro hQU (And.intro kFL (And.intro kQU (And.intro h (And.intro k (And.intro e1 (And.intro e2 (And.intro e3 e4)))))))))
  rw [← hls, e1, e2, e3, e4]
  clear hFL hQU kFL kQU h k e1 e2 e3 e4 hls hnf hnw
  obtain ⟨w1, hw1⟩ : ∃ w1, w1 = w.alloc (.cells #[.int .i64 ls, .slice fa nf fc, .slice qa nw qc] 41) := ⟨_, rfl⟩
  obtain ⟨w2, hw2⟩ : ∃ w2, w2 = w1.alloc (.cells #[.int .i64 ls, .slice ga nf gc, .slice ra nw rc] 41) := ⟨_, rfl⟩
  obtain ⟨q1, q2, q3⟩ := two_alloc w (.cells #[.int .i64 ls, .slice fa nf fc, .slice qa nw qc] 41) (.cells #[.int .i64 ls, .slice ga nf gc, .slice ra nw rc] 41)
  have b2 := two_below w (.cells #[.int .i64 ls, .slice fa nf fc, .slice qa nw qc] 41) (.cells #[.int .i64 ls, .slice ga nf gc, .slice ra nw rc] 41)
  rw [← hw1, ← hw2] at q1 q2 q3 b2
  have hs1 : w1.heap.size = w.heap.size + 1 := by rw [hw1]; simp
  obtain ⟨xa, hxa⟩ : ∃ x, x = w.heap.size := ⟨_, rfl⟩
  obtain ⟨xc, hxc⟩ : ∃ x, x = w1.heap.size := ⟨_, rfl⟩
  rw [← hxa] at q1
  rw [show w.heap.size + 1 = xc by rw [hxc, hs1]] at q2
  have A2 := hidi (And.intro q1 (And.intro q2 b2))
  have c0 := box_cells q1 0 _ rfl
  have c1 := box_cells q1 1 _ rfl
  have c2 := box_cells q1 2 _ rfl
  have d0 := box_cells q2 0 _ rfl
  have d1 := box_cells q2 1 _ rfl
  have d2 := box_cells q2 2 _ rfl
  clear q1 q2 q3 b2
  go_enter Tryd.func25, Tryd.ntmps25
  go_upto_region 1 with fail
  rw [← hw1, ← hw2, ← hs1, ← hxc, ← hxa]
  clear hw1 hw2 hxa hxc hs1
  go_wp2_with fail
  clear c0 c1 c2 d0 d1 d2
  go_loopg [5] nf (fun gk s5 wx => ∃ j : Nat, j + gk = nf ∧ s5 = .int .i64 j ∧ Hid (Below w2.heap.size w2 wx))
  case atStart => exact ⟨0, by omega, rfl, Below.refl _ _⟩
  case round =>
    obtain ⟨j, hj, rfl, HI⟩ := hrel
    have c1 := box_cells (later_at A2.out.1 HI.out) 1 _ rfl
    have d1 := box_cells (later_at A2.out.2.1 HI.out) 1 _ rfl
    have hbw : Below w.heap.size w wr := A2.out.2.2.trans (HI.out.mono A2.out.2.2.size)
    by_cases hjn : j < nf
    · have hlt : (j : Int) < (nf : Int) := by omega
      have hge : (0 : Int) ≤ (j : Int) := by omega
      have hw1 : IntKind.i64.wrap ((j : Int) + 1) = (j : Int) + 1 := by rw [IntKind.wrap_i64]; omega
      have hjL : j < L.length := by rw [H.out.2.2.2.2.2.2.1]; exact hjn
      have hjM : j < M.length := by rw [H.out.2.2.2.2.2.2.2.2.1]; exact hjn
      obtain ⟨g, cg, hv, hcell⟩ := frow_cell (own_below H.out.1 hbw) hjn hjL
      obtain ⟨g', cg', hv', hcell'⟩ := frow_cell (own_below H.out.2.2.1 hbw) hjn hjM
      simp only [Value.slice.injEq, true_and] at hv hv'
      obtain ⟨rfl, rfl⟩ := hv
      obtain ⟨rfl, rfl⟩ := hv'
      have p1 := (H.out.2.2.2.2.1.fp _ (List.getElem_mem hjL)).keep (Kb.below hbw)
      have p2 := (H.out.2.2.2.2.2.1.fp _ (List.getElem_mem hjM)).keep (Kb.below hbw)
      have hpp : (L[j]).p = (M[j]).p := by
        have : (L.map Fo.p)[j]? = (M.map Fo.p)[j]? := by rw [H.out.2.2.2.2.1.ef, H.out.2.2.2.2.2.1.ef]
        rw [List.getElem?_map, List.getElem?_map, List.getElem?_eq_getElem hjL, List.getElem?_eq_getElem hjM] at this
        simpa using this
      obtain ⟨f, hf⟩ : ∃ f, f = L[j] := ⟨_, rfl⟩
      obtain ⟨f', hf'⟩ : ∃ f, f = M[j] := ⟨_, rfl⟩
      rw [← hf] at hcell p1 hpp
      rw [← hf'] at hcell' p2 hpp
      clear hf hf' hjL hjM
      obtain ⟨id, ⟨t, pv, q, r, xs⟩, rel⟩ := f
      obtain ⟨id', ⟨t', pv', q', r', xs'⟩, rel'⟩ := f'
      simp only [Fo.p, Ms.p, Fp.mk.injEq, Mp.mk.injEq] at hpp
      obtain ⟨rfl, rfl, rfl, rfl, rfl, rfl⟩ := hpp
      obtain ⟨pa, pn, pc, hpv⟩ := p1.sl
      obtain ⟨pa', pn', pc', hpv'⟩ := p2.sl
      simp only at hpv hpv'
      subst hpv hpv'
      have k0 : wr.cell? ⟨g, j * 6, none⟩ = some (.int .i64 (id : Int)) := hcell 0 (by omega)
      have k1 : wr.cell? ⟨g, j * 6 + 1, none⟩ = some (.string t) := hcell 1 (by omega)
      have k2 : wr.cell? ⟨g, j * 6 + 2, none⟩ = some (.slice pa pn pc) := hcell 2 (by omega)
      have k3 : wr.cell? ⟨g, j * 6 + 3, none⟩ = some (.int .i64 q) := hcell 3 (by omega)
      have k4 : wr.cell? ⟨g, j * 6 + 4, none⟩ = some (.bool r) := hcell 4 (by omega)
      have k5 : wr.cell? ⟨g, j * 6 + 5, none⟩ = some (.bool rel) := hcell 5 (by omega)
      have l0 : wr.cell? ⟨g', j * 6, none⟩ = some (.int .i64 (id : Int)) := hcell' 0 (by omega)
      have l1 : wr.cell? ⟨g', j * 6 + 1, none⟩ = some (.string t) := hcell' 1 (by omega)
      have l2 : wr.cell? ⟨g', j * 6 + 2, none⟩ = some (.slice pa' pn' pc') := hcell' 2 (by omega)
      have l3 : wr.cell? ⟨g', j * 6 + 3, none⟩ = some (.int .i64 q) := hcell' 3 (by omega)
      have l4 : wr.cell? ⟨g', j * 6 + 4, none⟩ = some (.bool r) := hcell' 4 (by omega)
      have l5 : wr.cell? ⟨g', j * 6 + 5, none⟩ = some (.bool rel) := hcell' 5 (by omega)
      have SM := hidi (fun (W : World) (hb : Below wr.heap.size wr W) => sameMsg_any (w := W) (t := t) (q := q) (r := r) (p1.i.below hb) (p2.i.below hb))
      have gl1 : g < wr.heap.size := World.block_lt_of_cell? _ _ k0
      have gl2 : g' < wr.heap.size := World.block_lt_of_cell? _ _ l0
      have gl3 : xa < wr.heap.size := World.block_lt_of_cell? _ _ c1
      have gl4 : xc < wr.heap.size := World.block_lt_of_cell? _ _ d1
      have n1 : g ≠ wr.heap.size := by omega
      have n2 : g' ≠ wr.heap.size := by omega
      have n3 : xa ≠ wr.heap.size := by omega
      have n4 : xc ≠ wr.heap.size := by omega
      have n5 : g ≠ wr.heap.size + 1 := by omega
      have n6 : g' ≠ wr.heap.size + 1 := by omega
      have n7 : xa ≠ wr.heap.size + 1 := by omega
      have n8 : xc ≠ wr.heap.size + 1 := by omega
      clear hcell hcell' p1 p2 hbw
      have HW := hidi (fun (W W' : World) (hb : Below wr.heap.size wr W) (hb' : Below W.heap.size W W') => bel_on HI.out (bel_on hb hb'))
      go_wp2_with fail
      go_region
      all_goals go_wp2_with fail
      all_goals go_must (go_at_call 21)
      all_goals refine (SM.out _ (two_below wr _ _).drew).mono ?_
      all_goals rintro e w4 ⟨rfl, hb4⟩
      all_goals have HB4 := hidi (HW.out _ _ (two_below wr _ _).drew hb4)
      all_goals clear hb4
      all_goals go_wp2_with fail
      all_goals go_roundg (nf - (j + 1))
      all_goals first | omega | exact ⟨j + 1, by omega, by first | rfl | simp, HB4.out⟩
    · have hlt : ¬ (j : Int) < (nf : Int) := by omega
      have HI2 := HI
      clear hbw hj hjn d1
      go_wp2_with fail
      clear c1
      go_loopg [8] nw (fun gk s8 wx => ∃ j : Nat, j + gk = nw ∧ s8 = .int .i64 j ∧ Hid (Below w2.heap.size w2 wx))
      case atStart => exact ⟨0, by omega, rfl, HI2.out⟩
      case round =>
        clear HI2 HI
        obtain ⟨j, hj, rfl, HI⟩ := hrel
        have c2 := box_cells (later_at A2.out.1 HI.out) 2 _ rfl
        have d2 := box_cells (later_at A2.out.2.1 HI.out) 2 _ rfl
        have hbw : Below w.heap.size w wr := bel_on A2.out.2.2 HI.out
        by_cases hjn : j < nw
        · have hlt : (j : Int) < (nw : Int) := by omega
          have hge : (0 : Int) ≤ (j : Int) := by omega
          have hw1 : IntKind.i64.wrap ((j : Int) + 1) = (j : Int) + 1 := by rw [IntKind.wrap_i64]; omega
          have hjL : j < L'.length := by rw [H.out.2.2.2.2.2.2.2.1]; exact hjn
          have hjM : j < M'.length := by rw [H.out.2.2.2.2.2.2.2.2.2]; exact hjn
          obtain ⟨g, cg, hv, -, hcell⟩ := mrow_cells (own_below H.out.2.1 hbw) hjn hjL
          obtain ⟨g', cg', hv', -, hcell'⟩ := mrow_cells (own_below H.out.2.2.2.1 hbw) hjn hjM
          simp only [Value.slice.injEq, true_and] at hv hv'
          obtain ⟨rfl, rfl⟩ := hv
          obtain ⟨rfl, rfl⟩ := hv'
          have p1 := (H.out.2.2.2.2.1.qp _ (List.getElem_mem hjL)).keep (Kb.below hbw)
          have p2 := (H.out.2.2.2.2.2.1.qp _ (List.getElem_mem hjM)).keep (Kb.below hbw)
          have hpp : (L'[j]).p = (M'[j]).p := by
            have : (L'.map Ms.p)[j]? = (M'.map Ms.p)[j]? := by rw [H.out.2.2.2.2.1.eq, H.out.2.2.2.2.2.1.eq]
            rw [List.getElem?_map, List.getElem?_map, List.getElem?_eq_getElem hjL, List.getElem?_eq_getElem hjM] at this
            simpa using this
          obtain ⟨f, hf⟩ : ∃ f, f = L'[j] := ⟨_, rfl⟩
          obtain ⟨f', hf'⟩ : ∃ f, f = M'[j] := ⟨_, rfl⟩
          rw [← hf] at hcell p1 hpp
          rw [← hf'] at hcell' p2 hpp
          clear hf hf' hjL hjM
          obtain ⟨t, pv, q, r, xs⟩ := f
          obtain ⟨t', pv', q', r', xs'⟩ := f'
          simp only [Ms.p, Mp.mk.injEq] at hpp
          obtain ⟨rfl, rfl, rfl, rfl⟩ := hpp
          obtain ⟨pa, pn, pc, hpv⟩ := p1.sl
          obtain ⟨pa', pn', pc', hpv'⟩ := p2.sl
          simp only at hpv hpv'
          subst hpv hpv'
          have k0 : wr.cell? ⟨g, j * 4, none⟩ = some (.string t) := hcell 0 (by omega)
          have k1 : wr.cell? ⟨g, j * 4 + 1, none⟩ = some (.slice pa pn pc) := hcell 1 (by omega)
          have k2 : wr.cell? ⟨g, j * 4 + 2, none⟩ = some (.int .i64 q) := hcell 2 (by omega)
          have k3 : wr.cell? ⟨g, j * 4 + 3, none⟩ = some (.bool r) := hcell 3 (by omega)
          have l0 : wr.cell? ⟨g', j * 4, none⟩ = some (.string t) := hcell' 0 (by omega)
          have l1 : wr.cell? ⟨g', j * 4 + 1, none⟩ = some (.slice pa' pn' pc') := hcell' 1 (by omega)
          have l2 : wr.cell? ⟨g', j * 4 + 2, none⟩ = some (.int .i64 q) := hcell' 2 (by omega)
          have l3 : wr.cell? ⟨g', j * 4 + 3, none⟩ = some (.bool r) := hcell' 3 (by omega)
          have SM := hidi (sameMsg_any (w := wr.drew) (t := t) (q := q) (r := r) (p1.i.below (Below.refl _ _).drew) (p2.i.below (Below.refl _ _).drew))
          have HW := hidi (fun (W : World) (hb : Below wr.drew.heap.size wr.drew W) => bel_on HI.out (bel_on (Below.refl wr.heap.size wr).drew hb))
          clear hcell hcell' p1 p2 hbw
          go_wp2_with fail
          go_region_law (go_simp; go_at_call 21; refine SM.out.mono ?_; clear SM; rintro e w4 ⟨rfl, hb4⟩; have HB4 := hidi (HW.out _ hb4); clear hb4 HW)
          all_goals go_wp2_with fail
          all_goals go_roundg (nw - (j + 1))
          all_goals first | omega | exact ⟨j + 1, by omega, by first | rfl | simp, HB4.out⟩
        · have hlt : ¬ (j : Int) < (nw : Int) := by omega
          have HF := hidi hbw
          clear hbw
          go_wp2_with fail
          go_ret
          exact ⟨rfl, HF.out⟩
end Go.Proofs.YtbjhblnagmpnfaaDoor
