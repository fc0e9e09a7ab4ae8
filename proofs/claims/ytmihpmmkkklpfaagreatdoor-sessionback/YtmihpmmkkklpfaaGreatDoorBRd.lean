import Derived.Test.YtmihpmmkkklpfaaGreatDoorBRb
namespace Go.Proofs.YtmihpmmkkklpfaaGreatDoor
open Go Go.RowKit Go.Shelf Go.Maps Go.Sort
set_option linter.unusedSimpArgs false
set_option linter.unusedVariables false
/-! ### Of -/
/-- A window that is being made: all of it is new. -/
structure OfS (w1 wx : World) (xb : Nat) (q : Pw) (c : Nat) : Prop where
  ex : ∃ i, WS wx xb i c ∧ i.p = q ∧ ∀ b, i.U xb b → w1.heap.size ≤ b
  bel : Below w1.heap.size w1 wx
theorem St.bel {w1 wx wy : World} {xb : Nat} {i i' : WI} {c : Nat} (s : St wx wy xb i i' c) (h : Below w1.heap.size w1 wx) (hU : ∀ b, i.U xb b → w1.heap.size ≤ b) : Below w1.heap.size w1 wy :=
  ⟨s.ch.os.trans h.os, s.ch.tape.trans h.tape, s.ch.output.trans h.output, Nat.le_trans h.size s.ch.size, fun k hk => (s.ch.block k (Nat.lt_of_lt_of_le hk h.size) (fun q => by have := hU k q; omega)).trans (h.block k hk)⟩
theorem OfS.st {w1 wx wy : World} {xb : Nat} {i i' : WI} {c : Nat} {q : Pw} (s : St wx wy xb i i' c) (h : Below w1.heap.size w1 wx) (hU : ∀ b, i.U xb b → w1.heap.size ≤ b) (e : i'.p = q) : OfS w1 wy xb q c :=
  ⟨⟨i', s.ws, e, fun b hb => (s.bl b hb).elim (hU b) (fun z => Nat.le_trans h.size z)⟩, s.bel h hU⟩
section
variable {w1 wx : World} {xb : Nat} {q : Pw} {c : Nat}
theorem OfS.below {wy : World} (h : OfS w1 wx xb q c) (hb : Below wx.heap.size wx wy) : OfS w1 wy xb q c := by
  obtain ⟨i, h1, h2, h3⟩ := h.ex
  exact OfS.st (St.below h1 hb) h.bel h3 h2
/-- A box of another kind is written. -/
theorem OfS.write (h : OfS w1 wx xb q c) {ob : Nat} {cs : Array Value} (ho : wx.heap[ob]? = some (.cells cs 108 (0, 0))) (hl : w1.heap.size ≤ ob) (k : Nat) (v : Value) : OfS w1 (wx.setCell ⟨ob, k, none⟩ v) xb q c := by
  obtain ⟨i, h1, h2, h3⟩ := h.ex
  have hc : Ch (fun j => j = ob) wx (wx.setCell ⟨ob, k, none⟩ v) := ch_set ob k v
  refine ⟨⟨i, h1.keep hc (fun j hj e => ?_) (Kb.ch hc (fun j hj cs' fz e => by rw [hj, ho] at e; simp at e)), h2, h3⟩, h.bel.setCell hl _⟩
  exact h1.other ho ⟨cs, 108, _, rfl, by decide, by decide, by decide⟩ (e ▸ hj)
theorem OfS.put (h : OfS w1 wx xb q c) (hc : c + 1 ≤ 200000) (hf : q.fl.length < q.most) {id : Nat} {rel : Bool} {m : Ms} (hid : 1 ≤ id ∧ id ≤ 65535) (hT : q.T id = false) (hp : PB wx m.v m.xs) (hs : (rel = true → m.zero) ∧ (rel = false → Sn m.q)) :
    Calls Tryz.prog 66 #[.pointer (some ⟨xb, 0, none⟩), .agg #[.int .i64 (id : Int), .string m.t, m.v, .int .i64 m.q, .bool m.r, .bool rel]] wx fun e w' => e = .returned (.tuple #[]) ∧ OfS w1 w' xb { q with fl := q.fl ++ [⟨id, rel, m.p⟩] } (c + 1) := by
  obtain ⟨i, h1, rfl, h3⟩ := h.ex
  have hbc := h1.bc
  refine (ws_put h1 (c' := c + 1) (by omega) (by omega) (by simpa [WI.p] using hf) hid (by rw [← WI.T_p]; exact hT) hp hs).mono ?_
  rintro e w' ⟨rfl, b, mu, mt, s⟩
  refine ⟨rfl, OfS.st s h.bel h3 ?_⟩
  unfold WI.put WI.p
  simp [Fm.p]
theorem OfS.join (h : OfS w1 wx xb q c) (hc : c + 1 ≤ 200000) (hf : q.wt.length < q.queue) {m : Ms} (hp : PB wx m.v m.xs) (hs : Sn m.q) :
    Calls Tryz.prog 67 #[.pointer (some ⟨xb, 6, none⟩), .agg #[.string m.t, m.v, .int .i64 m.q, .bool m.r]] wx fun e w' => e = .returned (.tuple #[]) ∧ OfS w1 w' xb { q with wt := q.wt ++ [m.p] } (c + 1) := by
  obtain ⟨i, h1, rfl, h3⟩ := h.ex
  refine (ws_join h1 (by omega) hp hs (by simpa [WI.p] using hf)).mono ?_
  rintro e w' ⟨rfl, lv, s⟩
  refine ⟨rfl, OfS.st s h.bel h3 ?_⟩
  unfold WI.p
  simp
theorem OfS.cells (h : OfS w1 wx xb q c) : wx.cell? ⟨xb, 0, none⟩ = some (.int .i64 (q.most : Int)) ∧ wx.cell? ⟨xb, 1, none⟩ = some (.int .i64 (q.queue : Int)) ∧ (∃ l, wx.cell? ⟨xb, 3, none⟩ = some (.int .i64 l)) ∧ wx.frozen? ⟨xb, 3, none⟩ = false ∧ xb < wx.heap.size := by
  obtain ⟨i, h1, rfl, h3⟩ := h.ex
  exact ⟨box_cells h1.blk 0 _ rfl, box_cells h1.blk 1 _ rfl, ⟨_, box_cells h1.blk 3 _ rfl⟩, box_frozen h1.blk 3, (Array.getElem?_eq_some_iff.1 h1.blk).1⟩
theorem OfS.last (h : OfS w1 wx xb q c) (l : Nat) (hl : l ≤ 65535) : OfS w1 (wx.setCell ⟨xb, 3, none⟩ (.int .i64 (l : Int))) xb { q with last := l } c := by
  obtain ⟨i, h1, rfl, h3⟩ := h.ex
  exact OfS.st (h1.set (i' := { i with last := l }) 3 (.int .i64 (l : Int)) rfl rfl rfl rfl rfl rfl rfl rfl rfl rfl rfl rfl hl (Nat.le_refl c)).2 h.bel h3 rfl
end
theorem of_new (n q : Int) (w : World) : Calls Tryz.prog 33 #[.int .i64 n, .int .i64 q] w fun e w' => e = .returned (.pointer (some ⟨w.heap.size, 0, none⟩)) ∧ OfS w w' w.heap.size ⟨mostOf n, queueOf q, false, 0, [], [], []⟩ 0 := by
  refine (new_any n q w).mono ?_
  rintro e w' ⟨rfl, rfl⟩
  refine ⟨rfl, ⟨⟨newI (mostOf n) (queueOf q), ws_new w _ _ ⟨(mostOf_is n).1, (mostOf_is n).2.1⟩ (queueOf_is q).1, rfl, ?_⟩, (Below.refl _ _).alloc (Nat.le_refl _) _⟩⟩
  rintro b (z | z | z | z | ⟨f, hf, _⟩)
  · omega
  · cases z
  · cases z
  · simp [newI, Value.ownBlock] at z
  · cases hf
set_option maxRecDepth 100000 in
set_option maxHeartbeats 8000000 in
theorem of_any {w : World} {p : Pw} {L : List Fo} {L' : List Ms} {vf vq : Value} (n q : Int) (h : Imo w p L L' vf vq) (hk : ImOk p) (hm : p.most = mostOf n) (hq : p.queue = queueOf q) : Calls Tryz.prog 40 #[.int .i64 n, .int .i64 q, .agg #[.int .i64 (p.last : Int), vf, vq]] w fun e w' => ∃ xb, e = .returned (.tuple #[.pointer (some ⟨xb, 0, none⟩), .int .i64 0]) ∧ OfS w w' xb ⟨p.most, p.queue, false, p.last, p.fl, p.wt, []⟩ 100000 := by
  have ISF := hidi (fun (W : World) (hb : Below w.heap.size w W) => isForm_any (h.below hb) hk)
  obtain ⟨fa, fc, rfl⟩ := own_sl h.fl
  obtain ⟨qa, qc, hvq⟩ := own_sl h.qu
  subst hvq
  have eL : L.length = p.fl.length := by rw [← h.ef, List.length_map]
  have eL' : L'.length = p.wt.length := by rw [← h.eq, List.length_map]
  have H := hidi (And.intro h hk)
  have hlt := hk.lt
  have hlf := hk.lf
  have hlw := hk.lw
  have hls := hk.ls
  obtain ⟨ls, hlse⟩ : ∃ ls : Nat, ls = p.last := ⟨_, rfl⟩
  obtain ⟨kf, hn⟩ : ∃ n, n = L.length := ⟨_, rfl⟩
  obtain ⟨kq, hn'⟩ : ∃ n', n' = L'.length := ⟨_, rfl⟩
  rw [← hlse, ← hn, ← hn'] at ISF
  rw [← hn] at eL
  rw [← hn'] at eL'
  rw [← hn, ← hn', show ({ most := p.most, queue := p.queue, on := false, last := p.last, fl := p.fl, wt := p.wt, R := [] } : Pw) = ⟨p.most, p.queue, false, ls, p.fl, p.wt, []⟩ by rw [hlse], show (p.last : Int) = (ls : Int) by rw [hlse]]
  rw [← hlse] at hls
  have HN := hidi (And.intro hn (And.intro hn' (And.intro eL eL')))
  obtain ⟨w1, hw1⟩ : ∃ w1, w1 = w.alloc (.cells #[.int .i64 (ls : Int), .slice fa kf fc, .slice qa kq qc] 31) := ⟨_, rfl⟩
  have a1 := heap_alloc_new w (.cells #[.int .i64 (ls : Int), .slice fa kf fc, .slice qa kq qc] 31)
  have b1 : Below w.heap.size w (w.alloc (.cells #[.int .i64 (ls : Int), .slice fa kf fc, .slice qa kq qc] 31)) := (Below.refl _ _).alloc (Nat.le_refl _) _
  rw [← hw1] at a1 b1
  have NEW := hidi (of_new n q w1)
  rw [← hm, ← hq] at NEW
  obtain ⟨bx, hbx⟩ : ∃ bx, bx = w.heap.size := ⟨_, rfl⟩
  obtain ⟨xb, hxb⟩ : ∃ xb, xb = w1.heap.size := ⟨_, rfl⟩
  rw [← hxb] at NEW
  rw [← hbx] at a1
  have A1 := hidi (And.intro a1 b1)
  have HX := hidi hxb
  have hgt1 : ¬ ((kf : Int) > (p.most : Int)) := by omega
  have hgt2 : ¬ ((kq : Int) > (p.queue : Int)) := by omega
  have hgt3 : decide ((p.most : Int) < (kf : Int)) = false := decide_eq_false (by omega)
  have hgt4 : decide ((p.queue : Int) < (kq : Int)) = false := decide_eq_false (by omega)
  have hgt5 : decide (p.most < kf) = false := decide_eq_false (by omega)
  have hgt6 : decide (p.queue < kq) = false := decide_eq_false (by omega)
  obtain ⟨mo, hmo⟩ : ∃ mo, mo = p.most := ⟨_, rfl⟩
  obtain ⟨qu, hqu⟩ : ∃ qu, qu = p.queue := ⟨_, rfl⟩
  rw [← hmo, ← hqu] at NEW ⊢
  rw [← hmo] at hgt1 hgt3 hgt5
  rw [← hqu] at hgt2 hgt4 hgt6
  have HB := hidi (And.intro (show kf + kq ≤ 100000 by omega) (And.intro (show kf ≤ mo by omega) (And.intro (show kq ≤ qu by omega) hls)))
  have hsz := HB.out.1
  clear h hk hm hq a1 b1 hlt hlf hlw hls hlse hn hn' eL eL' hmo hqu hxb
  go_enter Tryz.func40, Tryz.ntmps40
  go_upto_region 1 with fail
  rw [← hw1, ← hbx]
  clear hw1 hbx
  go_wp2_with (go_at_call 33; refine NEW.out.mono ?_; clear NEW; rintro e w2 ⟨rfl, hs2⟩; have S2 := hidi hs2; have a2 := later_at A1.out.1 hs2.bel; have c0 := box_cells a2 0 _ rfl; have c1 := box_cells a2 1 _ rfl; have c2 := box_cells a2 2 _ rfl; clear hs2 a2)
  go_must (go_at_call 64)
  refine (ISF.out _ (A1.out.2.trans (S2.out.bel.mono A1.out.2.size))).mono ?_
  clear ISF c0 c1 c2
  rintro e w3 ⟨rfl, hb3⟩
  have S3 := hidi (S2.out.below hb3)
  clear S2 hb3
  have a3 := later_at A1.out.1 S3.out.bel
  have c1 : w3.cell? ⟨bx, 1, none⟩ = some (.slice fa kf fc) := box_cells a3 1 _ rfl
  have c2 : w3.cell? ⟨bx, 2, none⟩ = some (.slice qa kq qc) := box_cells a3 2 _ rfl
  obtain ⟨x0, x1, ⟨lo, x3⟩, xf3, xl⟩ := S3.out.cells
  simp only at x0 x1
  clear a3
  have C3 := hidi (fun m => S3.out.below (below_drewN (m := m) (Below.refl _ _)))
  go_wp2_with fail
  go_quiet (fail)
  obtain ⟨w4, hw4⟩ : ∃ w4, w4 = w3.drewN nq := ⟨_, rfl⟩
  have S4 := hidi (C3.out nq)
  rw [← hw4] at S4 ⊢
  clear hw4 C3 S3 c1 c2 x0 x1 x3 xf3 xl
  have a4 := later_at A1.out.1 S4.out.bel
  have c0 := box_cells a4 0 _ rfl
  obtain ⟨-, -, ⟨lo4, x3⟩, xf3, xl⟩ := S4.out.cells
  have S5 := hidi (S4.out.last ls HB.out.2.2.2)
  clear S4 a4
  go_upto_region 7 with fail
  obtain ⟨w5, hw5⟩ : ∃ w5, w5 = w4.setCell ⟨xb, 3, none⟩ (.int .i64 (ls : Int)) := ⟨_, rfl⟩
  rw [← hw5] at S5 ⊢
  clear hw5 c0 x3 xf3 xl
  have a5 := later_at A1.out.1 S5.out.bel
  have c1 := box_cells a5 1 _ rfl
  clear a5
  go_wp2_with fail
  clear c1
  go_loopg [45] kf (fun gk s45 wx => ∃ j : Nat, j + gk = kf ∧ s45 = .int .i64 j ∧ Hid (OfS w1 wx xb ⟨mo, qu, false, ls, p.fl.take j, [], []⟩ j))
  case atStart => exact ⟨0, by omega, rfl, S5.out⟩
  case round =>
    obtain ⟨j, hj, rfl, HI⟩ := hrel
    clear S5
    by_cases hjn : j < kf
    · have hlt : (j : Int) < (kf : Int) := by omega
      have hge : (0 : Int) ≤ (j : Int) := by omega
      have hjl : j < L.length := by rw [← HN.out.1]; exact hjn
      have hw1 : IntKind.i64.wrap ((j : Int) + 1) = (j : Int) + 1 := by rw [IntKind.wrap_i64]; omega
      have hbw : Below w.heap.size w wr := A1.out.2.trans (HI.out.bel.mono A1.out.2.size)
      have hrow := own_below H.out.1.fl hbw
      rw [← HN.out.1] at hrow
      obtain ⟨g, c', hv, hcell⟩ := frow_cell hrow hjn hjl
      simp only [Value.slice.injEq, true_and] at hv
      obtain ⟨rfl, rfl⟩ := hv
      have hpy := (H.out.1.fp _ (List.getElem_mem hjl)).keep (Kb.below hbw)
      obtain ⟨hrg, hsn, htt⟩ := Fo.fine H.out.2 H.out.1.ef (List.getElem_mem hjl)
      have hjp : j < p.fl.length := by rw [← HN.out.2.2.1]; exact hjn
      have hpj : p.fl[j] = (L[j]).p := by
        have : (L.map Fo.p)[j]? = p.fl[j]? := by rw [H.out.1.ef]
        rw [List.getElem?_map, List.getElem?_eq_getElem hjl, List.getElem?_eq_getElem hjp] at this
        simpa using this.symm
      have htk : p.fl.take (j + 1) = p.fl.take j ++ [p.fl[j]] := List.take_succ_eq_append_getElem hjp
      rw [hpj] at htk
      have hT : (⟨mo, qu, false, ls, p.fl.take j, [], []⟩ : Pw).T (L[j]).id = false := by
        have hnd := H.out.2.nd
        unfold Pw.T
        simp only [List.not_mem_nil, decide_false, Bool.or_false, decide_eq_false_iff_not]
        intro z
        obtain ⟨x, hx, e⟩ := List.mem_map.1 z
        obtain ⟨k, hk, rfl⟩ := List.getElem_of_mem hx
        have hk' : k < j := by rw [List.length_take] at hk; omega
        refine List.pairwise_iff_getElem.1 hnd k j (by rw [List.length_map]; omega) (by rw [List.length_map]; exact hjp) hk' ?_
        rw [List.getElem_map, List.getElem_map, hpj, show ((L[j]).p).id = (L[j]).id from rfl, ← e, List.getElem_take]
      obtain ⟨f, hf⟩ : ∃ f, f = L[j] := ⟨_, rfl⟩
      rw [← hf] at hcell hpy hsn hrg htt htk hT
      clear hf hrow hpj
      obtain ⟨id, ⟨t, pv, q', r, xs⟩, rel⟩ := f
      obtain ⟨pa, pn, pc, hpv⟩ := hpy.sl
      simp only at hpv hrg htt hT
      subst hpv
      have k0 : wr.cell? ⟨g, j * 6, none⟩ = some (.int .i64 (id : Int)) := hcell 0 (by omega)
      have k1 : wr.cell? ⟨g, j * 6 + 1, none⟩ = some (.string t) := hcell 1 (by omega)
      have k2 : wr.cell? ⟨g, j * 6 + 2, none⟩ = some (.slice pa pn pc) := hcell 2 (by omega)
      have k3 : wr.cell? ⟨g, j * 6 + 3, none⟩ = some (.int .i64 q') := hcell 3 (by omega)
      have k4 : wr.cell? ⟨g, j * 6 + 4, none⟩ = some (.bool r) := hcell 4 (by omega)
      have k5 : wr.cell? ⟨g, j * 6 + 5, none⟩ = some (.bool rel) := hcell 5 (by omega)
      obtain ⟨w6, hw6⟩ : ∃ w6, w6 = wr.alloc (.cells #[.int .i64 (id : Int), .string t, .slice pa pn pc, .int .i64 q', .bool r, .bool rel] 108) := ⟨_, rfl⟩
      have a6 := heap_alloc_new wr (.cells #[.int .i64 (id : Int), .string t, .slice pa pn pc, .int .i64 q', .bool r, .bool rel] 108)
      have b6 : Below wr.heap.size wr (wr.alloc (.cells #[.int .i64 (id : Int), .string t, .slice pa pn pc, .int .i64 q', .bool r, .bool rel] 108)) := (Below.refl _ _).alloc (Nat.le_refl _) _
      rw [← hw6] at a6 b6
      have S6 := hidi (HI.out.below b6)
      have hob1 : w1.heap.size ≤ wr.heap.size := HI.out.bel.size
      obtain ⟨ob, hob⟩ : ∃ ob, ob = wr.heap.size := ⟨_, rfl⟩
      rw [← hob] at a6 hob1
      have e1 := box_cells a6 1 _ rfl
      have e2 := box_cells a6 2 _ rfl
      have e3 := box_cells a6 3 _ rfl
      have e4 := box_cells a6 4 _ rfl
      have A6 := hidi a6
      have KP := hidi (kept_any (w := w6) t q' r ((hpy.keep (Kb.below b6)).i) htt)
      unfold mg at KP
      have HX1 := hidi (And.intro hrg (And.intro hsn (And.intro hT (And.intro htk hob1))))
      clear hcell hpy hsn hrg htt hT htk b6 a6 hbw hjl HI hjp hob1
      go_upto_region 10 with fail
      rw [← hw6, ← hob]
      clear hw6 hob k0 k1 k2 k3 k4 k5
      go_wp2_with fail
      go_must (go_at_call 65)
      refine KP.out.mono ?_
      clear KP e1 e2 e3 e4
      rintro e w7 ⟨v7, rfl, hp7, hb7⟩
      obtain ⟨pa7, pn7, pc7, rfl⟩ := hp7.sl
      have a7 := later_at A6.out hb7
      have d0 := box_cells a7 0 _ rfl
      have d1 := box_cells a7 1 _ rfl
      have d2 := box_cells a7 2 _ rfl
      have d3 := box_cells a7 3 _ rfl
      have d4 := box_cells a7 4 _ rfl
      have d5 := box_cells a7 5 _ rfl
      have f7 := box_frozen a7
      obtain ⟨w8, hw8⟩ : ∃ w8, w8 = (((w7.setCell ⟨ob, 1, none⟩ (.string t)).setCell ⟨ob, 2, none⟩ (.slice pa7 pn7 pc7)).setCell ⟨ob, 3, none⟩ (.int .i64 q')).setCell ⟨ob, 4, none⟩ (.bool r) := ⟨_, rfl⟩
      have a8 : w8.heap[ob]? = some (.cells #[.int .i64 (id : Int), .string t, .slice pa7 pn7 pc7, .int .i64 q', .bool r, .bool rel] 108 (0, 0)) := by
        rw [hw8, heap_set (heap_set (heap_set (heap_set a7 _) _) _) _]
        simp
      have s7 := S6.out.below hb7
      have S8 := hidi (show OfS w1 w8 xb ⟨mo, qu, false, ls, p.fl.take j, [], []⟩ j from by
        rw [hw8]
        exact (((s7.write a7 HX1.out.2.2.2.2 _ _).write (heap_set a7 _) HX1.out.2.2.2.2 _ _).write (heap_set (heap_set a7 _) _) HX1.out.2.2.2.2 _ _).write (heap_set (heap_set (heap_set a7 _) _) _) HX1.out.2.2.2.2 _ _)
      have hk78 : Kb w7 w8 := by
        rw [hw8]
        refine fun b cs fz hq => ?_
        have hb1 : b ≠ ob := fun e => by subst e; rw [a7] at hq; simp at hq
        rw [heap_set_ne _ hb1, heap_set_ne _ hb1, heap_set_ne _ hb1, heap_set_ne _ hb1]
        exact hq
      have PUT := hidi (S8.out.put (id := id) (rel := rel) (m := ⟨t, .slice pa7 pn7 pc7, q', r, xs⟩) (by omega) (by have := HB.out.2.1; simp only [List.length_take]; omega) HX1.out.1 HX1.out.2.2.1 (hp7.keep hk78) HX1.out.2.1)
      have e0 := box_cells a8 0 _ rfl
      have e1 := box_cells a8 1 _ rfl
      have e2 := box_cells a8 2 _ rfl
      have e3 := box_cells a8 3 _ rfl
      have e4 := box_cells a8 4 _ rfl
      have e5 := box_cells a8 5 _ rfl
      clear a7 a8 s7 hk78 hp7 hb7
      go_upto_region 11 with fail
      rw [← hw8]
      clear hw8 d0 d1 d2 d3 d4 d5 f7
      go_wp2_with fail
      go_must (go_at_call 66)
      refine PUT.out.mono ?_
      clear PUT e0 e1 e2 e3 e4 e5
      rintro e w9 ⟨rfl, hs9⟩
      have S9 := hidi hs9
      clear hs9
      go_wp2_with fail
      go_roundg (kf - (j + 1))
      case measure => omega
      case rel => exact ⟨j + 1, by omega, by first | rfl | simp, by rw [HX1.out.2.2.2.1]; exact S9.out⟩
    · have hlt : ¬ (j : Int) < (kf : Int) := by omega
      have hjk : j = p.fl.length := by rw [← HN.out.2.2.1]; omega
      have hbw : Below w.heap.size w wr := A1.out.2.trans (HI.out.bel.mono A1.out.2.size)
      have a4 := later_at A1.out.1 HI.out.bel
      have c2 := box_cells a4 2 _ rfl
      have S10 := hidi (show OfS w1 wr xb ⟨mo, qu, false, ls, p.fl, p.wt.take 0, []⟩ (kf + 0) from by
        have := HI.out
        rw [hjk, List.take_length] at this
        rw [HN.out.2.2.1]
        exact this)
      clear a4 hbw HI hjk hj hjn
      go_wp2_with fail
      clear c2
      go_loopg [60] kq (fun gk s60 wx => ∃ j : Nat, j + gk = kq ∧ s60 = .int .i64 j ∧ Hid (OfS w1 wx xb ⟨mo, qu, false, ls, p.fl, p.wt.take j, []⟩ (kf + j)))
      case atStart => exact ⟨0, by omega, rfl, S10.out⟩
      case round =>
        obtain ⟨j, hj, rfl, HI⟩ := hrel
        clear S10
        by_cases hjn : j < kq
        · have hlt : (j : Int) < (kq : Int) := by omega
          have hge : (0 : Int) ≤ (j : Int) := by omega
          have hjl : j < L'.length := by rw [← HN.out.2.1]; exact hjn
          have hw1 : IntKind.i64.wrap ((j : Int) + 1) = (j : Int) + 1 := by rw [IntKind.wrap_i64]; omega
          have hbw : Below w.heap.size w wr := A1.out.2.trans (HI.out.bel.mono A1.out.2.size)
          have hrow := own_below H.out.1.qu hbw
          rw [← HN.out.2.1] at hrow
          obtain ⟨g, c', hv, -, hcell⟩ := mrow_cells hrow hjn hjl
          simp only [Value.slice.injEq, true_and] at hv
          obtain ⟨rfl, rfl⟩ := hv
          have hpy := (H.out.1.qp _ (List.getElem_mem hjl)).keep (Kb.below hbw)
          have hmm : (L'[j]).p ∈ p.wt := by rw [← H.out.1.eq]; exact List.mem_map.2 ⟨_, List.getElem_mem hjl, rfl⟩
          have hsn : Sn (L'[j]).q := H.out.2.sl _ hmm
          have htt : (L'[j]).t.size ≤ 1000000 := H.out.2.fi.wt _ hmm
          have hjp : j < p.wt.length := by rw [← HN.out.2.2.2]; exact hjn
          have hpj : p.wt[j] = (L'[j]).p := by
            have : (L'.map Ms.p)[j]? = p.wt[j]? := by rw [H.out.1.eq]
            rw [List.getElem?_map, List.getElem?_eq_getElem hjl, List.getElem?_eq_getElem hjp] at this
            simpa using this.symm
          have htk : p.wt.take (j + 1) = p.wt.take j ++ [p.wt[j]] := List.take_succ_eq_append_getElem hjp
          rw [hpj] at htk
          obtain ⟨f, hf⟩ : ∃ f, f = L'[j] := ⟨_, rfl⟩
          rw [← hf] at hcell hpy hsn htt htk
          clear hf hrow hpj hmm
          obtain ⟨t, pv, q', r, xs⟩ := f
          obtain ⟨pa, pn, pc, hpv⟩ := hpy.sl
          simp only at hpv htt
          subst hpv
          have k0 : wr.cell? ⟨g, j * 4, none⟩ = some (.string t) := hcell 0 (by omega)
          have k1 : wr.cell? ⟨g, j * 4 + 1, none⟩ = some (.slice pa pn pc) := hcell 1 (by omega)
          have k2 : wr.cell? ⟨g, j * 4 + 2, none⟩ = some (.int .i64 q') := hcell 2 (by omega)
          have k3 : wr.cell? ⟨g, j * 4 + 3, none⟩ = some (.bool r) := hcell 3 (by omega)
          obtain ⟨w6, hw6⟩ : ∃ w6, w6 = wr.alloc (.cells #[.string t, .slice pa pn pc, .int .i64 q', .bool r] 45) := ⟨_, rfl⟩
          have a6 := heap_alloc_new wr (.cells #[.string t, .slice pa pn pc, .int .i64 q', .bool r] 45)
          have b6 : Below wr.heap.size wr (wr.alloc (.cells #[.string t, .slice pa pn pc, .int .i64 q', .bool r] 45)) := (Below.refl _ _).alloc (Nat.le_refl _) _
          rw [← hw6] at a6 b6
          have S6 := hidi (HI.out.below b6)
          obtain ⟨ob, hob⟩ : ∃ ob, ob = wr.heap.size := ⟨_, rfl⟩
          rw [← hob] at a6
          have e1 := box_cells a6 0 _ rfl
          have e2 := box_cells a6 1 _ rfl
          have e3 := box_cells a6 2 _ rfl
          have e4 := box_cells a6 3 _ rfl
          have A6 := hidi a6
          have KP := hidi (kept_any (w := w6.drew) t q' r ((hpy.keep (Kb.below b6.drew)).i) htt)
          unfold mg at KP
          have hlw : (List.take j p.wt).length < qu := by have := HB.out.2.2.1; simp only [List.length_take]; omega
          have JOIN := hidi (fun (W : World) (v : Value) (hb : Below w6.heap.size w6 W) (hp : PB W v xs) => (S6.out.below hb).join (m := ⟨t, v, q', r, xs⟩) (by omega) hlw hp hsn)
          have HTK := hidi htk
          have hxl : xb < w6.heap.size := S6.out.cells.2.2.2.2
          clear hcell hpy hsn htt htk b6 a6 hbw hjl HI hjp hlw
          go_upto_region 16 with fail
          rw [← hw6, ← hob]
          clear hw6 hob k0 k1 k2 k3
          go_region_law (first
            | (go_simp; go_at_call 65; refine KP.out.mono ?_; clear KP; rintro e w7 ⟨v7, rfl, hp7, hb7⟩; obtain ⟨pa7, pn7, pc7, rfl⟩ := hp7.sl; have hb67 := (Below.refl w6.heap.size w6).drew.trans hb7; have J7 := hidi (JOIN.out _ _ hb67 hp7); clear JOIN hb67 hb7 hp7)
            | (go_simp; go_at_call 67; refine J7.out.mono ?_; clear J7; rintro e w8 ⟨rfl, hs8⟩; have S8 := hidi hs8; clear hs8))
          all_goals go_wp2_with fail
          all_goals go_roundg (kq - (j + 1))
          all_goals first | omega | exact ⟨j + 1, by omega, by first | rfl | simp, by rw [HTK.out]; exact S8.out⟩
        · have hlt : ¬ (j : Int) < (kq : Int) := by omega
          have hjk : j = p.wt.length := by rw [← HN.out.2.2.2]; omega
          have hfin := HI.out
          rw [hjk, List.take_length] at hfin
          have hfin2 : OfS w wr xb ⟨mo, qu, false, ls, p.fl, p.wt, []⟩ 100000 := by
            obtain ⟨i, z1, z2, z3⟩ := hfin.ex
            exact ⟨⟨i, z1.more (by have := HB.out.1; have := HN.out.2.2.2; omega), z2, fun b hb => Nat.le_trans A1.out.2.size (z3 b hb)⟩, A1.out.2.trans (hfin.bel.mono A1.out.2.size)⟩
          have HF := hidi hfin2
          clear hfin hfin2 HI hjk
          go_wp2_with fail
          go_ret2
          exact ⟨xb, rfl, HF.out⟩
end Go.Proofs.YtmihpmmkkklpfaaGreatDoor
