import Derived.Test.YtmihpmmkkklpfaaGreatDoorBOl
namespace Go.Proofs.YtmihpmmkkklpfaaGreatDoor
open Go Go.RowKit Go.Shelf Go.Maps Go.Sort
set_option linter.unusedSimpArgs false
set_option linter.unusedVariables false
/-! ### Send -/
noncomputable def pSend (p : Pw) (m : Mp) : Pw × List Pp × Bool × Int :=
  if m.q = 1 ∨ m.q = 2 then (if p.on = true ∧ p.fl.length < p.most then ((pLaunch p m).1, [(pLaunch p m).2], true, 0) else if p.wt.length < p.queue then ({ p with wt := p.wt ++ [m] }, [], true, 0) else (p, [], false, 0)) else (p, [], false, 122)
theorem pSend_not {p : Pw} {m : Mp} (h : ¬ Sn m.q) : pSend p m = (p, [], false, 122) := by
  unfold pSend
  exact if_neg h
theorem pSend_go {p : Pw} {m : Mp} (h : Sn m.q) (h1 : p.on = true ∧ p.fl.length < p.most) : pSend p m = ((pLaunch p m).1, [(pLaunch p m).2], true, 0) := by
  unfold pSend
  rw [if_pos (show m.q = 1 ∨ m.q = 2 from h), if_pos h1]
theorem pSend_wait {p : Pw} {m : Mp} (h : Sn m.q) (h1 : ¬ (p.on = true ∧ p.fl.length < p.most)) (h2 : p.wt.length < p.queue) : pSend p m = ({ p with wt := p.wt ++ [m] }, [], true, 0) := by
  unfold pSend
  rw [if_pos (show m.q = 1 ∨ m.q = 2 from h), if_neg h1, if_pos h2]
theorem pSend_full {p : Pw} {m : Mp} (h : Sn m.q) (h1 : ¬ (p.on = true ∧ p.fl.length < p.most)) (h2 : ¬ p.wt.length < p.queue) : pSend p m = (p, [], false, 0) := by
  unfold pSend
  rw [if_pos (show m.q = 1 ∨ m.q = 2 from h), if_neg h1, if_neg h2]
theorem ws_join {w : World} {wb : Nat} {i : WI} {c : Nat} (h : WS w wb i c) (hc : c ≤ 200000) {m : Ms} (hp : PB w m.v m.xs) (hs : Sn m.q) (hl : i.L.length < i.queue) :
    Calls Tryz.prog 67 #[.pointer (some ⟨wb, 6, none⟩), .agg #[.string m.t, m.v, .int .i64 m.q, .bool m.r]] w fun e w' => e = .returned (.tuple #[]) ∧ ∃ lv, St w w' wb i { i with lv := lv, L := i.L ++ [m] } (c + 1) := by
  obtain ⟨t, v, q, r, xs⟩ := m
  obtain ⟨pa, pn, pc, hv⟩ := hp.sl
  simp only at hv
  subst hv
  have hbc := h.bc
  have hk : i.Z.length + i.L.length ≤ 1000000 := by
    rcases h.half with q | q
    · omega
    · rw [q]; simp; omega
  refine (join_any (wb := wb) (i := 6) (t0 := 101) h.blk (by decide) rfl h.row hk t pa pn pc q r).mono ?_
  rintro e W ⟨rfl, lv, hown, hblk, hch, hnb⟩
  refine ⟨rfl, lv, ?_⟩
  have hchU : Ch (i.U wb) w W := hch.mono (fun j _ q => by
    rcases q with q | q
    · exact .inl q
    · exact .inr (.inr (.inr (.inl q))))
  have hkb := h.kb hchU
  have hoth : ∀ j o, w.heap[j]? = some o → (∀ cs t, o = Obj.cells cs t (0, 0) → t ≠ 45 ∧ t ≠ 101) → W.heap[j]? = w.heap[j]? := fun j o hj ho => by
    refine hch.block j (Array.getElem?_eq_some_iff.1 hj).1 (fun q => ?_)
    rcases q with q | q
    · rw [q, h.blk] at hj; cases hj; exact (ho _ _ rfl).2 rfl
    · obtain ⟨cur, e⟩ := own_lt h.row q
      rw [e] at hj; cases hj; exact (ho _ _ rfl).1 rfl
  refine ⟨{ h with blk := hblk, und := ?_, fls := ?_, tkn := ?_, row := ?_, pay := ?_, half := ?_, snl := ?_, bl := ?_, bc := ?_ }, hchU, ?_⟩
  · refine h.und.keep (fun b hb => ?_)
    obtain ⟨es, cl, e⟩ := h.und.block hb
    exact hoth b _ e (fun cs t q => by cases q)
  · intro f hf
    exact ⟨(hoth f.b _ (h.fls f hf).blk (fun cs t q => by cases q; exact ⟨by decide, by decide⟩)).trans (h.fls f hf).blk, (h.fls f hf).pay.keep hkb⟩
  · refine h.tkn.keep (fun b hb => ?_)
    obtain ⟨es, cl, e⟩ := h.tkn.block hb
    exact hoth b _ e (fun cs t q => by cases q)
  · show W.ownsRow 0 45 4 lv (i.Z.length + (i.L ++ [_]).length) (mrow (i.Z ++ (i.L ++ [_])))
    rw [← List.append_assoc, mrow_snoc, List.length_append, List.length_singleton, ← Nat.add_assoc]
    exact hown
  · intro x hx
    rcases List.mem_append.1 hx with q | q
    · exact (h.pay x q).keep hkb
    · simp only [List.mem_singleton] at q
      subst q
      exact hp.keep hkb
  · rcases h.half with q | q
    · exact .inl (by show i.Z.length < (i.L ++ [_]).length; simp; omega)
    · exact .inr q
  · intro x hx
    rcases List.mem_append.1 hx with q | q
    · exact h.snl x q
    · simp only [List.mem_singleton] at q
      subst q
      exact hs
  · show (i.L ++ [_]).length ≤ i.queue
    simp
    omega
  · show i.la + (i.L ++ [_]).length ≤ c + 1 ∧ i.N + (i.L ++ [_]).length ≤ c + 1
    simp
    omega
  · rintro j (q | q | q | q | q)
    · exact .inl (.inl q)
    · exact .inl (.inr (.inl q))
    · exact .inl (.inr (.inr (.inl q)))
    · rcases hnb with e | ⟨g, e, hg⟩
      · have q' : lv.ownBlock = some j := q
        rw [e] at q'
        exact .inl (.inr (.inr (.inr (.inl q'))))
      · have q' : lv.ownBlock = some j := q
        rw [e] at q'
        cases q'
        exact .inr hg
    · exact .inl (.inr (.inr (.inr (.inr q))))
theorem own_one {w : World} {B e s : Nat} (hB : B ≤ w.heap.size) (cs : Array Value) (hs : cs.size = s) : (w.alloc (.cells cs e)).ownsRow B e s (.slice (some ⟨w.heap.size, 0, none⟩) 1 1) 1 cs.toList :=
  ⟨by simp [hs], .inr ⟨w.heap.size, 1, cs, rfl, hB, heap_alloc_new w _, Nat.le_refl _, by unfold maxLen; omega, by omega, by rw [List.take_of_length_le (by simp [hs])]⟩⟩
/-- What a call that sends something leaves. -/
structure Out (w w' : World) (wb : Nat) (i : WI) (c' : Nat) (P : Pw) (X : List Pp) (v : Value) : Prop where
  ex : ∃ i' S, St w w' wb i i' c' ∧ w'.ownsRow w.heap.size 66 25 v S.length (prow S) ∧ (∀ p ∈ S, PB w' p.m.v p.m.xs) ∧ i'.p = P ∧ S.map Pq.p = X
  gd : Gd w'
theorem Out.same {w w' : World} {wb : Nat} {i : WI} {c c' : Nat} (h : WS w wb i c) (g : Gd w) (hb : Below w.heap.size w w') (hc : c ≤ c') : Out w w' wb i c' i.p [] (.slice none 0 0) :=
  ⟨⟨i, [], ⟨(h.below hb).more hc, Below.ch hb, fun j hj => .inl hj⟩, World.ownsRow_nil _ _ _ _, by simp, rfl, rfl⟩, g.below hb⟩
theorem St.gd {w w' : World} {wb : Nat} {i i' : WI} {c c' : Nat} (s : St w w' wb i i' c') (h : WS w wb i c) (g : Gd w) : Gd w' := g.ch h s.ch
theorem Out.cast {w w' : World} {wb : Nat} {i : WI} {c' : Nat} {P P' : Pw} {X X' : List Pp} {v : Value} (h : Out w w' wb i c' P X v) (h1 : P = P') (h2 : X = X') : Out w w' wb i c' P' X' v := by subst h1 h2; exact h
set_option maxRecDepth 100000 in
set_option maxHeartbeats 4000000 in
theorem send_ws {w : World} {wb : Nat} {i : WI} {c : Nat} (h : WS w wb i c) (g : Gd w) (hc : c + 1 ≤ 200000) {m : Ms} (hp : PBi w m.v m.xs) (ht : m.t.size ≤ 1000000) :
    Calls Tryz.prog 49 #[.pointer (some ⟨wb, 0, none⟩), .agg #[.string m.t, m.v, .int .i64 m.q, .bool m.r]] w fun e w' => ∃ v, e = .returned (.tuple #[v, .bool (pSend i.p m.p).2.2.1, .int .i64 (pSend i.p m.p).2.2.2]) ∧ Out w w' wb i (c + 1) (pSend i.p m.p).1 (pSend i.p m.p).2.1 v := by
  obtain ⟨P, hP⟩ : ∃ P, P = pSend i.p m.p := ⟨_, rfl⟩
  rw [← hP]
  have HP := hidi hP
  clear hP
  obtain ⟨t, v, q, r, xs⟩ := m
  obtain ⟨pa, pn, pc, hv⟩ := hp.sl
  simp only at hv
  subst hv
  have hwl : wb < w.heap.size := h.lt (.inl rfl)
  obtain ⟨w1, hw1⟩ : ∃ w1, w1 = w.alloc (.cells #[.string t, .slice pa pn pc, .int .i64 q, .bool r] 45) := ⟨_, rfl⟩
  have a1 := heap_alloc_new w (.cells #[.string t, .slice pa pn pc, .int .i64 q, .bool r] 45)
  have b1 : Below w.heap.size w (w.alloc (.cells #[.string t, .slice pa pn pc, .int .i64 q, .bool r] 45)) := (Below.refl _ _).alloc (Nat.le_refl _) _
  rw [← hw1] at a1 b1
  have H := hidi (And.intro h (And.intro g (And.intro hc (And.intro hp ht))))
  have HB1 := hidi (And.intro a1 b1)
  have H36 := hidi (sendable_any t pa pn pc q r w1)
  obtain ⟨sn, hsn⟩ : ∃ sn, sn = decide (q = 1 ∨ q = 2) := ⟨_, rfl⟩
  rw [← hsn] at H36
  have HSN := hidi hsn
  have e0 := box_cells a1 0 _ rfl
  have e1 := box_cells a1 1 _ rfl
  have e2 := box_cells a1 2 _ rfl
  have e3 := box_cells a1 3 _ rfl
  clear h g hc hp ht a1 b1 hsn
  cases sn
  · go_enter Tryz.func49, Tryz.ntmps49
    go_upto_region 1 with fail
    rw [← hw1]
    clear hw1
    go_wp2_with (go_at_call 77; refine H36.out.mono ?_; rintro e w2 ⟨rfl, hb2⟩; have HB2 := hidi (HB1.out.2.trans (hb2.mono HB1.out.2.size)); have HX2 := hidi (later_at HB1.out.1 hb2); clear hb2)
    go_ret3
    have e := HP.out.trans (pSend_not (p := i.p) (m := Ms.p ⟨t, .slice pa pn pc, q, r, xs⟩) (show ¬ (q = 1 ∨ q = 2) from of_decide_eq_false HSN.out.symm))
    subst e
    exact ⟨_, rfl, Out.same H.out.1 H.out.2.1 HB2.out (Nat.le_succ _)⟩
  · go_enter Tryz.func49, Tryz.ntmps49
    go_upto_region 1 with fail
    rw [← hw1]
    clear hw1
    go_wp2_with (go_at_call 77; refine H36.out.mono ?_; rintro e w2 ⟨rfl, hb2⟩; have HB2 := hidi (HB1.out.2.trans (hb2.mono HB1.out.2.size)); have HX2 := hidi (later_at HB1.out.1 hb2); clear hb2)
    clear e0 e1 e2 e3
    have h2 := H.out.1.below HB2.out
    have e0 := box_cells HX2.out 0 _ rfl
    have e1 := box_cells HX2.out 1 _ rfl
    have e2 := box_cells HX2.out 2 _ rfl
    have e3 := box_cells HX2.out 3 _ rfl
    have c2 : w2.cell? ⟨wb, 2, none⟩ = some (.bool i.on) := box_cells h2.blk 2 _ rfl
    have c5 : w2.cell? ⟨wb, 5, none⟩ = some i.mu := box_cells h2.blk 5 _ rfl
    have c0 : w2.cell? ⟨wb, 0, none⟩ = some (.int .i64 (i.most : Int)) := box_cells h2.blk 0 _ rfl
    have hlen : ∀ m, (Builtin.len_ #[94] 3 #[i.mu]).run Tryz.prog (w2.drewN m) = .ok (.int .i64 (i.fs.length : Int)) (w2.drewN m) := fun m => ((h2.below (below_drewN (Below.refl _ _))).und).len Tryz.underlying94 3
    obtain ⟨on, hon⟩ : ∃ on, on = i.on := ⟨_, rfl⟩
    obtain ⟨mu, hmu⟩ : ∃ mu, mu = i.mu := ⟨_, rfl⟩
    obtain ⟨mo, hmo⟩ : ∃ mo, mo = i.most := ⟨_, rfl⟩
    obtain ⟨nf, hnf⟩ : ∃ nf, nf = i.fs.length := ⟨_, rfl⟩
    have HE := hidi (And.intro hon (And.intro hmo hnf))
    rw [← hon] at c2
    rw [← hmu] at c5 hlen
    rw [← hmo] at c0
    rw [← hnf] at hlen
    clear h2 hon hmu hmo hnf
    have hs : q = 1 ∨ q = 2 := of_decide_eq_true HSN.out.symm
    have HS := hidi (show Sn q from hs)
    clear hs
    by_cases hgo : on = true ∧ nf < mo
    · obtain ⟨rfl, hf⟩ := hgo
      have hf1 : (nf : Int) < (mo : Int) := by omega
      have hq := HP.out.trans (pSend_go (p := i.p) (m := Ms.p ⟨t, .slice pa pn pc, q, r, xs⟩) HS.out ⟨HE.out.1.symm, by show (i.fs.map Fm.p).length < i.most; rw [List.length_map, ← HE.out.2.1, ← HE.out.2.2]; exact hf⟩)
      have HQ := hidi hq
      clear hq
      go_wp2_with fail
      go_quiet (fail)
      obtain ⟨w3, hw3⟩ : ∃ w3, w3 = w2.drewN nq := ⟨_, rfl⟩
      rw [← hw3]
      have HB3 := hidi (show Below w.heap.size w w3 by rw [hw3]; exact below_drewN HB2.out)
      have hx3 : w3.heap[w.heap.size]? = some (.cells #[.string t, .slice pa pn pc, .int .i64 q, .bool r] 45 (0, 0)) := by rw [hw3]; simpa using HX2.out
      clear hw3 e0 e1 e2 e3 c2 c5 c0 hlen hf1
      have e0 := box_cells hx3 0 _ rfl
      have e1 := box_cells hx3 1 _ rfl
      have e2 := box_cells hx3 2 _ rfl
      have e3 := box_cells hx3 3 _ rfl
      have K38 := hidi (kept_any (w := w3) t q r (H.out.2.2.2.1.below HB3.out) H.out.2.2.2.2)
      unfold mg at K38
      clear hx3
      go_wp2_with fail
      go_must (go_at_call 65)
      refine K38.out.mono ?_
      clear K38
      rintro e w4 ⟨v', rfl, hp4, hb4⟩
      obtain ⟨a4, n4, c4, rfl⟩ := hp4.sl
      have HB4 := hidi (HB3.out.trans (hb4.mono HB3.out.size))
      have h4 := H.out.1.below HB4.out
      have hbc := h4.bc
      have LN := hidi (launch_ws (m := ⟨t, .slice a4 n4 c4, q, r, xs⟩) (c := c) (c' := c + 1) h4 (H.out.2.1.below HB4.out) (Nat.le_succ c) (by omega) H.out.2.2.1 (by rw [← HE.out.2.1, ← HE.out.2.2]; exact hf) hp4 HS.out)
      clear hp4 hb4 h4 hbc e0 e1 e2 e3
      go_wp2_with fail
      go_must (go_at_call 75)
      refine LN.out.mono ?_
      clear LN
      rintro e w5 ⟨x, rfl, id, b, mu', mt', v', hA, rfl, hp5, s5⟩
      have Z := hidi (And.intro hA (And.intro hp5 s5))
      obtain ⟨a5, n5, c5, rfl⟩ := hp5.sl
      clear hA hp5 s5
      simp only [pkc]
      go_wp2_with fail
      go_ret3
      obtain ⟨hA, hp5, s5⟩ := Z.out
      have e := HQ.out
      subst e
      refine ⟨_, rfl, ?_⟩
      have LP := launched_p (w := w) (w' := w) (wb := wb) (c' := c + 1) (i := i) (m := ⟨t, .slice a4 n4 c4, q, r, xs⟩) (b := b) (mu := mu') (mt := mt') H.out.1.bs hA
      have st := (St.below H.out.1 HB4.out).trans s5
      have bA : Below w5.heap.size w5 (w5.alloc (.cells (Pq.cs ⟨3, false, id, ⟨t, .slice a5 n5 c5, q, r, xs⟩⟩) 66)) := (Below.refl _ _).alloc (Nat.le_refl _) _
      have st2 := st.trans (St.below st.ws bA)
      refine ⟨⟨_, [⟨3, false, id, ⟨t, .slice a5 n5 c5, q, r, xs⟩⟩], st2, ?_, ?_, LP.1, ?_⟩, st2.gd H.out.1 H.out.2.1⟩
      · exact own_one (Nat.le_trans HB4.out.size s5.ch.size) (Pq.cs ⟨3, false, id, ⟨t, .slice a5 n5 c5, q, r, xs⟩⟩) rfl
      · intro p hp
        simp only [List.mem_singleton] at hp
        subst hp
        exact hp5.keep (Kb.below bA)
      · show [Pq.p _] = [_]
        have := LP.2
        rw [show Ms.p ⟨t, .slice pa pn pc, q, r, xs⟩ = Ms.p ⟨t, .slice a4 n4 c4, q, r, xs⟩ from rfl, this]
        rfl
    · have hng : ¬ (i.p.on = true ∧ i.p.fl.length < i.p.most) := fun z => hgo ⟨by rw [HE.out.1]; exact z.1, by rw [HE.out.2.1, HE.out.2.2]; simpa [WI.p] using z.2⟩
      have HNG := hidi hng
      clear hng
      cases on
      · clear hlen
        go_wp2_with fail
        go_quiet (fail)
        go_wp2_with fail
        obtain ⟨w3, hw3⟩ : ∃ w3, w3 = w2.drewN nq := ⟨_, rfl⟩
        rw [← hw3]
        have HB3 := hidi (show Below w.heap.size w w3 by rw [hw3]; exact below_drewN HB2.out)
        have HX3 := hidi (show w3.heap[w.heap.size]? = some (.cells #[.string t, .slice pa pn pc, .int .i64 q, .bool r] 45 (0, 0)) by rw [hw3]; simpa using HX2.out)
        clear hw3 e0 e1 e2 e3 c2 c5 c0
        have h3 := H.out.1.below HB3.out
        obtain ⟨la, lc, hlv⟩ := own_sl h3.row
        have hbc := h3.bc
        have hhf := h3.half
        have hcc := H.out.2.2.1
        have hk : i.Z.length + i.L.length ≤ 1000000 := by
          rcases hhf with q | q
          · omega
          · rw [q]; simp; omega
        have H35 := hidi (fun m => length_any (w := w3.drewN m) (wb := wb) (k := i.Z.length + i.L.length) (gone := i.Z.length) (la := la) (lc := lc) (by rw [← hlv]; exact box_cells (h3.below (below_drewN (Below.refl _ _))).blk 6 _ rfl) (box_cells (h3.below (below_drewN (Below.refl _ _))).blk 7 _ rfl) hk (by omega))
        have eL : i.Z.length + i.L.length - i.Z.length = i.L.length := by omega
        rw [eL] at H35
        have c1 : w3.cell? ⟨wb, 1, none⟩ = some (.int .i64 (i.queue : Int)) := box_cells h3.blk 1 _ rfl
        obtain ⟨qu, hqu⟩ : ∃ qu, qu = i.queue := ⟨_, rfl⟩
        obtain ⟨nw, hnw⟩ : ∃ nw, nw = i.L.length := ⟨_, rfl⟩
        have HF := hidi (And.intro hqu hnw)
        rw [← hqu] at c1
        rw [← hnw] at H35
        clear hqu hnw eL hk hcc hhf hbc hlv h3
        by_cases hl : nw < qu
        · have hl1 : (nw : Int) < (qu : Int) := by omega
          have HQ := hidi (HP.out.trans (pSend_wait (p := i.p) (m := Ms.p ⟨t, .slice pa pn pc, q, r, xs⟩) HS.out HNG.out (by show (i.L.map Ms.p).length < i.queue; rw [List.length_map, ← HF.out.1, ← HF.out.2]; exact hl)))
          have HL := hidi (show i.L.length < i.queue by rw [← HF.out.1, ← HF.out.2]; exact hl)
          go_quiet (first | (go_at_call 74; exact Calls.quiet_of (H35.out _)))
          go_wp2_with fail
          obtain ⟨w4, hw4⟩ : ∃ w4, w4 = w3.drewN nq := ⟨_, rfl⟩
          rw [← hw4]
          have HB4 := hidi (show Below w.heap.size w w4.drew by rw [hw4]; exact (below_drewN HB3.out).drew)
          have hx4 : w4.heap[w.heap.size]? = some (.cells #[.string t, .slice pa pn pc, .int .i64 q, .bool r] 45 (0, 0)) := by rw [hw4]; simpa using HX3.out
          clear hw4 c1 hl1 H35
          have e0 := box_cells hx4 0 _ rfl
          have e1 := box_cells hx4 1 _ rfl
          have e2 := box_cells hx4 2 _ rfl
          have e3 := box_cells hx4 3 _ rfl
          clear hx4
          have K38 := hidi (kept_any (w := w4.drew) t q r (H.out.2.2.2.1.below HB4.out) H.out.2.2.2.2)
          unfold mg at K38
          go_region_with (first
            | (go_at_call 65; refine K38.out.mono ?_; clear K38; rintro e w5 ⟨v', rfl, hp5, hb5⟩; obtain ⟨a5, n5, c5, rfl⟩ := hp5.sl; have HB5 := hidi (HB4.out.trans (hb5.mono HB4.out.size)); have J := hidi (ws_join (c := c) (m := ⟨t, .slice a5 n5 c5, q, r, xs⟩) (H.out.1.below HB5.out) (Nat.le_trans (Nat.le_succ c) H.out.2.2.1) hp5 HS.out HL.out); clear hp5 hb5)
            | (go_at_call 67; refine J.out.mono ?_; clear J; rintro e w6 ⟨rfl, lv, s6⟩; have S6 := hidi s6; clear s6))
          go_wp2_with fail
          go_ret3
          have e := HQ.out
          subst e
          have st := (St.below H.out.1 HB5.out).trans S6.out
          refine ⟨_, rfl, ⟨⟨_, [], st, World.ownsRow_nil _ _ _ _, by simp, ?_, rfl⟩, st.gd H.out.1 H.out.2.1⟩⟩
          unfold WI.p
          simp
          rfl
        · have hl1 : ¬ (nw : Int) < (qu : Int) := by omega
          have HQ := hidi (HP.out.trans (pSend_full (p := i.p) (m := Ms.p ⟨t, .slice pa pn pc, q, r, xs⟩) HS.out HNG.out (by show ¬ (i.L.map Ms.p).length < i.queue; rw [List.length_map, ← HF.out.1, ← HF.out.2]; exact hl)))
          go_quiet (first | (go_at_call 74; exact Calls.quiet_of (H35.out _)))
          go_wp2_with fail
          go_ret3
          have e := HQ.out
          subst e
          exact ⟨_, rfl, Out.same H.out.1 H.out.2.1 (below_drewN HB3.out) (Nat.le_succ _)⟩
      · have hf1 : ¬ (nf : Int) < (mo : Int) := by
          have : ¬ nf < mo := fun z => hgo ⟨rfl, z⟩
          omega
        clear hgo
        go_wp2_with fail
        go_quiet (fail)
        go_wp2_with fail
        obtain ⟨w3, hw3⟩ : ∃ w3, w3 = w2.drewN nq := ⟨_, rfl⟩
        rw [← hw3]
        have HB3 := hidi (show Below w.heap.size w w3 by rw [hw3]; exact below_drewN HB2.out)
        have HX3 := hidi (show w3.heap[w.heap.size]? = some (.cells #[.string t, .slice pa pn pc, .int .i64 q, .bool r] 45 (0, 0)) by rw [hw3]; simpa using HX2.out)
        clear hw3 e0 e1 e2 e3 c2 c5 c0 hlen
        have h3 := H.out.1.below HB3.out
        obtain ⟨la, lc, hlv⟩ := own_sl h3.row
        have hbc := h3.bc
        have hhf := h3.half
        have hcc := H.out.2.2.1
        have hk : i.Z.length + i.L.length ≤ 1000000 := by
          rcases hhf with q | q
          · omega
          · rw [q]; simp; omega
        have H35 := hidi (fun m => length_any (w := w3.drewN m) (wb := wb) (k := i.Z.length + i.L.length) (gone := i.Z.length) (la := la) (lc := lc) (by rw [← hlv]; exact box_cells (h3.below (below_drewN (Below.refl _ _))).blk 6 _ rfl) (box_cells (h3.below (below_drewN (Below.refl _ _))).blk 7 _ rfl) hk (by omega))
        have eL : i.Z.length + i.L.length - i.Z.length = i.L.length := by omega
        rw [eL] at H35
        have c1 : w3.cell? ⟨wb, 1, none⟩ = some (.int .i64 (i.queue : Int)) := box_cells h3.blk 1 _ rfl
        obtain ⟨qu, hqu⟩ : ∃ qu, qu = i.queue := ⟨_, rfl⟩
        obtain ⟨nw, hnw⟩ : ∃ nw, nw = i.L.length := ⟨_, rfl⟩
        have HF := hidi (And.intro hqu hnw)
        rw [← hqu] at c1
        rw [← hnw] at H35
        clear hqu hnw eL hk hcc hhf hbc hlv h3
        by_cases hl : nw < qu
        · have hl1 : (nw : Int) < (qu : Int) := by omega
          have HQ := hidi (HP.out.trans (pSend_wait (p := i.p) (m := Ms.p ⟨t, .slice pa pn pc, q, r, xs⟩) HS.out HNG.out (by show (i.L.map Ms.p).length < i.queue; rw [List.length_map, ← HF.out.1, ← HF.out.2]; exact hl)))
          have HL := hidi (show i.L.length < i.queue by rw [← HF.out.1, ← HF.out.2]; exact hl)
          go_quiet (first | (go_at_call 74; exact Calls.quiet_of (H35.out _)))
          go_wp2_with fail
          obtain ⟨w4, hw4⟩ : ∃ w4, w4 = w3.drewN nq := ⟨_, rfl⟩
          rw [← hw4]
          have HB4 := hidi (show Below w.heap.size w w4.drew by rw [hw4]; exact (below_drewN HB3.out).drew)
          have hx4 : w4.heap[w.heap.size]? = some (.cells #[.string t, .slice pa pn pc, .int .i64 q, .bool r] 45 (0, 0)) := by rw [hw4]; simpa using HX3.out
          clear hw4 c1 hl1 H35
          have e0 := box_cells hx4 0 _ rfl
          have e1 := box_cells hx4 1 _ rfl
          have e2 := box_cells hx4 2 _ rfl
          have e3 := box_cells hx4 3 _ rfl
          clear hx4
          have K38 := hidi (kept_any (w := w4.drew) t q r (H.out.2.2.2.1.below HB4.out) H.out.2.2.2.2)
          unfold mg at K38
          go_region_with (first
            | (go_at_call 65; refine K38.out.mono ?_; clear K38; rintro e w5 ⟨v', rfl, hp5, hb5⟩; obtain ⟨a5, n5, c5, rfl⟩ := hp5.sl; have HB5 := hidi (HB4.out.trans (hb5.mono HB4.out.size)); have J := hidi (ws_join (c := c) (m := ⟨t, .slice a5 n5 c5, q, r, xs⟩) (H.out.1.below HB5.out) (Nat.le_trans (Nat.le_succ c) H.out.2.2.1) hp5 HS.out HL.out); clear hp5 hb5)
            | (go_at_call 67; refine J.out.mono ?_; clear J; rintro e w6 ⟨rfl, lv, s6⟩; have S6 := hidi s6; clear s6))
          go_wp2_with fail
          go_ret3
          have e := HQ.out
          subst e
          have st := (St.below H.out.1 HB5.out).trans S6.out
          refine ⟨_, rfl, ⟨⟨_, [], st, World.ownsRow_nil _ _ _ _, by simp, ?_, rfl⟩, st.gd H.out.1 H.out.2.1⟩⟩
          unfold WI.p
          simp
          rfl
        · have hl1 : ¬ (nw : Int) < (qu : Int) := by omega
          have HQ := hidi (HP.out.trans (pSend_full (p := i.p) (m := Ms.p ⟨t, .slice pa pn pc, q, r, xs⟩) HS.out HNG.out (by show ¬ (i.L.map Ms.p).length < i.queue; rw [List.length_map, ← HF.out.1, ← HF.out.2]; exact hl)))
          go_quiet (first | (go_at_call 74; exact Calls.quiet_of (H35.out _)))
          go_wp2_with fail
          go_ret3
          have e := HQ.out
          subst e
          exact ⟨_, rfl, Out.same H.out.1 H.out.2.1 (below_drewN HB3.out) (Nat.le_succ _)⟩
end Go.Proofs.YtmihpmmkkklpfaaGreatDoor
namespace Go.Proofs.YtmihpmmkkklpfaaGreatDoor
open Go Go.RowKit Go.Shelf Go.Maps Go.Sort
set_option linter.unusedSimpArgs false
set_option linter.unusedVariables false
/-! ### What is released -/
def zMp : Mp := ⟨⟨#[]⟩, 0, false, []⟩
def relF (id : Nat) (g : Fm) : Fm := if g.id = id then { g with rel := true, m := zMs } else g
theorem relF_id (id : Nat) (g : Fm) : (relF id g).id = g.id := by unfold relF; split <;> rfl
theorem relF_b (id : Nat) (g : Fm) : (relF id g).b = g.b := by unfold relF; split <;> rfl
theorem relF_tn (id : Nat) (g : Fm) : (relF id g).tn = g.tn := by unfold relF; split <;> rfl
theorem lookF_rel (fs : List Fm) (id : Nat) (k : Int) : lookF (fs.map (relF id)) k = lookF fs k := by
  unfold lookF
  rw [List.find?_map]
  have : ((fun f : Fm => decide ((f.id : Int) = k)) ∘ relF id) = (fun f => decide ((f.id : Int) = k)) := by
    funext f
    simp [Function.comp_def, relF_id]
  rw [this]
  cases fs.find? (fun f => decide ((f.id : Int) = k)) with
  | none => rfl
  | some f => simp [relF_b]
theorem ids_rel (fs : List Fm) (id : Nat) : (fs.map (relF id)).map (·.id) = fs.map (·.id) := by
  rw [List.map_map]
  apply List.map_congr_left
  intro f _
  exact relF_id id f
theorem ws_rel {w W : World} {wb : Nat} {i : WI} {c : Nat} (h : WS w wb i c) {f : Fm} (hf : f ∈ i.fs) (hch : Ch (fun j => j = f.b) w W) (hb : W.heap[f.b]? = some (.cells (Fm.cs { f with rel := true, m := zMs }) 119 (0, 0))) : St w W wb i { i with fs := i.fs.map (relF f.id) } c := by
  have hchU : Ch (i.U wb) w W := hch.mono (fun j _ q => .inr (.inr (.inr (.inr ⟨f, hf, q.symm⟩))))
  have hkb := h.kb hchU
  have hfb := (h.fls f hf).blk
  have hnd : (i.fs.map (·.id)).Nodup := (List.nodup_append.1 h.nd).1
  have huniq : ∀ g ∈ i.fs, g.id = f.id → g = f := fun g hg e => by
    have h1 := lookF_mem hnd hg
    have h2 := lookF_mem hnd hf
    rw [e, h2] at h1
    have hbb : f.b = g.b := by injection h1
    have key : ∀ (l : List Fm), (l.map (·.id)).Nodup → f ∈ l → g ∈ l → g = f := by
      intro l
      induction l with
      | nil => intro _ q; cases q
      | cons x l ih =>
        intro hn q1 q2
        simp only [List.map_cons, List.nodup_cons] at hn
        rcases List.mem_cons.1 q1 with e1 | e1 <;> rcases List.mem_cons.1 q2 with e2 | e2
        · rw [e1, e2]
        · exact absurd (List.mem_map.2 ⟨g, e2, by rw [e, e1]⟩) hn.1
        · exact absurd (List.mem_map.2 ⟨f, e1, by rw [← e, e2]⟩) hn.1
        · exact ih hn.2 e1 e2
    exact key i.fs hnd hf hg
  have hinj : ∀ g ∈ i.fs, g.b = f.b → g = f := fun g hg e => by
    refine huniq g hg ?_
    have h1 := (h.fls g hg).blk
    rw [e, hfb] at h1
    simp only [Option.some.injEq, Obj.cells.injEq] at h1
    have := congrArg (fun a : Array Value => a[2]?) h1.1
    simp [Fm.cs] at this
    omega
  have hoth : ∀ j o, w.heap[j]? = some o → (∀ cs, o ≠ Obj.cells cs 119 (0, 0)) → W.heap[j]? = w.heap[j]? := fun j o hj ho => by
    refine hch.block j (Array.getElem?_eq_some_iff.1 hj).1 (fun q => ?_)
    rw [q, hfb] at hj
    cases hj
    exact ho _ rfl
  refine ⟨{ h with blk := (hoth wb _ h.blk (fun cs q => by simp at q)).trans h.blk, und := ?_, fls := ?_, tkn := ?_, row := ?_, pay := fun x hx => (h.pay x hx).keep hkb, nd := ?_, rng := ?_, srt := ?_, tns := ?_, snf := ?_, bf := ?_ }, hchU, ?_⟩
  · show MI W i.mu (i.fs.map (relF f.id)).length (fun k => (lookF (i.fs.map (relF f.id)) k).map pt)
    rw [List.length_map]
    refine (h.und.keep (fun b hb' => ?_)).congr (fun k hk => by rw [lookF_rel])
    obtain ⟨es, cl, e⟩ := h.und.block hb'
    exact hoth b _ e (fun cs q => by cases q)
  · intro x hx
    obtain ⟨g, hg, rfl⟩ := List.mem_map.1 hx
    by_cases e : g.id = f.id
    · have := huniq g hg e
      subst this
      refine ⟨?_, ?_⟩
      · rw [relF_b]
        simp only [relF, if_true]
        exact hb
      · simp only [relF, if_true]
        exact .inl ⟨rfl, rfl⟩
    · have e' : relF f.id g = g := if_neg e
      rw [e']
      refine ⟨(hch.block g.b (Array.getElem?_eq_some_iff.1 (h.fls g hg).blk).1 (fun q => ?_)).trans (h.fls g hg).blk, (h.fls g hg).pay.keep hkb⟩
      exact e (by rw [hinj g hg q])
  · have hT : ({ i with fs := i.fs.map (relF f.id) } : WI).T = i.T := by
      funext j
      unfold WI.T WI.ids
      rw [ids_rel]
    rw [hT]
    refine h.tkn.keep (fun b hb' => ?_)
    obtain ⟨es, cl, e⟩ := h.tkn.block hb'
    exact hoth b _ e (fun cs q => by cases q)
  · refine own_ch h.row hch (fun g hg q => ?_)
    obtain ⟨cur, e⟩ := own_lt h.row hg
    rw [q, hfb] at e
    simp at e
  · show ((i.fs.map (relF f.id)).map (·.id) ++ i.R).Nodup
    rw [ids_rel]
    exact h.nd
  · show ∀ j ∈ (i.fs.map (relF f.id)).map (·.id) ++ i.R, _
    rw [ids_rel]
    exact h.rng
  · show (i.fs.map (relF f.id)).Pairwise _
    rw [List.pairwise_map]
    exact h.srt.imp (fun q => by rw [relF_tn, relF_tn]; exact q)
  · intro x hx
    obtain ⟨g, hg, rfl⟩ := List.mem_map.1 hx
    rw [relF_tn]
    exact h.tns g hg
  · intro x hx
    obtain ⟨g, hg, rfl⟩ := List.mem_map.1 hx
    unfold relF
    split
    · exact ⟨fun _ => ⟨rfl, rfl, rfl, rfl⟩, nofun⟩
    · exact h.snf g hg
  · show (i.fs.map (relF f.id)).length ≤ i.most
    rw [List.length_map]
    exact h.bf
  · rintro j (q | q | q | q | ⟨x, hx, rfl⟩)
    · exact .inl (.inl q)
    · exact .inl (.inr (.inl q))
    · exact .inl (.inr (.inr (.inl q)))
    · exact .inl (.inr (.inr (.inr (.inl q))))
    · obtain ⟨g, hg, rfl⟩ := List.mem_map.1 hx
      exact .inl (.inr (.inr (.inr (.inr ⟨g, hg, (relF_b _ _).symm⟩))))
/-! ### Ack purely -/
def relP (id : Nat) (g : Fp) : Fp := if g.id = id then ⟨g.id, true, zMp⟩ else g
noncomputable def pAckF (p : Pw) (kind id : Int) (f : Fp) : Pw × List Pp :=
  if p.on = false then (p, []) else if kind = 5 ∧ (awt f.m.q f.rel = 5 ∨ awt f.m.q f.rel = 7) then ({ p with fl := p.fl.map (relP f.id) }, [⟨6, false, id, zMp⟩]) else if awt f.m.q f.rel = kind then pFill { p with fl := p.fl.filter (fun g => g.id != f.id) } else (p, [])
noncomputable def pAck (p : Pw) (kind id : Int) : Pw × List Pp :=
  match p.fl.find? (fun f => decide ((f.id : Int) = id)) with
  | none => (p, [])
  | some f => pAckF p kind id f
theorem find_p (fs : List Fm) (id : Int) : (fs.map Fm.p).find? (fun f => decide ((f.id : Int) = id)) = (fs.find? (fun f => decide ((f.id : Int) = id))).map Fm.p := by
  rw [List.find?_map]
  rfl
theorem map_rel_p (fs : List Fm) (id : Nat) : (fs.map (relF id)).map Fm.p = (fs.map Fm.p).map (relP id) := by
  rw [List.map_map, List.map_map]
  apply List.map_congr_left
  intro f _
  by_cases e : f.id = id
  · have e1 : relF id f = { f with rel := true, m := zMs } := if_pos e
    have e2 : relP id f.p = ⟨f.id, true, zMp⟩ := if_pos e
    simp only [Function.comp_apply]
    rw [e1, e2]
    rfl
  · have e1 : relF id f = f := if_neg e
    have e2 : relP id f.p = f.p := if_neg e
    simp only [Function.comp_apply]
    rw [e1, e2]
theorem filter_p (fs : List Fm) (id : Nat) : (fs.filter (fun f => f.id != id)).map Fm.p = (fs.map Fm.p).filter (fun g => g.id != id) := by
  rw [List.filter_map]
  rfl
theorem zero78 (w : World) : (zeroValue 114).run Tryz.prog w = .ok (.pointer none) w := by kernel_rfl
end Go.Proofs.YtmihpmmkkklpfaaGreatDoor
