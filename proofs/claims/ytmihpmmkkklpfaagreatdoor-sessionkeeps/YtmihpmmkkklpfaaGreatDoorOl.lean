import Derived.Test.YtmihpmmkkklpfaaGreatDoorOk
namespace Go.Proofs.YtmihpmmkkklpfaaGreatDoor
open Go Go.RowKit Go.Shelf Go.Maps Go.Sort
set_option linter.unusedSimpArgs false
set_option linter.unusedVariables false
/-! ### fill -/
structure FlI (w wr : World) (wb : Nat) (i ir : WI) (c B : Nat) (sv lv : Value) (n : Nat) (S0 S : List Pq) : Prop where
  ws : WS wr wb ir c
  gd : Gd wr
  ch : Ch (fun j => i.U wb j ∨ sv.ownBlock = some j) w wr
  bl : ∀ j, ir.U wb j → i.U wb j ∨ w.heap.size ≤ j
  own : wr.ownsRow 0 66 25 lv (n + S.length) (prow (S0 ++ S))
  nb : ∀ j, lv.ownBlock = some j → sv.ownBlock = some j ∨ w.heap.size ≤ j
  pay : ∀ p ∈ S0 ++ S, PB wr p.m.v p.m.xs
  len : S.length + ir.L.length = i.L.length
  f1 : (pFill i.p).1 = (pFill ir.p).1
  f2 : (pFill i.p).2 = S.map Pq.p ++ (pFill ir.p).2
def FillOut (w w' : World) (wb : Nat) (i : WI) (c B : Nat) (sv : Value) (n : Nat) (S0 : List Pq) (v : Value) : Prop := ∃ ir S, FlI w w' wb i ir c B sv v n S0 S ∧ ir.p = (pFill i.p).1 ∧ S.map Pq.p = (pFill i.p).2
theorem FlI.drewN {w wr : World} {wb : Nat} {i ir : WI} {c B : Nat} {sv lv : Value} {n : Nat} {S0 S : List Pq} (h : FlI w wr wb i ir c B sv lv n S0 S) (m : Nat) : FlI w (wr.drewN m) wb i ir c B sv lv n S0 S :=
  have hb : Below wr.heap.size wr (wr.drewN m) := below_drewN (Below.refl _ _)
  { h with ws := h.ws.below hb, gd := h.gd.below hb, ch := h.ch.trans (ch_drewN (fun _ => False) wr m) (fun j _ q => q.elim), own := own_below h.own hb, pay := fun p hp => (h.pay p hp).keep (Kb.below hb) }
theorem FlI.stop {w wr : World} {wb : Nat} {i ir : WI} {c B : Nat} {sv lv : Value} {n : Nat} {S0 S : List Pq} (h : FlI w wr wb i ir c B sv lv n S0 S) (hs : ir.on = false ∨ ir.most ≤ ir.fs.length ∨ ir.L = []) : FillOut w wr wb i c B sv n S0 lv := by
  have e := pFill_stop (p := ir.p) (by
    rcases hs with q | q | q
    · exact .inl q
    · exact .inr (.inl (by simpa [WI.p] using q))
    · exact .inr (.inr (by simp [WI.p, q])))
  refine ⟨ir, S, h, ?_, ?_⟩
  · rw [h.f1, e]
  · rw [h.f2, e]; simp
/-- One round: what next and launch leave, and the append behind them. -/
theorem FlI.step {w wr w2 w3 : World} {wb : Nat} {i ir : WI} {c B : Nat} {sv lv : Value} {n : Nat} {S0 S : List Pq} (h : FlI w wr wb i ir c B sv lv n S0 S) (hon : ir.on = true) (hf : ir.fs.length < ir.most) {m : Ms} {L' : List Ms} (hL : ir.L = m :: L') {lv2 : Value} {Z2 : List Ms} (s2 : St wr w2 wb ir { ir with lv := lv2, Z := Z2, L := L' } c) {x : Value} (hl : Launched w2 w3 wb { ir with lv := lv2, Z := Z2, L := L' } c m x) (hn : n + S.length ≤ 1000000) :
    ∃ p : Pq, x = .agg p.cs ∧ ∃ g' cap' w4, (Builtin.append_ #[38, 38] 38 #[lv, .slice (some ⟨w3.heap.size, 0, none⟩) 1 1]).run Tryz.prog (w3.alloc (.cells p.cs 66)) = .ok (.slice (some ⟨g', 0, none⟩) (n + S.length + 1) cap') w4 ∧ ∃ ir', FlI w w4 wb i ir' c B sv (.slice (some ⟨g', 0, none⟩) (n + S.length + 1) cap') n S0 (S ++ [p]) ∧ ir'.L.length + 1 = ir.L.length := by
  obtain ⟨id, b, mu, mt, v', hA, rfl, hp', s3⟩ := hl
  have st := s2.trans s3
  have LP := launched_p (w := w) (w' := w) (wb := wb) (c' := c) (i := { ir with lv := lv2, Z := Z2, L := L' }) (m := m) (b := b) (mu := mu) (mt := mt) h.ws.bs hA
  have hown3 : w3.ownsRow 0 66 25 lv (n + S.length) (prow (S0 ++ S)) := own_ch h.own st.ch (fun g hg u => by
    obtain ⟨cur, e⟩ := own_lt h.own hg
    exact h.ws.other e ⟨_, 66, _, rfl, by decide, by decide, by decide⟩ u)
  refine ⟨⟨3, false, id, ⟨m.t, v', m.q, m.r, m.xs⟩⟩, rfl, ?_⟩
  obtain ⟨g', cap', w4, k1, k2, k3, k4, k5⟩ := app_pk hown3 ⟨3, false, id, ⟨m.t, v', m.q, m.r, m.xs⟩⟩ hp'.sl hn
  have hnU : ∀ j, lv.ownBlock = some j → ∀ (i' : WI), WS w3 wb i' c → ¬ i'.U wb j := fun j hj i' hw u => by
    obtain ⟨cur, e⟩ := own_lt hown3 hj
    exact hw.other e ⟨_, 66, _, rfl, by decide, by decide, by decide⟩ u
  have hkb : Kb wr w4 := (h.ws.kb st.ch).trans k5
  refine ⟨g', cap', w4, k1, _, ⟨st.ws.keep k3 (fun j hj q => hnU j q _ st.ws hj) k5, ?_, ?_, ?_, ?_, ?_, ?_, ?_, ?_, ?_⟩, ?_⟩
  · have g3 := h.gd.ch h.ws st.ch
    obtain ⟨o, ho, hO⟩ := g3.oth
    have he : w4.heap[0]? = w3.heap[0]? := k3.block 0 (Array.getElem?_eq_some_iff.1 ho).1 (fun q => ?_)
    · exact ⟨fun j hj => (cell_heap (by exact he)).trans (g3.tab j hj), o, he.trans ho, hO⟩
    · obtain ⟨cur, e⟩ := own_lt hown3 q
      obtain ⟨cs, t, fz, rfl, -, -, -, h51, -⟩ := hO
      rw [e] at ho
      cases ho
      exact h51 rfl
  · refine (h.ch.trans st.ch (fun j hj u => ?_)).trans k3 (fun j hj q => ?_)
    · exact (h.bl j u).elim .inl (fun e => absurd hj (by omega))
    · exact (h.nb j q).elim .inr (fun e => absurd hj (by omega))
  · exact fun j hj => (st.bl j hj).elim (h.bl j) (fun e => .inr (Nat.le_trans h.ch.size e))
  · rw [← List.append_assoc, List.length_append, List.length_singleton, ← Nat.add_assoc]
    exact k2
  · intro j hj
    simp [Value.ownBlock] at hj
    subst hj
    rcases k4 with q | q
    · exact h.nb _ q
    · exact .inr (Nat.le_trans h.ch.size (Nat.le_trans st.ch.size q))
  · intro p hp
    rw [← List.append_assoc] at hp
    rcases List.mem_append.1 hp with q | q
    · exact (h.pay p q).keep hkb
    · simp only [List.mem_singleton] at q
      subst q
      exact hp'.keep k5
  · have := h.len
    rw [hL] at this
    simp at this ⊢
    show S.length + 1 + L'.length = i.L.length
    omega
  · rw [h.f1, pFill_go (p := ir.p) (m := m.p) (wt := L'.map Ms.p) hon (by simpa [WI.p] using hf) (by simp [WI.p, hL])]
    show _ = (pFill (WI.p _)).1
    rw [LP.1]
    rfl
  · rw [h.f2, pFill_go (p := ir.p) (m := m.p) (wt := L'.map Ms.p) hon (by simpa [WI.p] using hf) (by simp [WI.p, hL])]
    show _ = _ ++ (pFill (WI.p _)).2
    rw [LP.1, List.map_append, List.append_assoc]
    show _ ++ ((pLaunch (WI.p { ir with lv := lv2, Z := Z2, L := L' }) m.p).2 :: _) = _
    rw [LP.2]
    rfl
  · rw [hL]; rfl
set_option maxRecDepth 100000 in
set_option maxHeartbeats 4000000 in
theorem fill_ws {w : World} {wb : Nat} {i : WI} {c : Nat} (h : WS w wb i c) (g : Gd w) (hc : c ≤ 200000) {B n : Nat} {sv : Value} {S0 : List Pq} (ho : w.ownsRow B 66 25 sv n (prow S0)) (hn : n ≤ 100000) (hp : ∀ p ∈ S0, PB w p.m.v p.m.xs) :
    Calls Tryz.prog 48 #[.pointer (some ⟨wb, 0, none⟩), sv] w fun e w' => ∃ v, e = .returned v ∧ FillOut w w' wb i c B sv n S0 v := by
  have F0 := hidi (show FlI w w wb i i c B sv sv n S0 [] from { ws := h, gd := g, ch := Ch.refl _ _, bl := fun j hj => .inl hj, own := by simpa using own0 ho, nb := fun j hj => .inl hj, pay := by simpa using hp, len := by simp, f1 := rfl, f2 := by simp })
  have HC := hidi (And.intro hc (And.intro hn h.bc))
  obtain ⟨nL, hnL⟩ : ∃ nL, nL = i.L.length + 1 := ⟨_, rfl⟩
  have HNL := hidi hnL
  clear h g hc ho hn hp hnL
  go_enter Tryz.func48, Tryz.ntmps48
  go_wp2_with fail
  go_loopg [1] nL (fun gk s1 wx => ∃ (ir : WI) (S : List Pq) (lv : Value), ir.L.length + 1 = gk ∧ lv = s1 ∧ Hid (FlI w wx wb i ir c B sv lv n S0 S))
  case atStart => exact ⟨i, [], _, HNL.out.symm, rfl, F0.out⟩
  case round =>
    obtain ⟨ir, S, lv, hgk, rfl, HI⟩ := hrel
    have hw := HI.out.ws
    have c2 : wr.cell? ⟨wb, 2, none⟩ = some (.bool ir.on) := box_cells hw.blk 2 _ rfl
    have c5 : wr.cell? ⟨wb, 5, none⟩ = some ir.mu := box_cells hw.blk 5 _ rfl
    have c0 : wr.cell? ⟨wb, 0, none⟩ = some (.int .i64 (ir.most : Int)) := box_cells hw.blk 0 _ rfl
    have hlen : ∀ m, (Builtin.len_ #[94] 3 #[ir.mu]).run Tryz.prog (wr.drewN m) = .ok (.int .i64 (ir.fs.length : Int)) (wr.drewN m) := fun m => ((hw.below (below_drewN (Below.refl _ _))).und).len Tryz.underlying94 3
    obtain ⟨la, lc, hlv⟩ := own_sl hw.row
    have hbc := hw.bc
    have hhf := hw.half
    have hcc := HC.out
    have hk : ir.Z.length + ir.L.length ≤ 1000000 := by
      rcases hhf with q | q
      · omega
      · rw [q]; simp; omega
    have H35 := hidi (fun m => length_any (w := wr.drewN m) (wb := wb) (k := ir.Z.length + ir.L.length) (gone := ir.Z.length) (la := la) (lc := lc) (by rw [← hlv]; exact box_cells (hw.below (below_drewN (Below.refl _ _))).blk 6 _ rfl) (box_cells (hw.below (below_drewN (Below.refl _ _))).blk 7 _ rfl) hk (by omega))
    have e1 : ir.Z.length + ir.L.length - ir.Z.length = ir.L.length := by omega
    rw [e1] at H35
    obtain ⟨on, hon⟩ : ∃ on, on = ir.on := ⟨_, rfl⟩
    obtain ⟨mu, hmu⟩ : ∃ mu, mu = ir.mu := ⟨_, rfl⟩
    obtain ⟨mo, hmo⟩ : ∃ mo, mo = ir.most := ⟨_, rfl⟩
    obtain ⟨nf, hnf⟩ : ∃ nf, nf = ir.fs.length := ⟨_, rfl⟩
    obtain ⟨nw, hnw⟩ : ∃ nw, nw = ir.L.length := ⟨_, rfl⟩
    have HE := hidi (And.intro hon (And.intro hmo (And.intro hnf hnw)))
    rw [← hon] at c2
    rw [← hmu] at c5 hlen
    rw [← hmo] at c0
    rw [← hnf] at hlen
    rw [← hnw] at H35
    have STOP := hidi (fun (m : Nat) (hs : ir.on = false ∨ ir.most ≤ ir.fs.length ∨ ir.L = []) => (HI.out.drewN m).stop hs)
    clear hon hmo hnf hnw hmu hlv e1 hk hhf hbc hcc hw
    cases on
    · have Z := hidi (fun m => STOP.out m (.inl HE.out.1.symm))
      clear hlen
      go_wp2_with fail
      go_quiet (fail)
      go_wp2_with fail
      go_ret
      exact ⟨lv, rfl, Z.out _⟩
    · by_cases hf : nf < mo
      · have hf1 : (nf : Int) < (mo : Int) := by omega
        by_cases hw0 : nw = 0
        · have Z := hidi (fun m => STOP.out m (.inr (.inr (List.length_eq_zero_iff.1 (by rw [← HE.out.2.2.2]; exact hw0)))))
          subst hw0
          have g0 : ¬ ((0 : Nat) : Int) > 0 := by omega
          go_wp2_with fail
          go_quiet (first | (go_at_call 74; exact Calls.quiet_of (H35.out _)))
          go_wp2_with fail
          go_ret
          exact ⟨lv, rfl, Z.out _⟩
        · have g0 : (nw : Int) > 0 := by omega
          have g1 : (0 : Int) < (nw : Int) := by omega
          go_wp2_with fail
          go_quiet (first | (go_at_call 74; exact Calls.quiet_of (H35.out _)))
          go_wp2_with fail
          obtain ⟨m, L', hL⟩ : ∃ m L', ir.L = m :: L' := by
            cases e : ir.L with
            | nil => exact absurd (by rw [HE.out.2.2.2, e]; rfl) hw0
            | cons m L' => exact ⟨m, L', rfl⟩
          have hI := HI.out.drewN nq
          obtain ⟨wn, hwn⟩ : ∃ wn, wn = wr.drewN nq := ⟨_, rfl⟩
          rw [← hwn] at hI ⊢
          have hff : ir.fs.length < ir.most := by rw [← HE.out.2.1, ← HE.out.2.2.1]; exact hf
          have HI2 := hidi (And.intro hI (And.intro hL (And.intro hff HE.out.1.symm)))
          have HK := hidi (show ir.L.length < gk by omega)
          clear hI hwn c2 c5 c0 hlen STOP H35 g0 g1 hf1 hff hw0 hf
          refine (next_ws HI2.out.1.ws HC.out.1 HI2.out.2.1).mono ?_
          rintro e w2 ⟨rfl, lv2, Z2, s2⟩
          have hb := HI2.out.1.ws.bc
          have hlL : ir.L.length = L'.length + 1 := by rw [HI2.out.2.1]; rfl
          have LN := hidi (launch_ws (w := w2) (wb := wb) (i := { ir with lv := lv2, Z := Z2, L := L' }) (c := c) (c' := c) (m := m) s2.ws (HI2.out.1.gd.ch HI2.out.1.ws s2.ch) (Nat.le_refl c) (by show ir.la + 1 + L'.length ≤ c ∧ ir.N + 1 + L'.length ≤ c; omega) HC.out.1 HI2.out.2.2.1 ((HI2.out.1.ws.pay m (by rw [HI2.out.2.1]; simp)).keep (HI2.out.1.ws.kb s2.ch)) (HI2.out.1.ws.snl m (by rw [HI2.out.2.1]; simp)))
          have S2 := hidi s2
          clear s2 hb hlL
          unfold mg
          go_wp2_with fail
          go_must (go_at_call 75)
          refine LN.out.mono ?_
          clear LN
          rintro e w3 ⟨x, rfl, hl⟩
          obtain ⟨p, hx, g', cap', w4, hr, ir', hF, hle⟩ := HI2.out.1.step HI2.out.2.2.2 HI2.out.2.2.1 HI2.out.2.1 S2.out hl (by have := HC.out; have := HI2.out.1.len; omega)
          have HR := hidi hr
          have HF := hidi (And.intro hF hle)
          clear hr hF hle hl hL
          subst hx
          simp only [Pq.cs, pkc]
          go_wp2_with (at_builtin; refine Lib.wpList_append_run _ rfl _ _ 38 38 rfl _ _ rfl rfl _ _ HR.out ?_)
          go_roundg (ir'.L.length + 1)
          case measure => have := HF.out.2; have := HK.out; omega
          case rel => exact ⟨ir', S ++ [p], _, rfl, rfl, HF.out.1⟩
      · have hf1 : ¬ (nf : Int) < (mo : Int) := by omega
        have Z := hidi (fun m => STOP.out m (.inr (.inl (by rw [← HE.out.2.1, ← HE.out.2.2.1]; omega))))
        go_wp2_with fail
        go_quiet (fail)
        go_wp2_with fail
        go_ret
        exact ⟨lv, rfl, Z.out _⟩
end Go.Proofs.YtmihpmmkkklpfaaGreatDoor
