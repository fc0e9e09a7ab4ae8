import Derived.Test.YtbjhblnagmpnfaaDoorPa
import Derived.Deep.DeepCutAuto
namespace Go.Proofs.YtbjhblnagmpnfaaDoor
open Go Go.RowKit Go.Shelf Go.Maps Go.Sort
set_option linter.unusedSimpArgs false
set_option linter.unusedVariables false
/-! ### Calls within the law -/
section
variable {w0 W : World} {wb rb : Nat} {p : Pw} {c : Nat} {n q : Int} {F : Nat → Prop}
theorem hs_play (h : HS w0 W wb rb p c n q p.R) (hc : c + 1 ≤ 200000) (o : Ov) (hp : PBi W o.m.v o.m.xs) (ht : o.m.t.size ≤ 1000000) (ha : okI o.a) (hn : okI o.n) (h5 : o.k ≠ 5) (h6 : o.k ≠ 6) : Calls Tryd.prog 11 #[.pointer (some ⟨wb, 0, none⟩), .agg o.cs] W fun e w' => ∃ v', e = .returned v' ∧ ∃ p', HS w0 w' wb rb p' (c + 1) n q p'.R := by
  refine (ks_play h.ks hc o hp ht ha hn).mono ?_
  rintro e w' ⟨v, rfl, k, r, -⟩
  obtain ⟨s, f⟩ := play_ok o.k o.m.p o.a o.n h.fu h5 h6
  refine ⟨v, rfl, (pPlay p o.k o.m.p o.a o.n).1, ?_⟩
  rw [s.r]
  exact h.to k r f s.m s.q
/-- Reserve, with what the law asks of it. -/
def Resd (w0 : World) (wb rb : Nat) (c : Nat) (n q : Int) (Rm : List Nat) (e : Ending) (w' : World) : Prop :=
  (e = .returned (.tuple #[.int .i64 0, .bool false]) ∧ 65535 - mostOf n ≤ Rm.length ∧ ∃ p', HS w0 w' wb rb p' c n q Rm ∧ p'.R = Rm) ∨ ∃ id : Nat, e = .returned (.tuple #[.int .i64 (id : Int), .bool true]) ∧ Rm.length < 65535 - mostOf n ∧ 1 ≤ id ∧ id ≤ 65535 ∧ id ∉ Rm ∧ ∃ p', HS w0 w' wb rb p' c n q Rm ∧ p'.R = Rm ++ [id]
theorem hs_reserve (h : HS w0 W wb rb p c n q p.R) (hc : c + 1 ≤ 200000) : Calls Tryd.prog 9 #[.pointer (some ⟨wb, 0, none⟩)] W (Resd w0 wb rb (c + 1) n q p.R) := by
  refine (ks_reserve h.ks hc).mono ?_
  rintro e w' ⟨rfl, k, r⟩
  have hf := h.ks.facts
  by_cases hr : 65535 - p.most ≤ p.R.length
  · have ep : pReserve p = (p, 0, false) := by unfold pReserve; rw [if_pos hr]
    rw [ep] at k ⊢
    exact .inl ⟨rfl, by rw [← h.mo]; exact hr, p, h.to k r h.fu rfl rfl, rfl⟩
  · have ep : pReserve p = ({ p with last := abvF p.T p.last, R := p.R ++ [abvF p.T p.last] }, (abvF p.T p.last : Int), true) := by unfold pReserve; rw [if_neg hr]
    rw [ep] at k ⊢
    have kf := k.facts
    simp only at kf
    have hm : abvF p.T p.last ∈ p.fl.map (·.id) ++ (p.R ++ [abvF p.T p.last]) := by simp
    have hrg := kf.2.1 _ hm
    have hni : abvF p.T p.last ∉ p.R := fun z => by
      have h2 := (List.nodup_append.1 kf.1).2.1
      exact (List.nodup_append.1 h2).2.2 _ z _ (by simp) rfl
    exact .inr ⟨abvF p.T p.last, rfl, by rw [← h.mo]; omega, hrg.1, hrg.2, hni, _, h.to k r h.fu rfl rfl, rfl⟩
theorem hs_free (h : HS w0 W wb rb p c n q p.R) (hc : c ≤ 200000) (id : Int) (hid : okI id) : Calls Tryd.prog 10 #[.pointer (some ⟨wb, 0, none⟩), .int .i64 id] W fun e w' => e = .returned (.bool (decide (0 ≤ id ∧ id.toNat ∈ p.R))) ∧ ∃ p', HS w0 w' wb rb p' c n q p.R ∧ p'.R = (if 0 ≤ id ∧ id.toNat ∈ p.R then p.R.filter (fun j => j != id.toNat) else p.R) := by
  refine (ks_free h.ks hc id hid).mono ?_
  rintro e w' ⟨rfl, k, r⟩
  by_cases hR : 0 ≤ id ∧ id.toNat ∈ p.R
  · have ep : pFree p id = ({ p with R := p.R.filter (fun j => j != id.toNat) }, true) := by unfold pFree; rw [if_pos hR]
    rw [ep] at k ⊢
    rw [decide_eq_true hR, if_pos hR]
    exact ⟨rfl, _, h.to k r h.fu rfl rfl, rfl⟩
  · have ep : pFree p id = (p, false) := by unfold pFree; rw [if_neg hR]
    rw [ep] at k ⊢
    rw [decide_eq_false hR, if_neg hR]
    exact ⟨rfl, _, h.to k r h.fu rfl rfl, rfl⟩
theorem hs_waiting (h : KS F W wb p c) (hc : c ≤ 200000) : Calls Tryd.prog 14 #[.pointer (some ⟨wb, 0, none⟩)] W fun e w' => e = .returned (.int .i64 (p.wt.length : Int)) ∧ ∃ m, w' = W.drewN m := by
  obtain ⟨i, hw, rfl, hF⟩ := h.ex
  rw [show i.p.wt.length = i.L.length by simp [WI.p]]
  have H := hidi (hw.length hc)
  have hwl : wb < W.heap.size := hw.lt (.inl rfl)
  clear hw hF h
  go_enter Tryd.func14, Tryd.ntmps14
  go_wp2_with (go_at_call 35; refine H.out.mono ?_; rintro e w' ⟨rfl, m, rfl⟩)
  go_ret
  exact ⟨rfl, _, rfl⟩
end
set_option maxRecDepth 100000 in
set_option maxHeartbeats 4000000 in
theorem holds_any {w : World} (g : Gd w) (n q : Int) {sa : Option Addr} {N cap : Nat} {ops : List Ov} (hS : Scr w sa N cap ops) : Calls Tryd.prog 3 #[.int .i64 n, .int .i64 q, .slice sa N cap] w fun e w' => e = .returned (.bool true) ∧ Below w.heap.size w w' := by
  have KN := hidi (known_any w g)
  have H := hidi (And.intro g hS)
  obtain ⟨a, ha⟩ : ∃ a, max n 1 = a := ⟨_, rfl⟩
  obtain ⟨b, hb⟩ : ∃ b, max q 0 = b := ⟨_, rfl⟩
  obtain ⟨mo, hmo⟩ : ∃ mo, mo = mostOf n := ⟨_, rfl⟩
  obtain ⟨qu, hqu⟩ : ∃ qu, qu = queueOf q := ⟨_, rfl⟩
  have ha2 : min a 65535 = (mo : Int) := by rw [hmo, (mostOf_is n).2.2, ha]
  have hb2 : min b 65536 = (qu : Int) := by rw [hqu, (queueOf_is q).2, hb]
  have HMQ := hidi (And.intro hmo hqu)
  have hmk : ∀ W : World, (Instr.makeMap 27 none).run Tryd.prog W = .ok (.map (some W.heap.size)) (W.alloc (.map #[] 0)) := fun W => by simp [Instr.makeMap, run_underlying Tryd.underlying27]; try rfl
  clear g hS hmo hqu
  go_enter Tryd.func3, Tryd.ntmps3
  go_wp2_with (first | (go_at_call 6; refine KN.out.mono ?_; clear KN; rintro e w1 ⟨rfl, hb1⟩; have HB1 := hidi hb1; clear hb1))
  go_must (go_at_call 7)
  have FW := hidi (few_any (H.out.2.keep (fun j hj => HB1.out.block j hj)))
  refine FW.out.mono ?_
  clear FW
  rintro e w2 ⟨x, rfl, hx, hb2'⟩
  have HB2 := hidi (HB1.out.trans (hb2'.mono HB1.out.size))
  have HX := hidi hx
  clear hx hb2'
  cases x
  · go_wp2_with fail
    go_ret
    exact ⟨rfl, HB2.out⟩
  · have HFew := hidi (HX.out rfl)
    have NW := hidi (ks_new n q w2 (H.out.1.below HB2.out))
    clear HX
    go_wp2_with fail
    go_must (go_at_call 8)
    refine NW.out.mono ?_
    clear NW
    rintro e w3 ⟨rfl, k3, b3⟩
    obtain ⟨wb, hwb⟩ : ∃ wb, wb = w2.heap.size := ⟨_, rfl⟩
    rw [← hwb] at k3 ⊢
    have HK3 := hidi (And.intro k3 b3)
    have HWB := hidi hwb
    clear k3 b3 hwb
    go_wp2_with fail
    -- LOOP
    obtain ⟨rb, hrb⟩ : ∃ rb, rb = w3.heap.size := ⟨_, rfl⟩
    have hbA : Below w3.heap.size w3 (w3.alloc (.map #[] 0)) := (Below.refl _ _).alloc (Nat.le_refl _) _
    have I0 := hidi (show HS w (w3.alloc (.map #[] 0)) wb rb ⟨mostOf n, queueOf q, false, 0, [], [], []⟩ 0 n q [] from {
      ks := ((HK3.out.1.add hbA (b := rb) (by rw [hrb]; exact Nat.le_refl _) (by rw [hrb]; simp)).less (fun j hj => hj.elim (fun z => .inl (by have := HWB.out; have := HB2.out.size; omega)) .inr))
      mp := by rw [hrb]; exact (MI.made w3).congr (fun k _ => by simp [fR])
      bel := HB2.out.trans ((HK3.out.2.mono HB2.out.size).trans (hbA.mono (Nat.le_trans HB2.out.size HK3.out.2.size)))
      fu := fun z => by cases z
      mo := rfl
      qu := rfl
      rb0 := by rw [hrb]; exact Nat.le_trans HB2.out.size HK3.out.2.size })
    rw [← hrb]
    clear hrb hbA HK3
    go_loopg [11] N (fun gk s11 wx => ∃ (j : Nat) (p : Pw), j + gk = N ∧ s11 = .int .i64 j ∧ Hid (HS w wx wb rb p j n q p.R))
    case atStart => exact ⟨0, _, by omega, rfl, I0.out⟩
    case round =>
      obtain ⟨j, p, hj, rfl, HI⟩ := hrel
      clear I0
      by_cases hjn : j < N
      · have hlt : (j : Int) < (N : Int) := by omega
        have hge : (0 : Int) ≤ (j : Int) := by omega
        have hN3 := HFew.out.1
        have hjf : j < ops.length := by rw [H.out.2.len]; exact hjn
        have hw1 : IntKind.i64.wrap ((j : Int) + 1) = (j : Int) + 1 := by rw [IntKind.wrap_i64]; omega
        have HJ := hidi (show j + 1 ≤ 300 by omega)
        have hscr := H.out.2.keep (fun b hb => HI.out.bel.block b hb)
        obtain ⟨g, o, hsa, hcell⟩ := hscr.cell (by omega)
        subst hsa
        have hpy := hscr.pay _ (List.getElem_mem hjf)
        have hsz := HFew.out.2 _ (List.getElem_mem hjf)
        have hwf := hscr.wf _ (List.getElem_mem hjf)
        have hc := hcell j hjf
        obtain ⟨f, hf⟩ : ∃ f, f = ops[j] := ⟨_, rfl⟩
        rw [← hf] at hpy hsz hwf hc
        have hcw : w.cell? ⟨g, o + j * 8 + 7, none⟩ = some (.int .i64 f.n) := by
          obtain ⟨g', o', e', hc'⟩ := H.out.2.cell (by omega)
          cases e'
          rw [hf]
          exact hc' j hjf 7 (by omega)
        have HCW := hidi hcw
        clear hf hcell hscr hN3 hjf hcw
        obtain ⟨kk, s0, ⟨t, v, qq, r, xs⟩, aa, nn⟩ := f
        obtain ⟨pa, pc, hv, hln⟩ := hpy.sl
        simp only at hv
        subst hv
        obtain ⟨pn, hpn⟩ : ∃ pn, pn = xs.length := ⟨_, rfl⟩
        have hp : PBi wr (.slice pa pn pc) xs := by rw [hpn]; exact hpy.i (by have := hsz.2; simp only at this; omega)
        have k0 : wr.cell? ⟨g, o + j * 8, none⟩ = some (.int .i64 kk) := hc 0 (by omega)
        have k1 : wr.cell? ⟨g, o + j * 8 + 1, none⟩ = some (.bool s0) := hc 1 (by omega)
        have k2 : wr.cell? ⟨g, o + j * 8 + 2, none⟩ = some (.string t) := hc 2 (by omega)
        have k3 : wr.cell? ⟨g, o + j * 8 + 3, none⟩ = some (.slice pa pn pc) := by rw [hpn]; exact hc 3 (by omega)
        have k4 : wr.cell? ⟨g, o + j * 8 + 4, none⟩ = some (.int .i64 qq) := hc 4 (by omega)
        have k5 : wr.cell? ⟨g, o + j * 8 + 5, none⟩ = some (.bool r) := hc 5 (by omega)
        have k6 : wr.cell? ⟨g, o + j * 8 + 6, none⟩ = some (.int .i64 aa) := hc 6 (by omega)
        have k7 : wr.cell? ⟨g, o + j * 8 + 7, none⟩ = some (.int .i64 nn) := hc 7 (by omega)
        have HP := hidi (And.intro hp (And.intro (show t.size ≤ 1000000 by have := hsz.1; simp only at this; omega) hwf))
        have hmb : mo ≤ 65535 := by rw [HMQ.out.1]; exact (mostOf_is n).2.1
        have hwm : IntKind.i64.wrap (65535 - (mo : Int)) = 65535 - (mo : Int) := by rw [IntKind.wrap_i64]; omega
        clear hp hpy hsz hwf hc hln hpn
        go_upto_if 54 with fail
        go_cut [] (fun wx => ∃ p', Hid (HS w wx wb rb p' (j + 1) n q p'.R))
        case first =>
          as_aux_lemma =>
          by_cases hk5 : kk = 5
          · subst hk5
            have RS := hidi (hs_reserve HI.out (by have := HJ.out; omega))
            go_wp2_with fail
            go_must (go_at_call 9)
            clear k0 k1 k2 k3 k4 k5 k6 k7
            refine RS.out.mono ?_
            clear RS
            rintro e w4 (⟨rfl, hr, p', hs, he⟩ | ⟨id, rfl, hr, hi1, hi2, hni, p', hs, he⟩)
            · obtain ⟨x, hlk⟩ := hs.look 0 (okI_nat 0 (by omega))
              obtain ⟨tw, htw⟩ : ∃ tw, tw = decide ((0 : Int) ≤ 0 ∧ (0 : Int).toNat ∈ p.R) := ⟨_, rfl⟩
              rw [← htw] at hlk
              have hlenR := hs.mp.len Tryd.underlying27 3
              obtain ⟨nr, hnr⟩ : ∃ nr, nr = p.R.length := ⟨_, rfl⟩
              rw [← hnr] at hlenR
              have hg1 : (nr : Int) ≥ 65535 - (mo : Int) := by rw [hnr, HMQ.out.1]; omega
              have hg2 : 65535 - (mo : Int) ≤ (nr : Int) := hg1
              have HH := hidi (And.intro hs he)
              clear hs he htw hnr hr
              go_wp2_with fail
              go_meet
              refine ⟨p', ?_⟩
              show HS _ _ _ _ _ _ _ _ _
              rw [HH.out.2]
              exact HH.out.1
            · obtain ⟨x, hlk⟩ := hs.look (id : Int) (okI_nat id (by omega))
              rw [decide_eq_false (show ¬ ((0 : Int) ≤ (id : Int) ∧ (id : Int).toNat ∈ p.R) by rw [Int.toNat_natCast]; exact fun z => hni z.2)] at hlk
              have hlenR := hs.mp.len Tryd.underlying27 3
              obtain ⟨nr, hnr⟩ : ∃ nr, nr = p.R.length := ⟨_, rfl⟩
              rw [← hnr] at hlenR
              have hg1 : ¬ (nr : Int) ≥ 65535 - (mo : Int) := by rw [hnr, HMQ.out.1]; omega
              have hg2 : ¬ 65535 - (mo : Int) ≤ (nr : Int) := hg1
              have hg3 : ¬ (id : Int) < 1 := by omega
              have hg4 : ¬ (id : Int) > 65535 := by omega
              have hg5 : ¬ 65535 < (id : Int) := by omega
              obtain ⟨w5, hput, hs5⟩ := hs.put id hni hi2 (by omega)
              have HH := hidi (And.intro hs5 he)
              clear hs hs5 he hnr hr hi1 hi2 hni
              go_wp2_with fail
              go_meet
              refine ⟨p', ?_⟩
              show HS _ _ _ _ _ _ _ _ _
              rw [HH.out.2]
              exact HH.out.1
          · have e5 : (kk == 5) = false := by simpa using hk5
            by_cases hk6 : kk = 6
            · subst hk6
              obtain ⟨x, hlk⟩ := HI.out.look nn HP.out.2.2.2.2
              obtain ⟨bR, hbR⟩ : ∃ bR, bR = decide (0 ≤ nn ∧ nn.toNat ∈ p.R) := ⟨_, rfl⟩
              have FR := hidi (hs_free HI.out (by have := HJ.out; omega) nn HP.out.2.2.2.2)
              rw [← hbR] at hlk FR
              clear hbR
              have HKP := hidi (show ∀ W, Below w.heap.size w W → W.cell? ⟨g, o + j * 8 + 7, none⟩ = some (.int .i64 nn) from fun W hW => (hW.cell (p := ⟨g, o + j * 8 + 7, none⟩) (World.block_lt_of_cell? _ _ HCW.out)).trans HCW.out)
              go_wp2_with fail
              go_must (go_at_call 10)
              refine FR.out.mono ?_
              clear FR
              rintro e w4 ⟨rfl, p', hs, he⟩
              have hnd : p.R.Nodup := (List.nodup_append.1 HI.out.ks.facts.1).2.1
              obtain ⟨w5, hdel, hs5⟩ := hs.del hnd nn HP.out.2.2.2.2
              have m7 := HKP.out w4 hs.bel
              have HH := hidi (And.intro hs5 he)
              clear hs hs5 he hnd k0 k1 k2 k3 k4 k5 k6 k7 hlk
              cases bR
              · go_wp2_with fail
                go_meet
                refine ⟨p', ?_⟩
                show HS _ _ _ _ _ _ _ _ _
                rw [HH.out.2]
                exact { HH.out.1 with ks := HH.out.1.ks.more (Nat.le_succ j) }
              · go_wp2_with fail
                go_meet
                refine ⟨p', ?_⟩
                show HS _ _ _ _ _ _ _ _ _
                rw [HH.out.2]
                exact { HH.out.1 with ks := HH.out.1.ks.more (Nat.le_succ j) }
            · have e6 : (kk == 6) = false := by simpa using hk6
              have PL := hidi (hs_play HI.out (by have := HJ.out; omega) ⟨kk, s0, ⟨t, .slice pa pn pc, qq, r, xs⟩, aa, nn⟩ HP.out.1 HP.out.2.1 HP.out.2.2.2.1 HP.out.2.2.2.2 hk5 hk6)
              clear hk5 hk6
              go_wp2_with fail
              go_must (go_at_call 11)
              refine PL.out.mono ?_
              clear PL k0 k1 k2 k3 k4 k5 k6 k7
              rintro e w4 ⟨v', rfl, p', hs⟩
              have HH := hidi hs
              clear hs
              go_wp2_with fail
              go_meet
              exact ⟨p', HH.out⟩
        case rest =>
          as_aux_lemma =>
          obtain ⟨p', HT⟩ := hcut
          rename World => wt
          have IM := hidi (ks_image HT.out.ks (by have := HJ.out; omega))
          clear k0 k1 k2 k3 k4 k5 k6 k7
          go_wp2_with fail
          go_must (go_at_call 12)
          refine IM.out.mono ?_
          clear IM
          rintro e wi ⟨vf, vq, rfl, hIm, hbI⟩
          obtain ⟨L, f1, f2, f3⟩ := hIm.fl
          obtain ⟨fa, fc, hvf⟩ := own_sl f1
          obtain ⟨qa, qc, hvq⟩ := own_sl hIm.qu.choose_spec.1
          subst hvf hvq
          obtain ⟨nf, hnf⟩ : ∃ nf, nf = p'.fl.length := ⟨_, rfl⟩
          obtain ⟨nw, hnw⟩ : ∃ nw, nw = p'.wt.length := ⟨_, rfl⟩
          obtain ⟨ls, hls⟩ : ∃ ls : Int, ls = (p'.last : Int) := ⟨_, rfl⟩
          rw [← hnf, ← hnw, ← hls]
          rw [← hnf] at f1
          have HTi := hidi (HT.out.below hbI)
          have HFL := hidi (And.intro f1 f2)
          have hfacts := HT.out.ks.facts
          have hfm : ¬ (nf : Int) > (mo : Int) := by have h1 := HT.out.mo; have h2 := HMQ.out.1; rw [hnf]; omega
          have hfm' : ¬ (mo : Int) < (nf : Int) := hfm
          have hwq : ¬ (nw : Int) > (qu : Int) := by have h1 := HT.out.qu; have h2 := HMQ.out.2; rw [hnw]; omega
          have hwq' : ¬ (qu : Int) < (nw : Int) := hwq
          have z1 : decide ((mo : Int) < (nf : Int)) = false := decide_eq_false hfm'
          have z2 : decide (mo < nf) = false := decide_eq_false (by omega)
          have z3 : decide ((qu : Int) < (nw : Int)) = false := decide_eq_false hwq'
          have z4 : decide (qu < nw) = false := decide_eq_false (by omega)
          have HFU := hidi (show p'.on = true → 0 < nw → ¬ nf < mo from fun z1 z2 => by
            have h1 := HT.out.fu z1 (fun z => by rw [hnw, z] at z2; simp at z2)
            have h2 := HT.out.mo
            have h3 := HMQ.out.1
            omega)
          have HN := hidi (And.intro hnf hnw)
          have HFA := hidi hfacts
          clear f1 f2 f3 hIm hbI hfacts hls hnf hnw
          go_wp2_with fail
          obtain ⟨wj, hwj⟩ : ∃ wj, wj = wi.alloc (.cells #[.int .i64 ls, .slice fa nf fc, .slice qa nw qc] 41) := ⟨_, rfl⟩
          rw [← hwj]
          have a1 := heap_alloc_new wi (.cells #[.int .i64 ls, .slice fa nf fc, .slice qa nw qc] 41)
          have hbj : Below wi.heap.size wi (wi.alloc (.cells #[.int .i64 ls, .slice fa nf fc, .slice qa nw qc] 41)) := (Below.refl _ _).alloc (Nat.le_refl _) _
          rw [← hwj] at a1 hbj
          have HTj := hidi (HTi.out.below hbj)
          have HBJ := hidi (And.intro a1 hbj)
          have b1 := box_cells a1 1 _ rfl
          have b2 := box_cells a1 2 _ rfl
          have FLY := hidi (fun m => ks_flying (HTj.out.ks.below (below_drewN (m := m) (Below.refl _ _))))
          have ONL := hidi (fun m => ks_online (HTj.out.ks.below (below_drewN (m := m) (Below.refl _ _))))
          have WAI := hidi (fun m => hs_waiting (HTj.out.ks.below (below_drewN (m := m) (Below.refl _ _))) (by have := HJ.out; omega))
          rw [← HN.out.1] at FLY
          rw [← HN.out.2] at WAI
          obtain ⟨on, hon⟩ : ∃ on, on = p'.on := ⟨_, rfl⟩
          rw [← hon] at ONL HFU
          clear hwj a1 hbj hon HT
          go_cut [181] (fun s181 wx => s181 = .bool false ∧ ∃ m, Hid (wx = wj.drewN m))
          case first =>
            cases on
            · go_wp2_with fail
              go_big_quiet (first | (go_at_call 13; exact Calls.quiet_of_same (FLY.out _)) | (go_at_call 14; exact Calls.quiet_of (WAI.out _)) | (go_at_call 15; exact Calls.quiet_of_same (ONL.out _)))
              go_wp2_with fail
              go_meet
              exact ⟨rfl, _, rfl⟩
            · by_cases hw0 : nw = 0
              · have g1 : ¬ (0 : Int) < (nw : Int) := by omega
                have z7 : decide ((0 : Int) < (nw : Int)) = false := decide_eq_false g1
                have z8 : decide (0 < nw) = false := decide_eq_false (by omega)
                clear hw0
                go_wp2_with fail
                go_big_quiet (first | (go_at_call 13; exact Calls.quiet_of_same (FLY.out _)) | (go_at_call 14; exact Calls.quiet_of (WAI.out _)) | (go_at_call 15; exact Calls.quiet_of_same (ONL.out _)))
                go_wp2_with fail
                go_meet
                exact ⟨rfl, _, rfl⟩
              · have g1 : (nw : Int) > 0 := by omega
                have g2 : (0 : Int) < (nw : Int) := by omega
                have g3 : ¬ (nf : Int) < (mo : Int) := by have := HFU.out rfl (by omega); omega
                have z5 : decide ((nf : Int) < (mo : Int)) = false := decide_eq_false g3
                have z6 : decide (nf < mo) = false := decide_eq_false (by omega)
                have z7 : decide ((0 : Int) < (nw : Int)) = true := decide_eq_true g2
                have z8 : decide (0 < nw) = true := decide_eq_true (by omega)
                go_wp2_with fail
                go_big_quiet (first | (go_at_call 13; exact Calls.quiet_of_same (FLY.out _)) | (go_at_call 14; exact Calls.quiet_of (WAI.out _)) | (go_at_call 15; exact Calls.quiet_of_same (ONL.out _)))
                go_wp2_with fail
                go_meet
                exact ⟨rfl, _, rfl⟩
          case rest =>
            obtain ⟨rfl, m, HW⟩ := hcut
            rename World => wq
            have hbq : Below wi.heap.size wi wq := by rw [HW.out]; exact below_drewN HBJ.out.2
            have HQ := hidi (show HS w wq wb rb p' (j + 1) n q p'.R by rw [HW.out]; exact HTj.out.below (below_drewN (Below.refl _ _)))
            have hx1 : wq.heap[wi.heap.size]? = some (.cells #[.int .i64 ls, .slice fa nf fc, .slice qa nw qc] 41 (0, 0)) := by rw [HW.out]; simpa using HBJ.out.1
            have HX1 := hidi (And.intro hx1 hbq)
            clear FLY ONL WAI HFU HTj HTi b1 b2 HBJ hbq hx1 hfm hfm' hwq hwq' z1 z2 z3 z4
            go_wp2_with fail
            obtain ⟨sb, hsb⟩ : ∃ sb, sb = wq.heap.size := ⟨_, rfl⟩
            have J0 := hidi (show MI (wq.alloc (.map #[] 0)) (.map (some sb)) 0 (fR ((p'.fl.map (·.id)).take 0)) ∧ Below wq.heap.size wq (wq.alloc (.map #[] 0)) from ⟨by rw [hsb]; exact (MI.made wq).congr (fun k _ => by simp [fR]), (Below.refl _ _).alloc (Nat.le_refl _) _⟩)
            rw [← hsb]
            have HSB := hidi hsb
            have HJN := hidi hj
            have hx1 := HX1.out.1
            have HIL := hidi (show wi.heap.size < wq.heap.size from (Array.getElem?_eq_some_iff.1 hx1).1)
            clear hsb hx1
            go_loopg [20] nf (fun gk s20 wx => ∃ jj : Nat, jj + gk = nf ∧ s20 = .int .i64 jj ∧ Hid (MI wx (.map (some sb)) jj (fR ((p'.fl.map (·.id)).take jj)) ∧ Below wq.heap.size wq wx))
            case atStart => exact ⟨0, by omega, rfl, J0.out⟩
            case round =>
              obtain ⟨jj, hjj, rfl, HM⟩ := hrel
              clear J0
              have hbx := HM.out.2
              have hxx : wr.heap[wi.heap.size]? = some (.cells #[.int .i64 ls, .slice fa nf fc, .slice qa nw qc] 41 (0, 0)) := (hbx.block _ HIL.out).trans HX1.out.1
              have b1 := box_cells hxx 1 _ rfl
              by_cases hjl : jj < nf
              · have hlt2 : (jj : Int) < (nf : Int) := by omega
                have hge2 : (0 : Int) ≤ (jj : Int) := by omega
                have hnf6 : nf ≤ 65535 := by have h1 := HFA.out; have h2 := HN.out.1; omega
                have hw2 : IntKind.i64.wrap ((jj : Int) + 1) = (jj : Int) + 1 := by rw [IntKind.wrap_i64]; omega
                have hLl : L.length = nf := by
                  have := congrArg List.length HFL.out.2
                  simp at this
                  rw [this, HN.out.1]
                have hjL : jj < L.length := by omega
                obtain ⟨gb, cb, hv, hcell⟩ := frow_cell HFL.out.1 (j := jj) hjl hjL
                have hfa : fa = some ⟨gb, 0, none⟩ := by injection hv
                subst hfa
                have hc0 := hcell 0 (by omega)
                obtain ⟨id, hid⟩ : ∃ id, id = L[jj].id := ⟨_, rfl⟩
                have hc0' : wi.cell? ⟨gb, jj * 6, none⟩ = some (.int .i64 (id : Int)) := by rw [hid]; exact hc0
                have hgl : gb < wi.heap.size := World.block_lt_of_cell? _ _ hc0'
                have k0 : wr.cell? ⟨gb, jj * 6, none⟩ = some (.int .i64 (id : Int)) := (hbx.cell (p := ⟨gb, jj * 6, none⟩) (Nat.lt_trans hgl HIL.out)).trans ((HX1.out.2.cell (p := ⟨gb, jj * 6, none⟩) hgl).trans hc0')
                have hidl : jj < (p'.fl.map (·.id)).length := by rw [← HFL.out.2]; simpa using hjL
                have hidx : (p'.fl.map (·.id))[jj]'hidl = id := by
                  have : (p'.fl.map (·.id))[jj]? = some id := by
                    rw [← HFL.out.2, List.map_map, List.getElem?_map, List.getElem?_eq_getElem hjL, hid]
                    rfl
                  rw [List.getElem?_eq_getElem hidl] at this
                  injection this
                have hmem : id ∈ p'.fl.map (·.id) := by rw [← hidx]; exact List.getElem_mem hidl
                have hrng := HFA.out.2.1 id (List.mem_append.2 (.inl hmem))
                have hnR : id ∉ p'.R := fun z => (List.nodup_append.1 HFA.out.1).2.2 id hmem id z rfl
                have hnT : id ∉ (p'.fl.map (·.id)).take jj := fun z => by
                  have hn := (List.nodup_append.1 HFA.out.1).1
                  rw [← List.take_append_drop jj (p'.fl.map (·.id))] at hn
                  refine (List.nodup_append.1 hn).2.2 id z id ?_ rfl
                  rw [← hidx, List.drop_eq_getElem_cons hidl]
                  simp
                have hok : okI (id : Int) := okI_nat id (by omega)
                have hl1 := HM.out.1.look2 Tryd.underlying27 zero3 hok
                have e1 : fR ((p'.fl.map (·.id)).take jj) (id : Int) = none := by unfold fR; rw [if_neg (by rw [Int.toNat_natCast]; exact fun z => hnT z.2)]
                rw [e1] at hl1
                obtain ⟨xr, hl2⟩ := (HQ.out.below hbx).look (id : Int) hok
                rw [decide_eq_false (show ¬ ((0 : Int) ≤ (id : Int) ∧ (id : Int).toNat ∈ p'.R) by rw [Int.toNat_natCast]; exact fun z => hnR z.2)] at hl2
                have hg3 : ¬ (id : Int) < 1 := by omega
                have hg5 : ¬ 65535 < (id : Int) := by omega
                have hg4 : ¬ (id : Int) > 65535 := hg5
                obtain ⟨w5, hput, hM5, hc5⟩ := HM.out.1.put Tryd.underlying27 hok (.int .i64 1) (by unfold maxLen; omega)
                have e2 : szF (fR ((p'.fl.map (·.id)).take jj)) (id : Int) jj = jj + 1 := by unfold szF; rw [e1]; simp
                rw [e2] at hM5
                have HZ := hidi (show MI w5 (.map (some sb)) (jj + 1) (fR ((p'.fl.map (·.id)).take (jj + 1))) ∧ Below wq.heap.size wq w5 from ⟨hM5.congr (fun k _ => by rw [List.take_succ_eq_append_getElem hidl, hidx]; exact fR_put _ id k), ⟨hc5.os.trans hbx.os, hc5.tape.trans hbx.tape, hc5.output.trans hbx.output, Nat.le_trans hbx.size hc5.size, fun x hx => (hc5.block x (Nat.lt_of_lt_of_le hx hbx.size) (by have := HSB.out; omega)).trans (hbx.block x hx)⟩⟩)
                simp only [Option.getD_none, Option.isSome_none] at hl1
                clear hbx hxx hLl hjL hv hcell hc0 hid hc0' hgl hidl hidx hmem hrng hnR hnT hok e1 e2 hM5 hc5 hnf6 HM
                go_wp2_with fail
                go_roundg (nf - (jj + 1))
                case measure => omega
                case rel => exact ⟨jj + 1, by omega, by first | rfl | simp, HZ.out⟩
              · have hlt2 : ¬ (jj : Int) < (nf : Int) := by omega
                have HE := hidi (HQ.out.below hbx)
                clear hbx hxx HM
                go_wp2_with fail
                go_roundg (N - (j + 1))
                case measure => have := HJN.out; omega
                case rel => exact ⟨j + 1, p', by omega, by first | rfl | simp, HE.out⟩
      · have hlt : ¬ (j : Int) < (N : Int) := by omega
        go_wp2_with fail
        go_ret
        exact ⟨rfl, HI.out.bel⟩
end Go.Proofs.YtbjhblnagmpnfaaDoor
