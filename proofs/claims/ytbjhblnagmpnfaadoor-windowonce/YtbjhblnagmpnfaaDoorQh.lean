import Derived.Test.YtbjhblnagmpnfaaDoorQg
import Derived.Test.YtbjhblnagmpnfaaDoorPb
import Derived.Deep.DeepCutAuto
namespace Go.Proofs.YtbjhblnagmpnfaaDoor
open Go Go.RowKit Go.Shelf Go.Maps Go.Sort
set_option linter.unusedSimpArgs false
set_option linter.unusedVariables false
set_option maxRecDepth 100000 in
set_option maxHeartbeats 4000000 in
theorem once_any {w : World} (g : Gd w) (n q : Int) {sa : Option Addr} {N cap : Nat} {ops : List Ov} (hS : Scr w sa N cap ops) : Calls Tryd.prog 4 #[.int .i64 n, .int .i64 q, .slice sa N cap] w fun e w' => e = .returned (.bool true) ∧ Below w.heap.size w w' := by
  have KN := hidi (known_any w g)
  have H := hidi (And.intro g hS)
  clear g hS
  go_enter Tryd.func4, Tryd.ntmps4
  go_wp2_with (first | (go_at_call 6; refine KN.out.mono ?_; clear KN; rintro e w1 ⟨rfl, hb1⟩; have HB1 := hidi hb1; clear hb1))
  go_must (go_at_call 7)
  have FW := hidi (few_any (H.out.2.keep (fun j hj => HB1.out.block j hj)))
  refine FW.out.mono ?_
  clear FW
  rintro e w2 ⟨x, rfl, hx, hb2'⟩
  have HB2 := hidi (HB1.out.trans (hb2'.mono HB1.out.size))
  have HX := hidi hx
  clear hx hb2'
  cases x
  · go_wp2_with fail
    go_ret
    exact ⟨rfl, HB2.out⟩
  · have HFew := hidi (HX.out rfl)
    have NW := hidi (ks_new n q w2 (H.out.1.below HB2.out))
    clear HX
    go_wp2_with fail
    go_must (go_at_call 8)
    refine NW.out.mono ?_
    clear NW
    rintro e w3 ⟨rfl, k3, b3⟩
    have h00 : 0 < w.heap.size := by obtain ⟨o, ho, -⟩ := H.out.1.oth; exact (Array.getElem?_eq_some_iff.1 ho).1
    have I0 := hidi (os_start HB2.out h00 k3 b3 (fun z => by cases z) rfl rfl)
    obtain ⟨p0, hp0⟩ : ∃ p0 : Pw, p0 = ⟨mostOf n, queueOf q, false, 0, [], [], []⟩ := ⟨_, rfl⟩
    obtain ⟨wb, hwb⟩ : ∃ wb, wb = w2.heap.size := ⟨_, rfl⟩
    rw [← hwb, ← hp0] at I0
    rw [← hwb]
    clear k3 b3 hwb h00 hp0
    go_wp2_with fail
    obtain ⟨sbx, hsbx⟩ : ∃ sbx, sbx = w3.heap.size := ⟨_, rfl⟩
    rw [← hsbx] at I0 ⊢
    clear hsbx
    go_loopg [8, 11] N (fun gk s8 s11 wx => ∃ (j : Nat) (p : Pw) (tv sv : Value) (MT MS : List Ms), j + gk = N ∧ s8 = tv ∧ s11 = .int .i64 j ∧ Hid (OS w wx wb sbx p j tv sv MT MS [] ∧ MT.length ≤ j))
    case atStart => exact ⟨0, p0, _, _, [], [], by omega, rfl, rfl, I0.out, by simp⟩
    case round =>
      obtain ⟨j, p, tv, sv, MT, MS, hj, hs8, rfl, HI⟩ := hrel
      replace hs8 := hs8.symm
      subst hs8
      clear I0
      by_cases hjn : j < N
      · as_aux_lemma =>
        have hlt : (j : Int) < (N : Int) := by omega
        have hge : (0 : Int) ≤ (j : Int) := by omega
        have hN3 := HFew.out.1
        have hjf : j < ops.length := by rw [H.out.2.len]; exact hjn
        have hw1 : IntKind.i64.wrap ((j : Int) + 1) = (j : Int) + 1 := by rw [IntKind.wrap_i64]; omega
        have HJ := hidi (show j + 1 ≤ 300 by omega)
        have hscr := H.out.2.keep (fun b hb => HI.out.1.bel.block b hb)
        obtain ⟨g, o, hsa, hcell⟩ := hscr.cell (by omega)
        subst hsa
        have hpy0 := H.out.2.pay _ (List.getElem_mem hjf)
        have hsz := HFew.out.2 _ (List.getElem_mem hjf)
        have hwf := hscr.wf _ (List.getElem_mem hjf)
        have hc := hcell j hjf
        obtain ⟨f, hf⟩ : ∃ f, f = ops[j] := ⟨_, rfl⟩
        rw [← hf] at hpy0 hsz hwf hc
        clear hf hcell hscr hN3 hjf
        obtain ⟨kk, s0, ⟨t, v, qq, r, xs⟩, aa, nn⟩ := f
        obtain ⟨pa, pc, hv, hln⟩ := hpy0.sl
        simp only at hv
        subst hv
        obtain ⟨pn, hpn⟩ : ∃ pn, pn = xs.length := ⟨_, rfl⟩
        have hp0 : PBi w (.slice pa pn pc) xs := by rw [hpn]; exact hpy0.i (by have := hsz.2; simp only at this; omega)
        have k0 : wr.cell? ⟨g, o + j * 8, none⟩ = some (.int .i64 kk) := hc 0 (by omega)
        have k1 : wr.cell? ⟨g, o + j * 8 + 1, none⟩ = some (.bool s0) := hc 1 (by omega)
        have k2 : wr.cell? ⟨g, o + j * 8 + 2, none⟩ = some (.string t) := hc 2 (by omega)
        have k3 : wr.cell? ⟨g, o + j * 8 + 3, none⟩ = some (.slice pa pn pc) := by rw [hpn]; exact hc 3 (by omega)
        have k4 : wr.cell? ⟨g, o + j * 8 + 4, none⟩ = some (.int .i64 qq) := hc 4 (by omega)
        have k5 : wr.cell? ⟨g, o + j * 8 + 5, none⟩ = some (.bool r) := hc 5 (by omega)
        have k6 : wr.cell? ⟨g, o + j * 8 + 6, none⟩ = some (.int .i64 aa) := hc 6 (by omega)
        have k7 : wr.cell? ⟨g, o + j * 8 + 7, none⟩ = some (.int .i64 nn) := hc 7 (by omega)
        obtain ⟨w4, hw4⟩ : ∃ w4, w4 = wr.alloc (.cells #[.int .i64 kk, .bool s0, .string t, .slice pa pn pc, .int .i64 qq, .bool r, .int .i64 aa, .int .i64 nn] 32) := ⟨_, rfl⟩
        have a1 := heap_alloc_new wr (.cells #[.int .i64 kk, .bool s0, .string t, .slice pa pn pc, .int .i64 qq, .bool r, .int .i64 aa, .int .i64 nn] 32)
        have b1 : Below wr.heap.size wr (wr.alloc (.cells #[.int .i64 kk, .bool s0, .string t, .slice pa pn pc, .int .i64 qq, .bool r, .int .i64 aa, .int .i64 nn] 32)) := (Below.refl _ _).alloc (Nat.le_refl _) _
        rw [← hw4] at a1 b1
        have H4 := hidi (HI.out.1.below b1)
        have HX4 := hidi (show KS (fun j => FO w sbx tv sv j ∨ j = wr.heap.size) w4 wb p j ∧ wr.heap.size < w4.heap.size from ⟨HI.out.1.ks.add b1 (Nat.le_refl _) (Array.getElem?_eq_some_iff.1 a1).1, (Array.getElem?_eq_some_iff.1 a1).1⟩)
        have hp4 : PBi w4 (.slice pa pn pc) xs := hp0.keep (fun b hb => H4.out.bel.block b hb)
        have HP := hidi (And.intro hp4 (And.intro (show t.size ≤ 1000000 by have := hsz.1; simp only at this; omega) hwf))
        have HP0 := hidi hp0
        have HMT := hidi HI.out.2
        obtain ⟨ob, hob⟩ : ∃ ob, ob = wr.heap.size := ⟨_, rfl⟩
        rw [← hob] at a1 HX4
        have e0 := box_cells a1 0 _ rfl
        have e1 := box_cells a1 1 _ rfl
        have e2 := box_cells a1 2 _ rfl
        have e3 := box_cells a1 3 _ rfl
        have e4 := box_cells a1 4 _ rfl
        have e5 := box_cells a1 5 _ rfl
        have e6 := box_cells a1 6 _ rfl
        have e7 := box_cells a1 7 _ rfl
        have HA1 := hidi a1
        clear hp0 hp4 hpy0 hsz hwf hc hln hpn b1 a1 HI
        go_upto_region 14 with fail
        rw [← hw4, ← hob]
        clear hw4 hob k0 k1 k2 k3 k4 k5 k6 k7
        by_cases hk : kk = 1
        · subst hk
          have SD := hidi (os_send H4.out HX4.out.1 HX4.out.2 (by have := HJ.out; omega) ⟨t, .slice pa pn pc, qq, r, xs⟩ HP.out.1 HP.out.2.1)
          obtain ⟨P, hP⟩ : ∃ P, P = pSend p (Ms.p ⟨t, .slice pa pn pc, qq, r, xs⟩) := ⟨_, rfl⟩
          have hks := kp_send (Ms.p ⟨t, .slice pa pn pc, qq, r, xs⟩) H4.out.fu
          rw [← hP] at SD hks
          obtain ⟨-, -, hk1, hk2⟩ := hks
          obtain ⟨p', X, ok, en⟩ := P
          simp only at SD hk1 hk2
          have hk2' : qq = 1 ∨ qq = 2 → en = 0 := hk2
          clear hP hk2
          go_wp2_with fail
          go_must (go_at_call 17)
          refine SD.out.mono ?_
          clear SD e0 e1 e2 e3 e4 e5 e6 e7
          rintro e w5 ⟨v, rfl, hs, hh⟩
          have a5 := hh.trans HA1.out
          have e2 := box_cells a5 2 _ rfl
          have e3 := box_cells a5 3 _ rfl
          have e4 := box_cells a5 4 _ rfl
          have e5 := box_cells a5 5 _ rfl
          have hobl : ob < w5.heap.size := (Array.getElem?_eq_some_iff.1 a5).1
          have HSD := hidi hs
          have NUM := hidi (fun x => num_any x w5)
          clear hs hh a5
          cases ok
          · by_cases hen : en = 0
            · subst hen
              have HE := hidi (os_hear HSD.out.no (by have := HSD.out.no.choose_spec.1.len'; have := HMT.out; have := HJ.out; omega))
              clear HSD hk1 hk2'
              go_wp2_with (first | (go_at_call 18; refine (NUM.out _).mono ?_; rintro e w' ⟨rfl, rfl⟩))
              go_must (go_at_call 16)
              refine HE.out.mono ?_
              clear HE
              rintro e w6 ⟨rfl, lv, MS', hs, -⟩
              have HS := hidi hs
              clear hs e2 e3 e4 e5
              go_wp2_with fail
              go_roundg (N - (j + 1))
              case measure => omega
              case rel => exact ⟨j + 1, _, _, lv, MT, MS', by omega, rfl, by first | rfl | simp, HS.out, by have := HMT.out; omega⟩
            · have q1 : (qq == 1) = false := by simpa using (fun z => hen (hk2' (.inl z)))
              have q2 : (qq == 2) = false := by simpa using (fun z => hen (hk2' (.inr z)))
              have qe : (en == 0) = false := by simpa using hen
              have HE := hidi (os_hear HSD.out.no (by have := HSD.out.no.choose_spec.1.len'; have := HMT.out; have := HJ.out; omega))
              clear HSD hk1 hk2'
              go_wp2_with (first | (go_at_call 18; refine (NUM.out _).mono ?_; rintro e w' ⟨rfl, rfl⟩))
              go_must (go_at_call 16)
              refine HE.out.mono ?_
              clear HE
              rintro e w6 ⟨rfl, lv, MS', hs, -⟩
              have HS := hidi hs
              clear hs e2 e3 e4 e5
              go_wp2_with fail
              go_roundg (N - (j + 1))
              case measure => omega
              case rel => exact ⟨j + 1, _, _, lv, MT, MS', by omega, rfl, by first | rfl | simp, HS.out, by have := HMT.out; omega⟩
          · have hen : en = 0 := hk1 rfl
            subst hen
            obtain ⟨g', cap', w6, hrun, hl⟩ := HSD.out.yes HP0.out (by have := HMT.out; have := HJ.out; omega)
            simp only at hrun
            obtain ⟨ta, tc, rfl⟩ := own_sl H4.out.tk
            have HR := hidi hrun
            have HE := hidi (os_hear hl (by have := hl.choose_spec.1.len'; have := HMT.out; have := HJ.out; rw [List.length_append, List.length_singleton] at *; omega))
            clear HSD hk1 hk2' hrun hl
            go_upto_region 20 with (first | (go_at_call 18; refine (NUM.out _).mono ?_; rintro e w' ⟨rfl, rfl⟩))
            clear NUM
            go_wp2_with (at_builtin; refine Lib.wpList_append_run _ rfl (.tmp 81) (.tmp 84) 39 39 rfl _ _ rfl rfl _ w6 HR.out ?_)
            all_goals go_must (go_at_call 16)
            all_goals refine HE.out.mono ?_
            all_goals clear HE
            all_goals rintro e w7 ⟨rfl, lv, MS', hs, -⟩
            all_goals have HS := hidi hs
            all_goals clear hs e2 e3 e4 e5
            all_goals go_wp2_with fail
            all_goals go_roundg (N - (j + 1))
            all_goals first | omega | exact ⟨j + 1, _, _, lv, _, MS', by omega, rfl, by first | rfl | simp, HS.out, by have := HMT.out; rw [List.length_append, List.length_singleton]; omega⟩
        · have ek : (kk == 1) = false := by simpa using hk
          have PL := hidi (os_play H4.out (by have := HJ.out; omega) ⟨kk, s0, ⟨t, .slice pa pn pc, qq, r, xs⟩, aa, nn⟩ HP.out.1 HP.out.2.1 HP.out.2.2.2.1 HP.out.2.2.2.2 hk)
          clear hk
          go_wp2_with fail
          go_must (go_at_call 11)
          refine PL.out.mono ?_
          clear PL e0 e1 e2 e3 e4 e5 e6 e7
          rintro e w5 ⟨v, rfl, hl⟩
          have HE := hidi (os_hear hl (by have := hl.choose_spec.1.len'; have := HMT.out; have := HJ.out; omega))
          clear hl
          go_wp2_with fail
          go_must (go_at_call 16)
          refine HE.out.mono ?_
          clear HE
          rintro e w6 ⟨rfl, lv, MS', hs, -⟩
          have HS := hidi hs
          clear hs
          go_wp2_with fail
          go_roundg (N - (j + 1))
          case measure => omega
          case rel => exact ⟨j + 1, _, _, lv, MT, MS', by omega, rfl, by first | rfl | simp, HS.out, by have := HMT.out; omega⟩
      · have hlt : ¬ (j : Int) < (N : Int) := by omega
        have hN3 := HFew.out.1
        have hlN := H.out.2.len
        have HJ := hidi (show j ≤ 300 by omega)
        have UP := hidi (os_up HI.out.1 (by have := HJ.out; omega))
        have HMT := hidi HI.out.2
        clear HI hN3 hlN
        go_wp2_with fail
        go_must (go_at_call 19)
        refine UP.out.mono ?_
        clear UP
        rintro e w5 ⟨v, rfl, hl⟩
        have HE := hidi (os_hear hl (by have := hl.choose_spec.1.len'; have := HMT.out; have := HJ.out; omega))
        clear hl
        go_wp2_with fail
        go_must (go_at_call 16)
        refine HE.out.mono ?_
        clear HE
        rintro e w6 ⟨rfl, lv, MS', hs, -⟩
        have J0 := hidi (hs.rounds (up_on p))
        obtain ⟨p1, hp1⟩ : ∃ p1, p1 = (pUp p).1 := ⟨_, rfl⟩
        rw [← hp1] at J0
        clear hs hp1 hlt hj H
        obtain ⟨ta, tc, htv⟩ := own_sl J0.out.tk
        subst htv
        obtain ⟨nt, hnt⟩ : ∃ nt, nt = MT.length := ⟨_, rfl⟩
        rw [← hnt] at J0 ⊢
        have HNT := hidi hnt
        clear hnt
        go_wp2_with fail
        go_loopg [16] (2 * nt + 1) (fun gk s16 wx => ∃ (i : Nat) (p : Pw) (sv : Value) (MS : List Ms), i + gk = 2 * nt + 1 ∧ s16 = .int .i64 i ∧ Hid (OR w wx wb sbx p j (.slice ta nt tc) sv MT MS i))
        case atStart => exact ⟨0, p1, lv, MS', by omega, rfl, J0.out⟩
        case round =>
          obtain ⟨i, p, sv, MS, hi, rfl, HI⟩ := hrel
          clear J0
          have hpo := HI.out.po
          have hnt3 : nt ≤ 300 := by have := HNT.out; have := HMT.out; have := HJ.out; omega
          have FLY := hidi (ks_flying HI.out.ks)
          obtain ⟨nf, hnf⟩ : ∃ nf, nf = p.fl.length := ⟨_, rfl⟩
          rw [← hnf] at FLY
          have HNF := hidi hnf
          by_cases hn0 : nf = 0
          · as_aux_lemma =>
            subst hn0
            obtain ⟨hwt, hmm⟩ := HI.out.done (List.length_eq_zero_iff.1 HNF.out.symm)
            have hlen : MS.length = nt := by have := congrArg List.length hmm; simp at this; have := HNT.out; omega
            have kb : wr.cell? ⟨sbx, 0, none⟩ = some sv := box_cells HI.out.box 0 _ rfl
            have WAI := hidi (hs_waiting HI.out.ks (by have := HJ.out; omega))
            rw [hwt] at WAI
            simp only [List.length_nil] at WAI
            obtain ⟨va, vc, hsv⟩ := own_sl HI.out.st
            rw [hlen] at hsv
            subst hsv
            have HM := hidi (And.intro hmm hlen)
            have HD := hidi (fun m => (show OR w (wr.drewN m) wb sbx p j (.slice ta nt tc) (.slice va nt vc) MT MS i from { HI.out.toOS.below (below_drewN (m := m) (Below.refl _ _)) with on := HI.out.on, po := HI.out.po }))
            clear hnf hpo hmm hlen hwt HI hi
            go_wp2_with (first | (go_at_call 13; refine FLY.out.mono ?_; rintro e w' ⟨rfl, rfl⟩) | (go_at_call 14; refine WAI.out.mono ?_; rintro e w' ⟨rfl, m, rfl⟩))
            clear kb
            go_loopg [19] nt (fun gk s19 wx => ∃ x : Nat, x + gk = nt ∧ s19 = .int .i64 x ∧ Hid (OR w wx wb sbx p j (.slice ta nt tc) (.slice va nt vc) MT MS i))
            case atStart => exact ⟨0, by omega, rfl, HD.out _⟩
            case round =>
              obtain ⟨x, hx, rfl, HI⟩ := hrel
              have kb : wr.cell? ⟨sbx, 0, none⟩ = some (.slice va nt vc) := box_cells HI.out.box 0 _ rfl
              by_cases hxn : x < nt
              · as_aux_lemma =>
                have hlt : (x : Int) < (nt : Int) := by omega
                have hge : (0 : Int) ≤ (x : Int) := by omega
                have hw1 : IntKind.i64.wrap ((x : Int) + 1) = (x : Int) + 1 := by rw [IntKind.wrap_i64]; omega
                have hxT : x < MT.length := by rw [← HNT.out]; exact hxn
                have hxS : x < MS.length := by rw [HM.out.2]; exact hxn
                have hst := HI.out.st
                rw [HM.out.2] at hst
                have htk := HI.out.tk
                rw [← HNT.out] at htk
                obtain ⟨gs, cs, hv1, -, -, cur1, hc1, hcell1⟩ := mrow_cell hst (j := x) hxn
                obtain ⟨gt, ct, hv2, -, -, cur2, hc2, hcell2⟩ := mrow_cell htk (j := x) hxn
                have hva : va = some ⟨gs, 0, none⟩ := by injection hv1
                have hta : ta = some ⟨gt, 0, none⟩ := by injection hv2
                subst hva hta
                replace hcell1 := hcell1 x hxn hxS
                replace hcell2 := hcell2 x hxn hxT
                have hps := (HI.out.ps _ (List.getElem_mem hxS)).i
                have hpt : PBi wr _ _ := (HI.out.pt _ (List.getElem_mem hxT)).keep (fun b hb => HI.out.bel.block b hb)
                have hmp : (MT[x]'hxT).p = (MS[x]'hxS).p := by
                  have := congrArg (fun l => l[x]?) HM.out.1
                  simpa [List.getElem?_map, List.getElem?_eq_getElem hxT, List.getElem?_eq_getElem hxS] using this
                obtain ⟨m1, hm1⟩ : ∃ m1, m1 = MS[x]'hxS := ⟨_, rfl⟩
                obtain ⟨m2, hm2⟩ : ∃ m2, m2 = MT[x]'hxT := ⟨_, rfl⟩
                rw [← hm1] at hcell1 hps hmp
                rw [← hm2] at hcell2 hpt hmp
                obtain ⟨t1, v1, q1, r1, x1⟩ := m1
                obtain ⟨t2, v2, q2, r2, x2⟩ := m2
                injection hmp with z1 z2 z3 z4
                subst z1 z2 z3 z4
                obtain ⟨a1, n1, c1, hv1'⟩ := hps.sl
                obtain ⟨a2, n2, c2, hv2'⟩ := hpt.sl
                simp only at hv1' hv2' hps hpt
                subst hv1' hv2'
                have hdr : Below wr.heap.size wr wr.drew := (Below.refl _ _).drew
                have SM := hidi (sameMsg_any (w := wr.drew) (t := t2) (q := q2) (r := r2) (hps.below hdr) (hpt.below hdr))
                clear hdr
                have u0 : wr.cell? ⟨gs, x * 4, none⟩ = some (.string t2) := box_cells hc1 (x * 4) _ (hcell1 0 (by omega))
                have u1 : wr.cell? ⟨gs, x * 4 + 1, none⟩ = some (.slice a1 n1 c1) := box_cells hc1 (x * 4 + 1) _ (hcell1 1 (by omega))
                have u2 : wr.cell? ⟨gs, x * 4 + 2, none⟩ = some (.int .i64 q2) := box_cells hc1 (x * 4 + 2) _ (hcell1 2 (by omega))
                have u3 : wr.cell? ⟨gs, x * 4 + 3, none⟩ = some (.bool r2) := box_cells hc1 (x * 4 + 3) _ (hcell1 3 (by omega))
                have y0 : wr.cell? ⟨gt, x * 4, none⟩ = some (.string t2) := box_cells hc2 (x * 4) _ (hcell2 0 (by omega))
                have y1 : wr.cell? ⟨gt, x * 4 + 1, none⟩ = some (.slice a2 n2 c2) := box_cells hc2 (x * 4 + 1) _ (hcell2 1 (by omega))
                have y2 : wr.cell? ⟨gt, x * 4 + 2, none⟩ = some (.int .i64 q2) := box_cells hc2 (x * 4 + 2) _ (hcell2 2 (by omega))
                have y3 : wr.cell? ⟨gt, x * 4 + 3, none⟩ = some (.bool r2) := box_cells hc2 (x * 4 + 3) _ (hcell2 3 (by omega))
                have KEEP := hidi (fun (W : World) (hb : Below wr.heap.size wr W) => (show W.cell? ⟨sbx, 0, none⟩ = some (.slice (some ⟨gs, 0, none⟩) nt vc) ∧ W.cell? ⟨gs, x * 4, none⟩ = some (.string t2) ∧ W.cell? ⟨gs, x * 4 + 1, none⟩ = some (.slice a1 n1 c1) ∧ W.cell? ⟨gs, x * 4 + 2, none⟩ = some (.int .i64 q2) ∧ W.cell? ⟨gs, x * 4 + 3, none⟩ = some (.bool r2) ∧ W.cell? ⟨gt, x * 4, none⟩ = some (.string t2) ∧ W.cell? ⟨gt, x * 4 + 1, none⟩ = some (.slice a2 n2 c2) ∧ W.cell? ⟨gt, x * 4 + 2, none⟩ = some (.int .i64 q2) ∧ W.cell? ⟨gt, x * 4 + 3, none⟩ = some (.bool r2) from ⟨(hb.cell (p := ⟨sbx, 0, none⟩) (World.block_lt_of_cell? _ _ kb)).trans kb, (hb.cell (p := ⟨gs, x * 4, none⟩) (World.block_lt_of_cell? _ _ u0)).trans u0, (hb.cell (p := ⟨gs, x * 4 + 1, none⟩) (World.block_lt_of_cell? _ _ u1)).trans u1, (hb.cell (p := ⟨gs, x * 4 + 2, none⟩) (World.block_lt_of_cell? _ _ u2)).trans u2, (hb.cell (p := ⟨gs, x * 4 + 3, none⟩) (World.block_lt_of_cell? _ _ u3)).trans u3, (hb.cell (p := ⟨gt, x * 4, none⟩) (World.block_lt_of_cell? _ _ y0)).trans y0, (hb.cell (p := ⟨gt, x * 4 + 1, none⟩) (World.block_lt_of_cell? _ _ y1)).trans y1, (hb.cell (p := ⟨gt, x * 4 + 2, none⟩) (World.block_lt_of_cell? _ _ y2)).trans y2, (hb.cell (p := ⟨gt, x * 4 + 3, none⟩) (World.block_lt_of_cell? _ _ y3)).trans y3⟩))
                have HIW := hidi (fun (W : World) (hb : Below wr.heap.size wr W) => (show OR w W wb sbx p j (.slice (some ⟨gt, 0, none⟩) nt tc) (.slice (some ⟨gs, 0, none⟩) nt vc) MT MS i from { HI.out.toOS.below hb with on := HI.out.on, po := HI.out.po }))
                clear hst htk hv1 hv2 hc1 hc2 hcell1 hcell2 hps hpt hm1 hm2 HD HI
                go_wp2_with fail
                go_region_law (go_simp; go_at_call 21; refine SM.out.mono ?_; clear SM; rintro e w4 ⟨rfl, hb4⟩; have HB4 := hidi (((Below.refl wr.heap.size wr).drew).trans hb4); clear kb u0 u1 u2 u3 y0 y1 y2 y3 hb4; obtain ⟨kb, u0, u1, u2, u3, y0, y1, y2, y3⟩ := KEEP.out _ HB4.out)
                all_goals go_wp2_with fail
                all_goals go_roundg (nt - (x + 1))
                all_goals first | omega | exact ⟨x + 1, by omega, by first | rfl | simp, HIW.out _ HB4.out⟩
              · have hlt : ¬ (x : Int) < (nt : Int) := by omega
                go_wp2_with fail
                go_ret
                exact ⟨rfl, HI.out.bel⟩
          · as_aux_lemma =>
            have g0 : (nf : Int) > 0 := by omega
            have g0' : (0 : Int) < (nf : Int) := g0
            have hlenL : p.fl ≠ [] := fun z => hn0 (by rw [hnf, z]; rfl)
            have hi2 : i < 2 * nt := by
              have h1 : 1 ≤ pot p := by
                obtain ⟨f, fl, e⟩ := List.exists_cons_of_ne_nil hlenL
                unfold pot
                rw [e]
                have : 1 ≤ costF f := by unfold costF; split <;> omega
                simp
                omega
              have := HNT.out
              omega
            have hw1 : IntKind.i64.wrap ((i : Int) + 1) = (i : Int) + 1 := by rw [IntKind.wrap_i64]; omega
            have hw2 : IntKind.i64.wrap ((nt : Int) + 1) = (nt : Int) + 1 := by rw [IntKind.wrap_i64]; omega
            have hw3 : IntKind.i64.wrap (3 * ((nt : Int) + 1)) = 3 * ((nt : Int) + 1) := by rw [IntKind.wrap_i64]; omega
            have hg1 : ¬ (i : Int) > 3 * ((nt : Int) + 1) := by omega
            have hg2 : ¬ 3 * ((nt : Int) + 1) < (i : Int) := hg1
            have IM := hidi (ks_image HI.out.ks (by have := HJ.out; omega))
            clear hnf hpo hn0
            go_upto_region 26 with (first | (go_at_call 13; refine FLY.out.mono ?_; rintro e w' ⟨rfl, rfl⟩))
            clear FLY
            go_wp2_with fail
            go_must (go_at_call 12)
            refine IM.out.mono ?_
            clear IM
            rintro e wi ⟨vf, vq, rfl, hIm, hbI⟩
            obtain ⟨L, f1, f2, f3⟩ := hIm.fl
            obtain ⟨qa, qc, hvq⟩ := own_sl hIm.qu.choose_spec.1
            have hLl : 0 < L.length := by rw [← List.length_map (f := Fo.p), f2]; exact List.length_pos_iff.2 hlenL
            rw [← HNF.out] at f1
            obtain ⟨gb, cb, hvf, hcell⟩ := frow_cell f1 (j := 0) (by omega) hLl
            subst hvf hvq
            obtain ⟨o, Lr, hL⟩ : ∃ o Lr, L = o :: Lr := List.exists_cons_of_ne_nil (by intro z; rw [z] at hLl; simp at hLl)
            subst hL
            have hpf : p.fl = o.p :: Lr.map Fo.p := by rw [← f2]; rfl
            have hpv := f3 o (by simp)
            obtain ⟨id, ⟨t, pv, qq, r, xs⟩, rel⟩ := o
            obtain ⟨pa, pn, pc, hpvv⟩ := hpv.sl
            simp only at hpvv
            subst hpvv
            have k0 : wi.cell? ⟨gb, 0, none⟩ = some (.int .i64 (id : Int)) := hcell 0 (by omega)
            have k1 : wi.cell? ⟨gb, 1, none⟩ = some (.string t) := hcell 1 (by omega)
            have k2 : wi.cell? ⟨gb, 2, none⟩ = some (.slice pa pn pc) := hcell 2 (by omega)
            have k3 : wi.cell? ⟨gb, 3, none⟩ = some (.int .i64 qq) := hcell 3 (by omega)
            have k4 : wi.cell? ⟨gb, 4, none⟩ = some (.bool r) := hcell 4 (by omega)
            have k5 : wi.cell? ⟨gb, 5, none⟩ = some (.bool rel) := hcell 5 (by omega)
            obtain ⟨w7, hw7⟩ : ∃ w7, w7 = wi.alloc (.cells #[.int .i64 (id : Int), .string t, .slice pa pn pc, .int .i64 qq, .bool r, .bool rel] 45) := ⟨_, rfl⟩
            have a1 := heap_alloc_new wi (.cells #[.int .i64 (id : Int), .string t, .slice pa pn pc, .int .i64 qq, .bool r, .bool rel] 45)
            have b1 : Below wi.heap.size wi (wi.alloc (.cells #[.int .i64 (id : Int), .string t, .slice pa pn pc, .int .i64 qq, .bool r, .bool rel] 45)) := (Below.refl _ _).alloc (Nat.le_refl _) _
            rw [← hw7] at a1 b1
            have H6 := HI.out.toOS.below hbI
            have H7 := hidi (show OR w w7 wb sbx p j (.slice ta nt tc) sv MT MS i from { H6.below b1 with on := HI.out.on, po := HI.out.po })
            have HX7 := hidi (show KS (fun x => FO w sbx (.slice ta nt tc) sv x ∨ x = wi.heap.size) w7 wb p j ∧ wi.heap.size < w7.heap.size from ⟨H6.ks.add b1 (Nat.le_refl _) (Array.getElem?_eq_some_iff.1 a1).1, (Array.getElem?_eq_some_iff.1 a1).1⟩)
            obtain ⟨ob, hob⟩ : ∃ ob, ob = wi.heap.size := ⟨_, rfl⟩
            rw [← hob] at a1 HX7
            have AK := hidi (or_ack H7.out HX7.out.1 HX7.out.2 (by have := HJ.out; omega) hpf)
            have e0 := box_cells a1 0 _ rfl
            have e1 := box_cells a1 1 _ rfl
            have e2 := box_cells a1 2 _ rfl
            have e3 := box_cells a1 3 _ rfl
            have e4 := box_cells a1 4 _ rfl
            have e5 := box_cells a1 5 _ rfl
            have HA1 := hidi a1
            obtain ⟨ls, hls⟩ : ∃ ls : Int, ls = (p.last : Int) := ⟨_, rfl⟩
            obtain ⟨qn, hqn⟩ : ∃ qn, qn = p.wt.length := ⟨_, rfl⟩
            rw [← hls, ← hqn]
            have hfd : ∀ W : World, (Instr.field 41 (.agg #[.int .i64 ls, .slice (some ⟨gb, 0, none⟩) nf cb, .slice qa qn qc]) 1).run Tryd.prog W = .ok (.slice (some ⟨gb, 0, none⟩) nf cb) W := fun W => by kernel_rfl
            clear hls hqn a1 b1 H6 hpv hcell hLl f1 f2 f3 hIm hbI HI hlenL
            go_upto_region 30 with fail
            rw [← hw7, ← hob]
            clear hw7 hob k0 k1 k2 k3 k4 k5 hfd
            cases rel
            · by_cases hq : qq = 2
              · as_aux_lemma =>
                subst hq
                rw [show ackK (Fo.p ⟨id, ⟨t, .slice pa pn pc, 2, r, xs⟩, false⟩) = 5 from rfl] at AK
                go_wp2_with fail
                go_must (go_at_call 20)
                refine AK.out.mono ?_
                clear AK e0 e1 e2 e3 e4 e5
                rintro e w8 ⟨v, p', X, rfl, hl, hon, hpo2, hX, hh⟩
                obtain ⟨S, ho, hS, hrow, hp, hb⟩ := hl
                replace hX := hX rfl rfl
                subst hX
                have hS1 : S.length = 1 := by rw [← List.length_map (f := Pq.p), hS]; rfl
                obtain ⟨pg, pgc, hvp, hcell⟩ := prow_cell hrow (j := 0) (by omega) (by omega)
                rw [hS1] at hvp
                subst hvp
                have hp0 : Pq.p (S[0]'(by omega)) = ⟨6, false, id, zMp⟩ := by
                  have : (S.map Pq.p)[0]? = some ⟨6, false, (id : Int), zMp⟩ := by rw [hS]; rfl
                  rw [List.getElem?_map, List.getElem?_eq_getElem (by omega)] at this
                  simpa using this
                obtain ⟨s, hs0⟩ : ∃ s, s = S[0]'(by omega) := ⟨_, rfl⟩
                rw [← hs0] at hp0 hcell
                obtain ⟨sk, sd, sid, sm⟩ := s
                have hk6 : sk = 6 := congrArg Pp.k hp0
                have hkid : sid = id := congrArg Pp.id hp0
                subst hk6 hkid
                have c0 : w8.cell? ⟨pg, 0, none⟩ = some (.int .i64 6) := hcell 0 (by omega)
                have c21 : w8.cell? ⟨pg, 21, none⟩ = some (.int .i64 (id : Int)) := hcell 21 (by omega)
                have d0 := box_cells (hh.trans HA1.out) 0 _ rfl
                have ho' : OS w w8 wb sbx p' j (.slice ta nt tc) sv MT MS [] := ho
                have HS := hidi (fun m => (show OR w (w8.drewN m) wb sbx p' j (.slice ta nt tc) sv MT MS (i + 1) from { ho'.below (below_drewN (m := m) (Below.refl _ _)) with on := hon, po := hpo2 }))
                clear hp0 hcell hs0 hS1 hrow hp hb hS ho ho' hon hpo2 hh
                go_wp2_with fail
                go_big_quiet (fail)
                all_goals go_wp2_with fail
                all_goals go_roundg (2 * nt + 1 - (i + 1))
                all_goals first | omega | exact ⟨i + 1, _, sv, MS, by omega, by first | rfl | simp, HS.out _⟩
              · as_aux_lemma =>
                have eq2 : (qq == 2) = false := by simpa using hq
                rw [show ackK (Fo.p ⟨id, ⟨t, .slice pa pn pc, qq, r, xs⟩, false⟩) = 4 from by unfold ackK; simp [Fo.p, Ms.p, hq]] at AK
                clear hq
                go_wp2_with fail
                go_must (go_at_call 20)
                refine AK.out.mono ?_
                clear AK e0 e1 e2 e3 e4 e5
                rintro e w8 ⟨v, p', X, rfl, hl, hon, hpo2, hX, hh⟩
                have HE := hidi (os_hear hl (by have := hl.choose_spec.1.len'; have := HMT.out; have := HJ.out; omega))
                have HO := hidi (And.intro hon hpo2)
                clear hl hon hpo2 hX hh
                go_wp2_with fail
                go_must (go_at_call 16)
                refine HE.out.mono ?_
                clear HE
                rintro e w9 ⟨rfl, lv, MS', hs, -⟩
                have HS := hidi (show OR w w9 wb sbx p' j (.slice ta nt tc) lv MT MS' (i + 1) from { hs with on := HO.out.1, po := HO.out.2 })
                clear hs HO
                go_wp2_with fail
                go_roundg (2 * nt + 1 - (i + 1))
                case measure => omega
                case rel => exact ⟨i + 1, _, lv, MS', by omega, by first | rfl | simp, HS.out⟩
            · as_aux_lemma =>
              rw [show ackK (Fo.p ⟨id, ⟨t, .slice pa pn pc, qq, r, xs⟩, true⟩) = 7 from rfl] at AK
              go_wp2_with fail
              go_must (go_at_call 20)
              refine AK.out.mono ?_
              clear AK e0 e1 e2 e3 e4 e5
              rintro e w8 ⟨v, p', X, rfl, hl, hon, hpo2, hX, hh⟩
              have HE := hidi (os_hear hl (by have := hl.choose_spec.1.len'; have := HMT.out; have := HJ.out; omega))
              have HO := hidi (And.intro hon hpo2)
              clear hl hon hpo2 hX hh
              go_wp2_with fail
              go_must (go_at_call 16)
              refine HE.out.mono ?_
              clear HE
              rintro e w9 ⟨rfl, lv, MS', hs, -⟩
              have HS := hidi (show OR w w9 wb sbx p' j (.slice ta nt tc) lv MT MS' (i + 1) from { hs with on := HO.out.1, po := HO.out.2 })
              clear hs HO
              go_wp2_with fail
              go_roundg (2 * nt + 1 - (i + 1))
              case measure => omega
              case rel => exact ⟨i + 1, _, lv, MS', by omega, by first | rfl | simp, HS.out⟩
end Go.Proofs.YtbjhblnagmpnfaaDoor
