import Derived.Test.YtbjhblnagmpnfaaDoorRc
import Derived.Test.YtbjhblnagmpnfaaDoorRd
import Derived.Test.YtbjhblnagmpnfaaDoorRe
import Derived.Test.YtbjhblnagmpnfaaDoorPb
import Derived.Test.YtbjhblnagmpnfaaDoorQf
import Derived.Deep.DeepCutAuto
import Derived.Deep.RegionHeld
import Derived.Deep.MidRow
namespace Go.Proofs.YtbjhblnagmpnfaaDoor
open Go Go.RowKit Go.Shelf Go.Maps Go.Sort
set_option linter.unusedSimpArgs false
set_option linter.unusedVariables false
/-! ### WindowLater -/
def pureVal (a : Act) (o : Oper) : Option Value :=
  match o.op with
  | .move x => some (a.eval x)
  | .assign x => some (a.eval x)
  | .pick c x y => match a.eval c with
    | .bool true => some (a.eval x)
    | .bool false => some (a.eval y)
    | _ => none
  | _ => none
theorem pureVal_run {P : Program} {a : Act} {o : Oper} {v : Value} (h : pureVal a o = some v) (w : World) : (execOp a.eval o).run P w = .ok (.value v) w := by
  unfold pureVal at h
  split at h
  · rename_i x hx
    cases h
    simp [execOp, hx]
  · rename_i x hx
    cases h
    simp [execOp, hx]
  · rename_i c x y hx
    split at h
    · rename_i hc
      cases h
      simp [execOp, hx, hc, asBool]
    · rename_i hc
      cases h
      simp [execOp, hx, hc, asBool]
    · cases h
  · cases h
theorem held_call {P : Program} {ops : Array Oper} {Q : Exit → Act → World → Prop} {o : Oper} {a : Act} {w : World} {K : Act → World → Prop} {E : Prop} (hw : Region.wanted o (yielded ops a.tmps) = true) (f : FuncId) (args : Array Value)
    (hr : (execOp a.eval o).run P w = .ok (.enter f args) w) {R : Value → World → Prop} (hc : Calls P f args w fun e w' => ∃ v, e = .returned v ∧ R v w') (hK : ∀ v w', R v w' → K (a.put o.dst v) w') :
    if Region.wanted o (yielded ops a.tmps) = true then Oper.wp P o a w K Q else E := by
  rw [if_pos hw]
  unfold Oper.wp
  rw [hr]
  simp only [Oper.upon]
  exact hc.mono fun e w' ⟨v, he, hv⟩ => by subst he; exact hK v w' hv
theorem yields_mid51 {o : Oper} {a : Act} {x : Operand} {g off : Nat} {cs : Array Value} {w : World} (ho : o.op = .load 51 x) (hx : a.eval x = .pointer (some ⟨g, off, none⟩)) (hg : w.rangeAt g off cs.toList ∧ cs.size = 25) :
    (execOp a.eval o).run Tryd.prog w = .ok (.value (.agg cs)) w := by
  have hl : (loadVar 51 ⟨g, off, none⟩).run Tryd.prog w = .ok (.agg cs.toList.toArray) w := run_loadVar_mid w g off 51 cs.toList _ hg.1 Tryd.underlying51 rfl (by rw [Array.length_toList, hg.2]; kernel_rfl)
  rw [Array.toArray_toList] at hl
  unfold execOp
  simp only [ho, hx, Instr.loadAt, Instr.sureAddr, Sem.run_bind, Sem.run_pure, Result.andThen_ok, hl]
theorem prow_range {w : World} {B k : Nat} {v : Value} {S : List Pq} (h : w.ownsRow B 51 25 v k (prow S)) {j : Nat} (hj : j < k) (hl : j < S.length) : ∃ g c, v = .slice (some ⟨g, 0, none⟩) k c ∧ w.rangeAt g (j * 25) (S[j].cs).toList ∧ (S[j].cs).size = 25 := by
  obtain ⟨g, c, h1, h2⟩ := prow_cell h hj hl
  refine ⟨g, c, h1, fun i u hu => ?_, rfl⟩
  have hi : i < 25 := by have := (List.getElem?_eq_some_iff.1 hu).1; simpa [Pq.cs, pkc] using this
  rw [h2 i hi]
  simpa using hu
theorem Lst.sl {W : World} {v : Value} {X : List Pp} (h : Lst W v X) : ∃ a c, v = .slice a X.length c := by
  obtain ⟨S, h1, _, h3⟩ := h
  obtain ⟨a, c, rfl⟩ := own_sl h1
  exact ⟨a, c, by rw [← h3, List.length_map]⟩
/-- What a list of packets gives at a place. -/
theorem lst_same {w : World} {v v' : Value} {X : List Pp} (h : Lst w v X) (h' : Lst w v' X) {j : Nat} (hj : j < X.length) : ∃ (g g' : Nat) (c c' : Nat) (P P' : Array Value), v = .slice (some ⟨g, 0, none⟩) X.length c ∧ v' = .slice (some ⟨g', 0, none⟩) X.length c' ∧ (∀ wq, Below w.heap.size w wq → wq.rangeAt g (j * 25) P.toList ∧ P.size = 25) ∧ (∀ wq, Below w.heap.size w wq → wq.rangeAt g' (j * 25) P'.toList ∧ P'.size = 25) ∧ ∀ wq, Below w.heap.size w wq → Calls Tryd.prog 24 #[.agg P, .agg P'] wq fun e w' => e = .returned (.bool true) ∧ Hid (Below w.heap.size w w') := by
  obtain ⟨S, h1, h2, h3⟩ := h
  obtain ⟨S', k1, k2, k3⟩ := h'
  have l1 : S.length = X.length := by rw [← h3, List.length_map]
  have l2 : S'.length = X.length := by rw [← k3, List.length_map]
  have j1 : j < S.length := by omega
  have j2 : j < S'.length := by omega
  obtain ⟨g, c, e1, -⟩ := prow_range h1 j1 j1
  obtain ⟨g', c', e2, -⟩ := prow_range k1 j2 j2
  have hp : (S[j]).p = (S'[j]).p := by
    have : (S.map Pq.p)[j]? = (S'.map Pq.p)[j]? := by rw [h3, k3]
    rw [List.getElem?_map, List.getElem?_map, List.getElem?_eq_getElem j1, List.getElem?_eq_getElem j2] at this
    simpa using this
  refine ⟨g, g', c, c', (S[j]).cs, (S'[j]).cs, by rw [← l1]; exact e1, by rw [← l2]; exact e2, fun wq hb => ?_, fun wq hb => ?_, fun wq hb => ?_⟩
  · obtain ⟨g1, c1, e3, hr⟩ := prow_range (own_below h1 hb) j1 j1
    rw [e3] at e1; injection e1 with q1 q2 q3; injection q1 with q1; injection q1 with q1; subst q1; exact hr
  · obtain ⟨g1, c1, e3, hr⟩ := prow_range (own_below k1 hb) j2 j2
    rw [e3] at e2; injection e2 with q1 q2 q3; injection q1 with q1; injection q1 with q1; subst q1; exact hr
  · have p1 := (h2 _ (List.getElem_mem j1)).i.below hb
    have p2 := (k2 _ (List.getElem_mem j2)).i.below hb
    obtain ⟨f, hf⟩ : ∃ f, f = S[j] := ⟨_, rfl⟩
    obtain ⟨f', hf'⟩ : ∃ f, f = S'[j] := ⟨_, rfl⟩
    rw [← hf] at p1 hp ⊢
    rw [← hf'] at p2 hp ⊢
    obtain ⟨kd, dp, id, ⟨t, pv, q, r, xs⟩⟩ := f
    obtain ⟨kd', dp', id', ⟨t', pv', q', r', xs'⟩⟩ := f'
    simp only [Pq.p, Ms.p, Pp.mk.injEq, Mp.mk.injEq] at hp
    obtain ⟨rfl, rfl, rfl, rfl, rfl, rfl, rfl⟩ := hp
    refine (rsame_eq kd dp t q r id p1 p2).mono ?_
    rintro e w' ⟨rfl, hb'⟩
    exact ⟨rfl, hb.trans (hb'.mono hb.size)⟩
/-- The first script. -/
structure L1 (w W : World) (wb : Nat) (p : Pw) (j : Nat) (n q : Int) : Prop where
  ks : KS (fun j => j < w.heap.size) W wb p j
  bel : Below w.heap.size w W
  fi : Fine p
  r : p.R = []
  m : p.most = mostOf n
  q : p.queue = queueOf q
theorem l1_play {w W : World} {wb : Nat} {p : Pw} {j : Nat} {n q : Int} (h : L1 w W wb p j n q) (hj : j + 1 ≤ 200000) (o : Ov) (hp : PBi W o.m.v o.m.xs) (ht : o.m.t.size ≤ 1000000) (ha : okI o.a) (hn : okI o.n) (hk : o.k ≠ 5) : Calls Tryd.prog 11 #[.pointer (some ⟨wb, 0, none⟩), .agg o.cs] W fun e w' => ∃ v', e = .returned v' ∧ ∃ p', L1 w w' wb p' (j + 1) n q := by
  refine (ks_play h.ks hj o hp ht ha hn).mono ?_
  rintro e w' ⟨v', rfl, k, r, l⟩
  obtain ⟨a1, a2, a3⟩ := none_play h.r o.k o.m.p o.a o.n hk
  exact ⟨v', rfl, _, ⟨k, ⟨r.os.trans h.bel.os, r.tape.trans h.bel.tape, r.output.trans h.bel.output, Nat.le_trans h.bel.size r.size, fun b hb => (r.at hb (Nat.lt_of_lt_of_le hb h.bel.size)).trans (h.bel.block b hb)⟩, h.fi.play _ _ _ _ ht, a1, a2.trans h.m, a3.trans h.q⟩⟩
theorem L1.below {w W W' : World} {wb : Nat} {p : Pw} {j : Nat} {n q : Int} (h : L1 w W wb p j n q) (hb : Below W.heap.size W W') : L1 w W' wb p j n q := ⟨h.ks.below hb, h.bel.trans (hb.mono h.bel.size), h.fi, h.r, h.m, h.q⟩
theorem L1.more {w W : World} {wb : Nat} {p : Pw} {j j' : Nat} {n q : Int} (h : L1 w W wb p j n q) (hj : j ≤ j') : L1 w W wb p j' n q := { h with ks := h.ks.more hj }
theorem K2.more {w0 W : World} {wb xb : Nat} {p p' : Pw} {c c' d d' : Nat} (h : K2 w0 W wb xb p p' c c') (h1 : c ≤ d) (h2 : c' ≤ d') : K2 w0 W wb xb p p' d d' := by
  obtain ⟨i, i', a1, a2, a3, a4, a5, a6, a7⟩ := h.ex
  exact ⟨⟨i, i', a1.more h1, a2, a3.more h2, a4, a5, a6, a7⟩, h.gd, h.bel⟩
/-- Of the image of the first one the second one is made. -/
theorem l1_of {w W : World} {wb : Nat} {p : Pw} {j : Nat} {n q : Int} (h : L1 w W wb p j n q) (hj : j ≤ 300) (h00 : 0 < w.heap.size) : Calls Tryd.prog 12 #[.pointer (some ⟨wb, 0, none⟩)] W fun e w' => ∃ vf vq ls, e = .returned (.agg #[.int .i64 ls, vf, vq]) ∧ Calls Tryd.prog 22 #[.int .i64 n, .int .i64 q, .agg #[.int .i64 ls, vf, vq]] w' fun e w'' => ∃ xb, e = .returned (.tuple #[.pointer (some ⟨xb, 0, none⟩), .int .i64 0]) ∧ K2 w w'' wb xb p { p with on := false } 100000 100000 := by
  refine (ks_image h.ks (by omega)).mono ?_
  rintro e w' ⟨vf, vq, rfl, hI, hb⟩
  obtain ⟨L, L', hL⟩ := hI.imo
  refine ⟨vf, vq, _, rfl, ?_⟩
  refine (of_any n q hL (h.ks.imok h.fi (by omega)) h.m h.q).mono ?_
  rintro e w'' ⟨xb, rfl, ho⟩
  refine ⟨xb, rfl, ?_⟩
  obtain ⟨i', k1, k2, k3⟩ := ho.ex
  obtain ⟨i, m1, m2, m3⟩ := (h.ks.below hb).ex
  have hsz : w.heap.size ≤ w'.heap.size := Nat.le_trans h.bel.size hb.size
  refine ⟨⟨i, i', (m1.below ho.bel).more (by omega), m2, k1, ?_, ?_, ?_, ?_⟩, (h.ks.gd.below hb).below ho.bel, (h.bel.trans (hb.mono h.bel.size)).trans (ho.bel.mono hsz)⟩
  · rw [k2]
    have := h.r
    obtain ⟨a, b, c, d, e, f, g⟩ := p
    simp only at this
    subst this
    rfl
  · intro b hb'
    exact Classical.byContradiction fun hn => (m3 b (by omega)).2 hb'
  · intro b hb'
    exact Nat.le_trans hsz (k3 b hb')
  · intro b hb' z
    have := m1.lt hb'
    have := k3 b z
    omega
set_option maxRecDepth 100000 in
set_option maxHeartbeats 8000000 in
theorem later_any {w : World} (g : Gd w) (n q : Int) {sa ta : Option Addr} {N cap N' cap' : Nat} {ops ops' : List Ov} (hS : Scr w sa N cap ops) (hT : Scr w ta N' cap' ops') : Calls Tryd.prog 5 #[.int .i64 n, .int .i64 q, .slice sa N cap, .slice ta N' cap'] w fun e w' => e = .returned (.bool true) ∧ Below w.heap.size w w' := by
  have KN := hidi (known_any w g)
  have H := hidi (And.intro g (And.intro hS hT))
  have h00 : 0 < w.heap.size := by obtain ⟨o, ho, -⟩ := g.oth; exact (Array.getElem?_eq_some_iff.1 ho).1
  clear g hS hT
  go_enter Tryd.func5, Tryd.ntmps5
  go_wp2_with (first | (go_at_call 6; refine KN.out.mono ?_; clear KN; rintro e w1 ⟨rfl, hb1⟩; have HB1 := hidi hb1; clear hb1))
  go_must (go_at_call 7)
  have FW := hidi (few_any (H.out.2.1.keep (fun j hj => HB1.out.block j hj)))
  refine FW.out.mono ?_
  clear FW
  rintro e w2 ⟨x, rfl, hx, hb2'⟩
  have HB2 := hidi (HB1.out.trans (hb2'.mono HB1.out.size))
  have HX := hidi hx
  clear hx hb2' HB1
  cases x
  · go_wp2_with fail
    go_ret
    exact ⟨rfl, HB2.out⟩
  · have HFew := hidi (HX.out rfl)
    clear HX
    go_wp2_with fail
    go_must (go_at_call 7)
    have FW := hidi (few_any (H.out.2.2.keep (fun j hj => HB2.out.block j hj)))
    refine FW.out.mono ?_
    clear FW
    rintro e w3 ⟨x, rfl, hx, hb3'⟩
    have HB3 := hidi (HB2.out.trans (hb3'.mono HB2.out.size))
    have HX := hidi hx
    clear hx hb3' HB2
    cases x
    · go_wp2_with fail
      go_ret
      exact ⟨rfl, HB3.out⟩
    · have HFew2 := hidi (HX.out rfl)
      have NW := hidi (ks_new n q w3 (H.out.1.below HB3.out))
      clear HX
      go_wp2_with fail
      go_must (go_at_call 8)
      refine NW.out.mono ?_
      clear NW
      rintro e w4 ⟨rfl, k4, b4⟩
      have I0 := hidi (show L1 w w4 w3.heap.size ⟨mostOf n, queueOf q, false, 0, [], [], []⟩ 0 n q from ⟨k4.less (fun j hj => Nat.lt_of_lt_of_le hj HB3.out.size), HB3.out.trans (b4.mono HB3.out.size), ⟨(by intro f hf; cases hf), (by intro f hf; cases hf)⟩, rfl, rfl, rfl⟩)
      obtain ⟨p0, hp0⟩ : ∃ p0 : Pw, p0 = ⟨mostOf n, queueOf q, false, 0, [], [], []⟩ := ⟨_, rfl⟩
      obtain ⟨wb, hwb⟩ : ∃ wb, wb = w3.heap.size := ⟨_, rfl⟩
      rw [← hwb, ← hp0] at I0
      rw [← hwb]
      clear k4 b4 hwb hp0 HB3
      go_wp2_with fail
      go_loopg [10] N (fun gk s10 wx => ∃ (j : Nat) (p : Pw), j + gk = N ∧ s10 = .int .i64 j ∧ Hid (L1 w wx wb p j n q))
      case atStart => exact ⟨0, p0, by omega, rfl, I0.out⟩
      case round =>
        obtain ⟨j, p, hj, rfl, HI⟩ := hrel
        clear I0
        by_cases hjn : j < N
        · as_aux_lemma =>
          have hlt : (j : Int) < (N : Int) := by omega
          have hge : (0 : Int) ≤ (j : Int) := by omega
          have hN3 := HFew.out.1
          have hjf : j < ops.length := by rw [H.out.2.1.len]; exact hjn
          have hw1 : IntKind.i64.wrap ((j : Int) + 1) = (j : Int) + 1 := by rw [IntKind.wrap_i64]; omega
          have HJ := hidi (show j + 1 ≤ 300 by omega)
          have hscr := H.out.2.1.keep (fun b hb => HI.out.bel.block b hb)
          obtain ⟨g, o, hsa, hcell⟩ := hscr.cell (by omega)
          subst hsa
          have hpy0 := hscr.pay _ (List.getElem_mem hjf)
          have hsz := HFew.out.2 _ (List.getElem_mem hjf)
          have hwf := hscr.wf _ (List.getElem_mem hjf)
          have hc := hcell j hjf
          obtain ⟨f, hf⟩ : ∃ f, f = ops[j] := ⟨_, rfl⟩
          rw [← hf] at hpy0 hsz hwf hc
          clear hf hcell hscr hN3 hjf
          obtain ⟨kk, s0, ⟨t, v, qq, r, xs⟩, aa, nn⟩ := f
          obtain ⟨pa, pc, hv, hln⟩ := hpy0.sl
          simp only at hv
          subst hv
          obtain ⟨pn, hpn⟩ : ∃ pn, pn = xs.length := ⟨_, rfl⟩
          have hp0 : PBi wr (.slice pa pn pc) xs := by rw [hpn]; exact hpy0.i (by have := hsz.2; simp only at this; omega)
          have k0 : wr.cell? ⟨g, o + j * 8, none⟩ = some (.int .i64 kk) := hc 0 (by omega)
          have k1 : wr.cell? ⟨g, o + j * 8 + 1, none⟩ = some (.bool s0) := hc 1 (by omega)
          have k2 : wr.cell? ⟨g, o + j * 8 + 2, none⟩ = some (.string t) := hc 2 (by omega)
          have k3 : wr.cell? ⟨g, o + j * 8 + 3, none⟩ = some (.slice pa pn pc) := by rw [hpn]; exact hc 3 (by omega)
          have k4 : wr.cell? ⟨g, o + j * 8 + 4, none⟩ = some (.int .i64 qq) := hc 4 (by omega)
          have k5 : wr.cell? ⟨g, o + j * 8 + 5, none⟩ = some (.bool r) := hc 5 (by omega)
          have k6 : wr.cell? ⟨g, o + j * 8 + 6, none⟩ = some (.int .i64 aa) := hc 6 (by omega)
          have k7 : wr.cell? ⟨g, o + j * 8 + 7, none⟩ = some (.int .i64 nn) := hc 7 (by omega)
          by_cases hk5 : kk = 5
          · subst hk5
            clear hp0 hpy0 hsz hwf hc hln hpn
            go_wp2_with fail
            go_roundg (N - (j + 1))
            case measure => omega
            case rel => exact ⟨j + 1, p, by omega, by first | rfl | simp, HI.out.more (Nat.le_succ _)⟩
          · have PL := hidi (l1_play HI.out (by have := HJ.out; omega) ⟨kk, s0, ⟨t, .slice pa pn pc, qq, r, xs⟩, aa, nn⟩ hp0 (by have := hsz.1; simp only at this; simp only; omega) hwf.2.1 hwf.2.2 hk5)
            have hk5' : (kk == 5) = false := by simpa using hk5
            clear hp0 hpy0 hsz hwf hc hln hpn hk5 HI
            go_wp2_with fail
            go_must (go_at_call 11)
            refine PL.out.mono ?_
            clear PL k0 k1 k2 k3 k4 k5 k6 k7
            rintro e w5 ⟨v5, rfl, p5, hl5⟩
            have HL := hidi hl5
            clear hl5
            go_wp2_with fail
            go_roundg (N - (j + 1))
            case measure => omega
            case rel => exact ⟨j + 1, p5, by omega, by first | rfl | simp, HL.out⟩
        · as_aux_lemma =>
          have hlt : ¬ (j : Int) < (N : Int) := by omega
          have OF := hidi (l1_of HI.out (by have := HFew.out.1; rw [H.out.2.1.len] at this; omega) h00)
          clear HI hj hjn
          go_wp2_with fail
          go_must (go_at_call 12)
          refine OF.out.mono ?_
          clear OF
          rintro e w5 ⟨vf, vq, ls, rfl, hof⟩
          have OF := hidi hof
          clear hof
          go_wp2_with fail
          go_must (go_at_call 22)
          refine OF.out.mono ?_
          clear OF
          rintro e w6 ⟨xb, rfl, hk6⟩
          have K6 := hidi hk6
          have DW := hidi (k2_down hk6)
          clear hk6
          go_wp2_with fail
          go_must (go_at_call 23)
          refine DW.out.mono ?_
          clear DW K6
          rintro e w7 ⟨rfl, hk7, -⟩
          obtain ⟨p7, hp7⟩ : ∃ p7 : Pw, p7 = { p with on := false } := ⟨_, rfl⟩
          have hon : p7.on = false := by rw [hp7]
          rw [← hp7] at hk7
          have K7 := hidi hk7
          have ONL := hidi (k2_online hk7.swap)
          rw [hon] at ONL
          have NUM := hidi (fun W => num_any 0 W)
          clear hk7 hp7 hon
          go_wp2_with (first | (go_at_call 18; refine (NUM.out _).mono ?_; rintro e w' ⟨rfl, rfl⟩) | (go_at_call 15; refine ONL.out.mono ?_; rintro e w' ⟨rfl, rfl⟩))
          clear ONL NUM
          go_loopg [13] N' (fun gk s13 wx => ∃ (j : Nat) (p : Pw), j + gk = N' ∧ s13 = .int .i64 j ∧ Hid (K2 w wx wb xb p p (100000 + j) (100000 + j)))
          case atStart => exact ⟨0, p7, by omega, rfl, K7.out⟩
          case round =>
            obtain ⟨j, p, hj, rfl, HI⟩ := hrel
            clear K7
            by_cases hjn : j < N'
            · as_aux_lemma =>
              have hlt : (j : Int) < (N' : Int) := by omega
              have hge : (0 : Int) ≤ (j : Int) := by omega
              have hN3 := HFew2.out.1
              have hjf : j < ops'.length := by rw [H.out.2.2.len]; exact hjn
              have hw1 : IntKind.i64.wrap ((j : Int) + 1) = (j : Int) + 1 := by rw [IntKind.wrap_i64]; omega
              have HJ := hidi (show j + 1 ≤ 300 by omega)
              obtain ⟨g, o, hsa, -⟩ := H.out.2.2.cell (by omega)
              subst hsa
              have CELL := hidi (fun (W : World) (hb : Below w.heap.size w W) => by
                obtain ⟨g', o', e, hc⟩ := (H.out.2.2.keep (fun b hb' => hb.block b hb')).cell (show 0 < N' by omega)
                have := hc j hjf
                simp only [Option.some.injEq, Addr.mk.injEq, and_true] at e
                rw [← e.1, ← e.2] at this
                exact this)
              have hpy0 := H.out.2.2.pay _ (List.getElem_mem hjf)
              have hsz := HFew2.out.2 _ (List.getElem_mem hjf)
              have hwf := H.out.2.2.wf _ (List.getElem_mem hjf)
              obtain ⟨f, hf⟩ : ∃ f, f = ops'[j] := ⟨_, rfl⟩
              rw [← hf] at hpy0 hsz hwf CELL
              clear hf hN3 hjf
              obtain ⟨kk, s0, ⟨t, v, qq, r, xs⟩, aa, nn⟩ := f
              obtain ⟨pa, pc, hv, hln⟩ := hpy0.sl
              simp only at hv
              subst hv
              obtain ⟨pn, hpn⟩ : ∃ pn, pn = xs.length := ⟨_, rfl⟩
              rw [← hpn] at CELL hpy0
              have hp0 : PBi w (.slice pa pn pc) xs := hpy0.i (by have := hsz.2; simp only at this ⊢; omega)
              have KC := hidi (fun (W : World) (hb : Below w.heap.size w W) => (show W.cell? ⟨g, o + j * 8, none⟩ = some (.int .i64 kk) ∧ W.cell? ⟨g, o + j * 8 + 1, none⟩ = some (.bool s0) ∧ W.cell? ⟨g, o + j * 8 + 2, none⟩ = some (.string t) ∧ W.cell? ⟨g, o + j * 8 + 3, none⟩ = some (.slice pa pn pc) ∧ W.cell? ⟨g, o + j * 8 + 4, none⟩ = some (.int .i64 qq) ∧ W.cell? ⟨g, o + j * 8 + 5, none⟩ = some (.bool r) ∧ W.cell? ⟨g, o + j * 8 + 6, none⟩ = some (.int .i64 aa) ∧ W.cell? ⟨g, o + j * 8 + 7, none⟩ = some (.int .i64 nn) from ⟨CELL.out W hb 0 (by omega), CELL.out W hb 1 (by omega), CELL.out W hb 2 (by omega), CELL.out W hb 3 (by omega), CELL.out W hb 4 (by omega), CELL.out W hb 5 (by omega), CELL.out W hb 6 (by omega), CELL.out W hb 7 (by omega)⟩))
              have htt : t.size ≤ 1000000 := by have := hsz.1; simp only at this; omega
              have PLAY := hidi (fun (W : World) (wb xb : Nat) (p p' : Pw) (c c' : Nat) (hk : K2 w W wb xb p p' c c') (hc : c + 1 ≤ 200000) => k2_play hk hc ⟨kk, s0, ⟨t, .slice pa pn pc, qq, r, xs⟩, aa, nn⟩ (hp0.keep (fun b hb => hk.bel.block b hb)) htt hwf.2.1 hwf.2.2)
              obtain ⟨P, hP⟩ : ∃ P, P = pPlay p kk ⟨t, qq, r, xs⟩ aa nn := ⟨_, rfl⟩
              have PL1 := hidi (PLAY.out _ _ _ _ _ _ _ (HI.out.below (Below.refl wr.heap.size wr).drew) (by have := HJ.out; omega))
              have PLX := hidi (fun (W : World) (c : Nat) (hk : K2 w W wb xb P.1 p (100000 + j + 1) (100000 + j)) => PLAY.out _ _ _ _ _ _ _ hk.swap (by have := HJ.out; omega))
              have HNX := hidi (show P.2.length ≤ 200000 from by
                rw [hP]
                obtain ⟨F, hks, -⟩ := HI.out.one
                have h1 := hks.facts
                have h2 := play_len p kk ⟨t, qq, r, xs⟩ aa nn
                omega)
              simp only [Ms.p] at PL1 PLX
              rw [← hP] at PL1 PLX
              obtain ⟨p', X⟩ := P
              simp only at PL1 PLX HNX
              obtain ⟨k0, k1, k2, k3, k4, k5, k6, k7⟩ := KC.out wr HI.out.bel
              clear hp0 hpy0 hsz hwf hln hpn CELL PLAY hP htt HI
              go_wp2_with fail
              go_region_held_law (fun w' => w'.cell? ⟨g, o + j * 8, none⟩ = some (.int .i64 kk) ∧ w'.cell? ⟨g, o + j * 8 + 1, none⟩ = some (.bool s0) ∧ w'.cell? ⟨g, o + j * 8 + 2, none⟩ = some (.string t) ∧ w'.cell? ⟨g, o + j * 8 + 3, none⟩ = some (.slice pa pn pc) ∧ w'.cell? ⟨g, o + j * 8 + 4, none⟩ = some (.int .i64 qq) ∧ w'.cell? ⟨g, o + j * 8 + 5, none⟩ = some (.bool r) ∧ w'.cell? ⟨g, o + j * 8 + 6, none⟩ = some (.int .i64 aa) ∧ w'.cell? ⟨g, o + j * 8 + 7, none⟩ = some (.int .i64 nn)) (first | exact ⟨k0, k1, k2, k3, k4, k5, k6, k7⟩ | go_keep) (first
                | (go_at_call 11; refine PL1.out.mono ?_; clear PL1; rintro e w4 ⟨v4, rfl, hk4, hl4, -⟩; obtain ⟨a4, c4, hv4⟩ := hl4.sl; subst hv4; clear k0 k1 k2 k3 k4 k5 k6 k7; obtain ⟨k0, k1, k2, k3, k4, k5, k6, k7⟩ := KC.out w4 hk4.bel; have PL2 := hidi (PLX.out w4 0 hk4); have HL4 := hidi hl4; clear PLX hk4 hl4)
                | (go_at_call 11; refine PL2.out.mono ?_; clear PL2; rintro e w5 ⟨v5, rfl, hk5, hl5, ho5⟩; obtain ⟨a5, c5, hv5⟩ := hl5.sl; subst hv5; clear k0 k1 k2 k3 k4 k5 k6 k7; obtain ⟨k0, k1, k2, k3, k4, k5, k6, k7⟩ := KC.out w5 hk5.bel; have HK5 := hidi (And.intro hk5.swap (And.intro (ho5.lst HL4.out) hl5)); clear hk5 hl5 ho5))
              obtain ⟨nx, hnx⟩ : ∃ nx, nx = X.length := ⟨_, rfl⟩
              rw [← hnx] at HNX ⊢
              have FLY := hidi (k2_flying HK5.out.1)
              have FLX := hidi (k2_flying HK5.out.1.swap)
              have WAI := hidi (k2_waiting HK5.out.1 (by have := HJ.out; omega))
              have HLX := hidi (And.intro HK5.out.2 hnx)
              have HK5' := hidi HK5.out.1
              obtain ⟨nfl, hnfl⟩ : ∃ x, x = p'.fl.length := ⟨_, rfl⟩
              obtain ⟨nwt, hnwt⟩ : ∃ x, x = p'.wt.length := ⟨_, rfl⟩
              obtain ⟨po, hpo⟩ : ∃ x, x = p'.on := ⟨_, rfl⟩
              rw [← hnfl] at FLY FLX
              rw [← hnwt] at WAI
              have HPP := hidi (And.intro hnfl (And.intro hnwt hpo))
              clear hnx hnfl hnwt hpo HK5 k0 k1 k2 k3 k4 k5 k6 k7 KC HL4
              go_wp2_with (first
                | (go_at_call 13; refine FLY.out.mono ?_; clear FLY; rintro e w' ⟨rfl, he⟩; obtain rfl := he.symm)
                | (go_at_call 13; refine FLX.out.mono ?_; clear FLX; rintro e w' ⟨rfl, he⟩; obtain rfl := he.symm)
                | (go_at_call 14; refine WAI.out.mono ?_; clear WAI; rintro e w6 ⟨rfl, hb6⟩; have K6 := hidi (HK5'.out.below hb6); have B6 := hidi hb6; have WAX := hidi (k2_waiting K6.out.swap (by have := HJ.out; omega)); rw [← HPP.out.2.1] at WAX; clear hb6)
                | (go_at_call 14; refine WAX.out.mono ?_; clear WAX; rintro e w7 ⟨rfl, hb7⟩; have K7 := hidi (K6.out.below hb7); have B7 := hidi (bel_on B6.out hb7); have ONA := hidi (k2_online K7.out); have ONB := hidi (k2_online K7.out.swap); rw [← HPP.out.2.2] at ONA ONB; clear hb7)
                | (go_at_call 15; refine ONA.out.mono ?_; clear ONA; rintro e w' ⟨rfl, he⟩; obtain rfl := he.symm)
                | (go_at_call 15; refine ONB.out.mono ?_; clear ONB; rintro e w' ⟨rfl, he⟩; obtain rfl := he.symm))
              have LL := hidi (show Lst w7 (.slice a4 nx c4) X ∧ Lst w7 (.slice a5 nx c5) X ∧ nx = X.length from by
                rw [HLX.out.2]
                exact ⟨(KO.below B7.out).lst HLX.out.1.1, (KO.below B7.out).lst HLX.out.1.2, rfl⟩)
              clear HPP HLX K6 B6 B7 HK5'
              go_loopg [16] nx (fun gk s16 wx => ∃ ik : Nat, ik + gk = nx ∧ s16 = .int .i64 ik ∧ Hid (Below w7.heap.size w7 wx))
              case atStart => exact ⟨0, by omega, rfl, Below.refl _ _⟩
              case round =>
                obtain ⟨ik, hik, rfl, HK⟩ := hrel
                by_cases hin : ik < nx
                · have hlt2 : (ik : Int) < (nx : Int) := by omega
                  have hge2 : (0 : Int) ≤ (ik : Int) := by omega
                  have hw2 : IntKind.i64.wrap ((ik : Int) + 1) = (ik : Int) + 1 := by rw [IntKind.wrap_i64]; have := HNX.out; omega
                  obtain ⟨ga, gb, ca, cb, P1, P2, ha, hb, hr1, hr2, hsm⟩ := lst_same LL.out.1 LL.out.2.1 (j := ik) (by rw [← LL.out.2.2]; exact hin)
                  rw [← LL.out.2.2] at ha hb
                  simp only [Value.slice.injEq, true_and] at ha hb
                  obtain ⟨rfl, rfl⟩ := ha
                  obtain ⟨rfl, rfl⟩ := hb
                  have RX := hidi hr1
                  have RY := hidi hr2
                  have SAME := hidi hsm
                  clear hr1 hr2 hsm
                  go_wp2_with fail
                  refine wp_region_held_drew (S := fun w' => Hid (Below w7.heap.size w7 w')) (by kernel_rfl) (show Hid _ from HK.out.drew) (fun hHeld => ?_)
                  refine wpAnyH_take (i := 0) (oi := { dst := Option.some 121, op := Go.Op.move (Go.Operand.tmp 14), type := 36, pos := "whatfor.go:208", after := #[], guard := Option.none }) (v := .slice (some ⟨ga, 0, none⟩) nx c4) rfl (by kernel_rfl) (by kernel_rfl) (by kernel_rfl) (fun _ _ _ h => h) (Or.inl ⟨by kernel_rfl, fun wq _ => pureVal_run (by kernel_rfl) wq⟩) hHeld ?_
                  simp only [Act.put, List.setIfInBounds_toArray, List.set_cons_zero, List.set_cons_succ]
                  refine wpAnyH_take (i := 1) (oi := { dst := Option.some 122, op := Go.Op.move (Go.Operand.tmp 16), type := 3, pos := "whatfor.go:208", after := #[], guard := Option.none }) (v := .int .i64 (ik : Int)) rfl (by kernel_rfl) (by kernel_rfl) (by kernel_rfl) (fun _ _ _ h => h) (Or.inl ⟨by kernel_rfl, fun wq _ => pureVal_run (by kernel_rfl) wq⟩) hHeld ?_
                  simp only [Act.put, List.setIfInBounds_toArray, List.set_cons_zero, List.set_cons_succ]
                  refine wpAnyH_take (i := 2) (oi := { dst := Option.some 123, op := Go.Op.indexAddr 36 (Go.Operand.tmp 121) (Go.Operand.tmp 122), type := 0, pos := "whatfor.go:208", after := #[{ on := 0, ground := Go.Ground.data }, { on := 1, ground := Go.Ground.data }], guard := Option.none }) (v := .pointer (some ⟨ga, ik * 25, none⟩)) rfl (by kernel_rfl) (by kernel_rfl) (by kernel_rfl) (fun _ _ _ h => h) (Or.inl ⟨by kernel_rfl, by intro wq hSw; clear hSw hHeld; go_simp⟩) hHeld ?_
                  simp only [Act.put, List.setIfInBounds_toArray, List.set_cons_zero, List.set_cons_succ]
                  refine wpAnyH_take (i := 3) (oi := { dst := Option.some 124, op := Go.Op.load 51 (Go.Operand.tmp 123), type := 51, pos := "whatfor.go:208", after := #[{ on := 2, ground := Go.Ground.data }], guard := Option.none }) (v := .agg P1) rfl (by kernel_rfl) (by kernel_rfl) (by kernel_rfl) (fun _ _ _ h => h) (Or.inl ⟨by kernel_rfl, fun wq hSw => yields_mid51 rfl (by rfl) (RX.out wq (Hid.out hSw))⟩) hHeld ?_
                  simp only [Act.put, List.setIfInBounds_toArray, List.set_cons_zero, List.set_cons_succ]
                  refine wpAnyH_take (i := 4) (oi := { dst := Option.some 125, op := Go.Op.move (Go.Operand.tmp 15), type := 36, pos := "whatfor.go:208", after := #[], guard := Option.none }) (v := .slice (some ⟨gb, 0, none⟩) nx c5) rfl (by kernel_rfl) (by kernel_rfl) (by kernel_rfl) (fun _ _ _ h => h) (Or.inl ⟨by kernel_rfl, fun wq _ => pureVal_run (by kernel_rfl) wq⟩) hHeld ?_
                  simp only [Act.put, List.setIfInBounds_toArray, List.set_cons_zero, List.set_cons_succ]
                  refine wpAnyH_take (i := 5) (oi := { dst := Option.some 126, op := Go.Op.move (Go.Operand.tmp 16), type := 3, pos := "whatfor.go:208", after := #[], guard := Option.none }) (v := .int .i64 (ik : Int)) rfl (by kernel_rfl) (by kernel_rfl) (by kernel_rfl) (fun _ _ _ h => h) (Or.inl ⟨by kernel_rfl, fun wq _ => pureVal_run (by kernel_rfl) wq⟩) hHeld ?_
                  simp only [Act.put, List.setIfInBounds_toArray, List.set_cons_zero, List.set_cons_succ]
                  refine wpAnyH_take (i := 6) (oi := { dst := Option.some 127, op := Go.Op.indexAddr 36 (Go.Operand.tmp 125) (Go.Operand.tmp 126), type := 0, pos := "whatfor.go:208", after := #[{ on := 4, ground := Go.Ground.data }, { on := 5, ground := Go.Ground.data }], guard := Option.none }) (v := .pointer (some ⟨gb, ik * 25, none⟩)) rfl (by kernel_rfl) (by kernel_rfl) (by kernel_rfl) (fun _ _ _ h => h) (Or.inl ⟨by kernel_rfl, by intro wq hSw; clear hSw hHeld; go_simp⟩) hHeld ?_
                  simp only [Act.put, List.setIfInBounds_toArray, List.set_cons_zero, List.set_cons_succ]
                  refine wpAnyH_take (i := 7) (oi := { dst := Option.some 128, op := Go.Op.load 51 (Go.Operand.tmp 127), type := 51, pos := "whatfor.go:208", after := #[{ on := 6, ground := Go.Ground.data }], guard := Option.none }) (v := .agg P2) rfl (by kernel_rfl) (by kernel_rfl) (by kernel_rfl) (fun _ _ _ h => h) (Or.inl ⟨by kernel_rfl, fun wq hSw => yields_mid51 rfl (by rfl) (RY.out wq (Hid.out hSw))⟩) hHeld ?_
                  simp only [Act.put, List.setIfInBounds_toArray, List.set_cons_zero, List.set_cons_succ]
                  refine wpAnyH_ready (rs := [8]) (by kernel_rfl) (by simp) ?_
                  refine AllReadyH.cons (o := { dst := Option.some 129, op := Go.Op.call { callee := Go.Callee.value (Go.Operand.func 24), args := #[Go.Operand.tmp 124, Go.Operand.tmp 128], argTypes := #[51, 51] }, type := 4, pos := "whatfor.go:208", after := #[{ on := 3, ground := Go.Ground.data }, { on := 7, ground := Go.Ground.data }], guard := Option.none }) (by rfl) (fun K hK => ?_) AllReadyH.nil
                  refine held_call (by kernel_rfl) 24 #[.agg P1, .agg P2] (by clear hHeld hK; go_simp) (R := fun x w' => x = .bool true ∧ Hid (Below w7.heap.size w7 w')) ((SAME.out _ hHeld.out).mono fun e w' ⟨h1, h2⟩ => ⟨_, h1, rfl, h2⟩) ?_
                  rintro _ w8 ⟨rfl, hb8⟩
                  refine hK.out _ _ hb8 (fun hHeld => ?_)
                  clear hK K
                  simp only [Act.put, List.setIfInBounds_toArray, List.set_cons_zero, List.set_cons_succ]
                  refine wpAnyH_take (i := 9) (oi := { dst := Option.some 130, op := Go.Op.unOp Go.UnOp.not 4 (Go.Operand.tmp 129), type := 4, pos := "whatfor.go:208", after := #[{ on := 8, ground := Go.Ground.data }], guard := Option.none }) (v := .bool false) rfl (by kernel_rfl) (by kernel_rfl) (by kernel_rfl) (fun _ _ _ h => h) (Or.inl ⟨by kernel_rfl, by intro wq hSw; clear hSw hHeld; go_simp⟩) hHeld ?_
                  simp only [Act.put, List.setIfInBounds_toArray, List.set_cons_zero, List.set_cons_succ]
                  refine wpAnyH_done (by kernel_rfl) ?_ _
                  clear hHeld
                  have HK8 := hidi hb8
                  clear hb8
                  go_wp2_with fail
                  go_roundg (nx - (ik + 1))
                  case measure => omega
                  case rel => exact ⟨ik + 1, by omega, by first | rfl | simp, HK8.out⟩
                · have hlt2 : ¬ (ik : Int) < (nx : Int) := by omega
                  have KF := hidi ((K7.out.below HK.out).more (d := 100000 + (j + 1)) (d' := 100000 + (j + 1)) (by omega) (by omega))
                  clear LL
                  go_wp2_with fail
                  go_roundg (N' - (j + 1))
                  case measure => omega
                  case rel => exact ⟨j + 1, p', by omega, by first | rfl | simp, KF.out⟩
            · as_aux_lemma =>
              have hlt : ¬ (j : Int) < (N' : Int) := by omega
              have hjN : j ≤ 300 := by have := HFew2.out.1; rw [H.out.2.2.len] at this; omega
              have IM := hidi (k2_image HI.out (by omega))
              go_wp2_with fail
              go_must (go_at_call 12)
              refine IM.out.mono ?_
              clear IM
              rintro e w4 ⟨vf, vq, rfl, hI, hb⟩
              obtain ⟨L, L', hL⟩ := hI.imo
              have K4 := hidi (And.intro (HI.out.below hb) hL)
              have IM := hidi (k2_image K4.out.1.swap (by omega))
              clear hI hb hL
              obtain ⟨fa, fc, hvf⟩ := own_sl K4.out.2.fl
              obtain ⟨qa, qc, hvq⟩ := own_sl K4.out.2.qu
              obtain ⟨l1, hl1⟩ : ∃ x, x = L.length := ⟨_, rfl⟩
              obtain ⟨l2, hl2⟩ : ∃ x, x = L'.length := ⟨_, rfl⟩
              rw [← hl1] at hvf
              rw [← hl2] at hvq
              subst hvf hvq
              clear hl1 hl2
              obtain ⟨ls, hls⟩ : ∃ ls : Int, ls = (p.last : Int) := ⟨_, rfl⟩
              rw [← hls] at IM ⊢
              have HLS := hidi hls
              clear hls
              go_wp2_with fail
              go_must (go_at_call 12)
              refine IM.out.mono ?_
              clear IM
              rintro e w5 ⟨vg, vr, rfl, hI, hb⟩
              obtain ⟨M, M', hM⟩ := hI.imo
              have hfa := HI.out.one
              obtain ⟨F, hks, -⟩ := hfa
              have SW := hidi (sameWin_any (K4.out.2.below hb) hM (by have := hks.facts; omega))
              rw [← HLS.out] at SW
              obtain ⟨ga, gc, hvg⟩ := own_sl hM.fl
              obtain ⟨ra, rc, hvr⟩ := own_sl hM.qu
              have HB5 := hidi ((K4.out.1.below hb).bel)
              obtain ⟨l3, hl3⟩ : ∃ x, x = M.length := ⟨_, rfl⟩
              obtain ⟨l4, hl4⟩ : ∃ x, x = M'.length := ⟨_, rfl⟩
              rw [← hl3] at hvg
              rw [← hl4] at hvr
              subst hvg hvr
              clear hl3 hl4 hI hb hM hks
              go_wp2_with fail
              go_must (go_at_call 25)
              refine SW.out.mono ?_
              rintro e w6 ⟨rfl, hb6⟩
              have HB6 := hidi (HB5.out.trans (hb6.mono HB5.out.size))
              clear hb6 SW
              go_wp2_with fail
              go_ret
              exact ⟨rfl, HB6.out⟩
end Go.Proofs.YtbjhblnagmpnfaaDoor
