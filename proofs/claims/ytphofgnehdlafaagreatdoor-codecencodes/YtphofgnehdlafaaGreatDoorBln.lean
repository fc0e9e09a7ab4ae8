import Derived.Test.YtphofgnehdlafaaGreatDoorBlm
import Derived.Deep.CutRange
namespace Go.Proofs.YtphofgnehdlafaaGreatDoor.Bk
open Go Go.RowKit
set_option linter.unusedSimpArgs false
set_option linter.unusedVariables false
set_option maxRecDepth 100000
set_option maxHeartbeats 4000000
theorem sameBytes_cl (a b : Option Addr) (l c c' : Nat) (L : List Value) (w : World) (h : CL w a l c L) (h' : CL w b l c' L) (hb : ∀ u ∈ L, Bv u) (hl : l ≤ 2000000) :
    Calls Tryz.prog 117 #[.slice a l c, .slice b l c'] w fun e w' => e = .returned (.bool true) ∧ w' = w := by
  have hcap := h.1
  have hcap' := h'.1
  have CA : Hid (∀ i, i < l → ∃ p off p' off' x, a = some ⟨p, off, none⟩ ∧ b = some ⟨p', off', none⟩ ∧ w.cell? ⟨p, off + i, none⟩ = some (.int .u8 x) ∧ w.cell? ⟨p', off' + i, none⟩ = some (.int .u8 x)) := fun i hi => by
    rcases h.2.2 with q | ⟨p, off, e, hc⟩
    · omega
    · rcases h'.2.2 with q | ⟨p', off', e', hc'⟩
      · omega
      · have hL : L[i]? = some (L[i]'(by rw [h.2.1]; exact hi)) := List.getElem?_eq_getElem _
        obtain ⟨x, hx, _⟩ := hb _ (List.mem_of_getElem? hL)
        rw [hx] at hL
        exact ⟨p, off, p', off', x, e, e', (hc i hi).trans hL, (hc' i hi).trans hL⟩
  clear h h' hb
  go_enter Tryz.func117, Tryz.ntmps117
  go_wp2
  go_loop [5] (fun i => ∃ k : Nat, i = .int .i64 k ∧ k ≤ l) (fun i => l - (intOf i).toNat)
  case atStart => exact ⟨0, rfl, by omega⟩
  case round =>
    obtain ⟨k, rfl, hk⟩ := hrel
    by_cases hlt : k < l
    · obtain ⟨p, off, p', off', x, rfl, rfl, ca, cb⟩ := CA.out k hlt
      have hk' : (k : Int) < l := by omega
      go_wp2
      go_round
      case rel => exact ⟨k + 1, by simp, by omega⟩
      case measure => simp [intOf]; omega
    · have hk' : ¬ (k : Int) < l := by omega
      go_wp2
      go_ret
      exact ⟨rfl, rfl⟩
theorem old_cell {w0 w W : World} {bb B : Nat} {S : Nat → Prop} {rv : Nat → Value} {xs : Nat → List Value} {c : Array Value} {r : Nat → Value} {y : Nat → List Value} {t deep seen : Int} (h : Ms w0 w W bb B S rv xs c r y t deep seen) {j : Nat} (hj : O4 j) {g N q : Nat} (e : rv j = .slice (some ⟨g, 0, none⟩) N q) {k : Nat} {u : Value} (hN : N = (xs j).length) (hu : (xs j)[k]? = some u) : W.cell? ⟨g, k, none⟩ = some u := by
 have o := h.old j hj
 rw [e, hN] at o
 obtain ⟨g', eg, hc⟩ := row_cell o hu
 cases eg
 exact hc
structure Mn (xs xs' : Nat → List Value) (k : Nat) : Prop where
 m5 : (xs' 5).length = (xs' 2).length
 m6 : (xs' 6).length = (xs' 2).length
 m7 : (xs' 7).length = (xs' 4).length
 i5 : ∀ u ∈ xs' 5, ∃ m, u = .int .i64 m
 i6 : ∀ u ∈ xs' 6, ∃ m, u = .int .i64 m
 i7 : ∀ u ∈ xs' 7, ∃ m, u = .int .i64 m
 l2 : (xs' 2).length ≤ k
 l4 : (xs' 4).length ≤ k
 l0 : (xs' 0).length ≤ (xs 0).length + k
 l24 : (xs' 2).length + (xs' 4).length ≤ k
 l04 : (xs' 0).length ≤ (xs 0).length + (xs' 4).length
def Mdone (w0 w' : World) (bb B : Nat) (S : Nat → Prop) (D : Nat → Nat → Prop) (xs : Nat → List Value) (t deep seen : Int) : Prop :=
 ∃ D' cs' rv' xs', Bq w0 w' bb B S cs' rv' xs' t deep seen ∧ Mi w0 w' B S D' (xs 2) (xs 3) (xs 2).length (xs' 0) (xs' 1) (xs' 2) (xs' 3) (xs' 4) ∧ (∀ g j, D g j → D' g j) ∧ Mn xs xs' (xs 2).length
theorem markBytes_any (bb B : Nat) (S : Nat → Prop) (D : Nat → Nat → Prop) (cs : Array Value) (rv : Nat → Value) (xs : Nat → List Value) (t deep seen : Int) (w0 w : World)
    (hq : Bq w0 w bb B S cs rv xs t deep seen) (hm : Mi w0 w B S D (xs 2) (xs 3) 0 (xs 0) (xs 1) [] [] []) (h4 : rv 4 = .slice none 0 0) (h7 : rv 7 = .slice none 0 0) (x4 : xs 4 = []) (x7 : xs 7 = [])
    (hn : (xs 3).length = (xs 2).length ∧ (xs 5).length = (xs 2).length ∧ (xs 6).length = (xs 2).length) (h5 : ∀ u ∈ xs 5, ∃ m, u = .int .i64 m) (h6 : ∀ u ∈ xs 6, ∃ m, u = .int .i64 m) (hB : B ≤ w.heap.size) (hl : (xs 0).length + (xs 2).length ≤ 800000) :
    Calls Tryz.prog 171 #[.pointer (some ⟨bb, 0, none⟩)] w fun e w' => e = .returned (.tuple #[]) ∧ Mdone w0 w' bb B S D xs t deep seen := by
  have HQ : Hid (Bq w0 w bb B S cs rv xs t deep seen) := hq
  have HM : Hid (Mi w0 w B S D (xs 2) (xs 3) 0 (xs 0) (xs 1) [] [] []) := hm
  have HX : Hid (rv 4 = .slice none 0 0 ∧ rv 7 = .slice none 0 0 ∧ xs 4 = [] ∧ xs 7 = []) := ⟨h4, h7, x4, x7⟩
  have HN : Hid (((xs 3).length = (xs 2).length ∧ (xs 5).length = (xs 2).length ∧ (xs 6).length = (xs 2).length) ∧ (∀ u ∈ xs 5, ∃ m, u = .int .i64 m) ∧ (∀ u ∈ xs 6, ∃ m, u = .int .i64 m) ∧ B ≤ w.heap.size ∧ (xs 0).length + (xs 2).length ≤ 800000) := ⟨hn, h5, h6, hB, hl⟩
  obtain ⟨a2, k2, e2⟩ := row_sl (hq.br.own 2 (by decide))
  obtain ⟨a3, k3, e3⟩ := row_sl (hq.br.own 3 (by decide))
  obtain ⟨a5, k5, e5⟩ := row_sl (hq.br.own 5 (by decide))
  obtain ⟨a6, k6, e6⟩ := row_sl (hq.br.own 6 (by decide))
  rw [hn.1] at e3
  rw [hn.2.1] at e5
  rw [hn.2.2] at e6
  obtain ⟨N, hN⟩ : ∃ N, N = (xs 2).length := ⟨_, rfl⟩
  rw [← hN] at e2 e3 e5 e6
  have c6 := (hq.br.cell 2 (by decide)).1
  have c7 := (hq.br.cell 3 (by decide)).1
  have c9 := (hq.br.cell 5 (by decide)).1
  have c10 := (hq.br.cell 6 (by decide)).1
  have z6 := (hq.br.cell 2 (by decide)).2
  have z7 := (hq.br.cell 3 (by decide)).2
  have z9 := (hq.br.cell 5 (by decide)).2
  have z10 := (hq.br.cell 6 (by decide)).2
  rw [e2] at c6
  rw [e3] at c7
  rw [e5] at c9
  rw [e6] at c10
  have HE : Hid (rv 2 = .slice a2 N k2 ∧ rv 3 = .slice a3 N k3 ∧ rv 5 = .slice a5 N k5 ∧ rv 6 = .slice a6 N k6) := ⟨e2, e3, e5, e6⟩
  have HNN : Hid (N = (xs 2).length ∧ N ≤ 800000) := ⟨hN, by omega⟩
  clear hq hm h4 h7 x4 x7 hn h5 h6 hB hl e2 e3 e5 e6 hN
  go_enter Tryz.func171, Tryz.ntmps171
  by_cases h0 : N = 0
  · subst h0
    go_wp2_with fail
    refine bodyPost_ret (results_none rfl _ _ _) rfl ⟨rfl, D, cs, rv, xs, HQ.out, ?_, fun _ _ q => q, ?_⟩
    · have n2 : xs 2 = [] := List.eq_nil_of_length_eq_zero HNN.out.1.symm
      have n3 : xs 3 = [] := List.eq_nil_of_length_eq_zero (by rw [HN.out.1.1, n2]; rfl)
      have := HM.out
      rw [HX.out.2.2.1]
      rw [n2, n3] at this ⊢
      exact this
    · have n2 : xs 2 = [] := List.eq_nil_of_length_eq_zero HNN.out.1.symm
      have hh := HN.out.1
      rw [n2] at hh
      exact ⟨by rw [n2]; exact hh.2.1, by rw [n2]; exact hh.2.2, by rw [HX.out.2.2.1, HX.out.2.2.2], HN.out.2.1, HN.out.2.2.1, (by rw [HX.out.2.2.2]; intro u hu; cases hu), (by rw [n2]; exact Nat.le_refl _), (by rw [HX.out.2.2.1]; exact Nat.zero_le _), Nat.le_add_right _ _, (by rw [n2, HX.out.2.2.1]; exact Nat.le_refl _), Nat.le_add_right _ _⟩
  · have h0' : ¬ ((N : Nat) : Int) = 0 := by omega
    have h0b : (((N : Nat) : Int) == 0) = false := by simpa using h0
    go_wp2_with fail
    go_loopg [6] N (fun gg s6 wx => ∃ (k : Nat) (D' : Nat → Nat → Prop) (cs' : Array Value) (rv' : Nat → Value) (xs' : Nat → List Value), s6 = .int .i64 k ∧ k + gg = N ∧ Hid (Ms w0 w wx bb B S rv xs cs' rv' xs' t deep seen) ∧ Hid (Mi w0 wx B S D' (xs 2) (xs 3) k (xs' 0) (xs' 1) (xs' 2) (xs' 3) (xs' 4)) ∧ Hid (∀ g j, D g j → D' g j) ∧ Hid (Mn xs xs' k))
    case atStart =>
      obtain ⟨cs', hs⟩ := Ms.start HQ.out HX.out.1 HX.out.2.1
      have F : Five w ((((w.setCell ⟨bb, 6, none⟩ (.slice none 0 0)).setCell ⟨bb, 7, none⟩ (.slice none 0 0)).setCell ⟨bb, 9, none⟩ (.slice none 0 0)).setCell ⟨bb, 10, none⟩ (.slice none 0 0)) := fun g k hg => by
        have hne : g ≠ bb := blk_ne hg HQ.out.br.at_ (by decide)
        rw [Below.heap_setCell _ _ _ _ hne, Below.heap_setCell _ _ _ _ hne, Below.heap_setCell _ _ _ _ hne, Below.heap_setCell _ _ _ _ hne]
      refine ⟨0, D, cs', _, _, rfl, by omega, hs, ?_, fun _ _ q => q, ?_⟩
      · have := HM.out.five F
        simpa [upd, HX.out.2.2.1, Hid] using this
      · exact ⟨by simp [upd], by simp [upd], by simp [upd, HX.out.2.2.1, HX.out.2.2.2], by simp [upd], by simp [upd], by simp [upd, HX.out.2.2.2], by simp [upd], by simp [upd, HX.out.2.2.1], by simp [upd], by simp [upd, HX.out.2.2.1], by simp [upd]⟩
    case round =>
      obtain ⟨k, D', cs', rv', xs', hs6, hk, MS, MI, DD, MN⟩ := hrel
      subst hs6
      clear c6 c7 c9 c10 z6 z7 z9 z10
      by_cases hlt : k < N
      · have p0 : ((k : Nat) : Int) < (N : Int) := by omega
        have HK : Hid (k < N ∧ k + gk = N) := ⟨hlt, hk⟩
        have h2 : k < (xs 2).length := by have := HNN.out.1; omega
        obtain ⟨v, hv⟩ : ∃ v, (xs 2)[k]? = some v := ⟨_, List.getElem?_eq_getElem h2⟩
        obtain ⟨vn, hvn⟩ : ∃ v, (xs 3)[k]? = some v := ⟨_, List.getElem?_eq_getElem (by have := HN.out.1.1; omega)⟩
        obtain ⟨vm, hvm⟩ : ∃ v, (xs 5)[k]? = some v := ⟨_, List.getElem?_eq_getElem (by have := HN.out.1.2.1; omega)⟩
        obtain ⟨vd, hvd⟩ : ∃ v, (xs 6)[k]? = some v := ⟨_, List.getElem?_eq_getElem (by have := HN.out.1.2.2; omega)⟩
        obtain ⟨mark, rfl⟩ := HN.out.2.1 vm (List.mem_of_getElem? hvm)
        obtain ⟨due, rfl⟩ := HN.out.2.2.1 vd (List.mem_of_getElem? hvd)
        have WT := MI.out.rt k v vn (Nat.le_refl _) hv hvn
        obtain ⟨n, L, nb, nc, hn9, hvo, rfl, hnc, hnd, hLb⟩ := WT.ex
        obtain ⟨va, vc, rfl⟩ := own_sl hvo
        have o2 : wr.ownsRow B 22 1 (.slice a2 (xs 2).length k2) (xs 2).length (xs 2) := by have := MS.out.old 2 (.inl rfl); rw [HE.out.1, HNN.out.1] at this; exact this
        have o3 : wr.ownsRow B 22 1 (.slice a3 (xs 3).length k3) (xs 3).length (xs 3) := by have := MS.out.old 3 (.inr (.inl rfl)); rw [HE.out.2.1, HNN.out.1, ← HN.out.1.1] at this; exact this
        have o5 : wr.ownsRow B 3 1 (.slice a5 (xs 5).length k5) (xs 5).length (xs 5) := by have := MS.out.old 5 (.inr (.inr (.inl rfl))); rw [HE.out.2.2.1, HNN.out.1, ← HN.out.1.2.1] at this; exact this
        have o6 : wr.ownsRow B 3 1 (.slice a6 (xs 6).length k6) (xs 6).length (xs 6) := by have := MS.out.old 6 (.inr (.inr (.inr rfl))); rw [HE.out.2.2.2, HNN.out.1, ← HN.out.1.2.2] at this; exact this
        obtain ⟨g2, ea2, d2⟩ := row_cell o2 hv
        obtain ⟨g3, ea3, d3⟩ := row_cell o3 hvn
        obtain ⟨g5, ea5, d5⟩ := row_cell o5 hvm
        obtain ⟨g6, ea6, d6⟩ := row_cell o6 hvd
        subst ea2 ea3 ea5 ea6
        have ct := (bk_cell MS.out.bq.br.at_ MS.out.bq.hd.turn).1
        have HV : Hid ((xs 2)[k]? = some (.slice va n vc) ∧ (xs 3)[k]? = some (.slice nb n nc) ∧ n ≤ 1900000 ∧ wr.ownsRow B 5 1 (.slice va n vc) n L ∧ CL wr nb n nc L ∧ (∀ u ∈ L, Bv u) ∧ Wt wr B D' (.slice va n vc) (.slice nb n nc)) := ⟨hv, hvn, hn9, hvo, hnc, hLb, WT⟩
        have HV6 : Hid ((xs 6)[k]? = some (.int .i64 due)) := hvd
        have HD3 : Hid (wr.cell? ⟨g3, k, none⟩ = some (.slice nb n nc) ∧ wr.cell? ⟨g6, k, none⟩ = some (.int .i64 due)) := ⟨d3, d6⟩
        clear hv hvn hvm hvd WT hn9 hvo hnc hnd hLb o2 o3 o5 o6 h2 hlt hk
        go_upto_region 11 with fail
        go_cut [63] from 41 to 188 (fun s63 wx => s63 = .bool (decide (t < due)) ∧ Hid (Below wr.heap.size wr wx))
        case first =>
          go_quiet (fail)
          go_wp2_with fail
          go_meet
          exact ⟨rfl, below_drewN (Below.refl _ _) _⟩
        case rest =>
          obtain ⟨Wc, rfl⟩ : ∃ W, W = wc := ⟨_, rfl⟩
          obtain ⟨hs63, BC⟩ := hcut
          subst hs63
          have MC := (show Hid (Ms w0 w Wc bb B S rv xs cs' rv' xs' t deep seen) from MS.out.below BC.out)
          have FC := (show Hid (Five wr Wc) from fun g c hg => BC.out.block g (lt_of_block hg))
          have MIC := (show Hid (Mi w0 Wc B S D' (xs 2) (xs 3) k (xs' 0) (xs' 1) (xs' 2) (xs' 3) (xs' 4)) from MI.out.five FC.out)
          clear d2 d3 d5 d6 ct
          have ct := (bk_cell MC.out.bq.br.at_ MC.out.bq.hd.turn).1
          by_cases hd : t < due
          · have hdd : decide (t < due) = true := by simp [hd]
            have ccp := (MC.out.bq.br.cell 2 (by decide)).1
            have BAp := (show Hid (Ms w0 w (Wc.alloc (.cells #[.slice va n vc] 22)) bb B S rv xs _ _ xs' t deep seen) from MC.out.below ((Below.refl _ _).alloc (Nat.le_refl _) _))
            go_wp2_with (first | (at_builtin; refine wpList_bpush rfl (.tmp 68) (.tmp 70) 33 rfl BAp.out.bq.br 2 (by decide) Tryz.underlying33 rfl Wc.heap.size (.slice va n vc) rfl (heap_alloc_new Wc _) rfl (by have := MN.out.l2; have := MN.out.m5; have := MN.out.m6; have := MIC.out.wl; have := HK.out.1; have := HNN.out.2; omega) (by have := MC.out.sz; have := HN.out.2.2.2.1; simp; omega) ?_) | fail)
            intro vp wp pu
            have PUp := (show Hid (Pu _ wp bb B _ _ xs' 2 (.slice va n vc) vp) from pu)
            obtain ⟨ap, np, kp, hvp⟩ := pu.sl
            clear pu
            subst hvp
            have cwp := (bk_cell PUp.out.bk (MC.out.bq.br.fld 2 (by decide))).1
            have zwp := (bk_cell PUp.out.bk (MC.out.bq.br.fld 2 (by decide))).2
            obtain ⟨Wp, hWp⟩ : ∃ W, W = wp.setCell ⟨bb, 6, none⟩ (.slice ap np kp) := ⟨_, rfl⟩
            obtain ⟨csp, rvp, xsp, Mp, Xp⟩ : ∃ (c : Array Value) (r : Nat → Value) (y : Nat → List Value), Hid (Ms w0 w Wp bb B S rv xs c r y t deep seen) ∧ Hid (y = upd xs' 2 (xs' 2 ++ [.slice va n vc])) := ⟨_, _, _, (by show Ms _ _ _ _ _ _ _ _ _ _ _ _ _ _; rw [hWp]; exact BAp.out.push (by decide) PUp.out), (show _ = _ from rfl)⟩
            have Fp := (show Hid (Five Wc Wp) from (by
              intro g kk hg
              have e2 : (Wc.alloc (.cells #[.slice va n vc] 22)).heap[g]? = some (.cells kk 5 (0, 0)) := (((Below.refl Wc.heap.size Wc).alloc (Nat.le_refl _) _).block g (lt_of_block hg)).trans hg
              rw [hWp]; exact (pu_five BAp.out.bq.br (by decide) PUp.out g kk e2).trans (e2.trans hg.symm)))
            have SZp := (show Hid (Wc.heap.size ≤ Wp.heap.size) from (by have h1 := PUp.out.gr.size; show _ ≤ _; rw [hWp]; simp [World.setCell] at h1 ⊢; omega))
            clear ccp
            go_upto_region 13 with fail
            rw [← hWp]
            clear hWp cwp zwp
            have d3 := (show Wp.cell? ⟨g3, k, none⟩ = some (.slice nb n nc) from old_cell Mp.out (.inr (.inl rfl)) HE.out.2.1 (HNN.out.1.trans HN.out.1.1.symm) HV.out.2.1)
            have ccq := (Mp.out.bq.br.cell 3 (by decide)).1
            have BAq := (show Hid (Ms w0 w (Wp.alloc (.cells #[.slice nb n nc] 22)).drew bb B S rv xs _ _ xsp t deep seen) from Mp.out.below (((Below.refl _ _).alloc (Nat.le_refl _) _).drew))
            have caq := (BAq.out.bq.br.cell 3 (by decide)).1
            have HEq := (show Hid ((Wp.alloc (.cells #[.slice nb n nc] 22)).drew.heap[Wp.heap.size]? = some (.cells #[.slice nb n nc] 22 (0, 0))) from heap_alloc_new Wp _)
            go_cut [] from 41 to 188 (fun wx => ∃ (c : Array Value) (r : Nat → Value) (y : Nat → List Value), Hid (Ms w0 w wx bb B S rv xs c r y t deep seen) ∧ Hid (y = upd xsp 3 (xsp 3 ++ [.slice nb n nc])) ∧ Hid (Five Wp wx) ∧ Hid (Wp.heap.size ≤ wx.heap.size))
            case first =>
              first | go_region_law (first | (refine step_bpush rfl (.tmp 78) (.tmp 83) 33 rfl BAq.out.bq.br 3 (by decide) Tryz.underlying33 rfl Wp.heap.size (.slice nb n nc) rfl HEq.out rfl (by rw [Xp.out, upd_ne _ _ (by decide)]; have := MN.out.l2; have := MN.out.m5; have := MN.out.m6; have := MIC.out.wl; have := HK.out.1; have := HNN.out.2; omega) (by have := Mp.out.sz; have := HN.out.2.2.2.1; simp [World.drew]; omega) ?_; intro vq wq pu; have PUq := (show Hid (Pu _ wq bb B _ _ xsp 3 (.slice nb n nc) vq) from pu); obtain ⟨aq, nq, kq, hvq⟩ := pu.sl; clear pu; subst hvq; have cwq := (bk_cell PUq.out.bk (Mp.out.bq.br.fld 3 (by decide))).1; have zwq := (bk_cell PUq.out.bk (Mp.out.bq.br.fld 3 (by decide))).2) | go_simp) | fail
              all_goals
                go_wp2_with fail
                go_meet
                case rel =>
                  refine ⟨_, _, _, BAq.out.push (by decide) PUq.out, (show _ = _ from rfl), fun g kk hg => ?_, ?_⟩
                  · have e2 : (Wp.alloc (.cells #[.slice nb n nc] 22)).drew.heap[g]? = some (.cells kk 5 (0, 0)) := ((((Below.refl Wp.heap.size Wp).alloc (Nat.le_refl _) _).drew).block g (lt_of_block hg)).trans hg
                    exact (pu_five BAq.out.bq.br (by decide) PUq.out g kk e2).trans (e2.trans hg.symm)
                  · have h1 := PUq.out.gr.size
                    show _ ≤ _
                    simp [World.setCell, World.drew] at h1 ⊢
                    omega
            case rest =>
              clear ccq BAq caq HEq
              obtain ⟨Wq, rfl⟩ : ∃ W, W = wc := ⟨_, rfl⟩
              obtain ⟨csq, rvq, xsq, Mq, Xq, Fq, SZq⟩ := hcut
              clear d3
              have ccr := (Mq.out.bq.br.cell 5 (by decide)).1
              have BAr := (show Hid (Ms w0 w (Wq.alloc (.cells #[.int .i64 mark] 3)) bb B S rv xs _ _ xsq t deep seen) from Mq.out.below ((Below.refl _ _).alloc (Nat.le_refl _) _))
              go_wp2_with (first | (at_builtin; refine wpList_bpush rfl (.tmp 91) (.tmp 93) 26 rfl BAr.out.bq.br 5 (by decide) Tryz.underlying26 rfl Wq.heap.size (.int .i64 mark) rfl (heap_alloc_new Wq _) rfl (by rw [Xq.out, upd_ne _ _ (by decide), Xp.out, upd_ne _ _ (by decide)]; have := MN.out.l2; have := MN.out.m5; have := MN.out.m6; have := MIC.out.wl; have := HK.out.1; have := HNN.out.2; omega) (by have := Mq.out.sz; have := HN.out.2.2.2.1; simp; omega) ?_) | fail)
              intro vr wr pu
              have PUr := (show Hid (Pu _ wr bb B _ _ xsq 5 (.int .i64 mark) vr) from pu)
              obtain ⟨ar, nr, kr, hvr⟩ := pu.sl
              clear pu
              subst hvr
              have cwr := (bk_cell PUr.out.bk (Mq.out.bq.br.fld 5 (by decide))).1
              have zwr := (bk_cell PUr.out.bk (Mq.out.bq.br.fld 5 (by decide))).2
              obtain ⟨Wr, hWr⟩ : ∃ W, W = wr.setCell ⟨bb, 9, none⟩ (.slice ar nr kr) := ⟨_, rfl⟩
              obtain ⟨csr, rvr, xsr, Mr, Xr⟩ : ∃ (c : Array Value) (r : Nat → Value) (y : Nat → List Value), Hid (Ms w0 w Wr bb B S rv xs c r y t deep seen) ∧ Hid (y = upd xsq 5 (xsq 5 ++ [.int .i64 mark])) := ⟨_, _, _, (by show Ms _ _ _ _ _ _ _ _ _ _ _ _ _ _; rw [hWr]; exact BAr.out.push (by decide) PUr.out), (show _ = _ from rfl)⟩
              have Fr := (show Hid (Five Wq Wr) from (by
                intro g kk hg
                have e2 : (Wq.alloc (.cells #[.int .i64 mark] 3)).heap[g]? = some (.cells kk 5 (0, 0)) := (((Below.refl Wq.heap.size Wq).alloc (Nat.le_refl _) _).block g (lt_of_block hg)).trans hg
                rw [hWr]; exact (pu_five BAr.out.bq.br (by decide) PUr.out g kk e2).trans (e2.trans hg.symm)))
              have SZr := (show Hid (Wq.heap.size ≤ Wr.heap.size) from (by have h1 := PUr.out.gr.size; show _ ≤ _; rw [hWr]; simp [World.setCell] at h1 ⊢; omega))
              clear ccr
              go_upto_region 15 with fail
              rw [← hWr]
              clear hWr cwr zwr
              have d6 := (show Wr.cell? ⟨g6, k, none⟩ = some (.int .i64 due) from old_cell Mr.out (.inr (.inr (.inr rfl))) HE.out.2.2.2 (HNN.out.1.trans HN.out.1.2.2.symm) HV6.out)
              have ccy := (Mr.out.bq.br.cell 6 (by decide)).1
              have BAy := (show Hid (Ms w0 w (Wr.alloc (.cells #[.int .i64 due] 3)).drew bb B S rv xs _ _ xsr t deep seen) from Mr.out.below (((Below.refl _ _).alloc (Nat.le_refl _) _).drew))
              have cay := (BAy.out.bq.br.cell 6 (by decide)).1
              have HEy := (show Hid ((Wr.alloc (.cells #[.int .i64 due] 3)).drew.heap[Wr.heap.size]? = some (.cells #[.int .i64 due] 3 (0, 0))) from heap_alloc_new Wr _)
              go_cut [] from 41 to 188 (fun wx => ∃ (c : Array Value) (r : Nat → Value) (y : Nat → List Value), Hid (Ms w0 w wx bb B S rv xs c r y t deep seen) ∧ Hid (y = upd xsr 6 (xsr 6 ++ [.int .i64 due])) ∧ Hid (Five Wr wx) ∧ Hid (Wr.heap.size ≤ wx.heap.size))
              case first =>
                first | go_region_law (first | (refine step_bpush rfl (.tmp 101) (.tmp 106) 26 rfl BAy.out.bq.br 6 (by decide) Tryz.underlying26 rfl Wr.heap.size (.int .i64 due) rfl HEy.out rfl (by rw [Xr.out, upd_ne _ _ (by decide), Xq.out, upd_ne _ _ (by decide), Xp.out, upd_ne _ _ (by decide)]; have := MN.out.l2; have := MN.out.m5; have := MN.out.m6; have := MIC.out.wl; have := HK.out.1; have := HNN.out.2; omega) (by have := Mr.out.sz; have := HN.out.2.2.2.1; simp [World.drew]; omega) ?_; intro vy wy pu; have PUy := (show Hid (Pu _ wy bb B _ _ xsr 6 (.int .i64 due) vy) from pu); obtain ⟨ay, ny, ky, hvy⟩ := pu.sl; clear pu; subst hvy; have cwy := (bk_cell PUy.out.bk (Mr.out.bq.br.fld 6 (by decide))).1; have zwy := (bk_cell PUy.out.bk (Mr.out.bq.br.fld 6 (by decide))).2) | go_simp) | fail
                all_goals
                  go_wp2_with fail
                  go_meet
                  case rel =>
                    refine ⟨_, _, _, BAy.out.push (by decide) PUy.out, (show _ = _ from rfl), fun g kk hg => ?_, ?_⟩
                    · have e2 : (Wr.alloc (.cells #[.int .i64 due] 3)).drew.heap[g]? = some (.cells kk 5 (0, 0)) := ((((Below.refl Wr.heap.size Wr).alloc (Nat.le_refl _) _).drew).block g (lt_of_block hg)).trans hg
                      exact (pu_five BAy.out.bq.br (by decide) PUy.out g kk e2).trans (e2.trans hg.symm)
                    · have h1 := PUy.out.gr.size
                      show _ ≤ _
                      simp [World.setCell, World.drew] at h1 ⊢
                      omega
              case rest =>
                clear ccy BAy cay HEy
                obtain ⟨Wy, rfl⟩ : ∃ W, W = wc := ⟨_, rfl⟩
                obtain ⟨csy, rvy, xsy, My, Xy, Fy, SZy⟩ := hcut
                clear d6
                have hwk : IntKind.i64.wrap ((k : Int) + 1) = ((k + 1 : Nat) : Int) := by have := HNN.out.2; have := HK.out.1; rw [IntKind.wrap_i64]; omega
                have FIN : Hid (Mi w0 Wy B S D' (xs 2) (xs 3) (k + 1) (xsy 0) (xsy 1) (xsy 2) (xsy 3) (xsy 4) ∧ Mn xs xsy (k + 1)) := by
                  have EX : xsy = upd (upd (upd (upd xs' 2 (xs' 2 ++ [.slice va n vc])) 3 (xs' 3 ++ [.slice nb n nc])) 5 (xs' 5 ++ [.int .i64 mark])) 6 (xs' 6 ++ [.int .i64 due]) := by
                    rw [Xy.out, Xr.out, Xq.out, Xp.out]
                    simp [upd]
                  have h1 := (((((MIC.out.five Fp.out).five Fq.out).five Fr.out).five Fy.out).wait HV.out.1 HV.out.2.1)
                  have m := MN.out
                  rw [EX]
                  refine ⟨by simpa [upd] using h1, ⟨?_, ?_, ?_, ?_, ?_, ?_, ?_, ?_, ?_, ?_, ?_⟩⟩
                  · have := m.m5; simp [upd]; omega
                  · have := m.m6; simp [upd]; omega
                  · have := m.m7; simp [upd]; omega
                  · intro u hu
                    rcases List.mem_append.1 (by simpa [upd] using hu : u ∈ xs' 5 ++ [.int .i64 mark]) with q | q
                    · exact m.i5 u q
                    · simp at q; exact ⟨_, q⟩
                  · intro u hu
                    rcases List.mem_append.1 (by simpa [upd] using hu : u ∈ xs' 6 ++ [.int .i64 due]) with q | q
                    · exact m.i6 u q
                    · simp at q; exact ⟨_, q⟩
                  · intro u hu; exact m.i7 u (by simpa [upd] using hu)
                  · have := m.l2; simp [upd]; omega
                  · have := m.l4; simp [upd]; omega
                  · have := m.l0; simp [upd]; omega
                  · have := m.l24; simp [upd]; omega
                  · have := m.l04; simp [upd]; omega
                go_wp2_with fail
                go_roundg (N - (k + 1))
                all_goals first | (have := HK.out; omega) | exact ⟨k + 1, D', _, _, _, rfl, by have := HK.out.1; omega, My, FIN.out.1, DD, FIN.out.2⟩ | exact ⟨k + 1, D', _, _, _, by simp, by have := HK.out.1; omega, My, FIN.out.1, DD, FIN.out.2⟩
          · have hdd : decide (t < due) = false := by simp [hd]
            have c0 := (bk_cell MC.out.bq.br.at_ MC.out.bq.hd.now).1
            have c1 := (bk_cell MC.out.bq.br.at_ MC.out.bq.hd.bad).1
            have z1 := (bk_cell MC.out.bq.br.at_ MC.out.bq.hd.bad).2
            have d3 := (show Wc.cell? ⟨g3, k, none⟩ = some (.slice nb n nc) from old_cell MC.out (.inr (.inl rfl)) HE.out.2.1 (HNN.out.1.trans HN.out.1.1.symm) HV.out.2.1)
            have OV := (show Hid (Wc.ownsRow B 5 1 (.slice va n vc) n L) from own_keep HV.out.2.2.2.1 (fun q e => BC.out.block q (HV.out.2.2.2.1.lt q e).2))
            have SB := (show Hid (Calls Tryz.prog 117 #[.slice va n vc, .slice nb n nc] Wc fun e w' => e = .returned (.bool true) ∧ w' = Wc) from sameBytes_cl va nb n vc nc L Wc (cl_of_own OV.out) (HV.out.2.2.2.2.1.below BC.out) HV.out.2.2.2.2.2.1 (by have := HV.out.2.2.1; omega))
            go_wp2_with fail
            go_must (go_at_call 117)
            refine SB.out.mono ?_
            rintro e w' ⟨rfl, he⟩
            obtain rfl := he.symm
            obtain ⟨Wd, hWd⟩ : ∃ W, W = Wc.setCell ⟨bb, 1, none⟩ (.bool false) := ⟨_, rfl⟩
            obtain ⟨csd, MD⟩ : ∃ c, Hid (Ms w0 w Wd bb B S rv xs c rv' xs' t deep seen) := ⟨_, (by show Ms _ _ _ _ _ _ _ _ _ _ _ _ _ _; rw [hWd]; exact MC.out.other 1 (.inl (by decide)) (.bool false) (by rw [set_same MC.out.bq.hd.bad]; exact MC.out.bq.hd))⟩
            have FD := (show Hid (Five Wc Wd) from (by intro g kk hg; rw [hWd]; exact Below.heap_setCell _ _ _ _ (blk_ne hg MC.out.bq.br.at_ (by decide))))
            have MID := (show Hid (Mi w0 Wd B S D' (xs 2) (xs 3) k (xs' 0) (xs' 1) (xs' 2) (xs' 3) (xs' 4)) from MIC.out.five FD.out)
            have OD := (show Hid (Wd.ownsRow B 5 1 (.slice va n vc) n L) from own_keep OV.out (fun q e => by obtain ⟨c, hc⟩ := own_blk OV.out e; exact FD.out q c hc))
            have SG := (show Hid (∀ g, (Value.slice va n vc).ownBlock = some g → S g ∨ w0.heap.size ≤ g) from MI.out.ins _ (.inl (List.mem_of_getElem? HV.out.1)))
            have NN := (show Hid (n ≤ 1900000 ∧ L.length = n) from ⟨HV.out.2.2.1, by simpa using OV.out.1⟩)
            go_wp2_with fail
            rw [← hWd]
            clear hWd c0 c1 z1 d3 ct
            go_loopg [9] n (fun gg s9 wy => ∃ (i : Nat) (M : List Value), s9 = .int .i64 i ∧ i + gg = n ∧ Hid (wy.ownsRow B 5 1 (.slice va n vc) n (M ++ L.drop i)) ∧ Hid (M.length = i ∧ ∀ u ∈ M, Bv u) ∧ Hid (Ch (fun q => (Value.slice va n vc).ownBlock = some q) Wd wy) ∧ Hid (Ms w0 w wy bb B S rv xs csd rv' xs' t deep seen))
            case atStart => exact ⟨0, [], rfl, by omega, by simpa [Hid] using OD.out, ⟨rfl, fun u hu => by cases hu⟩, Ch.refl _ _, MD⟩
            case round =>
              obtain ⟨i, M, hs9, hi, OI, HMI, CI, MSI⟩ := hrel
              subst hs9
              by_cases hin : i < n
              · have q0 : (i : Int) < (n : Int) := by omega
                have HI : Hid (i < n ∧ i + gk = n) := ⟨hin, hi⟩
                obtain ⟨gv, hva⟩ : ∃ gv, va = some ⟨gv, 0, none⟩ := by
                  rcases OI.out.2 with ⟨q, h0⟩ | ⟨g, cap, cur, q, _⟩
                  · omega
                  · injection q with q1; exact ⟨g, q1⟩
                subst hva
                obtain ⟨x, hx⟩ : ∃ x : Int, wrap64 (mark + wrap64 (3 * (i : Int))) % 256 = x := ⟨_, rfl⟩
                have BX : Hid (Bv (.int .u8 x)) := ⟨x, rfl, by omega, by omega⟩
                have y1 := OI.out.cellAt i (by omega)
                have y2 := OI.out.frozenAt i
                have yl : (M ++ L.drop i)[i]? = some ((M ++ L.drop i)[i]'(by have := HMI.out.1; have := NN.out.2; simp; omega)) := List.getElem?_eq_getElem _
                rw [yl] at y1
                generalize (M ++ L.drop i)[i]'(by have := HMI.out.1; have := NN.out.2; simp; omega) = y0 at y1
                clear yl hin hi
                have hwi : IntKind.i64.wrap ((i : Int) + 1) = ((i + 1 : Nat) : Int) := by have := HI.out.1; have := NN.out.1; rw [IntKind.wrap_i64]; omega
                obtain ⟨cg, hcg⟩ := own_blk OI.out (k := gv) rfl
                have OI2 := (show Hid ((wr.setCell ⟨gv, i, none⟩ (.int .u8 x)).ownsRow B 5 1 (.slice (some ⟨gv, 0, none⟩) n vc) n ((M ++ [.int .u8 x]) ++ L.drop (i + 1))) from (by
                  have h := (OI.out.stored i (.int .u8 x)).1
                  have hm := HMI.out.1
                  have hl := NN.out.2
                  have hi := HI.out.1
                  have e : (M ++ L.drop i).set i (.int .u8 x) = (M ++ [.int .u8 x]) ++ L.drop (i + 1) := by
                    rw [List.set_append_right _ _ (by omega), hm, Nat.sub_self, List.drop_eq_getElem_cons (by omega : i < L.length), List.set_cons_zero, List.append_assoc]
                    rfl
                  rw [e] at h
                  exact h))
                have MS2 := (show Hid (Ms w0 w (wr.setCell ⟨gv, i, none⟩ (.int .u8 x)) bb B S rv xs csd rv' xs' t deep seen) from MSI.out.wr hcg (SG.out gv rfl) i _)
                have CI2 := (show Hid (Ch (fun q => (Value.slice (some ⟨gv, 0, none⟩) n vc).ownBlock = some q) Wd (wr.setCell ⟨gv, i, none⟩ (.int .u8 x))) from Ch.trans (S' := fun q => q = gv) CI.out (ch_set gv _ _) (fun j _ q => by subst q; rfl))
                clear hcg
                go_wp2_with fail
                (try rw [hx])
                go_roundg (n - (i + 1))
                all_goals first | (have := HI.out; omega) | exact ⟨i + 1, M ++ [.int .u8 x], rfl, by have := HI.out.1; omega, OI2, ⟨by have := HMI.out.1; simp; omega, fun u hu => by rcases List.mem_append.1 hu with hu | hu; exact HMI.out.2 u hu; simp at hu; subst hu; exact BX.out⟩, CI2, MS2⟩ | exact ⟨i + 1, M ++ [.int .u8 x], by simp, by have := HI.out.1; omega, OI2, ⟨by have := HMI.out.1; simp; omega, fun u hu => by rcases List.mem_append.1 hu with hu | hu; exact HMI.out.2 u hu; simp at hu; subst hu; exact BX.out⟩, CI2, MS2⟩
              · have hin' : i = n := by omega
                subst hin'
                have q0 : ¬ (i : Int) < (i : Int) := by omega
                obtain ⟨Wl, hWl⟩ : ∃ W, W = wr := ⟨_, rfl⟩
                subst hWl
                have OL := (show Hid (Wl.ownsRow B 5 1 (.slice va i vc) i M) from (by have h := OI.out; rw [List.drop_eq_nil_of_le (by rw [NN.out.2]; exact Nat.le_refl _), List.append_nil] at h; exact h))
                clear hin hi
                have cco := (MSI.out.bq.br.cell 0 (by decide)).1
                have BAo := (show Hid (Ms w0 w (Wl.alloc (.cells #[.slice va i vc] 22)) bb B S rv xs _ _ xs' t deep seen) from MSI.out.below ((Below.refl _ _).alloc (Nat.le_refl _) _))
                go_wp2_with (first | (at_builtin; refine wpList_bpush rfl (.tmp 151) (.tmp 153) 33 rfl BAo.out.bq.br 0 (by decide) Tryz.underlying33 rfl Wl.heap.size (.slice va i vc) rfl (heap_alloc_new Wl _) rfl (by have := MN.out.l0; have := HK.out.1; have := HNN.out; have := HN.out.2.2.2.2; omega) (by have := MSI.out.sz; have := HN.out.2.2.2.1; simp; omega) ?_) | fail)
                intro vo wo pu
                have PUo := (show Hid (Pu _ wo bb B _ _ xs' 0 (.slice va i vc) vo) from pu)
                obtain ⟨ao, no, ko, hvo⟩ := pu.sl
                clear pu
                subst hvo
                have cwo := (bk_cell PUo.out.bk (MSI.out.bq.br.fld 0 (by decide))).1
                have zwo := (bk_cell PUo.out.bk (MSI.out.bq.br.fld 0 (by decide))).2
                obtain ⟨Wo, hWo⟩ : ∃ W, W = wo.setCell ⟨bb, 4, none⟩ (.slice ao no ko) := ⟨_, rfl⟩
                obtain ⟨cso, rvo, xso, Mo, Xo⟩ : ∃ (c : Array Value) (r : Nat → Value) (y : Nat → List Value), Hid (Ms w0 w Wo bb B S rv xs c r y t deep seen) ∧ Hid (y = upd xs' 0 (xs' 0 ++ [.slice va i vc])) := ⟨_, _, _, (by show Ms _ _ _ _ _ _ _ _ _ _ _ _ _ _; rw [hWo]; exact BAo.out.push (by decide) PUo.out), (show _ = _ from rfl)⟩
                have Fo := (show Hid (Five Wl Wo) from (by
                  intro g kk hg
                  have e2 : (Wl.alloc (.cells #[.slice va i vc] 22)).heap[g]? = some (.cells kk 5 (0, 0)) := (((Below.refl Wl.heap.size Wl).alloc (Nat.le_refl _) _).block g (lt_of_block hg)).trans hg
                  rw [hWo]; exact (pu_five BAo.out.bq.br (by decide) PUo.out g kk e2).trans (e2.trans hg.symm)))
                have SZo := (show Hid (Wl.heap.size ≤ Wo.heap.size) from (by have h1 := PUo.out.gr.size; show _ ≤ _; rw [hWo]; simp [World.setCell] at h1 ⊢; omega))
                clear cco
                go_upto_region 22 with fail
                rw [← hWo]
                clear hWo cwo zwo
                have CLo := (show Hid (CL Wo va i vc M) from cl_of_own (own_keep OL.out (fun q e => by obtain ⟨c, hc⟩ := own_blk OL.out e; exact Fo.out q c hc)))
                have HM2 := (show Hid (∀ u ∈ M, Bv u) from HMI.out.2)
                have HX3 := (show Hid (xso 1 = xs' 1) from (by show _ = _; rw [Xo.out, upd_ne _ _ (by decide)]))
                have c7o := (Mo.out.bq.br.cell 1 (by decide)).1
                have BA3 : Hid (Below Wo.heap.size Wo (Wo.alloc (.cells #[] 5)).drew) := ((Below.refl _ _).alloc (Nat.le_refl _) _).drew
                have BR3a := (show Hid (Ms w0 w (Wo.alloc (.cells #[] 5)).drew bb B S rv xs cso rvo xso t deep seen) from Mo.out.below BA3.out)
                have c7a := (BR3a.out.bq.br.cell 1 (by decide)).1
                have HEo : Hid ((Wo.alloc (.cells #[] 5)).drew.heap[Wo.heap.size]? = some (.cells #[] 5 (0, 0))) := heap_alloc_new Wo _
                have HC3 : Hid (CL (Wo.alloc (.cells #[] 5)).drew va i vc M) := CLo.out.below BA3.out
                have SW : Hid (w0.heap.size ≤ Wo.heap.size) := Mo.out.bq.ch.size
                have N15 : Hid (i ≤ 2000000) := by have := NN.out.1; show _ ≤ _; omega
                have LT : Hid ((xso 1).length ≤ 1000000) := by show _ ≤ _; rw [HX3.out]; have := MIC.out.pd.1; have := MN.out.l0; have := HK.out.1; have := HNN.out; have := HN.out.2.2.2.2; omega
                have BW : Hid (B ≤ Wo.heap.size) := by have := Mo.out.sz; have := HN.out.2.2.2.1; show _ ≤ _; omega
                go_cut [] from 41 to 188 (fun wx => ∃ (a4 : Option Addr) (k4 : Nat) (c : Array Value) (r : Nat → Value) (y : Nat → List Value), Hid (Ms w0 w wx bb B S rv xs c r y t deep seen) ∧ Hid (y = upd xso 1 (xso 1 ++ [.slice a4 i k4])) ∧ Hid (Nl Wl wx a4 i k4 M) ∧ Hid (Five Wo wx))
                case first =>
                  first | go_region_law (first | (refine step_copy rfl (.tmp 162) (.tmp 163) rfl Wo.heap.size rfl HEo.out va i vc M rfl HC3.out (fun u hu => (HM2.out u hu).one) N15.out ?_; intro v4 w4 cp; have CP4 : Hid (Cp (Wo.alloc (.cells #[] 5)).drew w4 Wo.heap.size i M v4) := cp; obtain ⟨a4, k4, hv4⟩ : ∃ a c, v4 = .slice a i c := (by rcases cp.own.2 with ⟨q1, q2⟩ | ⟨g, cp', _, q1, _⟩; exact ⟨_, _, q2 ▸ q1⟩; exact ⟨_, _, q1⟩); clear cp; subst hv4; have BR4 : Hid (Ms w0 w w4 bb B S rv xs cso rvo xso t deep seen) := BR3a.out.copy HEo.out SW.out CP4.out; have c7b := (BR4.out.bq.br.cell 1 (by decide)).1; have BR4a : Hid (Ms w0 w (w4.alloc (.cells #[.slice a4 i k4] 22)) bb B S rv xs cso rvo xso t deep seen) := BR4.out.below ((Below.refl _ _).alloc (Nat.le_refl _) _); have c7c := (BR4a.out.bq.br.cell 1 (by decide)).1) | (refine step_bpush rfl (.tmp 161) (.tmp 165) 33 rfl BR4a.out.bq.br 1 (by decide) Tryz.underlying33 rfl w4.heap.size (.slice a4 i k4) rfl (heap_alloc_new w4 _) rfl LT.out (by have h1 := CP4.out.gr.size; have := BW.out; simp [World.drew] at h1 ⊢; omega) ?_; intro v5 w5 pu5; have PU5 : Hid (Pu (w4.alloc (.cells #[.slice a4 i k4] 22)) w5 bb B cso rvo xso 1 (.slice a4 i k4) v5) := pu5; obtain ⟨a5, n5, k5, hv5⟩ := pu5.sl; clear pu5; subst hv5; have c7d := (bk_cell PU5.out.bk (BR4a.out.bq.br.fld 1 (by decide))).1; have z7d := (bk_cell PU5.out.bk (BR4a.out.bq.br.fld 1 (by decide))).2) | go_simp) | fail
                  all_goals
                    go_wp2_with fail
                    go_meet
                    case rel =>
                      have fv : ∀ (g : Nat) (kk : Array Value), w4.heap[g]? = some (.cells kk 5 (0, 0)) → (w5.setCell ⟨bb, 4 + 1, none⟩ (.slice a5 n5 k5)).heap[g]? = w4.heap[g]? := fun g kk hg => by
                        have e2 : (w4.alloc (.cells #[.slice a4 i k4] 22)).heap[g]? = some (.cells kk 5 (0, 0)) := (((Below.refl w4.heap.size w4).alloc (Nat.le_refl _) _).block g (lt_of_block hg)).trans hg
                        exact (pu_five BR4a.out.bq.br (by decide) PU5.out g kk e2).trans (e2.trans hg.symm)
                      refine ⟨a4, k4, _, _, _, BR4a.out.push (by decide) PU5.out, (show _ = _ from rfl), (nl_of CP4.out SZo.out (Nat.le_trans SZo.out BA3.out.size)).keep fv, fun g kk hg => ?_⟩
                      have e1 := (BA3.out.block g (lt_of_block hg)).trans hg
                      have e2 : w4.heap[g]? = some (.cells kk 5 (0, 0)) := (CP4.out.gr.block g (lt_of_block e1) (fun q => by cases q; have := lt_of_block hg; omega)).trans e1
                      exact (fv g kk e2).trans (e2.trans hg.symm)
                case rest =>
                  clear c7o BA3 BR3a c7a HEo HC3
                  obtain ⟨Wt, rfl⟩ : ∃ W, W = wc := ⟨_, rfl⟩
                  obtain ⟨a4, k4, cst, rvt, xst, Mt, Xt, Nt, Ft⟩ := hcut
                  obtain ⟨DD2, MI2, DD3⟩ : ∃ D2, Hid (Mi w0 Wt B S D2 (xs 2) (xs 3) (k + 1) (xs' 0 ++ [.slice va i vc]) (xs' 1 ++ [.slice a4 i k4]) (xs' 2) (xs' 3) (xs' 4 ++ [.slice va i vc])) ∧ Hid (∀ g j, D g j → D2 g j) := by
                    obtain ⟨D2, h1, h2⟩ := MID.out.fresh HV.out.1 HV.out.2.1 HN.out.1.1.symm OL.out HM2.out NN.out.1 CI.out Nt.out (fun g kk hg => (Ft.out g kk ((Fo.out g kk hg).trans hg)).trans (Fo.out g kk hg)) MSI.out.bq.ch.size
                    exact ⟨D2, h1, fun g j q => h2 g j (DD.out g j q)⟩
                  have EX4 := (show Hid (xst = upd (upd xs' 0 (xs' 0 ++ [.slice va i vc])) 1 (xs' 1 ++ [.slice a4 i k4])) from (by show _ = _; rw [Xt.out, HX3.out, Xo.out]))
                  have ccf := (Mt.out.bq.br.cell 4 (by decide)).1
                  have BAf := (show Hid (Ms w0 w (Wt.alloc (.cells #[.slice va i vc] 22)) bb B S rv xs _ _ xst t deep seen) from Mt.out.below ((Below.refl _ _).alloc (Nat.le_refl _) _))
                  go_wp2_with (first | (at_builtin; refine wpList_bpush rfl (.tmp 173) (.tmp 175) 33 rfl BAf.out.bq.br 4 (by decide) Tryz.underlying33 rfl Wt.heap.size (.slice va i vc) rfl (heap_alloc_new Wt _) rfl (by rw [EX4.out, upd_ne _ _ (by decide), upd_ne _ _ (by decide)]; have := MN.out.l4; have := MN.out.m7; have := HK.out.1; have := HNN.out.2; omega) (by have := Mt.out.sz; have := HN.out.2.2.2.1; simp; omega) ?_) | fail)
                  intro vf wf pu
                  have PUf := (show Hid (Pu _ wf bb B _ _ xst 4 (.slice va i vc) vf) from pu)
                  obtain ⟨af, nf, kf, hvf⟩ := pu.sl
                  clear pu
                  subst hvf
                  have cwf := (bk_cell PUf.out.bk (Mt.out.bq.br.fld 4 (by decide))).1
                  have zwf := (bk_cell PUf.out.bk (Mt.out.bq.br.fld 4 (by decide))).2
                  obtain ⟨Wf, hWf⟩ : ∃ W, W = wf.setCell ⟨bb, 8, none⟩ (.slice af nf kf) := ⟨_, rfl⟩
                  obtain ⟨csf, rvf, xsf, Mf, Xf⟩ : ∃ (c : Array Value) (r : Nat → Value) (y : Nat → List Value), Hid (Ms w0 w Wf bb B S rv xs c r y t deep seen) ∧ Hid (y = upd xst 4 (xst 4 ++ [.slice va i vc])) := ⟨_, _, _, (by show Ms _ _ _ _ _ _ _ _ _ _ _ _ _ _; rw [hWf]; exact BAf.out.push (by decide) PUf.out), (show _ = _ from rfl)⟩
                  have Ff := (show Hid (Five Wt Wf) from (by
                    intro g kk hg
                    have e2 : (Wt.alloc (.cells #[.slice va i vc] 22)).heap[g]? = some (.cells kk 5 (0, 0)) := (((Below.refl Wt.heap.size Wt).alloc (Nat.le_refl _) _).block g (lt_of_block hg)).trans hg
                    rw [hWf]; exact (pu_five BAf.out.bq.br (by decide) PUf.out g kk e2).trans (e2.trans hg.symm)))
                  have SZf := (show Hid (Wt.heap.size ≤ Wf.heap.size) from (by have h1 := PUf.out.gr.size; show _ ≤ _; rw [hWf]; simp [World.setCell] at h1 ⊢; omega))
                  clear ccf
                  go_upto_region 24 with fail
                  rw [← hWf]
                  clear hWf cwf zwf
                  have cch := (Mf.out.bq.br.cell 7 (by decide)).1
                  have BAh := (show Hid (Ms w0 w (Wf.alloc (.cells #[.int .i64 mark] 3)) bb B S rv xs _ _ xsf t deep seen) from Mf.out.below ((Below.refl _ _).alloc (Nat.le_refl _) _))
                  go_wp2_with (first | (at_builtin; refine wpList_bpush rfl (.tmp 183) (.tmp 185) 26 rfl BAh.out.bq.br 7 (by decide) Tryz.underlying26 rfl Wf.heap.size (.int .i64 mark) rfl (heap_alloc_new Wf _) rfl (by rw [Xf.out, upd_ne _ _ (by decide)]; rw [EX4.out, upd_ne _ _ (by decide), upd_ne _ _ (by decide)]; have := MN.out.l4; have := MN.out.m7; have := HK.out.1; have := HNN.out.2; omega) (by have := Mf.out.sz; have := HN.out.2.2.2.1; simp; omega) ?_) | fail)
                  intro vh wh pu
                  have PUh := (show Hid (Pu _ wh bb B _ _ xsf 7 (.int .i64 mark) vh) from pu)
                  obtain ⟨ah, nh, kh, hvh⟩ := pu.sl
                  clear pu
                  subst hvh
                  have cwh := (bk_cell PUh.out.bk (Mf.out.bq.br.fld 7 (by decide))).1
                  have zwh := (bk_cell PUh.out.bk (Mf.out.bq.br.fld 7 (by decide))).2
                  obtain ⟨Wh, hWh⟩ : ∃ W, W = wh.setCell ⟨bb, 11, none⟩ (.slice ah nh kh) := ⟨_, rfl⟩
                  obtain ⟨csh, rvh, xsh, Mh, Xh⟩ : ∃ (c : Array Value) (r : Nat → Value) (y : Nat → List Value), Hid (Ms w0 w Wh bb B S rv xs c r y t deep seen) ∧ Hid (y = upd xsf 7 (xsf 7 ++ [.int .i64 mark])) := ⟨_, _, _, (by show Ms _ _ _ _ _ _ _ _ _ _ _ _ _ _; rw [hWh]; exact BAh.out.push (by decide) PUh.out), (show _ = _ from rfl)⟩
                  have Fh := (show Hid (Five Wf Wh) from (by
                    intro g kk hg
                    have e2 : (Wf.alloc (.cells #[.int .i64 mark] 3)).heap[g]? = some (.cells kk 5 (0, 0)) := (((Below.refl Wf.heap.size Wf).alloc (Nat.le_refl _) _).block g (lt_of_block hg)).trans hg
                    rw [hWh]; exact (pu_five BAh.out.bq.br (by decide) PUh.out g kk e2).trans (e2.trans hg.symm)))
                  have SZh := (show Hid (Wf.heap.size ≤ Wh.heap.size) from (by have h1 := PUh.out.gr.size; show _ ≤ _; rw [hWh]; simp [World.setCell] at h1 ⊢; omega))
                  clear cch
                  have hwk : IntKind.i64.wrap ((k : Int) + 1) = ((k + 1 : Nat) : Int) := by have := HNN.out.2; have := HK.out.1; rw [IntKind.wrap_i64]; omega
                  have FIN : Hid (Mi w0 Wh B S DD2 (xs 2) (xs 3) (k + 1) (xsh 0) (xsh 1) (xsh 2) (xsh 3) (xsh 4) ∧ Mn xs xsh (k + 1)) := by
                    have EX : xsh = upd (upd (upd (upd xs' 0 (xs' 0 ++ [.slice va i vc])) 1 (xs' 1 ++ [.slice a4 i k4])) 4 (xs' 4 ++ [.slice va i vc])) 7 (xs' 7 ++ [.int .i64 mark]) := by
                      rw [Xh.out, Xf.out, EX4.out]
                      simp [upd]
                    have h1 := (MI2.out.five Ff.out).five Fh.out
                    have m := MN.out
                    rw [EX]
                    refine ⟨by simpa [upd] using h1, ⟨?_, ?_, ?_, ?_, ?_, ?_, ?_, ?_, ?_, ?_, ?_⟩⟩
                    · have := m.m5; simp [upd]; omega
                    · have := m.m6; simp [upd]; omega
                    · have := m.m7; simp [upd]; omega
                    · intro u hu; exact m.i5 u (by simpa [upd] using hu)
                    · intro u hu; exact m.i6 u (by simpa [upd] using hu)
                    · intro u hu
                      rcases List.mem_append.1 (by simpa [upd] using hu : u ∈ xs' 7 ++ [.int .i64 mark]) with q | q
                      · exact m.i7 u q
                      · simp at q; exact ⟨_, q⟩
                    · have := m.l2; simp [upd]; omega
                    · have := m.l4; simp [upd]; omega
                    · have := m.l0; simp [upd]; omega
                    · have := m.l24; simp [upd]; omega
                    · have := m.l04; simp [upd]; omega
                  subst hWh
                  go_wp2_with fail
                  go_roundg (N - (k + 1))
                  all_goals first | (have := HK.out; omega) | exact ⟨k + 1, DD2, _, _, _, rfl, by have := HK.out.1; omega, Mh, FIN.out.1, DD3, FIN.out.2⟩ | exact ⟨k + 1, DD2, _, _, _, by simp, by have := HK.out.1; omega, Mh, FIN.out.1, DD3, FIN.out.2⟩
      · have hk0 : k = N := by omega
        subst hk0
        have p0 : ¬ ((k : Nat) : Int) < (k : Int) := by omega
        go_wp2_with fail
        go_end0
        refine ⟨rfl, D', cs', rv', xs', MS.out.bq, ?_, DD.out, ?_⟩
        · have := MI.out; rw [HNN.out.1] at this; exact this
        · have := MN.out; rw [HNN.out.1] at this; exact this
end Go.Proofs.YtphofgnehdlafaaGreatDoor.Bk
