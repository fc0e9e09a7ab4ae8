import Derived.Test.YtipagdhoeocjeaaGreatRga
import Derived.Laws.IdiomStrings
namespace Go.Proofs.YtipagdhoeocjeaaGreat.Li
open Go Go.RowKit Go.Shelf
set_option linter.unusedSimpArgs false
set_option linter.unusedVariables false
/-- How far the law's counting has come. -/
structure CJ (W : World) (f : ByteArray) (l : List Ml) (i c : Nat) (wx : World) : Prop where
  be : Below W.heap.size W wx
  cnt : c + (goods f ((mm l).drop i)).length = (goods f (mm l)).length
theorem CJ.skip {W wx w' : World} {f : ByteArray} {l : List Ml} {i c : Nat} {s : Ml} (h : CJ W f l i c wx) (hs : l[i]? = some s) (hg : goodB f s.1 ((mm l).drop (i + 1)) = false) (hb : Below wx.heap.size wx w') : CJ W f l (i + 1) c w' := by
  refine ⟨h.be.trans (hb.mono h.be.size), ?_⟩
  have := goods_step (f := f) (mm_get hs)
  rw [hg] at this
  have h2 := h.cnt
  simp at this
  omega
theorem CJ.more {W wx w' : World} {f : ByteArray} {l : List Ml} {i c : Nat} {s : Ml} (h : CJ W f l i c wx) (hs : l[i]? = some s) (hg : goodB f s.1 ((mm l).drop (i + 1)) = true) (hb : Below wx.heap.size wx w') : CJ W f l (i + 1) (c + 1) w' := by
  refine ⟨h.be.trans (hb.mono h.be.size), ?_⟩
  have := goods_step (f := f) (mm_get hs)
  rw [hg] at this
  have h2 := h.cnt
  simp at this
  omega
theorem good_no {f : ByteArray} {z : Msg} {r : List Msg} (h : ¬ Rig z) : goodB f z r = false := by
  unfold goodB
  rw [decide_eq_false h]
  rfl
set_option maxRecDepth 100000 in
set_option maxHeartbeats 16000000 in
theorem findsL_any (KNO : ∀ w, Calls Tryz.prog 6 #[] w fun e w' => e = .returned (.bool true) ∧ Below w.heap.size w w') {w : World} {v : Value} {l : List Ml} {f : ByteArray} (h : MsIn w v l) (hx : ∀ s ∈ l, s.1.t.size ≤ 140737488355328 ∧ s.1.xs.length ≤ 140737488355328) (hbig : l.length ≤ 140737488355328) :
    Calls Tryz.prog 4 #[v, .string f] w fun e w' => e = .returned (.bool true) ∧ Below w.heap.size w w' := by
  obtain ⟨a, n, cap, rfl, hn, hc, -⟩ := h.ex
  have SM := hidi (small_any h hx hbig)
  have KN := hidi KNO
  have LD := hidi (fun (w1 : World) (hb : Below w.heap.size w w1) (h60 : l.length ≤ 60) (hs : sumM l ≤ 60000) => laid_any (h.below hb) (by omega) (fun s hs' => by have := (sumM_mem hs').2; omega))
  have FD := hidi (fun (w3 : World) (tb : Nat) => find19_any (w := w3) tb f)
  have GV := hidi (fun (w2 w3 w4 : World) (tb r : Nat) (x y : Nat) (hb : Below w.heap.size w w2) (b23 : Below w3.heap.size w3 w4) (h60 : l.length ≤ 60) (ld : LdR w2 w3 tb r l.length (holdM (l.map (·.1)))) (hxx : w4.heap[x]? = some (.cells #[ptr tb] 25 (0, 0))) (hyy : w4.heap[y]? = some (.cells #[.string f] 9 (0, 0))) => (show Calls Tryz.prog 12 #[.func (.func 36) #[] #[ptr x, ptr y], .int .i64 0] w4 fun e W => ∃ v2 X, e = .returned (.tuple #[v2, .bool true]) ∧ LW W f (.slice a n cap) v2 l X ∧ Below w.heap.size w W from by
    obtain ⟨⟨T, nf, t1, t2, t3⟩, be⟩ := ld
    have tw := tw_of t1 h60 b23
    refine (givenF_any tw f hxx hyy).mono ?_
    rintro e W ⟨v2, X, rfl, gv⟩
    have b2W := be.trans (b23.mono be.size)
    have bW := (hb.trans (b2W.mono hb.size)).trans (gv.be.mono (hb.trans (b2W.mono hb.size)).size)
    exact ⟨v2, X, rfl, lw_of tw t2 (h.below bW) gv h60, bW⟩))
  have HN := hidi (And.intro hn hc)
  unfold ptr at *
  clear h hx hbig hn hc KNO
  by_cases hf : f.size ≤ 60000
  case neg =>
    have f1 : (60000 : Int) < f.size := by omega
    have f2 : (f.size : Int) > 60000 := by omega
    have d1 : decide ((60000 : Int) < f.size) = true := decide_eq_true f1
    go_enter Tryz.func4, Tryz.ntmps4
    go_wp2_with (go_at_call 5; refine SM.out.mono ?_; rintro e w1 ⟨b, rfl, sm, hb⟩; have B1 := hidi hb; clear sm hb SM; cases b)
    all_goals go_wp2_with fail
    all_goals go_ret
    all_goals exact ⟨rfl, B1.out⟩
  have f1 : ¬ (60000 : Int) < f.size := by omega
  have f2 : ¬ (f.size : Int) > 60000 := by omega
  have d1 : decide ((60000 : Int) < f.size) = false := decide_eq_false f1
  clear hf
  go_enter Tryz.func4, Tryz.ntmps4
  go_upto_region 1 with fail
  go_wp2_with (go_at_call 5; refine SM.out.mono ?_; rintro e w1 ⟨b, rfl, sm, hb⟩; have B1 := hidi hb; have S1 := hidi sm; clear sm hb SM; cases b)
  all_goals go_wp2_with fail
  · go_ret
    exact ⟨rfl, B1.out⟩
  ·
    have S2 := hidi (S1.out rfl)
    clear S1
    go_upto_region 9 with (first
      | (go_at_call 6; refine (KN.out _).mono ?_; rintro e w2 ⟨rfl, hb⟩; have B2 := hidi (B1.out.trans (hb.mono B1.out.size)); have LD2 := hidi (LD.out w2 B2.out S2.out.1 S2.out.2); unfold ptr at LD2; clear hb KN LD)
      | (go_at_call 7; refine LD2.out.mono ?_; rintro e w3 ⟨tb, r, rfl, ld⟩; have L3 := hidi ld; clear ld LD2; have FD3 := hidi (FD.out w3 tb); unfold ptr at FD3)
      | (go_at_call 19; refine FD3.out.mono ?_; rintro e w4 ⟨bx, by_, rfl, y1, y2, hb⟩; have GV4 := hidi (GV.out w2 w3 w4 tb r bx by_ B2.out hb S2.out.1 L3.out y1 y2); clear y1 y2 hb FD3 GV FD L3)
      | (go_at_call 12; refine GV4.out.mono ?_; rintro e W ⟨v2, X, rfl, lw, hb⟩; have LW_ := hidi lw; have BW := hidi hb; clear lw hb GV4))
    obtain ⟨a2, n2, c2, rfl, hn2, hc2, -⟩ := LW_.out.b.ex
    have HM := hidi (And.intro hn2 (And.intro hc2 (And.intro LW_.out.n60 LW_.out.m60)))
    have C0 : Hid (CJ W f l 0 0 W) := ⟨Below.refl _ _, by simp⟩
    clear hn2 hc2 S2 B2 B1 d1 f1 f2
    go_wp2_with fail
    go_loopg [9, 10, 11, 12, 13, 14, 15] n (fun gg s9 s10 s11 s12 s13 s14 s15 wx => ∃ i c : Nat, i ≤ n ∧ gg = n - i ∧ s9 = .int .i64 c ∧ s10 = .int .i64 i ∧ Hid (CJ W f l i c wx))
    case atStart => exact ⟨0, 0, Nat.zero_le _, rfl, rfl, rfl, C0⟩
    case round =>
      obtain ⟨i, c, hi, rfl, rfl, rfl, J⟩ := hrel
      by_cases hlt : i < n
      · have hlt' : (i : Int) < n := by omega
        obtain ⟨s, hs⟩ : ∃ s, l[i]? = some s := ⟨_, List.getElem?_eq_getElem (by have := HN.out.1; omega)⟩
        obtain ⟨g, o, rfl⟩ := LW_.out.a.at_ hs
        have FO := hidi (four LW_.out.a hs)
        obtain ⟨x1, x2, x3, x4⟩ := FO.out wr J.out.be
        have hpr := LW_.out.a.pr s (List.mem_of_getElem? hs)
        have HS := hidi hs
        obtain ⟨m, sv⟩ := s
        obtain ⟨pa, pc, hpv, -⟩ := hpr.sl
        have hpv : sv = .slice pa m.xs.length pc := hpv
        obtain ⟨px, hpx⟩ : ∃ px, px = m.xs.length := ⟨_, rfl⟩
        rw [← hpx] at hpv
        subst hpv
        simp only at x1 x2 x3 x4
        have hw : IntKind.i64.wrap ((i : Int) + 1) = (i : Int) + 1 := by rw [IntKind.wrap_i64]; have := HN.out; have := HM.out; omega
        have hcap := HN.out.2
        clear hpr hpx hs
        have TC := hidi (fun (w : World) => tcheck_any m.t w)
        have hbox := heap_alloc_new wr (.cells #[.string m.t, .slice pa px pc, .int .i64 m.q, .bool m.r] 30)
        have BA := hidi (show Below wr.heap.size wr (wr.alloc (.cells #[.string m.t, .slice pa px pc, .int .i64 m.q, .bool m.r] 30)) from (Below.refl _ _).alloc (Nat.le_refl _) _)
        have BX := hidi (fun (w1 : World) (hb : Below (wr.alloc (.cells #[.string m.t, .slice pa px pc, .int .i64 m.q, .bool m.r] 30)).heap.size (wr.alloc (.cells #[.string m.t, .slice pa px pc, .int .i64 m.q, .bool m.r] 30)) w1) => later_at hbox hb)
        clear hbox
        by_cases hR : Rig m
        · obtain ⟨ht, q0, q2⟩ := hR
          have TC0 : Hid (∀ w, Calls Tryz.prog 20 #[.string m.t] w fun e w' => e = .returned (.int .i64 0) ∧ Below w.heap.size w w') := by
            have := TC.out
            rw [ht] at this
            exact this
          have HRG := hidi (show Rig m from ⟨ht, q0, q2⟩)
          have d0 : decide (m.q < 0) = false := decide_eq_false (by omega)
          have d2 : decide (2 < m.q) = false := decide_eq_false (by omega)
          have L0 := hidi (show i + 1 ≤ n from hlt)
          clear ht q0 q2 TC
          go_wp2_with (go_at_call 20; refine (TC0.out _).mono ?_; rintro e w1 ⟨rfl, hb⟩; have YB := hidi (BX.out w1 hb); have b2 := box_cells YB.out 2 _ rfl; have B1 := hidi (BA.out.trans (hb.mono BA.out.size)); clear hb TC0 BX BA)
          clear b2 d0 d2 x1 x2 x3 x4
          go_loopg [12, 13] (n - (i + 1)) (fun g2 s12 s13 wy => ∃ (k : Nat) (b : Bool), i + 1 ≤ k ∧ k ≤ n ∧ g2 = n - k ∧ s12 = .bool b ∧ s13 = .int .i64 k ∧ Hid (Below w1.heap.size w1 wy) ∧ Hid (lastB m ((mm l).drop (i + 1)) = (b && lastB m ((mm l).drop k))))
          case atStart => exact ⟨i + 1, true, Nat.le_refl _, L0.out, rfl, rfl, by simp, Below.refl _ _, by show _ = _; rw [Bool.true_and]⟩
          case round =>
            obtain ⟨k, b, hik, hk, rfl, rfl, rfl, BY, HB⟩ := hrel
            have JW := hidi (J.out.be.trans ((B1.out.trans (BY.out.mono B1.out.size)).mono J.out.be.size))
            have YB2 := hidi (later_at YB.out BY.out)
            have z0 := box_cells YB2.out 0 _ rfl
            by_cases hkn : k < n
            · have hkn' : (k : Int) < n := by omega
              obtain ⟨y, hy⟩ : ∃ y, l[k]? = some y := ⟨_, List.getElem?_eq_getElem (by have := HN.out.1; omega)⟩
              obtain ⟨y1, y2, y3, y4⟩ := four LW_.out.a hy wr JW.out
              have LS := hidi (last_step (z := m) (mm_get hy))
              have hwk : IntKind.i64.wrap ((k : Int) + 1) = (k : Int) + 1 := by rw [IntKind.wrap_i64]; have := HN.out; have := HM.out; omega
              clear hy y2 y4
              have hq : ∀ (b' : Bool), b' = (b && !sameT m y.1) → Hid (lastB m ((mm l).drop (i + 1)) = (b' && lastB m ((mm l).drop (k + 1)))) := fun b' e => by
                show _ = _
                rw [HB.out, LS.out, e, Bool.and_assoc]
              cases b with
              | false =>
                have NX := hq false rfl
                clear hq LS HB y1 y3
                go_wp2_with fail
                go_quiet (fail)
                go_wp2_with fail
                go_roundg (n - (k + 1))
                case measure => omega
                case rel => exact ⟨k + 1, false, by omega, by omega, rfl, rfl, by simp, below_drewN BY.out, NX⟩
              | true =>
                by_cases he : y.1.t = m.t
                · have e1 : (y.1.t.toList == m.t.toList) = true := by rw [teq]; exact decide_eq_true he
                  by_cases p0 : 0 ≤ y.1.q
                  · have e2 : decide (0 ≤ y.1.q) = true := decide_eq_true p0
                    have e2' : y.1.q ≥ 0 := p0
                    by_cases p2 : y.1.q ≤ 2
                    · have e3 : decide (y.1.q ≤ 2) = true := decide_eq_true p2
                      have NX := hq false (by unfold sameT; rw [decide_eq_true he, e2, e3]; rfl)
                      clear hq LS HB he
                      go_wp2_with fail
                      go_quiet (fail)
                      go_wp2_with fail
                      go_roundg (n - (k + 1))
                      case measure => omega
                      case rel => exact ⟨k + 1, false, by omega, by omega, rfl, rfl, by simp, below_drewN BY.out, NX⟩
                    · have e3 : decide (y.1.q ≤ 2) = false := decide_eq_false p2
                      have NX := hq true (by unfold sameT; rw [e3]; simp)
                      clear hq LS HB he
                      go_wp2_with fail
                      go_quiet (fail)
                      go_wp2_with fail
                      go_roundg (n - (k + 1))
                      case measure => omega
                      case rel => exact ⟨k + 1, true, by omega, by omega, rfl, rfl, by simp, below_drewN BY.out, NX⟩
                  · have e2 : decide (0 ≤ y.1.q) = false := decide_eq_false p0
                    have e2' : ¬ y.1.q ≥ 0 := p0
                    have NX := hq true (by unfold sameT; rw [e2]; simp)
                    clear hq LS HB he
                    go_wp2_with fail
                    go_quiet (fail)
                    go_wp2_with fail
                    go_roundg (n - (k + 1))
                    case measure => omega
                    case rel => exact ⟨k + 1, true, by omega, by omega, rfl, rfl, by simp, below_drewN BY.out, NX⟩
                · have e1 : (y.1.t.toList == m.t.toList) = false := by rw [teq]; exact decide_eq_false he
                  have NX := hq true (by unfold sameT; rw [decide_eq_false he]; simp)
                  clear hq LS HB he
                  go_wp2_with fail
                  go_quiet (fail)
                  go_wp2_with fail
                  go_roundg (n - (k + 1))
                  case measure => omega
                  case rel => exact ⟨k + 1, true, by omega, by omega, rfl, rfl, by simp, below_drewN BY.out, NX⟩
            · have hkn' : ¬ (k : Int) < n := by omega
              have LE := hidi (show lastB m ((mm l).drop (i + 1)) = b from by
                rw [HB.out, last_end (by rw [mm_len]; have := HN.out; omega), Bool.and_true])
              have GD := hidi (show goodB f m ((mm l).drop (i + 1)) = (b && mch f m.t) from by
                unfold goodB
                rw [LE.out, decide_eq_true HRG.out, Bool.true_and])
              have BR := hidi (B1.out.trans (BY.out.mono B1.out.size))
              clear HB LE
              cases b with
              | false =>
                go_wp2_with fail
                go_roundg (n - (i + 1))
                case measure => omega
                case rel => exact ⟨i + 1, c, by omega, rfl, rfl, by simp, J.out.skip HS.out GD.out BR.out⟩
              | true =>
                have MT := hidi (fun (w : World) => tmatch_any f m.t w)
                obtain ⟨mb, hmb⟩ : ∃ mb, mb = mch f m.t := ⟨_, rfl⟩
                rw [← hmb] at MT GD
                clear hmb
                cases mb with
                | false =>
                  go_wp2_with (go_at_call 21; refine (MT.out _).mono ?_; rintro e w3 ⟨rfl, hb⟩; have B3 := hidi (BR.out.trans (hb.mono BR.out.size)); clear hb MT)
                  go_roundg (n - (i + 1))
                  case measure => omega
                  case rel => exact ⟨i + 1, c, by omega, rfl, rfl, by simp, J.out.skip HS.out GD.out B3.out⟩
                | true =>
                  have c60 := hidi (show c ≤ 60 from by
                    have h1 := J.out.cnt
                    have h2 := LW_.out.len
                    have h3 := LW_.out.m60
                    omega)
                  have hwc : IntKind.i64.wrap ((c : Int) + 1) = (c : Int) + 1 := by rw [IntKind.wrap_i64]; have := c60.out; omega
                  go_wp2_with (go_at_call 21; refine (MT.out _).mono ?_; rintro e w3 ⟨rfl, hb⟩; have B3 := hidi (BR.out.trans (hb.mono BR.out.size)); clear hb MT)
                  clear z0
                  go_loopg [14, 15] n2 (fun g3 s14 s15 wz => ∃ (j : Nat) (b : Bool), j ≤ n2 ∧ g3 = n2 - j ∧ s14 = .bool b ∧ s15 = .int .i64 j ∧ Hid (Below w3.heap.size w3 wz) ∧ Hid (b = false → ∀ q, q < j → (mm X)[q]? ≠ some m))
                  case atStart => exact ⟨0, false, Nat.zero_le _, rfl, rfl, rfl, Below.refl _ _, fun _ q hq => absurd hq (Nat.not_lt_zero q)⟩
                  case round =>
                    obtain ⟨j, b, hj, rfl, rfl, rfl, BZ, HZ⟩ := hrel
                    have JZ := hidi (B3.out.trans (BZ.out.mono B3.out.size))
                    by_cases hjn : j < n2
                    · have hjn' : (j : Int) < n2 := by omega
                      have hwj : IntKind.i64.wrap ((j : Int) + 1) = (j : Int) + 1 := by rw [IntKind.wrap_i64]; have := HM.out; omega
                      cases b with
                      | true =>
                        go_wp2_with fail
                        go_quiet (fail)
                        go_wp2_with fail
                        go_roundg (n2 - (j + 1))
                        case measure => omega
                        case rel => exact ⟨j + 1, true, by omega, rfl, rfl, by simp, below_drewN BZ.out, fun c => by cases c⟩
                      | false =>
                        obtain ⟨y, hy⟩ : ∃ y, X[j]? = some y := ⟨_, List.getElem?_eq_getElem (by have := HM.out.1; omega)⟩
                        obtain ⟨g2, o2, rfl⟩ := LW_.out.b.at_ hy
                        have hcj : (if c2 = j then (some ⟨g2, o2, none⟩ : Option Addr) else some ⟨g2, o2 + j * 4, none⟩) = some ⟨g2, o2 + j * 4, none⟩ := if_neg (by have := HM.out.2.1; omega)
                        have hci : (if cap = i then (some ⟨g, o, none⟩ : Option Addr) else some ⟨g, o + i * 4, none⟩) = some ⟨g, o + i * 4, none⟩ := if_neg (by have := HN.out.2; omega)
                        have e1 : ¬ c2 = j := by have := HM.out.2.1; omega
                        have e2 : ¬ cap = i := by have := HN.out.2; omega
                        have e3 : ¬ c2 - j = 0 := by have := HM.out.2.1; omega
                        have e4 : ¬ cap - i = 0 := by have := HN.out.2; omega
                        have i1 : (j : Int) ≤ (j : Int) + 1 := by omega
                        have i2 : (j : Int) + 1 ≤ c2 := by have := HM.out.2.1; omega
                        have i3 : (0 : Int) ≤ j := by omega
                        have i4 : (i : Int) ≤ (i : Int) + 1 := by omega
                        have i5 : (i : Int) + 1 ≤ cap := by have := HN.out.2; omega
                        have i6 : (0 : Int) ≤ i := by omega
                        have SS := hidi (fun (w4 : World) (hb : Below wr.heap.size wr w4) => (show Calls Tryz.prog 14 #[.slice (some ⟨g2, o2 + j * 4, none⟩) 1 (c2 - j), .slice (some ⟨g, o + i * 4, none⟩) 1 (cap - i)] w4 fun e w' => ∃ b, e = .returned (.bool b) ∧ (b = false → ∀ q, q < j + 1 → (mm X)[q]? ≠ some m) ∧ Below w4.heap.size w4 w' from by
                          have bb := J.out.be.trans ((JZ.out.trans (hb.mono JZ.out.size)).mono J.out.be.size)
                          refine (smsgs_any ((LW_.out.b.sub hy).below bb) ((LW_.out.a.sub HS.out).below bb) (by simp)).mono ?_
                          rintro e w' ⟨b, rfl, hb1, hb2⟩
                          refine ⟨b, rfl, fun c q hq e => ?_, hb2⟩
                          by_cases d : q = j
                          · rw [d, mm_get hy] at e
                            injection e with e
                            have := hb1.2 (by unfold mm; simp [e])
                            rw [c] at this
                            cases this
                          · exact HZ.out rfl q (by omega) e))
                        clear hy
                        go_upto_region 26 with fail
                        have DZ := hidi ((Below.refl wr.heap.size wr).drew)
                        refine wp_region_held_drew (S := fun _ => True) (by kernel_rfl) trivial (fun hHeld => ?_)
                        change wpAnyH _ _ _ _ _ 15 #[false, false, false, false, false, false, false, false, false, false, false, false, false, false, false] _ (World.drew _)
                        refine wpAnyH_take (i := 0) (oi := { dst := some 118, op := Go.Op.move (Go.Operand.tmp 14), type := 4, pos := "outright.go:129", after := #[], guard := none }) (v := .bool false) rfl (by kernel_rfl) (by kernel_rfl) (by kernel_rfl) (fun _ _ _ h => h) (Or.inl ⟨by kernel_rfl, fun wq _ => pureVal_run (by kernel_rfl) wq⟩) hHeld ?_
                        simp only [Act.put, List.setIfInBounds_toArray, List.set_cons_zero, List.set_cons_succ]
                        refine wpAnyH_take (i := 1) (oi := { dst := some 119, op := Go.Op.move (Go.Operand.tmp 118), type := 4, pos := "outright.go:129", after := #[{ on := 0, ground := Go.Ground.data }], guard := none }) (v := .bool false) rfl (by kernel_rfl) (by kernel_rfl) (by kernel_rfl) (fun _ _ _ h => h) (Or.inl ⟨by kernel_rfl, fun wq _ => pureVal_run (by kernel_rfl) wq⟩) hHeld ?_
                        simp only [Act.put, List.setIfInBounds_toArray, List.set_cons_zero, List.set_cons_succ]
                        refine wpAnyH_take (i := 2) (oi := { dst := some 120, op := Go.Op.move (Go.Operand.tmp 7), type := 22, pos := "outright.go:129", after := #[{ on := 1, ground := Go.Ground.guard }], guard := some (1, false) }) (v := .slice (some ⟨g2, o2, none⟩) n2 c2) rfl (by kernel_rfl) (by kernel_rfl) (by kernel_rfl) (fun _ _ _ h => h) (Or.inl ⟨by kernel_rfl, fun wq _ => pureVal_run (by kernel_rfl) wq⟩) hHeld ?_
                        simp only [Act.put, List.setIfInBounds_toArray, List.set_cons_zero, List.set_cons_succ]
                        refine wpAnyH_take (i := 3) (oi := { dst := some 121, op := Go.Op.move (Go.Operand.tmp 15), type := 3, pos := "outright.go:129", after := #[{ on := 1, ground := Go.Ground.guard }], guard := some (1, false) }) (v := .int .i64 j) rfl (by kernel_rfl) (by kernel_rfl) (by kernel_rfl) (fun _ _ _ h => h) (Or.inl ⟨by kernel_rfl, fun wq _ => pureVal_run (by kernel_rfl) wq⟩) hHeld ?_
                        simp only [Act.put, List.setIfInBounds_toArray, List.set_cons_zero, List.set_cons_succ]
                        refine wpAnyH_take (i := 4) (oi := { dst := some 122, op := Go.Op.move (Go.Operand.tmp 15), type := 3, pos := "outright.go:129", after := #[{ on := 1, ground := Go.Ground.guard }], guard := some (1, false) }) (v := .int .i64 j) rfl (by kernel_rfl) (by kernel_rfl) (by kernel_rfl) (fun _ _ _ h => h) (Or.inl ⟨by kernel_rfl, fun wq _ => pureVal_run (by kernel_rfl) wq⟩) hHeld ?_
                        simp only [Act.put, List.setIfInBounds_toArray, List.set_cons_zero, List.set_cons_succ]
                        refine wpAnyH_take (i := 5) (oi := { dst := some 123, op := Go.Op.binOp Go.BinOp.add 3 (Go.Operand.tmp 122) (Go.Operand.const (Go.Value.int Go.IntKind.i64 1)) 3, type := 3, pos := "outright.go:129", after := #[{ on := 4, ground := Go.Ground.data }, { on := 1, ground := Go.Ground.guard }], guard := some (1, false) }) (v := .int .i64 ((j : Int) + 1)) rfl (by kernel_rfl) (by kernel_rfl) (by kernel_rfl) (fun _ _ _ h => h) (Or.inl ⟨by kernel_rfl, by intro wq hSw; clear hSw hHeld; go_simp⟩) hHeld ?_
                        simp only [Act.put, List.setIfInBounds_toArray, List.set_cons_zero, List.set_cons_succ]
                        refine wpAnyH_take (i := 6) (oi := { dst := some 124, op := Go.Op.slice 22 (Go.Operand.tmp 120) (some (Go.Operand.tmp 121)) (some (Go.Operand.tmp 123)) none, type := 22, pos := "outright.go:129", after := #[{ on := 2, ground := Go.Ground.data }, { on := 3, ground := Go.Ground.data }, { on := 5, ground := Go.Ground.data }, { on := 1, ground := Go.Ground.guard }], guard := some (1, false) }) (v := .slice (some ⟨g2, o2 + j * 4, none⟩) 1 (c2 - j)) rfl (by kernel_rfl) (by kernel_rfl) (by kernel_rfl) (fun _ _ _ h => h) (Or.inl ⟨by kernel_rfl, by intro wq hSw; clear hSw hHeld; go_simp⟩) hHeld ?_
                        simp only [Act.put, List.setIfInBounds_toArray, List.set_cons_zero, List.set_cons_succ]
                        refine wpAnyH_take (i := 7) (oi := { dst := some 125, op := Go.Op.move (Go.Operand.tmp 0), type := 22, pos := "outright.go:129", after := #[{ on := 1, ground := Go.Ground.guard }], guard := some (1, false) }) (v := .slice (some ⟨g, o, none⟩) n cap) rfl (by kernel_rfl) (by kernel_rfl) (by kernel_rfl) (fun _ _ _ h => h) (Or.inl ⟨by kernel_rfl, fun wq _ => pureVal_run (by kernel_rfl) wq⟩) hHeld ?_
                        simp only [Act.put, List.setIfInBounds_toArray, List.set_cons_zero, List.set_cons_succ]
                        refine wpAnyH_take (i := 8) (oi := { dst := some 126, op := Go.Op.move (Go.Operand.tmp 10), type := 3, pos := "outright.go:129", after := #[{ on := 1, ground := Go.Ground.guard }], guard := some (1, false) }) (v := .int .i64 i) rfl (by kernel_rfl) (by kernel_rfl) (by kernel_rfl) (fun _ _ _ h => h) (Or.inl ⟨by kernel_rfl, fun wq _ => pureVal_run (by kernel_rfl) wq⟩) hHeld ?_
                        simp only [Act.put, List.setIfInBounds_toArray, List.set_cons_zero, List.set_cons_succ]
                        refine wpAnyH_take (i := 9) (oi := { dst := some 127, op := Go.Op.move (Go.Operand.tmp 10), type := 3, pos := "outright.go:129", after := #[{ on := 1, ground := Go.Ground.guard }], guard := some (1, false) }) (v := .int .i64 i) rfl (by kernel_rfl) (by kernel_rfl) (by kernel_rfl) (fun _ _ _ h => h) (Or.inl ⟨by kernel_rfl, fun wq _ => pureVal_run (by kernel_rfl) wq⟩) hHeld ?_
                        simp only [Act.put, List.setIfInBounds_toArray, List.set_cons_zero, List.set_cons_succ]
                        refine wpAnyH_take (i := 10) (oi := { dst := some 128, op := Go.Op.binOp Go.BinOp.add 3 (Go.Operand.tmp 127) (Go.Operand.const (Go.Value.int Go.IntKind.i64 1)) 3, type := 3, pos := "outright.go:129", after := #[{ on := 9, ground := Go.Ground.data }, { on := 1, ground := Go.Ground.guard }], guard := some (1, false) }) (v := .int .i64 ((i : Int) + 1)) rfl (by kernel_rfl) (by kernel_rfl) (by kernel_rfl) (fun _ _ _ h => h) (Or.inl ⟨by kernel_rfl, by intro wq hSw; clear hSw hHeld; go_simp⟩) hHeld ?_
                        simp only [Act.put, List.setIfInBounds_toArray, List.set_cons_zero, List.set_cons_succ]
                        refine wpAnyH_take (i := 11) (oi := { dst := some 129, op := Go.Op.slice 22 (Go.Operand.tmp 125) (some (Go.Operand.tmp 126)) (some (Go.Operand.tmp 128)) none, type := 22, pos := "outright.go:129", after := #[{ on := 7, ground := Go.Ground.data }, { on := 8, ground := Go.Ground.data }, { on := 10, ground := Go.Ground.data }, { on := 1, ground := Go.Ground.guard }], guard := some (1, false) }) (v := .slice (some ⟨g, o + i * 4, none⟩) 1 (cap - i)) rfl (by kernel_rfl) (by kernel_rfl) (by kernel_rfl) (fun _ _ _ h => h) (Or.inl ⟨by kernel_rfl, by intro wq hSw; clear hSw hHeld; go_simp⟩) hHeld ?_
                        simp only [Act.put, List.setIfInBounds_toArray, List.set_cons_zero, List.set_cons_succ]
                        refine wpAnyH_ready (rs := [12]) (by kernel_rfl) (by simp) ?_
                        refine AllReadyH.cons (o := { dst := some 130, op := Go.Op.call { callee := Go.Callee.value (Go.Operand.func 14), args := #[Go.Operand.tmp 124, Go.Operand.tmp 129], argTypes := #[22, 22] }, type := 4, pos := "outright.go:129", after := #[{ on := 6, ground := Go.Ground.data }, { on := 11, ground := Go.Ground.data }, { on := 1, ground := Go.Ground.chain }, { on := 1, ground := Go.Ground.guard }], guard := some (1, false) }) (by rfl) (fun K hK => ?_) AllReadyH.nil
                        refine held_call (by kernel_rfl) 14 #[.slice (some ⟨g2, o2 + j * 4, none⟩) 1 (c2 - j), .slice (some ⟨g, o + i * 4, none⟩) 1 (cap - i)] (by clear hHeld hK; go_simp) (R := fun v w' => ∃ b, v = .bool b ∧ Hid (b = false → ∀ q, q < j + 1 → (mm X)[q]? ≠ some m) ∧ Hid (Below wr.drew.heap.size wr.drew w')) ((SS.out _ DZ.out).mono (fun e w' hh => by obtain ⟨b, rfl, h1, h2⟩ := hh; exact ⟨_, rfl, b, rfl, h1, h2⟩)) ?_
                        rintro _ w4 ⟨b, rfl, NB, hb⟩
                        have B4 := hidi (BZ.out.trans ((DZ.out.trans (hb.out.mono DZ.out.size)).mono BZ.out.size))
                        refine hK.out _ _ trivial (fun hHeld => ?_)
                        clear hK K
                        simp only [Act.put, List.setIfInBounds_toArray, List.set_cons_zero, List.set_cons_succ]
                        refine wpAnyH_take (i := 13) (oi := { dst := some 131, op := Go.Op.pick (Go.Operand.tmp 119) (Go.Operand.const (Go.Value.bool true)) (Go.Operand.tmp 130), type := 4, pos := "outright.go:129", after := #[{ on := 1, ground := Go.Ground.data }, { on := 12, ground := Go.Ground.data }], guard := none }) (v := .bool b) rfl (by kernel_rfl) (by kernel_rfl) (by kernel_rfl) (fun _ _ _ h => h) (Or.inl ⟨by kernel_rfl, fun wq _ => pureVal_run (by kernel_rfl) wq⟩) hHeld ?_
                        simp only [Act.put, List.setIfInBounds_toArray, List.set_cons_zero, List.set_cons_succ]
                        refine wpAnyH_take (i := 14) (oi := { dst := some 14, op := Go.Op.assign (Go.Operand.tmp 131), type := 4, pos := "outright.go:129", after := #[{ on := 13, ground := Go.Ground.data }, { on := 12, ground := Go.Ground.chain }, { on := 0, ground := Go.Ground.phase }, { on := 1, ground := Go.Ground.phase }, { on := 2, ground := Go.Ground.phase }, { on := 3, ground := Go.Ground.phase }, { on := 4, ground := Go.Ground.phase }, { on := 5, ground := Go.Ground.phase }, { on := 6, ground := Go.Ground.phase }, { on := 7, ground := Go.Ground.phase }, { on := 8, ground := Go.Ground.phase }, { on := 9, ground := Go.Ground.phase }, { on := 10, ground := Go.Ground.phase }, { on := 11, ground := Go.Ground.phase }, { on := 12, ground := Go.Ground.phase }, { on := 13, ground := Go.Ground.phase }], guard := none }) (v := .bool b) rfl (by kernel_rfl) (by kernel_rfl) (by kernel_rfl) (fun _ _ _ h => h) (Or.inl ⟨by kernel_rfl, fun wq _ => pureVal_run (by kernel_rfl) wq⟩) hHeld ?_
                        simp only [Act.put, List.setIfInBounds_toArray, List.set_cons_zero, List.set_cons_succ]
                        refine wpAnyH_done (by kernel_rfl) ?_ _
                        clear hHeld hb SS
                        go_wp2_with fail
                        go_roundg (n2 - (j + 1))
                        case measure => omega
                        case rel => exact ⟨j + 1, b, by omega, rfl, rfl, by simp, B4.out, NB.out⟩
                    · have hjn' : ¬ (j : Int) < n2 := by omega
                      cases b with
                      | false =>
                        exfalso
                        have hm := (LW_.out.iff_ m).2 (good_mem (mm_get HS.out) GD.out)
                        obtain ⟨q, hq⟩ := List.mem_iff_getElem?.1 hm
                        have := (List.getElem?_eq_some_iff.1 hq).1
                        rw [mm_len] at this
                        exact HZ.out rfl q (by have := HM.out; omega) hq
                      | true =>
                        go_wp2_with fail
                        go_roundg (n - (i + 1))
                        case measure => omega
                        case rel => exact ⟨i + 1, c + 1, by omega, rfl, by simp, by simp, J.out.more HS.out GD.out JZ.out⟩
        · have SK := hidi (fun (w' : World) (hb : Below wr.heap.size wr w') => J.out.skip HS.out (good_no hR) hb)
          by_cases ht : tcode m.t = 0
          · have TC0 : Hid (∀ w, Calls Tryz.prog 20 #[.string m.t] w fun e w' => e = .returned (.int .i64 0) ∧ Below w.heap.size w w') := by
              have := TC.out
              rw [ht] at this
              exact this
            by_cases a0 : m.q < 0
            · have d0 : decide (m.q < 0) = true := decide_eq_true a0
              clear hR ht TC
              go_wp2_with (go_at_call 20; refine (TC0.out _).mono ?_; rintro e w1 ⟨rfl, hb⟩; have b2 := box_cells (BX.out w1 hb) 2 _ rfl; have B1 := hidi (BA.out.trans (hb.mono BA.out.size)); clear hb TC0)
              go_roundg (n - (i + 1))
              case measure => omega
              case rel => exact ⟨i + 1, c, by omega, rfl, rfl, by simp, SK.out _ B1.out⟩
            · have d0 : decide (m.q < 0) = false := decide_eq_false a0
              have a2 : 2 < m.q := by
                refine Classical.byContradiction fun c => hR ⟨ht, by omega, by omega⟩
              have a2' : m.q > 2 := a2
              have d2 : decide (2 < m.q) = true := decide_eq_true a2
              clear hR ht TC
              go_wp2_with (go_at_call 20; refine (TC0.out _).mono ?_; rintro e w1 ⟨rfl, hb⟩; have b2 := box_cells (BX.out w1 hb) 2 _ rfl; have B1 := hidi (BA.out.trans (hb.mono BA.out.size)); clear hb TC0)
              go_roundg (n - (i + 1))
              case measure => omega
              case rel => exact ⟨i + 1, c, by omega, rfl, rfl, by simp, SK.out _ B1.out⟩
          · obtain ⟨k, hk⟩ : ∃ k, k = tcode m.t := ⟨_, rfl⟩
            rw [← hk] at TC ht
            have hne : (k != 0) = true := by simp; exact ht
            clear hR ht hk
            go_wp2_with (go_at_call 20; refine (TC.out _).mono ?_; rintro e w1 ⟨rfl, hb⟩; have B1 := hidi (BA.out.trans (hb.mono BA.out.size)); clear hb TC)
            go_roundg (n - (i + 1))
            case measure => omega
            case rel => exact ⟨i + 1, c, by omega, rfl, rfl, by simp, SK.out _ B1.out⟩
      · have hlt' : ¬ (i : Int) < n := by omega
        have CN_ := hidi (show c = n2 from by
          have h1 := J.out.cnt
          rw [List.drop_eq_nil_of_le (by rw [mm_len]; have := HN.out; omega), show goods f [] = [] from rfl] at h1
          have h2 := LW_.out.len
          have h3 := HM.out.1
          simp at h1
          omega)
        have e9 : ((c : Int) == (n2 : Int)) = true := by rw [CN_.out]; simp
        go_wp2_with fail
        go_loopg [16] n2 (fun gg s16 wx => ∃ j : Nat, j ≤ n2 ∧ gg = n2 - j ∧ s16 = .int .i64 ((j + 1 : Nat) : Int) ∧ Hid (Below wr.heap.size wr wx))
        case atStart => exact ⟨0, Nat.zero_le _, rfl, rfl, Below.refl _ _⟩
        case round =>
          obtain ⟨j, hj, rfl, rfl, BZ⟩ := hrel
          by_cases hjn : j + 1 < n2
          · have hjn' : ((j + 1 : Nat) : Int) < n2 := by omega
            obtain ⟨y0, hy0⟩ : ∃ y, X[j]? = some y := ⟨_, List.getElem?_eq_getElem (by have := HM.out.1; omega)⟩
            obtain ⟨y1, hy1⟩ : ∃ y, X[j + 1]? = some y := ⟨_, List.getElem?_eq_getElem (by have := HM.out.1; omega)⟩
            obtain ⟨g2, o2, rfl⟩ := LW_.out.b.at_ hy0
            obtain ⟨z0, -⟩ := four LW_.out.b hy0 wr (J.out.be.trans (BZ.out.mono J.out.be.size))
            obtain ⟨z1, -⟩ := four LW_.out.b hy1 wr (J.out.be.trans (BZ.out.mono J.out.be.size))
            have hcm := LW_.out.ord j y0.1 y1.1 (mm_get hy0) (mm_get hy1)
            have CM := hidi (fun (w : World) => (show Calls Tryz.prog 22 #[.string y0.1.t, .string y1.1.t] w fun e w' => e = .returned (.int .i64 (-1)) ∧ ∃ q, w' = w.drewN q from by
              have := compare_dr y0.1.t y1.1.t (LW_.out.sz _ (List.mem_of_getElem? (mm_get hy0))) (LW_.out.sz _ (List.mem_of_getElem? (mm_get hy1))) w
              rw [hcm] at this
              exact this))
            have hwm : IntKind.i64.wrap (((j + 1 : Nat) : Int) - 1) = (j : Int) := by rw [IntKind.wrap_i64]; have := HM.out; omega
            have hwn : IntKind.i64.wrap (((j + 1 : Nat) : Int) + 1) = ((j + 1 + 1 : Nat) : Int) := by rw [IntKind.wrap_i64]; have := HM.out; omega
            have j0 : (j : Int) < n2 := by omega
            have hwm2 : IntKind.i64.wrap ((j : Int) + 1 - 1) = (j : Int) := by rw [IntKind.wrap_i64]; have := HM.out; omega
            have hwm3 : IntKind.i64.wrap (j : Int) = (j : Int) := by rw [IntKind.wrap_i64]; have := HM.out; omega
            have hjn2 : (j : Int) + 1 < n2 := by omega
            have hwn4 : IntKind.i64.wrap ((j : Int) + 1 + 1) = (j : Int) + 1 + 1 := by rw [IntKind.wrap_i64]; have := HM.out; omega
            clear hy0 hy1 hcm
            go_upto_region 32 with fail
            have CQ := hidi (fun K => CM.out (wr.drewN K))
            go_quiet ((go_at_call 22; exact Calls.quiet_of (CQ.out _)))
            go_wp2_with fail
            go_roundg (n2 - (j + 1))
            case measure => omega
            case rel => exact ⟨j + 1, by omega, rfl, by simp [hwn4], below_drewN BZ.out⟩
          · have hjn' : ¬ ((j + 1 : Nat) : Int) < n2 := by omega
            have BF := hidi (BW.out.trans ((J.out.be.trans (BZ.out.mono J.out.be.size)).mono BW.out.size))
            go_wp2_with fail
            go_ret
            exact ⟨rfl, BF.out⟩
end Go.Proofs.YtipagdhoeocjeaaGreat.Li
namespace Go.Proofs.YtipagdhoeocjeaaGreat.Li
open Go Go.RowKit Go.Shelf
set_option linter.unusedSimpArgs false
set_option linter.unusedVariables false
/-- A message that the law makes: a topic, its own bytes, quality 1. -/
def ofM (t : ByteArray) : Msg := ⟨t, t.data.toList.map (fun b => (b.toNat : Int)), 1, false⟩
theorem ofM_len (t : ByteArray) : (ofM t).xs.length = t.size := by unfold ofM; simp
theorem bytes_get (t : ByteArray) (c i : Nat) (hi : i < t.size) : (bytesRow t c)[i]? = some (.int .u8 ((ofM t).xs.getD i 0)) := by
  have h1 : i < t.data.size := hi
  have h2 : i < t.data.toList.length := by simpa using h1
  unfold bytesRow ofM
  rw [List.getD_eq_getElem?_getD, List.getElem?_map, List.getElem?_eq_getElem h2]
  simp [Array.getElem?_append, h1]
  rw [if_pos hi]
  simp [h1]
  exact ⟨_, Array.getElem?_eq_getElem h1, rfl⟩
/-- A payload in a block of its own. -/
structure OfR (w w' : World) (v : Value) (xs : List Int) : Prop where
  pr : PR w' v xs
  own : ∃ g c, v = .slice (some ⟨g, 0, none⟩) xs.length c ∧ w.heap.size ≤ g
  be : Below w.heap.size w w'
theorem OfR.at_ {w w' w2 : World} {v : Value} {xs : List Int} (h : OfR w w' v xs) (he : ∀ g, w.heap.size ≤ g → g < w'.heap.size → w2.heap[g]? = w'.heap[g]?) : PR w2 v xs := by
  obtain ⟨g, c, rfl, hg⟩ := h.own
  rcases h.pr with ⟨e, -⟩ | ⟨a, n, c', e, h2, h3, h4⟩
  · cases e
  · cases e
    refine .inr ⟨_, _, _, rfl, h2, h3, fun i hi => ?_⟩
    have := h4 i hi
    rw [plain_add] at this ⊢
    exact (cell_heap (he g hg (World.block_lt_of_cell? _ _ this))).trans this
theorem OfR.below {w w' w2 : World} {v : Value} {xs : List Int} (h : OfR w w' v xs) (hb : Below w'.heap.size w' w2) : OfR w w2 v xs := ⟨h.pr.below hb, h.own, h.be.trans (hb.mono h.be.size)⟩
set_option maxRecDepth 100000 in
set_option maxHeartbeats 2000000 in
theorem of_any (t : ByteArray) (ht : t.size ≤ 1000) (w : World) : Calls Tryz.prog 24 #[.string t] w fun e w' => ∃ v, e = .returned ((ofM t).val v) ∧ OfR w w' v (ofM t).xs := by
  have hcv := fun (w : World) => run_bytes_of_string (P := Tryz.prog) w 9 28 5 t Tryz.underlying9 Tryz.underlying28 Tryz.underlying5
  go_enter Tryz.func24, Tryz.ntmps24
  go_wp2_with fail
  obtain ⟨cp, hcp⟩ : ∃ cp, cp = grownCap (w.alloc (.cells #[.string ⟨#[]⟩, .slice none 0 0, .int .i64 0, .bool false] 30)) t.size 0 5 := ⟨_, rfl⟩
  rw [← hcp]
  obtain ⟨w1, hw1⟩ : ∃ w1, w1 = w.alloc (.cells #[.string t, .slice (some ⟨w.heap.size + 1, 0, none⟩) t.size cp, .int .i64 1, .bool false] 30) := ⟨_, rfl⟩
  have y0 : w1.heap[w.heap.size]? = some (.cells #[.string t, .slice (some ⟨w.heap.size + 1, 0, none⟩) t.size cp, .int .i64 1, .bool false] 30 (0, 0)) := by rw [hw1, heap_alloc_new]
  have s1 : w1.heap.size = w.heap.size + 1 := by rw [hw1, size_alloc]
  have b1 : Below w.heap.size w w1 := by rw [hw1]; exact (Below.refl _ _).alloc (Nat.le_refl _) _
  refine bodyPost_ret (results_cell_row rfl _ _ _ _ _ _ _ rfl (later_at y0 ?_) Tryz.underlying30 rfl (by kernel_rfl)) rfl ⟨_, by unfold Msg.val Msg.cs ofM; rfl, ?_, ⟨w.heap.size + 1, cp, by rw [ofM_len], Nat.le_succ _⟩, ?_⟩
  · rw [← hw1]
    exact ((Below.refl _ _).drew).alloc (Nat.le_refl _) _
  · rw [← hw1]
    refine .inr ⟨⟨w.heap.size + 1, 0, none⟩, t.size, cp, rfl, ofM_len t, by unfold maxLen; omega, fun i hi => ?_⟩
    rw [plain_add, Nat.zero_add]
    have hn := heap_alloc_new w1.drew (.cells (bytesRow t cp) 5 ((bytesRow t cp).size, (bytesRow t cp).size + 1))
    rw [show w1.drew.heap.size = w.heap.size + 1 from s1] at hn
    exact box_cells hn i _ (bytes_get t cp i hi)
  · rw [← hw1]
    exact b1.trans ((((Below.refl w1.heap.size w1).drew).alloc (Nat.le_refl _) _).mono b1.size)
end Go.Proofs.YtipagdhoeocjeaaGreat.Li
namespace Go.Proofs.YtipagdhoeocjeaaGreat.Li
open Go Go.RowKit Go.Shelf
set_option linter.unusedSimpArgs false
set_option linter.unusedVariables false
/-! ### the chapter's example -/
def fA : ByteArray := ⟨#[97]⟩
def fB : ByteArray := ⟨#[98]⟩
def fAB : ByteArray := ⟨#[97, 47, 98]⟩
def fD : ByteArray := ⟨#[36, 97]⟩
def fH : ByteArray := ⟨#[35]⟩
def L4 : List Msg := [ofM fB, ofM fAB, ofM fD, ofM fA]
theorem lv_a : levels fA = [fA] := by decide +kernel
theorem lv_b : levels fB = [fB] := by decide +kernel
theorem lv_ab : levels fAB = [fA, fB] := by decide +kernel
theorem lv_d : levels fD = [fD] := by decide +kernel
theorem goods_h : goods fH L4 = [ofM fB, ofM fAB, ofM fA] := by kernel_rfl
theorem goods_d : goods fD L4 = [ofM fD] := by kernel_rfl
theorem held4 (z : Msg) : holdM L4 (levels z.t) z ↔ z ∈ L4 := by
  rw [hold_iff]
  constructor
  · exact fun h => (held_mem h).1
  · intro h
    have : z ∈ goods fH L4 ∨ z ∈ goods fD L4 := by
      rw [goods_h, goods_d]
      simp only [L4, List.mem_cons, List.not_mem_nil, or_false] at h ⊢
      rcases h with h | h | h | h <;> simp [h]
    rcases this with c | c
    · exact ((mem_goods _ _ _).1 c).1
    · exact ((mem_goods _ _ _).1 c).1
instance (A B : List ByteArray) : Decidable (ltV A B) := by unfold ltV; infer_instance
variable {T : List Fn}
theorem srt4 (hT : ∀ F z, HasM T F z ↔ holdM L4 F z) {Y : List Msg} (hY : ∀ m ∈ Y, m ∈ L4) (o : Y.Pairwise (fun a b => ltV (levels a.t) (levels b.t))) : Srt T Y :=
  ⟨o, fun m hm => (hT _ _).2 ((held4 m).2 (hY m hm))⟩
theorem found4 (hT : ∀ F z, HasM T F z ↔ holdM L4 F z) {X : List Msg} (al : All T (FindS fH) X) : X = [ofM fA, ofM fAB, ofM fB] :=
  srt_eq al.srt (srt4 hT (fun m hm => by
    simp only [L4, List.mem_cons, List.not_mem_nil, or_false] at hm ⊢
    rcases hm with h | h | h <;> simp [h]) (by decide +kernel)) (fun m => by
    rw [found_iff hT al, goods_h]
    simp only [List.mem_cons, List.not_mem_nil, or_false]
    constructor <;> (rintro (h | h | h) <;> simp [h]))
theorem all4 (hT : ∀ F z, HasM T F z ↔ holdM L4 F z) {X : List Msg} (al : All T (fun _ => True) X) : X = [ofM fD, ofM fA, ofM fAB, ofM fB] :=
  srt_eq al.srt (srt4 hT (fun m hm => by
    simp only [L4, List.mem_cons, List.not_mem_nil, or_false] at hm ⊢
    rcases hm with h | h | h | h <;> simp [h]) (by decide +kernel)) (fun m => by
    rw [al.mem, hT, held4]
    simp only [L4, List.mem_cons, List.not_mem_nil, or_false, true_and]
    constructor <;> (rintro (h | h | h | h) <;> simp [h]))
/-- What filters have in common, two and two. -/
def lcpsF (D : List (List ByteArray)) : List (List ByteArray) := [] :: D.flatMap fun F => D.map fun G => lcp F G
variable {w w0 w1 w4 : World} {tb r : Nat} {nf nn : Int}
theorem at_iff (h : TM w tb r nf nn T) (fx : FormX T []) {D : List (List ByteArray)} (hD : ∀ F, (∃ z, HasM T F z) ↔ F ∈ D) (A : List ByteArray) : (∃ f ∈ T, f.s.A = A) ↔ A ∈ lcpsF D := by
  rw [nodes_iff h fx A]
  unfold lcpsF
  rw [List.mem_cons, List.mem_flatMap]
  have hs : ∀ f ∈ T, f.ms.isSome = true → f.s.A ∈ D := fun f hf e => by
    obtain ⟨z, hz⟩ := Option.isSome_iff_exists.1 e
    exact (hD _).1 ⟨z, f, hf, rfl, hz⟩
  refine or_congr Iff.rfl ⟨?_, ?_⟩
  · rintro ⟨f, hf, g, hg, f0, g0, rfl⟩
    exact ⟨_, hs f hf f0, List.mem_map.2 ⟨_, hs g hg g0, rfl⟩⟩
  · rintro ⟨F, hF, q⟩
    obtain ⟨G, hG, q⟩ := List.mem_map.1 q
    obtain ⟨z, f, hf, f1, f0⟩ := (hD F).2 hF
    obtain ⟨z', g, hg, g1, g0⟩ := (hD G).2 hG
    exact ⟨f, hf, g, hg, by rw [f0]; rfl, by rw [g0]; rfl, by rw [f1, g1, q]⟩
def memL (X Y : List (List ByteArray)) : Bool := Y.all fun A => X.any fun B => decide (B = A)
theorem memL_iff {X Y : List (List ByteArray)} (h : memL X Y = true) : ∀ A ∈ Y, A ∈ X := fun A hA => by
  unfold memL at h
  have := List.all_eq_true.1 h A hA
  rw [List.any_eq_true] at this
  obtain ⟨B, hB, q⟩ := this
  rw [← of_decide_eq_true q]
  exact hB
theorem nodes_of (h : TM w tb r nf (T.length : Int) T) (fx : FormX T []) {D X : List (List ByteArray)} (hD : ∀ F, (∃ z, HasM T F z) ↔ F ∈ D) (hn : X.Nodup) (h1 : memL (lcpsF D) X = true) (h2 : memL X (lcpsF D) = true) (n : Int) (hl : (X.length : Int) = n) :
    Calls Tryz.prog 17 #[ptr tb] w fun e w' => e = .returned (.int .i64 n) ∧ w' = w := by
  have := nodes_len h hn (fun A => ⟨fun q => (at_iff h fx hD A).2 (memL_iff h1 A q), fun q => memL_iff h2 A ((at_iff h fx hD A).1 q)⟩)
  have q := nodes_any h
  rw [this, hl] at q
  exact q
theorem held_lv (F : List ByteArray) : (∃ z, holdM L4 F z) ↔ F ∈ [[fB], [fA, fB], [fD], [fA]] := by
  constructor
  · rintro ⟨z, h⟩
    rw [hold_iff] at h
    obtain ⟨hz, _, rfl⟩ := held_mem h
    simp only [L4, List.mem_cons, List.not_mem_nil, or_false] at hz
    rcases hz with rfl | rfl | rfl | rfl
    · show levels fB ∈ _; rw [lv_b]; simp
    · show levels fAB ∈ _; rw [lv_ab]; simp
    · show levels fD ∈ _; rw [lv_d]; simp
    · show levels fA ∈ _; rw [lv_a]; simp
  · intro h
    simp only [List.mem_cons, List.not_mem_nil, or_false] at h
    rcases h with rfl | rfl | rfl | rfl
    · exact ⟨ofM fB, by rw [← lv_b]; exact (held4 (ofM fB)).2 (by simp [L4])⟩
    · exact ⟨ofM fAB, by rw [← lv_ab]; exact (held4 (ofM fAB)).2 (by simp [L4])⟩
    · exact ⟨ofM fD, by rw [← lv_d]; exact (held4 (ofM fD)).2 (by simp [L4])⟩
    · exact ⟨ofM fA, by rw [← lv_a]; exact (held4 (ofM fA)).2 (by simp [L4])⟩
theorem form_of (f : ∀ f ∈ T, f.s.A = [] ∨ f.ms.isSome = true ∨ Fork T f.s.A) : FormX T [] := fun g hg => by
  rcases f g hg with c | c | c
  · exact .inl c
  · exact .inr (.inl c)
  · exact .inr (.inr (.inl c))
/-- Five nodes. -/
theorem five (h : LdR w w4 tb r 4 (holdM L4)) (hb : Below w4.heap.size w4 w1) : Calls Tryz.prog 17 #[ptr tb] w1 fun e w' => e = .returned (.int .i64 5) ∧ w' = w1 := by
  obtain ⟨⟨T, nf, t1, t2, t3⟩, be⟩ := h
  have t := t1.below hb
  exact nodes_of t.tm (form_of t.frm) (D := [[fB], [fA, fB], [fD], [fA]]) (X := [[], [fB], [fA, fB], [fD], [fA]]) (fun F => by rw [← held_lv]; exact exists_congr (t2 F)) (by decide +kernel) (by decide +kernel) (by decide +kernel) 5 rfl
/-- A trie of which one went. -/
structure DK (w w' : World) (tb r : Nat) : Prop where
  ex : ∃ T nf, TM w' tb r nf (T.length : Int) T ∧ FormX T [] ∧ ∀ F, (∃ z, HasM T F z) ↔ F ∈ [[fB], [fA, fB], [fD]]
  be : Below w.heap.size w w'
theorem dropk (h : LdR w w4 tb r 4 (holdM L4)) (hb : Below w4.heap.size w4 w1) : Calls Tryz.prog 29 #[ptr tb, .string fA] w1 fun e w' => e = .returned (.bool true) ∧ DK w w' tb r := by
  obtain ⟨⟨T, nf, t1, t2, t3⟩, be⟩ := h
  have t := t1.below hb
  have h0 : HasM T (levels fA) (ofM fA) := (t2 _ _).2 ((held4 (ofM fA)).2 (by simp [L4]))
  have hc := t.cnt
  have hp := t.nP
  refine (drop_yes t.tm ⟨form_of t.frm, t.cn, by omega⟩ (by decide +kernel) h0).mono ?_
  rintro e w' ⟨rfl, ⟨T', tm, qs⟩, ch⟩
  have b1 := be.trans (hb.mono be.size)
  refine ⟨rfl, ⟨T', nf - 1, tm, qs.frm, fun F => ?_⟩, ⟨ch.os.trans b1.os, ch.tape.trans b1.tape, ch.output.trans b1.output, Nat.le_trans b1.size ch.size, fun k hk => (ch.block k (Nat.lt_of_lt_of_le hk b1.size) (fun c => by have := t3 k c; omega)).trans (b1.block k hk)⟩⟩
  have e1 : (∃ z, HasM T' F z) ↔ (∃ z, holdM L4 F z) ∧ ¬ F = levels fA := by
    constructor
    · rintro ⟨z, hz⟩
      have := (qs.has F z).1 hz
      exact ⟨⟨z, (t2 F z).1 this.1⟩, this.2⟩
    · rintro ⟨⟨z, hz⟩, hn⟩
      exact ⟨z, (qs.has F z).2 ⟨(t2 F z).2 hz, hn⟩⟩
  rw [e1, held_lv, lv_a]
  simp only [List.mem_cons, List.not_mem_nil, or_false]
  constructor
  · rintro ⟨h | h | h | h, hn⟩
    · exact .inl h
    · exact .inr (.inl h)
    · exact .inr (.inr h)
    · exact absurd h hn
  · rintro (h | h | h)
    · exact ⟨.inl h, by rw [h]; decide +kernel⟩
    · exact ⟨.inr (.inl h), by rw [h]; decide +kernel⟩
    · exact ⟨.inr (.inr (.inl h)), by rw [h]; decide +kernel⟩
theorem fournodes (h : DK w w1 tb r) : Calls Tryz.prog 17 #[ptr tb] w1 fun e w' => e = .returned (.int .i64 4) ∧ w' = w1 := by
  obtain ⟨⟨T, nf, tm, fx, hD⟩, be⟩ := h
  exact nodes_of tm fx (X := [[], [fB], [fA, fB], [fD]]) hD (by decide +kernel) (by decide +kernel) (by decide +kernel) 4 rfl
set_option maxRecDepth 100000 in
set_option maxHeartbeats 4000000 in
theorem dropk11 (h : LdR w w4 tb r 4 (holdM L4)) (hb : Below w4.heap.size w4 w1) : Calls Tryz.prog 11 #[ptr tb, .string fA] w1 fun e w' => e = .returned (.bool true) ∧ DK w w' tb r := by
  have D := hidi (dropk h hb)
  unfold ptr fA at *
  clear h hb
  go_enter Tryz.func11, Tryz.ntmps11
  go_wp2_with (go_at_call 29; refine D.out.mono ?_; rintro e w' ⟨rfl, dk⟩; have END := hidi dk; clear dk D)
  go_ret
  exact ⟨rfl, END.out⟩
end Go.Proofs.YtipagdhoeocjeaaGreat.Li
namespace Go.Proofs.YtipagdhoeocjeaaGreat.Li
open Go Go.RowKit Go.Shelf
set_option linter.unusedSimpArgs false
set_option linter.unusedVariables false
variable {w w1 w4 : World} {tb r k : Nat}
theorem L4_all {m : Msg} (h : m ∈ L4) : m = ofM m.t ∧ tcode m.t = 0 ∧ m.t.size ≤ 1000 ∧ m.xs.length ≤ 60000 := by
  simp only [L4, List.mem_cons, List.not_mem_nil, or_false] at h
  rcases h with rfl | rfl | rfl | rfl <;> exact ⟨rfl, by decide +kernel, by decide +kernel, by decide +kernel⟩
theorem L4_new : ∀ {k : Nat} {m z : Msg}, L4[k]? = some m → z ∈ L4.take k → m.t ≠ z.t
  | 0, m, z, _, hz => by simp at hz
  | 1, m, z, h, hz => by
    simp [L4] at h hz
    subst h hz
    show fAB ≠ fB
    decide +kernel
  | 2, m, z, h, hz => by
    simp [L4] at h hz
    subst h
    rcases hz with rfl | rfl
    · show fD ≠ fB; decide +kernel
    · show fD ≠ fAB; decide +kernel
  | 3, m, z, h, hz => by
    simp [L4] at h hz
    subst h
    rcases hz with rfl | rfl | rfl
    · show fA ≠ fB; decide +kernel
    · show fA ≠ fAB; decide +kernel
    · show fA ≠ fD; decide +kernel
  | k + 4, m, z, h, _ => by simp [L4] at h
/-- One of the four put. -/
theorem putk (h : LdR w w1 tb r k (holdM (L4.take k))) {m : Msg} (hs : L4[k]? = some m) {wo : World} {v : Value} (o : OfR w1 wo v m.xs) :
    Calls Tryz.prog 9 #[ptr tb, m.val v] wo fun e w' => e = .returned (.tuple #[.bool false, .int .i64 0]) ∧ LdR w w' tb r (k + 1) (holdM (L4.take (k + 1))) ∧ ∀ (g : Nat) (cur : Array Value), wo.heap[g]? = some (Obj.cells cur 9 (0, 0)) → w'.heap[g]? = some (Obj.cells cur 9 (0, 0)) := by
  have hk : k < 4 := (List.getElem?_eq_some_iff.1 hs).1
  obtain ⟨he, hf, -, hx⟩ := L4_all (List.mem_of_getElem? hs)
  have hq : 0 ≤ m.q ∧ m.q ≤ 2 := by rw [he]; exact ⟨by show (0 : Int) ≤ 1; omega, by show (1 : Int) ≤ 2; omega⟩
  obtain ⟨⟨T, nf, t1, t2, t3⟩, be⟩ := h
  have b1 := be.trans (o.be.mono be.size)
  have t := t1.below o.be
  have lt : ∀ g, isT tb T g → g < w1.heap.size := fun g hg => by
    rcases hg with rfl | ⟨f, hf, hg⟩
    · exact (Array.getElem?_eq_some_iff.1 t1.tm.tr).1
    · exact (t1.tm.nd f hf).lt hg
  refine (put_right t ⟨hf, rfl, hq, hx, tcode_zero hf⟩ (by omega) (fun w2 ch => o.at_ (fun g h1 h2 => ch.block g h2 (fun c => by have := lt g c; omega)))).mono ?_
  rintro e w' ⟨had, rfl, ⟨T', nf', u1, u2, u3⟩, old, ch⟩
  have hh : had = false := by
    cases had with
    | false => rfl
    | true =>
      exfalso
      obtain ⟨z, hz⟩ := old.1 rfl
      have := (t2 _ _).1 hz
      rw [hold_iff] at this
      obtain ⟨h1, _, h3⟩ := held_mem this
      exact L4_new hs h1 (levels_inj h3)
  subst hh
  refine ⟨rfl, ⟨⟨T', nf', u1, fun F z => (u2 F z).trans ?_, fun j c => ?_⟩, ⟨ch.os.trans b1.os, ch.tape.trans b1.tape, ch.output.trans b1.output, Nat.le_trans b1.size ch.size, fun k hk => (ch.block k (Nat.lt_of_lt_of_le hk b1.size) (fun c => by have := t3 k c; omega)).trans (b1.block k hk)⟩⟩, fun g cur e => (ch.block g (Array.getElem?_eq_some_iff.1 e).1 (fun c => (t.tm.no9 c cur).1 e)).trans e⟩
  · rw [hold_next hs]
    unfold stepM
    rw [if_pos ⟨hf, hq⟩, t2 F z]
  · rcases u3 j c with c | c
    · exact t3 j c
    · have := b1.size
      have := be.size
      have := o.be.size
      omega
theorem LdR.below {P : Nat} {E : HeldM} {w2 : World} (h : LdR w w1 tb r P E) (hb : Below w1.heap.size w1 w2) : LdR w w2 tb r P E := by
  obtain ⟨⟨T, nf, t1, t2, t3⟩, be⟩ := h
  exact ⟨⟨T, nf, t1.below hb, t2, t3⟩, be.trans (hb.mono be.size)⟩
theorem tx_cell {xb : Nat} (h : w.heap[xb]? = some (.cells #[.string fB, .string fAB, .string fD, .string fA] 9 (0, 0))) {m : Msg} (hs : L4[k]? = some m) : w.cell? ⟨xb, k, none⟩ = some (.string m.t) := by
  match k, hs with
  | 0, hs => cases hs; exact box_cells h 0 _ rfl
  | 1, hs => cases hs; exact box_cells h 1 _ rfl
  | 2, hs => cases hs; exact box_cells h 2 _ rfl
  | 3, hs => cases hs; exact box_cells h 3 _ rfl
  | k + 4, hs => cases hs
/-- What the law makes: three messages. -/
theorem built3 {w0 w1 w2 w3 : World} {v1 v2 v3 : Value} (h1 : PR w3 v1 (ofM fA).xs) (h2 : PR w3 v2 (ofM fAB).xs) (h3 : PR w3 v3 (ofM fB).xs) :
    MsIn (w3.alloc (.cells #[.string fA, v1, .int .i64 1, .bool false, .string fAB, v2, .int .i64 1, .bool false, .string fB, v3, .int .i64 1, .bool false] 30)) (.slice (some ⟨w3.heap.size, 0, none⟩) 3 3) [(ofM fA, v1), (ofM fAB, v2), (ofM fB, v3)] := by
  have e := heap_alloc_new w3 (.cells #[.string fA, v1, .int .i64 1, .bool false, .string fAB, v2, .int .i64 1, .bool false, .string fB, v3, .int .i64 1, .bool false] 30)
  have bl : Below w3.heap.size w3 (w3.alloc (.cells #[.string fA, v1, .int .i64 1, .bool false, .string fAB, v2, .int .i64 1, .bool false, .string fB, v3, .int .i64 1, .bool false] 30)) := (Below.refl _ _).alloc (Nat.le_refl _) _
  refine ⟨⟨_, _, _, rfl, rfl, Nat.le_refl _, fun _ => ⟨_, _, rfl, (Array.getElem?_eq_some_iff.1 e).1, fun k s hk => ?_⟩⟩, fun s hs => ?_⟩
  · match k, hk with
    | 0, hk =>
      cases hk
      exact ⟨box_cells e 0 _ rfl, box_cells e 1 _ rfl, box_cells e 2 _ rfl, box_cells e 3 _ rfl⟩
    | 1, hk =>
      cases hk
      exact ⟨box_cells e 4 _ rfl, box_cells e 5 _ rfl, box_cells e 6 _ rfl, box_cells e 7 _ rfl⟩
    | 2, hk =>
      cases hk
      exact ⟨box_cells e 8 _ rfl, box_cells e 9 _ rfl, box_cells e 10 _ rfl, box_cells e 11 _ rfl⟩
    | k + 3, hk => cases hk
  · simp only [List.mem_cons, List.not_mem_nil, or_false] at hs
    rcases hs with rfl | rfl | rfl
    · exact h1.below bl
    · exact h2.below bl
    · exact h3.below bl
end Go.Proofs.YtipagdhoeocjeaaGreat.Li
