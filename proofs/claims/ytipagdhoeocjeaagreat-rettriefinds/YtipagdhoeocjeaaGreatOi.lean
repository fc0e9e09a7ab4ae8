import Derived.Test.YtipagdhoeocjeaaGreatOh
namespace Go.Proofs.YtipagdhoeocjeaaGreat.Li
open Go Go.RowKit Go.Shelf
set_option linter.unusedSimpArgs false
set_option linter.unusedVariables false
variable {w w1 w4 : World} {tb r k : Nat}
theorem kfind (h : LdR w w4 tb r 4 (holdM L4)) (hb : Below w4.heap.size w4 w1) {x y : Nat} (hx : w1.heap[x]? = some (.cells #[ptr tb] 25 (0, 0))) (hy : w1.heap[y]? = some (.cells #[.string fH] 9 (0, 0))) :
    Calls Tryz.prog 12 #[.func (.func 36) #[] #[ptr x, ptr y], .int .i64 0] w1 fun e W => ∃ v X, e = .returned (.tuple #[v, .bool true]) ∧ MsIn W v X ∧ mm X = [ofM fA, ofM fAB, ofM fB] ∧ Below w1.heap.size w1 W := by
  obtain ⟨⟨T, nf, t1, t2, t3⟩, be⟩ := h
  have tw := tw_of t1 (by omega) hb
  refine (givenF_any tw fH hx hy).mono ?_
  rintro e W ⟨v, X, rfl, gv⟩
  exact ⟨v, X, rfl, gv_in tw gv, found4 t2 gv.al, gv.be⟩
theorem kall (h : LdR w w4 tb r 4 (holdM L4)) (hb : Below w4.heap.size w4 w1) {x : Nat} (hx : w1.heap[x]? = some (.cells #[ptr tb] 25 (0, 0))) :
    Calls Tryz.prog 12 #[.func (.func 31) #[] #[ptr x], .int .i64 0] w1 fun e W => ∃ v X, e = .returned (.tuple #[v, .bool true]) ∧ MsIn W v X ∧ mm X = [ofM fD, ofM fA, ofM fAB, ofM fB] ∧ Below w1.heap.size w1 W := by
  obtain ⟨⟨T, nf, t1, t2, t3⟩, be⟩ := h
  have tw := tw_of t1 (by omega) hb
  refine (givenA_any tw hx).mono ?_
  rintro e W ⟨v, X, rfl, gv⟩
  exact ⟨v, X, rfl, gv_in tw gv, all4 t2 gv.al, gv.be⟩
theorem ldr0 {T : List Fn} (t1 : TS w1 tb r 0 0 T) (t2 : ∀ F z, ¬ HasM T F z) (t3 : ∀ j, isT tb T j → w.heap.size ≤ j) (t4 : Below w.heap.size w w1) : LdR w w1 tb r 0 (holdM (L4.take 0)) :=
  ⟨⟨T, 0, t1, fun F z => ⟨fun c => (t2 F z c).elim, fun c => c.elim⟩, t3⟩, t4⟩
theorem nn0 {T : List Fn} (t1 : TS w1 tb r 0 0 T) : Calls Tryz.prog 17 #[ptr tb] w1 fun e w' => e = .returned (.int .i64 1) ∧ w' = w1 := by
  have := nodes_any t1.tm
  have o := t1.one
  have c := t1.cnt
  have p := t1.pos
  rw [show (T.length : Int) = 1 by omega] at this
  exact this
/-- A list of four: the first. -/
theorem first4 {W : World} {v : Value} {X : List Ml} (h : MsIn W v X) (e : mm X = [ofM fD, ofM fA, ofM fAB, ofM fB]) : ∃ g o c, v = .slice (some ⟨g, o, none⟩) 4 c ∧ 4 ≤ c ∧ ∀ w', Below W.heap.size W w' → w'.cell? ⟨g, o, none⟩ = some (.string ⟨#[36, 97]⟩) := by
  have hl : X.length = 4 := by
    have := congrArg List.length e
    rw [mm_len] at this
    exact this
  obtain ⟨a, n, c, rfl, hn, hc, -⟩ := h.ex
  obtain ⟨s, hs⟩ : ∃ s, X[0]? = some s := ⟨_, List.getElem?_eq_getElem (by omega)⟩
  have h1 : s.1 = ofM fD := by
    have := mm_get hs
    rw [e] at this
    simpa using this.symm
  obtain ⟨g, o, rfl⟩ := h.at_ hs
  refine ⟨g, o, c, by rw [hn, hl], by omega, fun w' hb => ?_⟩
  have := (four h hs w' hb).1
  rw [h1] at this
  have e0 : o + 0 * 4 = o := by omega
  rw [e0] at this
  exact this
set_option maxRecDepth 100000 in
set_option maxHeartbeats 8000000 in
/-- KNOWN: the chapter's example. -/
theorem known_any (w : World) : Calls Tryz.prog 6 #[] w fun e w' => e = .returned (.bool true) ∧ Below w.heap.size w w' := by
  have NW := hidi (fun w => new_any w)
  have PK := hidi (fun (k : Nat) (m : Msg) (hs : L4[k]? = some m) (w1 wo : World) (tb r : Nat) (v : Value) (h : LdR w w1 tb r k (holdM (L4.take k))) (o : OfR w1 wo v m.xs) => putk h hs o)
  have OK := hidi (fun (k : Nat) (m : Msg) (hs : L4[k]? = some m) (w : World) => (show Calls Tryz.prog 24 #[.string m.t] w fun e w' => ∃ v, e = .returned (m.val v) ∧ OfR w w' v m.xs from by
    obtain ⟨he, -, h2, -⟩ := L4_all (List.mem_of_getElem? hs)
    have := of_any m.t h2 w
    rw [← he] at this
    exact this))
  have OA := hidi (fun (w : World) => (show Calls Tryz.prog 24 #[.string ⟨#[97]⟩] w fun e w' => ∃ v, e = .returned (.agg #[.string fA, v, .int .i64 1, .bool false]) ∧ OfR w w' v (ofM fA).xs from of_any fA (by decide) w))
  have OB := hidi (fun (w : World) => (show Calls Tryz.prog 24 #[.string ⟨#[98]⟩] w fun e w' => ∃ v, e = .returned (.agg #[.string fB, v, .int .i64 1, .bool false]) ∧ OfR w w' v (ofM fB).xs from of_any fB (by decide) w))
  have OAB := hidi (fun (w : World) => (show Calls Tryz.prog 24 #[.string ⟨#[97, 47, 98]⟩] w fun e w' => ∃ v, e = .returned (.agg #[.string fAB, v, .int .i64 1, .bool false]) ∧ OfR w w' v (ofM fAB).xs from of_any fAB (by decide) w))
  have F19 := hidi (fun (w : World) (tb : Nat) => (show Calls Tryz.prog 19 #[ptr tb, .string ⟨#[35]⟩] w fun e w' => ∃ a b, e = .returned (.func (.func 36) #[] #[ptr a, ptr b]) ∧ w'.heap[a]? = some (.cells #[ptr tb] 25 (0, 0)) ∧ w'.heap[b]? = some (.cells #[.string fH] 9 (0, 0)) ∧ Below w.heap.size w w' from find19_any tb fH))
  have A13 := hidi (fun (w : World) (tb : Nat) => all13_any (w := w) tb)
  have KF := hidi (fun (w4 w1 : World) (tb r x y : Nat) (h : LdR w w4 tb r 4 (holdM L4)) (hb : Below w4.heap.size w4 w1) (hx : w1.heap[x]? = some (.cells #[ptr tb] 25 (0, 0))) (hy : w1.heap[y]? = some (.cells #[.string fH] 9 (0, 0))) => kfind h hb hx hy)
  have KA := hidi (fun (w4 w1 : World) (tb r x : Nat) (h : LdR w w4 tb r 4 (holdM L4)) (hb : Below w4.heap.size w4 w1) (hx : w1.heap[x]? = some (.cells #[ptr tb] 25 (0, 0))) => kall h hb hx)
  have K5 := hidi (fun (w4 w1 : World) (tb r : Nat) (h : LdR w w4 tb r 4 (holdM L4)) (hb : Below w4.heap.size w4 w1) => five h hb)
  have KD := hidi (fun (w4 w1 : World) (tb r : Nat) (h : LdR w w4 tb r 4 (holdM L4)) (hb : Below w4.heap.size w4 w1) => (show Calls Tryz.prog 11 #[ptr tb, .string ⟨#[97]⟩] w1 fun e w' => e = .returned (.bool true) ∧ DK w w' tb r from dropk11 h hb))
  have K4 := hidi (fun (w1 : World) (tb r : Nat) (h : DK w w1 tb r) => fournodes h)
  have SM := hidi (fun (w3 : World) (v v1 v2 v3 : Value) (X : List Ml) (h : MsIn w3 v X) (e : mm X = [ofM fA, ofM fAB, ofM fB]) (h1 : PR w3 v1 (ofM fA).xs) (h2 : PR w3 v2 (ofM fAB).xs) (h3 : PR w3 v3 (ofM fB).xs) => (show Calls Tryz.prog 14 #[v, .slice (some ⟨w3.heap.size, 0, none⟩) 3 3] (w3.alloc (.cells #[.string fA, v1, .int .i64 1, .bool false, .string fAB, v2, .int .i64 1, .bool false, .string fB, v3, .int .i64 1, .bool false] 30)) fun e w' => e = .returned (.bool true) ∧ Below w3.heap.size w3 w' from by
    have bl : Below w3.heap.size w3 (w3.alloc (.cells #[.string fA, v1, .int .i64 1, .bool false, .string fAB, v2, .int .i64 1, .bool false, .string fB, v3, .int .i64 1, .bool false] 30)) := (Below.refl _ _).alloc (Nat.le_refl _) _
    have hl : X.length = 3 := by
      have := congrArg List.length e
      rw [mm_len] at this
      exact this
    refine (smsgs_any (h.below bl) (built3 (w0 := w3) (w1 := w3) (w2 := w3) h1 h2 h3) (by omega)).mono ?_
    rintro e2 w' ⟨b, rfl, hb1, hb2⟩
    obtain rfl : b = true := hb1.2 (by rw [e]; rfl)
    exact ⟨rfl, bl.trans (hb2.mono bl.size)⟩))
  unfold ptr Msg.val Msg.cs at *
  go_enter Tryz.func6, Tryz.ntmps6
  go_upto_region 4 with (first
    | (go_at_call 23; refine (NW.out _).mono ?_; rintro e w1 ⟨tb, r, T0, rfl, t1, t2, t3, t4⟩; have S0 := hidi (ldr0 t1 t2 t3 t4); have N0 := hidi (nn0 t1); clear t1 t2 t3 t4 NW; unfold ptr at N0)
    | (go_at_call 17; refine N0.out.mono ?_; rintro e w' ⟨rfl, he⟩; obtain rfl := he.symm; clear N0))
  go_wp2_with fail
  obtain ⟨w2, hw2⟩ : ∃ w2, w2 = w1.alloc (.cells #[.string { data := #[98] }, .string { data := #[97, 47, 98] }, .string { data := #[36, 97] }, .string { data := #[97] }] 9) := ⟨_, rfl⟩
  have TX := hidi (show w2.heap[w1.heap.size]? = some (.cells #[.string fB, .string fAB, .string fD, .string fA] 9 (0, 0)) from by rw [hw2]; exact heap_alloc_new _ _)
  have S1 := hidi (S0.out.below (show Below w1.heap.size w1 w2 from by rw [hw2]; exact (Below.refl _ _).alloc (Nat.le_refl _) _))
  rw [← hw2]
  clear hw2 S0
  obtain ⟨xb, hxb⟩ : ∃ xb, xb = w1.heap.size := ⟨_, rfl⟩
  rw [← hxb] at TX ⊢
  clear hxb
  go_loopg [3, 4, 5, 20] 4 (fun gg s3 s4 s5 s20 wx => ∃ k : Nat, k ≤ 4 ∧ gg = 4 - k ∧ s20 = .int .i64 k ∧ Hid (LdR w wx tb r k (holdM (L4.take k))) ∧ Hid (wx.heap[xb]? = some (.cells #[.string fB, .string fAB, .string fD, .string fA] 9 (0, 0))))
  case atStart => exact ⟨0, Nat.zero_le _, rfl, rfl, S1, TX⟩
  case round =>
    obtain ⟨k, hk, rfl, rfl, LK, XK⟩ := hrel
    by_cases hlt : k < 4
    · have hlt' : (k : Int) < 4 := by omega
      obtain ⟨m, hs⟩ : ∃ m, L4[k]? = some m := ⟨_, List.getElem?_eq_getElem (show k < L4.length from hlt)⟩
      have c0 := tx_cell XK.out hs
      have OKm := hidi (fun (w : World) => OK.out k m hs w)
      have PKm := hidi (fun (w1 wo : World) (v : Value) (h : LdR w w1 tb r k (holdM (L4.take k))) (o : OfR w1 wo v m.xs) => PK.out k m hs w1 wo tb r v h o)
      have hw : IntKind.i64.wrap ((k : Int) + 1) = (k : Int) + 1 := by rw [IntKind.wrap_i64]; omega
      clear hs
      go_wp2_with (first
        | (go_at_call 24; refine (OKm.out _).mono ?_; rintro e wo ⟨v, rfl, o⟩; have PP := hidi (PKm.out _ _ v LK.out o); have XO := hidi (later_at XK.out o.be); clear o c0)
        | (go_at_call 9; refine PP.out.mono ?_; rintro e w2 ⟨rfl, ld, hx⟩; have LD := hidi ld; have XD := hidi (hx _ _ XO.out); clear ld hx PP))
      go_roundg (4 - (k + 1))
      case measure => omega
      case rel => exact ⟨k + 1, by omega, rfl, rfl, LD, XD⟩
    · have hlt' : ¬ (k : Int) < 4 := by omega
      obtain rfl : k = 4 := by omega
      have S4 := hidi (show LdR w wr tb r 4 (holdM L4) from LK.out)
      clear LK XK OK PK TX S1
      go_upto_region 13 with (first
        | (go_at_call 19; refine (F19.out _ tb).mono ?_; rintro e wa ⟨x, y, rfl, hx, hy, hb⟩; have BA := hidi hb; have C1 := hidi (KF.out wr wa tb r x y S4.out hb hx hy); clear hx hy hb F19 KF; unfold ptr at C1)
        | (go_at_call 12; refine C1.out.mono ?_; rintro e wb ⟨v1, X1, rfl, hm, he, hb⟩; have M1 := hidi hm; have E1 := hidi he; have BB := hidi (BA.out.trans (hb.mono BA.out.size)); clear hm he hb C1 BA)
        | (go_at_call 13; refine (A13.out _ tb).mono ?_; rintro e wc ⟨x, rfl, hx, hb⟩; have BC := hidi (BB.out.trans (hb.mono BB.out.size)); have M2 := hidi (M1.out.below hb); have C2 := hidi (KA.out wr wc tb r x S4.out BC.out hx); clear hx hb A13 KA BB M1; unfold ptr at C2)
        | (go_at_call 12; refine C2.out.mono ?_; rintro e wd ⟨v2, X2, rfl, hm, he, hb⟩; obtain ⟨g, o, c, rfl, hc, hcell⟩ := first4 hm he; have M3 := hidi (M2.out.below hb); have FC := hidi hcell; have BD := hidi (BC.out.trans (hb.mono BC.out.size)); have HC := hidi hc; clear hm he hb hcell hc C2 BC M2))
      have hc4 : (0 : Int) < 4 := by omega
      go_wp2_with (first
        | (go_at_call 24; refine (OA.out _).mono ?_; rintro e we ⟨a1, rfl, o1⟩; have PA := hidi o1.pr; have BE := hidi o1.be; clear o1 OA)
        | (go_at_call 24; refine (OAB.out _).mono ?_; rintro e wf ⟨a2, rfl, o2⟩; have PB := hidi o2.pr; have BF := hidi o2.be; clear o2 OAB)
        | (go_at_call 24; refine (OB.out _).mono ?_; rintro e wg ⟨a3, rfl, o3⟩; have PC := hidi o3.pr; have BG := hidi o3.be; clear o3 OB)
        | (go_at_call 14; refine (SM.out _ v1 a1 a2 a3 X1 (((M3.out.below BE.out).below BF.out).below BG.out) E1.out ((PA.out.below BF.out).below BG.out) (PB.out.below BG.out) PC.out).mono ?_; rintro e wh ⟨rfl, hb⟩; have b1 := ((BE.out.trans (BF.out.mono BE.out.size)).trans (BG.out.mono (BE.out.trans (BF.out.mono BE.out.size)).size)); have b2 := b1.trans (hb.mono b1.size); have c0 := FC.out wh b2; have BH := hidi (BD.out.trans (b2.mono BD.out.size)); have C5 := hidi (K5.out wr wh tb r S4.out BH.out); clear b1 b2 hb SM FC K5; unfold ptr at C5)
        | (go_at_call 17; refine C5.out.mono ?_; rintro e w' ⟨rfl, he⟩; obtain rfl := he.symm; have CD := hidi (KD.out wr _ tb r S4.out BH.out); clear C5 KD c0; unfold ptr at CD)
        | (go_at_call 11; refine CD.out.mono ?_; rintro e wi ⟨rfl, dk⟩; have DI := hidi dk; have C4 := hidi (K4.out wi tb r dk); clear dk CD K4; unfold ptr at C4)
        | (go_at_call 17; refine C4.out.mono ?_; rintro e w' ⟨rfl, he⟩; obtain rfl := he.symm))
      go_ret
      exact ⟨rfl, DI.out.be⟩
end Go.Proofs.YtipagdhoeocjeaaGreat.Li
