import Derived.Test.YtipagdhoeocjeaaGreatNr
import Derived.Test.YtipagdhoeocjeaaGreatKu
import Derived.Test.YtipagdhoeocjeaaGreatNk
import Derived.Sort.KeysCollected
namespace Go.Proofs.YtipagdhoeocjeaaGreat.Li
open Go Go.RowKit Go.Shelf
set_option linter.unusedSimpArgs false
set_option linter.unusedVariables false
attribute [local go_sem] Oper.semAt_some
variable {w₀ : World} {tb r nb lb wb : Nat} {nf nn : Int} {T : List Fn}
/-- The same, where nothing panics. -/
def npn (Q : Exit → Act → World → Prop) : Exit → Act → World → Prop
  | .panic _, _, _ => False
  | .outgrown, _, _ => False
  | .normal, a, w => Q .normal a w
  | .ret, a, w => Q .ret a w
  | .exit i, a, w => Q (.exit i) a w
  | .goto l, a, w => Q (.goto l) a w
theorem npn_le {Q : Exit → Act → World → Prop} : ∀ e a w, npn Q e a w → Q e a w := fun e a w h => by
  cases e <;> first | exact h | exact h.elim
theorem npn_ret {Q : Exit → Act → World → Prop} {a : Act} {w : World} (h : Q .ret a w) : npn Q .ret a w := h
/-- Does a topic of these levels begin with the sign that hides it? -/
def hidB : List ByteArray → Bool
  | x :: _ => Lib.hasPrefix x.data.toList [36]
  | [] => false
/-- What a filter finds. -/
def FindS (f : ByteArray) (F : List ByteArray) : Prop := rfc f = 0 ∧ ¬ (hidB F = true ∧ hd0 ((levels f).map unB) = true) ∧ mtb (levels f) F = true
theorem hd0_cons (z : ByteArray) (zs : List ByteArray) : hd0 ((z :: zs).map unB) = true ↔ z = pls ∨ z = hsh := by
  unfold hd0
  simp only [List.map_cons]
  rw [Bool.or_eq_true, decide_eq_true_iff, decide_eq_true_iff, un_pls, un_hsh]
theorem root_of (h : Tw w₀ tb r nf nn T) : ∃ q ∈ T, q.s.A = [] ∧ q.s.p = r ∧ q.s.top = 0 := by
  obtain ⟨q, hq, e1, e2⟩ := h.tm.rt
  exact ⟨q, hq, e1, e2, by unfold Nd.top; rw [e1]; simp⟩
/-- No sign ahead: from the root on. -/
theorem all_plain {q : Fn} (e1 : q.s.A = []) (e3 : q.s.top = 0) {f : ByteArray} (hf : rfc f = 0) {z : ByteArray} {zs : List ByteArray} (hl : levels f = z :: zs) (h1 : z ≠ pls) (h2 : z ≠ hsh) {Y : List Msg} (h : All T (Mt (levels f) q) Y) : All T (FindS f) Y :=
  h.ext (fun F _ => by
    unfold Mt FindS
    rw [e1, e3, List.drop_zero]
    constructor
    · rintro ⟨_, b⟩
      refine ⟨hf, fun c => ?_, b⟩
      rw [hl] at c
      rcases (hd0_cons z zs).1 c.2 with e | e
      · exact h1 e
      · exact h2 e
    · rintro ⟨_, _, b⟩
      exact ⟨List.nil_prefix, b⟩)
/-- A sign ahead: what is hidden is passed by. -/
theorem all_sign (h : Tw w₀ tb r nf nn T) {q : Fn} (hq : q ∈ T) (e1 : q.s.A = []) {f : ByteArray} (hf : rfc f = 0) {z : ByteArray} {zs : List ByteArray} (hl : levels f = z :: zs) (hz : z = pls ∨ z = hsh) {Z : List Msg} (hZ : All T (fun F => ∃ k ∈ T, Kid q.s k.s ∧ k.s.A <+: F ∧ (hidB F = false ∧ mtb (levels f) (F.drop k.s.top) = true)) Z) : All T (FindS f) Z :=
  hZ.ext (fun F hF => by
    have hs : hd0 ((levels f).map unB) = true := by rw [hl]; exact (hd0_cons z zs).2 hz
    constructor
    · rintro ⟨k, hk, kk, a, b, c⟩
      have kt : k.s.top = 0 := by rw [kk.2.1, e1]; rfl
      rw [kt, List.drop_zero] at c
      exact ⟨hf, (fun d => by rw [d.1] at b; cases b), c⟩
    · rintro ⟨_, a, b⟩
      have hh : hidB F = false := by
        cases c : hidB F with
        | false => rfl
        | true => exact (a ⟨c, hs⟩).elim
      obtain ⟨m, g, hg, g1, g2⟩ := hF
      have hne : F ≠ [] := fun c => by
        have := (h.msk g hg m g2).2.1
        rw [g1, c] at this
        obtain ⟨u, v, e, _⟩ := levels_head m.t
        rw [e] at this
        cases this
      obtain ⟨e', he, ke, pe⟩ := h.tm.inv.way _ g.s (List.mem_map_of_mem hg) (Nat.le_refl _) q.s (List.mem_map_of_mem hq) (by rw [e1]; exact List.nil_prefix) (by rw [e1, g1]; exact List.length_pos_iff.2 hne)
      obtain ⟨k, hk, rfl⟩ := List.mem_map.1 he
      have kt : k.s.top = 0 := by rw [ke.2.1, e1]; rfl
      exact ⟨k, hk, ke, by rw [← g1]; exact pe, hh, by rw [kt, List.drop_zero]; exact b⟩)
/-- The first level of what lies below a kid of the root. -/
theorem kid_hid (h : Tw w₀ tb r nf nn T) {q k : Fn} (e1 : q.s.A = []) (hk : k ∈ T) (kk : Kid q.s k.s) {F : List ByteArray} (hp : k.s.A <+: F) : hidB F = Lib.hasPrefix (fl k).data.toList [36] := by
  obtain ⟨R, hR⟩ := kid_form h.tm.inv hk kk hp
  rw [hR, e1]
  rfl
set_option maxRecDepth 100000 in
set_option maxHeartbeats 8000000 in
theorem tfind_any (h : Tw w₀ tb r nf nn T) {W : World} {X : List Ml} (f : ByteArray) (hb : Below w₀.heap.size w₀ W) (g : GS w₀.heap.size nb lb wb X W) (hX : X.length ≤ 1000) :
    Calls Tryz.prog 37 #[ptr tb, .string f, yv wb nb lb] W fun e W' => e = .returned (.tuple #[]) ∧ FR w₀ nb lb wb T (FindS f) X W W' := by
  obtain ⟨y, hy⟩ : ∃ y, y = yv wb nb lb := ⟨_, rfl⟩
  rw [← hy]
  obtain ⟨wf, yb, hyv⟩ : ∃ wf yb, y = .func wf #[] yb := ⟨_, _, hy⟩
  have HY := hidi hy
  subst hyv
  clear hy
  have hs := hb.size
  have FC := hidi (fun (w : World) => fcheck_any f w)
  have hbox := heap_alloc_new W (.cells #[.func wf #[] yb] 63)
  have BA := hidi (show Below W.heap.size W (W.alloc (.cells #[.func wf #[] yb] 63)) from (Below.refl _ _).alloc (Nat.le_refl _) _)
  have GB := hidi (fun (W' : World) (be : Below W.heap.size W W') => g.below be)
  have KNO := hidi (fun (W' : World) (be : Below W.heap.size W W') => (KN.of be hs : KN w₀.heap.size (Xg lb wb) W W'))
  by_cases hf : rfc f = 0
  · obtain ⟨z, zs, hl, -⟩ := levels_head f
    rw [show rfc f = 0 from hf] at FC
    obtain ⟨q, hq, e1, e2, e3⟩ := root_of h
    have hfs := (rfc_zero hf).1
    have LV := hidi (fun (w : World) => tlevels_any f (by omega) w)
    have TR := hidi (fun (W' : World) (be : Below W.heap.size W W') => (show W'.cell? ⟨tb, 0, none⟩ = some (ptr r) from box_cells (h.tm.below (hb.trans (be.mono hs))).tr 0 _ rfl))
    have bounds : T.length ≤ 400 ∧ T.length * (T.length * T.length + 1) ≤ 70000000 := by
      have hf := h.few
      refine ⟨hf, ?_⟩
      have h1 := Nat.mul_le_mul hf hf
      have h2 := Nat.mul_le_mul hf (Nat.add_le_add_right h1 1)
      omega
    have FND := hidi (fun (W' : World) (k : Fn) (hk : k ∈ T) (v : Value) (hb' : Below w₀.heap.size w₀ W') (Y : List Ml) (gY : GS w₀.heap.size nb lb wb (X ++ Y) W') (hY : Y.length ≤ T.length * T.length) (R : Rw W' v (levels f)) => find_any h (cnt T k) W' k (X ++ Y) v (levels f) hb' hk gY R (by have := levels_len f; omega) (fun t ht => by have := levels_size f t ht; omega) (Nat.le_refl _) (by
      have h3 := Nat.mul_le_mul_right (T.length * T.length + 1) (cnt_le (T := T) (d := k))
      have h4 := Nat.mul_le_mul bounds.1 bounds.1
      rw [List.length_append]
      omega))
    rw [← HY.out] at FND
    have HH := hidi (And.intro h (And.intro hb (And.intro g (And.intro hs (And.intro hq (And.intro e1 (And.intro e2 e3)))))))
    have HF := hidi (And.intro hf hl)
    have HBX := hidi hbox
    unfold ptr at *
    clear h hb g hX hs hbox bounds hq e1 e3 hf hl
    refine (callsIn_wide (n := 5)).1 ?_
    refine callsIn_of_wp_marks Tryz.func37 rfl trivial ?_ rfl
    simp only [Tryz.ntmps37, List.size_toArray, List.length_cons, List.length_nil, Nat.reduceAdd, Nat.reduceSub, Array.replicate_succ, Array.replicate_zero, List.push_toArray, List.append_toArray, List.nil_append, List.cons_append]
    refine wpIn_mono (Q := npn (bodyPostM Fence.wide 5 Tryz.prog Tryz.f37 _)) ?_ npn_le
    refine wpIn_wide.2 ?_
    go_upto_region 3 with (first
      | (go_at_call 40; refine (FC.out _).mono ?_; rintro e w1 ⟨rfl, hb1⟩; have B1 := hidi (BA.out.trans (hb1.mono BA.out.size)); have X1 := hidi (later_at HBX.out hb1); clear hb1 FC)
      | (go_at_call 28; refine (LV.out _).mono ?_; rintro e w2 ⟨v, rfl, ho, hb2⟩; obtain ⟨va, vc, rfl⟩ := own_sl ho; have HO := hidi ho; have HB2 := hidi hb2; clear ho hb2 LV))
    obtain ⟨w3, hw3⟩ : ∃ w3, w3 = w2.alloc (.cells #[.slice va (levels f).length vc] 45) := ⟨_, rfl⟩
    obtain ⟨B2, hB2⟩ : ∃ B2, B2 = w2.heap.size := ⟨_, rfl⟩
    have b23 : Below w2.heap.size w2 w3 := by rw [hw3]; exact (Below.refl _ _).alloc (Nat.le_refl _) _
    have B3 := hidi (show Below W.heap.size W w3 from (B1.out.trans (HB2.out.mono B1.out.size)).trans (b23.mono (by have := B1.out.size; have := HB2.out.size; omega)))
    have x3 : w3.heap[W.heap.size]? = some (.cells #[.func wf #[] yb] 63 (0, 0)) := later_at (later_at X1.out HB2.out) b23
    have y3 : w3.heap[B2]? = some (.cells #[.slice va (levels f).length vc] 45 (0, 0)) := by rw [hw3, hB2]; exact heap_alloc_new _ _
    have r3 : Rw w3 (.slice va (levels f).length vc) (levels f) := (rw_own HO.out).below b23
    rw [← hw3, ← hB2]
    have sB2 := hidi (show W.heap.size < B2 from by have := B1.out.size; have := HB2.out.size; have := (Array.getElem?_eq_some_iff.1 X1.out).1; omega)
    have XY := hidi (And.intro x3 (And.intro y3 r3))
    have R3 := r3
    rw [HF.out.2] at R3
    obtain ⟨g0, o, n', c', e5, hn', hc', hgl, c0, -⟩ := R3.row.cons
    simp only [Value.slice.injEq] at e5
    obtain ⟨rfl, e6, rfl⟩ := e5
    have p0 : (0 : Int) < ((levels f).length : Nat) := by rw [HF.out.2]; simp
    have l1 := box_cells x3 0 _ rfl
    have l2 := box_cells y3 0 _ rfl
    have l3 := TR.out w3 B3.out
    obtain ⟨n5, hn5⟩ : ∃ n5, n5 = (levels f).length := ⟨_, rfl⟩
    rw [← hn5] at p0 l2 XY ⊢
    clear hw3 hB2 b23 x3 y3 r3 R3 e6 hn' hc' hgl X1 HO HB2 B1 HBX BA hn5
    by_cases hz : z = pls ∨ z = hsh
    · have HZ := hidi hz
      have IO := hidi (fun (h1 : Tw w₀ tb r nf nn T) (h2 : q ∈ T) => inorder_any (f := q) (w := w3) (h1.tm.below (HH.out.2.1.trans (B3.out.mono HH.out.2.2.2.1))) h2 (by have := h1.few; omega))
      have IO2 := hidi (IO.out HH.out.1 HH.out.2.2.2.2.1)
      rw [e2] at IO2
      have STP : ∃ K, Hid (K = z) := ⟨z, rfl⟩
      have qq : ((z.toList == (⟨#[43]⟩ : ByteArray).toList) = true ∧ (z.toList == [43]) = true) ∨ ((z.toList == (⟨#[43]⟩ : ByteArray).toList) = false ∧ (z.toList == [43]) = false ∧ (z.toList == (⟨#[35]⟩ : ByteArray).toList) = true ∧ (z.toList == [35]) = true) := by
        by_cases c : z = pls
        · exact .inl ⟨by rw [eq_one]; exact decide_eq_true (un_pls.2 c), by rw [eq_one']; exact decide_eq_true (un_pls.2 c)⟩
        · have c2 : z = hsh := hz.elim (fun e => (c e).elim) id
          exact .inr ⟨by rw [eq_one]; exact decide_eq_false (fun e => c (un_pls.1 e)), by rw [eq_one']; exact decide_eq_false (fun e => c (un_pls.1 e)), by rw [eq_one]; exact decide_eq_true (un_hsh.2 c2), by rw [eq_one']; exact decide_eq_true (un_hsh.2 c2)⟩
      go_cut [22] from 13 (fun s22 wx => s22 = .bool false ∧ Hid (wx = w3))
      case first =>
        rcases qq with ⟨q2, q2'⟩ | ⟨q2, q2', q1, q1'⟩
        · go_wp2_with fail
          all_goals go_meet
          all_goals exact ⟨rfl, rfl⟩
        · go_wp2_with fail
          all_goals go_meet
          all_goals exact ⟨rfl, rfl⟩
      case rest =>
      obtain ⟨rfl, hwc⟩ := hcut
      obtain rfl := hwc.out.symm
      go_wp2_with (go_at_call 54; refine IO2.out.mono ?_; rintro e w4 ⟨bs, K, rfl, ka, ko, hbs, hb2⟩; have HK := hidi (And.intro ka (And.intro ko (And.intro hbs hb2))); clear ka ko hbs hb2 IO IO2)
      refine (wpIn_wide (n := 5)).1 ?_
      obtain ⟨ka, ko, hbs, hb2⟩ := HK.out
      have hsW := HH.out.2.2.2.1
      have sB := B3.out.size
      have B2l : B2 < w3.heap.size := (Array.getElem?_eq_some_iff.1 XY.out.2.1).1
      obtain ⟨lv', hl0, -⟩ := HH.out.2.2.1.l_
      have lbl : lb < W.heap.size := (Array.getElem?_eq_some_iff.1 hl0).1
      have wbl : wb < W.heap.size := (Array.getElem?_eq_some_iff.1 HH.out.2.2.1.w_).1
      have s2 := hb2.size
      have hKl : K.length ≤ T.length := by have := ko.len; rwa [List.length_map] at this
      have hfw := HH.out.1.few
      have GW := HH.out.2.2.1.below B3.out
      have HGW := hidi GW
      have fj0 : FJ w₀ nb lb wb T (fun k F => hidB F = false ∧ mtb (levels f) (F.drop k.s.top) = true) X w3 [] w4 := ⟨⟨[], by rw [List.append_nil]; exact GW.below hb2, blkp_nil _, by simp⟩, KN.of hb2 (by omega)⟩
      refine wpIn_rangeFunc_ownG rfl (by omega) (gf := 81) (lb := #[ptr bs]) rfl trivial (enters_of Tryz.func81 (by kernel_rfl) rfl)
        (vals81_stops (n₀ := w₀.heap.size) (X := Xg lb wb) ka (by omega) (fun j hj c => by rcases c with c | c | c <;> omega) (fun c => by rcases c with c | c | c <;> omega) 4 (by omega)) Kn_t (fun W l o o' a b c e => Kn_b (by omega) W l o o' a b c e) (Below.refl _ _) (fun _ => rfl)
        (fun pre W' => FJ w₀ nb lb wb T (fun k F => hidB F = false ∧ mtb (levels f) (F.drop k.s.top) = true) X w3 (pre.map (·.1)) W') (fun _ _ _ => False)
        (FJ.own (by omega) (by omega)) (fun _ _ _ _ _ hs _ _ => hs) fj0
        (fun x => { tmps := #[Value.pointer (some { block := tb, off := 0 }), Value.string f, Value.func wf #[] yb, undef, undef, Value.pointer (some { block := W.heap.size, off := 0 }), Value.pointer (some { block := B2, off := 0 }), enc x, Value.string f, Value.int IntKind.i64 0, Value.bool false, Value.string f, Value.slice (some { block := g0, off := o }) n5 vc, u13, u14, u15, u16, u17, u18, u19, u20, u21, Value.bool false, u23, u24, u25, u26, u27, u28, u29, Value.pointer (some { block := tb, off := 0 }), Value.pointer (some { block := tb, off := 0 }), Value.pointer (some { block := tb, off := 0 }), Value.pointer (some { block := r, off := 0 }), Value.func (Fn.func 81) #[] #[ptr bs], enc x, u36, u37, u38, u39, u40, u41, u42, u43, u44, u45, u46, u47, u48, u49, u50], defers := [] }) ?assign ?body ?done ?stop
      case assign =>
        intro l x W K hK
        unfold enc ptr
        gi_wp2
        exact hK
      case stop =>
        intro D c pre W _ _ h _
        exact h.elim
      case body =>
        rintro l pre x W' fj hlt
        obtain ⟨⟨Y, gY, bk, le⟩, kn⟩ := fj
        have y1 := box_cells (kn.kn.cl _ _ _ _ XY.out.1 (fun c => by rcases c with c | c | c <;> omega)) 0 _ rfl
        have y2 := box_cells (kn.kn.cl _ _ _ _ XY.out.2.1 (fun c => by have := sB2.out; rcases c with c | c | c <;> omega)) 0 _ rfl
        have hbW := HH.out.2.1.trans ((B3.out.mono hsW).trans kn.kn.be)
        obtain ⟨ga, ca, f1, f2, cuf, f3⟩ := fl_cells (HH.out.1.tm.below hbW) x.2.1 x.2.2.1
        have z1 := box_cells f1 0 _ rfl
        have pm : (0 : Int) < x.1.s.m := by have := x.2.2.1; omega
        have HP := hidi (fun w => Tryz.strings_HasPrefix (fl x.1) ⟨#[36]⟩ w)
        have hpre : (pre.map (·.1)).length ≤ T.length := by rw [List.length_map]; omega
        have hmm := Nat.mul_le_mul_right T.length hpre
        have kh := fun (F : List ByteArray) (hp : x.1.s.A <+: F) => kid_hid HH.out.1 HH.out.2.2.2.2.2.1 x.2.1 x.2.2 hp
        obtain ⟨hid, hhid⟩ : ∃ hid, hid = Lib.hasPrefix (fl x.1).data.toList [36] := ⟨_, rfl⟩
        have HP2 : Hid (∀ w, Calls Tryz.prog 58 #[.string (fl x.1), .string ⟨#[36]⟩] w fun e w' => e = .returned (.bool hid) ∧ w' = w) := by
          show ∀ w, Calls Tryz.prog 58 #[.string (fl x.1), .string ⟨#[36]⟩] w fun e w' => e = .returned (.bool hid) ∧ w' = w
          intro w
          rw [hhid]
          exact HP.out w
        rw [← hhid] at kh
        cases hid with
        | true =>
          have FF := hidi (show KeepsFrom w4.heap.size W' W' ∧ Kn w₀.heap.size (Xg lb wb) W' W' ∧ FJ w₀ nb lb wb T (fun k F => hidB F = false ∧ mtb (levels f) (F.drop k.s.top) = true) X w3 ((pre ++ [x]).map (·.1)) W' from by
            refine ⟨KeepsFrom.refl _ _, Kn.refl _, ?_⟩
            rw [List.map_append]
            exact FJ.next (S := fun _ => False) kn bk le ⟨⟨[], by rw [List.append_nil]; exact gY, all_none (fun F _ e => e)⟩, KN.refl W'⟩ (fun F _ => ⟨fun e => e.elim, fun e => by rw [kh F e.1] at e; cases e.2.1⟩))
          unfold enc ptr
          clear gY bk le kn hmm hpre kh hhid HP f1 hbW y1 y2
          gi_wp2_with (refine ⟨trivial, ?_⟩; gi_at_call 58; refine ((callsIn_wide (n := _)).2 (HP2.out _)).mono ?_; rintro e W2 ⟨rfl, rfl⟩; clear HP2)
          refine ⟨trivial, ?_⟩
          gi_wp2
          exact opg FF.out
        | false =>
          have RC := hidi (FND.out W' x.1 x.2.1 (.slice (some ⟨g0, o, none⟩) n5 vc) hbW Y gY (by omega) (XY.out.2.2.kn kn HGW.out))
          have NXT := hidi (fun (W2 : World) (fr : FR w₀ nb lb wb T (Mt (levels f) x.1) (X ++ Y) W' W2) => (show KeepsFrom w4.heap.size W' W2 ∧ Kn w₀.heap.size (Xg lb wb) W' W2 ∧ FJ w₀ nb lb wb T (fun k F => hidB F = false ∧ mtb (levels f) (F.drop k.s.top) = true) X w3 ((pre ++ [x]).map (·.1)) W2 from by
            refine ⟨fr.kn.from _, fr.kn.kn, ?_⟩
            rw [List.map_append]
            exact FJ.next kn bk le fr (fun F _ => ⟨fun e => ⟨e.1, kh F e.1, e.2⟩, fun e => ⟨e.1, e.2.2⟩⟩)))
          unfold enc ptr
          unfold ptr at RC
          clear gY bk le kn hmm hpre kh hhid HP f1 hbW
          gi_wp2_with (first
            | (refine ⟨trivial, ?_⟩; gi_at_call 58; refine ((callsIn_wide (n := _)).2 (HP2.out _)).mono ?_; rintro e W2 ⟨rfl, he⟩; obtain rfl := he.symm; clear HP2 he)
            | (refine ⟨trivial, ?_⟩; gi_at_call 57; refine ((callsIn_wide (n := _)).2 RC.out).mono ?_; rintro e W2 ⟨rfl, fr⟩; have FF := hidi (NXT.out W2 fr); clear fr NXT RC))
          exact opg FF.out
      case done =>
        rintro D ys W' hD hys fj hK
        obtain rfl : ys = K := hys
        obtain ⟨⟨Y, gY, bk, le⟩, kn⟩ := fj
        have al := all_sign HH.out.1 HH.out.2.2.2.2.1 HH.out.2.2.2.2.2.1 HF.out.1 HF.out.2 HZ.out (blkp_all HH.out.1 HH.out.2.2.2.2.1 ko bk)
        have FRR := hidi (fr_put (⟨⟨Y, gY, al⟩, (KNO.out _ B3.out).trans kn⟩ : FR w₀ nb lb wb T (FindS f) X W W') hsW (by omega) hK)
        have HK3 := hidi hK
        clear gY bk le al hK
        (try simp only [Exit.inBlock, Exit.then])
        exact ⟨by simp, .inl ⟨_, _, rfl, run_takeDeferred HK3.out, ⟨_, results_none rfl _ _ _, rfl, FRR.out⟩⟩⟩
    · have h1 : z ≠ pls := fun e => hz (.inl e)
      have h2 : z ≠ hsh := fun e => hz (.inr e)
      have q2 : (z.toList == (⟨#[43]⟩ : ByteArray).toList) = false := by rw [eq_one]; exact decide_eq_false (fun c => h1 (un_pls.1 c))
      have q2' : (z.toList == [43]) = false := by rw [eq_one']; exact decide_eq_false (fun c => h1 (un_pls.1 c))
      have q1 : (z.toList == (⟨#[35]⟩ : ByteArray).toList) = false := by rw [eq_one]; exact decide_eq_false (fun c => h2 (un_hsh.1 c))
      have q1' : (z.toList == [35]) = false := by rw [eq_one']; exact decide_eq_false (fun c => h2 (un_hsh.1 c))
      have D3 := hidi ((Below.refl w3.heap.size w3).drew)
      have CC := hidi (FND.out w3.drew q HH.out.2.2.2.2.1 (.slice (some ⟨g0, o, none⟩) n5 vc) (HH.out.2.1.trans ((B3.out.trans (D3.out.mono B3.out.size)).mono HH.out.2.2.2.1)) [] (by rw [List.append_nil]; exact HH.out.2.2.1.below (B3.out.trans (D3.out.mono B3.out.size))) (Nat.zero_le _) (XY.out.2.2.below D3.out))
      rw [e2] at CC
      have EN := hidi (fun (W2 : World) (fr : FR w₀ nb lb wb T (Mt (levels f) q) (X ++ []) w3.drew W2) => (show FR w₀ nb lb wb T (FindS f) X W W2 from by
        obtain ⟨⟨Y, gY, al⟩, kn⟩ := fr
        rw [List.append_nil] at gY
        exact ⟨⟨Y, gY, all_plain HH.out.2.2.2.2.2.1 HH.out.2.2.2.2.2.2.2 HF.out.1 HF.out.2 h1 h2 al⟩, (KNO.out _ (B3.out.trans (D3.out.mono B3.out.size))).trans kn⟩))
      clear hz h1 h2 FND
      go_wp2_with fail
      go_region_with (go_at_call 57; refine CC.out.mono ?_; rintro e W2 ⟨rfl, fr⟩; have END := hidi (EN.out W2 fr); clear fr CC EN)
      all_goals go_wp2_with fail
      all_goals exact npn_ret ⟨_, results_none rfl _ _ _, rfl, END.out⟩
  · obtain ⟨c, hc⟩ : ∃ c, c = rfc f := ⟨_, rfl⟩
    rw [← hc] at FC
    have hne : (c == 0) = false := by rw [beq_eq_false_iff_ne, hc]; exact hf
    have AL := hidi (show All T (FindS f) [] from all_none (fun F _ e => hf e.1))
    unfold ptr
    refine (callsIn_wide (n := 5)).1 ?_
    clear hc hf hbox
    refine callsIn_of_wp_marks Tryz.func37 rfl trivial ?_ rfl
    simp only [Tryz.ntmps37, List.size_toArray, List.length_cons, List.length_nil, Nat.reduceAdd, Nat.reduceSub, Array.replicate_succ, Array.replicate_zero, List.push_toArray, List.append_toArray, List.nil_append, List.cons_append]
    refine wpIn_mono (Q := npn (bodyPostM Fence.wide 5 Tryz.prog Tryz.f37 _)) ?_ npn_le
    refine wpIn_wide.2 ?_
    go_wp2_with (go_at_call 40; refine (FC.out _).mono ?_; rintro e w1 ⟨rfl, hb1⟩; have B1 := hidi (BA.out.trans (hb1.mono BA.out.size)); clear hb1 FC)
    exact npn_ret ⟨_, results_none rfl _ _ _, rfl, ⟨[], by rw [List.append_nil]; exact GB.out _ B1.out, AL.out⟩, KNO.out _ B1.out⟩
end Go.Proofs.YtipagdhoeocjeaaGreat.Li
namespace Go.Proofs.YtipagdhoeocjeaaGreat.Li
open Go Go.RowKit Go.Shelf
set_option linter.unusedSimpArgs false
set_option linter.unusedVariables false
variable {w₀ : World} {tb r nb lb wb : Nat} {nf nn : Int} {T : List Fn}
theorem size_alloc (w : World) (o : Obj) : (w.alloc o).heap.size = w.heap.size + 1 := by show (w.heap.push o).size = _; simp
set_option maxRecDepth 100000 in
set_option maxHeartbeats 4000000 in
theorem find1_any (h : Tw w₀ tb r nf nn T) {W : World} {X : List Ml} (f : ByteArray) (hb : Below w₀.heap.size w₀ W) (g : GS w₀.heap.size nb lb wb X W) (hX : X.length ≤ 1000) {a b : Nat} (ha : W.heap[a]? = some (.cells #[ptr tb] 25 (0, 0))) (hbx : W.heap[b]? = some (.cells #[.string f] 9 (0, 0))) :
    Calls Tryz.prog 36 #[yv wb nb lb, ptr a, ptr b] W fun e W' => e = .returned (.tuple #[]) ∧ FR w₀ nb lb wb T (FindS f) X W W' := by
  have C := hidi (tfind_any h f hb g hX)
  have l1 := box_cells ha 0 _ rfl
  have l2 := box_cells hbx 0 _ rfl
  unfold yv ptr at *
  clear h hb g hX ha hbx
  go_enter Tryz.func36, Tryz.ntmps36
  go_wp2_with (go_at_call 37; refine C.out.mono ?_; rintro e W2 ⟨rfl, fr⟩; have END := hidi fr; clear fr C)
  go_end0
  exact ⟨rfl, END.out⟩
set_option maxRecDepth 100000 in
set_option maxHeartbeats 4000000 in
theorem all1_any (h : Tw w₀ tb r nf nn T) {W : World} {X : List Ml} (hb : Below w₀.heap.size w₀ W) (g : GS w₀.heap.size nb lb wb X W) (hX : X.length ≤ 1000) {a : Nat} (ha : W.heap[a]? = some (.cells #[ptr tb] 25 (0, 0))) :
    Calls Tryz.prog 31 #[yv wb nb lb, ptr a] W fun e W' => e = .returned (.tuple #[]) ∧ FR w₀ nb lb wb T (fun _ => True) X W W' := by
  obtain ⟨q, hq, e1, e2, e3⟩ := root_of h
  have C := hidi (tell_any h (nb := nb) (lb := lb) (wb := wb) (cnt T q) W q X hb hq g (Nat.le_refl _) (by
    have hf := h.few
    have h1 := Nat.mul_le_mul hf hf
    have h3 := Nat.mul_le_mul (cnt_le (T := T) (d := q)) (Nat.le_refl (T.length * T.length + 1))
    have h2 := Nat.mul_le_mul hf (Nat.add_le_add_right h1 1)
    omega))
  rw [e2] at C
  have EN := hidi (fun (W' : World) (Y : List Ml) (g' : GS w₀.heap.size nb lb wb (X ++ Y) W') (al : All T (fun F => q.s.A <+: F) (Y.map (·.1))) (kn : KN w₀.heap.size (Xg lb wb) W W') => (show FR w₀ nb lb wb T (fun _ => True) X W W' from ⟨⟨Y, g', al.ext (fun F _ => by rw [e1]; exact ⟨fun _ => trivial, fun _ => List.nil_prefix⟩)⟩, kn⟩))
  have l1 := box_cells ha 0 _ rfl
  have l2 := box_cells (h.tm.below hb).tr 0 _ rfl
  unfold yv ptr at *
  clear h hb g hX ha hq e1 e2 e3
  go_enter Tryz.func31, Tryz.ntmps31
  go_wp2_with (go_at_call 32; refine C.out.mono ?_; rintro e W2 ⟨rfl, Y, g2, al, kn⟩; have END := hidi (EN.out W2 Y g2 al kn); clear g2 al kn C EN)
  go_end0
  exact ⟨rfl, END.out⟩
theorem eqf_in (d : Nat) (fn : Go.Fn) (a b : Array Value) (w : World) : (Op.equalIn (d + 1) 41 (.func fn a b) .nilFunc).run Tryz.prog w = .ok false w := by
  simp [Op.equalIn, run_underlying Tryz.underlying41]
theorem eqf (fn : Go.Fn) (a b : Array Value) (w : World) : (binOp .eql 41 (.func fn a b) .nilFunc).run Tryz.prog w = .ok (.bool false) w := by
  show ((do let b ← Op.equal 41 (.func fn a b) .nilFunc; pure (Value.bool b)) : Sem Value).run Tryz.prog w = _
  have h : (Op.equal 41 (.func fn a b) .nilFunc).run Tryz.prog w = .ok false w := eqf_in 9999 fn a b w
  simp [h]
/-- What given tells. -/
structure Gv (w₀ : World) (T : List Fn) (S : List ByteArray → Prop) (v : Value) (X : List Ml) (W : World) : Prop where
  ro : W.ownsRow w₀.heap.size 30 4 v X.length (mrw X)
  pl : ∀ x ∈ X, Pl W x.2 x.1.xs
  al : All T S (X.map (·.1))
  be : Below w₀.heap.size w₀ W
theorem gv_of {w₀ W W' : World} {nb lb wb : Nat} {T : List Fn} {S : List ByteArray → Prop} (h : FR w₀ nb lb wb T S [] W W') (hb : Below w₀.heap.size w₀ W) : ∃ v X, Gv w₀ T S v X W' ∧ W'.cell? ⟨lb, 0, none⟩ = some v ∧ W'.cell? ⟨wb, 0, none⟩ = some (.bool true) := by
  obtain ⟨⟨X, g, al⟩, kn⟩ := h
  rw [List.nil_append] at g
  obtain ⟨v, e, ro⟩ := g.l_
  exact ⟨v, X, ⟨ro, g.pl, al, hb.trans kn.kn.be⟩, box_cells e 0 _ rfl, box_cells g.w_ 0 _ rfl⟩
theorem Gv.below {w₀ W W' : World} {T : List Fn} {S : List ByteArray → Prop} {v : Value} {X : List Ml} (h : Gv w₀ T S v X W) (hb : Below W.heap.size W W') : Gv w₀ T S v X W' :=
  ⟨own_below h.ro hb, fun x hx => (h.pl x hx).below hb, h.al, h.be.trans (hb.mono h.be.size)⟩
set_option maxRecDepth 100000 in
set_option maxHeartbeats 4000000 in
theorem givenF_any (h : Tw w₀ tb r nf nn T) (f : ByteArray) {a b : Nat} (ha : w₀.heap[a]? = some (.cells #[ptr tb] 25 (0, 0))) (hbx : w₀.heap[b]? = some (.cells #[.string f] 9 (0, 0))) :
    Calls Tryz.prog 12 #[.func (.func 36) #[] #[ptr a, ptr b], .int .i64 0] w₀ fun e W => ∃ v X, e = .returned (.tuple #[v, .bool true]) ∧ Gv w₀ T (FindS f) v X W := by
  obtain ⟨w1, hw1⟩ : ∃ w1, w1 = w₀.alloc (.cells #[.int .i64 0] 3) := ⟨_, rfl⟩
  obtain ⟨w2, hw2⟩ : ∃ w2, w2 = w1.alloc (.cells #[.slice none 0 0] 22) := ⟨_, rfl⟩
  obtain ⟨w4, hw4⟩ : ∃ w4, w4 = w2.alloc (.cells #[.bool true] 4) := ⟨_, rfl⟩
  have z1 : w1.heap.size = w₀.heap.size + 1 := by rw [hw1]; exact size_alloc _ _
  have z2 : w2.heap.size = w1.heap.size + 1 := by rw [hw2, size_alloc]
  have y3 : w4.heap[w2.heap.size]? = some (.cells #[.bool true] 4 (0, 0)) := by rw [hw4, heap_alloc_new]
  have y2 : w4.heap[w1.heap.size]? = some (.cells #[.slice none 0 0] 22 (0, 0)) := by rw [hw4, heap_alloc_old _ _ (by omega), hw2, heap_alloc_new]
  have y1 : w4.heap[w₀.heap.size]? = some (.cells #[.int .i64 0] 3 (0, 0)) := by rw [hw4, heap_alloc_old _ _ (by omega), hw2, heap_alloc_old _ _ (by omega), hw1, heap_alloc_new]
  have b4 : Below w₀.heap.size w₀ w4 := by
    rw [hw4, hw2, hw1]
    exact (((Below.refl _ _).alloc (Nat.le_refl _) _).alloc (by rw [size_alloc]; omega) _).alloc (by rw [size_alloc, size_alloc]; omega) _
  have hR : GS w₀.heap.size w₀.heap.size w1.heap.size w2.heap.size [] w4 := ⟨y1, y3, ⟨_, y2, World.ownsRow_nil _ _ _ _⟩, (fun x hx => by cases hx), by omega, by omega, by omega⟩
  have A := hidi (find1_any h f b4 hR (by simp) (later_at ha b4) (later_at hbx b4))
  have HB := hidi b4
  rw [hw4] at A HB
  have HW := hidi (And.intro hw1 hw2)
  clear h ha hbx b4 hR hw1 hw2 hw4 z1 z2 y1 y2 y3
  unfold yv ptr at *
  go_enter Tryz.func12, Tryz.ntmps12
  go_upto_region 1 with fail
  rw [← HW.out.1]
  have hef := eqf (.func 36) #[] #[.pointer (some ⟨a, 0, none⟩), .pointer (some ⟨b, 0, none⟩)] w2
  go_upto_region 2 with fail
  rw [← HW.out.2]
  go_wp2_with (go_at_call 36; refine A.out.mono ?_; rintro e w7 ⟨rfl, fr⟩; obtain ⟨v, X, gv, p1, p2⟩ := gv_of fr HB.out; have GV := hidi gv; clear fr gv A)
  obtain ⟨a7, c7, hv7⟩ := own_sl GV.out.ro
  obtain ⟨n7, hn7⟩ : ∃ n7, n7 = X.length := ⟨_, rfl⟩
  rw [← hn7] at hv7
  subst hv7
  have HN7 := hidi hn7
  clear hn7
  go_quiet (fail)
  have bq : Below w7.heap.size w7 (w7.drewN nq) := below_drewN (Below.refl _ _)
  have HQ := hidi bq
  clear bq
  go_wp2_with fail
  go_ret2
  exact ⟨_, X, rfl, GV.out.below HQ.out⟩
set_option maxRecDepth 100000 in
set_option maxHeartbeats 4000000 in
theorem givenA_any (h : Tw w₀ tb r nf nn T) {a : Nat} (ha : w₀.heap[a]? = some (.cells #[ptr tb] 25 (0, 0))) :
    Calls Tryz.prog 12 #[.func (.func 31) #[] #[ptr a], .int .i64 0] w₀ fun e W => ∃ v X, e = .returned (.tuple #[v, .bool true]) ∧ Gv w₀ T (fun _ => True) v X W := by
  obtain ⟨w1, hw1⟩ : ∃ w1, w1 = w₀.alloc (.cells #[.int .i64 0] 3) := ⟨_, rfl⟩
  obtain ⟨w2, hw2⟩ : ∃ w2, w2 = w1.alloc (.cells #[.slice none 0 0] 22) := ⟨_, rfl⟩
  obtain ⟨w4, hw4⟩ : ∃ w4, w4 = w2.alloc (.cells #[.bool true] 4) := ⟨_, rfl⟩
  have z1 : w1.heap.size = w₀.heap.size + 1 := by rw [hw1]; exact size_alloc _ _
  have z2 : w2.heap.size = w1.heap.size + 1 := by rw [hw2, size_alloc]
  have y3 : w4.heap[w2.heap.size]? = some (.cells #[.bool true] 4 (0, 0)) := by rw [hw4, heap_alloc_new]
  have y2 : w4.heap[w1.heap.size]? = some (.cells #[.slice none 0 0] 22 (0, 0)) := by rw [hw4, heap_alloc_old _ _ (by omega), hw2, heap_alloc_new]
  have y1 : w4.heap[w₀.heap.size]? = some (.cells #[.int .i64 0] 3 (0, 0)) := by rw [hw4, heap_alloc_old _ _ (by omega), hw2, heap_alloc_old _ _ (by omega), hw1, heap_alloc_new]
  have b4 : Below w₀.heap.size w₀ w4 := by
    rw [hw4, hw2, hw1]
    exact (((Below.refl _ _).alloc (Nat.le_refl _) _).alloc (by rw [size_alloc]; omega) _).alloc (by rw [size_alloc, size_alloc]; omega) _
  have hR : GS w₀.heap.size w₀.heap.size w1.heap.size w2.heap.size [] w4 := ⟨y1, y3, ⟨_, y2, World.ownsRow_nil _ _ _ _⟩, (fun x hx => by cases hx), by omega, by omega, by omega⟩
  have A := hidi (all1_any h b4 hR (by simp) (later_at ha b4))
  have HB := hidi b4
  rw [hw4] at A HB
  have HW := hidi (And.intro hw1 hw2)
  clear h ha b4 hR hw1 hw2 hw4 z1 z2 y1 y2 y3
  unfold yv ptr at *
  go_enter Tryz.func12, Tryz.ntmps12
  go_upto_region 1 with fail
  rw [← HW.out.1]
  have hef := eqf (.func 31) #[] #[.pointer (some ⟨a, 0, none⟩)] w2
  go_upto_region 2 with fail
  rw [← HW.out.2]
  go_wp2_with (go_at_call 31; refine A.out.mono ?_; rintro e w7 ⟨rfl, fr⟩; obtain ⟨v, X, gv, p1, p2⟩ := gv_of fr HB.out; have GV := hidi gv; clear fr gv A)
  obtain ⟨a7, c7, hv7⟩ := own_sl GV.out.ro
  obtain ⟨n7, hn7⟩ : ∃ n7, n7 = X.length := ⟨_, rfl⟩
  rw [← hn7] at hv7
  subst hv7
  have HN7 := hidi hn7
  clear hn7
  go_quiet (fail)
  have bq : Below w7.heap.size w7 (w7.drewN nq) := below_drewN (Below.refl _ _)
  have HQ := hidi bq
  clear bq
  go_wp2_with fail
  go_ret2
  exact ⟨_, X, rfl, GV.out.below HQ.out⟩
end Go.Proofs.YtipagdhoeocjeaaGreat.Li
namespace Go.Proofs.YtipagdhoeocjeaaGreat.Li
open Go Go.RowKit
set_option linter.unusedSimpArgs false
set_option linter.unusedVariables false
/-- All nodes but one. -/
def rem (B : List ByteArray) (T : List Nd) : List Nd := T.filter (fun g => decide (g.A ≠ B))
theorem mem_rem {B : List ByteArray} {T : List Nd} {g : Nd} : g ∈ rem B T ↔ g ∈ T ∧ g.A ≠ B := by unfold rem; rw [List.mem_filter, decide_eq_true_eq]
variable {T : List Nd} {d e k : Nd}
/-- A node without kids goes. -/
theorem Inv.unleaf (h : Inv T) (he : e ∈ T) (h0 : 0 < e.m) (no : ∀ g ∈ T, ¬ Kid e g) : Inv (rem e.A T) := by
  refine ⟨?_, h.dis.sublist List.filter_sublist, fun g hg => h.le g (mem_rem.1 hg).1, fun g hg hm => ?_, fun a ha b hb => h.one a (mem_rem.1 ha).1 b (mem_rem.1 hb).1⟩
  · obtain ⟨r, hr, e0⟩ := h.root
    refine ⟨r, mem_rem.2 ⟨hr, fun c => ?_⟩, e0⟩
    have := (h.le e he).2.1 (by rw [← c, e0])
    omega
  · obtain ⟨a, ha, ka⟩ := h.par g (mem_rem.1 hg).1 hm
    refine ⟨a, mem_rem.2 ⟨ha, fun c => ?_⟩, ka⟩
    obtain rfl := h.same ha he c
    exact no g (mem_rem.1 hg).1 ka
theorem unleaf_atk (a : Nd) (y : ByteArray) (g : Nd) : AtK (rem e.A T) a y g ↔ AtK T a y g ∧ g.A ≠ e.A := by
  unfold AtK
  rw [mem_rem]
  exact ⟨fun ⟨⟨a, b⟩, c⟩ => ⟨⟨a, c⟩, b⟩, fun ⟨⟨a, c⟩, b⟩ => ⟨⟨a, b⟩, c⟩⟩
/-- An edge made longer. -/
def upm (B : List ByteArray) (j : Nat) (g : Nd) : Nd := if g.A = B then { g with m := g.m + j } else g
theorem upm_A (B : List ByteArray) (j : Nat) (g : Nd) : (upm B j g).A = g.A := by unfold upm; split <;> rfl
theorem upm_p (B : List ByteArray) (j : Nat) (g : Nd) : (upm B j g).p = g.p := by unfold upm; split <;> rfl
theorem upm_ne {B : List ByteArray} {j : Nat} {g : Nd} (h : g.A ≠ B) : upm B j g = g := if_neg h
theorem upm_at (j : Nat) (g : Nd) : upm g.A j g = { g with m := g.m + j } := if_pos rfl
/-- The node below, in the place of the one that goes. -/
def joi (e k : Nd) : Nd := { k with m := k.m + e.m }
theorem joi_top (hk : Kid e k) (lk : k.m ≤ k.A.length) : (joi e k).top = e.top := by
  have h1 := len_take k lk
  have h2 := hk.2.1
  unfold joi Nd.top at *
  simp only
  omega
theorem joi_take (hk : Kid e k) {n : Nat} (hn : n ≤ e.A.length) : k.A.take n = e.A.take n := by
  rw [← hk.2.2, List.take_take, Nat.min_eq_left]
  rw [hk.2.1]
  exact hn
theorem Inv.unpart (h : Inv T) (he : e ∈ T) (h0 : 0 < e.m) (hk : k ∈ T) (kk : Kid e k) (only : ∀ g ∈ T, Kid e g → g = k) : Inv ((rem e.A T).map (upm k.A e.m)) := by
  have lk := h.le k hk
  have le := h.le e he
  have hlt := kk.lt lk.1
  have ktop := kk.2.1
  have jtop := joi_top kk lk.1
  have kne : k.A ≠ e.A := fun c => by rw [c] at hlt; omega
  have mem : ∀ g ∈ (rem e.A T).map (upm k.A e.m), (g = joi e k) ∨ (g ∈ T ∧ g.A ≠ e.A ∧ g.A ≠ k.A) := fun g hg => by
    obtain ⟨a, ha, rfl⟩ := List.mem_map.1 hg
    obtain ⟨ha, hne⟩ := mem_rem.1 ha
    by_cases c : a.A = k.A
    · obtain rfl := h.same ha hk c
      exact .inl (upm_at _ _)
    · rw [upm_ne c]
      exact .inr ⟨ha, hne, c⟩
  have to : ∀ a ∈ T, a.A ≠ e.A → ∃ a' ∈ (rem e.A T).map (upm k.A e.m), a'.A = a.A := fun a ha hne => ⟨_, List.mem_map_of_mem (mem_rem.2 ⟨ha, hne⟩), upm_A _ _ _⟩
  have tk : k.A.take (e.top + 1) = e.A.take (e.top + 1) := joi_take kk (by have := len_take e le.1; omega)
  refine ⟨?_, ?_, fun g hg => ?_, fun g hg hm => ?_, fun a ha b hb am bm at_ ab => ?_⟩
  · obtain ⟨r, hr, e0⟩ := h.root
    obtain ⟨a, ha, ea⟩ := to r hr (fun c => by
      have := le.2.1 (by rw [← c, e0])
      omega)
    exact ⟨a, ha, ea.trans e0⟩
  · refine List.pairwise_map.2 ((h.dis.sublist List.filter_sublist).imp (fun {a b} q c => q ?_))
    rw [upm_A, upm_A] at c
    exact c
  · rcases mem g hg with rfl | ⟨hg, _⟩
    · have h1 := len_take k lk.1
      refine ⟨?_, ?_⟩
      · show k.m + e.m ≤ k.A.length
        have := le.1
        omega
      · show k.A = [] ↔ k.m + e.m = 0
        constructor
        · intro c
          rw [c] at hlt
          simp at hlt
        · intro c
          omega
    · exact h.le g hg
  · have fin : ∀ a ∈ T, a.A ≠ e.A → Kid a g → ∃ a' ∈ (rem e.A T).map (upm k.A e.m), Kid a' g := fun a ha hne ka => by
      obtain ⟨a', ha', ea⟩ := to a ha hne
      exact ⟨a', ha', ka.1, by rw [ea]; exact ka.2.1, by rw [ea]; exact ka.2.2⟩
    rcases mem g hg with rfl | ⟨hgT, gne, gkn⟩
    · obtain ⟨a, ha, ka⟩ := h.par e he h0
      have al := ka.lt le.1
      refine fin a ha (fun c => by rw [c] at al; omega) ⟨hm, ?_, ?_⟩
      · rw [jtop]; exact ka.2.1
      · rw [jtop]
        show k.A.take e.top = a.A
        rw [joi_take kk (by unfold Nd.top; omega)]
        exact ka.2.2
    · obtain ⟨a, ha, ka⟩ := h.par g hgT hm
      refine fin a ha (fun c => ?_) ka
      obtain rfl := h.same ha he c
      have := only g hgT ka
      exact gkn (by rw [this])
  · rcases mem a ha with rfl | ⟨ha, ane, akn⟩
    · rcases mem b hb with rfl | ⟨hb, bne, bkn⟩
      · rfl
      · rw [jtop] at at_ ab
        have ab : k.A.take (e.top + 1) = b.A.take (b.top + 1) := ab
        rw [tk] at ab
        have := h.one e he b hb h0 bm at_ ab
        exact absurd (by rw [this]) bne
    · rcases mem b hb with rfl | ⟨hb, bne, bkn⟩
      · rw [jtop] at at_ ab
        have ab : a.A.take (a.top + 1) = k.A.take (e.top + 1) := ab
        rw [tk] at ab
        have := h.one a ha e he am h0 at_ ab
        exact absurd (by rw [this]) ane
      · exact h.one a ha b hb am bm at_ ab
theorem Inv.unpart_atk (h : Inv T) (he : e ∈ T) (h0 : 0 < e.m) (hk : k ∈ T) (kk : Kid e k) {a : Nd} (ha : a.A ≠ e.A) (y : ByteArray) (g : Nd) :
    AtK ((rem e.A T).map (upm k.A e.m)) a y g ↔ (g = joi e k ∧ AtK T a y e) ∨ (AtK T a y g ∧ g.A ≠ e.A ∧ g.A ≠ k.A) := by
  have lk := h.le k hk
  have le := h.le e he
  have hlt := kk.lt lk.1
  have jtop := joi_top kk lk.1
  have kne : k.A ≠ e.A := fun c => by rw [c] at hlt; omega
  have h1 := len_take e le.1
  have tt : k.A[e.top]? = e.A[e.top]? := by
    have := joi_take kk (n := e.top + 1) (by omega)
    have h2 := congrArg (fun l => l[e.top]?) this
    simpa [List.getElem?_take] using h2
  have tk : k.A.take e.top = e.A.take e.top := joi_take kk (by omega)
  constructor
  · rintro ⟨hg, kg, hy⟩
    obtain ⟨b, hb, rfl⟩ := List.mem_map.1 hg
    obtain ⟨hb, bne⟩ := mem_rem.1 hb
    by_cases c : b.A = k.A
    · obtain rfl := h.same hb hk c
      rw [upm_at] at kg hy ⊢
      refine .inl ⟨rfl, he, ⟨h0, ?_, ?_⟩, ?_⟩
      · rw [← jtop]; exact kg.2.1
      · rw [← tk, ← jtop]; exact kg.2.2
      · rw [← tt, ← jtop]; exact hy
    · rw [upm_ne c] at kg hy ⊢
      exact .inr ⟨⟨hb, kg, hy⟩, bne, c⟩
  · rintro (⟨rfl, _, ke, hy⟩ | ⟨⟨hg, kg, hy⟩, gne, gkn⟩)
    · refine ⟨List.mem_map.2 ⟨k, mem_rem.2 ⟨hk, kne⟩, upm_at _ _⟩, ⟨by show 0 < k.m + e.m; omega, ?_, ?_⟩, ?_⟩
      · rw [jtop]; exact ke.2.1
      · rw [jtop]; show k.A.take e.top = a.A; rw [tk]; exact ke.2.2
      · rw [jtop]; show k.A[e.top]? = some y; rw [tt]; exact hy
    · exact ⟨List.mem_map.2 ⟨g, mem_rem.2 ⟨hg, gne⟩, upm_ne gkn⟩, kg, hy⟩
end Go.Proofs.YtipagdhoeocjeaaGreat.Li
namespace Go.Proofs.YtipagdhoeocjeaaGreat.Li
open Go Go.RowKit Go.Maps
set_option linter.unusedSimpArgs false
set_option linter.unusedVariables false
/-- The keys of a map, as a list. -/
theorem MG.keys {w : World} {mv : Value} {n : Nat} {f : ByteArray → Option Value} (h : MG w mv n f) : ∃ K : List ByteArray, K.Nodup ∧ K.length = n ∧ ∀ y, y ∈ K ↔ (okT y ∧ (f y).isSome = true) := by
  rcases h with ⟨rfl, rfl, h2⟩ | ⟨mb, D, rfl, hown, hsz, hD⟩
  · exact ⟨[], List.nodup_nil, rfl, fun y => ⟨fun c => (by cases c), fun c => by have c2 := c.2; rw [h2 y c.1] at c2; cases c2⟩⟩
  · obtain ⟨es, hD0, hpw, _⟩ := hown.entries law9
    obtain ⟨es', hD', hko⟩ := hown.keysOf
    obtain rfl : es = es' := by rw [hD0] at hD'; simpa using hD'
    have hk : ∀ p ∈ es, ∃ x : ByteArray, p.1 = kt x ∧ okT x := fun p hp => by
      obtain ⟨v, hv⟩ := hko p hp
      obtain ⟨x, _, hx, hw⟩ := Go.WideMaps.string_of_keyOf Tryz.underlying9 hv
      exact ⟨x, hx, hw⟩
    have hmem : ∀ x : ByteArray, (∃ p ∈ es, p.1 = kt x ∧ okT x) ↔ (okT x ∧ (f x).isSome = true) := fun x => by
      constructor
      · rintro ⟨p, hp, e, ox⟩
        refine ⟨ox, ?_⟩
        rw [← (hD x ox).1, hD0, has_eq, List.any_eq_true]
        exact ⟨p, hp, by rw [e]; simp [Lit.sameKey, kt]⟩
      · rintro ⟨ox, hs⟩
        rw [← (hD x ox).1, hD0, has_eq, List.any_eq_true] at hs
        obtain ⟨p, hp, hs⟩ := hs
        obtain ⟨a, ha, hw⟩ := hk p hp
        refine ⟨p, hp, ?_, ox⟩
        rw [ha] at hs ⊢
        have hs2 : (a.data.toList == x.data.toList) = true := hs
        unfold kt
        rw [eq_of_beq hs2]
    refine ⟨es.map (fun p => (⟨(strOf p.1).toArray⟩ : ByteArray)), ?_, ?_, fun y => ?_⟩
    · refine List.pairwise_map.2 (hpw.imp_of_mem fun {p q} hp' hq' hne e => hne ?_)
      obtain ⟨a, ha, _⟩ := hk p hp'
      obtain ⟨b, hb, _⟩ := hk q hq'
      rw [ha, hb] at e ⊢
      simp [strOf, kt] at e
      rw [show a = b by cases a; cases b; simpa using e]
    · rw [List.length_map, ← hsz, hD0]
      simp [Maps.size]
    · rw [← hmem y, List.mem_map]
      constructor
      · rintro ⟨p, hp, rfl⟩
        obtain ⟨a, ha, ok⟩ := hk p hp
        rw [ha]
        have : (⟨(strOf (kt a)).toArray⟩ : ByteArray) = a := by cases a; simp [strOf, kt]
        rw [this]
        exact ⟨p, hp, ha, ok⟩
      · rintro ⟨p, hp, e, _⟩
        refine ⟨p, hp, ?_⟩
        rw [e]
        cases y
        simp [strOf, kt]
theorem nodup_le {α : Type} [DecidableEq α] : ∀ (l k : List α), l.Nodup → (∀ x ∈ l, x ∈ k) → l.length ≤ k.length
  | [], _, _, _ => Nat.zero_le _
  | a :: l, k, hn, hs => by
    have ha := hs a List.mem_cons_self
    have := nodup_le l (k.erase a) (List.nodup_cons.1 hn).2 (fun x hx => (List.mem_erase_of_ne (fun e => (List.nodup_cons.1 hn).1 (by rw [← e]; exact hx))).2 (hs x (List.mem_cons_of_mem _ hx)))
    rw [List.length_erase_of_mem ha] at this
    have := List.length_pos_of_mem ha
    simp
    omega
theorem MG.few {w : World} {mv : Value} {n : Nat} {f : ByteArray → Option Value} (h : MG w mv n f) {K : List ByteArray} (hK : ∀ y, okT y → (f y).isSome = true → y ∈ K) : n ≤ K.length := by
  obtain ⟨L, l1, l2, l3⟩ := h.keys
  rw [← l2]
  exact nodup_le L K l1 (fun x hx => hK x ((l3 x).1 hx).1 ((l3 x).1 hx).2)
theorem MG.some_ {w : World} {mv : Value} {n : Nat} {f : ByteArray → Option Value} (h : MG w mv n f) (hn : 0 < n) : ∃ y, okT y ∧ (f y).isSome = true := by
  obtain ⟨L, l1, l2, l3⟩ := h.keys
  cases L with
  | nil => simp at l2; omega
  | cons a l => exact ⟨a, (l3 a).1 List.mem_cons_self⟩
end Go.Proofs.YtipagdhoeocjeaaGreat.Li
namespace Go.Proofs.YtipagdhoeocjeaaGreat.Li
open Go Go.RowKit
set_option linter.unusedSimpArgs false
set_option linter.unusedVariables false
theorem kids_le {w : World} {kv : Value} {nk : Nat} {kd : ByteArray → Option Value} {S : List Nd} {d : Nd} (hm : MG w kv nk kd) (hK : Kds S d kd) : nk ≤ S.length := by
  obtain ⟨K, k1, k2, k3⟩ := hm.keys
  haveI : DecidableEq Nd := fun a b => Classical.propDecidable (a = b)
  have ex : ∀ y ∈ K, ∃ e, AtK S d y e := fun y hy => by
    obtain ⟨oy, hs⟩ := (k3 y).1 hy
    obtain ⟨v, hv⟩ := Option.isSome_iff_exists.1 hs
    obtain ⟨e, he, _⟩ := (hK y v oy).1 hv
    exact ⟨e, he⟩
  haveI : Nonempty Nd := ⟨⟨0, [], 0⟩⟩
  let F : ByteArray → Nd := fun y => Classical.epsilon (fun e => AtK S d y e)
  have hF : ∀ y ∈ K, AtK S d y (F y) := fun y hy => Classical.epsilon_spec (ex y hy)
  rw [← k2, ← List.length_map (f := F)]
  refine nodup_le _ S ?_ (fun x hx => ?_)
  · refine List.pairwise_map.2 (k1.imp_of_mem (fun {a b} ha hb ne e => ne ?_))
    have h1 := (hF a ha).2.2
    have h2 := (hF b hb).2.2
    rw [e, h2] at h1
    injection h1 with h1
    exact h1.symm
  · obtain ⟨y, hy, rfl⟩ := List.mem_map.1 hx
    exact (hF y hy).1
theorem FnM.tight {w : World} {N : Nat} {S : List Nd} {f : Fn} (h : FnM w S N f) : FnM w S S.length f := by
  obtain ⟨nk, kd, h1, h2, h3⟩ := h.kv
  exact ⟨h.at_, h.lv, h.ev, ⟨nk, kd, kids_le h2 h3, h2, h3⟩⟩
theorem TM.islt {w : World} {tb r : Nat} {nf nn : Int} {T : List Fn} (h : TM w tb r nf nn T) {j : Nat} (hj : isT tb T j) : j < w.heap.size := by
  rcases hj with e | ⟨f, hf, c⟩
  · rw [e]; exact (Array.getElem?_eq_some_iff.1 h.tr).1
  · exact (h.nd f hf).lt c
/-- A trie of which one node's kids are still the old ones. -/
structure PM (w : World) (tb r : Nat) (nf nn : Int) (T : List Fn) (B : List ByteArray) (S0 : List Nd) : Prop where
  tr : w.heap[tb]? = some (.cells #[ptr r, .int .i64 nf, .int .i64 nn] 65 (0, 0))
  inv : Inv (T.map Fn.s)
  rt : ∃ f ∈ T, f.s.A = [] ∧ f.s.p = r
  nd : ∀ f ∈ T, f.s.A ≠ B → ∃ N, FnM w (T.map Fn.s) N f
  nd0 : ∀ f ∈ T, f.s.A = B → ∃ N, FnM w S0 N f
  dis : T.Pairwise FA
  ok : ∀ f ∈ T, (∀ t ∈ f.s.A, t.size ≤ 65535) ∧ f.s.A.length ≤ 65536
def remF (B : List ByteArray) (T : List Fn) : List Fn := T.filter (fun f => decide (f.s.A ≠ B))
theorem mem_remF {B : List ByteArray} {T : List Fn} {f : Fn} : f ∈ remF B T ↔ f ∈ T ∧ f.s.A ≠ B := by unfold remF; rw [List.mem_filter, decide_eq_true_eq]
theorem remF_map (B : List ByteArray) : ∀ T : List Fn, (remF B T).map Fn.s = rem B (T.map Fn.s)
  | [] => rfl
  | f :: T => by
    have ih := remF_map B T
    unfold remF rem at *
    rw [List.map_cons, List.filter_cons, List.filter_cons]
    split
    · rw [List.map_cons, ih]
    · exact ih
theorem Kid.uniq {a d e : Nd} (h1 : Kid a e) (h2 : Kid d e) : a.A = d.A := by rw [← h1.2.2, ← h2.2.2]
section
variable {w w' : World} {tb r : Nat} {nf nn : Int} {T : List Fn} {d e k : Fn}
/-- A node without kids has gone; the one above it still tells of it. -/
theorem TM.unleafed (h : TM w tb r nf nn T) (he : e ∈ T) (hd : d ∈ T) (kd : Kid d.s e.s) (no : ∀ g ∈ T, ¬ Kid e.s g.s) (hc : Ch (fun j => j = tb) w w') (tr' : w'.heap[tb]? = some (.cells #[ptr r, .int .i64 nf, .int .i64 (nn - 1)] 65 (0, 0))) :
    PM w' tb r nf (nn - 1) (remF e.s.A T) d.s.A (T.map Fn.s) := by
  have no' : ∀ g ∈ T.map Fn.s, ¬ Kid e.s g := fun g hg => by
    obtain ⟨q, hq, rfl⟩ := List.mem_map.1 hg
    exact no q hq
  have inv := h.inv.unleaf (List.mem_map_of_mem he) kd.1 no'
  have kp : ∀ f ∈ T, FnM w' (T.map Fn.s) T.length f := fun f hf => (h.nd f hf).keep hc (fun j c e => h.tb_ne hf (e ▸ c)) (fun j e => e ▸ no9_cells h.tr (by decide)) (Nat.le_refl _) (fun _ _ => Iff.rfl)
  refine ⟨tr', by rw [remF_map]; exact inv, ?_, fun f hf hB => ?_, fun f hf _ => ⟨_, kp f (mem_remF.1 hf).1⟩, h.dis.sublist List.filter_sublist, fun f hf => h.ok f (mem_remF.1 hf).1⟩
  · obtain ⟨f, hf, f1, f2⟩ := h.rt
    refine ⟨f, mem_remF.2 ⟨hf, fun c => ?_⟩, f1, f2⟩
    have := (h.inv.le e.s (List.mem_map_of_mem he)).2.1 (by rw [← c, f1])
    have := kd.1
    omega
  · refine ⟨_, (kp f (mem_remF.1 hf).1).keep (Ch.refl (fun _ => False) _) (fun _ _ c => c) (fun _ c => c.elim) (Nat.le_refl _) (fun x g => ?_)⟩
    rw [remF_map, unleaf_atk]
    refine ⟨fun c => ⟨c, fun q => hB ?_⟩, fun c => c.1⟩
    obtain rfl := h.inv.same c.1 (List.mem_map_of_mem he) q
    exact c.2.1.uniq kd
def upk (B : List ByteArray) (j : Nat) (lv : Value) (f : Fn) : Fn := if f.s.A = B then { f with s := { f.s with m := f.s.m + j }, lv := lv } else f
theorem upk_s (B : List ByteArray) (j : Nat) (lv : Value) (f : Fn) : (upk B j lv f).s = upm B j f.s := by unfold upk upm; split <;> rfl
theorem upk_has {B : List ByteArray} {j : Nat} {lv : Value} {f : Fn} {i : Nat} : (upk B j lv f).has i ↔ f.has i := by unfold upk; split <;> exact Iff.rfl
theorem upk_ms (B : List ByteArray) (j : Nat) (lv : Value) (f : Fn) : (upk B j lv f).ms = f.ms := by unfold upk; split <;> rfl
theorem upk_ne {B : List ByteArray} {j : Nat} {lv : Value} {f : Fn} (h : f.s.A ≠ B) : upk B j lv f = f := if_neg h
theorem upk_at (j : Nat) (lv : Value) (f : Fn) : upk f.s.A j lv f = { f with s := { f.s with m := f.s.m + j }, lv := lv } := if_pos rfl
theorem upk_map (B : List ByteArray) (j : Nat) (lv : Value) (T : List Fn) : (T.map (upk B j lv)).map Fn.s = (T.map Fn.s).map (upm B j) := by
  rw [List.map_map, List.map_map]
  refine List.map_congr_left (fun f _ => upk_s B j lv f)
theorem joi_edge' {e k : Nd} (hk : Kid e k) (lk : k.m ≤ k.A.length) : (joi e k).edge = e.edge ++ k.edge := by
  unfold Nd.edge
  rw [joi_top hk lk]
  show k.A.drop e.top = _
  have h1 : k.A = e.A ++ k.A.drop k.top := by rw [← hk.2.2, List.take_append_drop]
  conv => lhs; rw [h1]
  rw [List.drop_append_of_le_length (by unfold Nd.top; omega)]
/-- A node with one kid alone has gone; the kid's edge is longer; the node above still tells of the one that has gone. -/
theorem TM.unparted (h : TM w tb r nf nn T) (he : e ∈ T) (hd : d ∈ T) (kd : Kid d.s e.s) (hk : k ∈ T) (kk : Kid e.s k.s) (only : ∀ g ∈ T, Kid e.s g.s → g = k) {lv : Value} (hc : Ch (fun j => j = tb ∨ j = k.s.p) w w') (tr' : w'.heap[tb]? = some (.cells #[ptr r, .int .i64 nf, .int .i64 (nn - 1)] 65 (0, 0)))
    (at' : w'.heap[k.s.p]? = some (.cells #[lv, k.ev, k.kv] 75 (0, 0))) (own' : w'.ownsRow 0 9 1 lv (k.s.m + e.s.m) ((e.s.edge ++ k.s.edge).map Value.string)) :
    PM w' tb r nf (nn - 1) ((remF e.s.A T).map (upk k.s.A e.s.m lv)) d.s.A (T.map Fn.s) := by
  have heS := List.mem_map_of_mem (f := Fn.s) he
  have hkS := List.mem_map_of_mem (f := Fn.s) hk
  have only' : ∀ g ∈ T.map Fn.s, Kid e.s g → g = k.s := fun g hg c => by
    obtain ⟨q, hq, rfl⟩ := List.mem_map.1 hg
    rw [only q hq c]
  have inv := h.inv.unpart heS kd.1 hkS kk only'
  have le := h.inv.le e.s heS
  have lk := h.inv.le k.s hkS
  have elt := kd.lt le.1
  have klt := kk.lt lk.1
  have hS : ((remF e.s.A T).map (upk k.s.A e.s.m lv)).map Fn.s = (rem e.s.A (T.map Fn.s)).map (upm k.s.A e.s.m) := by rw [upk_map, remF_map]
  have kne : k.s.A ≠ e.s.A := fun c => by rw [c] at klt; omega
  have n9 : ∀ j, (j = tb ∨ j = k.s.p) → No9 w j := fun j c => by
    rcases c with c | c
    · rw [c]; exact no9_cells h.tr (by decide)
    · rw [c]; exact (h.nd k hk).no9 (.inl rfl)
  have kp : ∀ f ∈ T, f.s.A ≠ k.s.A → FnM w' (T.map Fn.s) T.length f := fun f hf ne => (h.nd f hf).keep hc (fun j c q => by
    rcases q with q | q
    · exact h.tb_ne hf (q ▸ c)
    · exact h.apart hf hk (fun z => ne (by rw [z])) j c (.inl q)) n9 (Nat.le_refl _) (fun _ _ => Iff.rfl)
  have atk : ∀ a : Nd, a.A ≠ e.s.A → a.A ≠ d.s.A → ∀ x g, AtK (T.map Fn.s) a x g → g.A ≠ k.s.A → AtK ((rem e.s.A (T.map Fn.s)).map (upm k.s.A e.s.m)) a x g := fun a ha hB x g c gk => by
    rw [h.inv.unpart_atk heS kd.1 hkS kk ha]
    refine .inr ⟨c, fun q => hB ?_, gk⟩
    obtain rfl := h.inv.same c.1 heS q
    exact c.2.1.uniq kd
  have both : ∀ a : Nd, a.A ≠ e.s.A → a.A ≠ d.s.A → ∀ x g, AtK (T.map Fn.s) a x g ↔ AtK ((rem e.s.A (T.map Fn.s)).map (upm k.s.A e.s.m)) a x g := fun a ha hB x g => by
    constructor
    · intro c
      refine atk a ha hB x g c (fun q => ha ?_)
      obtain rfl := h.inv.same c.1 hkS q
      exact c.2.1.uniq kk
    · intro c
      rw [h.inv.unpart_atk heS kd.1 hkS kk ha] at c
      rcases c with ⟨_, c⟩ | ⟨c, _⟩
      · exact absurd (c.2.1.uniq kd) hB
      · exact c
  refine ⟨tr', by rw [hS]; exact inv, ?_, fun f0 hf0 hB => ?_, fun f0 hf0 hB => ?_, ?_, fun f0 hf0 => ?_⟩
  · obtain ⟨f, hf, f1, f2⟩ := h.rt
    refine ⟨_, List.mem_map_of_mem (mem_remF.2 ⟨hf, fun c => ?_⟩), by rw [upk_s, upm_A, f1], by rw [upk_s, upm_p, f2]⟩
    have := le.2.1 (by rw [← c, f1])
    have := kd.1
    omega
  · obtain ⟨f, hf, rfl⟩ := List.mem_map.1 hf0
    obtain ⟨hf, fne⟩ := mem_remF.1 hf
    rw [upk_s, upm_A] at hB
    rw [hS]
    by_cases c : f.s.A = k.s.A
    · obtain rfl := h.same hf hk c
      have fk := h.nd f hf
      obtain ⟨nk, kdd, h1, h2, h3⟩ := fk.kv
      have blk : ∀ j, f.kv = .map (some j) → w'.heap[j]? = w.heap[j]? := fun j q => hc.block j (fk.lt (.inr (.inr q))) (fun z => by
        rcases z with z | z
        · exact h.tb_ne hf (z ▸ .inr (.inr q))
        · obtain ⟨es, cl, q2⟩ := h2.block q
          rw [z, fk.at_] at q2
          cases q2)
      rw [upk_at]
      refine ⟨nk, at', ?_, fk.ev.keep hc (fun b q c => ?_) n9, ⟨nk, kdd, Nat.le_refl _, h2.keep (fun b q => blk b q), fun x v hx => (h3 x v hx).trans ?_⟩⟩
      · show w'.ownsRow 0 9 1 lv (f.s.m + e.s.m) ((joi e.s f.s).edge.map Value.string)
        rw [joi_edge' kk lk.1]
        exact own'
      · obtain ⟨mm, vv, _, q2, _⟩ := fk.ev.block q
        rcases c with c | c
        · exact h.tb_ne hf (c ▸ .inr (.inl q))
        · rw [c, fk.at_] at q2
          simp at q2
      · constructor
        · rintro ⟨g, c1, c2⟩
          exact ⟨g, (both f.s fne hB x g).1 c1, c2⟩
        · rintro ⟨g, c1, c2⟩
          exact ⟨g, (both f.s fne hB x g).2 c1, c2⟩
    · rw [upk_ne c]
      exact ⟨_, (kp f hf c).keep (Ch.refl (fun _ => False) _) (fun _ _ c => c) (fun _ c => c.elim) (Nat.le_refl _) (both f.s fne hB)⟩
  · obtain ⟨f, hf, rfl⟩ := List.mem_map.1 hf0
    obtain ⟨hf, fne⟩ := mem_remF.1 hf
    rw [upk_s, upm_A] at hB
    have c : f.s.A ≠ k.s.A := fun c => by
      have := congrArg List.length (hB.symm.trans c)
      omega
    rw [upk_ne c]
    exact ⟨_, kp f hf c⟩
  · refine List.pairwise_map.2 ((h.dis.sublist List.filter_sublist).imp (fun {a b} q j c1 c2 => q j (upk_has.1 c1) (upk_has.1 c2)))
  · obtain ⟨f, hf, rfl⟩ := List.mem_map.1 hf0
    rw [upk_s, upm_A]
    exact h.ok f (mem_remF.1 hf).1
/-- The node above is told. -/
theorem PM.fixed {T : List Fn} {S0 : List Nd} {kv : Value} {nk : Nat} {kd : ByteArray → Option Value} (h : PM w tb r nf nn T d.s.A S0) (hd : d ∈ T) (same : ∀ a ∈ T, ∀ b ∈ T, a.s.A = b.s.A → a = b) (apart : ∀ a ∈ T, a ≠ d → FA a d) (tbd : ¬ d.has tb) (hc : Ch (hgC d) w w') (at' : w'.heap[d.s.p]? = some (.cells #[d.lv, d.ev, kv] 75 (0, 0))) (hm : MG w' kv nk kd) (hK : Kds (T.map Fn.s) d.s kd) (hkv : kv = d.kv ∨ kv = .map none) :
    TM w' tb r nf nn (T.map (ukv d.s.A kv)) := by
  obtain ⟨Nd0, fd⟩ := h.nd0 d hd rfl
  have fd' : FnM w' (T.map Fn.s) T.length (d.kvd kv) := by
    have ev' : MsAt w' d.ev d.ms := fd.ev.keep hc (fun b e c => by
      obtain ⟨mm, vv, _, q2, _⟩ := fd.ev.block e
      rcases c with c | c
      · rw [c, fd.at_] at q2
        simp at q2
      · obtain ⟨nk, kd, _, hm, _⟩ := fd.kv
        obtain ⟨es, cl, q⟩ := hm.block c
        rw [q] at q2
        cases q2) (fun j c => fd.no9 (hgC_has c))
    have lv' : w'.ownsRow 0 9 1 d.lv d.s.m (d.s.edge.map Value.string) := own_ch fd.lv hc (fun j hj c => by
      obtain ⟨cur, e⟩ := own_lt fd.lv hj
      exact (fd.no9 (hgC_has c) cur).1 e)
    exact ⟨at', lv', ev', ⟨nk, kd, by have := kids_le hm hK; rw [List.length_map] at this; exact this, hm, hK⟩⟩
  have n9 : ∀ j, hgC d j → No9 w j := fun j c => fd.no9 (hgC_has c)
  refine ⟨(hc.block tb (Array.getElem?_eq_some_iff.1 h.tr).1 (fun c => tbd (hgC_has c))).trans h.tr, by rw [ukv_map]; exact h.inv, ?_, fun f0 hf0 => ?_, ?_, fun f0 hf0 => ?_⟩
  · obtain ⟨f, hf, f1, f2⟩ := h.rt
    exact ⟨_, List.mem_map_of_mem hf, by rw [ukv_s]; exact f1, by rw [ukv_s]; exact f2⟩
  · obtain ⟨f, hf, rfl⟩ := List.mem_map.1 hf0
    rw [ukv_map, List.length_map]
    by_cases c : f.s.A = d.s.A
    · obtain rfl := same f hf d hd c
      rw [ukv_at rfl]
      exact fd'
    · rw [ukv_ne c]
      obtain ⟨N, ff⟩ := h.nd f hf c
      have := (ff.keep hc (fun j c1 c2 => apart f hf (fun z => c (by rw [z])) j c1 (hgC_has c2)) n9 (Nat.le_refl _) (fun _ _ => Iff.rfl)).tight
      rw [List.length_map] at this
      exact this
  · refine List.pairwise_map.2 (h.dis.imp_of_mem (fun {a b} ha hb q j c1 c2 => ?_))
    have up : ∀ {f : Fn}, f ∈ T → (ukv d.s.A kv f).has j → f.has j := fun {f} hf c => by
      rcases ukv_has c with c' | ⟨e, c'⟩
      · exact c'
      · obtain rfl := same f hf d hd e
        rcases hkv with z | z
        · exact .inr (.inr (by rw [← z]; exact c'))
        · rw [z] at c'; cases c'
    exact q j (up ha c1) (up hb c2)
  · obtain ⟨f, hf, rfl⟩ := List.mem_map.1 hf0
    rw [ukv_s]
    exact h.ok f hf
end
end Go.Proofs.YtipagdhoeocjeaaGreat.Li
