import Derived.Test.YtepjcfhbbcaldaaKid
namespace Go.Proofs.Ytepjcfhbbcaldaa.Li
open Go Go.RowKit
set_option linter.unusedSimpArgs false
set_option linter.unusedVariables false
theorem Rw.head {w : World} {g o n c : Nat} {y : ByteArray} {ys : List ByteArray} (h : Rw w (.slice (some ⟨g, o, none⟩) n c) (y :: ys)) : w.cell? ⟨g, o, none⟩ = some (.string y) := by
  obtain ⟨g', o', n', c', e, _, _, _, hc, _⟩ := h.row.cons
  injection e with e1 e2 e3
  injection e1 with e1
  injection e1 with e1 e4 e5
  subst e1 e4
  exact hc
theorem okH : okT hsh := by unfold okT maxLen hsh; decide
theorem okP : okT pls := by unfold okT maxLen pls; decide
/-- The loop's state. -/
structure GL (w : World) (edge : List ByteArray) (W : Option (List ByteArray)) (a : Option Addr) (n c k : Nat) (Lk : List ByteArray) : Prop where
  r : Rw w (.slice a n c) Lk
  n : n = Lk.length
  e : wk (edge.drop k) Lk = W
  o : ∀ t ∈ Lk, okT t
  l : Lk.length ≤ 65536
/-- What gather leaves. -/
def GP (w w' : World) (tb m r : Nat) (nf nn : Int) (T : List Fn) (fb : Nat) (K : List ByteArray) (E : ByteArray → Int → Prop) (f : Fn) (L : List ByteArray) : Prop := GS w' tb m r nf nn T fb K (fun y z => E y z ∨ Sel T f L y z) ∧ Ch (fun j => j = fb) w w'
variable {w : World} {tb m r fb : Nat} {nf nn : Int} {T : List Fn} {K : List ByteArray} {E : ByteArray → Int → Prop} {f : Fn} {L : List ByteArray} {v : Value}
theorem fin_cons {w1 w2 w3 : World} {t : ByteArray} {ts : List ByteArray} (h : GS w tb m r nf nn T fb K E) (hl : HashLast T) (hf : f ∈ T) (hW : wk f.s.edge L = some (t :: ts)) (c1 : Ch (fun j => j = fb) w w1) (c2 : Ch (fun j => j = fb) w1 w2) (c3 : Ch (fun j => j = fb) w2 w3)
    (g : GS w3 tb m r nf nn T fb K (fun y z => ((E y z ∨ SelK T f hsh (t :: ts) y z) ∨ SelK T f pls (t :: ts) y z) ∨ SelK T f t (t :: ts) y z)) : GP w w3 tb m r nf nn T fb K E f L := by
  refine ⟨g.congr (fun y z => ?_), (c1.then c2).then c3⟩
  rw [sel_some h.tm hl hf hW]
  constructor
  · rintro (((a | a) | a) | a)
    · exact .inl a
    · exact .inr (.inr (.inl a))
    · exact .inr (.inr (.inr ⟨t, ts, rfl, .inl a⟩))
    · exact .inr (.inr (.inr ⟨t, ts, rfl, .inr a⟩))
  · rintro (a | ⟨a, _⟩ | a | ⟨t', ts', e, a⟩)
    · exact .inl (.inl (.inl a))
    · cases a
    · exact .inl (.inl (.inr a))
    · cases e
      rcases a with a | a
      · exact .inl (.inr a)
      · exact .inr a
theorem fin_nil {w1 w3 : World} (h : GS w tb m r nf nn T fb K E) (hl : HashLast T) (hf : f ∈ T) (hW : wk f.s.edge L = some []) (c1 : Ch (fun j => j = fb) w w1) (c3 : Ch (fun j => j = fb) w1 w3)
    (g : GS w3 tb m r nf nn T fb K (fun y z => (E y z ∨ SelK T f hsh [] y z) ∨ f.en y = some z)) : GP w w3 tb m r nf nn T fb K E f L := by
  refine ⟨g.congr (fun y z => ?_), c1.then c3⟩
  rw [sel_some h.tm hl hf hW]
  constructor
  · rintro ((a | a) | a)
    · exact .inl a
    · exact .inr (.inr (.inl a))
    · exact .inr (.inl ⟨rfl, a⟩)
  · rintro (a | ⟨_, a⟩ | a | ⟨t', ts', e, a⟩)
    · exact .inl (.inl a)
    · exact .inr a
    · exact .inl (.inr a)
    · cases e
theorem fin_none (h : GS w tb m r nf nn T fb K E) (hl : HashLast T) (hf : f ∈ T) (hW : wk f.s.edge L = none) : GP w w tb m r nf nn T fb K E f L :=
  ⟨h.congr (fun y z => ⟨.inl, fun c => c.elim id (fun c => absurd c (sel_none hl hf hW y z))⟩), Ch.refl _ _⟩
theorem GS.entries {w1 : World} (g : GS w1 tb m r nf nn T fb K E) (hf : f ∈ T) {mb : Nat} (he : f.ev = .map (some mb)) : mb ≠ fb ∧ ∃ D, w1.ownsMap Try.prog 9 hv mb f.ne D ∧ ∀ k, okT k → Maps.has D (kt k) = (f.en k).isSome ∧ ∀ z, f.en k = some z → ∀ d, D.atKey (kt k) d = .held (.int .i64 z) := by
  refine ⟨fun e => g.fr (.inr ⟨f, hf, .inr (.inl (by rw [he, e]))⟩), ?_⟩
  rcases (g.tm.nd f hf).ev with ⟨e, _⟩ | ⟨mb', D, e, hown, hsz, hD⟩
  · rw [he] at e; cases e
  · rw [he] at e
    cases e
    refine ⟨D, hown, fun k ok => ⟨by rw [(hD k ok).1]; simp, fun z hz d => (hD k ok).2 _ (by show (f.en k).map _ = _; rw [hz]; rfl) d⟩⟩
theorem GS.none_ {w1 : World} (g : GS w1 tb m r nf nn T fb K E) (gc : GC T K) (hf : f ∈ T) (he : f.ev = .map none) (y : ByteArray) (z : Int) : f.en y ≠ some z := fun e => by
  have oy := (gc.en f hf y z e).2.1
  rcases (g.tm.nd f hf).ev with ⟨_, _, h2⟩ | ⟨mb', D, e', _⟩
  · have : (f.en y).map (Value.int .i64) = none := h2 y oy
    rw [e] at this
    cases this
  · rw [he] at e'; cases e'
theorem GS.below {w w' : World} {tb m r fb : Nat} {nf nn : Int} {T : List Fn} {K : List ByteArray} {E : ByteArray → Int → Prop} (h : GS w tb m r nf nn T fb K E) (hb : Below w.heap.size w w') : GS w' tb m r nf nn T fb K E := by
  obtain ⟨n, g, m1, m2⟩ := h.mg
  exact ⟨h.tm.below hb, h.fr, ⟨n, g, m1.keep (fun b e => hb.block b (m1.lt e)), m2⟩, h.ks⟩
theorem GS.lt {w : World} {tb m r fb : Nat} {nf nn : Int} {T : List Fn} {K : List ByteArray} {E : ByteArray → Int → Prop} (h : GS w tb m r nf nn T fb K E) : fb < w.heap.size := by
  obtain ⟨n, g, m1, m2⟩ := h.mg
  exact m1.lt rfl
theorem rw_nil (w : World) : Rw w (.slice none 0 0) [] := ⟨⟨none, 0, 0, rfl, rfl, Nat.le_refl _, fun h => absurd rfl h⟩, fun j hj => by cases hj⟩
set_option maxRecDepth 100000 in
set_option maxHeartbeats 8000000 in
theorem gather_step (FO : FollowOk tb m r nf nn T fb K f) (gc : GC T K) (hf : f ∈ T) (h : GS w tb m r nf nn T fb K E) (R : Rw w v L) (okL : ∀ t ∈ L, okT t) (hL : L.length ≤ 65536) :
    Calls Try.prog 37 #[ptr f.s.p, v, .map (some fb)] w fun e w' => e = .returned (.tuple #[]) ∧ GP w w' tb m r nf nn T fb K E f L := by
  have fd := h.tm.nd f hf
  have fm := (h.tm.inv.le f.s (List.mem_map_of_mem hf)).1
  have fo := h.tm.ok f hf
  have el := edge_len f.s fm
  obtain ⟨la, lc, hlv⟩ : ∃ la lc, f.lv = .slice la f.s.m lc := own_sl fd.lv
  have c1 : w.cell? ⟨f.s.p, 1, none⟩ = some (.slice la f.s.m lc) := by rw [← hlv]; exact box_cells fd.at_ 1 _ rfl
  obtain ⟨a0, n0, cap0, rfl, hn0, hc0, -⟩ := R.row
  have ER := hidi (row_own fd.lv)
  rw [hlv] at ER
  have GL0 := hidi (show GL w f.s.edge (wk f.s.edge L) a0 n0 cap0 0 L from ⟨R, hn0, by rw [List.drop_zero], okL, hL⟩)
  have FW := hidi FO
  have H := hidi h
  have HF := hidi hf
  have HC := hidi gc
  have EDG := hidi (And.intro el (And.intro fm fo.2))
  have EV := hidi (fun (w1 : World) (E1 : ByteArray → Int → Prop) (g : GS w1 tb m r nf nn T fb K E1) => (show w1.cell? ⟨f.s.p, 2, none⟩ = some f.ev from box_cells (g.tm.nd f hf).at_ 2 _ rfl))
  obtain ⟨W, hW⟩ : ∃ W, W = wk f.s.edge L := ⟨_, rfl⟩
  rw [← hW] at GL0
  have HW := hidi hW
  have FE : f.ev = .map none ∨ ∃ mb, f.ev = .map (some mb) := fd.ev.mk
  have HE := hidi FE
  unfold ptr at *
  clear h hf gc fd fm fo el hlv R okL hL FO hc0 hW FE hn0
  go_enter Try.func37, Try.ntmps37
  go_wp2_with fail
  go_step3
  go_wp2_with fail
  go_step3
  go_wp2_with fail
  go_loopg [1, 7, 15, 19, 22] f.s.m (fun gg s1 s7 s15 s19 s22 wx => ∃ (k : Nat) (a : Option Addr) (n c : Nat) (Lk : List ByteArray), k ≤ f.s.m ∧ gg = f.s.m - k ∧ s15 = .int .i64 k ∧ s1 = .slice a n c ∧ w = wx ∧ Hid (GL w f.s.edge W a n c k Lk))
  case atStart => exact ⟨0, a0, n0, cap0, L, Nat.zero_le _, rfl, rfl, rfl, rfl, GL0⟩
  case round =>
    clear GL0 c1
    obtain ⟨k, a, n, c, Lk, hk, rfl, rfl, rfl, rfl, Z⟩ := hrel
    by_cases hlt : k < f.s.m
    · have hlt' : (k : Int) < f.s.m := by omega
      obtain ⟨x, hx⟩ : ∃ x, f.s.edge[k]? = some x := ⟨_, List.getElem?_eq_getElem (by have := EDG.out.1; omega)⟩
      have hdr : f.s.edge.drop k = x :: f.s.edge.drop (k + 1) := by
        obtain ⟨hi, ei⟩ := List.getElem?_eq_some_iff.1 hx
        rw [List.drop_eq_getElem_cons hi, ei]
      obtain ⟨la', n', lc', ev, hn', hc', hrow⟩ := ER.out
      obtain ⟨g2, o2, ea, hg, hcells⟩ := hrow (fun e => by rw [e] at hx; simp at hx)
      injection ev with ev1 ev2 ev3
      rw [ea] at ev1
      subst ev1
      have x1 : w.cell? ⟨g2, o2 + k, none⟩ = some (.string x) := hcells k x hx
      have ZE := Z.out.e
      rw [hdr] at ZE
      unfold wk at ZE
      have hw : IntKind.i64.wrap ((k : Int) + 1) = (k : Int) + 1 := by rw [IntKind.wrap_i64]; have := EDG.out; omega
      clear hcells hg ea hrow ev2 ev3 hc' hn' hdr hx
      by_cases h35 : unB x = [35]
      · rw [if_pos h35] at ZE
        have q1 : (x.toList == (⟨#[35]⟩ : ByteArray).toList) = true := by rw [eq_one]; exact decide_eq_true h35
        have q1' : (x.toList == [35]) = true := by rw [eq_one']; exact decide_eq_true h35
        have HZE := hidi ZE
        have RN := hidi (show Rw w (.slice none 0 0) [] from rw_nil w)
        clear ZE h35 Z ER
        have CC := hidi (FW.out w hsh _ [] E okH H.out RN.out (by simp) (by simp))
        clear FW RN
        rcases HE.out with he | ⟨mb, he⟩
        · clear HE
          go_wp2_with (go_at_call 36; refine CC.out.mono ?_; rintro e w1 ⟨rfl, g1, c1⟩; have G1 := hidi g1; have C1 := hidi c1; have l2 := EV.out w1 _ g1; rw [he] at l2; have hrg := run_range_nilMap (P := Try.prog) w1 53 9 3 Try.underlying53; have hnx : ∀ ty, (Instr.next (.pointer (some ⟨w1.heap.size, 0, none⟩)) false ty).run Try.prog (w1.alloc (.mapIter none 0 #[] 0)) = _ := fun ty => run_next_nilMap _ ty 0 0 #[]; clear g1 c1 CC EV)
          refine wp_loop_rounds 1 ?_
          rw [rounds_succ]
          go_wp2_with fail
          rw [Exit.noGoto_normal]
          refine bodyPost_end (results_none rfl _ _ _) rfl ⟨rfl, ?_⟩
          have bb : Below w1.heap.size w1 (w1.alloc (.mapIter none 0 #[] 0)) := (Below.refl _ _).alloc (Nat.le_refl _) _
          exact fin_nil H.out HC.out.hl HF.out (by rw [← HW.out]; exact HZE.out.symm) C1.out (Below.ch bb) ((G1.out.below bb).congr (fun y z => ⟨.inl, fun c => c.elim id (fun c => absurd c (G1.out.none_ HC.out HF.out he y z))⟩))
        · clear HE
          go_wp2_with (first
            | (go_at_call 36; refine CC.out.mono ?_; rintro e w1 ⟨rfl, g1, c1⟩; have G1 := hidi g1; have C1 := hidi c1; have l2 := EV.out w1 _ g1; rw [he] at l2; obtain ⟨hne, D, hown, hD⟩ := g1.entries HF.out he; have HD := hidi hD; have HNE := hidi hne; clear g1 c1 CC hD hne EV)
            | (at_range; refine wpList_range_own _ rfl _ 53 rfl 9 3 law9 Try.underlying53 hv mb f.ne D rfl hown ?_; intro w2 hrg0 hg0 hs0))
          obtain ⟨nn0, gg0, EL0⟩ := EL.start G1.out HC.out HF.out (fun k ok => (HD.out k ok).1) hrg0 hg0
          have E0 := hidi EL0
          clear EL0 hrg0 hg0 hs0 hown l2
          (try go_frame)
          go_loopw [8, 9] (fun s8 s9 wr => ∃ (left : Lit → Bool) (cnt n' : Nat) (gq : ByteArray → Option Int), Hid (EL w1 wr mb w1.heap.size fb f.ne D f (fun y z => E y z ∨ SelK T f hsh [] y z) left cnt n' gq)) (fun _ _ wr => wr.rangeLeft mb w1.heap.size)
          case atStart => exact ⟨_, _, _, _, E0⟩
          case round =>
            clear E0
            obtain ⟨left, cnt, n', gq, Z1⟩ := hrel
            have hrg := Z1.out.rg
            go_wp2_with (at_next; refine wpList_next_ranges _ rfl _ rfl 9 law9 hv Value.string (fun v : Value => v) (fun key kl hk => by obtain ⟨x, hx, _⟩ := Go.WideMaps.string_of_keyOf Try.underlying9 hk; exact ⟨x, hx⟩) (fun v y _ => ⟨v, rfl⟩) mb _ f.ne D _ _ rfl hrg ?_ ?_)
            · intro hc0 hl0
              clear hrg
              go_wp2_with fail
              rw [Exit.noGoto_normal]
              refine bodyPost_end (results_none rfl _ _ _) rfl ⟨rfl, ?_⟩
              exact fin_nil H.out HC.out.hl HF.out (by rw [← HW.out]; exact HZE.out.symm) C1.out Z1.out.ch (Z1.out.ends G1.out HF.out HC.out hl0)
            · intro xk cv kl yd yp w2 cnt2 hkey hlk hvv hat hrg2 hlt2 hg2 hs2 hen
              obtain ⟨x', ex, rfl, hwx⟩ := Go.WideMaps.string_of_keyOf Try.underlying9 hkey
              cases ex
              have hyd : yd = .held cv := by simp [hv] at hvv; exact hvv.1.symm
              subst hyd
              have hhas : Maps.has D (kt xk) = true := Go.Maps.has_true_of_atKey hat
              obtain ⟨q, hq⟩ : ∃ q, f.en xk = some q := by
                have := (HD.out xk hwx).1
                rw [hhas] at this
                exact Option.isSome_iff_exists.1 this.symm
              have hcv : cv = .int .i64 q := by
                have h1 := hat (.held cv)
                have h2 := (HD.out xk hwx).2 q hq (.held cv)
                rw [show D.atKey (kt xk) (.held cv) = _ from h1] at h2
                injection h2
              subst hcv
              obtain ⟨hlook, w3, n3', g3', hup, E3⟩ := Z1.out.step (K := K) hg2 (Nat.le_refl _) G1.out.lt HNE.out hrg2 hwx hlk hq G1.out.ks (HC.out.en f HF.out) HC.out.few
              obtain ⟨gv, hgv⟩ : ∃ gv, gv = (gq xk).getD 0 := ⟨_, rfl⟩
              rw [← hgv] at hlook hup
              have EN := hidi E3
              have HL := hidi (show w3.rangeLeft mb w1.heap.size < wr.rangeLeft mb w1.heap.size by rw [E3.rg.left_eq, hrg.left_eq]; exact hlt2)
              clear hkey hlk hvv hat hg2 hs2 hwx hrg2 hhas hq hrg E3 Z1 hgv
              go_wp2_with fail
              go_roundw
              case rel => exact ⟨_, _, _, _, EN⟩
              case measure => exact HL.out
      · rw [if_neg h35] at ZE
        have q1 : (x.toList == (⟨#[35]⟩ : ByteArray).toList) = false := by rw [eq_one]; exact decide_eq_false h35
        have q1' : (x.toList == [35]) = false := by rw [eq_one']; exact decide_eq_false h35
        cases Lk with
        | nil =>
          have HZE := hidi (show W = none from ZE.symm)
          have HZN : n = 0 := Z.out.n
          clear ZE h35 Z ER FW EV
          obtain rfl : n = 0 := HZN
          go_wp2_with fail
          try rw [Exit.noGoto_ret]
          exact bodyPost_ret (results_none rfl _ _ _) rfl ⟨rfl, fin_none H.out HC.out.hl HF.out (by rw [← HW.out, HZE.out])⟩
        | cons y ys =>
          simp only at ZE
          obtain ⟨g3, o3, n3, cap3, e3, hn3, hc3, hg3, y1, -⟩ := Z.out.r.row.cons
          injection e3 with e31 e32 e33
          subst e31 e32 e33
          have hpos : ((n : Int) == 0) = false := by rw [beq_eq_false_iff_ne]; omega
          have hpos1 : (0 : Int) < (n : Int) := by omega
          have hpos2 : (1 : Int) ≤ (n : Int) := by omega
          by_cases hd : unB x ≠ [43] ∧ unB x ≠ unB y
          · rw [if_pos hd] at ZE
            have q2 : (x.toList == (⟨#[43]⟩ : ByteArray).toList) = false := by rw [eq_one]; exact decide_eq_false hd.1
            have q2' : (x.toList == [43]) = false := by rw [eq_one']; exact decide_eq_false hd.1
            have q3 : (x.toList == y.toList) = false := by rw [eq_two]; exact decide_eq_false hd.2
            have HZE := hidi (show W = none from ZE.symm)
            clear ZE h35 Z ER FW EV hd hn3 hc3 hg3
            go_wp2_with fail
            try rw [Exit.noGoto_ret]
            exact bodyPost_ret (results_none rfl _ _ _) rfl ⟨rfl, fin_none H.out HC.out.hl HF.out (by rw [← HW.out, HZE.out])⟩
          · rw [if_neg hd] at ZE
            have hpos3 : (1 : Int) ≤ (c : Int) := by omega
            have NX1 := hidi (fun (e : c = 1) => (show GL w f.s.edge W (some ⟨g3, o3, none⟩) (n - 1) 0 (k + 1) ys from ⟨by
              have T := Z.out.r.drop (k := 1) (by omega)
              simp only [List.drop_one, List.tail_cons, if_pos e] at T
              rw [e] at T
              exact T, by omega, ZE, fun t ht => Z.out.o t (List.mem_cons_of_mem _ ht), by have := Z.out.l; simp at this; omega⟩))
            have NX2 := hidi (fun (e : ¬ c = 1) => (show GL w f.s.edge W (some ⟨g3, o3 + 1, none⟩) (n - 1) (c - 1) (k + 1) ys from ⟨by
              have T := Z.out.r.drop (k := 1) (by omega)
              simp only [List.drop_one, List.tail_cons, if_neg e] at T
              exact T, by omega, ZE, fun t ht => Z.out.o t (List.mem_cons_of_mem _ ht), by have := Z.out.l; simp at this; omega⟩))
            have ha : (unB x = [43]) ∨ (¬ unB x = [43] ∧ unB x = unB y) := by
              by_cases e : unB x = [43]
              · exact .inl e
              · exact .inr ⟨e, Classical.byContradiction fun q => hd ⟨e, q⟩⟩
            clear ZE h35 Z hd hn3 hc3 hg3
            rcases ha with h43 | ⟨h43, h3⟩
            · have q2 : (x.toList == (⟨#[43]⟩ : ByteArray).toList) = true := by rw [eq_one]; exact decide_eq_true h43
              have q2' : (x.toList == [43]) = true := by rw [eq_one']; exact decide_eq_true h43
              clear h43
              go_wp2_with fail
              all_goals go_roundg (f.s.m - (k + 1))
              all_goals first
                | omega
                | exact ⟨k + 1, some ⟨g3, o3, none⟩, n - 1, 0, ys, by omega, rfl, rfl, rfl, rfl, NX1.out (by first | assumption | rfl | omega)⟩
                | exact ⟨k + 1, some ⟨g3, o3 + 1, none⟩, n - 1, _, ys, by omega, rfl, rfl, rfl, rfl, NX2.out (by first | assumption | omega)⟩
            · have q2 : (x.toList == (⟨#[43]⟩ : ByteArray).toList) = false := by rw [eq_one]; exact decide_eq_false h43
              have q2' : (x.toList == [43]) = false := by rw [eq_one']; exact decide_eq_false h43
              have q3 : (x.toList == y.toList) = true := by rw [eq_two]; exact decide_eq_true h3
              clear h43 h3
              go_wp2_with fail
              all_goals go_roundg (f.s.m - (k + 1))
              all_goals first
                | omega
                | exact ⟨k + 1, some ⟨g3, o3, none⟩, n - 1, 0, ys, by omega, rfl, rfl, rfl, rfl, NX1.out (by first | assumption | rfl | omega)⟩
                | exact ⟨k + 1, some ⟨g3, o3 + 1, none⟩, n - 1, _, ys, by omega, rfl, rfl, rfl, rfl, NX2.out (by first | assumption | omega)⟩
    · have hlt' : ¬ (k : Int) < f.s.m := by omega
      obtain rfl : k = f.s.m := by omega
      have ZE : W = some Lk := by
        have := Z.out.e
        rw [List.drop_of_length_le (by have := EDG.out.1; omega)] at this
        exact this.symm
      clear ER
      cases Lk with
      | nil =>
        have HZN : n = 0 := Z.out.n
        subst HZN
        have RN := hidi Z.out.r
        have HZE := hidi ZE.symm
        clear ZE Z
        have CC := hidi (FW.out w hsh _ [] E okH H.out RN.out (by simp) (by simp))
        clear FW RN
        rcases HE.out with he | ⟨mb, he⟩
        · clear HE
          go_wp2_with (go_at_call 36; refine CC.out.mono ?_; rintro e w1 ⟨rfl, g1, c1⟩; have G1 := hidi g1; have C1 := hidi c1; have l2 := EV.out w1 _ g1; rw [he] at l2; have hrg := run_range_nilMap (P := Try.prog) w1 53 9 3 Try.underlying53; have hnx : ∀ ty, (Instr.next (.pointer (some ⟨w1.heap.size, 0, none⟩)) false ty).run Try.prog (w1.alloc (.mapIter none 0 #[] 0)) = _ := fun ty => run_next_nilMap _ ty 0 0 #[]; clear g1 c1 CC EV)
          refine wp_loop_rounds 1 ?_
          rw [rounds_succ]
          go_wp2_with fail
          rw [Exit.noGoto_normal]
          refine bodyPost_end (results_none rfl _ _ _) rfl ⟨rfl, ?_⟩
          have bb : Below w1.heap.size w1 (w1.alloc (.mapIter none 0 #[] 0)) := (Below.refl _ _).alloc (Nat.le_refl _) _
          exact fin_nil H.out HC.out.hl HF.out (by rw [← HW.out]; exact HZE.out.symm) C1.out (Below.ch bb) ((G1.out.below bb).congr (fun y z => ⟨.inl, fun c => c.elim id (fun c => absurd c (G1.out.none_ HC.out HF.out he y z))⟩))
        · clear HE
          go_wp2_with (first
            | (go_at_call 36; refine CC.out.mono ?_; rintro e w1 ⟨rfl, g1, c1⟩; have G1 := hidi g1; have C1 := hidi c1; have l2 := EV.out w1 _ g1; rw [he] at l2; obtain ⟨hne, D, hown, hD⟩ := g1.entries HF.out he; have HD := hidi hD; have HNE := hidi hne; clear g1 c1 CC hD hne EV)
            | (at_range; refine wpList_range_own _ rfl _ 53 rfl 9 3 law9 Try.underlying53 hv mb f.ne D rfl hown ?_; intro w2 hrg0 hg0 hs0))
          obtain ⟨nn0, gg0, EL0⟩ := EL.start G1.out HC.out HF.out (fun k ok => (HD.out k ok).1) hrg0 hg0
          have E0 := hidi EL0
          clear EL0 hrg0 hg0 hs0 hown l2
          (try go_frame)
          go_loopw [8, 9] (fun s8 s9 wr => ∃ (left : Lit → Bool) (cnt n' : Nat) (gq : ByteArray → Option Int), Hid (EL w1 wr mb w1.heap.size fb f.ne D f (fun y z => E y z ∨ SelK T f hsh [] y z) left cnt n' gq)) (fun _ _ wr => wr.rangeLeft mb w1.heap.size)
          case atStart => exact ⟨_, _, _, _, E0⟩
          case round =>
            clear E0
            obtain ⟨left, cnt, n', gq, Z1⟩ := hrel
            have hrg := Z1.out.rg
            go_wp2_with (at_next; refine wpList_next_ranges _ rfl _ rfl 9 law9 hv Value.string (fun v : Value => v) (fun key kl hk => by obtain ⟨x, hx, _⟩ := Go.WideMaps.string_of_keyOf Try.underlying9 hk; exact ⟨x, hx⟩) (fun v y _ => ⟨v, rfl⟩) mb _ f.ne D _ _ rfl hrg ?_ ?_)
            · intro hc0 hl0
              clear hrg
              go_wp2_with fail
              rw [Exit.noGoto_normal]
              refine bodyPost_end (results_none rfl _ _ _) rfl ⟨rfl, ?_⟩
              exact fin_nil H.out HC.out.hl HF.out (by rw [← HW.out]; exact HZE.out.symm) C1.out Z1.out.ch (Z1.out.ends G1.out HF.out HC.out hl0)
            · intro xk cv kl yd yp w2 cnt2 hkey hlk hvv hat hrg2 hlt2 hg2 hs2 hen
              obtain ⟨x', ex, rfl, hwx⟩ := Go.WideMaps.string_of_keyOf Try.underlying9 hkey
              cases ex
              have hyd : yd = .held cv := by simp [hv] at hvv; exact hvv.1.symm
              subst hyd
              have hhas : Maps.has D (kt xk) = true := Go.Maps.has_true_of_atKey hat
              obtain ⟨q, hq⟩ : ∃ q, f.en xk = some q := by
                have := (HD.out xk hwx).1
                rw [hhas] at this
                exact Option.isSome_iff_exists.1 this.symm
              have hcv : cv = .int .i64 q := by
                have h1 := hat (.held cv)
                have h2 := (HD.out xk hwx).2 q hq (.held cv)
                rw [show D.atKey (kt xk) (.held cv) = _ from h1] at h2
                injection h2
              subst hcv
              obtain ⟨hlook, w3, n3', g3', hup, E3⟩ := Z1.out.step (K := K) hg2 (Nat.le_refl _) G1.out.lt HNE.out hrg2 hwx hlk hq G1.out.ks (HC.out.en f HF.out) HC.out.few
              obtain ⟨gv, hgv⟩ : ∃ gv, gv = (gq xk).getD 0 := ⟨_, rfl⟩
              rw [← hgv] at hlook hup
              have EN := hidi E3
              have HL := hidi (show w3.rangeLeft mb w1.heap.size < wr.rangeLeft mb w1.heap.size by rw [E3.rg.left_eq, hrg.left_eq]; exact hlt2)
              clear hkey hlk hvv hat hg2 hs2 hwx hrg2 hhas hq hrg E3 Z1 hgv
              go_wp2_with fail
              go_roundw
              case rel => exact ⟨_, _, _, _, EN⟩
              case measure => exact HL.out
      | cons y ys =>
        obtain ⟨g3, o3, n3, cap3, e3, hn3, hc3, hg3, y1, -⟩ := Z.out.r.row.cons
        injection e3 with e31 e32 e33
        subst e31 e32 e33
        have hpos1 : (0 : Int) < (n : Int) := by omega
        have hpos2 : (n : Int) > 0 := by omega
        have RY := hidi Z.out.r
        have OY := hidi (And.intro Z.out.o Z.out.l)
        have CC1 := hidi (FW.out w hsh _ (y :: ys) E okH H.out Z.out.r Z.out.o Z.out.l)
        have HZE := hidi ZE
        clear ZE Z hn3 hc3 hg3 EV HE y1
        go_wp2_with (first
          | (go_at_call 36; refine CC1.out.mono ?_; rintro e w1 ⟨rfl, g1, c1⟩; have C1 := hidi c1; have r1 := H.out.rw RY.out c1; have CC2 := hidi (FW.out w1 pls _ (y :: ys) _ okP g1 r1 OY.out.1 OY.out.2); have R1 := hidi r1; have G1 := hidi g1; clear g1 c1 r1 CC1)
          | (go_at_call 36; refine CC2.out.mono ?_; rintro e w2 ⟨rfl, g2, c2⟩; have C2 := hidi c2; have r2 := G1.out.rw R1.out c2; have l2 := r2.head; have CC3 := hidi (FW.out w2 y _ (y :: ys) _ (OY.out.1 y List.mem_cons_self) g2 r2 OY.out.1 OY.out.2); clear g2 c2 r2 CC2 R1)
          | (go_at_call 36; refine CC3.out.mono ?_; rintro e w3 ⟨rfl, g3, c3⟩; have G3 := hidi g3; have C3 := hidi c3; clear g3 c3 CC3 l2))
        try rw [Exit.noGoto_ret]
        exact bodyPost_ret (results_none rfl _ _ _) rfl ⟨rfl, fin_cons H.out HC.out.hl HF.out (by rw [← HW.out]; exact HZE.out) C1.out C2.out C3.out G3.out⟩
/-- GATHER, from any node. -/
theorem gather_any (tb m r : Nat) (nf nn : Int) (T : List Fn) (fb : Nat) (K : List ByteArray) (gc : GC T K) : ∀ N, GatherOk tb m r nf nn T fb K N
  | 0 => fun w f v L E hf hN h R okL hL => by have := (h.tm.ok f hf).2; omega
  | N + 1 => fun w f v L E hf hN h R okL hL => gather_step (follow_any (gather_any tb m r nf nn T fb K gc N) hf (by omega)) gc hf h R okL hL
end Go.Proofs.Ytepjcfhbbcaldaa.Li
