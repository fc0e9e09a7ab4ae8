import Derived.Test.YtepjcfhbbcaldaaGreatKie
import Derived.Test.YtepjcfhbbcaldaaGreatKjf
import Derived.Test.YtepjcfhbbcaldaaGreatCg
namespace Go.Proofs.YtepjcfhbbcaldaaGreat.Li
open Go Go.RowKit
set_option linter.unusedSimpArgs false
set_option linter.unusedVariables false
variable {w w' : World} {tb m r fb : Nat} {nf nn : Int} {T : List Fn} {K : List ByteArray}
/-- What is at the filters that match a topic. -/
def Fd (T : List Fn) (t : ByteArray) (y : ByteArray) (z : Int) : Prop := tcode t = 0 ∧ ∃ g ∈ T, ¬ (atB t 0 = 36 ∧ hd0 (g.s.A.map unB) = true) ∧ mt (g.s.A.map unB) ((levels t).map unB) = true ∧ g.en y = some z
theorem root_top {f : Fn} (h : f.s.A = []) : f.s.top = 0 := by unfold Nd.top; rw [h]; simp
theorem fd_open (ht : TM w tb m r nf nn T) {f : Fn} (h0 : f.s.A = []) {t : ByteArray} (h : tcode t = 0) (h36 : ¬ atB t 0 = 36) (y : ByteArray) (z : Int) : Sel T f (levels t) y z ↔ Fd T t y z := by
  constructor
  · rintro ⟨g, hg, _, hm, hz⟩
    rw [root_top h0, List.drop_zero] at hm
    exact ⟨h, g, hg, fun c => h36 c.1, hm, hz⟩
  · rintro ⟨_, g, hg, _, hm, hz⟩
    exact ⟨g, hg, by rw [h0]; exact List.nil_prefix, by rw [root_top h0, List.drop_zero]; exact hm, hz⟩
theorem head36 {t : ByteArray} (h36 : atB t 0 = 36) {x : ByteArray} {rs : List ByteArray} (hl : levels t = x :: rs) : ∃ u, unB x = 36 :: u := by
  have h1 := levels_split t
  rw [hl, List.map_cons] at h1
  rw [atB_un] at h36
  cases hu : unB t with
  | nil => rw [hu] at h36; simp at h36
  | cons a l =>
    rw [hu] at h36 h1
    simp at h36
    have ha : a = 36 := by
      have : a.toNat = (36 : UInt8).toNat := h36
      exact UInt8.toNat_inj.1 this
    subst ha
    obtain ⟨hh, tt, es⟩ := split_some l
    rw [split_plain 36 l hh tt (by decide) es] at h1
    injection h1 with h1 h2
    exact ⟨hh, h1⟩
theorem fd_hidden (ht : TM w tb m r nf nn T) {f : Fn} (hf : f ∈ T) (h0 : f.s.A = []) {t : ByteArray} (h : tcode t = 0) (h36 : atB t 0 = 36) {x : ByteArray} {rs : List ByteArray} (hl : levels t = x :: rs) (y : ByteArray) (z : Int) : SelK T f x (levels t) y z ↔ Fd T t y z := by
  obtain ⟨u, hu⟩ := head36 h36 hl
  constructor
  · intro c
    obtain ⟨q, hq, hk, g, hg, hp, hm, hz⟩ := c
    have tq : q.s.top = 0 := by rw [hk.2.1.2.1, h0]; rfl
    rw [tq, List.drop_zero] at hm
    refine ⟨h, g, hg, fun c => ?_, hm, hz⟩
    have hx := hk.2.2
    rw [tq] at hx
    obtain ⟨v, ev⟩ := hp
    have : g.s.A[0]? = some x := by
      rw [← ev]
      rw [List.getElem?_append_left (by have := (List.getElem?_eq_some_iff.1 hx).1; exact this)]
      exact hx
    cases hg0 : g.s.A with
    | nil => rw [hg0] at this; simp at this
    | cons a l =>
      rw [hg0] at this
      simp at this
      subst this
      have c2 := c.2
      rw [hg0] at c2
      simp [hd0, hu] at c2
  · rintro ⟨_, g, hg, nh, hm, hz⟩
    cases hg0 : g.s.A with
    | nil =>
      rw [hg0, hl] at hm
      cases hm
    | cons a l =>
      rw [hg0] at hm
      have nh2 : ¬ hd0 (g.s.A.map unB) = true := fun c => nh ⟨h36, c⟩
      rw [hg0] at nh2
      rcases mt_head hm with rfl | ⟨t', ts, e, rfl | rfl⟩
      · exact absurd (show hd0 ((hsh :: l).map unB) = true by simp [hd0, hsh, unB]) nh2
      · exact absurd (show hd0 ((pls :: l).map unB) = true by simp [hd0, pls, unB]) nh2
      · rw [hl] at e
        cases e
        exact selK_of ht hf hg (rs := l) (by rw [h0, hg0]; rfl) (by rw [hl] at hm ⊢; exact hm) hz
theorem begins36 {t : ByteArray} (h : 0 < t.size) : begins t ⟨#[36]⟩ = decide (atB t 0 = 36) := by
  have e1 : (⟨#[36]⟩ : ByteArray).size = 1 := rfl
  unfold begins
  rw [e1, decide_eq_true (show 1 ≤ t.size from h), Bool.true_and, eq_two, un_extract, atB_un]
  have hs := un_size t
  cases hu : unB t with
  | nil => rw [hu] at hs; simp at hs; omega
  | cons a l =>
    simp
    constructor
    · intro e
      have : a = 36 := by
        have h2 : [a] = unB ⟨#[36]⟩ := e
        have h3 : unB ⟨#[36]⟩ = [36] := rfl
        rw [h3] at h2
        injection h2
      rw [this]; rfl
    · intro e
      have : a = 36 := by
        have : a.toNat = (36 : UInt8).toNat := e
        exact UInt8.toNat_inj.1 this
      rw [this]; rfl
/-- What find leaves. -/
structure FdR (w w' : World) (T : List Fn) (t : ByteArray) (fb : Nat) : Prop where
  mg : ∃ (n : Nat) (g : ByteArray → Option Int), n ≤ 100000 ∧ MG w' (.map (some fb)) n (fun y => (g y).map (.int .i64)) ∧ ∀ y, okT y → Best (Fd T t y) (g y)
  be : Below w.heap.size w w'
theorem FdR.of (gc : GC T K) {w1 w2 : World} (hb : Below w.heap.size w w1) (hfb : w.heap.size ≤ fb) {E : ByteArray → Int → Prop} (g : GS w2 tb m r nf nn T fb K E) (hc : Ch (fun j => j = fb) w1 w2) {t : ByteArray} (he : ∀ y z, E y z ↔ Fd T t y z) : FdR w w2 T t fb := by
  obtain ⟨n, gg, m1, m2⟩ := (g.congr he).mg
  refine ⟨⟨n, gg, ?_, m1, m2⟩, ⟨hc.os.trans hb.os, hc.tape.trans hb.tape, hc.output.trans hb.output, Nat.le_trans hb.size hc.size, fun j hj => (hc.block j (Nat.lt_of_lt_of_le hj hb.size) (by omega)).trans (hb.block j hj)⟩⟩
  refine Nat.le_trans (m1.few (fun y oy hs => ?_)) gc.few
  have := m2 y oy
  cases c : gg y with
  | none => rw [c] at hs; cases hs
  | some z => rw [c] at this; exact ((g.congr he).ks y z this.1).1
theorem gs_start (h : TM w tb m r nf nn T) {w1 : World} (hb : Below (w.alloc (.map #[] 0)).heap.size (w.alloc (.map #[] 0)) w1) : GS w1 tb m r nf nn T w.heap.size K (fun _ _ => False) := by
  have ba : Below w.heap.size w (w.alloc (.map #[] 0)) := (Below.refl _ _).alloc (Nat.le_refl _) _
  have bb := ba.trans (hb.mono ba.size)
  refine ⟨h.below bb, fun c => by have := h.islt c; omega, ⟨0, fun _ => none, ?_, fun y _ z c => c⟩, fun y z c => c.elim⟩
  exact (MG.made w).keep (fun b e => by
    cases e
    exact hb.block _ (by simp))
set_option maxRecDepth 100000 in
set_option maxHeartbeats 4000000 in
/-- FIND, as a map. -/
theorem find_any (h : TM w tb m r nf nn T) (gc : GC T K) (t : ByteArray) :
    Calls Tryz.prog 29 #[ptr tb, .string t] w fun e w' => ∃ fb, e = .returned (.map (some fb)) ∧ FdR w w' T t fb := by
  have ba : Below w.heap.size w (w.alloc (.map #[] 0)) := (Below.refl _ _).alloc (Nat.le_refl _) _
  obtain ⟨rf, hrf, rA, rp⟩ := h.rt
  have TC := hidi (fun w => tcheck_any t w)
  have GS0 := hidi (fun (w1 : World) hb => gs_start (K := K) (w1 := w1) h hb)
  have HB := hidi ba
  have HG := hidi gc
  have mk := mkm53 w
  by_cases tc : tcode t = 0
  · have ts := tcode_zero tc
    rw [tc] at TC
    have LV := hidi (fun w => tlevels_any t (by omega) w)
    obtain ⟨x, rs, hl, -⟩ := levels_head t
    have okl : ∀ y ∈ levels t, okT y := fun y hy => by have := levels_size t y hy; unfold okT maxLen; omega
    have lle : (levels t).length ≤ 65536 := by have := levels_len t; omega
    have CR := hidi (fun (w1 : World) (hb : Below w.heap.size w w1) => (show w1.cell? ⟨tb, 0, none⟩ = some (ptr r) from box_cells (h.below hb).tr 0 _ rfl))
    have HL := hidi hl
    by_cases h36 : atB t 0 = 36
    · have PR := hidi (fun w => (show Calls Tryz.prog 50 #[.string t, .string ⟨#[36]⟩] w fun e w' => e = .returned (.bool true) ∧ w' = w from by
        have := pre_any t ⟨#[36]⟩ w
        rw [begins36 ts.2, decide_eq_true h36] at this
        exact this))
      have GO := hidi (fun (w4 : World) (v : Value) (g4 : GS w4 tb m r nf nn T w.heap.size K (fun _ _ => False)) (R : Rw w4 v (levels t)) => (show Calls Tryz.prog 51 #[ptr r, .string x, v, .map (some w.heap.size)] w4 fun e w' => e = .returned (.tuple #[]) ∧ GS w' tb m r nf nn T w.heap.size K (fun y z => Fd T t y z) ∧ Ch (fun j => j = w.heap.size) w4 w' from by
        have := follow_any (gather_any tb m r nf nn T w.heap.size K gc 65537) hrf (by omega) w4 x v (levels t) _ (okl x (by rw [hl]; exact List.mem_cons_self)) g4 R okl lle
        rw [rp] at this
        refine this.mono ?_
        rintro e w' ⟨rfl, a, b⟩
        exact ⟨rfl, a.congr (fun y z => by rw [fd_hidden h hrf rA tc h36 hl]; simp), b⟩))
      unfold ptr at *
      clear h hrf rA rp okl lle ts tc gc ba h36
      go_enter Tryz.func29, Tryz.ntmps29
      go_wp2_with (first
        | (go_at_call 49; refine (TC.out _).mono ?_; rintro e w1 ⟨rfl, hb⟩; have B1 := hidi hb; clear hb TC)
        | (go_at_call 23; refine (LV.out _).mono ?_; rintro e w2 ⟨v, rfl, ho, hb⟩; have B2 := hidi (B1.out.trans (hb.mono B1.out.size)); have R2 := hidi (rw_own ho); have rr := R2.out; rw [HL.out] at rr; obtain ⟨g0, o0, n0, cap0, rfl, hn0, hc0, hg0, l0, -⟩ := rr.row.cons; have p0 : (0 : Int) < n0 := (by omega); have c0 := CR.out w2 (HB.out.trans (B2.out.mono HB.out.size)); clear hb LV ho hn0 hc0 hg0 rr)
        | (go_at_call 50; refine (PR.out _).mono ?_; rintro e w3 ⟨rfl, he⟩; obtain rfl := he.symm; clear PR))
      have GD := hidi (GO.out w2.drew _ (GS0.out _ B2.out.drew) (R2.out.below ((Below.refl _ _).drew)))
      have BD := hidi (HB.out.trans (B2.out.mono HB.out.size)).drew
      clear GO GS0 CR
      go_region_with (go_at_call 51; refine GD.out.mono ?_; rintro e w5 ⟨rfl, g5, c5⟩; have FR := hidi (FdR.of HG.out BD.out (Nat.le_refl _) g5 c5 (fun y z => Iff.rfl)); clear g5 c5 GD)
      all_goals go_wp2_with fail
      all_goals go_ret
      all_goals exact ⟨_, rfl, FR.out⟩
    · have PR := hidi (fun w => (show Calls Tryz.prog 50 #[.string t, .string ⟨#[36]⟩] w fun e w' => e = .returned (.bool false) ∧ w' = w from by
        have := pre_any t ⟨#[36]⟩ w
        rw [begins36 ts.2, decide_eq_false h36] at this
        exact this))
      have GO := hidi (fun (w4 : World) (v : Value) (g4 : GS w4 tb m r nf nn T w.heap.size K (fun _ _ => False)) (R : Rw w4 v (levels t)) => (show Calls Tryz.prog 52 #[ptr r, v, .map (some w.heap.size)] w4 fun e w' => e = .returned (.tuple #[]) ∧ GS w' tb m r nf nn T w.heap.size K (fun y z => Fd T t y z) ∧ Ch (fun j => j = w.heap.size) w4 w' from by
        have := gather_any tb m r nf nn T w.heap.size K gc 65538 w4 rf v (levels t) _ hrf (by omega) g4 R okl lle
        rw [rp] at this
        refine this.mono ?_
        rintro e w' ⟨rfl, a, b⟩
        exact ⟨rfl, a.congr (fun y z => by rw [fd_open h rA tc h36]; simp), b⟩))
      unfold ptr at *
      clear h hrf rA rp okl lle ts tc gc ba h36
      go_enter Tryz.func29, Tryz.ntmps29
      go_wp2_with (first
        | (go_at_call 49; refine (TC.out _).mono ?_; rintro e w1 ⟨rfl, hb⟩; have B1 := hidi hb; clear hb TC)
        | (go_at_call 23; refine (LV.out _).mono ?_; rintro e w2 ⟨v, rfl, ho, hb⟩; have B2 := hidi (B1.out.trans (hb.mono B1.out.size)); have R2 := hidi (rw_own ho); have rr := R2.out; rw [HL.out] at rr; obtain ⟨g0, o0, n0, cap0, rfl, hn0, hc0, hg0, l0, -⟩ := rr.row.cons; have p0 : (0 : Int) < n0 := (by omega); have c0 := CR.out w2 (HB.out.trans (B2.out.mono HB.out.size)); clear hb LV ho hn0 hc0 hg0 rr)
        | (go_at_call 50; refine (PR.out _).mono ?_; rintro e w3 ⟨rfl, he⟩; obtain rfl := he.symm; clear PR)
        | (go_at_call 52; refine (GO.out w2 _ (GS0.out _ B2.out) R2.out).mono ?_; rintro e w5 ⟨rfl, g5, c5⟩; have FR := hidi (FdR.of HG.out (HB.out.trans (B2.out.mono HB.out.size)) (Nat.le_refl _) g5 c5 (fun y z => Iff.rfl)); clear g5 c5 GO))
      go_ret
      exact ⟨_, rfl, FR.out⟩
  · obtain ⟨c, hc⟩ : ∃ c, c = tcode t := ⟨_, rfl⟩
    have hne : (c == 0) = false := by rw [beq_eq_false_iff_ne, hc]; exact tc
    have NO := hidi (fun y z => (show False ↔ Fd T t y z from ⟨fun c => c.elim, fun c => tc c.1⟩))
    rw [← hc] at TC
    unfold ptr at *
    clear h hrf rA rp tc gc ba hc
    go_enter Tryz.func29, Tryz.ntmps29
    go_wp2_with (go_at_call 49; refine (TC.out _).mono ?_; rintro e w1 ⟨rfl, hb⟩; have FR := hidi (FdR.of HG.out (HB.out.trans (hb.mono HB.out.size)) (Nat.le_refl _) (GS0.out w1 hb) (Ch.refl _ _) NO.out); clear hb TC)
    go_ret
    exact ⟨_, rfl, FR.out⟩
/-- What Find leaves. -/
structure FindR (w w' : World) (T : List Fn) (t : ByteArray) (v : Value) (g : ByteArray → Option Int) (n : Nat) (L : List ByteArray) : Prop where
  row : w'.ownsRow w.heap.size 45 2 v L.length (prow (eL g L))
  ks : KsOf (fun y => (g y).map (Value.int .i64)) n L
  bs : ∀ y, okT y → Best (Fd T t y) (g y)
  n : n ≤ 100000
  be : Below w.heap.size w w'
set_option maxRecDepth 100000 in
set_option maxHeartbeats 4000000 in
/-- FIND. -/
theorem Find_any (h : TM w tb m r nf nn T) (gc : GC T K) (t : ByteArray) :
    Calls Tryz.prog 15 #[ptr tb, .string t] w fun e w' => ∃ v, e = .returned v ∧ ∃ g n L, FindR w w' T t v g n L := by
  have FI := hidi (find_any h gc t)
  have SO := hidi (fun (w1 : World) (fb : Nat) (fr : FdR w w1 T t fb) => (show Calls Tryz.prog 28 #[.map (some fb)] w1 fun e w' => ∃ v, e = .returned v ∧ ∃ g n L, FindR w w' T t v g n L from by
    obtain ⟨⟨n, g, hn, m1, m2⟩, be⟩ := fr
    refine (sorted_any m1 hn).mono ?_
    rintro e w' ⟨v, L, rfl, ho, ks, hb⟩
    exact ⟨v, rfl, g, n, L, row_base ho (fun g hg => by have := row_ge ho hg; have := be.size; omega), ks, m2, hn, be.trans (hb.mono be.size)⟩))
  unfold ptr at *
  clear h gc
  go_enter Tryz.func15, Tryz.ntmps15
  go_wp2_with (first
    | (go_at_call 29; refine FI.out.mono ?_; rintro e w1 ⟨fb, rfl, fr⟩; have S1 := hidi (SO.out w1 fb fr); clear fr FI SO)
    | (go_at_call 28; refine S1.out.mono ?_; rintro e w2 ⟨v, rfl, fr⟩; have FR := hidi fr; clear fr S1))
  go_ret
  exact ⟨v, rfl, FR.out⟩
end Go.Proofs.YtepjcfhbbcaldaaGreat.Li
namespace Go.Proofs.YtepjcfhbbcaldaaGreat.Li
open Go Go.RowKit
set_option linter.unusedSimpArgs false
set_option linter.unusedVariables false
theorem levels_inj {a b : ByteArray} (h : levels a = levels b) : a = b := by
  have h1 := levels_split a
  have h2 := levels_split b
  rw [h] at h1
  have h3 : unB a = unB b := split_inj (h1.symm.trans h2)
  unfold unB at h3
  cases a with | mk a => cases b with | mk b => simp at h3; rw [h3]
/-- No later word of the same key at the same filter. -/
def Last (l : List Sb) (i : Nat) (s : Sb) : Prop := ∀ k s', i < k → l[k]? = some s' → ¬ (s'.x = s.x ∧ s'.f = s.f ∧ 0 ≤ s'.q ∧ s'.q ≤ 2)
def LwK (l : List Sb) (y t : ByteArray) (k : Nat) (z : Int) : Prop := ∃ i s, i < k ∧ l[i]? = some s ∧ s.x = y ∧ 0 ≤ s.q ∧ s.q ≤ 2 ∧ mch s.f t = true ∧ Last l i s ∧ z = s.q
theorem hold_snoc (l : List Sb) (a : Sb) : hold (l ++ [a]) = stepE (hold l) a := by
  unfold hold
  rw [List.foldl_append]
  rfl
theorem get_snoc {l : List Sb} {a s : Sb} {i : Nat} (h : (l ++ [a])[i]? = some s) : (i < l.length ∧ l[i]? = some s) ∨ (i = l.length ∧ s = a) := by
  by_cases c : i < l.length
  · rw [List.getElem?_append_left c] at h
    exact .inl ⟨c, h⟩
  · rw [List.getElem?_append_right (by omega)] at h
    by_cases e : i - l.length = 0
    · rw [e] at h
      simp at h
      exact .inr ⟨by omega, h.symm⟩
    · obtain ⟨j, hj⟩ : ∃ j, i - l.length = j + 1 := ⟨i - l.length - 1, by omega⟩
      rw [hj] at h
      simp at h
/-- WHAT IS HELD: the last word of each filter. -/
theorem hold_iff (l : List Sb) : ∀ F y z, hold l F y z ↔ ∃ i s, l[i]? = some s ∧ rfc s.f = 0 ∧ levels s.f = F ∧ s.x = y ∧ 0 ≤ s.q ∧ s.q ≤ 2 ∧ s.q = z ∧ Last l i s := by
  suffices H : ∀ r : List Sb, ∀ l : List Sb, l.reverse = r → ∀ F y z, hold l F y z ↔ ∃ i s, l[i]? = some s ∧ rfc s.f = 0 ∧ levels s.f = F ∧ s.x = y ∧ 0 ≤ s.q ∧ s.q ≤ 2 ∧ s.q = z ∧ Last l i s from H _ l rfl
  intro r
  induction r with
  | nil =>
    intro l e F y z
    have : l = [] := by simpa using e
    subst this
    constructor
    · intro c; exact c.elim
    · rintro ⟨i, s, h, _⟩; simp at h
  | cons a r ih =>
    intro l e F y z
    obtain ⟨l', rfl⟩ : ∃ l', l = l' ++ [a] := ⟨r.reverse, by rw [← List.reverse_reverse l, e]; simp⟩
    have ih := ih l' (by simpa using e)
    rw [hold_snoc]
    unfold stepE
    constructor
    · intro c
      split at c
      · rename_i hc
        rcases c with ⟨rfl, rfl, rfl⟩ | ⟨hne, c⟩
        · refine ⟨l'.length, a, by simp, hc.1, rfl, rfl, hc.2.1, hc.2.2, rfl, fun k s' hk hs => ?_⟩
          rcases get_snoc hs with ⟨c1, _⟩ | ⟨c1, _⟩ <;> omega
        · obtain ⟨i, s, h1, h2, h3, h4, h5, h6, h7, h8⟩ := (ih F y z).1 c
          have hi : i < l'.length := (List.getElem?_eq_some_iff.1 h1).1
          refine ⟨i, s, by rw [List.getElem?_append_left hi]; exact h1, h2, h3, h4, h5, h6, h7, fun k s' hk hs => ?_⟩
          rcases get_snoc hs with ⟨_, c2⟩ | ⟨_, rfl⟩
          · exact h8 k s' hk c2
          · rintro ⟨e1, e2, _, _⟩
            exact hne ⟨by rw [← h3, e2], by rw [← h4, e1]⟩
      · rename_i hc
        obtain ⟨i, s, h1, h2, h3, h4, h5, h6, h7, h8⟩ := (ih F y z).1 c
        have hi : i < l'.length := (List.getElem?_eq_some_iff.1 h1).1
        refine ⟨i, s, by rw [List.getElem?_append_left hi]; exact h1, h2, h3, h4, h5, h6, h7, fun k s' hk hs => ?_⟩
        rcases get_snoc hs with ⟨_, c2⟩ | ⟨_, rfl⟩
        · exact h8 k s' hk c2
        · rintro ⟨e1, e2, e3, e4⟩
          exact hc ⟨by rw [e2]; exact h2, e3, e4⟩
    · rintro ⟨i, s, h1, h2, h3, h4, h5, h6, h7, h8⟩
      rcases get_snoc h1 with ⟨c1, c2⟩ | ⟨c1, rfl⟩
      · have hl : hold l' F y z := (ih F y z).2 ⟨i, s, c2, h2, h3, h4, h5, h6, h7, fun k s' hk hs => h8 k s' hk (by rw [List.getElem?_append_left (List.getElem?_eq_some_iff.1 hs).1]; exact hs)⟩
        split
        · rename_i hc
          refine .inr ⟨fun e => ?_, hl⟩
          exact h8 l'.length a c1 (by simp) ⟨by rw [h4, e.2], levels_inj (by rw [h3, ← e.1]), hc.2.1, hc.2.2⟩
        · exact hl
      · rw [if_pos ⟨h2, h5, h6⟩]
        exact .inl ⟨h3.symm, h4.symm, h7.symm⟩
/-- FIND TELLS WHAT A LIST WOULD. -/
theorem fd_lw {l : List Sb} {T : List Fn} (h : ∀ F y z, HasE T F y z ↔ hold l F y z) (t y : ByteArray) (z : Int) : Fd T t y z ↔ LwK l y t l.length z := by
  constructor
  · rintro ⟨ht, g, hg, hh, hm, hz⟩
    obtain ⟨i, s, h1, h2, h3, h4, h5, h6, h7, h8⟩ := (hold_iff l g.s.A y z).1 ((h _ _ _).1 ⟨g, hg, rfl, hz⟩)
    rw [← h3, levels_split] at hh hm
    rw [levels_split] at hm
    refine ⟨i, s, (List.getElem?_eq_some_iff.1 h1).1, h1, h4, h5, h6, ?_, h8, h7.symm⟩
    unfold mch
    rw [decide_eq_true h2, decide_eq_true ht, hm]
    by_cases c : atB t 0 = 36
    · have : hd0 (split (unB s.f)) = false := by
        cases e : hd0 (split (unB s.f)) with
        | false => rfl
        | true => exact (hh ⟨c, e⟩).elim
      rw [this]; simp
    · rw [decide_eq_false c]; rfl
  · rintro ⟨i, s, hi, h1, h4, h5, h6, hm, h8, h7⟩
    unfold mch at hm
    simp only [Bool.and_eq_true, decide_eq_true_eq, Bool.not_eq_true', Bool.and_eq_false_iff, decide_eq_false_iff_not] at hm
    obtain ⟨⟨⟨m1, m2⟩, m3⟩, m4⟩ := hm
    obtain ⟨g, hg, gA, gz⟩ := (h (levels s.f) y z).2 ((hold_iff l _ y z).2 ⟨i, s, h1, m1, rfl, h4, h5, h6, h7.symm, h8⟩)
    refine ⟨m2, g, hg, ?_, ?_, gz⟩
    · rw [gA, levels_split]
      rintro ⟨c1, c2⟩
      rcases m3 with c | c
      · exact c c1
      · rw [c2] at c; cases c
    · rw [gA, levels_split, levels_split]; exact m4
/-- The greatest, or -1. -/
def Mx (S : Int → Prop) (q : Int) : Prop := (q = -1 ∧ ∀ z, ¬ S z) ∨ (S q ∧ 0 ≤ q ∧ q ≤ 2 ∧ ∀ z, S z → z ≤ q)
theorem Mx.congr {S S' : Int → Prop} {q : Int} (h : Mx S q) (e : ∀ z, S' z ↔ S z) : Mx S' q := by
  rcases h with ⟨h1, h2⟩ | ⟨h1, h2, h3, h4⟩
  · exact .inl ⟨h1, fun z c => h2 z ((e z).1 c)⟩
  · exact .inr ⟨(e q).2 h1, h2, h3, fun z c => h4 z ((e z).1 c)⟩
theorem Mx.rng {S : Int → Prop} {q : Int} (h : Mx S q) : -1 ≤ q ∧ q ≤ 2 := by rcases h with ⟨h1, _⟩ | ⟨_, h2, h3, _⟩ <;> omega
theorem Mx.add {S S' : Int → Prop} {q a : Int} (h : Mx S q) (a0 : 0 ≤ a) (a2 : a ≤ 2) (e : ∀ z, S' z ↔ S z ∨ z = a) : Mx S' (max q a) := by
  rcases h with ⟨rfl, h2⟩ | ⟨h1, h2, h3, h4⟩
  · rw [show max (-1 : Int) a = a by omega]
    exact .inr ⟨(e a).2 (.inr rfl), a0, a2, fun z c => by rcases (e z).1 c with c | c; exact (h2 z c).elim; omega⟩
  · refine .inr ⟨(e _).2 ?_, by omega, by omega, fun z c => by rcases (e z).1 c with c | c; have := h4 z c; omega; omega⟩
    by_cases c : q ≤ a
    · exact .inr (by omega)
    · rw [show max q a = q by omega]; exact .inl h1
theorem mx_best {S S' : Int → Prop} {q : Int} {o : Option Int} (h : Mx S q) (b : Best S' o) (e : ∀ z, S' z ↔ S z) : (o = none ∧ q = -1) ∨ (o = some q ∧ 0 ≤ q) := by
  cases o with
  | none =>
    rcases h with ⟨rfl, h2⟩ | ⟨h1, _⟩
    · exact .inl ⟨rfl, rfl⟩
    · exact (b q ((e q).2 h1)).elim
  | some z =>
    obtain ⟨b1, b2⟩ := b
    rcases h with ⟨rfl, h2⟩ | ⟨h1, h2, h3, h4⟩
    · exact (h2 z ((e z).1 b1)).elim
    · have e1 := b2 q ((e q).2 h1)
      have e2 := h4 z ((e z).1 b1)
      obtain rfl : z = q := by omega
      exact .inr ⟨rfl, h2⟩
theorem lwk_skip {l : List Sb} {y t : ByteArray} {k : Nat} {s : Sb} (hs : l[k]? = some s) (hn : ¬ (s.x = y ∧ 0 ≤ s.q ∧ s.q ≤ 2 ∧ mch s.f t = true ∧ Last l k s)) (z : Int) : LwK l y t (k + 1) z ↔ LwK l y t k z := by
  constructor
  · rintro ⟨i, s', h0, h1, h2, h3, h4, h5, h6, h7⟩
    by_cases c : i = k
    · subst c
      rw [hs] at h1
      cases h1
      exact (hn ⟨h2, h3, h4, h5, h6⟩).elim
    · exact ⟨i, s', by omega, h1, h2, h3, h4, h5, h6, h7⟩
  · rintro ⟨i, s', h0, h1⟩
    exact ⟨i, s', by omega, h1⟩
theorem lwk_add {l : List Sb} {y t : ByteArray} {k : Nat} {s : Sb} (hs : l[k]? = some s) (hn : s.x = y ∧ 0 ≤ s.q ∧ s.q ≤ 2 ∧ mch s.f t = true ∧ Last l k s) (z : Int) : LwK l y t (k + 1) z ↔ LwK l y t k z ∨ z = s.q := by
  constructor
  · rintro ⟨i, s', h0, h1, h2, h3, h4, h5, h6, h7⟩
    by_cases c : i = k
    · subst c
      rw [hs] at h1
      cases h1
      exact .inr h7
    · exact .inl ⟨i, s', by omega, h1, h2, h3, h4, h5, h6, h7⟩
  · rintro (⟨i, s', h0, h1⟩ | rfl)
    · exact ⟨i, s', by omega, h1⟩
    · exact ⟨k, s, by omega, hs, hn.1, hn.2.1, hn.2.2.1, hn.2.2.2.1, hn.2.2.2.2, rfl⟩
/-- A '#' stands only last. -/
theorem any_hash : ∀ {L : List ByteArray}, lvAny L = false → ∀ i x, L[i]? = some x → unB x = [35] → i + 1 = L.length
  | [], _, i, x, h, _ => by simp at h
  | t :: r, h, i, x, hi, hx => by
    simp only [lvAny, Bool.or_eq_false_iff] at h
    cases i with
    | zero =>
      simp at hi
      subst hi
      have h1 := h.1
      unfold lvX at h1
      simp only [Bool.or_eq_false_iff, Bool.and_eq_false_iff] at h1
      have hh : isHash t = true := by
        unfold isHash
        rw [Lib.toList_data, hash_list]
        have : t.data.toList = [35] := hx
        rw [this]; decide
      rcases h1.2 with c | c
      · rw [hh] at c; cases c
      · cases r with
        | nil => rfl
        | cons => simp at c
    | succ i =>
      have := any_hash h.2 i x (by simpa using hi) hx
      simp [this]
theorem gc_of {w : World} {tb m r P : Nat} {nf : Int} {T : List Fn} (h : TS w tb m r P nf T) {l : List Sb} (hE : ∀ F y z, HasE T F y z ↔ hold l F y z) (hl : l.length ≤ 1000) (hx : ∀ s ∈ l, s.x.size ≤ 1000000) : GC T (l.map (·.x)) := by
  have H : ∀ f ∈ T, ∀ y z, f.en y = some z → ∃ s ∈ l, rfc s.f = 0 ∧ levels s.f = f.s.A ∧ s.x = y ∧ 0 ≤ z := fun f hf y z e => by
    obtain ⟨i, s, h1, h2, h3, h4, h5, h6, h7, h8⟩ := (hold_iff l f.s.A y z).1 ((hE _ _ _).1 ⟨f, hf, rfl, e⟩)
    exact ⟨s, List.mem_of_getElem? h1, h2, h3, h4, by omega⟩
  refine ⟨fun f hf i x hi hx => ?_, fun f hf y z e => ?_, by rw [List.length_map]; omega⟩
  · have hne : f.s.A ≠ [] := fun e => by rw [e] at hi; simp at hi
    obtain ⟨g, hg, p, y, z, oy, e⟩ := h.leads hf hne
    obtain ⟨s, hs, r0, lv, _⟩ := H g hg y z e
    have la : lvAny g.s.A = false := by
      rw [← lv]
      unfold rfc at r0
      split at r0
      · split at r0
        · cases r0
        · rename_i c; simpa using c
      · rename_i c; exact (c r0).elim
    have hi' : g.s.A[i]? = some x := by
      obtain ⟨q, hq⟩ := p
      rw [← hq, List.getElem?_append_left (List.getElem?_eq_some_iff.1 hi).1]
      exact hi
    have h1 := any_hash la i x hi' hx
    have h2 := p.length_le
    have h3 := (List.getElem?_eq_some_iff.1 hi).1
    omega
  · obtain ⟨s, hs, _, _, rfl, z0⟩ := H f hf y z e
    exact ⟨List.mem_map_of_mem hs, by unfold okT maxLen; have := hx s hs; omega, z0⟩
end Go.Proofs.YtepjcfhbbcaldaaGreat.Li
