import Derived.Test.YtcoccggimbficaaDoorLg
import Derived.Deep.RegionLaw
import Derived.Deep.RegionWith
import Derived.BigRegion
namespace Go.Proofs.YtcoccggimbficaaDoor
open Go Go.RowKit Go.Sort
set_option linter.unusedSimpArgs false
set_option linter.unusedVariables false
set_option maxRecDepth 100000

/-- A place out of any number. -/
def plc (k : Int) (n : Nat) : Nat := (if k.tmod n < 0 then k.tmod n + n else k.tmod n).toNat
theorem plc_lt (k : Int) (n : Nat) (h : 0 < n) : plc k n < n := by
  have hr := tmod_range k n h
  unfold plc
  split <;> omega
set_option maxHeartbeats 1000000 in
theorem place_val (k : Int) (n : Nat) (w : World) (h : 0 < n) (hn : n ≤ 1000000) : Calls Tryd.prog 16 #[.int .i64 k, .int .i64 n] w fun e w' => e = .returned (.int .i64 (plc k n)) ∧ w' = w := by
  have hr := tmod_range k n h
  have nz : ¬ ((n : Int) = 0) := by omega
  by_cases hneg : k.tmod n < 0
  · have e : ((plc k n : Nat) : Int) = k.tmod n + n := by unfold plc; rw [if_pos hneg]; omega
    rw [e]
    go_enter Tryd.func16, Tryd.ntmps16
    go_wp2
    go_ret
    exact ⟨rfl, rfl⟩
  · have e : ((plc k n : Nat) : Int) = k.tmod n := by unfold plc; rw [if_neg hneg]; omega
    rw [e]
    go_enter Tryd.func16, Tryd.ntmps16
    go_wp2
    go_ret
    exact ⟨rfl, rfl⟩

theorem still_eq (A B n m : Nat) (h1 : A ≤ 268435455) (h2 : n ≤ 1000000) (h3 : m < n) (hz : (B : Int) = A - n + m) : ((B : Int) != IntKind.i64.wrap (IntKind.i64.wrap ((A : Int) - n) + m)) = false := by
  have e1 : IntKind.i64.wrap ((A : Int) - n) = A - n := by rw [IntKind.wrap_i64]; omega
  have e2 : IntKind.i64.wrap ((A : Int) - n + m) = A - n + m := by rw [IntKind.wrap_i64]; omega
  rw [e1, e2, ← hz]
  simp

/-- A packet in a block of its own, its lists behind all that was there. -/
structure Iv (w : World) (G B : Nat) (wx : World) (q : Pk) (c : Cn) : Prop where
  bel : Below w.heap.size w wx
  row : wx.heap[G]? = some (.cells (pkCells q) 31)
  inn : In wx q c
  nx : Nx B q.wP ∧ Nx B q.pass ∧ Nx B q.mP ∧ Nx B q.asks ∧ Nx B q.codes ∧ Nx B q.filters
  size : B ≤ wx.heap.size
theorem Iv.cell {w : World} {G B : Nat} {wx : World} {q : Pk} {c : Cn} (h : Iv w G B wx q c) (k : Nat) (v : Value) (hk : (pkCells q)[k]? = some v) : wx.cell? ⟨G, k, none⟩ = some v := by
  unfold World.cell?
  simp [h.row, hk]
theorem Iv.frozen {w : World} {G B : Nat} {wx : World} {q : Pk} {c : Cn} (h : Iv w G B wx q c) (k : Nat) : wx.frozen? ⟨G, k, none⟩ = false := by
  simp [World.frozen?, h.row]

theorem Iv.asks {w : World} {G B : Nat} {W v : World} {q : Pk} {c : Cn} (h : Iv w G B W q c) (h1 : w.heap.size ≤ G) (h2 : G < B) (bb : Below W.heap.size W v) {a : Sl} {f : Nat → ByteArray} {g : Nat → Int} (ha : As v a f g) (hx : Nx B a) :
    Iv w G B (v.setCell ⟨G, 22, none⟩ (.slice a.a a.n a.c)) { q with asks := a } { c with af := f, aq := g } := by
  have kp : Kp B v (v.setCell ⟨G, 22, none⟩ (.slice a.a a.n a.c)) := kp_set h2
  have i := h.inn.below bb
  have x := h.nx
  refine ⟨set_below (h.bel.trans (bb.mono h.bel.size)) _ _ _ h1, ?_, ⟨i.wP.kp x.1 kp, i.pass.kp x.2.1 kp, i.mP.kp x.2.2.1 kp, ha.kp hx kp, i.codes.kp x.2.2.2.2.1 kp, i.filters.kp x.2.2.2.2.2 kp⟩, ⟨x.1, x.2.1, x.2.2.1, hx, x.2.2.2.2.1, x.2.2.2.2.2⟩, ?_⟩
  · rw [heap_setCell_same v G 22 (pkCells q) 31 _ ((bb.block _ (block_lt h.row)).trans h.row)]
    rfl
  · show B ≤ (v.heap.modify _ _).size
    have := h.size
    have := bb.size
    simp
    omega
theorem Iv.filters {w : World} {G B : Nat} {W v : World} {q : Pk} {c : Cn} (h : Iv w G B W q c) (h1 : w.heap.size ≤ G) (h2 : G < B) (bb : Below W.heap.size W v) {a : Sl} {f : Nat → ByteArray} (ha : Ss v a f) (hx : Nx B a) :
    Iv w G B (v.setCell ⟨G, 24, none⟩ (.slice a.a a.n a.c)) { q with filters := a } { c with fs := f } := by
  have kp : Kp B v (v.setCell ⟨G, 24, none⟩ (.slice a.a a.n a.c)) := kp_set h2
  have i := h.inn.below bb
  have x := h.nx
  refine ⟨set_below (h.bel.trans (bb.mono h.bel.size)) _ _ _ h1, ?_, ⟨i.wP.kp x.1 kp, i.pass.kp x.2.1 kp, i.mP.kp x.2.2.1 kp, i.asks.kp x.2.2.2.1 kp, i.codes.kp x.2.2.2.2.1 kp, ha.kp hx kp⟩, ⟨x.1, x.2.1, x.2.2.1, x.2.2.2.1, x.2.2.2.2.1, hx⟩, ?_⟩
  · rw [heap_setCell_same v G 24 (pkCells q) 31 _ ((bb.block _ (block_lt h.row)).trans h.row)]
    rfl
  · show B ≤ (v.heap.modify _ _).size
    have := h.size
    have := bb.size
    simp
    omega
theorem Iv.quality {w : World} {G B : Nat} {W : World} {q : Pk} {c : Cn} (h : Iv w G B W q c) (h1 : w.heap.size ≤ G) (h2 : G < B) (z : Int) : Iv w G B (W.setCell ⟨G, 19, none⟩ (.int .i64 z)) { q with mQ := z } c := by
  have kp : Kp B W (W.setCell ⟨G, 19, none⟩ (.int .i64 z)) := kp_set h2
  have i := h.inn
  have x := h.nx
  refine ⟨set_below h.bel _ _ _ h1, ?_, ⟨i.wP.kp x.1 kp, i.pass.kp x.2.1 kp, i.mP.kp x.2.2.1 kp, i.asks.kp x.2.2.2.1 kp, i.codes.kp x.2.2.2.2.1 kp, i.filters.kp x.2.2.2.2.2 kp⟩, x, ?_⟩
  · rw [heap_setCell_same W G 19 (pkCells q) 31 _ h.row]
    rfl
  · show B ≤ (W.heap.modify _ _).size
    have := h.size
    simp
    omega
theorem sum_out (d : Nat) (f : Nat → ByteArray) (k n m : Nat) (h : m + 1 = n) (hk : k < n) : sumN (fun i => d + (outN k f i).size) m ≤ sumN (fun i => d + (f i).size) n := by
  subst h
  have := sumN_out (fun i => d + (f i).size) k m (by omega)
  have e : sumN (fun i => d + (outN k f i).size) m = sumN (outN k fun i => d + (f i).size) m := sumN_congr _ _ m (fun i _ => by unfold outN; split <;> rfl)
  omega
theorem outN_from {α : Type} (k n m : Nat) (f : Nat → α) (h : m + 1 = n) (i : Nat) (hi : i < m) : ∃ j, j < n ∧ outN k f i = f j ∧ ∀ {β : Type} (g : Nat → β), outN k g i = g j := by
  by_cases hk : i < k
  · exact ⟨i, by omega, by simp [outN, hk], fun g => by simp [outN, hk]⟩
  · exact ⟨i + 1, by omega, by simp [outN, hk], fun g => by simp [outN, hk]⟩

theorem step_append_run {P : Program} {ops : Array Oper} {o : Oper} {a : Act} {w : World} {K : Act → World → Prop} {Q : Exit → Act → World → Prop} {E : Prop} (hg : o.guard = none) (s x : Operand) (t tx : TypeId)
    (hop : o.op = Op.call { callee := Callee.builtin Builtin.append, args := #[s, x], argTypes := #[t, tx] }) (vs vx : Value) (hs : a.eval s = vs) (hx : a.eval x = vx) (v : Value) (w' : World)
    (hrun : (Builtin.append_ #[t, tx] o.type #[vs, vx]).run P w = .ok v w') (hK : K (a.put o.dst v) w') : if Region.wanted o (yielded ops a.tmps) = true then Oper.wp P o a w K Q else E := by
  have hw : Region.wanted o (yielded ops a.tmps) = true := by simp [Region.wanted, hg]
  rw [if_pos hw]
  unfold Oper.wp
  simp [execOp, hop, resolve, invoke, builtin, hs, hx, hrun, Result.andThen]
  exact hK

set_option maxHeartbeats 20000000 in
theorem stays_walk (p : Pk) (c : Cn) (k : Int) (w : World) (hg : Gd w) (hin : In w p c) (hf : Fit p c) : Calls Tryd.prog 5 #[p.v, .int .i64 k] w fun e w' => e = .returned (.bool true) ∧ Below w.heap.size w w' := by
  have HG : Hid (Gd w) := hg
  have HI : Hid (In w p c) := hin
  have HF : Hid (Fit p c) := hf
  clear hg hin hf
  obtain ⟨P, hP⟩ : ∃ P, P = pkCells p := ⟨_, rfl⟩
  rw [show p.v = .agg P by rw [hP]; rfl]
  have HP : Hid (P = pkCells p) := hP
  have SP : Hid (P.size = 25) := by show _ = _; rw [hP]; rfl
  clear hP
  obtain ⟨W, hW⟩ : ∃ W, W = w.alloc (.cells P 31) := ⟨_, rfl⟩
  have b0 : Hid (Below w.heap.size w W) := box_below hW
  have g0 : Hid (W.heap[w.heap.size]? = some (.cells P 31)) := by show _ = _; rw [hW]; exact heap_alloc_new w _
  go_enter Tryd.func5, Tryd.ntmps5
  go_upto_region 1 with fail
  rw [← hW]
  clear hW
  go_wp2_with fail
  go_must (go_at_call 10)
  refine (known_any W (HG.out.below b0.out)).mono ?_
  rintro e w1 ⟨rfl, hb⟩
  have b1 : Hid (Below w.heap.size w w1) := b0.out.trans (hb.mono b0.out.size)
  have g1 : Hid (w1.heap[w.heap.size]? = some (.cells P 31)) := (hb.block _ (block_lt g0.out)).trans g0.out
  clear hb
  go_wp2_with (first | (refine wpList_load_wanted rfl _ rfl w.heap.size rfl P (0, 0) g1.out SP.out ?_) | fail)
  go_must (go_at_call 11)
  refine (show Calls Tryd.prog 11 #[.agg P] w1 _ from by rw [HP.out]; exact right_any p c w1 (HG.out.below b1.out) (HI.out.below b1.out) HF.out).mono ?_
  rintro e w2 ⟨b, rfl, hb, hr⟩
  have b2 : Hid (Below w.heap.size w w2) := b1.out.trans (hb.mono b1.out.size)
  have g2 : Hid (w2.heap[w.heap.size]? = some (.cells P 31)) := (hb.block _ (block_lt g1.out)).trans g1.out
  clear hb
  cases b
  · clear hr
    go_wp2
    go_ret
    exact ⟨rfl, b2.out⟩
  have HS : Hid (Small p c) := (hr rfl).1
  have HR : Hid (Right TT p c) := (hr rfl).2
  clear hr
  go_wp2_with (first | (refine wpList_load_wanted rfl _ rfl w.heap.size rfl P (0, 0) g2.out SP.out ?_) | fail)
  go_must (go_at_call 15)
  refine (show Calls Tryd.prog 15 #[.agg P] w2 _ from by rw [HP.out]; exact copy_any p c w2 (HI.out.below b2.out) HS.out).mono ?_
  rintro e w3 ⟨s1, s2, s3, s4, s5, s6, rfl, hb, hi, n1, n2, n3, n4, n5, n6⟩
  have b3 : Hid (Below w.heap.size w w3) := b2.out.trans (hb.mono b2.out.size)
  have g3 : Hid (w3.heap[w.heap.size]? = some (.cells P 31)) := (hb.block _ (block_lt g2.out)).trans g2.out
  clear hb
  have I3 : Hid (In w3 { p with wP := s1, pass := s2, mP := s3, asks := s4, codes := s5, filters := s6 } c) := hi
  have NN : Hid (s1.n = p.wP.n ∧ s2.n = p.pass.n ∧ s3.n = p.mP.n ∧ s4.n = p.asks.n ∧ s5.n = p.codes.n ∧ s6.n = p.filters.n) := ⟨n1, n2, n3, n4, n5, n6⟩
  clear hi n1 n2 n3 n4 n5 n6
  obtain ⟨q, hq⟩ : ∃ q : Pk, q = { p with wP := s1, pass := s2, mP := s3, asks := s4, codes := s5, filters := s6 } := ⟨_, rfl⟩
  rw [← hq] at I3 ⊢
  obtain ⟨Q, hQ⟩ : ∃ Q, Q = pkCells q := ⟨_, rfl⟩
  rw [show q.v = .agg Q by rw [hQ]; rfl]
  have SQ : Hid (Q.size = 25) := by show _ = _; rw [hQ]; rfl
  have OQ : Hid (Q.all (·.oneCell') = true) := by show _ = _; rw [hQ]; simp [pkCells, Value.oneCell']
  have HQ : Hid (Q = pkCells q) := hQ
  have Hq : Hid (q = { p with wP := s1, pass := s2, mP := s3, asks := s4, codes := s5, filters := s6 }) := hq
  clear hq hQ
  go_upto_region 6 with (first | (refine wpList_store_row rfl 31 _ _ rfl w3.heap.size Q rfl rfl 31 _ (heap_alloc_new w3 _) (by rw [SQ.out]; kernel_rfl) (by rw [SQ.out]; kernel_rfl) OQ.out ?_))
  obtain ⟨W4, hW4⟩ : ∃ W4, W4 = (w3.alloc (.cells #[.int .i64 0, .int .i64 0, .bool false, .int .i64 0, .string ⟨#[]⟩, .bool false, .string ⟨#[]⟩, .slice none 0 0, .int .i64 0, .bool false, .bool false, .string ⟨#[]⟩, .bool false, .slice none 0 0, .bool false, .int .i64 0, .bool false, .string ⟨#[]⟩, .slice none 0 0, .int .i64 0, .bool false, .int .i64 0, .slice none 0 0, .slice none 0 0, .slice none 0 0] 31)).setRow w3.heap.size Q := ⟨_, rfl⟩
  rw [← hW4]
  have b4 : Hid (Below w3.heap.size w3 W4) := by rw [hW4]; exact row_below ((Below.refl _ _).alloc (Nat.le_refl _) _) _ _ (Nat.le_refl _)
  have r4 : Hid (W4.heap[w3.heap.size]? = some (.cells Q 31)) := by show _ = _; rw [hW4]; exact setRow_heap _ _ _ Q 31 (0, 0) (heap_alloc_new w3 _)
  have f18 : W4.cell? ⟨w3.heap.size, 18, none⟩ = some (.slice s3.a s3.n s3.c) := by
    unfold World.cell?
    simp only [r4.out]
    rw [HQ.out, Hq.out]
    rfl
  clear hW4
  have k4 : Hid (W4.heap[w.heap.size]? = some (.cells P 31)) := (b4.out.block _ (block_lt g3.out)).trans g3.out
  have n3 : Hid (s3.n ≤ 1000000) := by show _ ≤ _; rw [NN.out.2.2.1]; exact HS.out.mp
  have m3 : Hid (s3.n ≤ s3.c) := by have := I3.out.mP; rw [Hq.out] at this; exact this.1
  have e18 : Hid (W4.cell? ⟨w3.heap.size, 18, none⟩ = some (.slice s3.a s3.n s3.c)) := f18
  have z18 : Hid (W4.frozen? ⟨w3.heap.size, 18, none⟩ = false) := by show _ = _; simp [World.frozen?, r4.out]
  go_upto_if 21 with fail
  clear f18
  go_cut [6] from 7 (fun s6 wx => Hid (Below w.heap.size w wx ∧ wx.heap[w.heap.size]? = some (.cells P 31) ∧ ∃ cs, cs.size = 25 ∧ wx.heap[w3.heap.size]? = some (.cells cs 31)))
  case first =>
    by_cases h0 : s3.n = 0
    · have hn0 : ¬ (0 : Int) < s3.n := by omega
      go_wp2_with fail
      go_meet
      case rel => exact ⟨b3.out.trans (b4.out.mono b3.out.size), k4.out, Q, SQ.out, r4.out⟩
    have hp : (0 : Int) < s3.n := by omega
    have hp2 : 0 < s3.n := by omega
    have hpl := plc_lt k s3.n hp2
    go_upto_region 8 with fail
    have f18 := e18.out
    have z18' := z18.out
    have hc1 := m3.out
    have hn1 := n3.out
    go_cut [6] from 7 (fun s6 wx => s6 = .int .i64 s3.n ∧ Hid (wx = W4.drew.setCell ⟨w3.heap.size, 18, none⟩ (.slice s3.a (plc k s3.n) s3.c)))
    case first =>
      go_region_with (go_at_call 16; refine (place_val k s3.n _ hp2 n3.out).mono ?_; rintro e w' ⟨rfl, he⟩; obtain rfl := he.symm; clear he)
      all_goals
        go_wp2_with fail
        go_meet
        case rel => exact ⟨rfl, rfl⟩
    case rest =>
    obtain ⟨rfl, hw5⟩ := hcut
    clear f18 z18' hc1 hn1 e18 z18
    have HPL : Hid (plc k s3.n < s3.n) := hpl
    clear hpl
    obtain ⟨q2, hq2⟩ : ∃ q2 : Pk, q2 = { q with mP := ⟨s3.a, plc k s3.n, s3.c⟩ } := ⟨_, rfl⟩
    obtain ⟨Q2, hQ2⟩ : ∃ Q2, Q2 = pkCells q2 := ⟨_, rfl⟩
    have B5 : Hid (Below w3.heap.size w3 wc) := by rw [hw5.out]; exact set_below (⟨b4.out.os, b4.out.tape, b4.out.output, b4.out.size, b4.out.block⟩ : Below w3.heap.size w3 W4.drew) _ _ _ (Nat.le_refl _)
    have r5 : Hid (wc.heap[w3.heap.size]? = some (.cells Q2 31)) := by
      show _ = _
      rw [hw5.out, heap_setCell_same W4.drew w3.heap.size 18 Q 31 _ r4.out, HQ.out, hQ2, hq2, Hq.out]
      rfl
    have S2 : Hid (Q2.size = 25) := by show _ = _; rw [hQ2]; rfl
    have k5 : Hid (wc.heap[w.heap.size]? = some (.cells P 31)) := (B5.out.block _ (block_lt g3.out)).trans g3.out
    have I5 : Hid (In wc q2 c) := by
      have h1 := I3.out.below B5.out
      rw [hq2]
      refine ⟨h1.wP, h1.pass, ?_, h1.asks, h1.codes, h1.filters⟩
      have h2 := h1.mP
      rw [Hq.out] at h2
      obtain ⟨c1, c2, c3⟩ := h2
      refine ⟨by have := HPL.out; have := m3.out; show plc k s3.n ≤ s3.c; omega, c2, ?_⟩
      rcases c3 with c3 | ⟨b, off, e, hc⟩
      · exact .inl (by have := HPL.out; show plc k s3.n = 0; have c3 : s3.n = 0 := c3; omega)
      · exact .inr ⟨b, off, e, fun i hi => hc i (by have := HPL.out; have hi : i < plc k s3.n := hi; show i < s3.n; omega)⟩
    have S5 : Hid (Small q2 c) := by
      have h := HS.out
      have nn := NN.out
      rw [hq2, Hq.out]
      exact ⟨h.cl, h.us, h.wt, h.mt, by show s1.n ≤ _; rw [nn.1]; exact h.wp, by show s2.n ≤ _; rw [nn.2.1]; exact h.ps, by show plc k s3.n ≤ _; have := HPL.out; have := n3.out; omega, by show s4.n ≤ _; rw [nn.2.2.2.1]; exact h.an, by show s5.n ≤ _; rw [nn.2.2.2.2.1]; exact h.cn, by show s6.n ≤ _; rw [nn.2.2.2.2.2]; exact h.fn, by show sumN _ s4.n ≤ _; rw [nn.2.2.2.1]; exact h.sa, by show sumN _ s6.n ≤ _; rw [nn.2.2.2.2.2]; exact h.sf⟩
    have R5 : Hid (Right TT q2 c) := by
      have nn := NN.out
      rw [hq2, Hq.out]
      exact right_mono HR.out s1 s2 ⟨s3.a, plc k s3.n, s3.c⟩ s4 s5 s6 p.mQ nn.1 nn.2.1 (by show plc k s3.n ≤ p.mP.n; rw [← nn.2.2.1]; exact Nat.le_of_lt HPL.out) (.inl rfl) (by rw [nn.2.2.2.1]; exact Nat.le_refl _) (by rw [nn.2.2.2.1]; exact id) nn.2.2.2.2.1 (by rw [nn.2.2.2.2.2]; exact Nat.le_refl _) (by rw [nn.2.2.2.2.2]; exact id)
        (fun i hi => ⟨i, by rw [← nn.2.2.2.1]; exact hi, rfl, rfl⟩) (fun i _ => rfl) (fun i hi => ⟨i, by rw [← nn.2.2.2.2.2]; exact hi, rfl⟩) (by rw [nn.2.2.2.1]; exact Nat.le_refl _) (by rw [nn.2.2.2.2.2]; exact Nat.le_refl _)
    have HZ : Hid (((sz q2 c : Nat) : Int) = (sz p c : Nat) - s3.n + plc k s3.n) := by
      show _ = _
      have nn := NN.out.2.2.1
      have h3 : p.kind = 3 := Decidable.byContradiction fun h => by have := (HR.out.own.msg h).2.2.2; omega
      rw [hq2, Hq.out]
      have e1 : sz { p with wP := s1, pass := s2, mP := ⟨s3.a, plc k s3.n, s3.c⟩, asks := s4, codes := s5, filters := s6 } c = nid p + 2 + p.mT.size + plc k s3.n := by simp [sz, h3, nid, hasID]
      have e2 : sz p c = nid p + 2 + p.mT.size + p.mP.n := by simp [sz, h3]
      show ((sz { p with wP := s1, pass := s2, mP := ⟨s3.a, plc k s3.n, s3.c⟩, asks := s4, codes := s5, filters := s6 } c : Nat) : Int) = _
      rw [e1, e2]
      omega
    have HV : Hid (q2.v = .agg Q2) := by show _ = _; rw [hQ2]; rfl
    have HVp : Hid (p.v = .agg P) := by show _ = _; rw [HP.out]; rfl
    have B6 : Hid (Below w.heap.size w wc) := b3.out.trans (B5.out.mono b3.out.size)
    have f18 : Hid (wc.cell? ⟨w3.heap.size, 18, none⟩ = some (.slice s3.a (plc k s3.n) s3.c)) := by
      show _ = _
      unfold World.cell?
      simp only [r5.out]
      rw [hQ2, hq2]
      rfl
    clear hq2 hQ2 hw5
    have SZ1 : Hid (sz p c ≤ 268435455) := HR.out.s3
    have SZ2 : Hid (sz q2 c ≤ 268435455) := R5.out.s3
    have C17 : Hid (∀ d os, Calls Tryd.prog 17 #[.agg Q2] (grow (redrawn wc d) os) fun e w'' => e = .returned (.int .i64 0) ∧ Below (grow (redrawn wc d) os).heap.size (grow (redrawn wc d) os) w'') := fun d os => by
      have hb := below_regrown wc d os
      have := check_any q2 c (grow (redrawn wc d) os) ((HG.out.below B6.out).below hb) (I5.out.below hb) S5.out
      rw [(ck_right TT q2 c).2 R5.out, HV.out] at this
      exact this
    have C12 : Hid (∀ d os, Calls Tryd.prog 12 #[.agg Q2] (grow (redrawn wc d) os) fun e w'' => e = .returned (.int .i64 (sz q2 c)) ∧ Below (grow (redrawn wc d) os).heap.size (grow (redrawn wc d) os) w'') := fun d os => by
      have hb := below_regrown wc d os
      have := length_any q2 c (grow (redrawn wc d) os) ((HG.out.below B6.out).below hb) (I5.out.below hb) S5.out
      rw [if_pos ((ck_right TT q2 c).2 R5.out), HV.out] at this
      exact this
    have D12 : Hid (∀ d os, Calls Tryd.prog 12 #[.agg P] (grow (redrawn wc d) os) fun e w'' => e = .returned (.int .i64 (sz p c)) ∧ Below (grow (redrawn wc d) os).heap.size (grow (redrawn wc d) os) w'') := fun d os => by
      have hb := below_regrown wc d os
      have := length_any p c (grow (redrawn wc d) os) ((HG.out.below B6.out).below hb) ((HI.out.below B6.out).below hb) HS.out
      rw [if_pos ((ck_right TT p c).2 HR.out), HVp.out] at this
      exact this
    have L1 : Hid (∀ w', (∃ p : Regrown, w' = grow (redrawn wc p.d) p.os) → (loadVar 31 ⟨w3.heap.size, 0, none⟩).run Tryd.prog w' = .ok (.agg Q2) w') := by
      rintro _ ⟨pp, rfl⟩
      exact load_row (((below_regrown wc pp.d pp.os).block _ (block_lt r5.out)).trans r5.out) S2.out
    have L2 : Hid (∀ w', (∃ p : Regrown, w' = grow (redrawn wc p.d) p.os) → (loadVar 31 ⟨w.heap.size, 0, none⟩).run Tryd.prog w' = .ok (.agg P) w') := by
      rintro _ ⟨pp, rfl⟩
      exact load_row (((below_regrown wc pp.d pp.os).block _ (block_lt k5.out)).trans k5.out) SP.out
    have k18 : ∀ d os, (grow (redrawn wc d) os).cell? ⟨w3.heap.size, 18, none⟩ = some (.slice s3.a (plc k s3.n) s3.c) := fun d os => cell_later (below_regrown wc d os) f18.out
    obtain ⟨A, hA⟩ : ∃ A, A = sz p c := ⟨_, rfl⟩
    obtain ⟨B, hB⟩ : ∃ B, B = sz q2 c := ⟨_, rfl⟩
    obtain ⟨m, hm⟩ : ∃ m, m = plc k s3.n := ⟨_, rfl⟩
    rw [← hA] at D12 SZ1 HZ
    rw [← hB] at C12 SZ2 HZ
    rw [← hm] at k18 HZ HPL
    clear hA hB hm
    have hl1 := SZ1.out
    have hl2 := HPL.out
    have hl3 := n3.out
    have hl4 : ((B : Int) != (A : Int) - s3.n + m) = false := by rw [HZ.out]; simp
    go_upto_region 9 with fail
    go_cut [47] from 7 (fun s47 wx => s47 = .bool false ∧ Hid (Below wc.heap.size wc wx))
    case first =>
      refine wp_region_quiet_below (by kernel_rfl) (by kernel_rfl) ?_
      repeat (first | (refine quiet_load rfl rfl w3.heap.size rfl (.agg Q2) L1.out ?_) | (refine quiet_load rfl rfl w.heap.size rfl (.agg P) L2.out ?_) | quiet_step (first | (go_at_call 17; exact Calls.regrown_of (C17.out _ _)) | (go_at_call 12; first | exact Calls.regrown_of (C12.out _ _) | exact Calls.regrown_of (D12.out _ _))))
      refine wpQuiet_nil ?_
      rintro _ ⟨⟨d, os⟩, rfl⟩
      go_wp2_with fail
      go_meet
      case rel => exact ⟨by rw [still_eq A B s3.n m SZ1.out n3.out HPL.out HZ.out], below_regrown wc d os⟩
    case rest =>
    obtain ⟨rfl, hw6⟩ := hcut
    go_wp2_with fail
    go_meet
    case rel => exact ⟨B6.out.trans (hw6.out.mono B6.out.size), (hw6.out.block _ (block_lt k5.out)).trans k5.out, Q2, S2.out, (hw6.out.block _ (block_lt r5.out)).trans r5.out⟩
  case rest =>
  clear b4 r4 k4 e18 z18 n3 m3 SQ OQ HQ I3
  obtain ⟨wd, hwd⟩ : ∃ wd, wd = wc := ⟨_, rfl⟩
  subst hwd
  obtain ⟨cs0, hs0, hg0⟩ := hcut.out.2.2
  have bC : Hid (Below w.heap.size w wd) := hcut.out.1
  have gC : Hid (wd.heap[w.heap.size]? = some (.cells P 31)) := hcut.out.2.1
  have rC : Hid (wd.heap[w3.heap.size]? = some (.cells cs0 31)) := hg0
  have sC : Hid (cs0.size = 25) := hs0
  have GG : Hid (w.heap.size < w3.heap.size ∧ w3.heap.size < wd.heap.size) := ⟨block_lt g3.out, block_lt hg0⟩
  clear hcut hs0 hg0 Hq NN
  clear s1 s2 s3 s4 s5 s6 q Q
  go_upto_region 11 with fail
  go_wp2_with (first | (refine wpList_load_wanted rfl _ rfl w.heap.size rfl P (0, 0) gC.out SP.out ?_) | fail)
  go_must (go_at_call 15)
  refine (show Calls Tryd.prog 15 #[.agg P] wd _ from by rw [HP.out]; exact copy_new p c wd (HI.out.below bC.out) HS.out).mono ?_
  rintro e w5 ⟨s1, s2, s3, s4, s5, s6, rfl, hb, hi, hn, hx⟩
  have b5 : Hid (Below w.heap.size w w5) := bC.out.trans (hb.mono bC.out.size)
  have r5 : Hid (w5.heap[w3.heap.size]? = some (.cells cs0 31)) := (hb.block _ (block_lt rC.out)).trans rC.out
  have I5 : Hid (In w5 { p with wP := s1, pass := s2, mP := s3, asks := s4, codes := s5, filters := s6 } c) := hi
  have NN : Hid (s1.n = p.wP.n ∧ s2.n = p.pass.n ∧ s3.n = p.mP.n ∧ s4.n = p.asks.n ∧ s5.n = p.codes.n ∧ s6.n = p.filters.n) := hn
  have XX : Hid (Nx wd.heap.size s1 ∧ Nx wd.heap.size s2 ∧ Nx wd.heap.size s3 ∧ Nx wd.heap.size s4 ∧ Nx wd.heap.size s5 ∧ Nx wd.heap.size s6) := hx
  have ZZ : Hid (wd.heap.size ≤ w5.heap.size) := hb.size
  clear hb hi hn hx
  obtain ⟨q, hq⟩ : ∃ q : Pk, q = { p with wP := s1, pass := s2, mP := s3, asks := s4, codes := s5, filters := s6 } := ⟨_, rfl⟩
  rw [← hq] at I5 ⊢
  obtain ⟨Q, hQ⟩ : ∃ Q, Q = pkCells q := ⟨_, rfl⟩
  rw [show q.v = .agg Q by rw [hQ]; rfl]
  have SQ : Hid (Q.size = 25) := by show _ = _; rw [hQ]; rfl
  have OQ : Hid (Q.all (·.oneCell') = true) := by show _ = _; rw [hQ]; simp [pkCells, Value.oneCell']
  have HQ : Hid (Q = pkCells q) := hQ
  have Hq : Hid (q = { p with wP := s1, pass := s2, mP := s3, asks := s4, codes := s5, filters := s6 }) := hq
  clear hQ hq
  have hie : Hid ((Tryd.prog.info? 31).map (·.size) = some Q.size) := by show _ = _; rw [SQ.out]; kernel_rfl
  have hol : Hid (cs0.size = Q.size) := by show _ = _; rw [SQ.out, sC.out]
  go_upto_region 12 with (first | (refine wpList_store_row rfl 31 (.tmp 5) (.tmp 49) rfl w3.heap.size Q rfl rfl 31 cs0 r5.out hie.out hol.out OQ.out ?_))
  obtain ⟨W6, hW6⟩ : ∃ W6, W6 = w5.setRow w3.heap.size Q := ⟨_, rfl⟩
  rw [← hW6]
  have i6 : Hid (Iv w w3.heap.size wd.heap.size W6 q c) := by
    have kp : Kp wd.heap.size w5 W6 := fun k hk _ => by rw [hW6]; exact setRow_other w5 _ k Q (by have := GG.out; omega)
    have x := XX.out
    refine ⟨?_, ?_, ?_, ?_, ?_⟩
    · rw [hW6]; exact row_below b5.out _ _ (by have := GG.out; omega)
    · rw [hW6, ← HQ.out]; exact setRow_heap w5 _ cs0 Q 31 (0, 0) r5.out
    · have h := I5.out
      rw [Hq.out] at h ⊢
      exact ⟨h.wP.kp x.1 kp, h.pass.kp x.2.1 kp, h.mP.kp x.2.2.1 kp, h.asks.kp x.2.2.2.1 kp, h.codes.kp x.2.2.2.2.1 kp, h.filters.kp x.2.2.2.2.2 kp⟩
    · rw [Hq.out]; exact x
    · rw [hW6]; show _ ≤ (w5.heap.modify _ _).size; have := ZZ.out; simpa using this
  clear hW6 r5 I5 XX ZZ b5 SQ OQ hie hol HQ
  have f22 := i6.out.cell 22 (.slice s4.a s4.n s4.c) (by rw [Hq.out]; rfl)
  have z22 := i6.out.frozen 22
  have l4 : Hid (s4.n ≤ 1000000) := by show _ ≤ _; rw [NN.out.2.2.2.1]; exact HS.out.an
  go_upto_if 53 with fail
  have hz4 : Hid (W6.frozen? ⟨w3.heap.size, 22, none⟩ = false) := z22
  have hf4 : Hid (W6.cell? ⟨w3.heap.size, 22, none⟩ = some (.slice s4.a s4.n s4.c)) := f22
  clear f22 z22
  go_cut [7] from 8 (fun s7 wx => Hid (∃ (a : Sl) (f : Nat → ByteArray) (g : Nat → Int), Iv w w3.heap.size wd.heap.size wx { q with asks := a } { c with af := f, aq := g } ∧ a.n ≤ s4.n ∧ (a.n = 0 → s4.n = 0) ∧ (∀ i, i < a.n → ∃ j, j < s4.n ∧ f i = c.af j ∧ g i = c.aq j) ∧ sumN (fun i => 3 + (f i).size) a.n ≤ sumN (fun i => 3 + (c.af i).size) s4.n))
  case first =>
    by_cases h1 : s4.n ≤ 1
    · have hd : decide ((1 : Int) < s4.n) = false := by simp; omega
      have hd2 : ¬ (1 : Int) < s4.n := by omega
      go_wp2_with fail
      go_meet
      case rel =>
        have e : q.asks = s4 := by rw [Hq.out]
        refine ⟨s4, c.af, c.aq, ?_, Nat.le_refl _, id, fun i hi => ⟨i, hi, rfl, rfl⟩, Nat.le_refl _⟩
        rw [← e]
        exact i6.out
    have hp : (1 : Int) < s4.n := by omega
    have hp2 : 0 < s4.n := by omega
    have hl := l4.out
    obtain ⟨b, off, he, hc⟩ : ∃ b off, s4.a = some ⟨b, off, none⟩ ∧ ∀ i, i < s4.n → (W6.cell? ⟨b, off + i * 2, none⟩ = some (.string (c.af i)) ∧ W6.cell? ⟨b, off + i * 2 + 1, none⟩ = some (.int .i64 (c.aq i))) := by
      have h := i6.out.inn.asks
      rw [Hq.out] at h
      obtain ⟨_, h | h⟩ := h
      · have h : s4.n = 0 := h
        omega
      · exact h
    have HC : Hid (∀ i, i < s4.n → (W6.cell? ⟨b, off + i * 2, none⟩ = some (.string (c.af i)) ∧ W6.cell? ⟨b, off + i * 2 + 1, none⟩ = some (.int .i64 (c.aq i)))) := hc
    clear hc
    have f22 : W6.cell? ⟨w3.heap.size, 22, none⟩ = some (.slice (some ⟨b, off, none⟩) s4.n s4.c) := by rw [hf4.out, he]
    have z22 := hz4.out
    have hcap : s4.n ≤ s4.c := by have h := i6.out.inn.asks; rw [Hq.out] at h; exact h.1
    have he' : Hid (s4.a = some ⟨b, off, none⟩) := he
    clear he
    have hpl := plc_lt k s4.n hp2
    obtain ⟨i, hi⟩ : ∃ i, i = plc k s4.n := ⟨_, rfl⟩
    have hv := fun w => place_val k s4.n w hp2 l4.out
    rw [← hi] at hpl hv
    have HV : Hid (∀ w, Calls Tryd.prog 16 #[.int .i64 k, .int .i64 s4.n] w fun e w' => e = .returned (.int .i64 (i : Nat)) ∧ w' = w) := hv
    clear hi hv
    go_upto_region 14 with (go_at_call 16; refine (HV.out _).mono ?_; rintro e w' ⟨rfl, he⟩; obtain rfl := he.symm; clear he)
    by_cases hlast : i + 1 = s4.n
    · have hic : i ≤ s4.c := by omega
      have hw1 : IntKind.i64.wrap ((i : Int) + 1) = (i : Int) + 1 := by rw [IntKind.wrap_i64]; omega
      have hw2 : ((i : Int) + 1).toNat = i + 1 := by omega
      have hw3 : (0 : Int) ≤ (i : Int) + 1 := by omega
      have hw4 : (i : Int) + 1 ≤ s4.n := by omega
      have fv : W6.drew.cell? ⟨w3.heap.size, 22, none⟩ = some (.slice (some ⟨b, off, none⟩) s4.n s4.c) := f22
      obtain ⟨i0, hi0⟩ : ∃ i0, Tryd.prog.info? 56 = some i0 := ⟨_, rfl⟩
      have HR' : Hid (∀ ad m cc, m = 0 → (Builtin.append_ #[27, 27] 27 #[.slice (some ⟨b, off, none⟩) i i, .slice ad m cc]).run Tryd.prog W6.drew = .ok (.slice (some ⟨b, off, none⟩) i i) W6.drew) := fun ad m cc hm => by
        subst hm
        exact cut_last W6.drew 27 27 56 i0 Tryd.underlying27 hi0 b off i ad _
      have hii : (i : Int) ≤ (i : Int) + 1 := by omega
      have X' : Hid (Nx wd.heap.size ⟨some ⟨b, off, none⟩, i, i⟩) := fun b' off' h0 he => by
        have h := i6.out.nx.2.2.2.1
        rw [Hq.out] at h
        exact h b' off' hp2 (he'.out.trans he)
      have LL : Hid (i + 1 = s4.n) := hlast
      clear hlast hi0
      by_cases hcc : s4.c = i + 1
      all_goals
        go_region_law (refine step_append_run rfl (.tmp 63) (.tmp 68) 27 27 rfl _ _ rfl rfl _ _ (HR'.out _ _ _ (by have := LL.out; omega)) ?_)
        all_goals
          go_wp2_with fail
          go_meet
          case rel => exact ⟨⟨some ⟨b, off, none⟩, i, i⟩, outN i c.af, outN i c.aq, i6.out.asks (v := W6.drew) (by have := GG.out; omega) GG.out.2 ((Below.refl _ _).drew) (last_asks LL.out HC.out) X'.out, by show i ≤ s4.n; omega, fun h => by have h : i = 0 := h; have := LL.out; omega, fun j hj => by
              obtain ⟨x, h1, h2, h3⟩ := outN_from i s4.n i c.af LL.out j hj
              exact ⟨x, h1, h2, h3 c.aq⟩, sum_out 3 c.af i s4.n i LL.out hpl⟩
    have hic : i ≤ s4.c := by omega
    have hic1 : i + 1 ≤ s4.n := by omega
    have hic2 : i + 1 ≤ s4.c := by omega
    have hne : ¬ s4.c = i + 1 := by omega
    have hw1 : IntKind.i64.wrap ((i : Int) + 1) = (i : Int) + 1 := by rw [IntKind.wrap_i64]; omega
    have hw2 : ((i : Int) + 1).toNat = i + 1 := by omega
    have hw3 : (0 : Int) ≤ (i : Int) + 1 := by omega
    have hw4 : (i : Int) + 1 ≤ s4.n := by omega
    obtain ⟨a', v', hr, hb', hn', ha', hx'⟩ := cut_asks W6.drew b off s4.n i (s4.c - (i + 1)) c.af c.aq (by omega) l4.out HC.out
    have BB : Hid (Below W6.heap.size W6 v') := ⟨hb'.os, hb'.tape, hb'.output, hb'.size, hb'.block⟩
    have N' : Hid (a'.n + 1 = s4.n) := hn'
    have A' : Hid (As v' a' (outN i c.af) (outN i c.aq)) := ha'
    have X' : Hid (Nx W6.heap.size a') := hx'
    have HR' : Hid ((Builtin.append_ #[27, 27] 27 #[.slice (some ⟨b, off, none⟩) i i, .slice (some ⟨b, off + (i + 1) * 2, none⟩) (s4.n - (i + 1)) (s4.c - (i + 1))]).run Tryd.prog W6.drew = .ok (.slice a'.a a'.n a'.c) v') := hr
    clear hb' hn' ha' hx' hr
    have fv : v'.cell? ⟨w3.heap.size, 22, none⟩ = some (.slice (some ⟨b, off, none⟩) s4.n s4.c) := cell_later BB.out f22
    have zv : v'.frozen? ⟨w3.heap.size, 22, none⟩ = false := by simp [World.frozen?, (BB.out.block _ (block_lt i6.out.row)).trans i6.out.row]
    go_region_law (refine step_append_run rfl (.tmp 63) (.tmp 68) 27 27 rfl _ _ rfl rfl _ _ HR'.out ?_)
    all_goals
      go_wp2_with fail
      go_meet
      case rel => exact ⟨a', outN i c.af, outN i c.aq, i6.out.asks (by have := GG.out; omega) GG.out.2 BB.out A'.out (X'.out.mono i6.out.size), by have := N'.out; omega, fun h => by have := N'.out; omega, fun j hj => by
          obtain ⟨x, h1, h2, h3⟩ := outN_from i s4.n a'.n c.af N'.out j hj
          exact ⟨x, h1, h2, h3 c.aq⟩, sum_out 3 c.af i s4.n a'.n N'.out hpl⟩
  case rest =>
  obtain ⟨W7, hW7⟩ : ∃ W7, W7 = wc := ⟨_, rfl⟩
  subst hW7
  obtain ⟨a4, f4, g4, h1, h2, h3, h4, h5⟩ := hcut.out
  have R4 : Hid (a4.n ≤ s4.n ∧ (a4.n = 0 → s4.n = 0) ∧ (∀ i, i < a4.n → ∃ j, j < s4.n ∧ f4 i = c.af j ∧ g4 i = c.aq j) ∧ sumN (fun i => 3 + (f4 i).size) a4.n ≤ sumN (fun i => 3 + (c.af i).size) s4.n) := ⟨h2, h3, h4, h5⟩
  obtain ⟨q1, hq1⟩ : ∃ q1 : Pk, q1 = { q with asks := a4 } := ⟨_, rfl⟩
  obtain ⟨c1, hc1⟩ : ∃ c1 : Cn, c1 = { c with af := f4, aq := g4 } := ⟨_, rfl⟩
  rw [← hq1, ← hc1] at h1
  have i7 : Hid (Iv w w3.heap.size wd.heap.size W7 q1 c1) := h1
  have Hq1 : Hid (q1 = { q with asks := a4 }) := hq1
  have Hc1 : Hid (c1 = { c with af := f4, aq := g4 }) := hc1
  clear hcut h1 h2 h3 h4 h5 hq1 hc1 hf4 hz4 i6 l4
  have f24 := i7.out.cell 24 (.slice s6.a s6.n s6.c) (by rw [Hq1.out, Hq.out]; rfl)
  have z24 := i7.out.frozen 24
  have l6 : Hid (s6.n ≤ 1000000) := by show _ ≤ _; rw [NN.out.2.2.2.2.2]; exact HS.out.fn
  go_upto_if 74 with fail
  have hz6 : Hid (W7.frozen? ⟨w3.heap.size, 24, none⟩ = false) := z24
  have hf6 : Hid (W7.cell? ⟨w3.heap.size, 24, none⟩ = some (.slice s6.a s6.n s6.c)) := f24
  clear f24 z24
  go_cut [8] from 9 (fun s8 wx => Hid (∃ (a : Sl) (f : Nat → ByteArray), Iv w w3.heap.size wd.heap.size wx { q1 with filters := a } { c1 with fs := f } ∧ a.n ≤ s6.n ∧ (a.n = 0 → s6.n = 0) ∧ (∀ i, i < a.n → ∃ j, j < s6.n ∧ f i = c.fs j) ∧ sumN (fun i => 2 + (f i).size) a.n ≤ sumN (fun i => 2 + (c.fs i).size) s6.n))
  case first =>
    by_cases h1 : s6.n ≤ 1
    · have hd : decide ((1 : Int) < s6.n) = false := by simp; omega
      have hd2 : ¬ (1 : Int) < s6.n := by omega
      go_wp2_with fail
      go_meet
      case rel =>
        have e : q1.filters = s6 := by rw [Hq1.out, Hq.out]
        have e2 : c1.fs = c.fs := by rw [Hc1.out]
        refine ⟨s6, c.fs, ?_, Nat.le_refl _, id, fun i hi => ⟨i, hi, rfl⟩, Nat.le_refl _⟩
        rw [← e, ← e2]
        exact i7.out
    have hp : (1 : Int) < s6.n := by omega
    have hp2 : 0 < s6.n := by omega
    have hl := l6.out
    obtain ⟨b, off, he, hc⟩ : ∃ b off, s6.a = some ⟨b, off, none⟩ ∧ ∀ i, i < s6.n → W7.cell? ⟨b, off + i, none⟩ = some (.string (c.fs i)) := by
      have h := i7.out.inn.filters
      rw [Hq1.out, Hq.out, Hc1.out] at h
      obtain ⟨_, h | h⟩ := h
      · have h : s6.n = 0 := h
        omega
      · exact h
    have HC : Hid (∀ i, i < s6.n → W7.cell? ⟨b, off + i, none⟩ = some (.string (c.fs i))) := hc
    clear hc
    have f24 : W7.cell? ⟨w3.heap.size, 24, none⟩ = some (.slice (some ⟨b, off, none⟩) s6.n s6.c) := by rw [hf6.out, he]
    have z24 := hz6.out
    have hcap : s6.n ≤ s6.c := by have h := i7.out.inn.filters; rw [Hq1.out, Hq.out] at h; exact h.1
    have he' : Hid (s6.a = some ⟨b, off, none⟩) := he
    clear he
    have hpl := plc_lt k s6.n hp2
    obtain ⟨i, hi⟩ : ∃ i, i = plc k s6.n := ⟨_, rfl⟩
    have hv := fun w => place_val k s6.n w hp2 l6.out
    rw [← hi] at hpl hv
    have HV : Hid (∀ w, Calls Tryd.prog 16 #[.int .i64 k, .int .i64 s6.n] w fun e w' => e = .returned (.int .i64 (i : Nat)) ∧ w' = w) := hv
    clear hi hv
    go_upto_region 17 with (go_at_call 16; refine (HV.out _).mono ?_; rintro e w' ⟨rfl, he⟩; obtain rfl := he.symm; clear he)
    by_cases hlast : i + 1 = s6.n
    · have hic : i ≤ s6.c := by omega
      have hw1 : IntKind.i64.wrap ((i : Int) + 1) = (i : Int) + 1 := by rw [IntKind.wrap_i64]; omega
      have hw2 : ((i : Int) + 1).toNat = i + 1 := by omega
      have hw3 : (0 : Int) ≤ (i : Int) + 1 := by omega
      have hw4 : (i : Int) + 1 ≤ s6.n := by omega
      have fv : W7.drew.cell? ⟨w3.heap.size, 24, none⟩ = some (.slice (some ⟨b, off, none⟩) s6.n s6.c) := f24
      obtain ⟨i0, hi0⟩ : ∃ i0, Tryd.prog.info? 9 = some i0 := ⟨_, rfl⟩
      have HR' : Hid (∀ ad m cc, m = 0 → (Builtin.append_ #[29, 29] 29 #[.slice (some ⟨b, off, none⟩) i i, .slice ad m cc]).run Tryd.prog W7.drew = .ok (.slice (some ⟨b, off, none⟩) i i) W7.drew) := fun ad m cc hm => by
        subst hm
        exact cut_last W7.drew 29 29 9 i0 Tryd.underlying29 hi0 b off i ad _
      have hii : (i : Int) ≤ (i : Int) + 1 := by omega
      have X' : Hid (Nx wd.heap.size ⟨some ⟨b, off, none⟩, i, i⟩) := fun b' off' h0 he => by
        have h := i7.out.nx.2.2.2.2.2
        rw [Hq1.out, Hq.out] at h
        exact h b' off' hp2 (he'.out.trans he)
      have LL : Hid (i + 1 = s6.n) := hlast
      clear hlast hi0
      by_cases hcc : s6.c = i + 1
      all_goals
        go_region_law (refine step_append_run rfl (.tmp 84) (.tmp 89) 29 29 rfl _ _ rfl rfl _ _ (HR'.out _ _ _ (by have := LL.out; omega)) ?_)
        all_goals
          go_wp2_with fail
          go_meet
          case rel => exact ⟨⟨some ⟨b, off, none⟩, i, i⟩, outN i c.fs, i7.out.filters (v := W7.drew) (by have := GG.out; omega) GG.out.2 ((Below.refl _ _).drew) (last_texts LL.out HC.out) X'.out, by show i ≤ s6.n; omega, fun h => by have h : i = 0 := h; have := LL.out; omega, fun j hj => by
              obtain ⟨x, h1, h2, h3⟩ := outN_from i s6.n i c.fs LL.out j hj
              exact ⟨x, h1, h2⟩, sum_out 2 c.fs i s6.n i LL.out hpl⟩
    have hic : i ≤ s6.c := by omega
    have hic1 : i + 1 ≤ s6.n := by omega
    have hic2 : i + 1 ≤ s6.c := by omega
    have hne : ¬ s6.c = i + 1 := by omega
    have hw1 : IntKind.i64.wrap ((i : Int) + 1) = (i : Int) + 1 := by rw [IntKind.wrap_i64]; omega
    have hw2 : ((i : Int) + 1).toNat = i + 1 := by omega
    have hw3 : (0 : Int) ≤ (i : Int) + 1 := by omega
    have hw4 : (i : Int) + 1 ≤ s6.n := by omega
    obtain ⟨a', v', hr, hb', hn', ha', hx'⟩ := cut_texts W7.drew b off s6.n i (s6.c - (i + 1)) c.fs (by omega) l6.out HC.out
    have BB : Hid (Below W7.heap.size W7 v') := ⟨hb'.os, hb'.tape, hb'.output, hb'.size, hb'.block⟩
    have N' : Hid (a'.n + 1 = s6.n) := hn'
    have A' : Hid (Ss v' a' (outN i c.fs)) := ha'
    have X' : Hid (Nx W7.heap.size a') := hx'
    have HR' : Hid ((Builtin.append_ #[29, 29] 29 #[.slice (some ⟨b, off, none⟩) i i, .slice (some ⟨b, off + (i + 1), none⟩) (s6.n - (i + 1)) (s6.c - (i + 1))]).run Tryd.prog W7.drew = .ok (.slice a'.a a'.n a'.c) v') := hr
    clear hb' hn' ha' hx' hr
    have fv : v'.cell? ⟨w3.heap.size, 24, none⟩ = some (.slice (some ⟨b, off, none⟩) s6.n s6.c) := cell_later BB.out f24
    have zv : v'.frozen? ⟨w3.heap.size, 24, none⟩ = false := by simp [World.frozen?, (BB.out.block _ (block_lt i7.out.row)).trans i7.out.row]
    go_region_law (refine step_append_run rfl (.tmp 84) (.tmp 89) 29 29 rfl _ _ rfl rfl _ _ HR'.out ?_)
    all_goals
      go_wp2_with fail
      go_meet
      case rel => exact ⟨a', outN i c.fs, i7.out.filters (by have := GG.out; omega) GG.out.2 BB.out A'.out (X'.out.mono i7.out.size), by have := N'.out; omega, fun h => by have := N'.out; omega, fun j hj => by
          obtain ⟨x, h1, h2, h3⟩ := outN_from i s6.n a'.n c.fs N'.out j hj
          exact ⟨x, h1, h2⟩, sum_out 2 c.fs i s6.n a'.n N'.out hpl⟩
  case rest =>
  obtain ⟨W8, hW8⟩ : ∃ W8, W8 = wc := ⟨_, rfl⟩
  subst hW8
  obtain ⟨a6, f6, h1, h2, h3, h4, h5⟩ := hcut.out
  have R6 : Hid (a6.n ≤ s6.n ∧ (a6.n = 0 → s6.n = 0) ∧ (∀ i, i < a6.n → ∃ j, j < s6.n ∧ f6 i = c.fs j) ∧ sumN (fun i => 2 + (f6 i).size) a6.n ≤ sumN (fun i => 2 + (c.fs i).size) s6.n) := ⟨h2, h3, h4, h5⟩
  have i8 : Hid (Iv w w3.heap.size wd.heap.size W8 { q1 with filters := a6 } { c1 with fs := f6 }) := h1
  clear hcut h1 h2 h3 h4 h5 hf6 hz6 i7 l6
  have j0 := i8.out.cell 0 (.int .i64 p.kind) (by rw [Hq1.out, Hq.out]; rfl)
  have j19 := i8.out.cell 19 (.int .i64 p.mQ) (by rw [Hq1.out, Hq.out]; rfl)
  have z19 := i8.out.frozen 19
  have FIN : Hid (∀ (z : Int) (wx : World), (z = p.mQ ∨ (p.kind = 3 ∧ 1 ≤ p.mQ ∧ 1 ≤ z ∧ z ≤ 2)) → Iv w w3.heap.size wd.heap.size wx { q1 with filters := a6, mQ := z } { c1 with fs := f6 } →
      Calls Tryd.prog 17 #[.agg (pkCells { q1 with filters := a6, mQ := z })] wx fun e w' => e = .returned (.int .i64 (0 : Nat)) ∧ Below wx.heap.size wx w') := fun z wx hz hv => by
    have nn := NN.out
    have r4 := R4.out
    have r6 := R6.out
    have h := HS.out
    have hr : Right TT { q1 with filters := a6, mQ := z } { c1 with fs := f6 } := by
      rw [Hq1.out, Hq.out, Hc1.out]
      exact right_mono HR.out s1 s2 s3 a4 s5 a6 z nn.1 nn.2.1 (by rw [nn.2.2.1]; exact Nat.le_refl _) hz (by rw [← nn.2.2.2.1]; exact r4.1) (by rw [← nn.2.2.2.1]; exact r4.2.1) nn.2.2.2.2.1 (by rw [← nn.2.2.2.2.2]; exact r6.1) (by rw [← nn.2.2.2.2.2]; exact r6.2.1)
        (by rw [← nn.2.2.2.1]; exact r4.2.2.1) (fun i _ => rfl) (by rw [← nn.2.2.2.2.2]; exact r6.2.2.1) (by rw [← nn.2.2.2.1]; exact r4.2.2.2) (by rw [← nn.2.2.2.2.2]; exact r6.2.2.2)
    have hs : Small { q1 with filters := a6, mQ := z } { c1 with fs := f6 } := by
      rw [Hq1.out, Hq.out, Hc1.out]
      exact ⟨h.cl, h.us, h.wt, h.mt, by show s1.n ≤ _; rw [nn.1]; exact h.wp, by show s2.n ≤ _; rw [nn.2.1]; exact h.ps, by show s3.n ≤ _; rw [nn.2.2.1]; exact h.mp, by show a4.n ≤ _; have := h.an; have := r4.1; have := nn.2.2.2.1; omega, by show s5.n ≤ _; rw [nn.2.2.2.2.1]; exact h.cn, by show a6.n ≤ _; have := h.fn; have := r6.1; have := nn.2.2.2.2.2; omega,
        Nat.le_trans r4.2.2.2 (by rw [nn.2.2.2.1]; exact h.sa), Nat.le_trans r6.2.2.2 (by rw [nn.2.2.2.2.2]; exact h.sf)⟩
    have := check_any _ _ wx (HG.out.below hv.bel) hv.inn hs
    rw [(ck_right TT _ _).2 hr] at this
    exact this
  by_cases hk : p.kind = 3 ∧ 0 < p.mQ
  · have k1 := hk.1
    have k2 := hk.2
    have k3 : (p.kind == 3) = true := by simpa using k1
    have hm := HR.out.q2
    have hw : IntKind.i64.wrap (3 - p.mQ) = 3 - p.mQ := by rw [IntKind.wrap_i64]; omega
    have CC := FIN.out (3 - p.mQ) (W8.setCell ⟨w3.heap.size, 19, none⟩ (.int .i64 (3 - p.mQ))) (.inr ⟨k1, by omega, by omega, by omega⟩) (i8.out.quality (by have := GG.out; omega) GG.out.2 _)
    have VV := i8.out.quality (by have := GG.out; omega) GG.out.2 (3 - p.mQ)
    have C' : Hid (Calls Tryd.prog 17 #[.agg (pkCells { q1 with filters := a6, mQ := 3 - p.mQ })] (W8.setCell ⟨w3.heap.size, 19, none⟩ (.int .i64 (3 - p.mQ))) fun e w' => e = .returned (.int .i64 (0 : Nat)) ∧ Below (W8.setCell ⟨w3.heap.size, 19, none⟩ (.int .i64 (3 - p.mQ))).heap.size (W8.setCell ⟨w3.heap.size, 19, none⟩ (.int .i64 (3 - p.mQ))) w') := CC
    have V' : Hid (Iv w w3.heap.size wd.heap.size (W8.setCell ⟨w3.heap.size, 19, none⟩ (.int .i64 (3 - p.mQ))) { q1 with filters := a6, mQ := 3 - p.mQ } { c1 with fs := f6 }) := VV
    clear CC VV hk hm
    go_upto_region 20 with fail
    obtain ⟨W9, hW9⟩ : ∃ W9, W9 = W8.setCell ⟨w3.heap.size, 19, none⟩ (.int .i64 (3 - p.mQ)) := ⟨_, rfl⟩
    rw [← hW9] at C' V' ⊢
    obtain ⟨Q9, hQ9⟩ : ∃ Q9, Q9 = pkCells { q1 with filters := a6, mQ := 3 - p.mQ } := ⟨_, rfl⟩
    have S9 : Hid (Q9.size = 25) := by show _ = _; rw [hQ9]; rfl
    have r9 : Hid (W9.heap[w3.heap.size]? = some (.cells Q9 31)) := by show _ = _; rw [hQ9]; exact V'.out.row
    rw [← hQ9] at C'
    clear hW9 hQ9 j0 j19 z19
    go_wp2_with (first | (refine wpList_load_wanted rfl _ rfl w3.heap.size rfl Q9 (0, 0) r9.out S9.out ?_) | fail)
    go_must (go_at_call 17)
    refine C'.out.mono ?_
    rintro e w9 ⟨rfl, hb⟩
    have b9 : Hid (Below w.heap.size w w9) := V'.out.bel.trans (hb.mono V'.out.bel.size)
    clear hb
    go_wp2
    go_ret
    exact ⟨rfl, b9.out⟩
  · have V' : Hid (Iv w w3.heap.size wd.heap.size W8 { q1 with filters := a6, mQ := p.mQ } { c1 with fs := f6 }) := by
      have e : ({ q1 with filters := a6, mQ := p.mQ } : Pk) = { q1 with filters := a6 } := by rw [Hq1.out, Hq.out]
      show Iv _ _ _ _ _ _
      rw [e]
      exact i8.out
    have C' := FIN.out p.mQ W8 (.inl rfl) V'.out
    obtain ⟨Q9, hQ9⟩ : ∃ Q9, Q9 = pkCells { q1 with filters := a6, mQ := p.mQ } := ⟨_, rfl⟩
    have S9 : Hid (Q9.size = 25) := by show _ = _; rw [hQ9]; rfl
    have r9 : Hid (W8.heap[w3.heap.size]? = some (.cells Q9 31)) := by show _ = _; rw [hQ9]; exact V'.out.row
    rw [← hQ9] at C'
    have C9 : Hid (Calls Tryd.prog 17 #[.agg Q9] W8 fun e w' => e = .returned (.int .i64 (0 : Nat)) ∧ Below W8.heap.size W8 w') := C'
    clear hQ9 C'
    have hd : (p.kind == 3) = false ∨ ((p.kind == 3) = true ∧ ¬ (0 : Int) < p.mQ) := by
      by_cases h3 : p.kind = 3
      · exact .inr ⟨by simpa using h3, fun h => hk ⟨h3, h⟩⟩
      · exact .inl (by simpa using h3)
    clear hk
    rcases hd with h3 | ⟨h3, h4⟩
    all_goals
      go_upto_region 20 with fail
      clear j0 j19 z19
      go_wp2_with (first | (refine wpList_load_wanted rfl _ rfl w3.heap.size rfl Q9 (0, 0) r9.out S9.out ?_) | fail)
      go_must (go_at_call 17)
      refine C9.out.mono ?_
      rintro e w9 ⟨rfl, hb⟩
      have b9 : Hid (Below w.heap.size w w9) := V'.out.bel.trans (hb.mono V'.out.bel.size)
      clear hb
      go_wp2
      go_ret
      exact ⟨rfl, b9.out⟩
end Go.Proofs.YtcoccggimbficaaDoor
