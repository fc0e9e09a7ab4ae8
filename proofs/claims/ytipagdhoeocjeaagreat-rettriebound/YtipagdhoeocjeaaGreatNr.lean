import Derived.Test.YtipagdhoeocjeaaGreatNp
import Derived.ScopeJumps
namespace Go.Proofs.YtipagdhoeocjeaaGreat.Li
open Go Go.RowKit Go.Shelf
set_option linter.unusedSimpArgs false
set_option linter.unusedVariables false
attribute [local go_sem] Oper.semAt_some
variable {w₀ : World} {tb r nb lb wb : Nat} {nf nn : Int} {T : List Fn}
/-- How many nodes lie at or below the one of this block. -/
def cntp (T : List Fn) (v : Value) : Nat := match v with
  | .pointer (some ⟨p, _, _⟩) => (match T.find? (fun q => decide (q.s.p = p)) with
    | some q => cnt T q
    | none => 0)
  | _ => 0
theorem cntp_of {w : World} (h : TM w tb r nf nn T) {q : Fn} (hq : q ∈ T) : cntp T (ptr q.s.p) = cnt T q := by
  unfold cntp ptr
  simp only
  cases e : T.find? (fun a => decide (a.s.p = q.s.p)) with
  | none =>
    have := List.find?_eq_none.1 e q hq
    simp at this
  | some a =>
    have h1 := List.mem_of_find?_eq_some e
    have h2 := List.find?_some e
    have h3 := of_decide_eq_true h2
    have : a = q := by
      by_cases c : a = q
      · exact c
      · exact (h.apart h1 hq c a.s.p (.inl rfl) (.inl h3)).elim
    rw [this]
/-- While a filter's levels are gone along. -/
structure FS (T : List Fn) (W : World) (y : Value) (d : Fn) (L : List ByteArray) (q : Fn) (Lq Li : List ByteArray) (i : Nat) (W' : World) : Prop where
  qT : q ∈ T
  cq : cnt T q ≤ cnt T d
  eq : ∀ F, (∃ m, HasM T F m) → (Mt Lq q F ↔ Mt L d F)
  al : Al q Lq Li i
  be : Below W.heap.size W W'
  b1 : ∃ lv, W'.heap[W.heap.size]? = some (.cells #[lv] 45 (0, 0)) ∧ Rw W' lv Li
  b2 : W'.heap[W.heap.size + 1]? = some (.cells #[y] 63 (0, 0))
  b3 : W'.heap[W.heap.size + 2]? = some (.cells #[.bool false] 4 (0, 0))
  ok : Li.length ≤ 65536 ∧ ∀ t ∈ Li, t.size ≤ 65535
theorem FS.below {W W' W2 : World} {y : Value} {d q : Fn} {L Lq Li : List ByteArray} {i : Nat} (h : FS T W y d L q Lq Li i W') (hb : Below W'.heap.size W' W2) : FS T W y d L q Lq Li i W2 := by
  obtain ⟨lv, b, R⟩ := h.b1
  exact ⟨h.qT, h.cq, h.eq, h.al, h.be.trans (hb.mono h.be.size), ⟨lv, later_at b hb, R.below hb⟩, later_at h.b2 hb, later_at h.b3 hb, h.ok⟩
/-- What find leaves. -/
structure FR (w₀ : World) (nb lb wb : Nat) (T : List Fn) (S : List ByteArray → Prop) (X : List Ml) (W W' : World) : Prop where
  ex : ∃ Y : List Ml, GS w₀.heap.size nb lb wb (X ++ Y) W' ∧ All T S (Y.map (·.1))
  kn : KN w₀.heap.size (Xg lb wb) W W'
theorem GS.set {n₀ nb lb wb : Nat} {X : List Ml} {W : World} {b : Nat} {v u : Value} {t : Nat} (h : GS n₀ nb lb wb X W) (hb : W.heap[b]? = some (.cells #[u] t (0, 0))) (h1 : b ≠ nb) (h2 : b ≠ lb) (h3 : b ≠ wb) (ht : t ≠ 30) (h5 : t ≠ 5) : GS n₀ nb lb wb X (W.setCell ⟨b, 0, none⟩ v) := by
  have c := ch_set (w := W) b 0 v
  have st : ∀ {k : Nat} {cs : Array Value} {t : Nat}, W.heap[k]? = some (.cells cs t (0, 0)) → k ≠ b → (W.setCell ⟨b, 0, none⟩ v).heap[k]? = some (.cells cs t (0, 0)) := fun e hk => (heap_set_ne _ hk).trans e
  obtain ⟨lv, a, ro⟩ := h.l_
  refine ⟨st h.n_ (fun e => h1 e.symm), st h.w_ (fun e => h3 e.symm), ⟨lv, st a (fun e => h2 e.symm), own_ch ro c (fun g hg q => ?_)⟩, fun x hx => own_to (h.pl x hx) c (fun g q => by rw [q]; exact no5 hb h5), h.lo⟩
  obtain ⟨cur, e⟩ := own_lt ro hg
  rw [q, hb] at e
  simp at e
  exact ht e.2
/-- What find leaves, when the answer is laid into its cell. -/
theorem fr_end {S : List ByteArray → Prop} {X Y : List Ml} {W W' W2 : World} (gs : GS w₀.heap.size nb lb wb X W) (hs : w₀.heap.size ≤ W.heap.size) (be : Below W.heap.size W W') (kn : KN w₀.heap.size (Xg lb wb) W' W2) (g2 : GS w₀.heap.size nb lb wb (X ++ Y) W2) (al : All T S (Y.map (·.1))) {B3 : Nat} (hB : W.heap.size ≤ B3) (b3 : W'.heap[B3]? = some (.cells #[.bool false] 4 (0, 0))) (b : Bool) :
    FR w₀ nb lb wb T S X W (W2.setCell ⟨B3, 0, none⟩ (.bool b)) ∧ (W2.setCell ⟨B3, 0, none⟩ (.bool b)).cell? ⟨B3, 0, none⟩ = some (.bool b) := by
  obtain ⟨lv, hl0, -⟩ := gs.l_
  have lbl : lb < W.heap.size := (Array.getElem?_eq_some_iff.1 hl0).1
  have wbl : wb < W.heap.size := (Array.getElem?_eq_some_iff.1 gs.w_).1
  have nbl : nb < W.heap.size := (Array.getElem?_eq_some_iff.1 gs.n_).1
  have b3' := kn.kn.cl _ _ _ _ b3 (fun c => by rcases c with c | c | c <;> omega)
  refine ⟨⟨⟨Y, g2.set b3' (by omega) (by omega) (by omega) (by decide) (by decide), al⟩, ?_⟩, ?_⟩
  · refine ((KN.of be hs).trans kn).then_below ?_ hs
    exact ⟨rfl, rfl, rfl, by simp [World.setCell], fun k hk => heap_set_ne _ (by omega)⟩
  · exact box_cells (heap_set b3' _) 0 _ rfl
theorem FS.next {W wr : World} {y : Value} {d q : Fn} {L Lq zs : List ByteArray} {z : ByteArray} {i g o n c : Nat} {ad : Option Addr} (G : FS T W y d L q Lq (z :: zs) i wr) (b1 : wr.heap[W.heap.size]? = some (.cells #[.slice (some ⟨g, o, none⟩) n c] 45 (0, 0))) (R : Rw wr (.slice (some ⟨g, o, none⟩) n c) (z :: zs)) (al : Al q Lq zs (i + 1)) (h1 : 1 ≤ n) (had : (if c = 1 then (some ⟨g, o, none⟩ : Option Addr) else some ⟨g, o + 1, none⟩) = ad) : FS T W y d L q Lq zs (i + 1) (wr.setCell ⟨W.heap.size, 0, none⟩ (.slice ad (n - 1) (c - 1))) := by
  subst had
  have cc := ch_set (w := wr) W.heap.size 0 (.slice (if c = 1 then (some ⟨g, o, none⟩ : Option Addr) else some ⟨g, o + 1, none⟩) (n - 1) (c - 1))
  have R1 := (R.drop (k := 1) h1).ch cc (fun j hj e => by
    have hj' : (Value.slice (some ⟨g, o, none⟩) n c).ownBlock = some j := by
      by_cases hc : c = 1
      · rw [if_pos hc] at hj
        exact hj
      · rw [if_neg hc] at hj
        exact hj
    exact R.ne b1 (by decide) hj' e)
  refine ⟨G.qT, G.cq, G.eq, al, ⟨cc.os.trans G.be.os, cc.tape.trans G.be.tape, cc.output.trans G.be.output, Nat.le_trans G.be.size cc.size, fun k hk => (cc.block k (by have := G.be.size; omega) (by omega)).trans (G.be.block k hk)⟩, ⟨_, heap_set b1 _, R1⟩, (cc.block _ (Array.getElem?_eq_some_iff.1 G.b2).1 (by omega)).trans G.b2, (cc.block _ (Array.getElem?_eq_some_iff.1 G.b3).1 (by omega)).trans G.b3, ?_⟩
  have := G.ok
  exact ⟨by have := this.1; simp at this; omega, fun t ht => this.2 t (List.mem_cons_of_mem _ ht)⟩
theorem wp_scope_again {P : Program} {rest : Code} {Q : Exit → Act → World → Prop} {a : Act} {w : World} (l : Nat) (J : Act → World → Prop) (μ : Act → World → Nat) (h0 : J a w)
    (pass : ∀ a w, J a w → rest.wp P (Exit.jump l (fun a' w' => J a' w' ∧ μ a' w' < μ a w) Q) a w) : (Code.scope ((Code.label l).seq rest)).wp P Q a w := by
  have hf : findLabel ((Code.label l).seq rest) l = some (.seq .skip rest) := by simp [findLabel]
  refine wp_scope_jumps l J μ hf ?_ (fun a w hJ => wp_seq (wp_skip (pass a w hJ)))
  refine wp_seq (wp_label ?_)
  exact Code.wp_mono (fun e a w h => by cases e <;> first | exact h | exact ⟨h.1, h.2.1⟩) (pass a w h0)
theorem ret57 {tmps : Array Value} {w : World} {B3 : Nat} {b : Bool} {R : Ending → World → Prop} (hp : tmps.getD 6 undef = .pointer (some ⟨B3, 0, none⟩)) (hc : w.cell? ⟨B3, 0, none⟩ = some (.bool b)) (hR : R (.returned (.bool b)) w) : bodyPostM Fence.wide 5 Tryz.prog Tryz.f57 R .ret { tmps := tmps, defers := [] } w :=
  ⟨_, results_cell4 rfl _ _ B3 b hp hc, hR⟩
theorem ret57d {tmps : Array Value} {w : World} {B3 D : Nat} {b : Bool} {R : Ending → World → Prop} (hp : tmps.getD 6 undef = .pointer (some ⟨B3, 0, none⟩)) (hK : w.heap[D]? = some (.deferred (some []))) (hc : (w.putObj D (.deferred none)).cell? ⟨B3, 0, none⟩ = some (.bool b)) (hR : R (.returned (.bool b)) (w.putObj D (.deferred none))) : bodyPostM Fence.wide 5 Tryz.prog Tryz.f57 R .ret { tmps := tmps, defers := [{ target := .collected D, args := #[] }] } w :=
  ⟨by simp, .inl ⟨_, _, rfl, run_takeDeferred hK, ⟨_, results_cell4 rfl _ _ B3 b hp hc, hR⟩⟩⟩
/-- What is so each time that an edge is begun. -/
def JJ (T : List Fn) (W : World) (wf : Go.Fn) (yb : Array Value) (d : Fn) (L : List ByteArray) (la : Option Addr) (lm lc : Nat) (a : Act) (W' : World) : Prop := ∃ (q : Fn) (Lq : List ByteArray) (u : Nat → Value), a = { tmps := #[Value.pointer (some { block := q.s.p, off := 0 }), Value.slice la lm lc, Value.func wf #[] yb, undef, Value.pointer (some { block := W.heap.size, off := 0 }), Value.pointer (some { block := W.heap.size + 1, off := 0 }), Value.pointer (some { block := W.heap.size + 2, off := 0 }), u 7, u 8, u 9, u 10, u 11, u 12, u 13, u 14, u 15, u 16, u 17, u 18, u 19, u 20, u 21, u 22, u 23, u 24, u 25, u 26, u 27, u 28, u 29, u 30, u 31, u 32, u 33, u 34, u 35, u 36, u 37, u 38, u 39, u 40, u 41, u 42, u 43, u 44, u 45, u 46, u 47, u 48, u 49, u 50, u 51, u 52, u 53, u 54, u 55, u 56, u 57, u 58, u 59, u 60, u 61, u 62, u 63, u 64, u 65, u 66, u 67, u 68, u 69, u 70, u 71, u 72, u 73, u 74, u 75, u 76, u 77, u 78, u 79, u 80, u 81, u 82, u 83, u 84, u 85, u 86, u 87, u 88, u 89], defers := [] } ∧ Hid (FS T W (.func wf #[] yb) d L q Lq Lq 0 W')
theorem jj_go {W W' : World} {wf : Go.Fn} {yb : Array Value} {d : Fn} {L : List ByteArray} {la : Option Addr} {lm lc : Nat} {a : Act} (q : Fn) (Lq : List ByteArray) (h : a = { tmps := #[Value.pointer (some { block := q.s.p, off := 0 }), Value.slice la lm lc, Value.func wf #[] yb, undef, Value.pointer (some { block := W.heap.size, off := 0 }), Value.pointer (some { block := W.heap.size + 1, off := 0 }), Value.pointer (some { block := W.heap.size + 2, off := 0 }), a.tmps.getD 7 undef, a.tmps.getD 8 undef, a.tmps.getD 9 undef, a.tmps.getD 10 undef, a.tmps.getD 11 undef, a.tmps.getD 12 undef, a.tmps.getD 13 undef, a.tmps.getD 14 undef, a.tmps.getD 15 undef, a.tmps.getD 16 undef, a.tmps.getD 17 undef, a.tmps.getD 18 undef, a.tmps.getD 19 undef, a.tmps.getD 20 undef, a.tmps.getD 21 undef, a.tmps.getD 22 undef, a.tmps.getD 23 undef, a.tmps.getD 24 undef, a.tmps.getD 25 undef, a.tmps.getD 26 undef, a.tmps.getD 27 undef, a.tmps.getD 28 undef, a.tmps.getD 29 undef, a.tmps.getD 30 undef, a.tmps.getD 31 undef, a.tmps.getD 32 undef, a.tmps.getD 33 undef, a.tmps.getD 34 undef, a.tmps.getD 35 undef, a.tmps.getD 36 undef, a.tmps.getD 37 undef, a.tmps.getD 38 undef, a.tmps.getD 39 undef, a.tmps.getD 40 undef, a.tmps.getD 41 undef, a.tmps.getD 42 undef, a.tmps.getD 43 undef, a.tmps.getD 44 undef, a.tmps.getD 45 undef, a.tmps.getD 46 undef, a.tmps.getD 47 undef, a.tmps.getD 48 undef, a.tmps.getD 49 undef, a.tmps.getD 50 undef, a.tmps.getD 51 undef, a.tmps.getD 52 undef, a.tmps.getD 53 undef, a.tmps.getD 54 undef, a.tmps.getD 55 undef, a.tmps.getD 56 undef, a.tmps.getD 57 undef, a.tmps.getD 58 undef, a.tmps.getD 59 undef, a.tmps.getD 60 undef, a.tmps.getD 61 undef, a.tmps.getD 62 undef, a.tmps.getD 63 undef, a.tmps.getD 64 undef, a.tmps.getD 65 undef, a.tmps.getD 66 undef, a.tmps.getD 67 undef, a.tmps.getD 68 undef, a.tmps.getD 69 undef, a.tmps.getD 70 undef, a.tmps.getD 71 undef, a.tmps.getD 72 undef, a.tmps.getD 73 undef, a.tmps.getD 74 undef, a.tmps.getD 75 undef, a.tmps.getD 76 undef, a.tmps.getD 77 undef, a.tmps.getD 78 undef, a.tmps.getD 79 undef, a.tmps.getD 80 undef, a.tmps.getD 81 undef, a.tmps.getD 82 undef, a.tmps.getD 83 undef, a.tmps.getD 84 undef, a.tmps.getD 85 undef, a.tmps.getD 86 undef, a.tmps.getD 87 undef, a.tmps.getD 88 undef, a.tmps.getD 89 undef], defers := [] }) (F : FS T W (.func wf #[] yb) d L q Lq Lq 0 W') : JJ T W wf yb d L la lm lc a W' := ⟨q, Lq, fun i => a.tmps.getD i undef, h, F⟩
theorem Rw.kn {n₀ : Nat} {X : List Ml} {W W' : World} {v : Value} {L : List ByteArray} (R : Rw W v L) (k : KN n₀ (Xg lb wb) W W') (g : GS n₀ nb lb wb X W) : Rw W' v L := by
  obtain ⟨lv, hl, -⟩ := g.l_
  have same : ∀ j, v.ownBlock = some j → W'.heap[j]? = W.heap[j]? := fun j hj => by
    obtain ⟨cur, e⟩ := R.ty j hj
    rw [e]
    refine k.kn.cl _ _ _ _ e (fun c => ?_)
    rcases c with c | c | c
    · cases c
    · rw [c, hl] at e; cases e
    · rw [c, g.w_] at e; cases e
  exact ⟨Row.stay R.row k.kn.be.size same, fun j hj => by
    obtain ⟨cur, e⟩ := R.ty j hj
    exact ⟨cur, (same j hj).trans e⟩⟩
/-- While the nodes right below are gone through. -/
structure FJ (w₀ : World) (nb lb wb : Nat) (T : List Fn) (P : Fn → List ByteArray → Prop) (X : List Ml) (W : World) (K : List Fn) (W' : World) : Prop where
  ex : ∃ Y : List Ml, GS w₀.heap.size nb lb wb (X ++ Y) W' ∧ BlkP T P K (Y.map (·.1)) ∧ Y.length ≤ K.length * T.length
  kn : KN w₀.heap.size (Xg lb wb) W W'
theorem FJ.own {d : Fn} {P : Fn → List ByteArray → Prop} {X : List Ml} {W w1 : World} (hn : w₀.heap.size ≤ W.heap.size) (h01 : W.heap.size ≤ w1.heap.size) : OwnFrom w1.heap.size (fun (pre : List (Kd T d)) W' => FJ w₀ nb lb wb T P X W (pre.map (·.1)) W') := by
  rintro s A B row ⟨⟨Y, g, bk, le⟩, kn⟩ hg hr
  have cg := cells_grown hg (fun k e => (hr k e).2)
  exact ⟨⟨Y, g.stay cg, bk, le⟩, kn.grown hg (fun k e => ⟨by have := (hr k e).1; omega, (hr k e).2⟩) hn⟩
theorem FJ.next {P : Fn → List ByteArray → Prop} {X : List Ml} {W W' W2 : World} {K : List Fn} {q : Fn} {S : List ByteArray → Prop} {Y : List Ml} (kn : KN w₀.heap.size (Xg lb wb) W W') (bk : BlkP T P K (Y.map (·.1))) (le : Y.length ≤ K.length * T.length) (f : FR w₀ nb lb wb T S (X ++ Y) W' W2) (hS : ∀ F, (∃ m, HasM T F m) → (S F ↔ q.s.A <+: F ∧ P q F)) : FJ w₀ nb lb wb T P X W (K ++ [q]) W2 := by
  obtain ⟨⟨Y2, g2, al⟩, k2⟩ := f
  refine ⟨⟨Y ++ Y2, by rw [← List.append_assoc]; exact g2, ?_, ?_⟩, kn.trans k2⟩
  · rw [List.map_append]
    exact blkp_next bk (al.ext hS)
  · have := al.len
    rw [List.length_map] at this
    rw [List.length_append, List.length_append, List.length_singleton, Nat.succ_mul]
    omega
theorem Al.plus_of (h : Tw w₀ tb r nf nn T) {q : Fn} (hqT : q ∈ T) {L Li : List ByteArray} {z : ByteArray} (al : Al q L (z :: Li) q.s.m) (hz : z = pls) {Z : List Msg} (hZ : All T (fun F => ∃ k ∈ T, Kid q.s k.s ∧ k.s.A <+: F ∧ mtb (z :: Li) (F.drop k.s.top) = true) Z) : All T (Mt L q) Z := by
  subst hz
  exact al.plus h hqT hZ
/-- What find leaves, behind a range over the nodes right below. -/
theorem fr_put {S : List ByteArray → Prop} {X : List Ml} {W W3 : World} {D : Nat} (f : FR w₀ nb lb wb T S X W W3) (hs : w₀.heap.size ≤ W.heap.size) (hD : W.heap.size ≤ D) (hK : W3.heap[D]? = some (.deferred (some []))) : FR w₀ nb lb wb T S X W (W3.putObj D (.deferred none)) := by
  obtain ⟨⟨Y, g, al⟩, kn⟩ := f
  refine ⟨⟨Y, g.stay (fun k cs t fz e => ?_), al⟩, kn.then_below ⟨rfl, rfl, rfl, by simp [World.putObj], fun k hk => World.putObj_heap_other (by omega)⟩ hs⟩
  rw [World.putObj_heap_other (fun c => by rw [c, hK] at e; cases e)]
  exact e
end Go.Proofs.YtipagdhoeocjeaaGreat.Li
namespace Go.Proofs.YtipagdhoeocjeaaGreat.Li
open Go Go.RowKit Go.Shelf
set_option linter.unusedSimpArgs false
set_option linter.unusedVariables false
attribute [local go_sem] Oper.semAt_some
variable {w₀ : World} {tb r nb lb wb : Nat} {nf nn : Int} {T : List Fn}
set_option maxRecDepth 100000 in
set_option maxHeartbeats 8000000 in
theorem find_any (h : Tw w₀ tb r nf nn T) : ∀ (n : Nat) (W : World) (d : Fn) (X : List Ml) (lv : Value) (L : List ByteArray), Below w₀.heap.size w₀ W → d ∈ T → GS w₀.heap.size nb lb wb X W → Rw W lv L → L.length ≤ 65536 → (∀ t ∈ L, t.size ≤ 65535) → cnt T d ≤ n → X.length + n * (T.length * T.length + 1) ≤ 700000000 →
    Calls Tryz.prog 57 #[ptr d.s.p, lv, yv wb nb lb] W fun e W' => e = .returned (.bool true) ∧ FR w₀ nb lb wb T (Mt L d) X W W'
  | 0, W, d, X, lv, L, hb, hd, g, R, hL, hz, hc, hX => by
    have : 0 < cnt T d := by
      unfold cnt
      exact List.length_pos_of_mem (List.mem_filter.2 ⟨hd, ipre_iff.2 (List.prefix_refl _)⟩)
    omega
  | n + 1, W, d, X, lv, L, hb, hd, g, R, hL, hz, hc, hX => by
    obtain ⟨la, lm, lc, rfl⟩ : ∃ la lm lc, lv = .slice la lm lc := by
      obtain ⟨a, n', cap, e, _⟩ := R.row
      exact ⟨_, _, _, e⟩
    obtain ⟨y, hy⟩ : ∃ y, y = yv wb nb lb := ⟨_, rfl⟩
    rw [← hy]
    obtain ⟨wf, yb, hyv⟩ : ∃ wf yb, y = .func wf #[] yb := ⟨_, _, hy⟩
    have HY := hidi hy
    subst hyv
    clear hy
    have hs := hb.size
    obtain ⟨W0, hW0⟩ : ∃ W0, W0 = ((W.alloc (.cells #[.slice la lm lc] 45)).alloc (.cells #[.func wf #[] yb] 63)).alloc (.cells #[.bool false] 4) := ⟨_, rfl⟩
    have F0 := hidi (show FS T W (.func wf #[] yb) d L d L L 0 W0 from by
      obtain ⟨a1, a2, a3⟩ := two_alloc W (.cells #[.slice la lm lc] 45) (.cells #[.func wf #[] yb] 63)
      have ba := two_below W (.cells #[.slice la lm lc] 45) (.cells #[.func wf #[] yb] 63)
      have bb : Below ((W.alloc (.cells #[.slice la lm lc] 45)).alloc (.cells #[.func wf #[] yb] 63)).heap.size ((W.alloc (.cells #[.slice la lm lc] 45)).alloc (.cells #[.func wf #[] yb] 63)) W0 := by rw [hW0]; exact (Below.refl _ _).alloc (Nat.le_refl _) _
      have be : Below W.heap.size W W0 := ba.trans (bb.mono (by omega))
      refine ⟨hd, Nat.le_refl _, fun F _ => Iff.rfl, Al.start L, be, ⟨_, later_at a1 bb, R.below be⟩, later_at a2 bb, ?_, hL, hz⟩
      rw [hW0, ← a3]
      exact heap_alloc_new _ _)
    have FIN := hidi (fun (W' W2 : World) (Y : List Ml) (b : Bool) (be : Below W.heap.size W W') (b3 : W'.heap[W.heap.size + 2]? = some (.cells #[.bool false] 4 (0, 0))) (kn : KN w₀.heap.size (Xg lb wb) W' W2) (g2 : GS w₀.heap.size nb lb wb (X ++ Y) W2) (al : All T (Mt L d) (Y.map (·.1))) => fr_end (B3 := W.heap.size + 2) g hs be kn g2 al (by omega) b3 b)
    have NONE := hidi (fun (W' : World) (be : Below W.heap.size W W') (b3 : W'.heap[W.heap.size + 2]? = some (.cells #[.bool false] 4 (0, 0))) (al : All T (Mt L d) []) => FIN.out W' W' [] true be b3 (KN.refl W') (by rw [List.append_nil]; exact g.below be) al)
    have HH := hidi (And.intro h (And.intro hb (And.intro hd (And.intro g (And.intro hc (And.intro hX hs))))))
    clear h hb hd g R hL hz hc hX hs
    unfold ptr at *
    refine (callsIn_wide (n := 5)).1 ?_
    refine callsIn_of_wp_marks Tryz.func57 rfl trivial ?_ rfl
    simp only [Tryz.ntmps57, List.size_toArray, List.length_cons, List.length_nil, Nat.reduceAdd, Nat.reduceSub, Array.replicate_succ, Array.replicate_zero, List.push_toArray, List.append_toArray, List.nil_append, List.cons_append]
    refine wpIn_wide.2 ?_
    go_upto_region 1 with fail
    rw [← hW0]
    clear hW0
    refine wp_scope_again 0 (JJ T W wf yb d L la lm lc) (fun a _ => cntp T (a.tmps.getD 0 undef)) (jj_go d L rfl F0.out) ?_
    · intro a W' hJ
      unfold JJ at hJ
      obtain ⟨q, Lq, u, rfl, F⟩ := hJ
      have f := F.out
      have tm := HH.out.1.tm.below (HH.out.2.1.trans (f.be.mono HH.out.2.2.2.2.2.2))
      have fd := tm.nd q f.qT
      have fm := (tm.inv.le q.s (List.mem_map_of_mem f.qT)).1
      have fo := tm.ok q f.qT
      have el := edge_len q.s fm
      obtain ⟨qa, qc, hlv⟩ : ∃ qa qc, q.lv = .slice qa q.s.m qc := own_sl fd.lv
      have c1 : W'.cell? ⟨q.s.p, 0, none⟩ = some (.slice qa q.s.m qc) := by rw [← hlv]; exact box_cells fd.at_ 0 _ rfl
      have hT := HH.out.1
      have LVL := hidi (fun (W2 : World) (be : Below W.heap.size W W2) (i : Nat) (x : ByteArray) (hx : q.s.edge[i]? = some x) => (show ∃ g, qa = some ⟨g, 0, none⟩ ∧ q.s.m ≤ qc ∧ W2.cell? ⟨g, i, none⟩ = some (.string x) from by
        have o2 := ((hT.tm.below (HH.out.2.1.trans (be.mono HH.out.2.2.2.2.2.2))).nd q f.qT).lv
        rw [hlv] at o2
        rcases o2.2 with ⟨_, e0⟩ | ⟨g, cap, cur, hv, _, hg, h4, _, _, _⟩
        · have := (List.getElem?_eq_some_iff.1 hx).1; omega
        · simp only [Value.slice.injEq] at hv
          obtain ⟨rfl, -, rfl⟩ := hv
          refine ⟨g, rfl, h4, ?_⟩
          obtain ⟨a', n', cap', e, _, _, hrow⟩ := row_own o2
          obtain ⟨g', o', e', _, hc⟩ := hrow (fun e => by rw [e] at hx; simp at hx)
          simp only [Value.slice.injEq] at e
          rw [e'] at e
          simp only [Option.some.injEq, Addr.mk.injEq] at e
          obtain ⟨⟨rfl, rfl, -⟩, -⟩ := e
          have := hc i x hx
          rwa [Nat.zero_add] at this))
      have EDG := hidi (And.intro el (And.intro fm (And.intro fo.2 f.qT)))
      clear f tm fd fm fo el hlv hT F0
      go_wp2_with fail
      go_loopg [8, 17, 21, 25, 33] q.s.m (fun gk s8 s17 s21 s25 s33 wx => ∃ (i : Nat) (Li : List ByteArray), i + gk = q.s.m ∧ s17 = .int .i64 i ∧ Hid (FS T W (.func wf #[] yb) d L q Lq Li i wx))
      case atStart => exact ⟨0, Lq, by omega, rfl, F⟩
      case round =>
        obtain ⟨i, Li, hi, rfl, G⟩ := hrel
        obtain ⟨lvi, b1, R⟩ := G.out.b1
        have e3f := box_frozen G.out.b3 0
        have e3 := box_cells G.out.b3 0 _ rfl
        have e2 := box_cells G.out.b2 0 _ rfl
        have EXT := hidi (fun (Y : List Msg) (al : All T (Mt Lq q) Y) => (show All T (Mt L d) Y from al.ext G.out.eq))
        have NN := hidi (fun (al : All T (Mt Lq q) []) => NONE.out wr G.out.be G.out.b3 (EXT.out _ al))
        have GX := hidi (HH.out.2.2.2.1.below G.out.be)
        have HB := hidi (HH.out.2.1.trans (G.out.be.mono HH.out.2.2.2.2.2.2))
        have XB : Hid (X.length ≤ 700000000 ∧ T.length ≤ 400 ∧ T.length * (T.length * T.length + 1) ≤ 70000000) := by
          have hX := HH.out.2.2.2.2.2.1
          have hf := HH.out.1.few
          refine ⟨by omega, hf, ?_⟩
          have h1 := Nat.mul_le_mul hf hf
          have h2 := Nat.mul_le_mul hf (Nat.add_le_add_right h1 1)
          omega
        have TL := hidi (tell_any HH.out.1 (cnt T q) wr q X HB.out EDG.out.2.2.2 GX.out (Nat.le_refl _) (by have := XB.out; have h3 := Nat.mul_le_mul_right (T.length * T.length + 1) (cnt_le (T := T) (d := q)); omega))
        rw [← HY.out] at TL
        have TE := hidi (fun (W2 : World) (Y : List Ml) (g2 : GS w₀.heap.size nb lb wb (X ++ Y) W2) (al : All T (Mt Lq q) (Y.map (·.1))) (kn : KN w₀.heap.size (Xg lb wb) wr W2) => FIN.out wr W2 Y true G.out.be G.out.b3 kn g2 (EXT.out _ al))
        have B3K := hidi (fun (W2 : World) (kn : KN w₀.heap.size (Xg lb wb) wr W2) => (show W2.heap[W.heap.size + 2]? = some (.cells #[.bool false] 4 (0, 0)) from kn.kn.cl _ _ _ _ G.out.b3 (fun c => by
          obtain ⟨lv', hl0, -⟩ := HH.out.2.2.2.1.l_
          have lbl : lb < W.heap.size := (Array.getElem?_eq_some_iff.1 hl0).1
          have wbl : wb < W.heap.size := (Array.getElem?_eq_some_iff.1 HH.out.2.2.2.1.w_).1
          rcases c with c | c | c <;> omega)))
        by_cases hlt : i < q.s.m
        · have hlt' : (i : Int) < q.s.m := by omega
          obtain ⟨x, hx⟩ : ∃ x, q.s.edge[i]? = some x := ⟨_, List.getElem?_eq_getElem (by have := EDG.out.1; omega)⟩
          obtain ⟨g, rfl, hqc, d0⟩ := LVL.out wr G.out.be i x hx
          have hw1 : IntKind.i64.wrap ((i : Int) + 1) = (i : Int) + 1 := by rw [IntKind.wrap_i64]; have := EDG.out; omega
          have hi0 : (0 : Int) ≤ i := by omega
          cases Li with
          | nil =>
            obtain ⟨a, cap, rfl⟩ := R.row.nil
            have e1 := box_cells b1 0 _ rfl
            have END := hidi (NN.out (G.out.al.stop EDG.out.2.1 hx))
            clear hx
            go_wp2_with fail
            (try simp only [Exit.inBlock, Exit.then, Exit.jump])
            exact ret57 rfl END.out.2 ⟨rfl, END.out.1⟩
          | cons z zs =>
            have RW := hidi R
            obtain ⟨g', o', n5, c5, rfl, hn5, hc5, hgl, z0, -⟩ := R.row.cons
            have e1 := box_cells b1 0 _ rfl
            have e1f := box_frozen b1 0
            have p0 : (0 : Int) < n5 := by omega
            have p1 : (1 : Int) ≤ n5 := by omega
            have p2 : (1 : Int) ≤ c5 := by omega
            have e0 : ((n5 : Int) == 0) = false := by rw [beq_eq_false_iff_ne]; omega
            have HN5 := hidi (And.intro hn5 hc5)
            clear hn5 hc5
            by_cases hz : z = hsh
            · have q1 : (z.toList == (⟨#[35]⟩ : ByteArray).toList) = true := by rw [eq_one]; exact decide_eq_true (un_hsh.2 hz)
              have q1' : (z.toList == [35]) = true := by rw [eq_one']; exact decide_eq_true (un_hsh.2 hz)
              have AH := hidi (fun (Y : List Msg) (al : All T (fun F => q.s.A <+: F) Y) => (show All T (Mt Lq q) Y from (by have := G.out.al; rw [hz] at this; exact this.hash al)))
              clear b1 R RW hx hz
              go_wp2_with (go_at_call 32; refine TL.out.mono ?_; rintro e W2 ⟨rfl, Y, g2, al, kn⟩; have END := hidi (TE.out W2 Y g2 (AH.out _ al) kn); have b3f := box_frozen (B3K.out W2 kn) 0; have b3c := box_cells (B3K.out W2 kn) 0 _ rfl; clear g2 al kn TL TE)
              (try simp only [Exit.inBlock, Exit.then, Exit.jump])
              exact ret57 rfl END.out.2 ⟨rfl, END.out.1⟩
            · have q1 : (z.toList == (⟨#[35]⟩ : ByteArray).toList) = false := by rw [eq_one]; exact decide_eq_false (fun c => hz (un_hsh.1 c))
              have q1' : (z.toList == [35]) = false := by rw [eq_one']; exact decide_eq_false (fun c => hz (un_hsh.1 c))
              obtain ⟨ad, had⟩ : ∃ ad, (if c5 = 1 then (some ⟨g', o', none⟩ : Option Addr) else some ⟨g', o' + 1, none⟩) = ad := ⟨_, rfl⟩
              have NX := hidi (fun (hm : z = pls ∨ z = x) => G.out.next b1 RW.out (G.out.al.next EDG.out.2.1 hx hz hm) (by omega) had)
              by_cases hp : z = pls
              · have q2 : (z.toList == (⟨#[43]⟩ : ByteArray).toList) = true := by rw [eq_one]; exact decide_eq_true (un_pls.2 hp)
                have q2' : (z.toList == [43]) = true := by rw [eq_one']; exact decide_eq_true (un_pls.2 hp)
                have FX := hidi (NX.out (.inl hp))
                clear b1 R RW hx hz hp NX
                go_wp2_with fail
                go_roundg (gk - 1)
                case measure => omega
                case rel => exact ⟨i + 1, zs, by omega, rfl, FX⟩
              · have q2 : (z.toList == (⟨#[43]⟩ : ByteArray).toList) = false := by rw [eq_one]; exact decide_eq_false (fun c => hp (un_pls.1 c))
                have q2' : (z.toList == [43]) = false := by rw [eq_one']; exact decide_eq_false (fun c => hp (un_pls.1 c))
                by_cases hzx : z = x
                · have q3 : (z.toList == x.toList) = true := by rw [eq_two]; exact decide_eq_true (by rw [hzx])
                  have FX := hidi (NX.out (.inr hzx))
                  clear b1 R RW hx hz hp NX hzx
                  go_wp2_with fail
                  go_roundg (gk - 1)
                  case measure => omega
                  case rel => exact ⟨i + 1, zs, by omega, rfl, FX⟩
                · have q3 : (z.toList == x.toList) = false := by rw [eq_two]; exact decide_eq_false (fun c => hzx (un_inj c))
                  have END := hidi (NN.out (G.out.al.off EDG.out.2.1 hx hz hp hzx))
                  clear b1 R RW hx hz hp NX hzx
                  go_wp2_with fail
                  (try simp only [Exit.inBlock, Exit.then, Exit.jump])
                  exact ret57 rfl END.out.2 ⟨rfl, END.out.1⟩
        · have him : i = q.s.m := by omega
          have hlt' : ¬ (i : Int) < q.s.m := by omega
          have AL : Al q Lq Li q.s.m := by have := G.out.al; rwa [him] at this
          have GI := hidi (give_any (X := X) HH.out.1 HB.out EDG.out.2.2.2 GX.out (by have := XB.out; omega))
          rw [← HY.out] at GI
          cases Li with
          | nil =>
            obtain ⟨a, cap, rfl⟩ := R.row.nil
            have e1 := box_cells b1 0 _ rfl
            have AO := hidi (fun (Y : List Msg) (hY : Y = q.ms.toList) => AL.own HH.out.1 EDG.out.2.2.2 hY)
            clear AL
            go_wp2_with (go_at_call 53; refine GI.out.mono ?_; rintro e W2 ⟨rfl, Y, g2, ey, kn⟩; have END := hidi (TE.out W2 Y g2 (AO.out _ ey) kn); have b3f := box_frozen (B3K.out W2 kn) 0; have b3c := box_cells (B3K.out W2 kn) 0 _ rfl; clear g2 ey kn GI TE)
            (try simp only [Exit.inBlock, Exit.then, Exit.jump])
            exact ret57 rfl END.out.2 ⟨rfl, END.out.1⟩
          | cons z zs =>
            have RW := hidi R
            obtain ⟨g', o', n5, c5, rfl, hn5, hc5, hgl, z0, -⟩ := R.row.cons
            have e1 := box_cells b1 0 _ rfl
            have p0 : (0 : Int) < n5 := by omega
            have e0 : ((n5 : Int) == 0) = false := by rw [beq_eq_false_iff_ne]; omega
            have HN5 := hidi (And.intro hn5 hc5)
            clear hn5 hc5
            by_cases hz : z = hsh
            · have q1 : (z.toList == (⟨#[35]⟩ : ByteArray).toList) = true := by rw [eq_one]; exact decide_eq_true (un_hsh.2 hz)
              have q1' : (z.toList == [35]) = true := by rw [eq_one']; exact decide_eq_true (un_hsh.2 hz)
              have AH := hidi (fun (Y : List Msg) (al : All T (fun F => q.s.A <+: F) Y) => (show All T (Mt Lq q) Y from (by have := AL; rw [hz] at this; exact this.hash al)))
              clear b1 R RW hz AL
              go_wp2_with (go_at_call 32; refine TL.out.mono ?_; rintro e W2 ⟨rfl, Y, g2, al, kn⟩; have END := hidi (TE.out W2 Y g2 (AH.out _ al) kn); have b3f := box_frozen (B3K.out W2 kn) 0; have b3c := box_cells (B3K.out W2 kn) 0 _ rfl; clear g2 al kn TL TE)
              (try simp only [Exit.inBlock, Exit.then, Exit.jump])
              exact ret57 rfl END.out.2 ⟨rfl, END.out.1⟩
            · have q1 : (z.toList == (⟨#[35]⟩ : ByteArray).toList) = false := by rw [eq_one]; exact decide_eq_false (fun c => hz (un_hsh.1 c))
              have q1' : (z.toList == [35]) = false := by rw [eq_one']; exact decide_eq_false (fun c => hz (un_hsh.1 c))
              by_cases hp : z = pls
              · have q2 : (z.toList == (⟨#[43]⟩ : ByteArray).toList) = true := by rw [eq_one]; exact decide_eq_true (un_pls.2 hp)
                have q2' : (z.toList == [43]) = true := by rw [eq_one']; exact decide_eq_true (un_pls.2 hp)
                have IO := hidi (inorder_any (HH.out.1.tm.below HB.out) EDG.out.2.2.2 (by have := XB.out; omega))
                have HZ := hidi hz
                have HP := hidi hp
                have HB1 := hidi b1
                have HAL := hidi AL
                clear b1 R hz hp AL
                go_wp2_with (go_at_call 54; refine IO.out.mono ?_; rintro e w2 ⟨bs, K, rfl, ka, ko, hbs, hb2⟩; have HK := hidi (And.intro ka (And.intro ko (And.intro hbs hb2))); clear ka ko hbs hb2 IO)
                refine (wpIn_wide (n := 5)).1 ?_
                obtain ⟨ka, ko, hbs, hb2⟩ := HK.out
                have hsW := HH.out.2.2.2.2.2.2
                have sB := G.out.be.size
                have B3l : W.heap.size + 2 < wr.heap.size := (Array.getElem?_eq_some_iff.1 G.out.b3).1
                obtain ⟨lv', hl0, -⟩ := HH.out.2.2.2.1.l_
                have lbl : lb < W.heap.size := (Array.getElem?_eq_some_iff.1 hl0).1
                have wbl : wb < W.heap.size := (Array.getElem?_eq_some_iff.1 HH.out.2.2.2.1.w_).1
                have s2 := hb2.size
                have hKl : K.length ≤ T.length := by have := ko.len; rwa [List.length_map] at this
                have fj0 : FJ w₀ nb lb wb T (fun k F => mtb (z :: zs) (F.drop k.s.top) = true) X wr [] w2 := ⟨⟨[], by rw [List.append_nil]; exact GX.out.below hb2, blkp_nil _, by simp⟩, KN.of hb2 (by omega)⟩
                have HN := hidi (And.intro hsW (And.intro sB (And.intro lbl (And.intro wbl (And.intro s2 (And.intro hKl B3l))))))
                have IHF := hidi (fun (W' : World) (k : Kd T q) (Y : List Ml) (kn : KN w₀.heap.size (Xg lb wb) wr W') (gY : GS w₀.heap.size nb lb wb (X ++ Y) W') (hY : Y.length ≤ T.length * T.length) => find_any HH.out.1 n W' k.1 (X ++ Y) _ (z :: zs) (HB.out.trans kn.kn.be) k.2.1 gY (RW.out.kn kn GX.out) G.out.ok.1 G.out.ok.2 (by
                  have h1 := cnt_kid EDG.out.2.2.2 k.2.1 (k.2.2.lt (HH.out.1.tm.inv.le _ (List.mem_map_of_mem k.2.1)).1) k.2.2.goes
                  have h2 := G.out.cq
                  have h3 := HH.out.2.2.2.2.1
                  omega) (by
                  have h3 := HH.out.2.2.2.2.2.1
                  rw [Nat.succ_mul] at h3
                  rw [List.length_append]
                  omega))
                rw [← HY.out] at IHF
                refine wpIn_rangeFunc_ownG rfl (by omega) (gf := 81) (lb := #[ptr bs]) rfl trivial (enters_of Tryz.func81 (by kernel_rfl) rfl)
                  (vals81_stops (n₀ := w₀.heap.size) (X := Xg lb wb) ka (by have := XB.out; omega) (fun j hj c => by rcases c with c | c | c <;> omega) (fun c => by rcases c with c | c | c <;> omega) 4 (by omega)) Kn_t (fun W l o o' a b c e => Kn_b (by omega) W l o o' a b c e) (Below.refl _ _) (fun _ => rfl)
                  (fun pre W' => FJ w₀ nb lb wb T (fun k F => mtb (z :: zs) (F.drop k.s.top) = true) X wr (pre.map (·.1)) W') (fun _ _ _ => False)
                  (FJ.own (by omega) (by omega)) (fun _ _ _ _ _ hs _ _ => hs) fj0
                  (fun x => { tmps := #[Value.pointer (some { block := q.s.p, off := 0 }), Value.slice la lm lc, Value.func wf #[] yb, undef, Value.pointer (some { block := W.heap.size, off := 0 }), Value.pointer (some { block := W.heap.size + 1, off := 0 }), Value.pointer (some { block := W.heap.size + 2, off := 0 }), u 7, u8, enc x, u 10, u 11, Value.pointer (some { block := q.s.p, off := 0 }), Value.pointer (some { block := q.s.p, off := 0 }), Value.pointer (some { block := q.s.p, off := 0 }), Value.slice qa q.s.m qc, Value.int IntKind.i64 q.s.m, Value.int IntKind.i64 q.s.m, Value.bool false, u19, u20, u21, u22, u23, u24, u25, u26, u27, u28, u29, u30, u31, u32, u33, u34, u35, u36, u37, u38, u39, u40, u41, u42, u43, u44, u45, u46, u47, Value.bool false, Value.slice (some { block := g', off := o' }) n5 c5, Value.int IntKind.i64 n5, Value.bool false, u 52, u 53, u 54, Value.bool false, Value.slice (some { block := g', off := o' }) n5 c5, Value.pointer (some { block := g', off := o' }), Value.string z, Value.bool false, u 60, u 61, u 62, Value.bool true, Value.slice (some { block := g', off := o' }) n5 c5, Value.pointer (some { block := g', off := o' }), Value.string z, Value.bool true, Value.pointer (some { block := q.s.p, off := 0 }), Value.func (Fn.func 81) #[] #[ptr bs], enc x, u 71, u 72, u 73, u 74, u 75, u 76, u 77, u 78, u 79, u 80, u 81, u 82, u 83, u 84, u 85, u 86, u 87, u 88, u 89], defers := [] }) ?assign ?body ?done ?stop
                case assign =>
                  intro l x W K hK
                  unfold enc ptr
                  gi_wp2
                  exact hK
                case stop =>
                  intro D c pre W _ _ h _
                  exact h.elim
                case body =>
                  rintro l pre x W' fj hlt
                  obtain ⟨⟨Y, gY, bk, le⟩, kn⟩ := fj
                  have y1 := box_cells (kn.kn.cl _ _ _ _ HB1.out (fun c => by rcases c with c | c | c <;> omega)) 0 _ rfl
                  have y2 := box_cells (kn.kn.cl _ _ _ _ G.out.b2 (fun c => by rcases c with c | c | c <;> omega)) 0 _ rfl
                  have hpre : (pre.map (·.1)).length ≤ T.length := by rw [List.length_map]; omega
                  have hmm := Nat.mul_le_mul_right T.length hpre
                  have RC := hidi (IHF.out W' x Y kn gY (by omega))
                  have NXT := hidi (fun (W2 : World) (f : FR w₀ nb lb wb T (Mt (z :: zs) x.1) (X ++ Y) W' W2) => (show KeepsFrom w2.heap.size W' W2 ∧ Kn w₀.heap.size (Xg lb wb) W' W2 ∧ FJ w₀ nb lb wb T (fun k F => mtb (z :: zs) (F.drop k.s.top) = true) X wr ((pre ++ [x]).map (·.1)) W2 from by
                    refine ⟨f.kn.from _, f.kn.kn, ?_⟩
                    rw [List.map_append]
                    exact FJ.next kn bk le f (fun F _ => Iff.rfl)))
                  unfold enc ptr
                  unfold ptr at RC
                  clear gY bk le kn hmm hpre
                  gi_wp2_with (refine ⟨trivial, ?_⟩; gi_at_call 57; refine ((callsIn_wide (n := _)).2 RC.out).mono ?_; rintro e W2 ⟨rfl, fr⟩; have FF := hidi (NXT.out W2 fr); clear fr NXT RC)
                  exact opg FF.out
                case done =>
                  rintro D ys W' hD hys fj hK
                  obtain rfl : ys = K := hys
                  obtain ⟨⟨Y, gY, bk, le⟩, kn⟩ := fj
                  have al := EXT.out _ (Al.plus_of HH.out.1 EDG.out.2.2.2 HAL.out HP.out (blkp_all HH.out.1 EDG.out.2.2.2 ko bk))
                  have f3 := B3K.out W' kn
                  have f3f := box_frozen f3 0
                  have f3c := box_cells f3 0 _ rfl
                  obtain ⟨fr, fc⟩ := FIN.out wr W' Y true G.out.be G.out.b3 kn gY al
                  have hK3 : (W'.setCell ⟨W.heap.size + 2, 0, none⟩ (.bool true)).heap[D]? = some (.deferred (some [])) := (heap_set_ne _ (by omega)).trans hK
                  have FRR := hidi (fr_put fr hsW (by omega) hK3)
                  have FC : ((W'.setCell ⟨W.heap.size + 2, 0, none⟩ (.bool true)).putObj D (.deferred none)).cell? ⟨W.heap.size + 2, 0, none⟩ = some (.bool true) := by
                    rw [cell_heap (World.putObj_heap_other (show W.heap.size + 2 ≠ D by omega))]
                    exact fc
                  have HK3 := hidi hK3
                  have HFC := hidi FC
                  clear gY bk le al fr fc hK3 FC
                  go_wp2_with fail
                  (try simp only [Exit.inBlock, Exit.then, Exit.jump])
                  exact ret57d rfl HK3.out HFC.out ⟨rfl, FRR.out⟩
              · have q2 : (z.toList == (⟨#[43]⟩ : ByteArray).toList) = false := by rw [eq_one]; exact decide_eq_false (fun c => hp (un_pls.1 c))
                have q2' : (z.toList == [43]) = false := by rw [eq_one']; exact decide_eq_false (fun c => hp (un_pls.1 c))
                have tmr := HH.out.1.tm.below HB.out
                have oz : okT z := by have := G.out.ok.2 z List.mem_cons_self; unfold okT maxLen; omega
                obtain ⟨nk, kd, k1, k2, k3, k4⟩ := tmr.look EDG.out.2.2.2 oz
                obtain ⟨mo, hmo⟩ : ∃ mo, q.kv = .map mo := by
                  rcases k2.mk with e | ⟨mb, e⟩
                  · exact ⟨_, e⟩
                  · exact ⟨_, e⟩
                have e4 : wr.cell? ⟨q.s.p, 2, none⟩ = some (.map mo) := by rw [← hmo]; exact box_cells (tmr.nd q EDG.out.2.2.2).at_ 2 _ rfl
                have LK2 : ∀ M, (Instr.lookup 73 (.map mo) (.string z) true).run Tryz.prog (wr.drewN M) = .ok (.tuple #[(kd z).getD (.pointer none), .bool (kd z).isSome]) (wr.drewN M) := fun M => by
                  have bd : Below wr.heap.size wr (wr.drewN M) := below_drewN (Below.refl _ _)
                  have := (k2.keep (w' := wr.drewN M) (fun b e => bd.block b (k2.lt e))).look2 Tryz.underlying73 zero60 oz
                  rw [hmo] at this
                  exact this
                have BD := hidi (fun M => (show Below wr.heap.size wr (wr.drewN M) from below_drewN (Below.refl _ _)))
                rcases k4 with ⟨k, hk, ak, hkz⟩ | ⟨hkz, no⟩
                · have hlook : ∀ M, (Instr.lookup 73 (.map mo) (.string z) true).run Tryz.prog (wr.drewN M) = .ok (.tuple #[ptr k.s.p, .bool true]) (wr.drewN M) := fun M => by rw [LK2 M, hkz]; rfl
                  have FG := hidi (fun M => (show FS T W (.func wf #[] yb) d L k (z :: zs) (z :: zs) 0 (wr.drewN M) from by
                    have gb := G.out.below (BD.out M)
                    have ck := cnt_kid EDG.out.2.2.2 hk (ak.2.1.lt (HH.out.1.tm.inv.le _ (List.mem_map_of_mem hk)).1) ak.2.1.goes
                    exact ⟨hk, by have := G.out.cq; omega, fun F hF => (AL.kid HH.out.1 EDG.out.2.2.2 hk hz hp ak F hF).trans (G.out.eq F hF), Al.start _, gb.be, gb.b1, gb.b2, gb.b3, gb.ok⟩))
                  have MU := hidi (show cntp T (ptr k.s.p) < cntp T (ptr q.s.p) from by
                    rw [cntp_of HH.out.1.tm hk, cntp_of HH.out.1.tm EDG.out.2.2.2]
                    exact cnt_kid EDG.out.2.2.2 hk (ak.2.1.lt (HH.out.1.tm.inv.le _ (List.mem_map_of_mem hk)).1) ak.2.1.goes)
                  unfold ptr at *
                  clear b1 R hz hp AL tmr oz k1 k2 k3 hmo LK2 hk ak hkz
                  go_wp2_with fail
                  go_quiet (fail)
                  go_wp2_with fail
                  refine wp_goto ?_
                  (try simp only [Exit.inBlock, Exit.then, Exit.jump])
                  exact ⟨by first | rfl | trivial, jj_go k (z :: zs) rfl (FG.out nq), MU.out⟩
                · have hlook : ∀ M, (Instr.lookup 73 (.map mo) (.string z) true).run Tryz.prog (wr.drewN M) = .ok (.tuple #[.pointer none, .bool false]) (wr.drewN M) := fun M => by rw [LK2 M, hkz]; rfl
                  have ENDN := hidi (fun M => NONE.out (wr.drewN M) (G.out.below (BD.out M)).be (G.out.below (BD.out M)).b3 (EXT.out _ (AL.none HH.out.1 EDG.out.2.2.2 hz hp no)))
                  have f3 := hidi (fun M => (show (wr.drewN M).cell? ⟨W.heap.size + 2, 0, none⟩ = some (.bool false) ∧ (wr.drewN M).frozen? ⟨W.heap.size + 2, 0, none⟩ = false from ⟨box_cells (G.out.below (BD.out M)).b3 0 _ rfl, box_frozen (G.out.below (BD.out M)).b3 0⟩))
                  unfold ptr at *
                  clear b1 R hz hp AL tmr oz k1 k2 k3 hmo LK2 no hkz
                  go_wp2_with fail
                  go_quiet (fail)
                  obtain ⟨f31, f32⟩ := f3.out nq
                  go_wp2_with fail
                  (try simp only [Exit.inBlock, Exit.then, Exit.jump])
                  exact ret57 rfl (ENDN.out nq).2 ⟨rfl, (ENDN.out nq).1⟩
end Go.Proofs.YtipagdhoeocjeaaGreat.Li
