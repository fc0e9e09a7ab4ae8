import Derived.Test.YtipagdhoeocjeaaGreatSha
import Derived.Test.YtipagdhoeocjeaaGreatKjb
namespace Go.Proofs.YtipagdhoeocjeaaGreat.Li
open Go Go.RowKit Go.Shelf
set_option linter.unusedSimpArgs false
set_option linter.unusedVariables false
attribute [local go_sem] Oper.semAt_some
variable {tb r : Nat} {nf nn : Int} {T : List Fn}
/-- Behind the first region. -/
theorem sq_start {n₀ B2 B3 : Nat} {f : Fn} {ul ue : Value} {w : World}
    (b2 : w.heap[B2]? = some (.cells #[.slice none 0 0, .bool false, .slice none 0 0, .slice none 0 0] 49 (0, 0))) (b3 : w.heap[B3]? = some (.cells #[ul, ue, .slice none 0 0, .slice none 0 0] 49 (0, 0))) (ne : B2 ≠ B3) (lo : n₀ ≤ B2 ∧ n₀ ≤ B3)
    (lv : w.ownsRow n₀ 9 1 ul f.s.m (f.s.edge.map Value.string)) (hr : ue = .bool f.ms.isSome) :
    Sq n₀ B2 B3 T f ul ue (.slice none 0 0) [] [] (fun k => ul.ownBlock = some k) w := by
  have n2 : ∀ k, ul.ownBlock = some k → ∀ cs, w.heap[k]? ≠ some (.cells cs 49 (0, 0)) := fun k e cs q => by
    obtain ⟨cur, c⟩ := own_lt lv e
    rw [c] at q; cases q
  refine ⟨b2, b3, ne, lo, own0 lv, hr, fun g e => e, fun k e => ?_, ⟨fun c => n2 _ c _ b2, fun c => n2 _ c _ b3⟩, ⟨rfl, .inl ⟨rfl, rfl⟩⟩, fun g e => by simp [Value.ownBlock] at e, rfl, fun i q v a b => by simp at a⟩
  obtain ⟨cur, c⟩ := own_lt lv e
  exact ⟨row_ge lv e, _, _, c⟩
theorem clone_any {w : World} {lv : Value} {m : Nat} {L : List ByteArray} (R : w.ownsRow 0 9 1 lv m (L.map Value.string)) (hm : m ≤ 1000001) :
    Calls Tryz.prog 56 #[lv] w fun e w' => ∃ v', e = .returned v' ∧ w'.ownsRow w.heap.size 9 1 v' m (L.map Value.string) ∧ Below w.heap.size w w' := by
  rcases R.2 with ⟨e, e0⟩ | ⟨g, cap, cur, e, _⟩
  · subst e
    refine (Tryz.slices_Clone_string_nil 0 0 w).mono ?_
    rintro e w' ⟨rfl, rfl⟩
    exact ⟨_, rfl, row_base R (fun g hg => by simp [Value.ownBlock] at hg), Below.refl _ _⟩
  · subst e
    have := clone_row (k := 0) (n := m) R (by omega) hm cap
    rw [List.drop_zero, List.take_of_length_le (by have := R.1; simp at this; omega)] at this
    exact this
/-- What a round's body knows. -/
structure Sh1 (w0 : World) (B2 B3 : Nat) (T : List Fn) (f : Fn) (ul ue : Value) (K : List Fn) (W : World) : Prop where
  ex : ∃ vk vs V, Sq w0.heap.size B2 B3 T f ul ue vk K vs V W
  be : Below w0.heap.size w0 W
theorem Sh1.own {w0 w1 : World} {B2 B3 : Nat} {f : Fn} {ul ue : Value} (h01 : w0.heap.size ≤ w1.heap.size) : OwnFrom w1.heap.size (fun (pre : List (Kd T f)) W => Sh1 w0 B2 B3 T f ul ue (pre.map (·.1)) W) := by
  rintro s A B row ⟨⟨vk, vs, V, h⟩, be⟩ hg hr
  refine ⟨⟨vk, vs, V, h.keep (fun k hk => ?_)⟩, ?_⟩
  · obtain ⟨_, cs, t, e⟩ := h.cells hk
    refine hg.block k (Array.getElem?_eq_some_iff.1 e).1 (fun q => ?_)
    obtain ⟨_, o, e2, e3⟩ := hr k q.symm
    rw [e] at e2
    cases e2
    cases e3
  · exact be.grown hg be.size (fun k e => by have := (hr k e).1; omega)
theorem s_end_a {w w1 wb : World} {f : Fn} {ul ue : Value} {bu : Nat} (b0 : Below w.heap.size w w1) (hc : Below w1.heap.size w1 wb) (hu : wb.ownsRow bu 9 1 ul f.s.m (f.s.edge.map Value.string)) (hbu : w.heap.size ≤ bu) (C : Array Value) (hC : C = #[ul, ue, .slice none 0 0, .slice none 0 0]) :
    Below w1.heap.size w1 (wb.alloc (.cells C 49)) ∧ (wb.alloc (.cells C 49)).heap[wb.heap.size]? = some (.cells #[ul, ue, .slice none 0 0, .slice none 0 0] 49 (0, 0)) ∧ w1.heap.size ≤ wb.heap.size ∧ (wb.alloc (.cells C 49)).ownsRow w.heap.size 9 1 ul f.s.m (f.s.edge.map Value.string) := by
  subst hC
  exact ⟨hc.alloc hc.size _, heap_alloc_new _ _, hc.size, (row_base hu (fun g e => by have := row_ge hu e; omega)).alloc _⟩
theorem s_end_b {w w1 wb : World} {f : Fn} {ul ue : Value} {bu b : Nat} {c0 c1 c2 c3 : Value} (b0 : Below w.heap.size w w1) (hc : Below w1.heap.size w1 wb) (hb : w1.heap.size ≤ b) (zb : wb.heap[b]? = some (.cells #[c0, c1, c2, c3] 49 (0, 0))) (hu : wb.ownsRow bu 9 1 ul f.s.m (f.s.edge.map Value.string)) (hbu : w.heap.size ≤ bu) :
    Below w1.heap.size w1 ((((wb.setCell ⟨b, 0, none⟩ ul).setCell ⟨b, 1, none⟩ ue).setCell ⟨b, 2, none⟩ (.slice none 0 0)).setCell ⟨b, 3, none⟩ (.slice none 0 0)) ∧ ((((wb.setCell ⟨b, 0, none⟩ ul).setCell ⟨b, 1, none⟩ ue).setCell ⟨b, 2, none⟩ (.slice none 0 0)).setCell ⟨b, 3, none⟩ (.slice none 0 0)).heap[b]? = some (.cells #[ul, ue, .slice none 0 0, .slice none 0 0] 49 (0, 0)) ∧ w1.heap.size ≤ b ∧ ((((wb.setCell ⟨b, 0, none⟩ ul).setCell ⟨b, 1, none⟩ ue).setCell ⟨b, 2, none⟩ (.slice none 0 0)).setCell ⟨b, 3, none⟩ (.slice none 0 0)).ownsRow w.heap.size 9 1 ul f.s.m (f.s.edge.map Value.string) := by
  have cc : Ch (fun j => j = b) wb ((((wb.setCell ⟨b, 0, none⟩ ul).setCell ⟨b, 1, none⟩ ue).setCell ⟨b, 2, none⟩ (.slice none 0 0)).setCell ⟨b, 3, none⟩ (.slice none 0 0)) := (((ch_set b _ _).then (ch_set b _ _)).then (ch_set b _ _)).then (ch_set b _ _)
  have ou := own_ch (row_base (B' := w.heap.size) hu (fun g e => by have := row_ge hu e; omega)) cc (fun g e q => by obtain ⟨cur, c⟩ := own_lt hu e; rw [q, zb] at c; cases c)
  refine ⟨⟨cc.os.trans hc.os, cc.tape.trans hc.tape, cc.output.trans hc.output, Nat.le_trans hc.size cc.size, fun k hk => (cc.block k (by have := hc.size; omega) (by omega)).trans (hc.block k hk)⟩, ?_, hb, ou⟩
  rw [heap_set (heap_set (heap_set (heap_set zb ul) ue) (.slice none 0 0)) (.slice none 0 0)]
  rfl
/-- Behind the call and the literal, in either order. -/
def PPs (n₀ B2 B3 : Nat) (T : List Fn) (f : Fn) (ul ue vk : Value) (K : List Fn) (vs : List V3) (V Vn : Nat → Prop) (q : Fn) (u : V3) (W0 wn : World) (N : Nat) : Prop :=
  Sq n₀ B2 B3 T f ul ue vk K vs V wn ∧ ShAt wn Vn T q u ∧ VC W0.heap.size wn Vn ∧ wn.heap[N]? = some (.cells #[.slice none 0 0, .bool false, .slice none 0 0, .slice none 0 0] 49 (0, 0)) ∧ Below W0.heap.size W0 wn
section
variable {n₀ B2 B3 : Nat} {f : Fn} {ul ue vk : Value} {K : List Fn} {vs : List V3} {V Vn : Nat → Prop} {q : Fn} {u : V3} {W0 wp : World}
theorem ph_a (h : Sq n₀ B2 B3 T f ul ue vk K vs V W0) (sr : ShR W0 wp T q u Vn) : wp.cell? ⟨B3, 3, none⟩ = some vk ∧ (wp.alloc (.cells #[.slice none 0 0, .bool false, .slice none 0 0, .slice none 0 0] 49)).cell? ⟨B3, 3, none⟩ = some vk ∧ PPs n₀ B2 B3 T f ul ue vk K vs V Vn q u W0 (wp.alloc (.cells #[.slice none 0 0, .bool false, .slice none 0 0, .slice none 0 0] 49)) wp.heap.size := by
  have h1 := h.below sr.be
  have ba := (Below.refl wp.heap.size wp).alloc (Nat.le_refl _) (.cells #[.slice none 0 0, .bool false, .slice none 0 0, .slice none 0 0] 49)
  have h2 := h1.below ba
  exact ⟨box_cells h1.b3 3 _ rfl, box_cells h2.b3 3 _ rfl, h2, sr.sh.keep (fun g e => ba.block g (sr.vc.lt e)) (fun _ e => e), sr.vc.keep (fun g e => ba.block g (sr.vc.lt e)), heap_alloc_new _ _, sr.be.alloc sr.be.size _⟩
theorem ph_b (h : Sq n₀ B2 B3 T f ul ue vk K vs V W0) (sr : ShR (W0.alloc (.cells #[.slice none 0 0, .bool false, .slice none 0 0, .slice none 0 0] 49)) wp T q u Vn) : wp.cell? ⟨B3, 3, none⟩ = some vk ∧ PPs n₀ B2 B3 T f ul ue vk K vs V Vn q u W0 wp W0.heap.size := by
  have ba := (Below.refl W0.heap.size W0).alloc (Nat.le_refl _) (.cells #[.slice none 0 0, .bool false, .slice none 0 0, .slice none 0 0] 49)
  have bb := ba.trans (sr.be.mono ba.size)
  have h2 := h.below bb
  exact ⟨box_cells h2.b3 3 _ rfl, h2, sr.sh, fun k hk => by obtain ⟨a, b⟩ := sr.vc k hk; exact ⟨by have := ba.size; omega, b⟩, (sr.be.block _ (by simp)).trans (heap_alloc_new _ _), bb⟩
theorem fr_append {ka : Option Addr} {kc g c : Nat} {w wa : World} (h : Sq n₀ B2 B3 T f ul ue (.slice ka vs.length kc) K vs V w) (ro : wa.ownsRow 0 49 4 (.slice (some ⟨g, 0, none⟩) (vs.length + 1) c) (vs.length + 1) (shc vs ++ [.slice none 0 0, .bool false, .slice none 0 0, .slice none 0 0])) (rc : Ch (fun j => (Value.slice ka vs.length kc).ownBlock = some j) w wa) (rg : (Value.slice ka vs.length kc).ownBlock = some g ∨ w.heap.size ≤ g) :
    wa.heap[B3]? = some (.cells #[ul, ue, .slice none 0 0, .slice ka vs.length kc] 49 (0, 0)) ∧ g ≠ B3 ∧
    (wa.cell? ⟨g, vs.length * 4, none⟩ = some (.slice none 0 0) ∧ wa.cell? ⟨g, vs.length * 4 + 1, none⟩ = some (.bool false) ∧ wa.cell? ⟨g, vs.length * 4 + 2, none⟩ = some (.slice none 0 0) ∧ wa.cell? ⟨g, vs.length * 4 + 3, none⟩ = some (.slice none 0 0) ∧ wa.frozen? ⟨g, vs.length * 4, none⟩ = false ∧ wa.frozen? ⟨g, vs.length * 4 + 1, none⟩ = false ∧ wa.frozen? ⟨g, vs.length * 4 + 2, none⟩ = false ∧ wa.frozen? ⟨g, vs.length * 4 + 3, none⟩ = false ∧ wa.cell? ⟨B3, 3, none⟩ = some (.slice ka vs.length kc) ∧ wa.frozen? ⟨B3, 3, none⟩ = false) ∧
    (∀ v, (wa.setCell ⟨B3, 3, none⟩ v).cell? ⟨g, vs.length * 4, none⟩ = some (.slice none 0 0) ∧ (wa.setCell ⟨B3, 3, none⟩ v).cell? ⟨g, vs.length * 4 + 1, none⟩ = some (.bool false) ∧ (wa.setCell ⟨B3, 3, none⟩ v).cell? ⟨g, vs.length * 4 + 2, none⟩ = some (.slice none 0 0) ∧ (wa.setCell ⟨B3, 3, none⟩ v).cell? ⟨g, vs.length * 4 + 3, none⟩ = some (.slice none 0 0) ∧ (wa.setCell ⟨B3, 3, none⟩ v).frozen? ⟨g, vs.length * 4, none⟩ = false ∧ (wa.setCell ⟨B3, 3, none⟩ v).frozen? ⟨g, vs.length * 4 + 1, none⟩ = false ∧ (wa.setCell ⟨B3, 3, none⟩ v).frozen? ⟨g, vs.length * 4 + 2, none⟩ = false ∧ (wa.setCell ⟨B3, 3, none⟩ v).frozen? ⟨g, vs.length * 4 + 3, none⟩ = false) ∧
    (∀ a b d e, ((((wa.setCell ⟨g, vs.length * 4, none⟩ a).setCell ⟨g, vs.length * 4 + 1, none⟩ b).setCell ⟨g, vs.length * 4 + 2, none⟩ d).setCell ⟨g, vs.length * 4 + 3, none⟩ e).cell? ⟨B3, 3, none⟩ = some (.slice ka vs.length kc) ∧ ((((wa.setCell ⟨g, vs.length * 4, none⟩ a).setCell ⟨g, vs.length * 4 + 1, none⟩ b).setCell ⟨g, vs.length * 4 + 2, none⟩ d).setCell ⟨g, vs.length * 4 + 3, none⟩ e).frozen? ⟨B3, 3, none⟩ = false) := by
  have lt3 := (Array.getElem?_eq_some_iff.1 h.b3).1
  have hg : g ≠ B3 := fun e => by
    rcases rg with q | q
    · exact (h.rV g q).2.2 e
    · omega
  have hb := (rc.block B3 lt3 (fun q => (h.rV B3 q).2.2 rfl)).trans h.b3
  have hl := shc_len vs
  have cs : ∀ (wx : World), wx.ownsRow 0 49 4 (.slice (some ⟨g, 0, none⟩) (vs.length + 1) c) (vs.length + 1) (shc vs ++ [.slice none 0 0, .bool false, .slice none 0 0, .slice none 0 0]) → wx.cell? ⟨g, vs.length * 4, none⟩ = some (.slice none 0 0) ∧ wx.cell? ⟨g, vs.length * 4 + 1, none⟩ = some (.bool false) ∧ wx.cell? ⟨g, vs.length * 4 + 2, none⟩ = some (.slice none 0 0) ∧ wx.cell? ⟨g, vs.length * 4 + 3, none⟩ = some (.slice none 0 0) ∧ wx.frozen? ⟨g, vs.length * 4, none⟩ = false ∧ wx.frozen? ⟨g, vs.length * 4 + 1, none⟩ = false ∧ wx.frozen? ⟨g, vs.length * 4 + 2, none⟩ = false ∧ wx.frozen? ⟨g, vs.length * 4 + 3, none⟩ = false := fun wx r => by
    refine ⟨?_, ?_, ?_, ?_, r.frozenAt _, r.frozenAt _, r.frozenAt _, r.frozenAt _⟩
    all_goals
      rw [r.cellAt _ (by omega), List.getElem?_append_right (by omega), hl]
      simp
  obtain ⟨x0, x1, x2, x3, y0, y1, y2, y3⟩ := cs wa ro
  refine ⟨hb, hg, ⟨x0, x1, x2, x3, y0, y1, y2, y3, box_cells hb 3 _ rfl, box_frozen hb 3⟩, fun v => cs _ (own_blk ro (fun j e => by cases e; exact heap_set_ne _ hg)), fun a b d e => ?_⟩
  have q : ((((wa.setCell ⟨g, vs.length * 4, none⟩ a).setCell ⟨g, vs.length * 4 + 1, none⟩ b).setCell ⟨g, vs.length * 4 + 2, none⟩ d).setCell ⟨g, vs.length * 4 + 3, none⟩ e).heap[B3]? = some (.cells #[ul, ue, .slice none 0 0, .slice ka vs.length kc] 49 (0, 0)) := by
    rw [heap_set_ne _ (fun e => hg e.symm), heap_set_ne _ (fun e => hg e.symm), heap_set_ne _ (fun e => hg e.symm), heap_set_ne _ (fun e => hg e.symm)]
    exact hb
  exact ⟨box_cells q 3 _ rfl, box_frozen q 3⟩
theorem body_end {w0 W wn wa w2 : World} {pre : List (Kd T f)} {x : Kd T f} {N g c B : Nat} (sq0 : Sq w0.heap.size B2 B3 T f ul ue vk (pre.map (·.1)) vs V W.drew) (be0 : Below w0.heap.size w0 W) (pp : PPs w0.heap.size B2 B3 T f ul ue vk (pre.map (·.1)) vs V Vn x.1 u W.drew wn N)
    (c1 : Ch (fun j => vk.ownBlock = some j) wn wa) (gg : vk.ownBlock = some g ∨ wn.heap.size ≤ g) (sn : Sn wa w2 g vs.length B3 ul ue (.slice (some ⟨g, 0, none⟩) (vs.length + 1) c) (shc vs) u) :
    KeepsFrom B W w2 ∧ Kn w0.heap.size (fun _ t => t = 49) W w2 ∧ Sh1 w0 B2 B3 T f ul ue ((pre ++ [x]).map (·.1)) w2 := by
  obtain ⟨sq, sh, vn, hz, be⟩ := pp
  have hh : W.drew.heap = W.heap := rfl
  rw [hh] at vn be
  obtain ⟨sq2, cc⟩ := sq.step sh vn (fun k hk => by
    obtain ⟨_, cs, t, e⟩ := sq0.cells hk
    exact (Array.getElem?_eq_some_iff.1 e).1) be0.size c1 rfl gg sn
  have cellsOf : ∀ k, (k = B3 ∨ vk.ownBlock = some k) → w0.heap.size ≤ k ∧ ∃ cs, W.heap[k]? = some (.cells cs 49 (0, 0)) := fun k hk => by
    rcases hk with rfl | e
    · exact ⟨sq0.lo.2, _, sq0.b3⟩
    · obtain ⟨cur, q⟩ := own_lt sq0.row e
      exact ⟨row_ge sq0.row e, _, q⟩
  have blk : ∀ k, k < W.heap.size → ¬ (k = B3 ∨ vk.ownBlock = some k) → w2.heap[k]? = W.heap[k]? := fun k hk hn => (cc.block k (Nat.lt_of_lt_of_le hk (show W.heap.size ≤ wn.heap.size from be.size)) hn).trans (be.block k hk)
  refine ⟨⟨Nat.le_trans be.size cc.size, fun k o _ hk ho => ?_⟩, ⟨?_, fun k cs t fz hk ht => ?_⟩, ⟨⟨_, _, _, by rw [List.map_append]; exact sq2⟩, ?_⟩⟩
  · refine (blk k (Array.getElem?_eq_some_iff.1 hk).1 (fun q => ?_)).trans hk
    obtain ⟨_, cs, e⟩ := cellsOf k q
    rw [hk] at e; cases e; cases ho
  · exact ⟨cc.os.trans be.os, cc.tape.trans be.tape, cc.output.trans be.output, Nat.le_trans be.size cc.size, fun k hk => blk k (by have := be0.size; omega) (fun q => by have := (cellsOf k q).1; omega)⟩
  · refine (blk k (Array.getElem?_eq_some_iff.1 hk).1 (fun q => ?_)).trans hk
    obtain ⟨_, cs, e⟩ := cellsOf k q
    rw [hk] at e; cases e; exact ht rfl
  · exact be0.trans ⟨cc.os.trans be.os, cc.tape.trans be.tape, cc.output.trans be.output, Nat.le_trans be.size cc.size, fun k hk => blk k (by have := be0.size; omega) (fun q => by have := (cellsOf k q).1; omega)⟩
end
theorem done_end {w W : World} {B3 D : Nat} {f : Fn} {ul ue vk : Value} {K : List Fn} {vs : List V3} {V : Nat → Prop} (sq : Sq w.heap.size w.heap.size B3 T f ul ue vk K vs V W) (be : Below w.heap.size w W) (ks : KidsOrd T f K) (hD : w.heap.size ≤ D) (hK : W.heap[D]? = some (.deferred (some []))) :
    ((((W.setCell ⟨w.heap.size, 0, none⟩ ul).setCell ⟨w.heap.size, 1, none⟩ ue).setCell ⟨w.heap.size, 2, none⟩ (.slice none 0 0)).setCell ⟨w.heap.size, 3, none⟩ vk).heap[D]? = some (.deferred (some [])) ∧
    (((((W.setCell ⟨w.heap.size, 0, none⟩ ul).setCell ⟨w.heap.size, 1, none⟩ ue).setCell ⟨w.heap.size, 2, none⟩ (.slice none 0 0)).setCell ⟨w.heap.size, 3, none⟩ vk).putObj D (.deferred none)).heap[w.heap.size]? = some (.cells #[ul, ue, .slice none 0 0, vk] 49 (0, 0)) ∧
    ShR w (((((W.setCell ⟨w.heap.size, 0, none⟩ ul).setCell ⟨w.heap.size, 1, none⟩ ue).setCell ⟨w.heap.size, 2, none⟩ (.slice none 0 0)).setCell ⟨w.heap.size, 3, none⟩ vk).putObj D (.deferred none)) T f (ul, ue, vk) (fun k => V k ∨ vk.ownBlock = some k) := by
  have ne : D ≠ w.heap.size := fun e => by rw [e, sq.b2] at hK; cases hK
  have ne' : w.heap.size ≠ D := fun e => ne e.symm
  obtain ⟨W4, hW4⟩ : ∃ W4, W4 = (((W.setCell ⟨w.heap.size, 0, none⟩ ul).setCell ⟨w.heap.size, 1, none⟩ ue).setCell ⟨w.heap.size, 2, none⟩ (.slice none 0 0)).setCell ⟨w.heap.size, 3, none⟩ vk := ⟨_, rfl⟩
  have cc : Ch (fun j => j = w.heap.size) W W4 := by rw [hW4]; exact (((ch_set _ _ _).then (ch_set _ _ _)).then (ch_set _ _ _)).then (ch_set _ _ _)
  have h4 : W4.heap[w.heap.size]? = some (.cells #[ul, ue, .slice none 0 0, vk] 49 (0, 0)) := by
    rw [hW4, heap_set (heap_set (heap_set (heap_set sq.b2 ul) ue) (.slice none 0 0)) vk]
    rfl
  rw [← hW4]
  have hK4 : W4.heap[D]? = some (.deferred (some [])) := (cc.block D (Array.getElem?_eq_some_iff.1 hK).1 ne).trans hK
  have cp : Ch (fun j => j = w.heap.size ∨ j = D) W (W4.putObj D (.deferred none)) := (cc.mono (fun j _ e => .inl e)).trans (⟨rfl, rfl, rfl, by simp [World.putObj], fun k hk hn => World.putObj_heap_other hn⟩ : Ch (fun j => j = D) W4 (W4.putObj D (.deferred none))) (fun j _ e => .inr e)
  obtain ⟨sh, vc⟩ := sq.whole ks
  have blk : ∀ k, (V k ∨ vk.ownBlock = some k) → (W4.putObj D (.deferred none)).heap[k]? = W.heap[k]? := fun k hk => cp.block k (vc.lt hk) (fun e => by
    rcases e with rfl | rfl
    · rcases hk with e | e
      · exact sq.v2.1 e
      · exact (sq.rV _ e).2.1 rfl
    · obtain ⟨_, cs, t, e⟩ := vc _ hk
      rw [hK] at e; cases e)
  refine ⟨hK4, (World.putObj_heap_other ne').trans h4, sh.keep blk (fun _ e => e), vc.keep blk, ⟨cp.os.trans be.os, cp.tape.trans be.tape, cp.output.trans be.output, Nat.le_trans be.size cp.size, fun k hk => (cp.block k (by have := be.size; omega) (by omega)).trans (be.block k hk)⟩⟩
set_option maxRecDepth 100000 in
set_option maxHeartbeats 8000000 in
theorem shape_any (hl : T.length ≤ 900000) : ∀ (n : Nat) (w : World) (f : Fn), TM w tb r nf nn T → f ∈ T → 65537 ≤ f.s.A.length + n →
    Calls Tryz.prog 35 #[ptr f.s.p] w fun e w' => ∃ u V, e = .returned (.agg #[u.1, u.2.1, .slice none 0 0, u.2.2]) ∧ ShR w w' T f u V
  | 0, w, f, h, hf, hn => by have := (h.ok f hf).2; omega
  | n + 1, w, f, h, hf, hn => by
    have IH := hidi (fun (w : World) (q : Kd T f) (hq : TM w tb r nf nn T) => shape_any hl n w q.1 hq q.2.1 (by have := q.2.2.lt (h.inv.le _ (List.mem_map_of_mem q.2.1)).1; omega))
    have fd := h.nd f hf
    have lvR := fd.lv
    obtain ⟨la, lc, hlv⟩ := own_sl lvR
    have c0 : w.cell? ⟨f.s.p, 0, none⟩ = some (.slice la f.s.m lc) := by rw [← hlv]; exact box_cells fd.at_ 0 _ rfl
    obtain ⟨eo, heo, hso⟩ : ∃ eo : Option Addr, f.ev = .pointer eo ∧ ((eo = none ∧ f.ms.isSome = false) ∨ ∃ k, eo = some ⟨k, 0, none⟩ ∧ f.ms.isSome = true) := by
      rcases fd.ev with ⟨e3, e4⟩ | ⟨m, k, v', e4, e3, _⟩
      · exact ⟨_, e3, .inl ⟨rfl, by rw [e4]; rfl⟩⟩
      · exact ⟨_, e3, .inr ⟨_, rfl, by rw [e4]; rfl⟩⟩
    have c1 : w.cell? ⟨f.s.p, 1, none⟩ = some (.pointer eo) := by rw [← heo]; exact box_cells fd.at_ 1 _ rfl
    have fm : f.s.m ≤ 65536 := by have := (h.inv.le f.s (List.mem_map_of_mem hf)).1; have := (h.ok f hf).2; omega
    have KC := hidi (fun (w1 : World) (hb : Below w.heap.size w w1) => (show w1.cell? ⟨f.s.p, 0, none⟩ = some (.slice la f.s.m lc) ∧ w1.cell? ⟨f.s.p, 1, none⟩ = some (.pointer eo) from by
      have e := ((h.below hb).nd f hf).at_
      rw [hlv, heo] at e
      exact ⟨box_cells e 0 _ rfl, box_cells e 1 _ rfl⟩))
    have CL := hidi (fun (w1 : World) (hb : Below w.heap.size w w1) => (show Calls Tryz.prog 56 #[.slice la f.s.m lc] w1 fun e w' => ∃ v', e = .returned v' ∧ w'.ownsRow w1.heap.size 9 1 v' f.s.m (f.s.edge.map Value.string) ∧ Below w1.heap.size w1 w' from by
      have := clone_any (own_below lvR hb) (by omega)
      rw [hlv] at this
      exact this))
    have IO := hidi (fun (w1 : World) (hb : Below w.heap.size w w1) => inorder_any (w := w1) (h.below hb) hf hl)
    have B0 := hidi ((Below.refl w.heap.size w).alloc (Nat.le_refl _) (.cells #[.slice none 0 0, .bool false, .slice none 0 0, .slice none 0 0] 49))
    have hpl : f.s.p < w.heap.size := fd.lt (.inl rfl)
    have HH := hidi (And.intro h (And.intro hf (And.intro hl hpl)))
    have HSO := hidi hso
    unfold ptr at *
    clear fd lvR hlv heo h hf hn fm hso
    refine (callsIn_wide (n := 5)).1 ?_
    refine callsIn_of_wp_marks Tryz.func35 rfl trivial ?_ rfl
    simp only [Tryz.ntmps35, List.size_toArray, List.length_cons, List.length_nil, Nat.reduceAdd, Nat.reduceSub, Array.replicate_succ, Array.replicate_zero, List.push_toArray, List.append_toArray, List.nil_append, List.cons_append]
    refine wpIn_mono (Q := npn (bodyPostM Fence.wide 5 Tryz.prog Tryz.f35 _)) ?_ npn_le
    refine wpIn_wide.2 ?_
    go_upto_region 1 with fail
    obtain ⟨w1, hw1⟩ : ∃ w1, w1 = w.alloc (.cells #[.slice none 0 0, .bool false, .slice none 0 0, .slice none 0 0] 49) := ⟨_, rfl⟩
    have z1 : w1.heap[w.heap.size]? = some (.cells #[.slice none 0 0, .bool false, .slice none 0 0, .slice none 0 0] 49 (0, 0)) := by rw [hw1]; exact heap_alloc_new _ _
    rw [← hw1] at B0 ⊢
    have Z1 := hidi z1
    have HC := hidi ((Below.refl w1.heap.size w1).drew)
    have KD := hidi (fun (wx : World) (hb : Below w1.heap.size w1 wx) => KC.out wx (B0.out.trans (hb.mono B0.out.size)))
    have CL2 := hidi (fun (wx : World) (hb : Below w1.heap.size w1 wx) => CL.out wx (B0.out.trans (hb.mono B0.out.size)))
    have KS := hidi (fun (wx : World) (b : Nat) (a0 a1 a2 a3 : Value) (hb : Below w1.heap.size w1 wx) (hg : w1.heap.size ≤ b) => (show ((((wx.setCell ⟨b, 0, none⟩ a0).setCell ⟨b, 1, none⟩ a1).setCell ⟨b, 2, none⟩ a2).setCell ⟨b, 3, none⟩ a3).cell? ⟨f.s.p, 0, none⟩ = some (.slice la f.s.m lc) ∧ ((((wx.setCell ⟨b, 0, none⟩ a0).setCell ⟨b, 1, none⟩ a1).setCell ⟨b, 2, none⟩ a2).setCell ⟨b, 3, none⟩ a3).cell? ⟨f.s.p, 1, none⟩ = some (.pointer eo) from by
      have hs := B0.out.size
      have ne : b ≠ f.s.p := by omega
      rw [World.cell?_setCell_far _ _ _ _ ne, World.cell?_setCell_far _ _ _ _ ne, World.cell?_setCell_far _ _ _ _ ne, World.cell?_setCell_far _ _ _ _ ne, World.cell?_setCell_far _ _ _ _ ne, World.cell?_setCell_far _ _ _ _ ne, World.cell?_setCell_far _ _ _ _ ne, World.cell?_setCell_far _ _ _ _ ne]
      exact KD.out wx hb))
    clear hw1 z1 c0 c1 KC CL
    go_cut [3] from 4 (fun s3 wx => ∃ (B3 : Nat) (ul ue : Value), s3 = .pointer (some ⟨B3, 0, none⟩) ∧ Hid (ue = .bool f.ms.isSome) ∧ Hid (Below w1.heap.size w1 wx ∧ wx.heap[B3]? = some (.cells #[ul, ue, .slice none 0 0, .slice none 0 0] 49 (0, 0)) ∧ w1.heap.size ≤ B3 ∧ wx.ownsRow w.heap.size 9 1 ul f.s.m (f.s.edge.map Value.string)))
    case first =>
      rcases HSO.out with ⟨rfl, he⟩ | ⟨pk, rfl, he⟩
      · have HE := hidi he
        clear he HSO
        go_region_held (fun w' => w'.cell? ⟨f.s.p, 0, none⟩ = some (.slice la f.s.m lc) ∧ w'.cell? ⟨f.s.p, 1, none⟩ = some (.pointer none)) (first | exact KD.out _ HC.out | exact KD.out _ (HC.out.alloc HC.out.size _) | exact KS.out _ _ _ _ _ _ HC.out (Nat.le_refl _) | exact KS.out _ _ _ _ _ _ HC.out HBA.out.size) (first
          | (go_at_call 56; refine (CL2.out _ (by first | exact HC.out | exact HC.out.alloc HC.out.size _)).mono ?_; rintro e wa ⟨ul, rfl, hul, hba⟩; obtain ⟨ua, uc, rfl⟩ := own_sl hul; (first | (have zb : wa.heap[w1.heap.size]? = some (.cells #[.slice none 0 0, .bool false, .slice none 0 0, .slice none 0 0] 49 (0, 0)) := (hba.block w1.heap.size (by simp)).trans (heap_alloc_new w1.drew _); have k0 := box_cells zb 0 _ rfl; have k1 := box_cells zb 1 _ rfl; have k2 := box_cells zb 2 _ rfl; have k3 := box_cells zb 3 _ rfl; have l0 := box_frozen zb 0; have l1 := box_frozen zb 1; have l2 := box_frozen zb 2; have l3 := box_frozen zb 3; have ZB := hidi zb; clear zb) | skip); have HU := hidi hul; have HBA := hidi hba; have HC := hidi ((show Below w1.heap.size w1 _ from (by first | exact HC.out | exact HC.out.alloc HC.out.size _)).trans (hba.mono (by first | exact HC.out.size | exact (HC.out.alloc HC.out.size _).size))); clear hul hba))
        all_goals go_wp2_with fail
        all_goals go_meet
        all_goals first
          | exact ⟨_, _, _, rfl, by show _ = _; rw [HE.out], s_end_a B0.out HC.out HU.out B0.out.size _ rfl⟩
          | exact ⟨_, _, _, rfl, by show _ = _; rw [HE.out], s_end_b B0.out HC.out (Nat.le_refl _) ZB.out HU.out (by have := B0.out.size; simp; omega)⟩
      · have HE := hidi he
        clear he HSO
        go_region_held (fun w' => w'.cell? ⟨f.s.p, 0, none⟩ = some (.slice la f.s.m lc) ∧ w'.cell? ⟨f.s.p, 1, none⟩ = some (.pointer (some ⟨pk, 0, none⟩))) (first | exact KD.out _ HC.out | exact KD.out _ (HC.out.alloc HC.out.size _) | exact KS.out _ _ _ _ _ _ HC.out (Nat.le_refl _) | exact KS.out _ _ _ _ _ _ HC.out HBA.out.size) (first
          | (go_at_call 56; refine (CL2.out _ (by first | exact HC.out | exact HC.out.alloc HC.out.size _)).mono ?_; rintro e wa ⟨ul, rfl, hul, hba⟩; obtain ⟨ua, uc, rfl⟩ := own_sl hul; (first | (have zb : wa.heap[w1.heap.size]? = some (.cells #[.slice none 0 0, .bool false, .slice none 0 0, .slice none 0 0] 49 (0, 0)) := (hba.block w1.heap.size (by simp)).trans (heap_alloc_new w1.drew _); have k0 := box_cells zb 0 _ rfl; have k1 := box_cells zb 1 _ rfl; have k2 := box_cells zb 2 _ rfl; have k3 := box_cells zb 3 _ rfl; have l0 := box_frozen zb 0; have l1 := box_frozen zb 1; have l2 := box_frozen zb 2; have l3 := box_frozen zb 3; have ZB := hidi zb; clear zb) | skip); have HU := hidi hul; have HBA := hidi hba; have HC := hidi ((show Below w1.heap.size w1 _ from (by first | exact HC.out | exact HC.out.alloc HC.out.size _)).trans (hba.mono (by first | exact HC.out.size | exact (HC.out.alloc HC.out.size _).size))); clear hul hba))
        all_goals go_wp2_with fail
        all_goals go_meet
        all_goals first
          | exact ⟨_, _, _, rfl, by show _ = _; rw [HE.out], s_end_a B0.out HC.out HU.out B0.out.size _ rfl⟩
          | exact ⟨_, _, _, rfl, by show _ = _; rw [HE.out], s_end_b B0.out HC.out (Nat.le_refl _) ZB.out HU.out (by have := B0.out.size; simp; omega)⟩
    case rest =>
    obtain ⟨B3, ul, ue, rfl, HRU, X⟩ := hcut
    clear KD CL2 KS HC
    go_wp2_with (go_at_call 54; refine (IO.out wc (B0.out.trans (X.out.1.mono B0.out.size))).mono ?_; rintro e w2 ⟨bs, K, rfl, ka, ko, hbs, hb2⟩; have HK := hidi (And.intro ka (And.intro ko (And.intro hbs hb2))); clear ka ko hbs hb2 IO)
    obtain ⟨ka, ko, hbs, hb2⟩ := HK.out
    have hKl : K.length ≤ T.length := by have := ko.len; rwa [List.length_map] at this
    have s2 := hb2.size
    have h2 : Below w.heap.size w w2 := (B0.out.trans (X.out.1.mono B0.out.size)).trans (hb2.mono (by have := B0.out.size; have := X.out.1.size; omega))
    have iv : Sh1 w (w.heap.size) B3 T f ul ue [] w2 := by
      obtain ⟨x1, x2, x3, x4⟩ := X.out
      have z := X.out.1.block w.heap.size (Array.getElem?_eq_some_iff.1 Z1.out).1
      refine ⟨⟨_, _, _, (sq_start (B2 := w.heap.size) (z.trans Z1.out) x2 ?_ ⟨Nat.le_refl _, by have := B0.out.size; omega⟩ x4 HRU.out).below hb2⟩, h2⟩
      have := (Array.getElem?_eq_some_iff.1 Z1.out).1
      omega
    refine (wpIn_wide (n := 5)).1 ?_
    refine wpIn_rangeFunc_ownG rfl (by omega) (gf := 81) (lb := #[ptr bs]) rfl trivial (enters_of Tryz.func81 (by kernel_rfl) rfl)
      (vals81_stops (n₀ := w.heap.size) (X := fun _ t => t = 49) ka (by have := HH.out.2.2.1; omega) (fun j hj c => by cases c) (fun c => by cases c) 4 (by omega)) Kn_t (fun W l o o' a b c d => Kn_b h2.size W l o o' a b c d) (Below.refl _ _) (fun _ => rfl)
      (fun pre W => Sh1 w w.heap.size B3 T f ul ue (pre.map (·.1)) W) (fun _ _ _ => False)
      (Sh1.own h2.size) (fun _ _ _ _ _ hs _ _ => hs) iv
      (fun x => { tmps := #[Value.pointer (some { block := f.s.p, off := 0 }), undef, Value.pointer (some { block := w.heap.size, off := 0 }), Value.pointer (some { block := B3, off := 0 }), Value.pointer (some { block := x.1.s.p, off := 0 }),
          u5, u6, u7, u8, u9, u10, u11, u12, u13, u14, u15, Value.pointer (some { block := f.s.p, off := 0 }), Value.func (Fn.func 81) #[] #[ptr bs], Value.pointer (some { block := x.1.s.p, off := 0 }), u19, u20, u21, u22, u23, u24, u25, u26, u27, u28], defers := [] }) ?assign ?body ?done ?stop
    case assign =>
      intro l x W K hK
      unfold enc ptr
      gi_wp2
      exact hK
    case stop =>
      intro D c pre W _ _ h _
      exact h.elim
    case body =>
      rintro l pre x W ⟨⟨vk, vs, V, sq⟩, beW⟩ hlt
      have hrow := sq.row
      obtain ⟨ka, kc, rfl⟩ := own_sl hrow
      have sqd : Sq w.heap.size w.heap.size B3 T f ul ue (.slice ka vs.length kc) (pre.map (·.1)) vs V W.drew := sq.keep (fun _ _ => rfl)
      have tmd : TM W.drew tb r nf nn T := (HH.out.1.below beW).below ((Below.refl W.heap.size W).drew)
      have HVL : Hid (vs.length ≤ 900000) := by show _ ≤ _; have := sq.len; have := HH.out.2.2; rw [List.length_map] at *; omega
      have HL4 := hidi (shc_len vs)
      have hmx : Tryz.prog.follows .mixedOrders = true := by kernel_rfl
      have sc : W.drew.cell? ⟨B3, 3, none⟩ = some (.slice ka vs.length kc) := box_cells sqd.b3 3 _ rfl
      have ba := (Below.refl W.drew.heap.size W.drew).alloc (Nat.le_refl _) (.cells #[.slice none 0 0, .bool false, .slice none 0 0, .slice none 0 0] 49)
      have AL := hidi (And.intro (show (W.drew.alloc (.cells #[.slice none 0 0, .bool false, .slice none 0 0, .slice none 0 0] 49)).cell? ⟨B3, 3, none⟩ = some (.slice ka vs.length kc) from box_cells (sqd.below ba).b3 3 _ rfl) (And.intro (tmd.below ba) True.intro))
      have SQd := hidi sqd
      have TMd := hidi tmd
      have BE := hidi beW
      have SC := hidi sc
      have hi1 : (vs.length : Int) < (vs.length : Int) + 1 := by omega
      clear sq hrow sqd tmd ba beW sc hlt iv h2 s2
      gi_wp2
      refine region_round_U (fun w' => w'.cell? ⟨B3, 3, none⟩ = some (.slice ka vs.length kc)) [6, 7, 8, 9, 10] hmx (by kernel_rfl) (fun ⟨_, _, h⟩ => h) SC.out (fun hHeld => ?_)
      change wpAnyU _ _ _ _ _ _ 11 #[false, false, false, false, false, false, false, false, false, false, false] _ _
      refine wpAnyU_take (i := 0) (oi := { dst := some 19, op := Go.Op.fieldAddr 49 (Go.Operand.tmp 3) 3, type := 0, pos := "rettrie.go:288", after := #[], guard := none }) (v := .pointer (some ⟨B3, 3, none⟩)) rfl (by kernel_rfl) (by kernel_rfl) (by kernel_rfl) (by kernel_rfl) (fun _ _ _ h => h) (Or.inl ⟨by kernel_rfl, by intro wq hSw; (try dsimp only at hSw); go_simp⟩) hHeld ?_
      (try simp only [Act.put, List.setIfInBounds_toArray, List.set_cons_zero, List.set_cons_succ])
      refine wpAnyU_take (i := 1) (oi := { dst := some 20, op := Go.Op.load 47 (Go.Operand.tmp 19), type := 47, pos := "rettrie.go:288", after := #[{ on := 0, ground := Go.Ground.data }], guard := none }) (v := .slice ka vs.length kc) rfl (by kernel_rfl) (by kernel_rfl) (by kernel_rfl) (by kernel_rfl) (fun _ _ _ h => h) (Or.inl ⟨by kernel_rfl, by intro wq hSw; (try dsimp only at hSw); go_simp⟩) hHeld ?_
      (try simp only [Act.put, List.setIfInBounds_toArray, List.set_cons_zero, List.set_cons_succ])
      refine wpAnyU_take (i := 2) (oi := { dst := some 21, op := Go.Op.move (Go.Operand.tmp 4), type := 60, pos := "rettrie.go:288", after := #[], guard := none }) (v := .pointer (some ⟨x.1.s.p, 0, none⟩)) rfl (by kernel_rfl) (by kernel_rfl) (by kernel_rfl) (by kernel_rfl) (fun _ _ _ h => h) (Or.inl ⟨by kernel_rfl, by intro wq hSw; (try dsimp only at hSw); go_simp⟩) hHeld ?_
      (try simp only [Act.put, List.setIfInBounds_toArray, List.set_cons_zero, List.set_cons_succ])
      refine wpAnyU_take (i := 4) (oi := { dst := some 23, op := Go.Op.call { callee := Go.Callee.builtin Go.Builtin.len, args := #[Go.Operand.tmp 20], argTypes := #[47] }, type := 3, pos := "rettrie.go:288", after := #[{ on := 1, ground := Go.Ground.data }], guard := none }) (v := .int .i64 (vs.length : Int)) rfl (by kernel_rfl) (by kernel_rfl) (by kernel_rfl) (by kernel_rfl) (fun _ _ _ h => h) (Or.inl ⟨by kernel_rfl, by intro wq hSw; (try dsimp only at hSw); go_simp⟩) hHeld ?_
      (try simp only [Act.put, List.setIfInBounds_toArray, List.set_cons_zero, List.set_cons_succ])
      refine wpAnyU_ready (rs := [3, 5]) (by kernel_rfl) (by simp) ?_
      refine (AllReadyU.cons (o := { dst := some 22, op := Go.Op.call { callee := Go.Callee.value (Go.Operand.func 35), args := #[Go.Operand.tmp 21], argTypes := #[60] }, type := 49, pos := "rettrie.go:288", after := #[{ on := 2, ground := Go.Ground.data }], guard := none }) rfl (fun K hK => ?_) (AllReadyU.cons (o := { dst := some 24, op := Go.Op.buildSlice 47 1 #[(0, Go.Operand.const (Go.Value.agg #[Go.Value.slice none 0 0, Go.Value.bool false, Go.Value.slice none 0 0, Go.Value.slice none 0 0]))], type := 47, pos := "rettrie.go:288", after := #[], guard := none }) rfl (fun K hK => ?_) AllReadyU.nil))
      go_simp
      go_wp2_with (go_at_call 35; refine (IH.out _ x TMd.out).mono ?_; rintro e wp ⟨u, Vn, rfl, sr⟩; obtain ⟨a1, n1, c1, b2, a3, n3, c3, rfl⟩ := sr.sh.form; have PH := hidi (ph_a SQd.out sr); clear sr)
      refine hK.out _ _ (PH.out.1) (fun hHeld => ?_)
      clear hK K
      (try simp only [Act.put, List.setIfInBounds_toArray, List.set_cons_zero, List.set_cons_succ])
      refine wpAnyU_ready (rs := [5]) (by kernel_rfl) (by simp) ?_
      refine (AllReadyU.cons (o := { dst := some 24, op := Go.Op.buildSlice 47 1 #[(0, Go.Operand.const (Go.Value.agg #[Go.Value.slice none 0 0, Go.Value.bool false, Go.Value.slice none 0 0, Go.Value.slice none 0 0]))], type := 47, pos := "rettrie.go:288", after := #[], guard := none }) rfl (fun K hK => ?_) AllReadyU.nil)
      go_simp
      refine hK.out _ _ (PH.out.2.1) (fun hHeld => ?_)
      clear hK K
      (try simp only [Act.put, List.setIfInBounds_toArray, List.set_cons_zero, List.set_cons_succ])
      have PP := hidi PH.out.2.2
      clear PH hHeld
      obtain ⟨wn, hwn⟩ : ∃ wn, wn = wp.alloc (.cells #[.slice none 0 0, .bool false, .slice none 0 0, .slice none 0 0] 49) := ⟨_, rfl⟩
      rw [← hwn] at PP ⊢
      clear hwn
      obtain ⟨N, hN⟩ : ∃ N, N = wp.heap.size := ⟨_, rfl⟩
      rw [← hN] at PP ⊢
      clear hN
      rotate_left
      go_simp
      refine hK.out _ _ (AL.out.1) (fun hHeld => ?_)
      clear hK K
      (try simp only [Act.put, List.setIfInBounds_toArray, List.set_cons_zero, List.set_cons_succ])
      refine wpAnyU_ready (rs := [3]) (by kernel_rfl) (by simp) ?_
      refine (AllReadyU.cons (o := { dst := some 22, op := Go.Op.call { callee := Go.Callee.value (Go.Operand.func 35), args := #[Go.Operand.tmp 21], argTypes := #[60] }, type := 49, pos := "rettrie.go:288", after := #[{ on := 2, ground := Go.Ground.data }], guard := none }) rfl (fun K hK => ?_) AllReadyU.nil)
      go_simp
      go_wp2_with (go_at_call 35; refine (IH.out _ x AL.out.2.1).mono ?_; rintro e wp ⟨u, Vn, rfl, sr⟩; obtain ⟨a1, n1, c1, b2, a3, n3, c3, rfl⟩ := sr.sh.form; have PH := hidi (ph_b SQd.out sr); clear sr)
      refine hK.out _ _ (PH.out.1) (fun hHeld => ?_)
      clear hK K
      (try simp only [Act.put, List.setIfInBounds_toArray, List.set_cons_zero, List.set_cons_succ])
      have PP : Hid (PPs w.heap.size w.heap.size B3 T f ul ue (.slice ka vs.length kc) (pre.map (·.1)) vs V Vn x.1 _ W.drew wp W.heap.size) := PH.out.2
      clear PH hHeld
      obtain ⟨wn, hwn⟩ : ∃ wn, wn = wp := ⟨_, rfl⟩
      rw [← hwn] at PP ⊢
      clear hwn
      obtain ⟨N, hN⟩ : ∃ N, N = W.heap.size := ⟨_, rfl⟩
      rw [← hN] at PP ⊢
      clear hN
      rotate_left
      all_goals obtain ⟨g, c, wa, ra, ro, rc, rg⟩ := sq_append PP.out.1 PP.out.2.2.2.1 HVL.out
      all_goals have RO := hidi (And.intro ro (And.intro rc rg))
      all_goals obtain ⟨hb3, hgB, ⟨e0, e1, e2, e3, f0, f1, f2, f3, b3, bf3⟩, hb, hd⟩ := fr_append PP.out.1 ro rc rg
      all_goals have HB3 := hidi (And.intro hb3 hgB)
      all_goals obtain ⟨e0b, e1b, e2b, e3b, f0b, f1b, f2b, f3b⟩ := hb (.slice (some ⟨g, 0, none⟩) (vs.length + 1) c)
      all_goals obtain ⟨b3a, bf3a⟩ := hd (.slice a1 n1 c1) (.bool b2) (.slice none 0 0) (.slice a3 n3 c3)
      all_goals clear hb hd
      all_goals clear ro rc rg hb3 hgB
      all_goals
        refine wpAnyU_ready (rs := [6]) (by kernel_rfl) (by simp) ?_
        refine (AllReadyU.free (o := { dst := some 25, op := Go.Op.call { callee := Go.Callee.builtin Go.Builtin.append, args := #[Go.Operand.tmp 20, Go.Operand.tmp 24], argTypes := #[47, 47] }, type := 47, pos := "rettrie.go:288", after := #[{ on := 1, ground := Go.Ground.data }, { on := 5, ground := Go.Ground.data }, { on := 3, ground := Go.Ground.chain }, { on := 0, ground := Go.Ground.phase }, { on := 1, ground := Go.Ground.phase }, { on := 2, ground := Go.Ground.phase }, { on := 3, ground := Go.Ground.phase }, { on := 4, ground := Go.Ground.phase }, { on := 5, ground := Go.Ground.phase }], guard := none }) rfl (by kernel_rfl) (fun K hK => ?_) AllReadyU.nil)
        refine step_app rfl (.tmp 20) (.tmp 24) 47 47 rfl _ _ rfl rfl _ wa ra ?_
        refine hK.out _ _ ?_
        clear hK K
        (try simp only [Act.put, List.setIfInBounds_toArray, List.set_cons_zero, List.set_cons_succ])
        clear ra
        refine wpAnyU_ready (rs := [7, 9]) (by kernel_rfl) (by simp) ?_
        refine (AllReadyU.free (o := { dst := some 26, op := Go.Op.indexAddr 47 (Go.Operand.tmp 25) (Go.Operand.tmp 23), type := 0, pos := "rettrie.go:288", after := #[{ on := 6, ground := Go.Ground.data }, { on := 4, ground := Go.Ground.data }, { on := 0, ground := Go.Ground.phase }, { on := 1, ground := Go.Ground.phase }, { on := 2, ground := Go.Ground.phase }, { on := 3, ground := Go.Ground.phase }, { on := 4, ground := Go.Ground.phase }, { on := 5, ground := Go.Ground.phase }, { on := 6, ground := Go.Ground.phase }, { on := 10, ground := Go.Ground.gcOnly Go.Departure.appendInPlace }], guard := none }) rfl (by kernel_rfl) (fun K hK => ?_) (AllReadyU.free (o := { dst := some 27, op := Go.Op.fieldAddr 49 (Go.Operand.tmp 3) 3, type := 0, pos := "rettrie.go:288", after := #[{ on := 0, ground := Go.Ground.phase }, { on := 1, ground := Go.Ground.phase }, { on := 2, ground := Go.Ground.phase }, { on := 3, ground := Go.Ground.phase }, { on := 4, ground := Go.Ground.phase }, { on := 5, ground := Go.Ground.phase }, { on := 6, ground := Go.Ground.phase }, { on := 7, ground := Go.Ground.textOnly Go.Departure.appendInPlace }, { on := 8, ground := Go.Ground.textOnly Go.Departure.appendInPlace }], guard := none }) rfl (by kernel_rfl) (fun K hK => ?_) AllReadyU.nil))
        · go_simp
          refine hK.out _ _ ?_
          clear hK K
          (try simp only [Act.put, List.setIfInBounds_toArray, List.set_cons_zero, List.set_cons_succ])
          refine wpAnyU_ready (rs := [8, 9]) (by kernel_rfl) (by simp) ?_
          refine (AllReadyU.free (o := { dst := none, op := Go.Op.store 49 (Go.Operand.tmp 26) (Go.Operand.tmp 22), type := 0, pos := "rettrie.go:288", after := #[{ on := 7, ground := Go.Ground.data }, { on := 3, ground := Go.Ground.data }, { on := 6, ground := Go.Ground.chain }, { on := 0, ground := Go.Ground.phase }, { on := 1, ground := Go.Ground.phase }, { on := 2, ground := Go.Ground.phase }, { on := 3, ground := Go.Ground.phase }, { on := 4, ground := Go.Ground.phase }, { on := 5, ground := Go.Ground.phase }, { on := 6, ground := Go.Ground.phase }, { on := 10, ground := Go.Ground.gcOnly Go.Departure.appendInPlace }], guard := none }) rfl (by kernel_rfl) (fun K hK => ?_) (AllReadyU.free (o := { dst := some 27, op := Go.Op.fieldAddr 49 (Go.Operand.tmp 3) 3, type := 0, pos := "rettrie.go:288", after := #[{ on := 0, ground := Go.Ground.phase }, { on := 1, ground := Go.Ground.phase }, { on := 2, ground := Go.Ground.phase }, { on := 3, ground := Go.Ground.phase }, { on := 4, ground := Go.Ground.phase }, { on := 5, ground := Go.Ground.phase }, { on := 6, ground := Go.Ground.phase }, { on := 7, ground := Go.Ground.textOnly Go.Departure.appendInPlace }, { on := 8, ground := Go.Ground.textOnly Go.Departure.appendInPlace }], guard := none }) rfl (by kernel_rfl) (fun K hK => ?_) AllReadyU.nil))
          · refine step_st4 rfl (.tmp 26) (.tmp 22) rfl rfl rfl e0 e1 e2 e3 f0 f1 f2 f3 ?_
            refine hK.out _ _ ?_
            clear hK K
            (try simp only [Act.put, List.setIfInBounds_toArray, List.set_cons_zero, List.set_cons_succ])
            refine wpAnyU_ready (rs := [9]) (by kernel_rfl) (by simp) ?_
            refine (AllReadyU.free (o := { dst := some 27, op := Go.Op.fieldAddr 49 (Go.Operand.tmp 3) 3, type := 0, pos := "rettrie.go:288", after := #[{ on := 0, ground := Go.Ground.phase }, { on := 1, ground := Go.Ground.phase }, { on := 2, ground := Go.Ground.phase }, { on := 3, ground := Go.Ground.phase }, { on := 4, ground := Go.Ground.phase }, { on := 5, ground := Go.Ground.phase }, { on := 6, ground := Go.Ground.phase }, { on := 7, ground := Go.Ground.textOnly Go.Departure.appendInPlace }, { on := 8, ground := Go.Ground.textOnly Go.Departure.appendInPlace }], guard := none }) rfl (by kernel_rfl) (fun K hK => ?_) AllReadyU.nil)
            · go_simp
              refine hK.out _ _ ?_
              clear hK K
              (try simp only [Act.put, List.setIfInBounds_toArray, List.set_cons_zero, List.set_cons_succ])
              refine wpAnyU_ready (rs := [10]) (by kernel_rfl) (by simp) ?_
              refine (AllReadyU.free (o := { dst := none, op := Go.Op.store 47 (Go.Operand.tmp 27) (Go.Operand.tmp 25), type := 0, pos := "rettrie.go:288", after := #[{ on := 9, ground := Go.Ground.data }, { on := 6, ground := Go.Ground.data }, { on := 6, ground := Go.Ground.chain }, { on := 8, ground := Go.Ground.textOnly Go.Departure.appendInPlace }, { on := 0, ground := Go.Ground.phase }, { on := 1, ground := Go.Ground.phase }, { on := 2, ground := Go.Ground.phase }, { on := 3, ground := Go.Ground.phase }, { on := 4, ground := Go.Ground.phase }, { on := 5, ground := Go.Ground.phase }, { on := 6, ground := Go.Ground.phase }, { on := 7, ground := Go.Ground.textOnly Go.Departure.appendInPlace }, { on := 8, ground := Go.Ground.textOnly Go.Departure.appendInPlace }], guard := none }) rfl (by kernel_rfl) (fun K hK => ?_) AllReadyU.nil)
              · go_simp
                refine hK.out _ _ ?_
                clear hK K
                (try simp only [Act.put, List.setIfInBounds_toArray, List.set_cons_zero, List.set_cons_succ])
                refine wpAnyU_done (by kernel_rfl) ?_ _
                try gi_wp2
                have fin := body_end (B := w2.heap.size) SQd.out BE.out PP.out RO.out.2.1 RO.out.2.2 (sn_a (u := (.slice a1 n1 c1, .bool b2, .slice a3 n3 c3)) RO.out.1 HL4.out HB3.out.1 HB3.out.2)
                dsimp only at fin
                exact opg fin
          · go_simp
            refine hK.out _ _ ?_
            clear hK K
            (try simp only [Act.put, List.setIfInBounds_toArray, List.set_cons_zero, List.set_cons_succ])
            refine wpAnyU_ready (rs := [8, 10]) (by kernel_rfl) (by simp) ?_
            refine (AllReadyU.free (o := { dst := none, op := Go.Op.store 49 (Go.Operand.tmp 26) (Go.Operand.tmp 22), type := 0, pos := "rettrie.go:288", after := #[{ on := 7, ground := Go.Ground.data }, { on := 3, ground := Go.Ground.data }, { on := 6, ground := Go.Ground.chain }, { on := 0, ground := Go.Ground.phase }, { on := 1, ground := Go.Ground.phase }, { on := 2, ground := Go.Ground.phase }, { on := 3, ground := Go.Ground.phase }, { on := 4, ground := Go.Ground.phase }, { on := 5, ground := Go.Ground.phase }, { on := 6, ground := Go.Ground.phase }, { on := 10, ground := Go.Ground.gcOnly Go.Departure.appendInPlace }], guard := none }) rfl (by kernel_rfl) (fun K hK => ?_) (AllReadyU.free (o := { dst := none, op := Go.Op.store 47 (Go.Operand.tmp 27) (Go.Operand.tmp 25), type := 0, pos := "rettrie.go:288", after := #[{ on := 9, ground := Go.Ground.data }, { on := 6, ground := Go.Ground.data }, { on := 6, ground := Go.Ground.chain }, { on := 8, ground := Go.Ground.textOnly Go.Departure.appendInPlace }, { on := 0, ground := Go.Ground.phase }, { on := 1, ground := Go.Ground.phase }, { on := 2, ground := Go.Ground.phase }, { on := 3, ground := Go.Ground.phase }, { on := 4, ground := Go.Ground.phase }, { on := 5, ground := Go.Ground.phase }, { on := 6, ground := Go.Ground.phase }, { on := 7, ground := Go.Ground.textOnly Go.Departure.appendInPlace }, { on := 8, ground := Go.Ground.textOnly Go.Departure.appendInPlace }], guard := none }) rfl (by kernel_rfl) (fun K hK => ?_) AllReadyU.nil))
            · refine step_st4 rfl (.tmp 26) (.tmp 22) rfl rfl rfl e0 e1 e2 e3 f0 f1 f2 f3 ?_
              refine hK.out _ _ ?_
              clear hK K
              (try simp only [Act.put, List.setIfInBounds_toArray, List.set_cons_zero, List.set_cons_succ])
              refine wpAnyU_ready (rs := [10]) (by kernel_rfl) (by simp) ?_
              refine (AllReadyU.free (o := { dst := none, op := Go.Op.store 47 (Go.Operand.tmp 27) (Go.Operand.tmp 25), type := 0, pos := "rettrie.go:288", after := #[{ on := 9, ground := Go.Ground.data }, { on := 6, ground := Go.Ground.data }, { on := 6, ground := Go.Ground.chain }, { on := 8, ground := Go.Ground.textOnly Go.Departure.appendInPlace }, { on := 0, ground := Go.Ground.phase }, { on := 1, ground := Go.Ground.phase }, { on := 2, ground := Go.Ground.phase }, { on := 3, ground := Go.Ground.phase }, { on := 4, ground := Go.Ground.phase }, { on := 5, ground := Go.Ground.phase }, { on := 6, ground := Go.Ground.phase }, { on := 7, ground := Go.Ground.textOnly Go.Departure.appendInPlace }, { on := 8, ground := Go.Ground.textOnly Go.Departure.appendInPlace }], guard := none }) rfl (by kernel_rfl) (fun K hK => ?_) AllReadyU.nil)
              · go_simp
                refine hK.out _ _ ?_
                clear hK K
                (try simp only [Act.put, List.setIfInBounds_toArray, List.set_cons_zero, List.set_cons_succ])
                refine wpAnyU_done (by kernel_rfl) ?_ _
                try gi_wp2
                have fin := body_end (B := w2.heap.size) SQd.out BE.out PP.out RO.out.2.1 RO.out.2.2 (sn_a (u := (.slice a1 n1 c1, .bool b2, .slice a3 n3 c3)) RO.out.1 HL4.out HB3.out.1 HB3.out.2)
                dsimp only at fin
                exact opg fin
            · go_simp
              refine hK.out _ _ ?_
              clear hK K
              (try simp only [Act.put, List.setIfInBounds_toArray, List.set_cons_zero, List.set_cons_succ])
              refine wpAnyU_ready (rs := [8]) (by kernel_rfl) (by simp) ?_
              refine (AllReadyU.free (o := { dst := none, op := Go.Op.store 49 (Go.Operand.tmp 26) (Go.Operand.tmp 22), type := 0, pos := "rettrie.go:288", after := #[{ on := 7, ground := Go.Ground.data }, { on := 3, ground := Go.Ground.data }, { on := 6, ground := Go.Ground.chain }, { on := 0, ground := Go.Ground.phase }, { on := 1, ground := Go.Ground.phase }, { on := 2, ground := Go.Ground.phase }, { on := 3, ground := Go.Ground.phase }, { on := 4, ground := Go.Ground.phase }, { on := 5, ground := Go.Ground.phase }, { on := 6, ground := Go.Ground.phase }, { on := 10, ground := Go.Ground.gcOnly Go.Departure.appendInPlace }], guard := none }) rfl (by kernel_rfl) (fun K hK => ?_) AllReadyU.nil)
              · refine step_st4 rfl (.tmp 26) (.tmp 22) rfl rfl rfl e0b e1b e2b e3b f0b f1b f2b f3b ?_
                refine hK.out _ _ ?_
                clear hK K
                (try simp only [Act.put, List.setIfInBounds_toArray, List.set_cons_zero, List.set_cons_succ])
                refine wpAnyU_done (by kernel_rfl) ?_ _
                try gi_wp2
                have fin := body_end (B := w2.heap.size) SQd.out BE.out PP.out RO.out.2.1 RO.out.2.2 (sn_b (u := (.slice a1 n1 c1, .bool b2, .slice a3 n3 c3)) RO.out.1 HL4.out HB3.out.1 HB3.out.2)
                dsimp only at fin
                exact opg fin
        · go_simp
          refine hK.out _ _ ?_
          clear hK K
          (try simp only [Act.put, List.setIfInBounds_toArray, List.set_cons_zero, List.set_cons_succ])
          refine wpAnyU_ready (rs := [7, 10]) (by kernel_rfl) (by simp) ?_
          refine (AllReadyU.free (o := { dst := some 26, op := Go.Op.indexAddr 47 (Go.Operand.tmp 25) (Go.Operand.tmp 23), type := 0, pos := "rettrie.go:288", after := #[{ on := 6, ground := Go.Ground.data }, { on := 4, ground := Go.Ground.data }, { on := 0, ground := Go.Ground.phase }, { on := 1, ground := Go.Ground.phase }, { on := 2, ground := Go.Ground.phase }, { on := 3, ground := Go.Ground.phase }, { on := 4, ground := Go.Ground.phase }, { on := 5, ground := Go.Ground.phase }, { on := 6, ground := Go.Ground.phase }, { on := 10, ground := Go.Ground.gcOnly Go.Departure.appendInPlace }], guard := none }) rfl (by kernel_rfl) (fun K hK => ?_) (AllReadyU.free (o := { dst := none, op := Go.Op.store 47 (Go.Operand.tmp 27) (Go.Operand.tmp 25), type := 0, pos := "rettrie.go:288", after := #[{ on := 9, ground := Go.Ground.data }, { on := 6, ground := Go.Ground.data }, { on := 6, ground := Go.Ground.chain }, { on := 8, ground := Go.Ground.textOnly Go.Departure.appendInPlace }, { on := 0, ground := Go.Ground.phase }, { on := 1, ground := Go.Ground.phase }, { on := 2, ground := Go.Ground.phase }, { on := 3, ground := Go.Ground.phase }, { on := 4, ground := Go.Ground.phase }, { on := 5, ground := Go.Ground.phase }, { on := 6, ground := Go.Ground.phase }, { on := 7, ground := Go.Ground.textOnly Go.Departure.appendInPlace }, { on := 8, ground := Go.Ground.textOnly Go.Departure.appendInPlace }], guard := none }) rfl (by kernel_rfl) (fun K hK => ?_) AllReadyU.nil))
          · go_simp
            refine hK.out _ _ ?_
            clear hK K
            (try simp only [Act.put, List.setIfInBounds_toArray, List.set_cons_zero, List.set_cons_succ])
            refine wpAnyU_ready (rs := [8, 10]) (by kernel_rfl) (by simp) ?_
            refine (AllReadyU.free (o := { dst := none, op := Go.Op.store 49 (Go.Operand.tmp 26) (Go.Operand.tmp 22), type := 0, pos := "rettrie.go:288", after := #[{ on := 7, ground := Go.Ground.data }, { on := 3, ground := Go.Ground.data }, { on := 6, ground := Go.Ground.chain }, { on := 0, ground := Go.Ground.phase }, { on := 1, ground := Go.Ground.phase }, { on := 2, ground := Go.Ground.phase }, { on := 3, ground := Go.Ground.phase }, { on := 4, ground := Go.Ground.phase }, { on := 5, ground := Go.Ground.phase }, { on := 6, ground := Go.Ground.phase }, { on := 10, ground := Go.Ground.gcOnly Go.Departure.appendInPlace }], guard := none }) rfl (by kernel_rfl) (fun K hK => ?_) (AllReadyU.free (o := { dst := none, op := Go.Op.store 47 (Go.Operand.tmp 27) (Go.Operand.tmp 25), type := 0, pos := "rettrie.go:288", after := #[{ on := 9, ground := Go.Ground.data }, { on := 6, ground := Go.Ground.data }, { on := 6, ground := Go.Ground.chain }, { on := 8, ground := Go.Ground.textOnly Go.Departure.appendInPlace }, { on := 0, ground := Go.Ground.phase }, { on := 1, ground := Go.Ground.phase }, { on := 2, ground := Go.Ground.phase }, { on := 3, ground := Go.Ground.phase }, { on := 4, ground := Go.Ground.phase }, { on := 5, ground := Go.Ground.phase }, { on := 6, ground := Go.Ground.phase }, { on := 7, ground := Go.Ground.textOnly Go.Departure.appendInPlace }, { on := 8, ground := Go.Ground.textOnly Go.Departure.appendInPlace }], guard := none }) rfl (by kernel_rfl) (fun K hK => ?_) AllReadyU.nil))
            · refine step_st4 rfl (.tmp 26) (.tmp 22) rfl rfl rfl e0 e1 e2 e3 f0 f1 f2 f3 ?_
              refine hK.out _ _ ?_
              clear hK K
              (try simp only [Act.put, List.setIfInBounds_toArray, List.set_cons_zero, List.set_cons_succ])
              refine wpAnyU_ready (rs := [10]) (by kernel_rfl) (by simp) ?_
              refine (AllReadyU.free (o := { dst := none, op := Go.Op.store 47 (Go.Operand.tmp 27) (Go.Operand.tmp 25), type := 0, pos := "rettrie.go:288", after := #[{ on := 9, ground := Go.Ground.data }, { on := 6, ground := Go.Ground.data }, { on := 6, ground := Go.Ground.chain }, { on := 8, ground := Go.Ground.textOnly Go.Departure.appendInPlace }, { on := 0, ground := Go.Ground.phase }, { on := 1, ground := Go.Ground.phase }, { on := 2, ground := Go.Ground.phase }, { on := 3, ground := Go.Ground.phase }, { on := 4, ground := Go.Ground.phase }, { on := 5, ground := Go.Ground.phase }, { on := 6, ground := Go.Ground.phase }, { on := 7, ground := Go.Ground.textOnly Go.Departure.appendInPlace }, { on := 8, ground := Go.Ground.textOnly Go.Departure.appendInPlace }], guard := none }) rfl (by kernel_rfl) (fun K hK => ?_) AllReadyU.nil)
              · go_simp
                refine hK.out _ _ ?_
                clear hK K
                (try simp only [Act.put, List.setIfInBounds_toArray, List.set_cons_zero, List.set_cons_succ])
                refine wpAnyU_done (by kernel_rfl) ?_ _
                try gi_wp2
                have fin := body_end (B := w2.heap.size) SQd.out BE.out PP.out RO.out.2.1 RO.out.2.2 (sn_a (u := (.slice a1 n1 c1, .bool b2, .slice a3 n3 c3)) RO.out.1 HL4.out HB3.out.1 HB3.out.2)
                dsimp only at fin
                exact opg fin
            · go_simp
              refine hK.out _ _ ?_
              clear hK K
              (try simp only [Act.put, List.setIfInBounds_toArray, List.set_cons_zero, List.set_cons_succ])
              refine wpAnyU_ready (rs := [8]) (by kernel_rfl) (by simp) ?_
              refine (AllReadyU.free (o := { dst := none, op := Go.Op.store 49 (Go.Operand.tmp 26) (Go.Operand.tmp 22), type := 0, pos := "rettrie.go:288", after := #[{ on := 7, ground := Go.Ground.data }, { on := 3, ground := Go.Ground.data }, { on := 6, ground := Go.Ground.chain }, { on := 0, ground := Go.Ground.phase }, { on := 1, ground := Go.Ground.phase }, { on := 2, ground := Go.Ground.phase }, { on := 3, ground := Go.Ground.phase }, { on := 4, ground := Go.Ground.phase }, { on := 5, ground := Go.Ground.phase }, { on := 6, ground := Go.Ground.phase }, { on := 10, ground := Go.Ground.gcOnly Go.Departure.appendInPlace }], guard := none }) rfl (by kernel_rfl) (fun K hK => ?_) AllReadyU.nil)
              · refine step_st4 rfl (.tmp 26) (.tmp 22) rfl rfl rfl e0b e1b e2b e3b f0b f1b f2b f3b ?_
                refine hK.out _ _ ?_
                clear hK K
                (try simp only [Act.put, List.setIfInBounds_toArray, List.set_cons_zero, List.set_cons_succ])
                refine wpAnyU_done (by kernel_rfl) ?_ _
                try gi_wp2
                have fin := body_end (B := w2.heap.size) SQd.out BE.out PP.out RO.out.2.1 RO.out.2.2 (sn_b (u := (.slice a1 n1 c1, .bool b2, .slice a3 n3 c3)) RO.out.1 HL4.out HB3.out.1 HB3.out.2)
                dsimp only at fin
                exact opg fin
          · go_simp
            refine hK.out _ _ ?_
            clear hK K
            (try simp only [Act.put, List.setIfInBounds_toArray, List.set_cons_zero, List.set_cons_succ])
            refine wpAnyU_ready (rs := [7]) (by kernel_rfl) (by simp) ?_
            refine (AllReadyU.free (o := { dst := some 26, op := Go.Op.indexAddr 47 (Go.Operand.tmp 25) (Go.Operand.tmp 23), type := 0, pos := "rettrie.go:288", after := #[{ on := 6, ground := Go.Ground.data }, { on := 4, ground := Go.Ground.data }, { on := 0, ground := Go.Ground.phase }, { on := 1, ground := Go.Ground.phase }, { on := 2, ground := Go.Ground.phase }, { on := 3, ground := Go.Ground.phase }, { on := 4, ground := Go.Ground.phase }, { on := 5, ground := Go.Ground.phase }, { on := 6, ground := Go.Ground.phase }, { on := 10, ground := Go.Ground.gcOnly Go.Departure.appendInPlace }], guard := none }) rfl (by kernel_rfl) (fun K hK => ?_) AllReadyU.nil)
            · go_simp
              refine hK.out _ _ ?_
              clear hK K
              (try simp only [Act.put, List.setIfInBounds_toArray, List.set_cons_zero, List.set_cons_succ])
              refine wpAnyU_ready (rs := [8]) (by kernel_rfl) (by simp) ?_
              refine (AllReadyU.free (o := { dst := none, op := Go.Op.store 49 (Go.Operand.tmp 26) (Go.Operand.tmp 22), type := 0, pos := "rettrie.go:288", after := #[{ on := 7, ground := Go.Ground.data }, { on := 3, ground := Go.Ground.data }, { on := 6, ground := Go.Ground.chain }, { on := 0, ground := Go.Ground.phase }, { on := 1, ground := Go.Ground.phase }, { on := 2, ground := Go.Ground.phase }, { on := 3, ground := Go.Ground.phase }, { on := 4, ground := Go.Ground.phase }, { on := 5, ground := Go.Ground.phase }, { on := 6, ground := Go.Ground.phase }, { on := 10, ground := Go.Ground.gcOnly Go.Departure.appendInPlace }], guard := none }) rfl (by kernel_rfl) (fun K hK => ?_) AllReadyU.nil)
              · refine step_st4 rfl (.tmp 26) (.tmp 22) rfl rfl rfl e0b e1b e2b e3b f0b f1b f2b f3b ?_
                refine hK.out _ _ ?_
                clear hK K
                (try simp only [Act.put, List.setIfInBounds_toArray, List.set_cons_zero, List.set_cons_succ])
                refine wpAnyU_done (by kernel_rfl) ?_ _
                try gi_wp2
                have fin := body_end (B := w2.heap.size) SQd.out BE.out PP.out RO.out.2.1 RO.out.2.2 (sn_b (u := (.slice a1 n1 c1, .bool b2, .slice a3 n3 c3)) RO.out.1 HL4.out HB3.out.1 HB3.out.2)
                dsimp only at fin
                exact opg fin
    case done =>
      rintro D xs W hD hys ⟨⟨vk, vs, V, sq⟩, beW⟩ hK
      obtain rfl : xs = K := hys
      have d1 := sq.lv
      have d3 := sq.row
      obtain rfl := sq.hr
      obtain ⟨a1, c1, rfl⟩ := own_sl d1
      obtain ⟨a3, c3, rfl⟩ := own_sl d3
      obtain ⟨q1, q2, q3⟩ := done_end sq beW ko (Nat.le_trans h2.size hD) hK
      have k0 := box_cells sq.b3 0 _ rfl
      have k1 := box_cells sq.b3 1 _ rfl
      have k2 := box_cells sq.b3 2 _ rfl
      have k3 := box_cells sq.b3 3 _ rfl
      have j0 := box_cells sq.b2 0 _ rfl
      have j1 := box_cells sq.b2 1 _ rfl
      have j2 := box_cells sq.b2 2 _ rfl
      have j3 := box_cells sq.b2 3 _ rfl
      have l0 := box_frozen sq.b2 0
      have l1 := box_frozen sq.b2 1
      have l2 := box_frozen sq.b2 2
      have l3 := box_frozen sq.b2 3
      have Q1 := hidi q1
      have Q2 := hidi q2
      have Q3 := hidi q3
      clear sq beW hK q1 q2 q3 d1 d3 iv h2 hD
      go_wp2_with fail
      refine npn_ret ?_
      refine ⟨by simp, .inl ⟨_, _, rfl, run_takeDeferred Q1.out, ?_⟩⟩
      exact ⟨_, results_cell_row rfl _ _ w.heap.size 49 _ (0, 0) _ rfl Q2.out Tryz.underlying49 rfl (by kernel_rfl), _, _, _, rfl, _, Q3.out⟩
end Go.Proofs.YtipagdhoeocjeaaGreat.Li
