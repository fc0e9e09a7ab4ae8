import Derived.Test.YtkjeneklkdekoaaGreatDoorRdr
import Derived.Test.YtkjeneklkdekoaaGreatDoorRds
import Derived.Test.YtkjeneklkdekoaaGreatDoorByh
import Derived.Test.YtkjeneklkdekoaaGreatDoorRej
namespace Go.Proofs.YtkjeneklkdekoaaGreatDoor
open Go Go.RowKit
set_option linter.unusedSimpArgs false
set_option linter.unusedVariables false

/-! ### WireReads: what is in memory -/
theorem room_one {w : World} {ab : Option Addr} {l0 kb : Nat} {z0 : Nat → Int} (hl0 : ¬ 140000 < l0) (cb : ∀ W, Below w.heap.size w W → Came W ab l0 kb z0) :
    Calls Tryz.prog 6 #[.pointer (some ⟨w.heap.size, 0, none⟩), .slice ab l0 kb] ((w.alloc (.cells rm0 40)).alloc (.cells bk0 47)) fun r w' => ∃ g1, r = .returned (.slice (some ⟨g1, 0, none⟩) l0 (l0 + 600)) ∧ W1 w l0 z0 g1 w' := by
  rw [rm0_nil]
  have hq0 := Rm.Rq.start w
  have hB : Below w.heap.size w ((w.alloc (.cells Rm.nil28 40)).alloc (.cells bk0 47)) := ((Below.refl _ _).alloc (Nat.le_refl _) _).alloc (by simp) _
  have hq : Rm.Rq ((w.alloc (.cells Rm.nil28 40)).alloc (.cells bk0 47)) w.heap.size w.heap.size 0 Rm.nil28 (.slice none 0 0) (.slice none 0 0) [] [] := by
    refine ⟨?_, hq0.c0, hq0.c1, hq0.nil, hq0.bs, World.ownsRow_nil _ _ _ _, World.ownsRow_nil _ _ _ _, fun i hi => by omega⟩
    rw [Below.heap_alloc _ _ _ (by simp)]
    exact hq0.at_
  have hbb : ((w.alloc (.cells Rm.nil28 40)).alloc (.cells bk0 47)).heap[w.heap.size + 1]? = some (.cells bk0 47 (0, 0)) := heap_alloc2_new w _ _
  refine (lay2 hq (by omega) ab l0 kb z0 (by omega) (cb _ hB)).mono ?_
  rintro e w' ⟨g, cs, vb, va, xsb, xsa, cp, rfl, hg, q1, q2, q3, rfl, rfl, q4⟩
  refine ⟨g, rfl, cs, vb, va, _, _, cp, q1, rfl, rfl, q2, q4, ?_, hB.trans q3.1, (q3.2 _ _ 47 (.inr rfl) hbb).trans hbb⟩
  simp at hg
  omega
theorem room_two {w W : World} {ad : Option Addr} {l0 l1 kd g1 : Nat} {z0 z1 : Nat → Int} (hl1 : ¬ 140000 < l1) (cd : ∀ W, Below w.heap.size w W → Came W ad l1 kd z1) (h : W1 w l0 z0 g1 W) :
    Calls Tryz.prog 6 #[.pointer (some ⟨w.heap.size, 0, none⟩), .slice ad l1 kd] W fun r w' => ∃ g2, r = .returned (.slice (some ⟨g2, 0, none⟩) l1 (l1 + 600)) ∧ ∃ U V, SW w l0 l1 g1 g2 0 z0 z1 U V w' := by
  obtain ⟨cs, vb, va, xsb, xsa, cp1, q1, rfl, rfl, q2, ⟨c1, q3⟩, q4, q5, q6⟩ := h
  refine (lay2 q1 (by omega) ad l1 kd z1 (by omega) (cd _ q5)).mono ?_
  rintro e w' ⟨g2, cs', vb', va', xsb', xsa', cp2, rfl, hg, r1, r2, r3, rfl, rfl, c2, r4⟩
  have k1 : w'.heap[g1]? = some (.cells c1 5 (0, 0)) := (r3.2 g1 c1 5 (.inl rfl) q3).trans q3
  have k6 : w'.heap[w.heap.size + 1]? = some (.cells bk0 47 (0, 0)) := (r3.2 _ _ 47 (.inr rfl) q6).trans q6
  have hlt := lt_of_block q3
  refine ⟨g2, rfl, fun k => k = w.heap.size + 1, fun k => k = w.heap.size ∨ vb'.ownBlock = some k ∨ va'.ownBlock = some k ∨ k = g1 ∨ k = g2, ⟨?_, ⟨cs', vb', va', _, _, cp1, cp2, r1, rfl, rfl, fun k => Iff.rfl⟩, ?_, ?_, came_heap q2 (k1.trans q3.symm), r2, by omega, .inr (.inr (.inr (.inl rfl))), .inr (.inr (.inr (.inr rfl))), q5.trans r3.1⟩⟩
  · exact bk_start k6 bk0_hd bk0_rows
  · rintro k rfl hv
    rcases hv with q | q | q | q | q
    · omega
    · obtain ⟨c, hc⟩ := own_blk r1.ob q
      rw [k6] at hc
      simp at hc
    · obtain ⟨c, hc⟩ := own_blk r1.oa q
      rw [k6] at hc
      simp at hc
    · omega
    · rw [← q, k6] at r4
      simp at r4
  · intro k q
    rcases q with q | q | q | q | q | q
    · omega
    · omega
    · exact (r1.ob.lt k q).1
    · exact (r1.oa.lt k q).1
    · omega
    · have := q5.size
      omega
/-- The program's Read. -/
theorem pRead_some {w : World} {g l k : Nat} {z : Nat → Int} (h : Came w (some ⟨g, 0, none⟩) l k z) (hl : l ≤ 300000) : Calls Tryz.prog 12 #[.slice (some ⟨g, 0, none⟩) l k] w fun e w' => ∃ rb a c, e = .returned (.pointer (some ⟨rb, 0, none⟩)) ∧ Wrd w' rb a l c z ⟨0, 0, 0⟩ ∧ w.heap.size ≤ rb ∧ (∀ g, a = some ⟨g, 0, none⟩ → w.heap.size ≤ g) ∧ Below w.heap.size w w' := by
  refine (read_some _ l k z w h (by omega)).mono ?_
  rintro e w' ⟨rb, g', cp, rfl, q1, q2, q3, q4, q5, q6, q7⟩
  exact ⟨rb, _, cp, rfl, ⟨q1, came_of q4 q2.1 (fun i hi => q2.2 i hi), .inr ⟨g', rfl, q3⟩, Nat.zero_le _, hl⟩, q6, fun g e => by cases e; exact q5, q7⟩
/-- A pair that was made. -/
theorem pa_made {w1 w2 : World} {n0 r m l c c' : Nat} {a a' : Option Addr} {z : Nat → Int} {t : Rs} (h1 : Wrd w1 r a l c z t) (g1 : n0 ≤ r) (g2 : ∀ g, a = some ⟨g, 0, none⟩ → n0 ≤ g) (hs : n0 ≤ w1.heap.size) (hb : Below w1.heap.size w1 w2) (h2 : Rrd w2 m a' l c' z t) (g3 : w1.heap.size ≤ m) (g4 : ∀ g, a' = some ⟨g, 0, none⟩ → w1.heap.size ≤ g) : ∃ F, Pa w2 r m l z t t F ∧ ∀ k, F k → n0 ≤ k := by
  have hr : r < w1.heap.size := lt_of_block h1.rr
  have hm : m < w2.heap.size := lt_of_block h2.rr
  have hs2 := hb.size
  have ga : ∀ g, a = some ⟨g, 0, none⟩ → 0 < l → g < w1.heap.size := fun g e q => by
    subst e
    exact lt_of_cell (came_cell h1.cm q)
  have ga' : ∀ g, a' = some ⟨g, 0, none⟩ → 0 < l → g < w2.heap.size := fun g e q => by
    subst e
    exact lt_of_cell (came_cell h2.cm q)
  refine ⟨fun k => k = r ∨ k = m ∨ (0 < l ∧ (a = some ⟨k, 0, none⟩ ∨ a' = some ⟨k, 0, none⟩)), ⟨⟨a, c, a', c', h1.below hb, h2, fun g e q => ⟨.inr (.inr ⟨q, .inl e⟩), fun x => ?_⟩, fun g e q => ⟨.inr (.inr ⟨q, .inr e⟩), fun x => ?_⟩⟩, by omega, .inl rfl, .inr (.inl rfl), fun k q => ?_⟩, fun k q => ?_⟩
  · have := ga g e q
    omega
  · have := g4 g e
    omega
  · rcases q with rfl | rfl | ⟨q, e | e⟩
    · omega
    · exact hm
    · have := ga k e q
      omega
    · exact ga' k e q
  · rcases q with rfl | rfl | ⟨q, e | e⟩
    · exact g1
    · omega
    · exact g2 k e
    · have := g4 k e
      omega
/-- The state of WireReads. -/
structure SR (w : World) (l0 l1 g1 g2 r1 m1 r2 m2 s N : Nat) (z0 z1 : Nat → Int) (U V F1 F2 : Nat → Prop) (ta tb : Rs) (W : World) : Prop where
  bk : Bk W (w.heap.size + 1) N U
  r2' : R2 W w.heap.size w.heap.size g1 l0 g2 l1 V
  p1 : Pa W r1 m1 l0 z0 ta ta F1
  p2 : Pa W r2 m2 l1 z1 tb tb F2
  pc : W.heap[s]? = some (.cells #[.pointer (some ⟨r1, 0, none⟩), .pointer (some ⟨m1, 0, none⟩), .pointer (some ⟨r2, 0, none⟩), .pointer (some ⟨m2, 0, none⟩)] 60 (0, 0))
  d1 : ∀ k, U k → ¬ V k ∧ ¬ F1 k ∧ ¬ F2 k ∧ k ≠ s
  d2 : ∀ k, V k → ¬ F1 k ∧ ¬ F2 k ∧ k ≠ s
  d3 : ∀ k, F1 k → ¬ F2 k ∧ k ≠ s
  d4 : ∀ k, F2 k → k ≠ s
  lo : ∀ k, U k ∨ V k ∨ F1 k ∨ F2 k → w.heap.size ≤ k
  x1 : ∀ j, j < l0 → ∃ v, W.cell? ⟨g1, j, none⟩ = some (.int .u8 v)
  x2 : ∀ j, j < l1 → ∃ v, W.cell? ⟨g2, j, none⟩ = some (.int .u8 v)
  ne : g1 ≠ g2
  v1 : V g1
  v2 : V g2
  be : Below w.heap.size w W
theorem SR.pcs {w : World} {l0 l1 g1 g2 r1 m1 r2 m2 s N : Nat} {z0 z1 : Nat → Int} {U V F1 F2 : Nat → Prop} {ta tb : Rs} {W : World} (h : SR w l0 l1 g1 g2 r1 m1 r2 m2 s N z0 z1 U V F1 F2 ta tb W) : PC W r1 m1 r2 m2 s := by
  have hp := h.pc
  exact ⟨cells_at hp rfl, cells_at hp rfl, cells_at hp rfl, cells_at hp rfl⟩
theorem R2.same {W W' : World} {R base g1 l0 g2 l1 : Nat} {V : Nat → Prop} (h : R2 W R base g1 l0 g2 l1 V) (v1 : V g1) (v2 : V g2) (hk : ∀ k, V k → W'.heap[k]? = W.heap[k]?) : R2 W' R base g1 l0 g2 l1 V := by
  obtain ⟨⟨d1, e1⟩, d2, e2⟩ := h.lists
  exact h.keep (fun j q _ _ => hk j q) ⟨d1, (hk g1 v1).trans e1⟩ ⟨d2, (hk g2 v2).trans e2⟩ (fun j _ => cell_alike (hk g1 v1)) (fun j _ => cell_alike (hk g2 v2))
theorem SR.below {w : World} {l0 l1 g1 g2 r1 m1 r2 m2 s N : Nat} {z0 z1 : Nat → Int} {U V F1 F2 : Nat → Prop} {ta tb : Rs} {W W' : World} (h : SR w l0 l1 g1 g2 r1 m1 r2 m2 s N z0 z1 U V F1 F2 ta tb W) (hb : Below W.heap.size W W') : SR w l0 l1 g1 g2 r1 m1 r2 m2 s N z0 z1 U V F1 F2 ta tb W' :=
  ⟨h.bk.keep (fun k q => hb.block k (h.bk.lt q)), h.r2'.same h.v1 h.v2 (fun k q => hb.block k (h.r2'.lt q)), h.p1.below hb, h.p2.below hb, (hb.block s (lt_of_block h.pc)).trans h.pc, h.d1, h.d2, h.d3, h.d4, h.lo,
    fun j q => by obtain ⟨v, e⟩ := h.x1 j q; exact ⟨v, (cell_alike (hb.block g1 (h.r2'.lt h.v1))).trans e⟩, fun j q => by obtain ⟨v, e⟩ := h.x2 j q; exact ⟨v, (cell_alike (hb.block g2 (h.r2'.lt h.v2))).trans e⟩, h.ne, h.v1, h.v2, h.be.trans (hb.mono h.be.size)⟩
/-- The first pair's does. -/
theorem SR.does1 {w : World} {l0 l1 g1 g2 r1 m1 r2 m2 s N N' : Nat} {z0 z1 : Nat → Int} {U U' V F1 F2 : Nat → Prop} {ta tb tx : Rs} {W W' : World} (h : SR w l0 l1 g1 g2 r1 m1 r2 m2 s N z0 z1 U V F1 F2 ta tb W) (hn : Dn W r1 m1 (w.heap.size + 1) N l0 z0 F1 U tx N' U' W') : SR w l0 l1 g1 g2 r1 m1 r2 m2 s N' z0 z1 U' V F1 F2 tx tb W' := by
  have hk : ∀ k, k < W.heap.size → ¬ F1 k → ¬ U k → W'.heap[k]? = W.heap[k]? := fun k q1 q2 q3 => hn.ch.block k q1 (fun x => x.elim q2 q3)
  have kV : ∀ k, V k → W'.heap[k]? = W.heap[k]? := fun k q => hk k (h.r2'.lt q) (h.d2 k q).1 (fun u => (h.d1 k u).1 q)
  have hs := lt_of_block h.pc
  have hsz := h.be.size
  refine ⟨hn.bk, h.r2'.same h.v1 h.v2 kV, hn.pa, h.p2.keep hn.ch.size (fun k q => hk k (h.p2.lt k q) (fun x => (h.d3 k x).1 q) (fun u => (h.d1 k u).2.2.1 q)), (hk s hs (fun x => (h.d3 s x).2 rfl) (fun u => (h.d1 s u).2.2.2 rfl)).trans h.pc, fun k u => ?_, h.d2, h.d3, h.d4, fun k q => ?_,
    fun j q => by obtain ⟨v, e⟩ := h.x1 j q; exact ⟨v, (cell_alike (kV g1 h.v1)).trans e⟩, fun j q => by obtain ⟨v, e⟩ := h.x2 j q; exact ⟨v, (cell_alike (kV g2 h.v2)).trans e⟩, h.ne, h.v1, h.v2, ⟨hn.ch.os.trans h.be.os, hn.ch.tape.trans h.be.tape, hn.ch.output.trans h.be.output, Nat.le_trans hsz hn.ch.size, fun j hj => (hk j (by omega) (fun x => by have := h.lo j (.inr (.inr (.inl x))); omega) (fun x => by have := h.lo j (.inl x); omega)).trans (h.be.block j hj)⟩⟩
  · rcases hn.un k u with u | u
    · exact h.d1 k u
    · exact ⟨fun q => by have := h.r2'.lt q; omega, fun q => by have := h.p1.lt k q; omega, fun q => by have := h.p2.lt k q; omega, by omega⟩
  · rcases q with q | q
    · rcases hn.un k q with u | u
      · exact h.lo k (.inl u)
      · omega
    · exact h.lo k (.inr q)
theorem SR.does2 {w : World} {l0 l1 g1 g2 r1 m1 r2 m2 s N N' : Nat} {z0 z1 : Nat → Int} {U U' V F1 F2 : Nat → Prop} {ta tb tx : Rs} {W W' : World} (h : SR w l0 l1 g1 g2 r1 m1 r2 m2 s N z0 z1 U V F1 F2 ta tb W) (hn : Dn W r2 m2 (w.heap.size + 1) N l1 z1 F2 U tx N' U' W') : SR w l0 l1 g1 g2 r1 m1 r2 m2 s N' z0 z1 U' V F1 F2 ta tx W' := by
  have hk : ∀ k, k < W.heap.size → ¬ F2 k → ¬ U k → W'.heap[k]? = W.heap[k]? := fun k q1 q2 q3 => hn.ch.block k q1 (fun x => x.elim q2 q3)
  have kV : ∀ k, V k → W'.heap[k]? = W.heap[k]? := fun k q => hk k (h.r2'.lt q) (h.d2 k q).2.1 (fun u => (h.d1 k u).1 q)
  have hs := lt_of_block h.pc
  have hsz := h.be.size
  refine ⟨hn.bk, h.r2'.same h.v1 h.v2 kV, h.p1.keep hn.ch.size (fun k q => hk k (h.p1.lt k q) (h.d3 k q).1 (fun u => (h.d1 k u).2.1 q)), hn.pa, (hk s hs (fun x => h.d4 s x rfl) (fun u => (h.d1 s u).2.2.2 rfl)).trans h.pc, fun k u => ?_, h.d2, h.d3, h.d4, fun k q => ?_,
    fun j q => by obtain ⟨v, e⟩ := h.x1 j q; exact ⟨v, (cell_alike (kV g1 h.v1)).trans e⟩, fun j q => by obtain ⟨v, e⟩ := h.x2 j q; exact ⟨v, (cell_alike (kV g2 h.v2)).trans e⟩, h.ne, h.v1, h.v2, ⟨hn.ch.os.trans h.be.os, hn.ch.tape.trans h.be.tape, hn.ch.output.trans h.be.output, Nat.le_trans hsz hn.ch.size, fun j hj => (hk j (by omega) (fun x => by have := h.lo j (.inr (.inr (.inr x))); omega) (fun x => by have := h.lo j (.inl x); omega)).trans (h.be.block j hj)⟩⟩
  · rcases hn.un k u with u | u
    · exact h.d1 k u
    · exact ⟨fun q => by have := h.r2'.lt q; omega, fun q => by have := h.p1.lt k q; omega, fun q => by have := h.p2.lt k q; omega, by omega⟩
  · rcases q with q | q
    · rcases hn.un k q with u | u
      · exact h.lo k (.inl u)
      · omega
    · exact h.lo k (.inr q)
/-- A byte of the first list is written. -/
theorem SR.write1 {w : World} {l0 l1 g1 g2 r1 m1 r2 m2 s N i : Nat} {z0 z1 : Nat → Int} {U V F1 F2 : Nat → Prop} {ta tb : Rs} {W : World} (h : SR w l0 l1 g1 g2 r1 m1 r2 m2 s N z0 z1 U V F1 F2 ta tb W) (hi : i < l0) : ∃ v, W.cell? ⟨g1, i, none⟩ = some (.int .u8 v) ∧ W.frozen? ⟨g1, i, none⟩ = false ∧ ∀ u, SR w l0 l1 g1 g2 r1 m1 r2 m2 s N z0 z1 U V F1 F2 ta tb (W.setCell ⟨g1, i, none⟩ (.int .u8 u)) := by
  obtain ⟨⟨d1, e1⟩, d2, e2⟩ := h.r2'.lists
  obtain ⟨v, hc⟩ := h.x1 i hi
  refine ⟨v, hc, by simp [World.frozen?, e1], fun u => ?_⟩
  have ot : ∀ k, k ≠ g1 → (W.setCell ⟨g1, i, none⟩ (.int .u8 u)).heap[k]? = W.heap[k]? := fun k q => Below.heap_setCell _ _ _ _ q
  have oc : ∀ j, j ≠ i → (W.setCell ⟨g1, i, none⟩ (.int .u8 u)).cell? ⟨g1, j, none⟩ = W.cell? ⟨g1, j, none⟩ := fun j q => World.cell?_setCell_other W _ _ _ (fun e => q (congrArg Addr.off e).symm)
  have sc : (W.setCell ⟨g1, i, none⟩ (.int .u8 u)).cell? ⟨g1, i, none⟩ = some (.int .u8 u) := World.cell?_setCell_same _ _ _ hc
  have hne := h.ne
  have hv := h.d2 g1 h.v1
  have hsz : W.heap.size ≤ (W.setCell ⟨g1, i, none⟩ (.int .u8 u)).heap.size := by simp [World.setCell]
  refine ⟨h.bk.keep (fun k q => ot k (fun e => (h.d1 k q).1 (e ▸ h.v1))), h.r2'.keep (fun k _ q _ => ot k q) ⟨_, heap_set (i := i) e1 _⟩ ⟨d2, (ot g2 (Ne.symm hne)).trans e2⟩ (fun k hk => oc k (by omega)) (fun k _ => cell_alike (ot g2 (Ne.symm hne))), h.p1.keep hsz (fun k q => ot k (fun e => hv.1 (e ▸ q))), h.p2.keep hsz (fun k q => ot k (fun e => hv.2.1 (e ▸ q))), (ot s (Ne.symm hv.2.2)).trans h.pc, h.d1, h.d2, h.d3, h.d4, h.lo, fun j hj => ?_, fun j hj => ?_, h.ne, h.v1, h.v2, h.be.setCell (h.lo g1 (.inr (.inl h.v1))) _⟩
  · by_cases e : j = i
    · subst e
      exact ⟨u, sc⟩
    · obtain ⟨v', q⟩ := h.x1 j hj
      exact ⟨v', (oc j e).trans q⟩
  · obtain ⟨v', q⟩ := h.x2 j hj
    exact ⟨v', (cell_alike (ot g2 (Ne.symm hne))).trans q⟩
theorem SR.write2 {w : World} {l0 l1 g1 g2 r1 m1 r2 m2 s N i : Nat} {z0 z1 : Nat → Int} {U V F1 F2 : Nat → Prop} {ta tb : Rs} {W : World} (h : SR w l0 l1 g1 g2 r1 m1 r2 m2 s N z0 z1 U V F1 F2 ta tb W) (hi : i < l1) : ∃ v, W.cell? ⟨g2, i, none⟩ = some (.int .u8 v) ∧ W.frozen? ⟨g2, i, none⟩ = false ∧ ∀ u, SR w l0 l1 g1 g2 r1 m1 r2 m2 s N z0 z1 U V F1 F2 ta tb (W.setCell ⟨g2, i, none⟩ (.int .u8 u)) := by
  obtain ⟨⟨d1, e1⟩, d2, e2⟩ := h.r2'.lists
  obtain ⟨v, hc⟩ := h.x2 i hi
  refine ⟨v, hc, by simp [World.frozen?, e2], fun u => ?_⟩
  have ot : ∀ k, k ≠ g2 → (W.setCell ⟨g2, i, none⟩ (.int .u8 u)).heap[k]? = W.heap[k]? := fun k q => Below.heap_setCell _ _ _ _ q
  have oc : ∀ j, j ≠ i → (W.setCell ⟨g2, i, none⟩ (.int .u8 u)).cell? ⟨g2, j, none⟩ = W.cell? ⟨g2, j, none⟩ := fun j q => World.cell?_setCell_other W _ _ _ (fun e => q (congrArg Addr.off e).symm)
  have sc : (W.setCell ⟨g2, i, none⟩ (.int .u8 u)).cell? ⟨g2, i, none⟩ = some (.int .u8 u) := World.cell?_setCell_same _ _ _ hc
  have hne := h.ne
  have hv := h.d2 g2 h.v2
  have hsz : W.heap.size ≤ (W.setCell ⟨g2, i, none⟩ (.int .u8 u)).heap.size := by simp [World.setCell]
  refine ⟨h.bk.keep (fun k q => ot k (fun e => (h.d1 k q).1 (e ▸ h.v2))), h.r2'.keep (fun k _ _ q => ot k q) ⟨d1, (ot g1 hne).trans e1⟩ ⟨_, heap_set (i := i) e2 _⟩ (fun k _ => cell_alike (ot g1 hne)) (fun k hk => oc k (by omega)), h.p1.keep hsz (fun k q => ot k (fun e => hv.1 (e ▸ q))), h.p2.keep hsz (fun k q => ot k (fun e => hv.2.1 (e ▸ q))), (ot s (Ne.symm hv.2.2)).trans h.pc, h.d1, h.d2, h.d3, h.d4, h.lo, fun j hj => ?_, fun j hj => ?_, h.ne, h.v1, h.v2, h.be.setCell (h.lo g2 (.inr (.inl h.v2))) _⟩
  · obtain ⟨v', q⟩ := h.x1 j hj
    exact ⟨v', (cell_alike (ot g1 hne)).trans q⟩
  · by_cases e : j = i
    · subst e
      exact ⟨u, sc⟩
    · obtain ⟨v', q⟩ := h.x2 j hj
      exact ⟨v', (oc j e).trans q⟩
/-- A script that came in: kinds, and whose. -/
def ScR (W : World) (a : Option Addr) (ops : List (Int × Bool)) : Prop := ops ≠ [] → ∃ g o, a = some ⟨g, o, none⟩ ∧ ∀ j k b, ops[j]? = some (k, b) → W.cell? ⟨g, o + j * 2, none⟩ = some (.int .i64 k) ∧ W.cell? ⟨g, o + j * 2 + 1, none⟩ = some (.bool b)
set_option maxRecDepth 100000 in
set_option maxHeartbeats 1000000 in
theorem wreads_long {w : World} {aa ab sa : Option Addr} {l0 ka l1 kb ns cs : Nat} (h : 140000 < l0 ∨ 140000 < l1 ∨ 300 < ns) :
    Calls Tryz.prog 4 #[.slice aa l0 ka, .slice ab l1 kb, .slice sa ns cs] w fun e w' => e = .returned (.bool true) ∧ Below w.heap.size w w' := by
  have B0 : Hid (Below w.heap.size w w) := Below.refl _ _
  by_cases i1 : 140000 < l0
  · have i1' : (140000 : Int) < l0 := by omega
    go_enter Tryz.func4, Tryz.ntmps4
    go_wp2_with fail
    (try go_ret)
    exact ⟨rfl, B0.out⟩
  have i1' : ¬ (140000 : Int) < l0 := by omega
  by_cases i2 : 140000 < l1
  · have i2' : (140000 : Int) < l1 := by omega
    go_enter Tryz.func4, Tryz.ntmps4
    go_wp2_with fail
    (try go_ret)
    exact ⟨rfl, B0.out⟩
  have i2' : ¬ (140000 : Int) < l1 := by omega
  have i3' : (300 : Int) < ns := by omega
  go_enter Tryz.func4, Tryz.ntmps4
  go_wp2_with fail
  (try go_ret)
  exact ⟨rfl, B0.out⟩
set_option maxHeartbeats 1000000 in
/-- WIREREADS, WHOLE. -/
theorem wreads_any {w : World} {aa ab sa : Option Addr} {l0 ka l1 kb ns cs : Nat} {z0 z1 : Nat → Int} (ops : List (Int × Bool)) (hn : ns = ops.length) (hc : ns ≤ cs) (ha : Came w aa l0 ka z0) (hb : Came w ab l1 kb z1) (hS : ScR w sa ops) :
    Calls Tryz.prog 4 #[.slice aa l0 ka, .slice ab l1 kb, .slice sa ns cs] w fun e w' => e = .returned (.bool true) ∧ Below w.heap.size w w' := by
  by_cases hlong : 140000 < l0 ∨ 140000 < l1 ∨ 300 < ns
  · exact wreads_long hlong
  have hl0 : ¬ 140000 < l0 := fun q => hlong (.inl q)
  have hl1 : ¬ 140000 < l1 := fun q => hlong (.inr (.inl q))
  have hns : ¬ 300 < ns := fun q => hlong (.inr (.inr q))
  have ca : ∀ W, Below w.heap.size w W → Came W aa l0 ka z0 := fun W b => came_below (B := 0) ha b
  have cb : ∀ W, Below w.heap.size w W → Came W ab l1 kb z1 := fun W b => came_below (B := 0) hb b
  refine wreads_walk ops hn hc hl0 hl1 hns _ (K1 := W1 w l0 z0)
    (K2 := fun g1 g2 W => ∃ U V, SW w l0 l1 g1 g2 0 z0 z1 U V W)
    (K3 := fun g1 g2 r1 W => ∃ U V n0, SW w l0 l1 g1 g2 0 z0 z1 U V W ∧ (∀ k, U k ∨ V k → k < n0) ∧ w.heap.size ≤ n0 ∧ n0 ≤ W.heap.size ∧ ∃ a c, Wrd W r1 a l0 c z0 ⟨0, 0, 0⟩ ∧ n0 ≤ r1 ∧ ∀ g, a = some ⟨g, 0, none⟩ → n0 ≤ g)
    (K4 := fun g1 g2 r1 m1 W => ∃ U V n0 F1, SW w l0 l1 g1 g2 0 z0 z1 U V W ∧ (∀ k, U k ∨ V k → k < n0) ∧ w.heap.size ≤ n0 ∧ Pa W r1 m1 l0 z0 ⟨0, 0, 0⟩ ⟨0, 0, 0⟩ F1 ∧ ∀ k, F1 k → n0 ≤ k)
    (K5 := fun g1 g2 r1 m1 r2 W => ∃ U V n0 n1 F1, SW w l0 l1 g1 g2 0 z0 z1 U V W ∧ (∀ k, U k ∨ V k → k < n0) ∧ w.heap.size ≤ n0 ∧ Pa W r1 m1 l0 z0 ⟨0, 0, 0⟩ ⟨0, 0, 0⟩ F1 ∧ (∀ k, F1 k → n0 ≤ k ∧ k < n1) ∧ n0 ≤ n1 ∧ n1 ≤ W.heap.size ∧ ∃ a c, Wrd W r2 a l1 c z1 ⟨0, 0, 0⟩ ∧ n1 ≤ r2 ∧ ∀ g, a = some ⟨g, 0, none⟩ → n1 ≤ g)
    (K6 := fun g1 g2 r1 m1 r2 m2 W => ∃ U V n0 n1 F1 F2, SW w l0 l1 g1 g2 0 z0 z1 U V W ∧ (∀ k, U k ∨ V k → k < n0) ∧ w.heap.size ≤ n0 ∧ Pa W r1 m1 l0 z0 ⟨0, 0, 0⟩ ⟨0, 0, 0⟩ F1 ∧ (∀ k, F1 k → n0 ≤ k ∧ k < n1) ∧ n0 ≤ n1 ∧ Pa W r2 m2 l1 z1 ⟨0, 0, 0⟩ ⟨0, 0, 0⟩ F2 ∧ ∀ k, F2 k → n1 ≤ k)
    (fun g1 g2 r1 m1 r2 m2 s W => (∃ U V F1 F2, SR w l0 l1 g1 g2 r1 m1 r2 m2 s 0 z0 z1 U V F1 F2 ⟨0, 0, 0⟩ ⟨0, 0, 0⟩ W) ∧ Came W (some ⟨g1, 0, none⟩) l0 (l0 + 600) z0 ∧ Came W (some ⟨g2, 0, none⟩) l1 (l1 + 600) z1)
    (fun g1 g2 r1 m1 r2 m2 s i W => ∃ U V F1 F2, SR w l0 l1 g1 g2 r1 m1 r2 m2 s 0 z0 z1 U V F1 F2 ⟨0, 0, 0⟩ ⟨0, 0, 0⟩ W)
    (fun g1 g2 r1 m1 r2 m2 s i W => ∃ U V F1 F2, SR w l0 l1 g1 g2 r1 m1 r2 m2 s 0 z0 z1 U V F1 F2 ⟨0, 0, 0⟩ ⟨0, 0, 0⟩ W)
    (fun g1 g2 r1 m1 r2 m2 s i W => i ≤ ns ∧ ∃ N U V F1 F2 ta tb, N ≤ i ∧ SR w l0 l1 g1 g2 r1 m1 r2 m2 s N z0 z1 U V F1 F2 ta tb W)
    (F2 := fun _ => True) (F3 := fun _ => True) (F1 := fun W => ∃ g1 g2 r1 m1 r2 m2 s N U V F1 F2 ta tb, SR w l0 l1 g1 g2 r1 m1 r2 m2 s N z0 z1 U V F1 F2 ta tb W)
    (room_one hl0 ca) (fun g1 W h => room_two hl1 cb h) ?_ ?_ ?_ ?_ ?_ ?_ ?_ ?_ ?_ ?_ ?_ ?_ ?_ ?_ ?_ ?_ ?_ ?_ ?_ ?_ ?_ ?_
  · rintro g1 g2 W ⟨U, V, h⟩
    refine (pRead_some h.c1 (by omega)).mono ?_
    rintro e w' ⟨r1, a, c, rfl, q1, q2, q3, q4⟩
    exact ⟨r1, rfl, U, V, W.heap.size, h.below q4, fun k q => q.elim (fun q => h.bk.lt q) (fun q => h.r2.lt q), h.be.size, q4.size, a, c, q1, q2, q3⟩
  · rintro g1 g2 r1 W ⟨U, V, n0, h, h1, h2, h3, a, c, h4, h5, h6⟩
    refine (refRead_any (ca W h.be) (by omega)).mono ?_
    rintro e w' ⟨m1, a', c', rfl, q1, q2, q3, q4⟩
    obtain ⟨F, p1, p2⟩ := pa_made h4 h5 h6 h3 q4 q1 q2 q3
    exact ⟨m1, rfl, U, V, n0, F, h.below q4, h1, h2, p1, p2⟩
  · rintro g1 g2 r1 m1 W ⟨U, V, n0, F1, h, h1, h2, h3, h4⟩
    refine (pRead_some h.c2 (by omega)).mono ?_
    rintro e w' ⟨r2, a, c, rfl, q1, q2, q3, q4⟩
    exact ⟨r2, rfl, U, V, n0, W.heap.size, F1, h.below q4, h1, h2, h3.below q4, fun k q => ⟨h4 k q, h3.lt k q⟩, by have := h4 _ h3.fr; have := h3.lt _ h3.fr; omega, q4.size, a, c, q1, q2, q3⟩
  · rintro g1 g2 r1 m1 r2 W ⟨U, V, n0, n1, F1, h, h1, h2, h3, h4, h5, h6, a, c, h7, h8, h9⟩
    refine (refRead_any (cb W h.be) (by omega)).mono ?_
    rintro e w' ⟨m2, a', c', rfl, q1, q2, q3, q4⟩
    obtain ⟨F2, p1, p2⟩ := pa_made h7 h8 h9 h6 q4 q1 q2 q3
    exact ⟨m2, rfl, U, V, n0, n1, F1, F2, h.below q4, h1, h2, h3.below q4, h4, h5, p1, p2⟩
  · rintro g1 g2 r1 m1 r2 m2 W ⟨U, V, n0, n1, F1, F2, h, h1, h2, h3, h4, h5, h6, h7⟩
    have hB : Below W.heap.size W (W.alloc (.cells #[.pointer (some ⟨r1, 0, none⟩), .pointer (some ⟨m1, 0, none⟩), .pointer (some ⟨r2, 0, none⟩), .pointer (some ⟨m2, 0, none⟩)] 60)) := (Below.refl _ _).alloc (Nat.le_refl _) _
    have h' := h.below hB
    refine ⟨⟨U, V, F1, F2, ⟨h'.bk, h'.r2, h3.below hB, h6.below hB, heap_alloc_new _ _, fun k u => ⟨h.uv k u, fun q => by have := h1 k (.inl u); have := (h4 k q).1; omega, fun q => by have := h1 k (.inl u); have := h7 k q; omega, by have := h.bk.lt u; omega⟩, fun k v => ⟨fun q => by have := h1 k (.inr v); have := (h4 k q).1; omega, fun q => by have := h1 k (.inr v); have := h7 k q; omega, by have := h.r2.lt v; omega⟩, fun k q => ⟨fun x => by have := (h4 k q).2; have := h7 k x; omega, by have := h3.lt k q; omega⟩, fun k q => by have := h6.lt k q; omega, fun k q => ?_, fun j hj => ⟨z0 j, came_cell h'.c1 hj⟩, fun j hj => ⟨z1 j, came_cell h'.c2 hj⟩, h.ne, h.v1, h.v2, h'.be⟩⟩, h'.c1, h'.c2⟩
    rcases q with q | q | q | q
    · exact h.lo k (.inl q)
    · exact h.lo k (.inr q)
    · have := (h4 k q).1
      omega
    · have := h7 k q
      omega
  · rintro g1 g2 r1 m1 r2 m2 s W ⟨⟨U, V, F1, F2, h⟩, _⟩
    exact h.pcs
  · rintro g1 g2 r1 m1 r2 m2 s W ⟨⟨U, V, F1, F2, h⟩, h1, h2⟩
    exact same_d W _ _ l0 _ ka z0 h1 (ca W h.be)
  · rintro g1 g2 r1 m1 r2 m2 s W ⟨⟨U, V, F1, F2, h⟩, h1, h2⟩
    exact same_d W _ _ l1 _ kb z1 h2 (cb W h.be)
  · rintro g1 g2 r1 m1 r2 m2 s W ⟨⟨U, V, F1, F2, h⟩, h1, h2⟩
    exact h.r2'.hold
  · rintro g1 g2 r1 m1 r2 m2 s W ⟨h, _⟩
    exact h
  · rintro g1 g2 r1 m1 r2 m2 s i W hi ⟨U, V, F1, F2, h⟩
    obtain ⟨v, e1, e2, e3⟩ := h.write1 hi
    exact ⟨v, e1, e2, fun u => ⟨U, V, F1, F2, e3 u⟩⟩
  · rintro g1 g2 r1 m1 r2 m2 s W h
    exact h
  · rintro g1 g2 r1 m1 r2 m2 s i W hi ⟨U, V, F1, F2, h⟩
    obtain ⟨v, e1, e2, e3⟩ := h.write2 hi
    exact ⟨v, e1, e2, fun u => ⟨U, V, F1, F2, e3 u⟩⟩
  · rintro g1 g2 r1 m1 r2 m2 s W ⟨U, V, F1, F2, h⟩
    exact ⟨Nat.zero_le _, 0, U, V, F1, F2, _, _, Nat.le_refl _, h⟩
  · rintro g1 g2 r1 m1 r2 m2 s i W ⟨hi, N, U, V, F1, F2, ta, tb, hN, h⟩
    exact h.pcs
  · rintro g1 g2 r1 m1 r2 m2 s i W ⟨hi, N, U, V, F1, F2, ta, tb, hN, h⟩
    obtain ⟨a, c, a', c', p1, p2, _, _⟩ := h.p1.ex
    refine (stands_any p1 p2).mono ?_
    rintro e w' ⟨rfl, q⟩
    exact ⟨rfl, hi, N, U, V, F1, F2, ta, tb, hN, h.below q⟩
  · rintro g1 g2 r1 m1 r2 m2 s i W ⟨hi, N, U, V, F1, F2, ta, tb, hN, h⟩
    obtain ⟨a, c, a', c', p1, p2, _, _⟩ := h.p2.ex
    refine (stands_any p1 p2).mono ?_
    rintro e w' ⟨rfl, q⟩
    exact ⟨rfl, hi, N, U, V, F1, F2, ta, tb, hN, h.below q⟩
  · rintro g1 g2 r1 m1 r2 m2 s i j W kind sec ⟨hi, N, U, V, F1, F2, ta, tb, hN, h⟩ hj
    obtain ⟨g, o, e, hcell⟩ := hS (fun q => by rw [q] at hj; simp at hj)
    obtain ⟨x1, x2⟩ := hcell j kind sec hj
    exact ⟨g, o, e, cell_later h.be x1, cell_later h.be x2⟩
  · rintro g1 g2 r1 m1 r2 m2 s i W kind ⟨hi, N, U, V, F1, F2, ta, tb, hN, h⟩ hj
    have h' := h.below (Below.refl _ _).drew
    have hi2 : i < ops.length := (List.getElem?_eq_some_iff.1 hj).1
    refine (does_any h'.p1 h'.bk (by omega) (fun k q u => (h'.d1 k u).2.1 q) kind _).mono ?_
    rintro e w' ⟨rfl, tx, N', U', hd⟩
    have := hd.n1
    exact ⟨rfl, by omega, N', U', V, F1, F2, tx, tb, by omega, h'.does1 hd⟩
  · rintro g1 g2 r1 m1 r2 m2 s i W kind ⟨hi, N, U, V, F1, F2, ta, tb, hN, h⟩ hj
    have h' := h.below (Below.refl _ _).drew
    have hi2 : i < ops.length := (List.getElem?_eq_some_iff.1 hj).1
    refine (does_any h'.p2 h'.bk (by omega) (fun k q u => (h'.d1 k u).2.2.1 q) kind _).mono ?_
    rintro e w' ⟨rfl, tx, N', U', hd⟩
    have := hd.n1
    exact ⟨rfl, by omega, N', U', V, F1, F2, ta, tx, by omega, h'.does2 hd⟩
  · rintro g1 g2 r1 m1 r2 m2 s W ⟨hi, N, U, V, F1, F2, ta, tb, hN, h⟩
    refine (bk_hold h.bk (by omega)).mono ?_
    rintro e w' ⟨rfl, q⟩
    exact ⟨rfl, g1, g2, r1, m1, r2, m2, s, N, U, V, F1, F2, ta, tb, h.below q⟩
  · rintro W ⟨g1, g2, r1, m1, r2, m2, s, N, U, V, F1, F2, ta, tb, h⟩
    refine (h.r2'.hold).mono ?_
    rintro e w' ⟨rfl, rfl⟩
    exact ⟨rfl, rfl, h.be⟩
end Go.Proofs.YtkjeneklkdekoaaGreatDoor
