import Derived.Test.YtcoccggimbficaaDoorCa
import Derived.Test.YtcoccggimbficaaDoorWm
import Derived.Deep.Cut
import Derived.Laws.Tables
namespace Go.Proofs.YtcoccggimbficaaDoor
open Go Go.RowKit Go.Sort
set_option linter.unusedSimpArgs false
set_option linter.unusedVariables false

/-- Nothing has changed but one packet's block. -/
structure Bx (g : Nat) (cs : Array Value) (w w' : World) : Prop where
  os : w'.os = w.os
  tape : w'.tape = w.tape
  output : w'.output = w.output
  size : w.heap.size ≤ w'.heap.size
  keep : ∀ k, k < w.heap.size → k ≠ g → w'.heap[k]? = w.heap[k]?
  blk : w'.heap[g]? = some (.cells cs 31)
theorem Bx.below {g : Nat} {cs : Array Value} {w w1 w2 : World} (h : Bx g cs w w1) (hb : Below w1.heap.size w1 w2) : Bx g cs w w2 :=
  ⟨hb.os.trans h.os, hb.tape.trans h.tape, hb.output.trans h.output, Nat.le_trans h.size hb.size, fun k hk hn => (hb.block k (Nat.lt_of_lt_of_le hk h.size)).trans (h.keep k hk hn), (hb.block g (block_lt h.blk)).trans h.blk⟩
theorem Bx.set {g : Nat} {cs : Array Value} {w w1 : World} (h : Bx g cs w w1) (i : Nat) (v : Value) : Bx g (cs.setIfInBounds i v) w (w1.setCell ⟨g, i, none⟩ v) := by
  refine ⟨h.os, h.tape, h.output, ?_, fun k hk hn => (heap_setCell_other w1 _ k _ hn).trans (h.keep k hk hn), heap_setCell_same w1 g i cs 31 v h.blk⟩
  show w.heap.size ≤ (w1.heap.modify g _).size
  have := h.size
  simpa using this
theorem Bx.cell {g : Nat} {cs : Array Value} {w w1 : World} (h : Bx g cs w w1) (k : Nat) (v : Value) (hk : cs[k]? = some v) : w1.cell? ⟨g, k, none⟩ = some v := by
  unfold World.cell?
  simp [h.blk, hk]
theorem Bx.frozen {g : Nat} {cs : Array Value} {w w1 : World} (h : Bx g cs w w1) (k : Nat) : w1.frozen? ⟨g, k, none⟩ = false := by
  simp [World.frozen?, h.blk]
theorem Bx.far {g : Nat} {cs : Array Value} {w w1 : World} (h : Bx g cs w w1) {a : Addr} {v : Value} (ha : w.cell? a = some v) (hn : a.block ≠ g) : w1.cell? a = some v := by
  have hlt := World.block_lt_of_cell? _ _ ha
  unfold World.cell? at ha ⊢
  rw [h.keep a.block hlt hn]
  exact ha

/-- A list in blocks that came later. -/
def Nx (B : Nat) (s : Sl) : Prop := ∀ b off, 0 < s.n → s.a = some ⟨b, off, none⟩ → B ≤ b
theorem Nx.mono {B B' : Nat} {s : Sl} (h : Nx B s) (hb : B' ≤ B) : Nx B' s := fun b off h0 he => Nat.le_trans hb (h b off h0 he)
def Kp (B : Nat) (w1 w2 : World) : Prop := ∀ k, B ≤ k → k < w1.heap.size → w2.heap[k]? = w1.heap[k]?
theorem Kp.cell {B : Nat} {w1 w2 : World} (h : Kp B w1 w2) {a : Addr} {v : Value} (ha : w1.cell? a = some v) (hb : B ≤ a.block) : w2.cell? a = some v := by
  have hlt := World.block_lt_of_cell? _ _ ha
  unfold World.cell? at ha ⊢
  rw [h a.block hb hlt]
  exact ha
theorem By.kp {B : Nat} {w1 w2 : World} {s : Sl} {z : Nat → Int} (h : By w1 s z) (hn : Nx B s) (hk : Kp B w1 w2) : By w2 s z := by
  obtain ⟨h1, h2, h3 | ⟨b, off, e, hc⟩⟩ := h
  · exact ⟨h1, h2, .inl h3⟩
  · exact ⟨h1, h2, .inr ⟨b, off, e, fun i hi => hk.cell (hc i hi) (hn b off (by omega) e)⟩⟩
theorem Is.kp {B : Nat} {w1 w2 : World} {s : Sl} {z : Nat → Int} (h : Is w1 s z) (hn : Nx B s) (hk : Kp B w1 w2) : Is w2 s z := by
  obtain ⟨h1, h3 | ⟨b, off, e, hc⟩⟩ := h
  · exact ⟨h1, .inl h3⟩
  · exact ⟨h1, .inr ⟨b, off, e, fun i hi => hk.cell (hc i hi) (hn b off (by omega) e)⟩⟩
theorem Ss.kp {B : Nat} {w1 w2 : World} {s : Sl} {z : Nat → ByteArray} (h : Ss w1 s z) (hn : Nx B s) (hk : Kp B w1 w2) : Ss w2 s z := by
  obtain ⟨h1, h3 | ⟨b, off, e, hc⟩⟩ := h
  · exact ⟨h1, .inl h3⟩
  · exact ⟨h1, .inr ⟨b, off, e, fun i hi => hk.cell (hc i hi) (hn b off (by omega) e)⟩⟩
theorem As.kp {B : Nat} {w1 w2 : World} {s : Sl} {f : Nat → ByteArray} {q : Nat → Int} (h : As w1 s f q) (hn : Nx B s) (hk : Kp B w1 w2) : As w2 s f q := by
  obtain ⟨h1, h3 | ⟨b, off, e, hc⟩⟩ := h
  · exact ⟨h1, .inl h3⟩
  · exact ⟨h1, .inr ⟨b, off, e, fun i hi => ⟨hk.cell (hc i hi).1 (hn b off (by omega) e), hk.cell (hc i hi).2 (hn b off (by omega) e)⟩⟩⟩
theorem kp_below {B : Nat} {w1 w2 : World} (h : Below w1.heap.size w1 w2) : Kp B w1 w2 := fun k _ hk => h.block k hk
theorem kp_set {B : Nat} {w1 : World} {g i : Nat} {v : Value} (h : g < B) : Kp B w1 (w1.setCell ⟨g, i, none⟩ v) := fun k hk _ => heap_setCell_other w1 _ k _ (by show k ≠ g; omega)
theorem Kp.trans {B : Nat} {w1 w2 w3 : World} (h : Kp B w1 w2) (h2 : Kp B w2 w3) (hs : w1.heap.size ≤ w2.heap.size) : Kp B w1 w3 := fun k hk hl => (h2 k hk (by omega)).trans (h k hk hl)
/-- What came in stays. -/
theorem Bx.oldIn {g : Nat} {cs : Array Value} {w w1 : World} (h : Bx g cs w w1) (hg : g = w.heap.size) {p : Pk} {c : Cn} (hin : In w p c) : In w1 p c := by
  have hb : ∀ {a : Addr} {v : Value}, w.cell? a = some v → w1.cell? a = some v := fun ha => h.far ha (by have := World.block_lt_of_cell? _ _ ha; omega)
  constructor
  · obtain ⟨h1, h2, h3 | ⟨b, off, e, hc⟩⟩ := hin.wP
    · exact ⟨h1, h2, .inl h3⟩
    · exact ⟨h1, h2, .inr ⟨b, off, e, fun i hi => hb (hc i hi)⟩⟩
  · obtain ⟨h1, h2, h3 | ⟨b, off, e, hc⟩⟩ := hin.pass
    · exact ⟨h1, h2, .inl h3⟩
    · exact ⟨h1, h2, .inr ⟨b, off, e, fun i hi => hb (hc i hi)⟩⟩
  · obtain ⟨h1, h2, h3 | ⟨b, off, e, hc⟩⟩ := hin.mP
    · exact ⟨h1, h2, .inl h3⟩
    · exact ⟨h1, h2, .inr ⟨b, off, e, fun i hi => hb (hc i hi)⟩⟩
  · obtain ⟨h1, h3 | ⟨b, off, e, hc⟩⟩ := hin.asks
    · exact ⟨h1, .inl h3⟩
    · exact ⟨h1, .inr ⟨b, off, e, fun i hi => ⟨hb (hc i hi).1, hb (hc i hi).2⟩⟩⟩
  · obtain ⟨h1, h3 | ⟨b, off, e, hc⟩⟩ := hin.codes
    · exact ⟨h1, .inl h3⟩
    · exact ⟨h1, .inr ⟨b, off, e, fun i hi => hb (hc i hi)⟩⟩
  · obtain ⟨h1, h3 | ⟨b, off, e, hc⟩⟩ := hin.filters
    · exact ⟨h1, .inl h3⟩
    · exact ⟨h1, .inr ⟨b, off, e, fun i hi => hb (hc i hi)⟩⟩

set_option maxHeartbeats 2000000 in
set_option maxRecDepth 100000 in
theorem copy_new (p : Pk) (c : Cn) (w : World) (hin : In w p c) (hs : Small p c) : Calls Tryd.prog 15 #[p.v] w fun e w' => ∃ s1 s2 s3 s4 s5 s6 : Sl,
    e = .returned ({ p with wP := s1, pass := s2, mP := s3, asks := s4, codes := s5, filters := s6 } : Pk).v ∧ Below w.heap.size w w' ∧ In w' { p with wP := s1, pass := s2, mP := s3, asks := s4, codes := s5, filters := s6 } c ∧
    (s1.n = p.wP.n ∧ s2.n = p.pass.n ∧ s3.n = p.mP.n ∧ s4.n = p.asks.n ∧ s5.n = p.codes.n ∧ s6.n = p.filters.n) ∧ Nx w.heap.size s1 ∧ Nx w.heap.size s2 ∧ Nx w.heap.size s3 ∧ Nx w.heap.size s4 ∧ Nx w.heap.size s5 ∧ Nx w.heap.size s6 := by
  have HI : Hid (In w p c) := hin
  have HS : Hid (Small p c) := hs
  clear hin hs
  rw [show p.v = .agg (pkCells p) from rfl]
  obtain ⟨c0, hc0⟩ : ∃ cs, cs = pkCells p := ⟨_, rfl⟩
  rw [← hc0]
  have a7 : Hid (c0[7]? = some (.slice p.wP.a p.wP.n p.wP.c)) := by show _ = _; rw [hc0]; rfl
  have a13 : Hid (c0[13]? = some (.slice p.pass.a p.pass.n p.pass.c)) := by show _ = _; rw [hc0]; rfl
  have a18 : Hid (c0[18]? = some (.slice p.mP.a p.mP.n p.mP.c)) := by show _ = _; rw [hc0]; rfl
  have a22 : Hid (c0[22]? = some (.slice p.asks.a p.asks.n p.asks.c)) := by show _ = _; rw [hc0]; rfl
  have a23 : Hid (c0[23]? = some (.slice p.codes.a p.codes.n p.codes.c)) := by show _ = _; rw [hc0]; rfl
  have a24 : Hid (c0[24]? = some (.slice p.filters.a p.filters.n p.filters.c)) := by show _ = _; rw [hc0]; rfl
  have hsz : Hid (c0.size = 25) := by show _ = _; rw [hc0]; rfl
  have HC0 : Hid (c0 = pkCells p) := hc0
  clear hc0
  obtain ⟨Z, hZ⟩ : ∃ Z : Array Value, Z = #[.int .i64 0, .int .i64 0, .bool false, .int .i64 0, .string ⟨#[]⟩, .bool false, .string ⟨#[]⟩, .slice none 0 0, .int .i64 0, .bool false, .bool false, .string ⟨#[]⟩, .bool false, .slice none 0 0, .bool false, .int .i64 0, .bool false, .string ⟨#[]⟩, .slice none 0 0, .int .i64 0, .bool false, .int .i64 0, .slice none 0 0, .slice none 0 0, .slice none 0 0] := ⟨_, rfl⟩
  obtain ⟨W0, hW0⟩ : ∃ W0, W0 = (w.alloc (.cells c0 31)).alloc (.cells Z 31) := ⟨_, rfl⟩
  have hs1 : (w.alloc (.cells c0 31)).heap.size = w.heap.size + 1 := by show (w.heap.push _).size = _; simp
  have hs2 : W0.heap.size = w.heap.size + 2 := by rw [hW0]; show ((w.alloc (.cells c0 31)).heap.push _).size = _; simp [hs1]
  have B0 : Hid (Bx w.heap.size c0 w W0) := by
    have bb := below2 w (.cells c0 31) (.cells Z 31)
    rw [hW0]
    exact ⟨bb.os, bb.tape, bb.output, bb.size, fun k hk _ => bb.block k hk, heap_alloc2_old w _ _⟩
  have R0 : Hid (W0.heap[w.heap.size + 1]? = some (.cells Z 31)) := by show _ = _; rw [hW0]; exact heap_alloc2_new w _ _
  have Z0 : Hid (w.heap.size + 2 ≤ W0.heap.size) := by show _ ≤ _; omega
  have HZ : Hid (Z.size = 25) := by show _ = _; rw [hZ]; rfl
  have f7 := B0.out.cell 7 _ a7.out
  rw [hW0, hZ] at f7
  go_enter Tryd.func15, Tryd.ntmps15
  go_wp2_with fail
  go_must (go_at_call 28)
  rw [← hZ] at f7 ⊢
  rw [← hW0] at f7 ⊢
  clear f7 hW0 hs1 hs2 hZ
  refine (renew_bytes p.wP c.wz W0 (B0.out.oldIn rfl HI.out).wP HS.out.wp).mono ?_
  rintro e V1 ⟨s1, rfl, hb, hn1, hc, hx⟩
  have N1 : Hid (s1.n = p.wP.n) := hn1
  have Y1 : Hid (Bx w.heap.size c0 w V1) := B0.out.below hb
  have X1 : Hid (Nx (w.heap.size + 2) s1) := fun b off h0 he => Nat.le_trans Z0.out (hx b off h0 he)
  have T1 : Hid (By V1 s1 c.wz) := hc
  have K1 : Hid (Kp (w.heap.size + 2) W0 V1) := kp_below hb
  have Q1 : Hid (V1.heap[w.heap.size + 1]? = some (.cells Z 31)) := (hb.block _ (by have := Z0.out; omega)).trans R0.out
  have Zv1 : Hid (w.heap.size + 2 ≤ V1.heap.size) := Nat.le_trans Z0.out hb.size
  have HZ1 : Hid (W0.heap.size ≤ V1.heap.size) := hb.size
  clear hb hn1 hc hx
  have g7 := Y1.out.cell 7 _ a7.out
  have z7 := Y1.out.frozen 7
  obtain ⟨W1, hW1⟩ : ∃ W, W = V1.setCell ⟨w.heap.size, 7, none⟩ (.slice s1.a s1.n s1.c) := ⟨_, rfl⟩
  have B1 : Hid (Bx w.heap.size (c0.setIfInBounds 7 (.slice s1.a s1.n s1.c)) w W1) := by rw [hW1]; exact Y1.out.set 7 _
  have R1 : Hid (W1.heap[w.heap.size + 1]? = some (.cells Z 31)) := by show _ = _; rw [hW1]; exact (heap_setCell_other V1 _ _ _ (by show w.heap.size + 1 ≠ w.heap.size; omega)).trans Q1.out
  have D1 : Hid (Kp (w.heap.size + 2) V1 W1) := by rw [hW1]; exact kp_set (by omega)
  have hsv1 : W1.heap.size = V1.heap.size := by rw [hW1]; show (V1.heap.modify _ _).size = _; simp
  have Z1 : Hid (w.heap.size + 2 ≤ W1.heap.size) := by show _ ≤ _; rw [hsv1]; exact Zv1.out
  have E1 : Hid (V1.heap.size ≤ W1.heap.size ∧ W0.heap.size ≤ V1.heap.size) := ⟨by omega, HZ1.out⟩
  clear hsv1
  have b13_1 : Hid ((c0.setIfInBounds 7 (.slice s1.a s1.n s1.c))[13]? = some (.slice p.pass.a p.pass.n p.pass.c)) := by show _ = _; rw [Array.getElem?_setIfInBounds_ne (by decide)]; exact a13.out
  have b18_1 : Hid ((c0.setIfInBounds 7 (.slice s1.a s1.n s1.c))[18]? = some (.slice p.mP.a p.mP.n p.mP.c)) := by show _ = _; rw [Array.getElem?_setIfInBounds_ne (by decide)]; exact a18.out
  have b22_1 : Hid ((c0.setIfInBounds 7 (.slice s1.a s1.n s1.c))[22]? = some (.slice p.asks.a p.asks.n p.asks.c)) := by show _ = _; rw [Array.getElem?_setIfInBounds_ne (by decide)]; exact a22.out
  have b23_1 : Hid ((c0.setIfInBounds 7 (.slice s1.a s1.n s1.c))[23]? = some (.slice p.codes.a p.codes.n p.codes.c)) := by show _ = _; rw [Array.getElem?_setIfInBounds_ne (by decide)]; exact a23.out
  have b24_1 : Hid ((c0.setIfInBounds 7 (.slice s1.a s1.n s1.c))[24]? = some (.slice p.filters.a p.filters.n p.filters.c)) := by show _ = _; rw [Array.getElem?_setIfInBounds_ne (by decide)]; exact a24.out
  have sz1 : Hid ((c0.setIfInBounds 7 (.slice s1.a s1.n s1.c)).size = 25) := by show _ = _; rw [Array.size_setIfInBounds]; exact hsz.out
  go_upto_region 2 with fail
  rw [← hW1]
  clear hW1 g7 z7
  have f13 := B1.out.cell 13 _ b13_1.out
  go_wp2_with fail
  go_must (go_at_call 28)
  clear f13
  refine (renew_bytes p.pass c.pz W1 (B1.out.oldIn rfl HI.out).pass HS.out.ps).mono ?_
  rintro e V2 ⟨s2, rfl, hb, hn2, hc, hx⟩
  have N2 : Hid (s2.n = p.pass.n) := hn2
  have Y2 : Hid (Bx w.heap.size (c0.setIfInBounds 7 (.slice s1.a s1.n s1.c)) w V2) := B1.out.below hb
  have X2 : Hid (Nx (w.heap.size + 2) s2) := fun b off h0 he => Nat.le_trans Z1.out (hx b off h0 he)
  have T2 : Hid (By V2 s2 c.pz) := hc
  have K2 : Hid (Kp (w.heap.size + 2) W1 V2) := kp_below hb
  have Q2 : Hid (V2.heap[w.heap.size + 1]? = some (.cells Z 31)) := (hb.block _ (by have := Z1.out; omega)).trans R1.out
  have Zv2 : Hid (w.heap.size + 2 ≤ V2.heap.size) := Nat.le_trans Z1.out hb.size
  have HZ2 : Hid (W1.heap.size ≤ V2.heap.size) := hb.size
  clear hb hn2 hc hx
  have g13 := Y2.out.cell 13 _ b13_1.out
  have z13 := Y2.out.frozen 13
  obtain ⟨W2, hW2⟩ : ∃ W, W = V2.setCell ⟨w.heap.size, 13, none⟩ (.slice s2.a s2.n s2.c) := ⟨_, rfl⟩
  have B2 : Hid (Bx w.heap.size ((c0.setIfInBounds 7 (.slice s1.a s1.n s1.c)).setIfInBounds 13 (.slice s2.a s2.n s2.c)) w W2) := by rw [hW2]; exact Y2.out.set 13 _
  have R2 : Hid (W2.heap[w.heap.size + 1]? = some (.cells Z 31)) := by show _ = _; rw [hW2]; exact (heap_setCell_other V2 _ _ _ (by show w.heap.size + 1 ≠ w.heap.size; omega)).trans Q2.out
  have D2 : Hid (Kp (w.heap.size + 2) V2 W2) := by rw [hW2]; exact kp_set (by omega)
  have hsv2 : W2.heap.size = V2.heap.size := by rw [hW2]; show (V2.heap.modify _ _).size = _; simp
  have Z2 : Hid (w.heap.size + 2 ≤ W2.heap.size) := by show _ ≤ _; rw [hsv2]; exact Zv2.out
  have E2 : Hid (V2.heap.size ≤ W2.heap.size ∧ W1.heap.size ≤ V2.heap.size) := ⟨by omega, HZ2.out⟩
  clear hsv2
  have b18_2 : Hid (((c0.setIfInBounds 7 (.slice s1.a s1.n s1.c)).setIfInBounds 13 (.slice s2.a s2.n s2.c))[18]? = some (.slice p.mP.a p.mP.n p.mP.c)) := by show _ = _; rw [Array.getElem?_setIfInBounds_ne (by decide)]; exact b18_1.out
  have b22_2 : Hid (((c0.setIfInBounds 7 (.slice s1.a s1.n s1.c)).setIfInBounds 13 (.slice s2.a s2.n s2.c))[22]? = some (.slice p.asks.a p.asks.n p.asks.c)) := by show _ = _; rw [Array.getElem?_setIfInBounds_ne (by decide)]; exact b22_1.out
  have b23_2 : Hid (((c0.setIfInBounds 7 (.slice s1.a s1.n s1.c)).setIfInBounds 13 (.slice s2.a s2.n s2.c))[23]? = some (.slice p.codes.a p.codes.n p.codes.c)) := by show _ = _; rw [Array.getElem?_setIfInBounds_ne (by decide)]; exact b23_1.out
  have b24_2 : Hid (((c0.setIfInBounds 7 (.slice s1.a s1.n s1.c)).setIfInBounds 13 (.slice s2.a s2.n s2.c))[24]? = some (.slice p.filters.a p.filters.n p.filters.c)) := by show _ = _; rw [Array.getElem?_setIfInBounds_ne (by decide)]; exact b24_1.out
  have sz2 : Hid (((c0.setIfInBounds 7 (.slice s1.a s1.n s1.c)).setIfInBounds 13 (.slice s2.a s2.n s2.c)).size = 25) := by show _ = _; rw [Array.size_setIfInBounds]; exact sz1.out
  go_upto_region 3 with fail
  rw [← hW2]
  clear hW2 g13 z13
  have f18 := B2.out.cell 18 _ b18_2.out
  go_wp2_with fail
  go_must (go_at_call 28)
  clear f18
  refine (renew_bytes p.mP c.mz W2 (B2.out.oldIn rfl HI.out).mP HS.out.mp).mono ?_
  rintro e V3 ⟨s3, rfl, hb, hn3, hc, hx⟩
  have N3 : Hid (s3.n = p.mP.n) := hn3
  have Y3 : Hid (Bx w.heap.size ((c0.setIfInBounds 7 (.slice s1.a s1.n s1.c)).setIfInBounds 13 (.slice s2.a s2.n s2.c)) w V3) := B2.out.below hb
  have X3 : Hid (Nx (w.heap.size + 2) s3) := fun b off h0 he => Nat.le_trans Z2.out (hx b off h0 he)
  have T3 : Hid (By V3 s3 c.mz) := hc
  have K3 : Hid (Kp (w.heap.size + 2) W2 V3) := kp_below hb
  have Q3 : Hid (V3.heap[w.heap.size + 1]? = some (.cells Z 31)) := (hb.block _ (by have := Z2.out; omega)).trans R2.out
  have Zv3 : Hid (w.heap.size + 2 ≤ V3.heap.size) := Nat.le_trans Z2.out hb.size
  have HZ3 : Hid (W2.heap.size ≤ V3.heap.size) := hb.size
  clear hb hn3 hc hx
  have g18 := Y3.out.cell 18 _ b18_2.out
  have z18 := Y3.out.frozen 18
  obtain ⟨W3, hW3⟩ : ∃ W, W = V3.setCell ⟨w.heap.size, 18, none⟩ (.slice s3.a s3.n s3.c) := ⟨_, rfl⟩
  have B3 : Hid (Bx w.heap.size (((c0.setIfInBounds 7 (.slice s1.a s1.n s1.c)).setIfInBounds 13 (.slice s2.a s2.n s2.c)).setIfInBounds 18 (.slice s3.a s3.n s3.c)) w W3) := by rw [hW3]; exact Y3.out.set 18 _
  have R3 : Hid (W3.heap[w.heap.size + 1]? = some (.cells Z 31)) := by show _ = _; rw [hW3]; exact (heap_setCell_other V3 _ _ _ (by show w.heap.size + 1 ≠ w.heap.size; omega)).trans Q3.out
  have D3 : Hid (Kp (w.heap.size + 2) V3 W3) := by rw [hW3]; exact kp_set (by omega)
  have hsv3 : W3.heap.size = V3.heap.size := by rw [hW3]; show (V3.heap.modify _ _).size = _; simp
  have Z3 : Hid (w.heap.size + 2 ≤ W3.heap.size) := by show _ ≤ _; rw [hsv3]; exact Zv3.out
  have E3 : Hid (V3.heap.size ≤ W3.heap.size ∧ W2.heap.size ≤ V3.heap.size) := ⟨by omega, HZ3.out⟩
  clear hsv3
  have b22_3 : Hid ((((c0.setIfInBounds 7 (.slice s1.a s1.n s1.c)).setIfInBounds 13 (.slice s2.a s2.n s2.c)).setIfInBounds 18 (.slice s3.a s3.n s3.c))[22]? = some (.slice p.asks.a p.asks.n p.asks.c)) := by show _ = _; rw [Array.getElem?_setIfInBounds_ne (by decide)]; exact b22_2.out
  have b23_3 : Hid ((((c0.setIfInBounds 7 (.slice s1.a s1.n s1.c)).setIfInBounds 13 (.slice s2.a s2.n s2.c)).setIfInBounds 18 (.slice s3.a s3.n s3.c))[23]? = some (.slice p.codes.a p.codes.n p.codes.c)) := by show _ = _; rw [Array.getElem?_setIfInBounds_ne (by decide)]; exact b23_2.out
  have b24_3 : Hid ((((c0.setIfInBounds 7 (.slice s1.a s1.n s1.c)).setIfInBounds 13 (.slice s2.a s2.n s2.c)).setIfInBounds 18 (.slice s3.a s3.n s3.c))[24]? = some (.slice p.filters.a p.filters.n p.filters.c)) := by show _ = _; rw [Array.getElem?_setIfInBounds_ne (by decide)]; exact b24_2.out
  have sz3 : Hid ((((c0.setIfInBounds 7 (.slice s1.a s1.n s1.c)).setIfInBounds 13 (.slice s2.a s2.n s2.c)).setIfInBounds 18 (.slice s3.a s3.n s3.c)).size = 25) := by show _ = _; rw [Array.size_setIfInBounds]; exact sz2.out
  go_upto_region 4 with fail
  rw [← hW3]
  clear hW3 g18 z18
  have f22 := B3.out.cell 22 _ b22_3.out
  go_wp2_with fail
  go_must (go_at_call 29)
  clear f22
  refine (renew_asks p.asks c.af c.aq W3 (B3.out.oldIn rfl HI.out).asks HS.out.an).mono ?_
  rintro e V4 ⟨s4, rfl, hb, hn4, hc, hx⟩
  have N4 : Hid (s4.n = p.asks.n) := hn4
  have Y4 : Hid (Bx w.heap.size (((c0.setIfInBounds 7 (.slice s1.a s1.n s1.c)).setIfInBounds 13 (.slice s2.a s2.n s2.c)).setIfInBounds 18 (.slice s3.a s3.n s3.c)) w V4) := B3.out.below hb
  have X4 : Hid (Nx (w.heap.size + 2) s4) := fun b off h0 he => Nat.le_trans Z3.out (hx b off h0 he)
  have T4 : Hid (As V4 s4 c.af c.aq) := hc
  have K4 : Hid (Kp (w.heap.size + 2) W3 V4) := kp_below hb
  have Q4 : Hid (V4.heap[w.heap.size + 1]? = some (.cells Z 31)) := (hb.block _ (by have := Z3.out; omega)).trans R3.out
  have Zv4 : Hid (w.heap.size + 2 ≤ V4.heap.size) := Nat.le_trans Z3.out hb.size
  have HZ4 : Hid (W3.heap.size ≤ V4.heap.size) := hb.size
  clear hb hn4 hc hx
  have g22 := Y4.out.cell 22 _ b22_3.out
  have z22 := Y4.out.frozen 22
  obtain ⟨W4, hW4⟩ : ∃ W, W = V4.setCell ⟨w.heap.size, 22, none⟩ (.slice s4.a s4.n s4.c) := ⟨_, rfl⟩
  have B4 : Hid (Bx w.heap.size ((((c0.setIfInBounds 7 (.slice s1.a s1.n s1.c)).setIfInBounds 13 (.slice s2.a s2.n s2.c)).setIfInBounds 18 (.slice s3.a s3.n s3.c)).setIfInBounds 22 (.slice s4.a s4.n s4.c)) w W4) := by rw [hW4]; exact Y4.out.set 22 _
  have R4 : Hid (W4.heap[w.heap.size + 1]? = some (.cells Z 31)) := by show _ = _; rw [hW4]; exact (heap_setCell_other V4 _ _ _ (by show w.heap.size + 1 ≠ w.heap.size; omega)).trans Q4.out
  have D4 : Hid (Kp (w.heap.size + 2) V4 W4) := by rw [hW4]; exact kp_set (by omega)
  have hsv4 : W4.heap.size = V4.heap.size := by rw [hW4]; show (V4.heap.modify _ _).size = _; simp
  have Z4 : Hid (w.heap.size + 2 ≤ W4.heap.size) := by show _ ≤ _; rw [hsv4]; exact Zv4.out
  have E4 : Hid (V4.heap.size ≤ W4.heap.size ∧ W3.heap.size ≤ V4.heap.size) := ⟨by omega, HZ4.out⟩
  clear hsv4
  have b23_4 : Hid (((((c0.setIfInBounds 7 (.slice s1.a s1.n s1.c)).setIfInBounds 13 (.slice s2.a s2.n s2.c)).setIfInBounds 18 (.slice s3.a s3.n s3.c)).setIfInBounds 22 (.slice s4.a s4.n s4.c))[23]? = some (.slice p.codes.a p.codes.n p.codes.c)) := by show _ = _; rw [Array.getElem?_setIfInBounds_ne (by decide)]; exact b23_3.out
  have b24_4 : Hid (((((c0.setIfInBounds 7 (.slice s1.a s1.n s1.c)).setIfInBounds 13 (.slice s2.a s2.n s2.c)).setIfInBounds 18 (.slice s3.a s3.n s3.c)).setIfInBounds 22 (.slice s4.a s4.n s4.c))[24]? = some (.slice p.filters.a p.filters.n p.filters.c)) := by show _ = _; rw [Array.getElem?_setIfInBounds_ne (by decide)]; exact b24_3.out
  have sz4 : Hid (((((c0.setIfInBounds 7 (.slice s1.a s1.n s1.c)).setIfInBounds 13 (.slice s2.a s2.n s2.c)).setIfInBounds 18 (.slice s3.a s3.n s3.c)).setIfInBounds 22 (.slice s4.a s4.n s4.c)).size = 25) := by show _ = _; rw [Array.size_setIfInBounds]; exact sz3.out
  go_upto_region 5 with fail
  rw [← hW4]
  clear hW4 g22 z22
  have f23 := B4.out.cell 23 _ b23_4.out
  go_wp2_with fail
  go_must (go_at_call 30)
  clear f23
  refine (renew_ints p.codes c.cs W4 (B4.out.oldIn rfl HI.out).codes HS.out.cn).mono ?_
  rintro e V5 ⟨s5, rfl, hb, hn5, hc, hx⟩
  have N5 : Hid (s5.n = p.codes.n) := hn5
  have Y5 : Hid (Bx w.heap.size ((((c0.setIfInBounds 7 (.slice s1.a s1.n s1.c)).setIfInBounds 13 (.slice s2.a s2.n s2.c)).setIfInBounds 18 (.slice s3.a s3.n s3.c)).setIfInBounds 22 (.slice s4.a s4.n s4.c)) w V5) := B4.out.below hb
  have X5 : Hid (Nx (w.heap.size + 2) s5) := fun b off h0 he => Nat.le_trans Z4.out (hx b off h0 he)
  have T5 : Hid (Is V5 s5 c.cs) := hc
  have K5 : Hid (Kp (w.heap.size + 2) W4 V5) := kp_below hb
  have Q5 : Hid (V5.heap[w.heap.size + 1]? = some (.cells Z 31)) := (hb.block _ (by have := Z4.out; omega)).trans R4.out
  have Zv5 : Hid (w.heap.size + 2 ≤ V5.heap.size) := Nat.le_trans Z4.out hb.size
  have HZ5 : Hid (W4.heap.size ≤ V5.heap.size) := hb.size
  clear hb hn5 hc hx
  have g23 := Y5.out.cell 23 _ b23_4.out
  have z23 := Y5.out.frozen 23
  obtain ⟨W5, hW5⟩ : ∃ W, W = V5.setCell ⟨w.heap.size, 23, none⟩ (.slice s5.a s5.n s5.c) := ⟨_, rfl⟩
  have B5 : Hid (Bx w.heap.size (((((c0.setIfInBounds 7 (.slice s1.a s1.n s1.c)).setIfInBounds 13 (.slice s2.a s2.n s2.c)).setIfInBounds 18 (.slice s3.a s3.n s3.c)).setIfInBounds 22 (.slice s4.a s4.n s4.c)).setIfInBounds 23 (.slice s5.a s5.n s5.c)) w W5) := by rw [hW5]; exact Y5.out.set 23 _
  have R5 : Hid (W5.heap[w.heap.size + 1]? = some (.cells Z 31)) := by show _ = _; rw [hW5]; exact (heap_setCell_other V5 _ _ _ (by show w.heap.size + 1 ≠ w.heap.size; omega)).trans Q5.out
  have D5 : Hid (Kp (w.heap.size + 2) V5 W5) := by rw [hW5]; exact kp_set (by omega)
  have hsv5 : W5.heap.size = V5.heap.size := by rw [hW5]; show (V5.heap.modify _ _).size = _; simp
  have Z5 : Hid (w.heap.size + 2 ≤ W5.heap.size) := by show _ ≤ _; rw [hsv5]; exact Zv5.out
  have E5 : Hid (V5.heap.size ≤ W5.heap.size ∧ W4.heap.size ≤ V5.heap.size) := ⟨by omega, HZ5.out⟩
  clear hsv5
  have b24_5 : Hid ((((((c0.setIfInBounds 7 (.slice s1.a s1.n s1.c)).setIfInBounds 13 (.slice s2.a s2.n s2.c)).setIfInBounds 18 (.slice s3.a s3.n s3.c)).setIfInBounds 22 (.slice s4.a s4.n s4.c)).setIfInBounds 23 (.slice s5.a s5.n s5.c))[24]? = some (.slice p.filters.a p.filters.n p.filters.c)) := by show _ = _; rw [Array.getElem?_setIfInBounds_ne (by decide)]; exact b24_4.out
  have sz5 : Hid ((((((c0.setIfInBounds 7 (.slice s1.a s1.n s1.c)).setIfInBounds 13 (.slice s2.a s2.n s2.c)).setIfInBounds 18 (.slice s3.a s3.n s3.c)).setIfInBounds 22 (.slice s4.a s4.n s4.c)).setIfInBounds 23 (.slice s5.a s5.n s5.c)).size = 25) := by show _ = _; rw [Array.size_setIfInBounds]; exact sz4.out
  go_upto_region 6 with fail
  rw [← hW5]
  clear hW5 g23 z23
  have f24 := B5.out.cell 24 _ b24_5.out
  go_wp2_with fail
  go_must (go_at_call 31)
  clear f24
  refine (renew_texts p.filters c.fs W5 (B5.out.oldIn rfl HI.out).filters HS.out.fn).mono ?_
  rintro e V6 ⟨s6, rfl, hb, hn6, hc, hx⟩
  have N6 : Hid (s6.n = p.filters.n) := hn6
  have Y6 : Hid (Bx w.heap.size (((((c0.setIfInBounds 7 (.slice s1.a s1.n s1.c)).setIfInBounds 13 (.slice s2.a s2.n s2.c)).setIfInBounds 18 (.slice s3.a s3.n s3.c)).setIfInBounds 22 (.slice s4.a s4.n s4.c)).setIfInBounds 23 (.slice s5.a s5.n s5.c)) w V6) := B5.out.below hb
  have X6 : Hid (Nx (w.heap.size + 2) s6) := fun b off h0 he => Nat.le_trans Z5.out (hx b off h0 he)
  have T6 : Hid (Ss V6 s6 c.fs) := hc
  have K6 : Hid (Kp (w.heap.size + 2) W5 V6) := kp_below hb
  have Q6 : Hid (V6.heap[w.heap.size + 1]? = some (.cells Z 31)) := (hb.block _ (by have := Z5.out; omega)).trans R5.out
  have Zv6 : Hid (w.heap.size + 2 ≤ V6.heap.size) := Nat.le_trans Z5.out hb.size
  have HZ6 : Hid (W5.heap.size ≤ V6.heap.size) := hb.size
  clear hb hn6 hc hx
  have g24 := Y6.out.cell 24 _ b24_5.out
  have z24 := Y6.out.frozen 24
  obtain ⟨W6, hW6⟩ : ∃ W, W = V6.setCell ⟨w.heap.size, 24, none⟩ (.slice s6.a s6.n s6.c) := ⟨_, rfl⟩
  have B6 : Hid (Bx w.heap.size ((((((c0.setIfInBounds 7 (.slice s1.a s1.n s1.c)).setIfInBounds 13 (.slice s2.a s2.n s2.c)).setIfInBounds 18 (.slice s3.a s3.n s3.c)).setIfInBounds 22 (.slice s4.a s4.n s4.c)).setIfInBounds 23 (.slice s5.a s5.n s5.c)).setIfInBounds 24 (.slice s6.a s6.n s6.c)) w W6) := by rw [hW6]; exact Y6.out.set 24 _
  have R6 : Hid (W6.heap[w.heap.size + 1]? = some (.cells Z 31)) := by show _ = _; rw [hW6]; exact (heap_setCell_other V6 _ _ _ (by show w.heap.size + 1 ≠ w.heap.size; omega)).trans Q6.out
  have D6 : Hid (Kp (w.heap.size + 2) V6 W6) := by rw [hW6]; exact kp_set (by omega)
  have hsv6 : W6.heap.size = V6.heap.size := by rw [hW6]; show (V6.heap.modify _ _).size = _; simp
  have Z6 : Hid (w.heap.size + 2 ≤ W6.heap.size) := by show _ ≤ _; rw [hsv6]; exact Zv6.out
  have E6 : Hid (V6.heap.size ≤ W6.heap.size ∧ W5.heap.size ≤ V6.heap.size) := ⟨by omega, HZ6.out⟩
  clear hsv6
  have sz6 : Hid (((((((c0.setIfInBounds 7 (.slice s1.a s1.n s1.c)).setIfInBounds 13 (.slice s2.a s2.n s2.c)).setIfInBounds 18 (.slice s3.a s3.n s3.c)).setIfInBounds 22 (.slice s4.a s4.n s4.c)).setIfInBounds 23 (.slice s5.a s5.n s5.c)).setIfInBounds 24 (.slice s6.a s6.n s6.c)).size = 25) := by show _ = _; rw [Array.size_setIfInBounds]; exact sz5.out
  go_upto_region 7 with fail
  rw [← hW6]
  clear hW6 g24 z24
  obtain ⟨c6, hc6⟩ : ∃ c6, c6 = ((((((c0.setIfInBounds 7 (.slice s1.a s1.n s1.c)).setIfInBounds 13 (.slice s2.a s2.n s2.c)).setIfInBounds 18 (.slice s3.a s3.n s3.c)).setIfInBounds 22 (.slice s4.a s4.n s4.c)).setIfInBounds 23 (.slice s5.a s5.n s5.c)).setIfInBounds 24 (.slice s6.a s6.n s6.c)) := ⟨_, rfl⟩
  have F6 : Hid (Bx w.heap.size c6 w W6) := by rw [hc6]; exact B6.out
  have S6 : Hid (c6.size = 25) := by rw [hc6]; exact sz6.out
  have P6 : Hid (c6 = pkCells { p with wP := s1, pass := s2, mP := s3, asks := s4, codes := s5, filters := s6 }) := by
    show _ = _
    rw [hc6, HC0.out]
    rfl
  clear hc6
  have H1 : Hid (c6.all (·.oneCell') = true) := by show _ = _; rw [P6.out]; simp [pkCells, Sl.v, Value.oneCell']
  obtain ⟨W7, hW7⟩ : ∃ W, W = W6.setRow (w.heap.size + 1) c6 := ⟨_, rfl⟩
  have R7 : Hid (W7.heap[w.heap.size + 1]? = some (.cells c6 31)) := by show _ = _; rw [hW7]; exact setRow_heap W6 _ Z c6 31 (0, 0) R6.out
  have O7 : Hid (∀ k, k ≠ w.heap.size + 1 → W7.heap[k]? = W6.heap[k]?) := fun k hk => by rw [hW7]; exact setRow_other W6 _ k c6 hk
  have U7 : Hid (Below w.heap.size w W7) := by
    refine ⟨?_, ?_, ?_, ?_, fun k hk => ?_⟩
    · rw [hW7]; exact F6.out.os
    · rw [hW7]; exact F6.out.tape
    · rw [hW7]; exact F6.out.output
    · rw [hW7]
      show w.heap.size ≤ (W6.heap.modify _ _).size
      have := F6.out.size
      simpa using this
    · rw [O7.out k (by omega)]
      exact F6.out.keep k hk (by omega)
  have K7 : Hid (Kp (w.heap.size + 2) W6 W7) := fun k hk _ => O7.out k (by omega)
  have I1 : Hid (By W7 s1 c.wz) := By.kp T1.out X1.out ((((((((((((((((((((((D1.out).trans K2.out (by have := E1.out; omega))).trans D2.out (by have := E1.out; have := E2.out; omega))).trans K3.out (by have := E1.out; have := E2.out; omega))).trans D3.out (by have := E1.out; have := E2.out; have := E3.out; omega))).trans K4.out (by have := E1.out; have := E2.out; have := E3.out; omega))).trans D4.out (by have := E1.out; have := E2.out; have := E3.out; have := E4.out; omega))).trans K5.out (by have := E1.out; have := E2.out; have := E3.out; have := E4.out; omega))).trans D5.out (by have := E1.out; have := E2.out; have := E3.out; have := E4.out; have := E5.out; omega))).trans K6.out (by have := E1.out; have := E2.out; have := E3.out; have := E4.out; have := E5.out; omega))).trans D6.out (by have := E1.out; have := E2.out; have := E3.out; have := E4.out; have := E5.out; have := E6.out; omega))).trans K7.out (by have := E1.out; have := E2.out; have := E3.out; have := E4.out; have := E5.out; have := E6.out; omega))
  have I2 : Hid (By W7 s2 c.pz) := By.kp T2.out X2.out ((((((((((((((((((D2.out).trans K3.out (by have := E2.out; omega))).trans D3.out (by have := E2.out; have := E3.out; omega))).trans K4.out (by have := E2.out; have := E3.out; omega))).trans D4.out (by have := E2.out; have := E3.out; have := E4.out; omega))).trans K5.out (by have := E2.out; have := E3.out; have := E4.out; omega))).trans D5.out (by have := E2.out; have := E3.out; have := E4.out; have := E5.out; omega))).trans K6.out (by have := E2.out; have := E3.out; have := E4.out; have := E5.out; omega))).trans D6.out (by have := E2.out; have := E3.out; have := E4.out; have := E5.out; have := E6.out; omega))).trans K7.out (by have := E2.out; have := E3.out; have := E4.out; have := E5.out; have := E6.out; omega))
  have I3 : Hid (By W7 s3 c.mz) := By.kp T3.out X3.out ((((((((((((((D3.out).trans K4.out (by have := E3.out; omega))).trans D4.out (by have := E3.out; have := E4.out; omega))).trans K5.out (by have := E3.out; have := E4.out; omega))).trans D5.out (by have := E3.out; have := E4.out; have := E5.out; omega))).trans K6.out (by have := E3.out; have := E4.out; have := E5.out; omega))).trans D6.out (by have := E3.out; have := E4.out; have := E5.out; have := E6.out; omega))).trans K7.out (by have := E3.out; have := E4.out; have := E5.out; have := E6.out; omega))
  have I4 : Hid (As W7 s4 c.af c.aq) := As.kp T4.out X4.out ((((((((((D4.out).trans K5.out (by have := E4.out; omega))).trans D5.out (by have := E4.out; have := E5.out; omega))).trans K6.out (by have := E4.out; have := E5.out; omega))).trans D6.out (by have := E4.out; have := E5.out; have := E6.out; omega))).trans K7.out (by have := E4.out; have := E5.out; have := E6.out; omega))
  have I5 : Hid (Is W7 s5 c.cs) := Is.kp T5.out X5.out ((((((D5.out).trans K6.out (by have := E5.out; omega))).trans D6.out (by have := E5.out; have := E6.out; omega))).trans K7.out (by have := E5.out; have := E6.out; omega))
  have I6 : Hid (Ss W7 s6 c.fs) := Ss.kp T6.out X6.out ((D6.out).trans K7.out (by have := E6.out; omega))
  go_wp2_with (first | (refine wpList_load_wanted rfl _ rfl w.heap.size rfl _ (0, 0) F6.out.blk S6.out ?_) | (refine wpList_store_row rfl 31 _ _ rfl (w.heap.size + 1) c6 rfl rfl 31 Z R6.out (by rw [S6.out]; kernel_rfl) (by rw [HZ.out, S6.out]) H1.out ?_))
  rw [← hW7]
  exact bodyPost_ret (results_cell_row rfl _ _ _ _ _ _ _ rfl R7.out Tryd.underlying31 rfl (by rw [S6.out]; kernel_rfl)) rfl ⟨s1, s2, s3, s4, s5, s6, by rw [P6.out]; rfl, U7.out, ⟨I1.out, I2.out, I3.out, I4.out, I5.out, I6.out⟩, ⟨N1.out, N2.out, N3.out, N4.out, N5.out, N6.out⟩, X1.out.mono (by omega), X2.out.mono (by omega), X3.out.mono (by omega), X4.out.mono (by omega), X5.out.mono (by omega), X6.out.mono (by omega)⟩
theorem copy_any (p : Pk) (c : Cn) (w : World) (hin : In w p c) (hs : Small p c) : Calls Tryd.prog 15 #[p.v] w fun e w' => ∃ s1 s2 s3 s4 s5 s6 : Sl,
    e = .returned ({ p with wP := s1, pass := s2, mP := s3, asks := s4, codes := s5, filters := s6 } : Pk).v ∧ Below w.heap.size w w' ∧ In w' { p with wP := s1, pass := s2, mP := s3, asks := s4, codes := s5, filters := s6 } c ∧
    s1.n = p.wP.n ∧ s2.n = p.pass.n ∧ s3.n = p.mP.n ∧ s4.n = p.asks.n ∧ s5.n = p.codes.n ∧ s6.n = p.filters.n :=
  (copy_new p c w hin hs).mono fun e w' ⟨s1, s2, s3, s4, s5, s6, h1, h2, h3, h4, _⟩ => ⟨s1, s2, s3, s4, s5, s6, h1, h2, h3, h4⟩
end Go.Proofs.YtcoccggimbficaaDoor
