import Derived.Test.YtcoccggimbficaaDoorSb
import Derived.Test.YtcoccggimbficaaDoorKw
import Derived.Great.BuildSlice
namespace Go.Proofs.YtcoccggimbficaaDoor
open Go Go.RowKit Go.Sort
set_option linter.unusedSimpArgs false
set_option linter.unusedVariables false
set_option maxRecDepth 100000

def nos : Sl := ⟨none, 0, 0⟩
def pk0 : Pk := ⟨0, 0, false, 0, ⟨#[]⟩, false, ⟨#[]⟩, nos, 0, false, false, ⟨#[]⟩, false, nos, false, 0, false, ⟨#[]⟩, nos, 0, false, 0, nos, nos, nos⟩
def pub (b : Nat) (id : Int) : Pk := { pk0 with kind := 3, mT := ⟨#[97]⟩, mP := ⟨some ⟨b, 0, none⟩, 3, 3⟩, mQ := 1, id := id }
def con : Pk := { pk0 with kind := 1, level := 4, clean := true, keep := 60, client := ⟨#[99]⟩ }
def sub : Pk := { pk0 with kind := 8, id := 1 }
def oneTwo (i : Nat) : Int := if i = 0 then 1 else if i = 1 then 2 else 3
def cn0 : Cn := ⟨fun _ => 0, fun _ => 0, oneTwo, fun _ => ⟨#[]⟩, fun _ => 0, fun _ => 0, fun _ => ⟨#[]⟩⟩
theorem ck_pub (b : Nat) : ck TT (pub b 7) cn0 = 0 := by kernel_rfl
theorem ck_pub0 (b : Nat) : ck TT (pub b 0) cn0 = 26 := by kernel_rfl
theorem ck_con : ck TT con cn0 = 0 := by kernel_rfl
theorem ck_sub : ck TT sub cn0 = 28 := by kernel_rfl
theorem fg_pub (b : Nat) : fg (pub b 7) = 2 := by kernel_rfl
theorem sz_pub (b : Nat) : sz (pub b 7) cn0 = 8 := by kernel_rfl
theorem sz_con : sz con cn0 = 13 := by kernel_rfl
theorem small_pub (b : Nat) (i : Int) : Small (pub b i) cn0 := by constructor <;> first | exact Nat.zero_le _ | exact (by decide : (1 : Nat) ≤ 1000000) | exact (by decide : (3 : Nat) ≤ 1000000)
theorem small_con : Small con cn0 := by constructor <;> first | exact Nat.zero_le _ | exact (by decide : (1 : Nat) ≤ 1000000) | exact (by decide : (3 : Nat) ≤ 1000000)
theorem small_sub : Small sub cn0 := by constructor <;> first | exact Nat.zero_le _ | exact (by decide : (1 : Nat) ≤ 1000000) | exact (by decide : (3 : Nat) ≤ 1000000)
theorem in_pub {w : World} (b : Nat) (i : Int) (h : w.heap[b]? = some (.cells #[.int .u8 1, .int .u8 2, .int .u8 3] 5)) : In w (pub b i) cn0 := by
  refine ⟨⟨Nat.le_refl _, fun i => (by decide : (0 : Int) ≤ 0 ∧ (0 : Int) ≤ 255), .inl rfl⟩, ⟨Nat.le_refl _, fun i => (by decide : (0 : Int) ≤ 0 ∧ (0 : Int) ≤ 255), .inl rfl⟩, ⟨Nat.le_refl _, fun i => ?_, .inr ⟨b, 0, rfl, fun i hi => ?_⟩⟩, ⟨Nat.le_refl _, .inl rfl⟩, ⟨Nat.le_refl _, .inl rfl⟩, ⟨Nat.le_refl _, .inl rfl⟩⟩
  · show 0 ≤ oneTwo i ∧ oneTwo i ≤ 255
    unfold oneTwo
    split
    · decide
    · split <;> decide
  · have h3 : i < 3 := hi
    unfold World.cell?
    obtain rfl | rfl | rfl : i = 0 ∨ i = 1 ∨ i = 2 := by omega
    all_goals simp [h, cn0, oneTwo]
theorem in_con (w : World) : In w con cn0 := ⟨⟨Nat.le_refl _, fun i => (by decide : (0 : Int) ≤ 0 ∧ (0 : Int) ≤ 255), .inl rfl⟩, ⟨Nat.le_refl _, fun i => (by decide : (0 : Int) ≤ 0 ∧ (0 : Int) ≤ 255), .inl rfl⟩, ⟨Nat.le_refl _, fun i => by show 0 ≤ oneTwo i ∧ oneTwo i ≤ 255; unfold oneTwo; split; decide; split <;> decide, .inl rfl⟩, ⟨Nat.le_refl _, .inl rfl⟩, ⟨Nat.le_refl _, .inl rfl⟩, ⟨Nat.le_refl _, .inl rfl⟩⟩
theorem in_sub (w : World) : In w sub cn0 := ⟨⟨Nat.le_refl _, fun i => (by decide : (0 : Int) ≤ 0 ∧ (0 : Int) ≤ 255), .inl rfl⟩, ⟨Nat.le_refl _, fun i => (by decide : (0 : Int) ≤ 0 ∧ (0 : Int) ≤ 255), .inl rfl⟩, ⟨Nat.le_refl _, fun i => by show 0 ≤ oneTwo i ∧ oneTwo i ≤ 255; unfold oneTwo; split; decide; split <;> decide, .inl rfl⟩, ⟨Nat.le_refl _, .inl rfl⟩, ⟨Nat.le_refl _, .inl rfl⟩, ⟨Nat.le_refl _, .inl rfl⟩⟩

theorem wpList_build_to {ops : Array Oper} {rest : List Oper} {o : Oper} {a : Act} {w : World} {Q : Exit → Act → World → Prop} (hg : o.guard = none) (t : TypeId) (parts : Array (Nat × Operand)) (ho : o.op = .build t parts) (cells : Array Value)
    (hf : Tryd.prog.built t (parts.map fun (i, x) => (i, a.eval x)).toList = some cells) (h : wpList Tryd.prog ops Q rest (a.put o.dst (.agg cells)) w) : wpList Tryd.prog ops Q (o :: rest) a w :=
  wpList_build hg t parts ho (by rw [hf]; rfl) (by rw [hf]; exact h)
end Go.Proofs.YtcoccggimbficaaDoor
namespace Go.Proofs.YtcoccggimbficaaDoor
open Go Go.RowKit Go.Sort
set_option linter.unusedSimpArgs false
set_option linter.unusedVariables false
set_option maxRecDepth 100000

theorem row_below {B : Nat} {w w' : World} (h : Below B w w') (g : Nat) (cs : Array Value) (hg : B ≤ g) : Below B w (w'.setRow g cs) := by
  refine ⟨h.os, h.tape, h.output, ?_, fun k hk => ?_⟩
  · show w.heap.size ≤ (w'.heap.modify _ _).size
    have := h.size
    simpa using this
  · rw [setRow_other w' g k cs (by omega)]
    exact h.block k hk
theorem set_below {B : Nat} {w w' : World} (h : Below B w w') (g i : Nat) (v : Value) (hg : B ≤ g) : Below B w (w'.setCell ⟨g, i, none⟩ v) := by
  refine ⟨h.os, h.tape, h.output, ?_, fun k hk => ?_⟩
  · show w.heap.size ≤ (w'.heap.modify _ _).size
    have := h.size
    simpa using this
  · rw [heap_setCell_other w' _ k _ (by show k ≠ g; omega)]
    exact h.block k hk
theorem below_two (w : World) (o1 o2 : Obj) : Below w.heap.size w ((w.alloc o1).alloc o2) := ((Below.refl _ _).alloc (Nat.le_refl _) _).alloc (by show w.heap.size ≤ (w.heap.push _).size; simp) _
theorem row_size (w : World) (g : Nat) (cs : Array Value) : (w.setRow g cs).heap.size = w.heap.size := by
  show (w.heap.modify _ _).size = _
  simp

set_option maxHeartbeats 2000000 in
theorem known_any (w : World) (hg : Gd w) : Calls Tryd.prog 10 #[] w fun e w' => e = .returned (.bool true) ∧ Below w.heap.size w w' := by
  have HG : Hid (Gd w) := hg
  clear hg
  obtain ⟨P1, hP1⟩ : ∃ P1, P1 = pkCells (pub w.heap.size 7) := ⟨_, rfl⟩
  have HP1 : Hid (P1 = pkCells (pub w.heap.size 7)) := hP1
  have SP1 : Hid (P1.size = 25) := by show _ = _; rw [hP1]; rfl
  have OP1 : Hid (P1.all (·.oneCell') = true) := by show _ = _; rw [hP1]; simp [pkCells, Value.oneCell']
  clear hP1
  obtain ⟨P2, hP2⟩ : ∃ P2, P2 = pkCells (pub w.heap.size 0) := ⟨_, rfl⟩
  have HP2 : Hid (P2 = pkCells (pub w.heap.size 0)) := hP2
  have SP2 : Hid (P2.size = 25) := by show _ = _; rw [hP2]; rfl
  have OP2 : Hid (P2.all (·.oneCell') = true) := by show _ = _; rw [hP2]; simp [pkCells, Value.oneCell']
  clear hP2
  obtain ⟨PC, hPC⟩ : ∃ PC, PC = pkCells (con) := ⟨_, rfl⟩
  have HPC : Hid (PC = pkCells (con)) := hPC
  have SPC : Hid (PC.size = 25) := by show _ = _; rw [hPC]; rfl
  have OPC : Hid (PC.all (·.oneCell') = true) := by show _ = _; rw [hPC]; simp [pkCells, Value.oneCell']
  clear hPC
  obtain ⟨PS, hPS⟩ : ∃ PS, PS = pkCells (sub) := ⟨_, rfl⟩
  have HPS : Hid (PS = pkCells (sub)) := hPS
  have SPS : Hid (PS.size = 25) := by show _ = _; rw [hPS]; rfl
  have OPS : Hid (PS.all (·.oneCell') = true) := by show _ = _; rw [hPS]; simp [pkCells, Value.oneCell']
  clear hPS
  go_enter Tryd.func10, Tryd.ntmps10
  go_upto_region 1 with fail
  go_upto_region 2 with (first | (refine wpList_build_to rfl 26 _ rfl #[.string ⟨#[97]⟩, .slice (some ⟨w.heap.size, 0, none⟩) 3 3, .int .i64 1, .bool false] (by kernel_rfl) ?_) | (refine wpList_build_to rfl 31 _ rfl P1 (by rw [HP1.out]; kernel_rfl) ?_) | (refine wpList_store_row rfl 31 _ _ rfl (w.heap.size + 1) P1 rfl rfl 31 _ (heap_alloc2_new w _ _) (by rw [SP1.out]; kernel_rfl) (by rw [SP1.out]; kernel_rfl) OP1.out ?_))
  obtain ⟨W1, hW1⟩ : ∃ W1, W1 = ((w.alloc (.cells #[.int .u8 1, .int .u8 2, .int .u8 3] 5)).alloc (.cells #[.int .i64 0, .int .i64 0, .bool false, .int .i64 0, .string ⟨#[]⟩, .bool false, .string ⟨#[]⟩, .slice none 0 0, .int .i64 0, .bool false, .bool false, .string ⟨#[]⟩, .bool false, .slice none 0 0, .bool false, .int .i64 0, .bool false, .string ⟨#[]⟩, .slice none 0 0, .int .i64 0, .bool false, .int .i64 0, .slice none 0 0, .slice none 0 0, .slice none 0 0] 31)).setRow (w.heap.size + 1) P1 := ⟨_, rfl⟩
  rw [← hW1]
  have BW1 : Hid (Below w.heap.size w W1) := by rw [hW1]; exact row_below (below_two _ _ _) _ _ (by omega)
  have yW1 : Hid (W1.heap[w.heap.size]? = some (.cells #[.int .u8 1, .int .u8 2, .int .u8 3] 5)) := by show _ = _; rw [hW1, setRow_other _ _ _ _ (by omega)]; exact heap_alloc2_old w _ _
  have rW1 : Hid (W1.heap[w.heap.size + 1]? = some (.cells P1 31)) := by show _ = _; rw [hW1]; exact setRow_heap _ _ _ P1 31 (0, 0) (heap_alloc2_new w _ _)
  clear hW1
  go_wp2_with (first | (refine wpList_load_wanted rfl _ rfl (w.heap.size + 1) rfl P1 (0, 0) rW1.out SP1.out ?_) | fail)
  go_must (go_at_call 17)
  refine ((show Calls Tryd.prog 17 #[.agg P1] W1 (fun e w' => e = .returned (.int .i64 (0 : Nat)) ∧ Below W1.heap.size W1 w') from by have := check_any _ cn0 W1 (HG.out.below BW1.out) (in_pub _ 7 yW1.out) (small_pub _ 7); rw [ck_pub] at this; rw [HP1.out]; exact this)).mono ?_
  rintro e w1 ⟨rfl, hb⟩
  have Bw1 : Hid (Below w.heap.size w w1) := BW1.out.trans (hb.mono BW1.out.size)
  have Lw1 : Hid (W1.heap.size ≤ w1.heap.size) := hb.size
  have yw1 : Hid (w1.heap[w.heap.size]? = some (.cells #[.int .u8 1, .int .u8 2, .int .u8 3] 5)) := (hb.block _ (block_lt yW1.out)).trans yW1.out
  have rw1 : Hid (w1.heap[w.heap.size + 1]? = some (.cells P1 31)) := (hb.block _ (block_lt rW1.out)).trans rW1.out
  clear hb
  go_wp2_with (first | (refine wpList_load_wanted rfl _ rfl (w.heap.size + 1) rfl P1 (0, 0) rw1.out SP1.out ?_) | fail)
  go_must (go_at_call 13)
  refine ((show Calls Tryd.prog 13 #[.agg P1] w1 (fun e w' => e = .returned (.int .i64 2) ∧ Below w1.heap.size w1 w') from by have := flags_any _ cn0 w1 (HG.out.below Bw1.out) (in_pub _ 7 yw1.out) (small_pub _ 7) ((ck_right TT _ cn0).1 (ck_pub _)); rw [fg_pub] at this; rw [HP1.out]; exact this)).mono ?_
  rintro e w2 ⟨rfl, hb⟩
  have Bw2 : Hid (Below w.heap.size w w2) := Bw1.out.trans (hb.mono Bw1.out.size)
  have Lw2 : Hid (w1.heap.size ≤ w2.heap.size) := hb.size
  have yw2 : Hid (w2.heap[w.heap.size]? = some (.cells #[.int .u8 1, .int .u8 2, .int .u8 3] 5)) := (hb.block _ (block_lt yw1.out)).trans yw1.out
  have rw2 : Hid (w2.heap[w.heap.size + 1]? = some (.cells P1 31)) := (hb.block _ (block_lt rw1.out)).trans rw1.out
  clear hb
  go_wp2_with (first | (refine wpList_load_wanted rfl _ rfl (w.heap.size + 1) rfl P1 (0, 0) rw2.out SP1.out ?_) | fail)
  go_must (go_at_call 12)
  refine ((show Calls Tryd.prog 12 #[.agg P1] w2 (fun e w' => e = .returned (.int .i64 8) ∧ Below w2.heap.size w2 w') from by have := length_any _ cn0 w2 (HG.out.below Bw2.out) (in_pub _ 7 yw2.out) (small_pub _ 7); rw [ck_pub, sz_pub] at this; rw [HP1.out]; exact this)).mono ?_
  rintro e w3 ⟨rfl, hb⟩
  have Bw3 : Hid (Below w.heap.size w w3) := Bw2.out.trans (hb.mono Bw2.out.size)
  have Lw3 : Hid (w2.heap.size ≤ w3.heap.size) := hb.size
  have yw3 : Hid (w3.heap[w.heap.size]? = some (.cells #[.int .u8 1, .int .u8 2, .int .u8 3] 5)) := (hb.block _ (block_lt yw2.out)).trans yw2.out
  have rw3 : Hid (w3.heap[w.heap.size + 1]? = some (.cells P1 31)) := (hb.block _ (block_lt rw2.out)).trans rw2.out
  clear hb
  go_upto_region 4 with fail
  have f21 : w3.cell? ⟨w.heap.size + 1, 21, none⟩ = some (.int .i64 7) := by
    unfold World.cell?
    simp only [rw3.out]
    rw [HP1.out]
    rfl
  have z21 : w3.frozen? ⟨w.heap.size + 1, 21, none⟩ = false := by simp [World.frozen?, rw3.out]
  go_upto_region 5 with fail
  obtain ⟨W4, hW4⟩ : ∃ W4, W4 = w3.setCell ⟨w.heap.size + 1, 21, none⟩ (.int .i64 0) := ⟨_, rfl⟩
  rw [← hW4]
  have BW4 : Hid (Below w.heap.size w W4) := by rw [hW4]; exact set_below Bw3.out _ _ _ (by omega)
  have yW4 : Hid (W4.heap[w.heap.size]? = some (.cells #[.int .u8 1, .int .u8 2, .int .u8 3] 5)) := by show _ = _; rw [hW4, heap_setCell_other w3 _ _ _ (by show w.heap.size ≠ w.heap.size + 1; omega)]; exact yw3.out
  have qW4 : Hid (W4.heap[w.heap.size + 1]? = some (.cells P2 31)) := by
    show _ = _
    rw [hW4, heap_setCell_same w3 _ 21 P1 31 _ rw3.out, HP1.out, HP2.out]
    rfl
  clear hW4 f21 z21
  obtain ⟨N5, hN5⟩ : ∃ N5, N5 = W4.heap.size := ⟨_, rfl⟩
  go_upto_region 6 with (first | (refine wpList_build_to rfl 31 _ rfl PC (by rw [HPC.out]; kernel_rfl) ?_) | (refine wpList_store_row rfl 31 _ _ rfl W4.heap.size PC rfl rfl 31 _ (heap_alloc_new W4 _) (by rw [SPC.out]; kernel_rfl) (by rw [SPC.out]; kernel_rfl) OPC.out ?_))
  obtain ⟨W5, hW5⟩ : ∃ W5, W5 = (W4.alloc (.cells #[.int .i64 0, .int .i64 0, .bool false, .int .i64 0, .string ⟨#[]⟩, .bool false, .string ⟨#[]⟩, .slice none 0 0, .int .i64 0, .bool false, .bool false, .string ⟨#[]⟩, .bool false, .slice none 0 0, .bool false, .int .i64 0, .bool false, .string ⟨#[]⟩, .slice none 0 0, .int .i64 0, .bool false, .int .i64 0, .slice none 0 0, .slice none 0 0, .slice none 0 0] 31)).setRow W4.heap.size PC := ⟨_, rfl⟩
  rw [← hW5, ← hN5]
  have t5 : W5.heap.size = N5 + 1 := by rw [hW5, row_size, hN5]; show (W4.heap.push _).size = _; simp
  have BW5 : Hid (Below w.heap.size w W5) := by rw [hW5]; exact row_below (BW4.out.alloc BW4.out.size _) _ _ BW4.out.size
  have yW5 : Hid (W5.heap[w.heap.size]? = some (.cells #[.int .u8 1, .int .u8 2, .int .u8 3] 5)) := by show _ = _; have := block_lt yW4.out; rw [hW5, setRow_other _ _ _ _ (by omega)]; exact (heap_alloc_old W4 _ this).trans yW4.out
  have qW5 : Hid (W5.heap[w.heap.size + 1]? = some (.cells P2 31)) := by show _ = _; have := block_lt qW4.out; rw [hW5, setRow_other _ _ _ _ (by omega)]; exact (heap_alloc_old W4 _ this).trans qW4.out
  have cW5 : Hid (W5.heap[N5]? = some (.cells PC 31)) := by show _ = _; rw [hW5, hN5]; exact setRow_heap _ _ _ PC 31 (0, 0) (heap_alloc_new W4 _)
  clear hW5 hN5 t5
  obtain ⟨N6, hN6⟩ : ∃ N6, N6 = W5.heap.size := ⟨_, rfl⟩
  go_upto_region 7 with (first | (refine wpList_build_to rfl 31 _ rfl PS (by rw [HPS.out]; kernel_rfl) ?_) | (refine wpList_store_row rfl 31 _ _ rfl W5.heap.size PS rfl rfl 31 _ (heap_alloc_new W5 _) (by rw [SPS.out]; kernel_rfl) (by rw [SPS.out]; kernel_rfl) OPS.out ?_))
  obtain ⟨W6, hW6⟩ : ∃ W6, W6 = (W5.alloc (.cells #[.int .i64 0, .int .i64 0, .bool false, .int .i64 0, .string ⟨#[]⟩, .bool false, .string ⟨#[]⟩, .slice none 0 0, .int .i64 0, .bool false, .bool false, .string ⟨#[]⟩, .bool false, .slice none 0 0, .bool false, .int .i64 0, .bool false, .string ⟨#[]⟩, .slice none 0 0, .int .i64 0, .bool false, .int .i64 0, .slice none 0 0, .slice none 0 0, .slice none 0 0] 31)).setRow W5.heap.size PS := ⟨_, rfl⟩
  rw [← hW6, ← hN6]
  have BW6 : Hid (Below w.heap.size w W6) := by rw [hW6]; exact row_below (BW5.out.alloc BW5.out.size _) _ _ BW5.out.size
  have yW6 : Hid (W6.heap[w.heap.size]? = some (.cells #[.int .u8 1, .int .u8 2, .int .u8 3] 5)) := by show _ = _; have := block_lt yW5.out; rw [hW6, setRow_other _ _ _ _ (by omega)]; exact (heap_alloc_old W5 _ this).trans yW5.out
  have qW6 : Hid (W6.heap[w.heap.size + 1]? = some (.cells P2 31)) := by show _ = _; have := block_lt qW5.out; rw [hW6, setRow_other _ _ _ _ (by omega)]; exact (heap_alloc_old W5 _ this).trans qW5.out
  have cW6 : Hid (W6.heap[N5]? = some (.cells PC 31)) := by show _ = _; have := block_lt cW5.out; rw [hW6, setRow_other _ _ _ _ (by omega)]; exact (heap_alloc_old W5 _ this).trans cW5.out
  have sW6 : Hid (W6.heap[N6]? = some (.cells PS 31)) := by show _ = _; rw [hW6, hN6]; exact setRow_heap _ _ _ PS 31 (0, 0) (heap_alloc_new W5 _)
  clear hW6 hN6
  go_wp2_with (first | (refine wpList_load_wanted rfl _ rfl (w.heap.size + 1) rfl P2 (0, 0) qW6.out SP2.out ?_) | fail)
  go_must (go_at_call 17)
  refine ((show Calls Tryd.prog 17 #[.agg P2] W6 (fun e w' => e = .returned (.int .i64 (26 : Nat)) ∧ Below W6.heap.size W6 w') from by have := check_any _ cn0 W6 (HG.out.below BW6.out) (in_pub _ 0 yW6.out) (small_pub _ 0); rw [ck_pub0] at this; rw [HP2.out]; exact this)).mono ?_
  rintro e w7 ⟨rfl, hb⟩
  have Bw7 : Hid (Below w.heap.size w w7) := BW6.out.trans (hb.mono BW6.out.size)
  have Lw7 : Hid (W6.heap.size ≤ w7.heap.size) := hb.size
  have cw7 : Hid (w7.heap[N5]? = some (.cells PC 31)) := (hb.block _ (block_lt cW6.out)).trans cW6.out
  have sw7 : Hid (w7.heap[N6]? = some (.cells PS 31)) := (hb.block _ (block_lt sW6.out)).trans sW6.out
  clear hb
  go_wp2_with (first | (refine wpList_load_wanted rfl _ rfl N5 rfl PC (0, 0) cw7.out SPC.out ?_) | fail)
  go_must (go_at_call 17)
  refine ((show Calls Tryd.prog 17 #[.agg PC] w7 (fun e w' => e = .returned (.int .i64 (0 : Nat)) ∧ Below w7.heap.size w7 w') from by have := check_any _ cn0 w7 (HG.out.below Bw7.out) (in_con _) small_con; rw [ck_con] at this; rw [HPC.out]; exact this)).mono ?_
  rintro e w8 ⟨rfl, hb⟩
  have Bw8 : Hid (Below w.heap.size w w8) := Bw7.out.trans (hb.mono Bw7.out.size)
  have Lw8 : Hid (w7.heap.size ≤ w8.heap.size) := hb.size
  have cw8 : Hid (w8.heap[N5]? = some (.cells PC 31)) := (hb.block _ (block_lt cw7.out)).trans cw7.out
  have sw8 : Hid (w8.heap[N6]? = some (.cells PS 31)) := (hb.block _ (block_lt sw7.out)).trans sw7.out
  clear hb
  go_wp2_with (first | (refine wpList_load_wanted rfl _ rfl N5 rfl PC (0, 0) cw8.out SPC.out ?_) | fail)
  go_must (go_at_call 12)
  refine ((show Calls Tryd.prog 12 #[.agg PC] w8 (fun e w' => e = .returned (.int .i64 13) ∧ Below w8.heap.size w8 w') from by have := length_any _ cn0 w8 (HG.out.below Bw8.out) (in_con _) small_con; rw [ck_con, sz_con] at this; rw [HPC.out]; exact this)).mono ?_
  rintro e w9 ⟨rfl, hb⟩
  have Bw9 : Hid (Below w.heap.size w w9) := Bw8.out.trans (hb.mono Bw8.out.size)
  have Lw9 : Hid (w8.heap.size ≤ w9.heap.size) := hb.size
  have sw9 : Hid (w9.heap[N6]? = some (.cells PS 31)) := (hb.block _ (block_lt sw8.out)).trans sw8.out
  clear hb
  go_wp2_with (first | (refine wpList_load_wanted rfl _ rfl N6 rfl PS (0, 0) sw9.out SPS.out ?_) | fail)
  go_must (go_at_call 17)
  refine ((show Calls Tryd.prog 17 #[.agg PS] w9 (fun e w' => e = .returned (.int .i64 (28 : Nat)) ∧ Below w9.heap.size w9 w') from by have := check_any _ cn0 w9 (HG.out.below Bw9.out) (in_sub _) small_sub; rw [ck_sub] at this; rw [HPS.out]; exact this)).mono ?_
  rintro e w10 ⟨rfl, hb⟩
  have Bw10 : Hid (Below w.heap.size w w10) := Bw9.out.trans (hb.mono Bw9.out.size)
  have Lw10 : Hid (w9.heap.size ≤ w10.heap.size) := hb.size
  clear hb
  have M1 : Hid (KindsAt w10) := (HG.out.below Bw10.out).kinds
  go_wp2_with fail
  go_must (go_at_call 6)
  refine (may_any _ _ _ M1.out).mono ?_
  rintro e w' ⟨rfl, he⟩
  obtain rfl := he.symm
  clear he
  rw [show may 3 10 = true by rfl]
  go_wp2_with fail
  go_must (go_at_call 6)
  refine (may_any _ _ _ M1.out).mono ?_
  rintro e w' ⟨rfl, he⟩
  obtain rfl := he.symm
  clear he
  rw [show may 3 8 = false by rfl]
  go_wp2_with fail
  go_must (go_at_call 6)
  refine (may_any _ _ _ M1.out).mono ?_
  rintro e w' ⟨rfl, he⟩
  obtain rfl := he.symm
  clear he
  rw [show may 6 0 = false by rfl]
  go_wp2
  go_ret
  exact ⟨rfl, Bw10.out⟩
end Go.Proofs.YtcoccggimbficaaDoor
