import Derived.Test.YtcoccggimbficaaDoorLb
import Derived.Test.YtcoccggimbficaaDoorKw
import Derived.Great.BuildSlice
import Derived.Test.YtcoccggimbficaaDoorCb
namespace Go.Proofs.YtcoccggimbficaaDoor
open Go Go.RowKit Go.Sort
set_option linter.unusedSimpArgs false
set_option linter.unusedVariables false
set_option maxRecDepth 100000

def nos : Sl := ⟨none, 0, 0⟩
def pk0 : Pk := ⟨0, 0, false, 0, ⟨#[]⟩, false, ⟨#[]⟩, nos, 0, false, false, ⟨#[]⟩, false, nos, false, 0, false, ⟨#[]⟩, nos, 0, false, 0, nos, nos, nos⟩
def pub (b : Nat) (id : Int) : Pk := { pk0 with kind := 3, mT := ⟨#[97]⟩, mP := ⟨some ⟨b, 0, none⟩, 3, 3⟩, mQ := 1, id := id }
def con : Pk := { pk0 with kind := 1, level := 4, clean := true, keep := 60, client := ⟨#[99]⟩ }
def sub : Pk := { pk0 with kind := 8, id := 1 }
def oneTwo (i : Nat) : Int := if i = 0 then 1 else if i = 1 then 2 else 3
def cn0 : Cn := ⟨fun _ => 0, fun _ => 0, oneTwo, fun _ => ⟨#[]⟩, fun _ => 0, fun _ => 0, fun _ => ⟨#[]⟩⟩
theorem ck_pub (b : Nat) : ck TT (pub b 7) cn0 = 0 := by kernel_rfl
theorem ck_pub0 (b : Nat) : ck TT (pub b 0) cn0 = 26 := by kernel_rfl
theorem ck_con : ck TT con cn0 = 0 := by kernel_rfl
theorem ck_sub : ck TT sub cn0 = 28 := by kernel_rfl
theorem fg_pub (b : Nat) : fg (pub b 7) = 2 := by kernel_rfl
theorem sz_pub (b : Nat) : sz (pub b 7) cn0 = 8 := by kernel_rfl
theorem sz_con : sz con cn0 = 13 := by kernel_rfl
theorem small_pub (b : Nat) (i : Int) : Small (pub b i) cn0 := by constructor <;> first | exact Nat.zero_le _ | exact (by decide : (1 : Nat) ≤ 1000000) | exact (by decide : (3 : Nat) ≤ 1000000)
theorem small_con : Small con cn0 := by constructor <;> first | exact Nat.zero_le _ | exact (by decide : (1 : Nat) ≤ 1000000) | exact (by decide : (3 : Nat) ≤ 1000000)
theorem small_sub : Small sub cn0 := by constructor <;> first | exact Nat.zero_le _ | exact (by decide : (1 : Nat) ≤ 1000000) | exact (by decide : (3 : Nat) ≤ 1000000)
theorem in_pub {w : World} (b : Nat) (i : Int) (h : w.heap[b]? = some (.cells #[.int .u8 1, .int .u8 2, .int .u8 3] 5)) : In w (pub b i) cn0 := by
  refine ⟨⟨Nat.le_refl _, fun i => (by decide : (0 : Int) ≤ 0 ∧ (0 : Int) ≤ 255), .inl rfl⟩, ⟨Nat.le_refl _, fun i => (by decide : (0 : Int) ≤ 0 ∧ (0 : Int) ≤ 255), .inl rfl⟩, ⟨Nat.le_refl _, fun i => ?_, .inr ⟨b, 0, rfl, fun i hi => ?_⟩⟩, ⟨Nat.le_refl _, .inl rfl⟩, ⟨Nat.le_refl _, .inl rfl⟩, ⟨Nat.le_refl _, .inl rfl⟩⟩
  · show 0 ≤ oneTwo i ∧ oneTwo i ≤ 255
    unfold oneTwo
    split
    · decide
    · split <;> decide
  · have h3 : i < 3 := hi
    unfold World.cell?
    obtain rfl | rfl | rfl : i = 0 ∨ i = 1 ∨ i = 2 := by omega
    all_goals simp [h, cn0, oneTwo]
theorem in_con (w : World) : In w con cn0 := ⟨⟨Nat.le_refl _, fun i => (by decide : (0 : Int) ≤ 0 ∧ (0 : Int) ≤ 255), .inl rfl⟩, ⟨Nat.le_refl _, fun i => (by decide : (0 : Int) ≤ 0 ∧ (0 : Int) ≤ 255), .inl rfl⟩, ⟨Nat.le_refl _, fun i => by show 0 ≤ oneTwo i ∧ oneTwo i ≤ 255; unfold oneTwo; split; decide; split <;> decide, .inl rfl⟩, ⟨Nat.le_refl _, .inl rfl⟩, ⟨Nat.le_refl _, .inl rfl⟩, ⟨Nat.le_refl _, .inl rfl⟩⟩
theorem in_sub (w : World) : In w sub cn0 := ⟨⟨Nat.le_refl _, fun i => (by decide : (0 : Int) ≤ 0 ∧ (0 : Int) ≤ 255), .inl rfl⟩, ⟨Nat.le_refl _, fun i => (by decide : (0 : Int) ≤ 0 ∧ (0 : Int) ≤ 255), .inl rfl⟩, ⟨Nat.le_refl _, fun i => by show 0 ≤ oneTwo i ∧ oneTwo i ≤ 255; unfold oneTwo; split; decide; split <;> decide, .inl rfl⟩, ⟨Nat.le_refl _, .inl rfl⟩, ⟨Nat.le_refl _, .inl rfl⟩, ⟨Nat.le_refl _, .inl rfl⟩⟩

theorem wpList_build_to {ops : Array Oper} {rest : List Oper} {o : Oper} {a : Act} {w : World} {Q : Exit → Act → World → Prop} (hg : o.guard = none) (t : TypeId) (parts : Array (Nat × Operand)) (ho : o.op = .build t parts) (cells : Array Value)
    (hf : Tryd.prog.built t (parts.map fun (i, x) => (i, a.eval x)).toList = some cells) (h : wpList Tryd.prog ops Q rest (a.put o.dst (.agg cells)) w) : wpList Tryd.prog ops Q (o :: rest) a w :=
  wpList_build hg t parts ho (by rw [hf]; rfl) (by rw [hf]; exact h)
end Go.Proofs.YtcoccggimbficaaDoor
namespace Go.Proofs.YtcoccggimbficaaDoor
open Go Go.RowKit Go.Sort
set_option linter.unusedSimpArgs false
set_option linter.unusedVariables false
set_option maxRecDepth 100000

theorem row_below {B : Nat} {w w' : World} (h : Below B w w') (g : Nat) (cs : Array Value) (hg : B ≤ g) : Below B w (w'.setRow g cs) := by
  refine ⟨h.os, h.tape, h.output, ?_, fun k hk => ?_⟩
  · show w.heap.size ≤ (w'.heap.modify _ _).size
    have := h.size
    simpa using this
  · rw [setRow_other w' g k cs (by omega)]
    exact h.block k hk
theorem set_below {B : Nat} {w w' : World} (h : Below B w w') (g i : Nat) (v : Value) (hg : B ≤ g) : Below B w (w'.setCell ⟨g, i, none⟩ v) := by
  refine ⟨h.os, h.tape, h.output, ?_, fun k hk => ?_⟩
  · show w.heap.size ≤ (w'.heap.modify _ _).size
    have := h.size
    simpa using this
  · rw [heap_setCell_other w' _ k _ (by show k ≠ g; omega)]
    exact h.block k hk
theorem below_two (w : World) (o1 o2 : Obj) : Below w.heap.size w ((w.alloc o1).alloc o2) := ((Below.refl _ _).alloc (Nat.le_refl _) _).alloc (by show w.heap.size ≤ (w.heap.push _).size; simp) _
theorem row_size (w : World) (g : Nat) (cs : Array Value) : (w.setRow g cs).heap.size = w.heap.size := by
  show (w.heap.modify _ _).size = _
  simp

set_option maxHeartbeats 2000000 in
theorem known_any (w : World) (hg : Gd w) : Calls Tryd.prog 10 #[] w fun e w' => e = .returned (.bool true) ∧ Below w.heap.size w w' := by
  have HG : Hid (Gd w) := hg
  clear hg
  obtain ⟨P1, hP1⟩ : ∃ P1, P1 = pkCells (pub w.heap.size 7) := ⟨_, rfl⟩
  have HP1 : Hid (P1 = pkCells (pub w.heap.size 7)) := hP1
  have SP1 : Hid (P1.size = 25) := by show _ = _; rw [hP1]; rfl
  have OP1 : Hid (P1.all (·.oneCell') = true) := by show _ = _; rw [hP1]; simp [pkCells, Value.oneCell']
  clear hP1
  obtain ⟨P2, hP2⟩ : ∃ P2, P2 = pkCells (pub w.heap.size 0) := ⟨_, rfl⟩
  have HP2 : Hid (P2 = pkCells (pub w.heap.size 0)) := hP2
  have SP2 : Hid (P2.size = 25) := by show _ = _; rw [hP2]; rfl
  have OP2 : Hid (P2.all (·.oneCell') = true) := by show _ = _; rw [hP2]; simp [pkCells, Value.oneCell']
  clear hP2
  obtain ⟨PC, hPC⟩ : ∃ PC, PC = pkCells (con) := ⟨_, rfl⟩
  have HPC : Hid (PC = pkCells (con)) := hPC
  have SPC : Hid (PC.size = 25) := by show _ = _; rw [hPC]; rfl
  have OPC : Hid (PC.all (·.oneCell') = true) := by show _ = _; rw [hPC]; simp [pkCells, Value.oneCell']
  clear hPC
  obtain ⟨PS, hPS⟩ : ∃ PS, PS = pkCells (sub) := ⟨_, rfl⟩
  have HPS : Hid (PS = pkCells (sub)) := hPS
  have SPS : Hid (PS.size = 25) := by show _ = _; rw [hPS]; rfl
  have OPS : Hid (PS.all (·.oneCell') = true) := by show _ = _; rw [hPS]; simp [pkCells, Value.oneCell']
  clear hPS
  go_enter Tryd.func10, Tryd.ntmps10
  go_upto_region 1 with fail
  go_upto_region 2 with (first | (refine wpList_build_to rfl 26 _ rfl #[.string ⟨#[97]⟩, .slice (some ⟨w.heap.size, 0, none⟩) 3 3, .int .i64 1, .bool false] (by kernel_rfl) ?_) | (refine wpList_build_to rfl 31 _ rfl P1 (by rw [HP1.out]; kernel_rfl) ?_) | (refine wpList_store_row rfl 31 _ _ rfl (w.heap.size + 1) P1 rfl rfl 31 _ (heap_alloc2_new w _ _) (by rw [SP1.out]; kernel_rfl) (by rw [SP1.out]; kernel_rfl) OP1.out ?_))
  obtain ⟨W1, hW1⟩ : ∃ W1, W1 = ((w.alloc (.cells #[.int .u8 1, .int .u8 2, .int .u8 3] 5)).alloc (.cells #[.int .i64 0, .int .i64 0, .bool false, .int .i64 0, .string ⟨#[]⟩, .bool false, .string ⟨#[]⟩, .slice none 0 0, .int .i64 0, .bool false, .bool false, .string ⟨#[]⟩, .bool false, .slice none 0 0, .bool false, .int .i64 0, .bool false, .string ⟨#[]⟩, .slice none 0 0, .int .i64 0, .bool false, .int .i64 0, .slice none 0 0, .slice none 0 0, .slice none 0 0] 31)).setRow (w.heap.size + 1) P1 := ⟨_, rfl⟩
  rw [← hW1]
  have BW1 : Hid (Below w.heap.size w W1) := by rw [hW1]; exact row_below (below_two _ _ _) _ _ (by omega)
  have yW1 : Hid (W1.heap[w.heap.size]? = some (.cells #[.int .u8 1, .int .u8 2, .int .u8 3] 5)) := by show _ = _; rw [hW1, setRow_other _ _ _ _ (by omega)]; exact heap_alloc2_old w _ _
  have rW1 : Hid (W1.heap[w.heap.size + 1]? = some (.cells P1 31)) := by show _ = _; rw [hW1]; exact setRow_heap _ _ _ P1 31 (0, 0) (heap_alloc2_new w _ _)
  clear hW1
  go_wp2_with (first | (refine wpList_load_wanted rfl _ rfl (w.heap.size + 1) rfl P1 (0, 0) rW1.out SP1.out ?_) | fail)
  go_must (go_at_call 17)
  refine ((show Calls Tryd.prog 17 #[.agg P1] W1 (fun e w' => e = .returned (.int .i64 (0 : Nat)) ∧ Below W1.heap.size W1 w') from by have := check_any _ cn0 W1 (HG.out.below BW1.out) (in_pub _ 7 yW1.out) (small_pub _ 7); rw [ck_pub] at this; rw [HP1.out]; exact this)).mono ?_
  rintro e w1 ⟨rfl, hb⟩
  have Bw1 : Hid (Below w.heap.size w w1) := BW1.out.trans (hb.mono BW1.out.size)
  have Lw1 : Hid (W1.heap.size ≤ w1.heap.size) := hb.size
  have yw1 : Hid (w1.heap[w.heap.size]? = some (.cells #[.int .u8 1, .int .u8 2, .int .u8 3] 5)) := (hb.block _ (block_lt yW1.out)).trans yW1.out
  have rw1 : Hid (w1.heap[w.heap.size + 1]? = some (.cells P1 31)) := (hb.block _ (block_lt rW1.out)).trans rW1.out
  clear hb
  go_wp2_with (first | (refine wpList_load_wanted rfl _ rfl (w.heap.size + 1) rfl P1 (0, 0) rw1.out SP1.out ?_) | fail)
  go_must (go_at_call 13)
  refine ((show Calls Tryd.prog 13 #[.agg P1] w1 (fun e w' => e = .returned (.int .i64 2) ∧ Below w1.heap.size w1 w') from by have := flags_any _ cn0 w1 (HG.out.below Bw1.out) (in_pub _ 7 yw1.out) (small_pub _ 7) ((ck_right TT _ cn0).1 (ck_pub _)); rw [fg_pub] at this; rw [HP1.out]; exact this)).mono ?_
  rintro e w2 ⟨rfl, hb⟩
  have Bw2 : Hid (Below w.heap.size w w2) := Bw1.out.trans (hb.mono Bw1.out.size)
  have Lw2 : Hid (w1.heap.size ≤ w2.heap.size) := hb.size
  have yw2 : Hid (w2.heap[w.heap.size]? = some (.cells #[.int .u8 1, .int .u8 2, .int .u8 3] 5)) := (hb.block _ (block_lt yw1.out)).trans yw1.out
  have rw2 : Hid (w2.heap[w.heap.size + 1]? = some (.cells P1 31)) := (hb.block _ (block_lt rw1.out)).trans rw1.out
  clear hb
  go_wp2_with (first | (refine wpList_load_wanted rfl _ rfl (w.heap.size + 1) rfl P1 (0, 0) rw2.out SP1.out ?_) | fail)
  go_must (go_at_call 12)
  refine ((show Calls Tryd.prog 12 #[.agg P1] w2 (fun e w' => e = .returned (.int .i64 8) ∧ Below w2.heap.size w2 w') from by have := length_any _ cn0 w2 (HG.out.below Bw2.out) (in_pub _ 7 yw2.out) (small_pub _ 7); rw [ck_pub, sz_pub] at this; rw [HP1.out]; exact this)).mono ?_
  rintro e w3 ⟨rfl, hb⟩
  have Bw3 : Hid (Below w.heap.size w w3) := Bw2.out.trans (hb.mono Bw2.out.size)
  have Lw3 : Hid (w2.heap.size ≤ w3.heap.size) := hb.size
  have yw3 : Hid (w3.heap[w.heap.size]? = some (.cells #[.int .u8 1, .int .u8 2, .int .u8 3] 5)) := (hb.block _ (block_lt yw2.out)).trans yw2.out
  have rw3 : Hid (w3.heap[w.heap.size + 1]? = some (.cells P1 31)) := (hb.block _ (block_lt rw2.out)).trans rw2.out
  clear hb
  go_upto_region 4 with fail
  have f21 : w3.cell? ⟨w.heap.size + 1, 21, none⟩ = some (.int .i64 7) := by
    unfold World.cell?
    simp only [rw3.out]
    rw [HP1.out]
    rfl
  have z21 : w3.frozen? ⟨w.heap.size + 1, 21, none⟩ = false := by simp [World.frozen?, rw3.out]
  go_upto_region 5 with fail
  obtain ⟨W4, hW4⟩ : ∃ W4, W4 = w3.setCell ⟨w.heap.size + 1, 21, none⟩ (.int .i64 0) := ⟨_, rfl⟩
  rw [← hW4]
  have BW4 : Hid (Below w.heap.size w W4) := by rw [hW4]; exact set_below Bw3.out _ _ _ (by omega)
  have yW4 : Hid (W4.heap[w.heap.size]? = some (.cells #[.int .u8 1, .int .u8 2, .int .u8 3] 5)) := by show _ = _; rw [hW4, heap_setCell_other w3 _ _ _ (by show w.heap.size ≠ w.heap.size + 1; omega)]; exact yw3.out
  have qW4 : Hid (W4.heap[w.heap.size + 1]? = some (.cells P2 31)) := by
    show _ = _
    rw [hW4, heap_setCell_same w3 _ 21 P1 31 _ rw3.out, HP1.out, HP2.out]
    rfl
  clear hW4 f21 z21
  obtain ⟨N5, hN5⟩ : ∃ N5, N5 = W4.heap.size := ⟨_, rfl⟩
  go_upto_region 6 with (first | (refine wpList_build_to rfl 31 _ rfl PC (by rw [HPC.out]; kernel_rfl) ?_) | (refine wpList_store_row rfl 31 _ _ rfl W4.heap.size PC rfl rfl 31 _ (heap_alloc_new W4 _) (by rw [SPC.out]; kernel_rfl) (by rw [SPC.out]; kernel_rfl) OPC.out ?_))
  obtain ⟨W5, hW5⟩ : ∃ W5, W5 = (W4.alloc (.cells #[.int .i64 0, .int .i64 0, .bool false, .int .i64 0, .string ⟨#[]⟩, .bool false, .string ⟨#[]⟩, .slice none 0 0, .int .i64 0, .bool false, .bool false, .string ⟨#[]⟩, .bool false, .slice none 0 0, .bool false, .int .i64 0, .bool false, .string ⟨#[]⟩, .slice none 0 0, .int .i64 0, .bool false, .int .i64 0, .slice none 0 0, .slice none 0 0, .slice none 0 0] 31)).setRow W4.heap.size PC := ⟨_, rfl⟩
  rw [← hW5, ← hN5]
  have t5 : W5.heap.size = N5 + 1 := by rw [hW5, row_size, hN5]; show (W4.heap.push _).size = _; simp
  have BW5 : Hid (Below w.heap.size w W5) := by rw [hW5]; exact row_below (BW4.out.alloc BW4.out.size _) _ _ BW4.out.size
  have yW5 : Hid (W5.heap[w.heap.size]? = some (.cells #[.int .u8 1, .int .u8 2, .int .u8 3] 5)) := by show _ = _; have := block_lt yW4.out; rw [hW5, setRow_other _ _ _ _ (by omega)]; exact (heap_alloc_old W4 _ this).trans yW4.out
  have qW5 : Hid (W5.heap[w.heap.size + 1]? = some (.cells P2 31)) := by show _ = _; have := block_lt qW4.out; rw [hW5, setRow_other _ _ _ _ (by omega)]; exact (heap_alloc_old W4 _ this).trans qW4.out
  have cW5 : Hid (W5.heap[N5]? = some (.cells PC 31)) := by show _ = _; rw [hW5, hN5]; exact setRow_heap _ _ _ PC 31 (0, 0) (heap_alloc_new W4 _)
  clear hW5 hN5 t5
  obtain ⟨N6, hN6⟩ : ∃ N6, N6 = W5.heap.size := ⟨_, rfl⟩
  go_upto_region 7 with (first | (refine wpList_build_to rfl 31 _ rfl PS (by rw [HPS.out]; kernel_rfl) ?_) | (refine wpList_store_row rfl 31 _ _ rfl W5.heap.size PS rfl rfl 31 _ (heap_alloc_new W5 _) (by rw [SPS.out]; kernel_rfl) (by rw [SPS.out]; kernel_rfl) OPS.out ?_))
  obtain ⟨W6, hW6⟩ : ∃ W6, W6 = (W5.alloc (.cells #[.int .i64 0, .int .i64 0, .bool false, .int .i64 0, .string ⟨#[]⟩, .bool false, .string ⟨#[]⟩, .slice none 0 0, .int .i64 0, .bool false, .bool false, .string ⟨#[]⟩, .bool false, .slice none 0 0, .bool false, .int .i64 0, .bool false, .string ⟨#[]⟩, .slice none 0 0, .int .i64 0, .bool false, .int .i64 0, .slice none 0 0, .slice none 0 0, .slice none 0 0] 31)).setRow W5.heap.size PS := ⟨_, rfl⟩
  rw [← hW6, ← hN6]
  have BW6 : Hid (Below w.heap.size w W6) := by rw [hW6]; exact row_below (BW5.out.alloc BW5.out.size _) _ _ BW5.out.size
  have yW6 : Hid (W6.heap[w.heap.size]? = some (.cells #[.int .u8 1, .int .u8 2, .int .u8 3] 5)) := by show _ = _; have := block_lt yW5.out; rw [hW6, setRow_other _ _ _ _ (by omega)]; exact (heap_alloc_old W5 _ this).trans yW5.out
  have qW6 : Hid (W6.heap[w.heap.size + 1]? = some (.cells P2 31)) := by show _ = _; have := block_lt qW5.out; rw [hW6, setRow_other _ _ _ _ (by omega)]; exact (heap_alloc_old W5 _ this).trans qW5.out
  have cW6 : Hid (W6.heap[N5]? = some (.cells PC 31)) := by show _ = _; have := block_lt cW5.out; rw [hW6, setRow_other _ _ _ _ (by omega)]; exact (heap_alloc_old W5 _ this).trans cW5.out
  have sW6 : Hid (W6.heap[N6]? = some (.cells PS 31)) := by show _ = _; rw [hW6, hN6]; exact setRow_heap _ _ _ PS 31 (0, 0) (heap_alloc_new W5 _)
  clear hW6 hN6
  go_wp2_with (first | (refine wpList_load_wanted rfl _ rfl (w.heap.size + 1) rfl P2 (0, 0) qW6.out SP2.out ?_) | fail)
  go_must (go_at_call 17)
  refine ((show Calls Tryd.prog 17 #[.agg P2] W6 (fun e w' => e = .returned (.int .i64 (26 : Nat)) ∧ Below W6.heap.size W6 w') from by have := check_any _ cn0 W6 (HG.out.below BW6.out) (in_pub _ 0 yW6.out) (small_pub _ 0); rw [ck_pub0] at this; rw [HP2.out]; exact this)).mono ?_
  rintro e w7 ⟨rfl, hb⟩
  have Bw7 : Hid (Below w.heap.size w w7) := BW6.out.trans (hb.mono BW6.out.size)
  have Lw7 : Hid (W6.heap.size ≤ w7.heap.size) := hb.size
  have cw7 : Hid (w7.heap[N5]? = some (.cells PC 31)) := (hb.block _ (block_lt cW6.out)).trans cW6.out
  have sw7 : Hid (w7.heap[N6]? = some (.cells PS 31)) := (hb.block _ (block_lt sW6.out)).trans sW6.out
  clear hb
  go_wp2_with (first | (refine wpList_load_wanted rfl _ rfl N5 rfl PC (0, 0) cw7.out SPC.out ?_) | fail)
  go_must (go_at_call 17)
  refine ((show Calls Tryd.prog 17 #[.agg PC] w7 (fun e w' => e = .returned (.int .i64 (0 : Nat)) ∧ Below w7.heap.size w7 w') from by have := check_any _ cn0 w7 (HG.out.below Bw7.out) (in_con _) small_con; rw [ck_con] at this; rw [HPC.out]; exact this)).mono ?_
  rintro e w8 ⟨rfl, hb⟩
  have Bw8 : Hid (Below w.heap.size w w8) := Bw7.out.trans (hb.mono Bw7.out.size)
  have Lw8 : Hid (w7.heap.size ≤ w8.heap.size) := hb.size
  have cw8 : Hid (w8.heap[N5]? = some (.cells PC 31)) := (hb.block _ (block_lt cw7.out)).trans cw7.out
  have sw8 : Hid (w8.heap[N6]? = some (.cells PS 31)) := (hb.block _ (block_lt sw7.out)).trans sw7.out
  clear hb
  go_wp2_with (first | (refine wpList_load_wanted rfl _ rfl N5 rfl PC (0, 0) cw8.out SPC.out ?_) | fail)
  go_must (go_at_call 12)
  refine ((show Calls Tryd.prog 12 #[.agg PC] w8 (fun e w' => e = .returned (.int .i64 13) ∧ Below w8.heap.size w8 w') from by have := length_any _ cn0 w8 (HG.out.below Bw8.out) (in_con _) small_con; rw [ck_con, sz_con] at this; rw [HPC.out]; exact this)).mono ?_
  rintro e w9 ⟨rfl, hb⟩
  have Bw9 : Hid (Below w.heap.size w w9) := Bw8.out.trans (hb.mono Bw8.out.size)
  have Lw9 : Hid (w8.heap.size ≤ w9.heap.size) := hb.size
  have sw9 : Hid (w9.heap[N6]? = some (.cells PS 31)) := (hb.block _ (block_lt sw8.out)).trans sw8.out
  clear hb
  go_wp2_with (first | (refine wpList_load_wanted rfl _ rfl N6 rfl PS (0, 0) sw9.out SPS.out ?_) | fail)
  go_must (go_at_call 17)
  refine ((show Calls Tryd.prog 17 #[.agg PS] w9 (fun e w' => e = .returned (.int .i64 (28 : Nat)) ∧ Below w9.heap.size w9 w') from by have := check_any _ cn0 w9 (HG.out.below Bw9.out) (in_sub _) small_sub; rw [ck_sub] at this; rw [HPS.out]; exact this)).mono ?_
  rintro e w10 ⟨rfl, hb⟩
  have Bw10 : Hid (Below w.heap.size w w10) := Bw9.out.trans (hb.mono Bw9.out.size)
  have Lw10 : Hid (w9.heap.size ≤ w10.heap.size) := hb.size
  clear hb
  have M1 : Hid (KindsAt w10) := (HG.out.below Bw10.out).kinds
  go_wp2_with fail
  go_must (go_at_call 6)
  refine (may_any _ _ _ M1.out).mono ?_
  rintro e w' ⟨rfl, he⟩
  obtain rfl := he.symm
  clear he
  rw [show may 3 10 = true by rfl]
  go_wp2_with fail
  go_must (go_at_call 6)
  refine (may_any _ _ _ M1.out).mono ?_
  rintro e w' ⟨rfl, he⟩
  obtain rfl := he.symm
  clear he
  rw [show may 3 8 = false by rfl]
  go_wp2_with fail
  go_must (go_at_call 6)
  refine (may_any _ _ _ M1.out).mono ?_
  rintro e w' ⟨rfl, he⟩
  obtain rfl := he.symm
  clear he
  rw [show may 6 0 = false by rfl]
  go_wp2
  go_ret
  exact ⟨rfl, Bw10.out⟩
end Go.Proofs.YtcoccggimbficaaDoor
namespace Go.Proofs.YtcoccggimbficaaDoor
open Go Go.RowKit Go.Sort
set_option linter.unusedSimpArgs false
set_option linter.unusedVariables false
set_option maxRecDepth 100000

/-- Nothing follows what is taken out. -/
theorem cut_last {P : Program} (w : World) (t ty e : TypeId) (i : TypeInfo) (ht : P.underlying t = some (.slice e)) (hi : P.info? e = some i) (b off k : Nat) (a' : Option Addr) (c' : Nat) :
    (Builtin.append_ #[t, t] ty #[.slice (some ⟨b, off, none⟩) k k, .slice a' 0 c']).run P w = .ok (.slice (some ⟨b, off, none⟩) k k) w := by
  have hs : Src P i.size t (.slice a' 0 c') 0 [] w := by
    cases a' with
    | none => exact Src.ofNil w ht c'
    | some ad => exact Src.ofSlice w ht ad 0 c' [] (by simp) (fun j u hj => by simp at hj) (fun u hu => by cases hu)
  have := run_append_room_src w t t ty e i ht hi b off k k (.slice a' 0 c') 0 [] hs (by omega) (fun j hj => by simp at hj) (fun j hj => by simp at hj)
  rw [this]
  rfl

/-- Something follows: a new row. -/
theorem cut_mid {P : Program} (w : World) (t ty e : TypeId) (i : TypeInfo) (z : Value) (ht : P.underlying t = some (.slice e)) (hi : P.info? e = some i) (hz : i.zero = some z) (hb : i.bytes ≤ 32) (b off k o2 m c' : Nat) (olds news : List Value)
    (hlo : olds.length = k * i.size) (hold : ∀ j u, olds[j]? = some u → w.cell? ⟨b, off + j, none⟩ = some u) (hln : news.length = m * i.size) (hnew : ∀ j u, news[j]? = some u → w.cell? ⟨b, o2 + j, none⟩ = some u) (h1 : ∀ u ∈ news, u.oneCell' = true)
    (hm : 0 < m) (hn : k + m ≤ 1000000) :
    ∃ cap zs, k + m ≤ cap ∧ (Builtin.append_ #[t, t] ty #[.slice (some ⟨b, off, none⟩) k k, .slice (some ⟨b, o2, none⟩) m c']).run P w = .ok (.slice (some ⟨w.heap.size, 0, none⟩) (k + m) cap) (w.drew.alloc (.cells ((olds ++ news).toArray ++ zs) e)) := by
  have hfit : Builtin.nextslicecap (k + m) k * i.bytes ≤ 281474976710656 := growslice_fits_wide (by omega) (by
    have : (k + m + (k + m) / 4 + 192) * i.bytes ≤ (k + m + (k + m) / 4 + 192) * 32 := Nat.mul_le_mul_left _ hb
    omega)
  have hs : Src P i.size t (.slice (some ⟨b, o2, none⟩) m c') m news w := Src.ofSlice w ht ⟨b, o2, none⟩ m c' news hln (fun j u hj => by rw [plain_add]; exact hnew j u hj) h1
  have ho : (Builtin.firstCells i.size k (.slice (some ⟨b, off, none⟩) k k)).run P w.drew = .ok olds.toArray w.drew := run_firstCells_some w.drew i.size k ⟨b, off, none⟩ k k olds hlo (fun j u hj => by rw [plain_add]; exact hold j u hj)
  have := run_append_grow_src w t t ty e i z ht hi hz (some ⟨b, off, none⟩) k k olds ho _ m news hs (by omega) (by omega) hfit
  exact ⟨_, _, grownCap_ge w (k + m) k e, this⟩

def txCells (f : Nat → ByteArray) (a n : Nat) : List Value := (List.range n).map fun i => .string (f (a + i))
def asCells (f : Nat → ByteArray) (q : Nat → Int) (a n : Nat) : List Value := (List.range (n * 2)).map fun i => if i % 2 = 0 then .string (f (a + i / 2)) else .int .i64 (q (a + i / 2))
theorem range_map {α : Type} (g : Nat → α) (n j : Nat) (u : α) (h : ((List.range n).map g)[j]? = some u) : j < n ∧ u = g j := by
  rw [List.getElem?_map] at h
  by_cases hj : j < n
  · rw [List.getElem?_range hj] at h
    exact ⟨hj, by simpa using h.symm⟩
  · rw [List.getElem?_eq_none (by simpa using hj)] at h
    simp at h
theorem range_at {α : Type} (g : Nat → α) (n j : Nat) (h : j < n) : ((List.range n).map g)[j]? = some (g j) := by
  rw [List.getElem?_map, List.getElem?_range h]
  rfl

/-- One text taken out. -/
theorem cut_texts (w : World) (b off n k c' : Nat) (f : Nat → ByteArray) (hk : k + 1 < n) (hn : n ≤ 1000000) (hc : ∀ i, i < n → w.cell? ⟨b, off + i, none⟩ = some (.string (f i))) :
    ∃ s' w', (Builtin.append_ #[29, 29] 29 #[.slice (some ⟨b, off, none⟩) k k, .slice (some ⟨b, off + (k + 1), none⟩) (n - (k + 1)) c']).run Tryd.prog w = .ok (.slice s'.a s'.n s'.c) w' ∧ Below w.heap.size w w' ∧ s'.n + 1 = n ∧ Ss w' s' (outN k f) ∧ Nx w.heap.size s' := by
  obtain ⟨i0, hi, hz0, hz1, hz2⟩ : ∃ i, Tryd.prog.info? 9 = some i ∧ i.zero = some (.string ⟨#[]⟩) ∧ i.size = 1 ∧ i.bytes ≤ 32 := ⟨_, rfl, rfl, rfl, by decide⟩
  obtain ⟨cap, zs, hcap, hr⟩ := cut_mid w 29 29 9 i0 (.string ⟨#[]⟩) Tryd.underlying29 hi hz0 hz2 b off k (off + (k + 1)) (n - (k + 1)) c' (txCells f 0 k) (txCells f (k + 1) (n - (k + 1))) (by rw [hz1]; simp [txCells])
    (fun j u hj => by obtain ⟨h1, rfl⟩ := range_map _ _ _ _ hj; rw [Nat.zero_add]; exact hc j (by omega)) (by rw [hz1]; simp [txCells])
    (fun j u hj => by obtain ⟨h1, rfl⟩ := range_map _ _ _ _ hj; have := hc (k + 1 + j) (by omega); rw [show off + (k + 1) + j = off + (k + 1 + j) by omega]; exact this)
    (fun u hu => by obtain ⟨i, _, rfl⟩ := List.mem_map.1 hu; rfl) (by omega) (by omega)
  refine ⟨⟨some ⟨w.heap.size, 0, none⟩, k + (n - (k + 1)), cap⟩, _, hr, ((Below.refl w.heap.size w).drew).alloc (Nat.le_refl _) _, by show k + (n - (k + 1)) + 1 = n; omega, ⟨hcap, .inr ⟨w.heap.size, 0, rfl, fun i hi => ?_⟩⟩, fun b off _ he => by
      simp only [Option.some.injEq, Addr.mk.injEq] at he
      omega⟩
  have hi : i < k + (n - (k + 1)) := hi
  rw [Nat.zero_add]
  refine new_cell w _ 9 i _ ?_
  rw [Array.getElem?_append_left (by simp [txCells]; omega), List.getElem?_toArray]
  by_cases h : i < k
  · rw [List.getElem?_append_left (by simpa [txCells] using h)]
    unfold txCells
    rw [range_at _ _ _ h]
    simp [outN, h]
  · rw [List.getElem?_append_right (by simp [txCells]; omega)]
    unfold txCells
    rw [range_at _ _ _ (by simp; omega)]
    simp only [List.length_map, List.length_range, outN, h, if_false]
    rw [show k + 1 + (i - k) = i + 1 by omega]
/-- The same, of the last. -/
theorem last_texts {w : World} {b off n k : Nat} {f : Nat → ByteArray} (hk : k + 1 = n) (hc : ∀ i, i < n → w.cell? ⟨b, off + i, none⟩ = some (.string (f i))) : Ss w ⟨some ⟨b, off, none⟩, k, k⟩ (outN k f) :=
  ⟨Nat.le_refl _, .inr ⟨b, off, rfl, fun i hi => by have hi : i < k := hi; rw [show outN k f i = f i by simp [outN, hi]]; exact hc i (by omega)⟩⟩

/-- One filter with its quality taken out. -/
theorem cut_asks (w : World) (b off n k c' : Nat) (f : Nat → ByteArray) (q : Nat → Int) (hk : k + 1 < n) (hn : n ≤ 1000000) (hc : ∀ i, i < n → (w.cell? ⟨b, off + i * 2, none⟩ = some (.string (f i)) ∧ w.cell? ⟨b, off + i * 2 + 1, none⟩ = some (.int .i64 (q i)))) :
    ∃ s' w', (Builtin.append_ #[27, 27] 27 #[.slice (some ⟨b, off, none⟩) k k, .slice (some ⟨b, off + (k + 1) * 2, none⟩) (n - (k + 1)) c']).run Tryd.prog w = .ok (.slice s'.a s'.n s'.c) w' ∧ Below w.heap.size w w' ∧ s'.n + 1 = n ∧ As w' s' (outN k f) (outN k q) ∧ Nx w.heap.size s' := by
  obtain ⟨i0, hi, hz0, hz1, hz2⟩ : ∃ i, Tryd.prog.info? 56 = some i ∧ i.zero = some (.agg #[.string ⟨#[]⟩, .int .i64 0]) ∧ i.size = 2 ∧ i.bytes ≤ 32 := ⟨_, rfl, rfl, rfl, by decide⟩
  have hcell : ∀ a m, a + m ≤ n → ∀ j u, (asCells f q a m)[j]? = some u → w.cell? ⟨b, off + a * 2 + j, none⟩ = some u := fun a m ha j u hj => by
    obtain ⟨h1, rfl⟩ := range_map _ _ _ _ hj
    have h2 := hc (a + j / 2) (by omega)
    by_cases h : j % 2 = 0
    · rw [if_pos h, show off + a * 2 + j = off + (a + j / 2) * 2 by omega]
      exact h2.1
    · rw [if_neg h, show off + a * 2 + j = off + (a + j / 2) * 2 + 1 by omega]
      exact h2.2
  obtain ⟨cap, zs, hcap, hr⟩ := cut_mid w 27 27 56 i0 (.agg #[.string ⟨#[]⟩, .int .i64 0]) Tryd.underlying27 hi hz0 hz2 b off k (off + (k + 1) * 2) (n - (k + 1)) c' (asCells f q 0 k) (asCells f q (k + 1) (n - (k + 1))) (by rw [hz1]; simp [asCells])
    (fun j u hj => by have := hcell 0 k (by omega) j u hj; simpa using this) (by rw [hz1]; simp [asCells]) (hcell (k + 1) (n - (k + 1)) (by omega))
    (fun u hu => by obtain ⟨i, _, rfl⟩ := List.mem_map.1 hu; split <;> rfl) (by omega) (by omega)
  have hat : ∀ i, i < k + (n - (k + 1)) → ∀ d, d < 2 → ((asCells f q 0 k ++ asCells f q (k + 1) (n - (k + 1))).toArray ++ zs)[i * 2 + d]? = some (if d = 0 then .string (outN k f i) else .int .i64 (outN k q i)) := fun i hi d hd => by
    rw [Array.getElem?_append_left (by simp [asCells]; omega), List.getElem?_toArray]
    by_cases h : i < k
    · rw [List.getElem?_append_left (by simp [asCells]; omega)]
      unfold asCells
      rw [range_at _ _ _ (by omega)]
      simp only [outN, h, if_true, Nat.zero_add]
      rw [show (i * 2 + d) % 2 = d by omega, show (i * 2 + d) / 2 = i by omega]
    · rw [List.getElem?_append_right (by simp [asCells]; omega)]
      unfold asCells
      rw [range_at _ _ _ (by simp; omega)]
      simp only [List.length_map, List.length_range, outN, h, if_false]
      rw [show (i * 2 + d - k * 2) % 2 = d by omega, show k + 1 + (i * 2 + d - k * 2) / 2 = i + 1 by omega]
  refine ⟨⟨some ⟨w.heap.size, 0, none⟩, k + (n - (k + 1)), cap⟩, _, hr, ((Below.refl w.heap.size w).drew).alloc (Nat.le_refl _) _, by show k + (n - (k + 1)) + 1 = n; omega, ⟨hcap, .inr ⟨w.heap.size, 0, rfl, fun i hi => ⟨?_, ?_⟩⟩⟩, fun b off _ he => by
      simp only [Option.some.injEq, Addr.mk.injEq] at he
      omega⟩
  · rw [Nat.zero_add]
    exact new_cell w _ 56 (i * 2) _ (hat i hi 0 (by omega))
  · rw [Nat.zero_add]
    exact new_cell w _ 56 (i * 2 + 1) _ (hat i hi 1 (by omega))
theorem last_asks {w : World} {b off n k : Nat} {f : Nat → ByteArray} {q : Nat → Int} (hk : k + 1 = n) (hc : ∀ i, i < n → (w.cell? ⟨b, off + i * 2, none⟩ = some (.string (f i)) ∧ w.cell? ⟨b, off + i * 2 + 1, none⟩ = some (.int .i64 (q i)))) : As w ⟨some ⟨b, off, none⟩, k, k⟩ (outN k f) (outN k q) :=
  ⟨Nat.le_refl _, .inr ⟨b, off, rfl, fun i hi => by have hi : i < k := hi; rw [show outN k f i = f i by simp [outN, hi], show outN k q i = q i by simp [outN, hi]]; exact hc i (by omega)⟩⟩
end Go.Proofs.YtcoccggimbficaaDoor
