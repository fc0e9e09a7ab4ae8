import Derived.Test.YtdanjbbemmngnaaGreatDoorWa
import Derived.Laws.BytesArg
import Derived.Lib.QuietBelow
import Derived.Laws.Rows
import Derived.Laws.StructEq
namespace Go.Proofs.YtdanjbbemmngnaaGreatDoor
open Go Go.RowKit
set_option linter.unusedSimpArgs false
set_option linter.unusedVariables false

/-- Bytes in memory. -/
def By (w : World) (s : Sl) (z : Nat → Int) : Prop :=
  s.n ≤ s.c ∧ (∀ i, 0 ≤ z i ∧ z i ≤ 255) ∧ (s.n = 0 ∨ ∃ b off, s.a = some ⟨b, off, none⟩ ∧ ∀ i, i < s.n → w.cell? ⟨b, off + i, none⟩ = some (.int .u8 (z i)))
/-- Numbers in memory. -/
def Is (w : World) (s : Sl) (z : Nat → Int) : Prop :=
  s.n ≤ s.c ∧ (s.n = 0 ∨ ∃ b off, s.a = some ⟨b, off, none⟩ ∧ ∀ i, i < s.n → w.cell? ⟨b, off + i, none⟩ = some (.int .i64 (z i)))
/-- Texts in memory. -/
def Ss (w : World) (s : Sl) (z : Nat → ByteArray) : Prop :=
  s.n ≤ s.c ∧ (s.n = 0 ∨ ∃ b off, s.a = some ⟨b, off, none⟩ ∧ ∀ i, i < s.n → w.cell? ⟨b, off + i, none⟩ = some (.string (z i)))
/-- Filters and qualities in memory. -/
def As (w : World) (s : Sl) (f : Nat → ByteArray) (q : Nat → Int) : Prop :=
  s.n ≤ s.c ∧ (s.n = 0 ∨ ∃ b off, s.a = some ⟨b, off, none⟩ ∧ ∀ i, i < s.n → (w.cell? ⟨b, off + i * 2, none⟩ = some (.string (f i)) ∧ w.cell? ⟨b, off + i * 2 + 1, none⟩ = some (.int .i64 (q i))))
structure In (w : World) (p : Pk) (c : Cn) : Prop where
  wP : By w p.wP c.wz
  pass : By w p.pass c.pz
  mP : By w p.mP c.mz
  asks : As w p.asks c.af c.aq
  codes : Is w p.codes c.cs
  filters : Ss w p.filters c.fs

theorem By.below {w w' : World} {s : Sl} {z : Nat → Int} (h : By w s z) (hb : Below w.heap.size w w') : By w' s z := by
  obtain ⟨h1, h2, h3 | ⟨b, off, e, hc⟩⟩ := h
  · exact ⟨h1, h2, .inl h3⟩
  · exact ⟨h1, h2, .inr ⟨b, off, e, fun i hi => cell_later hb (hc i hi)⟩⟩
theorem Is.below {w w' : World} {s : Sl} {z : Nat → Int} (h : Is w s z) (hb : Below w.heap.size w w') : Is w' s z := by
  obtain ⟨h1, h3 | ⟨b, off, e, hc⟩⟩ := h
  · exact ⟨h1, .inl h3⟩
  · exact ⟨h1, .inr ⟨b, off, e, fun i hi => cell_later hb (hc i hi)⟩⟩
theorem Ss.below {w w' : World} {s : Sl} {z : Nat → ByteArray} (h : Ss w s z) (hb : Below w.heap.size w w') : Ss w' s z := by
  obtain ⟨h1, h3 | ⟨b, off, e, hc⟩⟩ := h
  · exact ⟨h1, .inl h3⟩
  · exact ⟨h1, .inr ⟨b, off, e, fun i hi => cell_later hb (hc i hi)⟩⟩
theorem As.below {w w' : World} {s : Sl} {f : Nat → ByteArray} {q : Nat → Int} (h : As w s f q) (hb : Below w.heap.size w w') : As w' s f q := by
  obtain ⟨h1, h3 | ⟨b, off, e, hc⟩⟩ := h
  · exact ⟨h1, .inl h3⟩
  · exact ⟨h1, .inr ⟨b, off, e, fun i hi => ⟨cell_later hb (hc i hi).1, cell_later hb (hc i hi).2⟩⟩⟩
theorem In.below {w w' : World} {p : Pk} {c : Cn} (h : In w p c) (hb : Below w.heap.size w w') : In w' p c :=
  ⟨h.wP.below hb, h.pass.below hb, h.mP.below hb, h.asks.below hb, h.codes.below hb, h.filters.below hb⟩

theorem plain_add (b off j : Nat) : (⟨b, off, none⟩ : Addr).add j = ⟨b, off + j, none⟩ := by
  unfold Addr.add
  split <;> simp_all
/-- The text that so many bytes make. -/
def strZ (z : Nat → Int) (n : Nat) : ByteArray := strOfNums ((List.range n).map z)
theorem strZ_size (z : Nat → Int) (n : Nat) : (strZ z n).size = n := by simp [strZ, strOfNums, ByteArray.size]
theorem conv_any (s : Sl) (z : Nat → Int) (w : World) (h : By w s z) : (convert 22 9 (.slice s.a s.n s.c)).run Tryz.prog w = .ok (.string (strZ z s.n)) w := by
  obtain ⟨ao, len, cap⟩ := s
  obtain ⟨_, _, h3⟩ := h
  cases ao with
  | none =>
    rcases h3 with h3 | ⟨b, off, e, _⟩
    · simp only at h3
      subst h3
      rw [run_convert_bytes_nil w 22 5 Tryz.underlying22 Tryz.underlying5 _ _ 9 Tryz.underlying9]
      rfl
    · cases e
  | some ad =>
    rw [run_convert_bytes_string w 22 9 5 _ len cap Tryz.underlying22 Tryz.underlying5 Tryz.underlying9]
    have hc : ∀ i, i < len → w.cell? (ad.add i) = some (.int .u8 (z i)) := by
      intro i hi
      rcases h3 with h3 | ⟨b, off, e, hc⟩
      · simp only at h3; omega
      · simp only [Option.some.injEq] at e
        subst e
        rw [plain_add]; exact hc i hi
    have hl : (loadCells ad len).run Tryz.prog w = .ok (((List.range len).map z).map (Value.int .u8)).toArray w := by
      have := run_loadCells_list (P := Tryz.prog) w ad ((List.range len).map fun i => .int .u8 (z i)) (fun j v hj => by
        rw [List.getElem?_map] at hj
        by_cases h1 : j < len
        · rw [List.getElem?_range h1] at hj
          simp at hj
          subst hj
          exact hc j h1
        · rw [List.getElem?_eq_none (by simpa using h1)] at hj
          simp at hj)
      simpa [Function.comp_def] using this
    rw [run_bytesToString w ad len cap _ hl, foldl_push_bytes]
    simp [strZ, strOfNums, ByteArray.empty, ByteArray.emptyWithCapacity]
    rfl

set_option maxHeartbeats 400000 in
theorem beq_any (s s' : Sl) (z z' : Nat → Int) (w : World) (h : By w s z) (h' : By w s' z') :
    Calls Tryz.prog 49 #[s.v, s'.v] w fun e w' => e = .returned (.bool ((strZ z s.n).toList == (strZ z' s'.n).toList)) ∧ w' = w := by
  have c1 := conv_any s z w h
  have c2 := conv_any s' z' w h'
  clear h h'
  simp only [Sl.v]
  go_enter Tryz.func49, Tryz.ntmps49
  go_wp2
  go_ret
  exact ⟨rfl, rfl⟩
end Go.Proofs.YtdanjbbemmngnaaGreatDoor
namespace Go.Proofs.YtdanjbbemmngnaaGreatDoor
open Go Go.RowKit Go.Sort
set_option linter.unusedSimpArgs false
set_option linter.unusedVariables false

theorem below2 (w : World) (o o' : Obj) : Below w.heap.size w ((w.alloc o).alloc o') := ((Below.refl _ _).alloc (Nat.le_refl _) _).alloc (by simp) _

set_option maxHeartbeats 400000 in
theorem heading_any (t : ByteArray) (a : Option Addr) (n c : Nat) (q : Int) (r : Bool) (w : World) : Calls Tryz.prog 108 #[.agg #[.string t, .slice a n c, .int .i64 q, .bool r]] w fun e w' => e = .returned (.agg #[.string t, .int .i64 q, .bool r]) ∧ Below w.heap.size w w' := by
  go_enter Tryz.func108, Tryz.ntmps108
  go_wp2
  exact bodyPost_ret (results_cell_row rfl _ _ _ _ _ _ _ rfl (heap_alloc2_new _ _ _) Tryz.underlying80 rfl (by kernel_rfl)) rfl ⟨rfl, below2 _ _ _⟩

set_option maxHeartbeats 400000 in
theorem eq_heading (t t' : ByteArray) (q q' : Int) (r r' : Bool) (w : World) : (binOp .eql 80 (.agg #[.string t, .int .i64 q, .bool r]) (.agg #[.string t', .int .i64 q', .bool r'])).run Tryz.prog w = .ok (.bool ((t.toList == t'.toList) && (q == q') && (r == r'))) w := by
  have hu : Tryz.prog.underlying 80 = some (.struct (Tryz.prog.fieldsOf 80)) := by kernel_rfl
  have hp : Tryz.prog.stoodInHeld 80 = false := by kernel_rfl
  rw [run_eql_struct, run_equalIn_agg w 9999 80 _ _ hu hp]
  clear hu hp
  simp only [Program.fieldsOf, Tryz.underlying80]
  cases h1 : (t.toList == t'.toList)
  · go_simp
  · cases h2 : (q == q')
    · go_simp
    · cases r <;> cases r' <;> go_simp
set_option maxHeartbeats 400000 in
theorem sameMessage_any (t t' : ByteArray) (s s' : Sl) (q q' : Int) (r r' : Bool) (z z' : Nat → Int) (w : World) (h : By w s z) (h' : By w s' z') :
    Calls Tryz.prog 135 #[.agg #[.string t, s.v, .int .i64 q, .bool r], .agg #[.string t', s'.v, .int .i64 q', .bool r']] w fun e w' => e = .returned (.bool ((t.toList == t'.toList) && (q == q') && (r == r') && ((strZ z s.n).toList == (strZ z' s'.n).toList))) ∧ Below w.heap.size w w' := by
  have HB : Hid (∀ w', Below w.heap.size w w' → Calls Tryz.prog 49 #[s.v, s'.v] w' fun e w'' => e = .returned (.bool ((strZ z s.n).toList == (strZ z' s'.n).toList)) ∧ w'' = w') := fun w' hb => beq_any s s' z z' w' (h.below hb) (h'.below hb)
  simp only [Sl.v] at HB ⊢
  clear h h'
  go_enter Tryz.func135, Tryz.ntmps135
  go_wp2_with fail
  have b0 := below2 w (Obj.cells #[Value.string t, Value.slice s.a s.n s.c, Value.int IntKind.i64 q, Value.bool r] 24) (Obj.cells #[Value.string t', Value.slice s'.a s'.n s'.c, Value.int IntKind.i64 q', Value.bool r'] 24)
  have g0 := heap_alloc2_new w (Obj.cells #[Value.string t, Value.slice s.a s.n s.c, Value.int IntKind.i64 q, Value.bool r] 24) (Obj.cells #[Value.string t', Value.slice s'.a s'.n s'.c, Value.int IntKind.i64 q', Value.bool r'] 24)
  generalize hW : ((w.alloc (Obj.cells #[Value.string t, Value.slice s.a s.n s.c, Value.int IntKind.i64 q, Value.bool r] 24)).alloc
      (Obj.cells #[Value.string t', Value.slice s'.a s'.n s'.c, Value.int IntKind.i64 q', Value.bool r'] 24)) = W at *
  have k0 : W.cell? ⟨w.heap.size, 0, none⟩ = some (.string t) := by subst hW; simp
  have k1 : W.cell? ⟨w.heap.size, 1, none⟩ = some (Value.slice s.a s.n s.c) := by subst hW; simp
  have k2 : W.cell? ⟨w.heap.size, 2, none⟩ = some (.int .i64 q) := by subst hW; simp
  have k3 : W.cell? ⟨w.heap.size, 3, none⟩ = some (.bool r) := by subst hW; simp
  have l0 : W.cell? ⟨w.heap.size + 1, 0, none⟩ = some (.string t') := by subst hW; simp
  have l1 : W.cell? ⟨w.heap.size + 1, 1, none⟩ = some (Value.slice s'.a s'.n s'.c) := by subst hW; simp
  have l2 : W.cell? ⟨w.heap.size + 1, 2, none⟩ = some (.int .i64 q') := by subst hW; simp
  have l3 : W.cell? ⟨w.heap.size + 1, 3, none⟩ = some (.bool r') := by subst hW; simp
  have B0 : Hid (Below w.heap.size w W) := b0
  clear hW b0 g0
  have k0 := cell_regrown k0
  have k1 := cell_regrown k1
  have k2 := cell_regrown k2
  have k3 := cell_regrown k3
  have l0 := cell_regrown l0
  have l1 := cell_regrown l1
  have l2 := cell_regrown l2
  have l3 := cell_regrown l3
  have EG : Tryz.prog.eqGuardType Tryz.prog.depth 80 = false := by kernel_rfl
  have EQ := eq_heading t t' q q' r r'
  have HC : Hid (∀ d os, Calls Tryz.prog 49 #[Value.slice s.a s.n s.c, Value.slice s'.a s'.n s'.c] (grow (redrawn W d) os) fun e w'' => e = .returned (.bool ((strZ z s.n).toList == (strZ z' s'.n).toList)) ∧ Below (grow (redrawn W d) os).heap.size (grow (redrawn W d) os) w'') := fun d os =>
    (HB.out _ (B0.out.trans ((below_regrown W d os).mono B0.out.size))).mono fun e w'' ⟨h1, h2⟩ => ⟨h1, by rw [h2]; exact Below.refl _ _⟩
  clear HB
  cases hB : (t.toList == t'.toList && q == q' && r == r')
  · rw [hB] at EQ
    refine wp_region_quiet_below (by kernel_rfl) (by kernel_rfl) ?_
    repeat (quiet_step (first | exact Calls.regrown_of (heading_any _ _ _ _ _ _ _)))
    refine wpQuiet_nil ?_
    rintro _ ⟨⟨d, os⟩, rfl⟩
    go_wp2
    go_ret
    exact ⟨by rw [hB, Bool.false_and]; rfl, B0.out.trans ((below_regrown W d os).mono B0.out.size)⟩
  · rw [hB] at EQ
    refine wp_region_quiet_below (by kernel_rfl) (by kernel_rfl) ?_
    repeat (quiet_step (first | exact Calls.regrown_of (heading_any _ _ _ _ _ _ _) | exact Calls.regrown_of (HC.out _ _)))
    refine wpQuiet_nil ?_
    rintro _ ⟨⟨d, os⟩, rfl⟩
    go_wp2
    go_ret
    exact ⟨by rw [hB, Bool.true_and]; rfl, B0.out.trans ((below_regrown W d os).mono B0.out.size)⟩
end Go.Proofs.YtdanjbbemmngnaaGreatDoor
namespace Go.Proofs.YtdanjbbemmngnaaGreatDoor
open Go Go.RowKit Go.Sort
set_option linter.unusedSimpArgs false
set_option linter.unusedVariables false

/-- A mark as the code reckons it. -/
def mkI (b : Bool) (n : Int) : Int := if b then n else 0
theorem mkI_nat (b : Bool) (n : Nat) : mkI b (n : Int) = ((mk b n : Nat) : Int) := by cases b <;> rfl
theorem mark_int (b : Bool) (n : Int) (w : World) : Calls Tryz.prog 102 #[.bool b, .int .i64 n] w fun e w' => e = .returned (.int .i64 (mkI b n)) ∧ Below w.heap.size w w' := by
  cases b with
  | true =>
    go_enter Tryz.func102, Tryz.ntmps102
    go_wp2
    go_ret
    exact ⟨rfl, Below.refl _ _⟩
  | false =>
    go_enter Tryz.func102, Tryz.ntmps102
    go_wp2
    go_ret
    exact ⟨rfl, Below.refl _ _⟩
theorem box_cell (w : World) (cs : Array Value) (t : TypeId) (k : Nat) (v : Value) (h : cs[k]? = some v) : (w.alloc (.cells cs t)).cell? ⟨w.heap.size, k, none⟩ = some v := by
  rw [World.cell?_alloc_at _ _ _ _ rfl]
  simpa using h

theorem box_fact {w W : World} {cs : Array Value} {t : TypeId} (hW : W = w.alloc (.cells cs t)) (k : Nat) (v : Value) (h : cs[k]? = some v) : ∀ d os, (grow (redrawn W d) os).cell? ⟨w.heap.size, k, none⟩ = some v := fun d os => cell_regrown (by rw [hW]; exact box_cell w cs t k v h) d os
theorem box_below {w W : World} {cs : Array Value} {t : TypeId} (hW : W = w.alloc (.cells cs t)) : Below w.heap.size w W := by rw [hW]; exact (Below.refl _ _).alloc (Nat.le_refl _) _
theorem or_cast (a b : Nat) (ha : a < 262144) (hb : b < 262144) : bits .or .i64 (a : Int) (b : Int) = ((a ||| b : Nat) : Int) := bits_or a b (by omega) (by omega)
theorem gv_code (b0 b1 b2 b3 b4 b5 b6 b7 b8 b9 b10 b11 b12 b13 b14 b15 b16 b17 : Bool) : bits .or .i64 (bits .or .i64 (bits .or .i64 (bits .or .i64 (bits .or .i64 (bits .or .i64 (bits .or .i64 (bits .or .i64 (bits .or .i64 (bits .or .i64 (bits .or .i64 (bits .or .i64 (bits .or .i64 (bits .or .i64 (bits .or .i64 (bits .or .i64 (bits .or .i64 (mkI b0 1) (mkI b1 2)) (mkI b2 4)) (mkI b3 8)) (mkI b4 16)) (mkI b5 32)) (mkI b6 64)) (mkI b7 128)) (mkI b8 256)) (mkI b9 512)) (mkI b10 1024)) (mkI b11 2048)) (mkI b12 4096)) (mkI b13 8192)) (mkI b14 16384)) (mkI b15 32768)) (mkI b16 65536)) (mkI b17 131072) = ((mk b0 1 ||| mk b1 2 ||| mk b2 4 ||| mk b3 8 ||| mk b4 16 ||| mk b5 32 ||| mk b6 64 ||| mk b7 128 ||| mk b8 256 ||| mk b9 512 ||| mk b10 1024 ||| mk b11 2048 ||| mk b12 4096 ||| mk b13 8192 ||| mk b14 16384 ||| mk b15 32768 ||| mk b16 65536 ||| mk b17 131072 : Nat) : Int) := by
  rw [show mkI b0 1 = ((mk b0 1 : Nat) : Int) from mkI_nat b0 1]
  rw [show mkI b1 2 = ((mk b1 2 : Nat) : Int) from mkI_nat b1 2]
  rw [show mkI b2 4 = ((mk b2 4 : Nat) : Int) from mkI_nat b2 4]
  rw [show mkI b3 8 = ((mk b3 8 : Nat) : Int) from mkI_nat b3 8]
  rw [show mkI b4 16 = ((mk b4 16 : Nat) : Int) from mkI_nat b4 16]
  rw [show mkI b5 32 = ((mk b5 32 : Nat) : Int) from mkI_nat b5 32]
  rw [show mkI b6 64 = ((mk b6 64 : Nat) : Int) from mkI_nat b6 64]
  rw [show mkI b7 128 = ((mk b7 128 : Nat) : Int) from mkI_nat b7 128]
  rw [show mkI b8 256 = ((mk b8 256 : Nat) : Int) from mkI_nat b8 256]
  rw [show mkI b9 512 = ((mk b9 512 : Nat) : Int) from mkI_nat b9 512]
  rw [show mkI b10 1024 = ((mk b10 1024 : Nat) : Int) from mkI_nat b10 1024]
  rw [show mkI b11 2048 = ((mk b11 2048 : Nat) : Int) from mkI_nat b11 2048]
  rw [show mkI b12 4096 = ((mk b12 4096 : Nat) : Int) from mkI_nat b12 4096]
  rw [show mkI b13 8192 = ((mk b13 8192 : Nat) : Int) from mkI_nat b13 8192]
  rw [show mkI b14 16384 = ((mk b14 16384 : Nat) : Int) from mkI_nat b14 16384]
  rw [show mkI b15 32768 = ((mk b15 32768 : Nat) : Int) from mkI_nat b15 32768]
  rw [show mkI b16 65536 = ((mk b16 65536 : Nat) : Int) from mkI_nat b16 65536]
  rw [show mkI b17 131072 = ((mk b17 131072 : Nat) : Int) from mkI_nat b17 131072]
  repeat rw [or_cast]
  all_goals repeat' first | exact mk_lt _ _ (by decide) | apply or_lt
theorem isEmpty_size (s : ByteArray) : (!s.toList.isEmpty) = (s.size != 0) := by
  rw [Lib.toList_data]
  obtain ⟨⟨l⟩⟩ := s
  cases l <;> simp [ByteArray.size]
theorem pos_ne (n : Nat) : decide (0 < n) = (n != 0) := by cases n <;> simp
theorem empty_size (s : ByteArray) : (s = ByteArray.empty) = (s.size = 0) := by
  refine propext ⟨fun h => by rw [h]; rfl, fun h => ?_⟩
  obtain ⟨⟨l⟩⟩ := s
  cases l with
  | nil => rfl
  | cons a l => simp [ByteArray.size] at h
/-- The empty message. -/
theorem nilBy (w : World) : By w ⟨none, 0, 0⟩ (fun _ => 0) := ⟨Nat.le_refl _, fun _ => ⟨Int.le_refl 0, by show (0 : Int) ≤ 255; decide⟩, .inl rfl⟩
theorem zero_msg (t : ByteArray) (s : Sl) (q : Int) (r : Bool) (z : Nat → Int) (w : World) (h : By w s z) :
    Calls Tryz.prog 135 #[.agg #[.string t, s.v, .int .i64 q, .bool r], .agg #[.string ⟨#[]⟩, .slice none 0 0, .int .i64 0, .bool false]] w fun e w' => e = .returned (.bool (decide (t.size = 0) && decide (q = 0) && !r && decide (s.n = 0))) ∧ Below w.heap.size w w' := by
  have hs := sameMessage_any t ⟨#[]⟩ s ⟨none, 0, 0⟩ q 0 r false z (fun _ => 0) w h (nilBy w)
  have e : (decide (t.size = 0) && decide (q = 0) && !r && decide (s.n = 0)) = ((t.toList == (⟨#[]⟩ : ByteArray).toList) && (q == 0) && (r == false) && ((strZ z s.n).toList == (strZ (fun _ => 0) 0).toList)) := by
    have h1 : ∀ b : ByteArray, (b.toList == (⟨#[]⟩ : ByteArray).toList) = decide (b.size = 0) := by
      intro b
      rw [Lib.toList_data, Lib.toList_data]
      obtain ⟨⟨l⟩⟩ := b
      cases l <;> simp [ByteArray.size]
    have h2 : strZ (fun _ => 0) 0 = (⟨#[]⟩ : ByteArray) := rfl
    rw [h2, h1, h1, strZ_size]
    cases r <;> rfl
  rw [e]
  exact hs

end Go.Proofs.YtdanjbbemmngnaaGreatDoor
