import Derived.Test.YtmfbkfgggdkfmaaGreatDoorPWb
import Derived.Lib.QuietBelow
import Derived.Laws.Rows
import Derived.Laws.StructEq
namespace Go.Proofs.YtmfbkfgggdkfmaaGreatDoor.Pkt
open Go Go.RowKit Go.Sort
set_option linter.unusedSimpArgs false
set_option linter.unusedVariables false

theorem below2 (w : World) (o o' : Obj) : Below w.heap.size w ((w.alloc o).alloc o') := ((Below.refl _ _).alloc (Nat.le_refl _) _).alloc (by simp) _

set_option maxHeartbeats 400000 in
theorem heading_any (t : ByteArray) (a : Option Addr) (n c : Nat) (q : Int) (r : Bool) (w : World) : Calls Tryz.prog 97 #[.agg #[.string t, .slice a n c, .int .i64 q, .bool r]] w fun e w' => e = .returned (.agg #[.string t, .int .i64 q, .bool r]) ∧ Below w.heap.size w w' := by
  go_enter Tryz.func97, Tryz.ntmps97
  go_wp2
  exact bodyPost_ret (results_cell_row rfl _ _ _ _ _ _ _ rfl (heap_alloc2_new _ _ _) Tryz.underlying147 rfl (by kernel_rfl)) rfl ⟨rfl, below2 _ _ _⟩

set_option maxHeartbeats 400000 in
theorem eq_heading (t t' : ByteArray) (q q' : Int) (r r' : Bool) (w : World) : (binOp .eql 147 (.agg #[.string t, .int .i64 q, .bool r]) (.agg #[.string t', .int .i64 q', .bool r'])).run Tryz.prog w = .ok (.bool ((t.toList == t'.toList) && (q == q') && (r == r'))) w := by
  have hu : Tryz.prog.underlying 147 = some (.struct (Tryz.prog.fieldsOf 147)) := by kernel_rfl
  have hp : Tryz.prog.stoodInHeld 147 = false := by kernel_rfl
  rw [run_eql_struct, run_equalIn_agg w 9999 147 _ _ hu hp]
  clear hu hp
  simp only [Program.fieldsOf, Tryz.underlying147]
  cases h1 : (t.toList == t'.toList)
  · go_simp
  · cases h2 : (q == q')
    · go_simp
    · cases r <;> cases r' <;> go_simp
set_option maxHeartbeats 400000 in
theorem sameMessage_any (t t' : ByteArray) (s s' : Sl) (q q' : Int) (r r' : Bool) (z z' : Nat → Int) (w : World) (h : By w s z) (h' : By w s' z') :
    Calls Tryz.prog 88 #[.agg #[.string t, s.v, .int .i64 q, .bool r], .agg #[.string t', s'.v, .int .i64 q', .bool r']] w fun e w' => e = .returned (.bool ((t.toList == t'.toList) && (q == q') && (r == r') && ((strZ z s.n).toList == (strZ z' s'.n).toList))) ∧ Below w.heap.size w w' := by
  have HB : Hid (∀ w', Below w.heap.size w w' → Calls Tryz.prog 98 #[s.v, s'.v] w' fun e w'' => e = .returned (.bool ((strZ z s.n).toList == (strZ z' s'.n).toList)) ∧ w'' = w') := fun w' hb => beq_any s s' z z' w' (h.below hb) (h'.below hb)
  simp only [Sl.v] at HB ⊢
  clear h h'
  go_enter Tryz.func88, Tryz.ntmps88
  go_wp2_with fail
  have b0 := below2 w (Obj.cells #[Value.string t, Value.slice s.a s.n s.c, Value.int IntKind.i64 q, Value.bool r] 34) (Obj.cells #[Value.string t', Value.slice s'.a s'.n s'.c, Value.int IntKind.i64 q', Value.bool r'] 34)
  have g0 := heap_alloc2_new w (Obj.cells #[Value.string t, Value.slice s.a s.n s.c, Value.int IntKind.i64 q, Value.bool r] 34) (Obj.cells #[Value.string t', Value.slice s'.a s'.n s'.c, Value.int IntKind.i64 q', Value.bool r'] 34)
  generalize hW : ((w.alloc (Obj.cells #[Value.string t, Value.slice s.a s.n s.c, Value.int IntKind.i64 q, Value.bool r] 34)).alloc
      (Obj.cells #[Value.string t', Value.slice s'.a s'.n s'.c, Value.int IntKind.i64 q', Value.bool r'] 34)) = W at *
  have k0 : W.cell? ⟨w.heap.size, 0, none⟩ = some (.string t) := by subst hW; simp
  have k1 : W.cell? ⟨w.heap.size, 1, none⟩ = some (Value.slice s.a s.n s.c) := by subst hW; simp
  have k2 : W.cell? ⟨w.heap.size, 2, none⟩ = some (.int .i64 q) := by subst hW; simp
  have k3 : W.cell? ⟨w.heap.size, 3, none⟩ = some (.bool r) := by subst hW; simp
  have l0 : W.cell? ⟨w.heap.size + 1, 0, none⟩ = some (.string t') := by subst hW; simp
  have l1 : W.cell? ⟨w.heap.size + 1, 1, none⟩ = some (Value.slice s'.a s'.n s'.c) := by subst hW; simp
  have l2 : W.cell? ⟨w.heap.size + 1, 2, none⟩ = some (.int .i64 q') := by subst hW; simp
  have l3 : W.cell? ⟨w.heap.size + 1, 3, none⟩ = some (.bool r') := by subst hW; simp
  have B0 : Hid (Below w.heap.size w W) := b0
  clear hW b0 g0
  have k0 := cell_regrown k0
  have k1 := cell_regrown k1
  have k2 := cell_regrown k2
  have k3 := cell_regrown k3
  have l0 := cell_regrown l0
  have l1 := cell_regrown l1
  have l2 := cell_regrown l2
  have l3 := cell_regrown l3
  have EG : Tryz.prog.eqGuardType Tryz.prog.depth 147 = false := by kernel_rfl
  have EQ := eq_heading t t' q q' r r'
  have HC : Hid (∀ d os, Calls Tryz.prog 98 #[Value.slice s.a s.n s.c, Value.slice s'.a s'.n s'.c] (grow (redrawn W d) os) fun e w'' => e = .returned (.bool ((strZ z s.n).toList == (strZ z' s'.n).toList)) ∧ Below (grow (redrawn W d) os).heap.size (grow (redrawn W d) os) w'') := fun d os =>
    (HB.out _ (B0.out.trans ((below_regrown W d os).mono B0.out.size))).mono fun e w'' ⟨h1, h2⟩ => ⟨h1, by rw [h2]; exact Below.refl _ _⟩
  clear HB
  cases hB : (t.toList == t'.toList && q == q' && r == r')
  · rw [hB] at EQ
    refine wp_region_quiet_below (by kernel_rfl) (by kernel_rfl) ?_
    repeat (quiet_step (first | exact Calls.regrown_of (heading_any _ _ _ _ _ _ _)))
    refine wpQuiet_nil ?_
    rintro _ ⟨⟨d, os⟩, rfl⟩
    go_wp2
    go_ret
    exact ⟨by rw [hB, Bool.false_and]; rfl, B0.out.trans ((below_regrown W d os).mono B0.out.size)⟩
  · rw [hB] at EQ
    refine wp_region_quiet_below (by kernel_rfl) (by kernel_rfl) ?_
    repeat (quiet_step (first | exact Calls.regrown_of (heading_any _ _ _ _ _ _ _) | exact Calls.regrown_of (HC.out _ _)))
    refine wpQuiet_nil ?_
    rintro _ ⟨⟨d, os⟩, rfl⟩
    go_wp2
    go_ret
    exact ⟨by rw [hB, Bool.true_and]; rfl, B0.out.trans ((below_regrown W d os).mono B0.out.size)⟩
end Go.Proofs.YtmfbkfgggdkfmaaGreatDoor.Pkt
namespace Go.Proofs.YtmfbkfgggdkfmaaGreatDoor.Pkt
open Go Go.RowKit Go.Sort
set_option linter.unusedSimpArgs false
set_option linter.unusedVariables false

/-- A mark as the code reckons it. -/
def mkI (b : Bool) (n : Int) : Int := if b then n else 0
theorem mkI_nat (b : Bool) (n : Nat) : mkI b (n : Int) = ((mk b n : Nat) : Int) := by cases b <;> rfl
theorem mark_int (b : Bool) (n : Int) (w : World) : Calls Tryz.prog 87 #[.bool b, .int .i64 n] w fun e w' => e = .returned (.int .i64 (mkI b n)) ∧ Below w.heap.size w w' := by
  cases b with
  | true =>
    go_enter Tryz.func87, Tryz.ntmps87
    go_wp2
    go_ret
    exact ⟨rfl, Below.refl _ _⟩
  | false =>
    go_enter Tryz.func87, Tryz.ntmps87
    go_wp2
    go_ret
    exact ⟨rfl, Below.refl _ _⟩
theorem box_cell (w : World) (cs : Array Value) (t : TypeId) (k : Nat) (v : Value) (h : cs[k]? = some v) : (w.alloc (.cells cs t)).cell? ⟨w.heap.size, k, none⟩ = some v := by
  rw [World.cell?_alloc_at _ _ _ _ rfl]
  simpa using h

theorem box_fact {w W : World} {cs : Array Value} {t : TypeId} (hW : W = w.alloc (.cells cs t)) (k : Nat) (v : Value) (h : cs[k]? = some v) : ∀ d os, (grow (redrawn W d) os).cell? ⟨w.heap.size, k, none⟩ = some v := fun d os => cell_regrown (by rw [hW]; exact box_cell w cs t k v h) d os
theorem box_below {w W : World} {cs : Array Value} {t : TypeId} (hW : W = w.alloc (.cells cs t)) : Below w.heap.size w W := by rw [hW]; exact (Below.refl _ _).alloc (Nat.le_refl _) _
theorem or_cast (a b : Nat) (ha : a < 262144) (hb : b < 262144) : bits .or .i64 (a : Int) (b : Int) = ((a ||| b : Nat) : Int) := bits_or a b (by omega) (by omega)
theorem gv_code (b0 b1 b2 b3 b4 b5 b6 b7 b8 b9 b10 b11 b12 b13 b14 b15 b16 b17 : Bool) : bits .or .i64 (bits .or .i64 (bits .or .i64 (bits .or .i64 (bits .or .i64 (bits .or .i64 (bits .or .i64 (bits .or .i64 (bits .or .i64 (bits .or .i64 (bits .or .i64 (bits .or .i64 (bits .or .i64 (bits .or .i64 (bits .or .i64 (bits .or .i64 (bits .or .i64 (mkI b0 1) (mkI b1 2)) (mkI b2 4)) (mkI b3 8)) (mkI b4 16)) (mkI b5 32)) (mkI b6 64)) (mkI b7 128)) (mkI b8 256)) (mkI b9 512)) (mkI b10 1024)) (mkI b11 2048)) (mkI b12 4096)) (mkI b13 8192)) (mkI b14 16384)) (mkI b15 32768)) (mkI b16 65536)) (mkI b17 131072) = ((mk b0 1 ||| mk b1 2 ||| mk b2 4 ||| mk b3 8 ||| mk b4 16 ||| mk b5 32 ||| mk b6 64 ||| mk b7 128 ||| mk b8 256 ||| mk b9 512 ||| mk b10 1024 ||| mk b11 2048 ||| mk b12 4096 ||| mk b13 8192 ||| mk b14 16384 ||| mk b15 32768 ||| mk b16 65536 ||| mk b17 131072 : Nat) : Int) := by
  rw [show mkI b0 1 = ((mk b0 1 : Nat) : Int) from mkI_nat b0 1]
  rw [show mkI b1 2 = ((mk b1 2 : Nat) : Int) from mkI_nat b1 2]
  rw [show mkI b2 4 = ((mk b2 4 : Nat) : Int) from mkI_nat b2 4]
  rw [show mkI b3 8 = ((mk b3 8 : Nat) : Int) from mkI_nat b3 8]
  rw [show mkI b4 16 = ((mk b4 16 : Nat) : Int) from mkI_nat b4 16]
  rw [show mkI b5 32 = ((mk b5 32 : Nat) : Int) from mkI_nat b5 32]
  rw [show mkI b6 64 = ((mk b6 64 : Nat) : Int) from mkI_nat b6 64]
  rw [show mkI b7 128 = ((mk b7 128 : Nat) : Int) from mkI_nat b7 128]
  rw [show mkI b8 256 = ((mk b8 256 : Nat) : Int) from mkI_nat b8 256]
  rw [show mkI b9 512 = ((mk b9 512 : Nat) : Int) from mkI_nat b9 512]
  rw [show mkI b10 1024 = ((mk b10 1024 : Nat) : Int) from mkI_nat b10 1024]
  rw [show mkI b11 2048 = ((mk b11 2048 : Nat) : Int) from mkI_nat b11 2048]
  rw [show mkI b12 4096 = ((mk b12 4096 : Nat) : Int) from mkI_nat b12 4096]
  rw [show mkI b13 8192 = ((mk b13 8192 : Nat) : Int) from mkI_nat b13 8192]
  rw [show mkI b14 16384 = ((mk b14 16384 : Nat) : Int) from mkI_nat b14 16384]
  rw [show mkI b15 32768 = ((mk b15 32768 : Nat) : Int) from mkI_nat b15 32768]
  rw [show mkI b16 65536 = ((mk b16 65536 : Nat) : Int) from mkI_nat b16 65536]
  rw [show mkI b17 131072 = ((mk b17 131072 : Nat) : Int) from mkI_nat b17 131072]
  repeat rw [or_cast]
  all_goals repeat' first | exact mk_lt _ _ (by decide) | apply or_lt
theorem isEmpty_size (s : ByteArray) : (!s.toList.isEmpty) = (s.size != 0) := by
  rw [Lib.toList_data]
  obtain ⟨⟨l⟩⟩ := s
  cases l <;> simp [ByteArray.size]
theorem pos_ne (n : Nat) : decide (0 < n) = (n != 0) := by cases n <;> simp
theorem empty_size (s : ByteArray) : (s = ByteArray.empty) = (s.size = 0) := by
  refine propext ⟨fun h => by rw [h]; rfl, fun h => ?_⟩
  obtain ⟨⟨l⟩⟩ := s
  cases l with
  | nil => rfl
  | cons a l => simp [ByteArray.size] at h
/-- The empty message. -/
theorem nilBy (w : World) : By w ⟨none, 0, 0⟩ (fun _ => 0) := ⟨Nat.le_refl _, fun _ => ⟨Int.le_refl 0, by show (0 : Int) ≤ 255; decide⟩, .inl rfl⟩
theorem zero_msg (t : ByteArray) (s : Sl) (q : Int) (r : Bool) (z : Nat → Int) (w : World) (h : By w s z) :
    Calls Tryz.prog 88 #[.agg #[.string t, s.v, .int .i64 q, .bool r], .agg #[.string ⟨#[]⟩, .slice none 0 0, .int .i64 0, .bool false]] w fun e w' => e = .returned (.bool (decide (t.size = 0) && decide (q = 0) && !r && decide (s.n = 0))) ∧ Below w.heap.size w w' := by
  have hs := sameMessage_any t ⟨#[]⟩ s ⟨none, 0, 0⟩ q 0 r false z (fun _ => 0) w h (nilBy w)
  have e : (decide (t.size = 0) && decide (q = 0) && !r && decide (s.n = 0)) = ((t.toList == (⟨#[]⟩ : ByteArray).toList) && (q == 0) && (r == false) && ((strZ z s.n).toList == (strZ (fun _ => 0) 0).toList)) := by
    have h1 : ∀ b : ByteArray, (b.toList == (⟨#[]⟩ : ByteArray).toList) = decide (b.size = 0) := by
      intro b
      rw [Lib.toList_data, Lib.toList_data]
      obtain ⟨⟨l⟩⟩ := b
      cases l <;> simp [ByteArray.size]
    have h2 : strZ (fun _ => 0) 0 = (⟨#[]⟩ : ByteArray) := rfl
    rw [h2, h1, h1, strZ_size]
    cases r <;> rfl
  rw [e]
  exact hs

end Go.Proofs.YtmfbkfgggdkfmaaGreatDoor.Pkt
namespace Go.Proofs.YtmfbkfgggdkfmaaGreatDoor.Pkt
open Go Go.RowKit Go.Sort
set_option linter.unusedSimpArgs false
set_option linter.unusedVariables false

theorem form_had : ∀ i, i < 15 → (form i).2.2 = ((had i : Nat) : Int) := by decide
theorem off_code (b0 b1 b2 b3 : Bool) : bits .or .i64 (bits .or .i64 (bits .or .i64 (mkI b0 32) (mkI b1 128)) (mkI b2 512)) (mkI b3 16384) = ((mk b0 32 ||| mk b1 128 ||| mk b2 512 ||| mk b3 16384 : Nat) : Int) := by
  rw [show mkI b0 32 = ((mk b0 32 : Nat) : Int) from mkI_nat b0 32, show mkI b1 128 = ((mk b1 128 : Nat) : Int) from mkI_nat b1 128, show mkI b2 512 = ((mk b2 512 : Nat) : Int) from mkI_nat b2 512, show mkI b3 16384 = ((mk b3 16384 : Nat) : Int) from mkI_nat b3 16384]
  repeat rw [or_cast]
  all_goals repeat' first | exact mk_lt _ _ (by decide) | apply or_lt
theorem fl_code (h : Nat) (b0 b1 b2 b3 : Bool) (hh : h < 262144) : bits .andNot .i64 (h : Int) (bits .or .i64 (bits .or .i64 (bits .or .i64 (mkI b0 32) (mkI b1 128)) (mkI b2 512)) (mkI b3 16384)) = ((h &&& (18446744073709551615 - (mk b0 32 ||| mk b1 128 ||| mk b2 512 ||| mk b3 16384)) : Nat) : Int) := by
  rw [off_code]
  have : mk b0 32 ||| mk b1 128 ||| mk b2 512 ||| mk b3 16384 < 262144 := by repeat' first | exact mk_lt _ _ (by decide) | apply or_lt
  exact bits_andNot _ _ (by omega) (by omega)

set_option maxHeartbeats 2000000 in
set_option maxRecDepth 100000 in
theorem fields_any (p : Pk) (w : World) (hk : KindsAt w) (h1 : 0 ≤ p.kind) (h2 : p.kind ≤ 14) : Calls Tryz.prog 69 #[p.v] w fun e w' => e = .returned (.int .i64 (fl p)) ∧ Below w.heap.size w w' := by
  obtain ⟨kind, level, clean, keep, client, hasWill, wT, wP, wQ, wR, hasUser, user, hasPass, pass, present, code, dup, mT, mP, mQ, mR, id, asks, codes, filters⟩ := p
  obtain ⟨wPa, wPn, wPc⟩ := wP
  obtain ⟨pa, pn, pc⟩ := pass
  obtain ⟨ma, mn, mc⟩ := mP
  obtain ⟨aa, an, ac⟩ := asks
  obtain ⟨ca, cn, cc⟩ := codes
  obtain ⟨fa, fn, fc⟩ := filters
  obtain ⟨i, rfl⟩ : ∃ i : Nat, kind = i := ⟨kind.toNat, by simp only at h1; omega⟩
  have hi : i < 15 := by simp only at h2; omega
  have hi' : (i : Int) < 15 := by omega
  have HK : Hid (KindsAt w) := hk
  have HF : Hid ((form i).2.2 = ((had i : Nat) : Int)) := form_had i hi
  clear h1 h2 hk
  obtain ⟨W, hW⟩ : ∃ W, W = w.alloc (Obj.cells #[.int .i64 (i : Int), .int .i64 level, .bool clean, .int .i64 keep, .string client, .bool hasWill, .string wT, .slice wPa wPn wPc, .int .i64 wQ, .bool wR, .bool hasUser, .string user, .bool hasPass, .slice pa pn pc, .bool present, .int .i64 code, .bool dup, .string mT, .slice ma mn mc, .int .i64 mQ, .bool mR, .int .i64 id, .slice aa an ac, .slice ca cn cc, .slice fa fn fc] 38) := ⟨_, rfl⟩
  have hc : W.cell? ⟨1, i * 3 + 2, none⟩ = some (.int .i64 (form i).2.2) := cell_later (box_below hW) (HK.out i hi).2.2
  have hc' : (w.alloc (Obj.cells #[.int .i64 (i : Int), .int .i64 level, .bool clean, .int .i64 keep, .string client, .bool hasWill, .string wT, .slice wPa wPn wPc, .int .i64 wQ, .bool wR, .bool hasUser, .string user, .bool hasPass, .slice pa pn pc, .bool present, .int .i64 code, .bool dup, .string mT, .slice ma mn mc, .int .i64 mQ, .bool mR, .int .i64 id, .slice aa an ac, .slice ca cn cc, .slice fa fn fc] 38)).cell? ⟨1, i * 3 + 2, none⟩ = some (.int .i64 (form i).2.2) := by rw [← hW]; exact hc
  simp only [Pk.v, Sl.v]
  go_enter Tryz.func69, Tryz.ntmps69
  go_wp2_with fail
  rw [← hW]
  have k0 : ∀ d os, (grow (redrawn W d) os).cell? ⟨w.heap.size, 0, none⟩ = some (.int .i64 (i : Int)) := box_fact hW 0 _ rfl
  have k1 : ∀ d os, (grow (redrawn W d) os).cell? ⟨w.heap.size, 1, none⟩ = some (.int .i64 level) := box_fact hW 1 _ rfl
  have k2 : ∀ d os, (grow (redrawn W d) os).cell? ⟨w.heap.size, 2, none⟩ = some (.bool clean) := box_fact hW 2 _ rfl
  have k3 : ∀ d os, (grow (redrawn W d) os).cell? ⟨w.heap.size, 3, none⟩ = some (.int .i64 keep) := box_fact hW 3 _ rfl
  have k4 : ∀ d os, (grow (redrawn W d) os).cell? ⟨w.heap.size, 4, none⟩ = some (.string client) := box_fact hW 4 _ rfl
  have k5 : ∀ d os, (grow (redrawn W d) os).cell? ⟨w.heap.size, 5, none⟩ = some (.bool hasWill) := box_fact hW 5 _ rfl
  have k6 : ∀ d os, (grow (redrawn W d) os).cell? ⟨w.heap.size, 6, none⟩ = some (.string wT) := box_fact hW 6 _ rfl
  have k7 : ∀ d os, (grow (redrawn W d) os).cell? ⟨w.heap.size, 7, none⟩ = some (.slice wPa wPn wPc) := box_fact hW 7 _ rfl
  have k8 : ∀ d os, (grow (redrawn W d) os).cell? ⟨w.heap.size, 8, none⟩ = some (.int .i64 wQ) := box_fact hW 8 _ rfl
  have k9 : ∀ d os, (grow (redrawn W d) os).cell? ⟨w.heap.size, 9, none⟩ = some (.bool wR) := box_fact hW 9 _ rfl
  have k10 : ∀ d os, (grow (redrawn W d) os).cell? ⟨w.heap.size, 10, none⟩ = some (.bool hasUser) := box_fact hW 10 _ rfl
  have k11 : ∀ d os, (grow (redrawn W d) os).cell? ⟨w.heap.size, 11, none⟩ = some (.string user) := box_fact hW 11 _ rfl
  have k12 : ∀ d os, (grow (redrawn W d) os).cell? ⟨w.heap.size, 12, none⟩ = some (.bool hasPass) := box_fact hW 12 _ rfl
  have k13 : ∀ d os, (grow (redrawn W d) os).cell? ⟨w.heap.size, 13, none⟩ = some (.slice pa pn pc) := box_fact hW 13 _ rfl
  have k14 : ∀ d os, (grow (redrawn W d) os).cell? ⟨w.heap.size, 14, none⟩ = some (.bool present) := box_fact hW 14 _ rfl
  have k15 : ∀ d os, (grow (redrawn W d) os).cell? ⟨w.heap.size, 15, none⟩ = some (.int .i64 code) := box_fact hW 15 _ rfl
  have k16 : ∀ d os, (grow (redrawn W d) os).cell? ⟨w.heap.size, 16, none⟩ = some (.bool dup) := box_fact hW 16 _ rfl
  have k17 : ∀ d os, (grow (redrawn W d) os).cell? ⟨w.heap.size, 17, none⟩ = some (.string mT) := box_fact hW 17 _ rfl
  have k18 : ∀ d os, (grow (redrawn W d) os).cell? ⟨w.heap.size, 18, none⟩ = some (.slice ma mn mc) := box_fact hW 18 _ rfl
  have k19 : ∀ d os, (grow (redrawn W d) os).cell? ⟨w.heap.size, 19, none⟩ = some (.int .i64 mQ) := box_fact hW 19 _ rfl
  have k20 : ∀ d os, (grow (redrawn W d) os).cell? ⟨w.heap.size, 20, none⟩ = some (.bool mR) := box_fact hW 20 _ rfl
  have k21 : ∀ d os, (grow (redrawn W d) os).cell? ⟨w.heap.size, 21, none⟩ = some (.int .i64 id) := box_fact hW 21 _ rfl
  have k22 : ∀ d os, (grow (redrawn W d) os).cell? ⟨w.heap.size, 22, none⟩ = some (.slice aa an ac) := box_fact hW 22 _ rfl
  have k23 : ∀ d os, (grow (redrawn W d) os).cell? ⟨w.heap.size, 23, none⟩ = some (.slice ca cn cc) := box_fact hW 23 _ rfl
  have k24 : ∀ d os, (grow (redrawn W d) os).cell? ⟨w.heap.size, 24, none⟩ = some (.slice fa fn fc) := box_fact hW 24 _ rfl
  have B0 : Hid (Below w.heap.size w W) := box_below hW
  clear hW hc hc'
  by_cases h3 : (i : Int) = 3
  · have h3' : ((i : Int) == 3) = true := by simpa using h3
    refine wp_region_quiet_below (by kernel_rfl) (by kernel_rfl) ?_
    repeat (quiet_step ((go_at_call 87; exact Calls.regrown_of (mark_int _ _ _))))
    refine wpQuiet_nil ?_
    rintro _ ⟨⟨d, os⟩, rfl⟩
    go_wp2
    go_ret
    refine ⟨?_, B0.out.trans ((below_regrown W d os).mono B0.out.size)⟩
    show Ending.returned (Value.int .i64 (bits .andNot .i64 (form i).2.2 (bits .or .i64 (bits .or .i64 (bits .or .i64 (mkI (!hasWill) 32) (mkI (!hasUser) 128)) (mkI (!hasPass) 512)) (mkI (mQ == 0) 16384)))) = _
    rw [HF.out, fl_code _ _ _ _ _ (had_lt i)]
    have e : (decide ((i : Int) = 3) && decide (mQ = 0)) = (mQ == 0) := by rw [decide_eq_true h3]; rfl
    simp only [fl, off, Int.toNat_natCast]
    rw [e]
  · have h3' : ((i : Int) == 3) = false := by simpa using h3
    refine wp_region_quiet_below (by kernel_rfl) (by kernel_rfl) ?_
    repeat (quiet_step ((go_at_call 87; exact Calls.regrown_of (mark_int _ _ _))))
    refine wpQuiet_nil ?_
    rintro _ ⟨⟨d, os⟩, rfl⟩
    go_wp2
    go_ret
    refine ⟨?_, B0.out.trans ((below_regrown W d os).mono B0.out.size)⟩
    show Ending.returned (Value.int .i64 (bits .andNot .i64 (form i).2.2 (bits .or .i64 (bits .or .i64 (bits .or .i64 (mkI (!hasWill) 32) (mkI (!hasUser) 128)) (mkI (!hasPass) 512)) (mkI false 16384)))) = _
    rw [HF.out, fl_code _ _ _ _ _ (had_lt i)]
    have e : (decide ((i : Int) = 3) && decide (mQ = 0)) = false := by rw [decide_eq_false h3]; rfl
    simp only [fl, off, Int.toNat_natCast]
    rw [e]
end Go.Proofs.YtmfbkfgggdkfmaaGreatDoor.Pkt
