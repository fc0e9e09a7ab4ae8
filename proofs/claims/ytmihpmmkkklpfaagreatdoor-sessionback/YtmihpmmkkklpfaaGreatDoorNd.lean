import Derived.Test.YtmihpmmkkklpfaaGreatDoorNb
import Derived.Deep.QuietTactic
import Derived.BigQuiet
import Derived.Deep.RegionWith
namespace Go.Proofs.YtmihpmmkkklpfaaGreatDoor
open Go Go.RowKit
set_option linter.unusedSimpArgs false
set_option linter.unusedVariables false
def bt (id : Nat) : Nat := 2 ^ (id % 64)
theorem bt_lt (id : Nat) : bt id < 18446744073709551616 := by
  have h : id % 64 < 64 := Nat.mod_lt _ (by omega)
  have := Nat.pow_lt_pow_right (a := 2) (by omega) h
  simpa [bt] using this
theorem bt_pos (id : Nat) : 0 < bt id := Nat.pow_pos (by omega)
set_option maxRecDepth 100000 in
set_option maxHeartbeats 1000000 in
theorem bit_any (id : Nat) (w : World) : Calls Tryz.prog 102 #[.int .i64 id] w fun e w' => e = .returned (.int .u64 (bt id : Nat)) ∧ w' = w := by
  go_enter Tryz.func102, Tryz.ntmps102
  go_wp2_with fail
  go_ret
  have e : IntKind.u64.wrap (2 ^ (id % 64)) = ((bt id : Nat) : Int) := by
    rw [IntKind.wrap_u64]
    have := bt_lt id
    have e2 : ((2 : Int) ^ (id % 64)) = ((bt id : Nat) : Int) := by simp [bt]
    rw [e2]
    omega
  refine ⟨?_, rfl⟩
  show Ending.returned (Value.int IntKind.u64 (IntKind.u64.wrap (2 ^ (id % 64)))) = _
  rw [e]
set_option maxRecDepth 100000 in
set_option maxHeartbeats 1000000 in
theorem isID_any (id : Int) (w : World) : Calls Tryz.prog 89 #[.int .i64 id] w fun e w' => e = .returned (.bool (decide (1 ≤ id ∧ id ≤ 65535))) ∧ w' = w := by
  by_cases h1 : 1 ≤ id
  · by_cases h2 : id ≤ 65535
    · go_enter Tryz.func89, Tryz.ntmps89
      go_wp2_with fail
      go_ret
      simp [h1, h2]
    · go_enter Tryz.func89, Tryz.ntmps89
      go_wp2_with fail
      go_ret
      simp [h1, h2]
  · go_enter Tryz.func89, Tryz.ntmps89
    go_wp2_with fail
    go_ret
    refine ⟨?_, by simp⟩
    have e1 : decide (1 ≤ id) = false := by simp; omega
    simp [e1]
/-- What the words' map tells. -/
def fW (W : Nat → Nat) (k : Int) : Option Value := if 0 ≤ k ∧ W k.toNat ≠ 0 then some (.int .u64 (W k.toNat)) else none
theorem fW_get (W : Nat → Nat) (k : Nat) : (fW W (k : Int)).getD (.int .u64 0) = .int .u64 (W k) := by
  unfold fW
  by_cases h : W k = 0 <;> simp [h]
theorem zero101 (w : World) : (zeroValue 171).run Tryz.prog w = .ok (.int .u64 0) w := by kernel_rfl
/-- A set of numbers in memory: at a place of a block. -/
def NS (w : World) (mv : Value) (W : Nat → Nat) (N : Nat) : Prop := ∃ n, n ≤ N ∧ MI w mv n (fW W)
theorem NS.look {w : World} {mv : Value} {W : Nat → Nat} {N : Nat} (h : NS w mv W N) (k : Nat) (hk : k < 2048) : (Instr.lookup 97 mv (.int .i64 (k : Int)) false).run Tryz.prog w = .ok (.int .u64 (W k)) w := by
  obtain ⟨n, hn, h⟩ := h
  rw [h.look Tryz.underlying97 zero101 (okI_nat k (by omega)), fW_get]
set_option maxRecDepth 100000 in
set_option maxHeartbeats 1000000 in
theorem has_walk (nb i id : Nat) (mv : Value) (x : Nat) (w : World) (hid : id ≤ 65535) (h1 : 1 ≤ id) (hc : w.cell? ⟨nb, i, none⟩ = some mv) (hx : x < 18446744073709551616) (hl : ∀ m, (Instr.lookup 97 mv (.int .i64 ((id : Int) / 64)) false).run Tryz.prog (w.drewN m) = .ok (.int .u64 x) (w.drewN m)) :
    Calls Tryz.prog 90 #[.pointer (some ⟨nb, i, none⟩), .int .i64 id] w fun e w' => e = .returned (.bool (decide (x &&& bt id ≠ 0))) ∧ ∃ m, w' = w.drewN m := by
  have hb := bit_any id
  have hi := isID_any id
  have e0 : decide (1 ≤ (id : Int) ∧ (id : Int) ≤ 65535) = true := by simp; omega
  rw [e0] at hi
  have hq := bits_and_u64_nat x (bt id) hx (bt_lt id)
  have e1 : (((x &&& bt id : Nat) : Int) != 0) = decide (x &&& bt id ≠ 0) := by
    by_cases h : x &&& bt id = 0
    · simp [h]
    · have h' : ((x &&& bt id : Nat) : Int) ≠ 0 := by omega
      simp only [h, bne_iff_ne, ne_eq, not_false_eq_true, decide_true]
      simpa using h'
  generalize hy : (x &&& bt id) = y at *
  obtain ⟨bb, hbb⟩ : ∃ bb, decide (y ≠ 0) = bb := ⟨_, rfl⟩
  rw [hbb] at e1 ⊢
  clear hbb hy
  go_enter Tryz.func90, Tryz.ntmps90
  go_wp2_with fail
  go_quiet (first | (go_at_call 89; exact Calls.quiet_of_same (hi _)) | (go_at_call 102; exact Calls.quiet_of_same (hb _)))
  go_wp2_with fail
  go_ret
  exact ⟨by simp [e1], _, rfl⟩
set_option maxRecDepth 100000 in
set_option maxHeartbeats 1000000 in
theorem has_out (nb i : Nat) (id : Int) (mv : Value) (w : World) (hr : ¬ (1 ≤ id ∧ id ≤ 65535)) :
    Calls Tryz.prog 90 #[.pointer (some ⟨nb, i, none⟩), .int .i64 id] w fun e w' => e = .returned (.bool false) ∧ ∃ m, w' = w.drewN m := by
  have hi := isID_any id
  have e0 : decide (1 ≤ id ∧ id ≤ 65535) = false := decide_eq_false hr
  rw [e0] at hi
  clear e0 hr
  go_enter Tryz.func90, Tryz.ntmps90
  go_wp2_with fail
  go_quiet (first | (go_at_call 89; exact Calls.quiet_of_same (hi _)))
  go_wp2_with fail
  go_ret
  exact ⟨rfl, _, rfl⟩
theorem hi_same {cs : Array Value} {i : Nat} {v : Value} (h : cs[i]? = some v) : cs.setIfInBounds i v = cs := by
  apply Array.ext_getElem?
  intro j
  rw [Array.getElem?_setIfInBounds]
  split
  · rename_i e
    subst e
    split
    · exact h.symm
    · rename_i hlt
      rw [Array.getElem?_eq_none (by omega)]
  · rfl
theorem eqn (t k e : TypeId) (m : Option Nat) (h : Tryz.prog.underlying t = some (.map k e)) (w : World) : (binOp .eql t (.map m) (.map none)).run Tryz.prog w = .ok (.bool m.isNone) w := by
  show ((do let b ← Op.equal t (.map m) (.map none); pure (Value.bool b)) : Sem Value).run Tryz.prog w = _
  simp [run_equal_map_nil w t k e m h]
theorem eqn71 (mb : Nat) (w : World) : (binOp .eql 97 (.map (some mb)) (.map none)).run Tryz.prog w = .ok (.bool false) w := eqn _ _ _ _ Tryz.underlying97 w
theorem eqn71n (w : World) : (binOp .eql 97 (.map none) (.map none)).run Tryz.prog w = .ok (.bool true) w := eqn _ _ _ _ Tryz.underlying97 w
theorem eqn68 (mb : Nat) (w : World) : (binOp .eql 94 (.map (some mb)) (.map none)).run Tryz.prog w = .ok (.bool false) w := eqn _ _ _ _ Tryz.underlying94 w
theorem eqn68n (w : World) : (binOp .eql 94 (.map none) (.map none)).run Tryz.prog w = .ok (.bool true) w := eqn _ _ _ _ Tryz.underlying94 w
theorem or_bt (x : Nat) (hx : x < 18446744073709551616) (id : Nat) : bits BinOp.or IntKind.u64 (x : Int) (bt id : Int) = ((x ||| bt id : Nat) : Int) := bits_or_u64_nat x (bt id) hx (bt_lt id)
set_option maxRecDepth 100000 in
set_option maxHeartbeats 1000000 in
theorem put_some (nb i id mb : Nat) (hid : id ≤ 65535) (x : Nat) (w w2 : World) (hc : w.cell? ⟨nb, i, none⟩ = some (.map (some mb))) (hx : x < 18446744073709551616)
    (hl : (Instr.lookup 97 (.map (some mb)) (.int .i64 ((id : Int) / 64)) false).run Tryz.prog w.drew = .ok (.int .u64 x) w.drew)
    (hm : (Instr.mapUpdate 97 (.map (some mb)) (.int .i64 ((id : Int) / 64)) (.int .u64 ((x ||| bt id : Nat) : Int))).run Tryz.prog w.drew = .ok () w2) :
    Calls Tryz.prog 92 #[.pointer (some ⟨nb, i, none⟩), .int .i64 id] w fun e w' => e = .returned (.tuple #[]) ∧ w' = w2 := by
  have hb := bit_any id
  have hwr : IntKind.i64.wrap ((id : Int) / 64) = (id : Int) / 64 := by rw [IntKind.wrap_i64]; omega
  have hq := or_bt x hx id
  have heq := eqn71 mb
  generalize hy : (x ||| bt id) = y at *
  clear hy
  go_enter Tryz.func92, Tryz.ntmps92
  go_wp2_with fail
  go_region_with (go_at_call 102; refine (hb _).mono ?_; rintro e w' ⟨rfl, rfl⟩)
  all_goals go_wp2_with fail
  all_goals first | go_end0 | refine bodyPost_ret (results_none rfl _ _ _) rfl ?_
  all_goals exact ⟨rfl, rfl⟩
set_option maxRecDepth 100000 in
set_option maxHeartbeats 1000000 in
theorem put_nil (nb i id : Nat) (hid : id ≤ 65535) (w w2 : World) (hc : w.cell? ⟨nb, i, none⟩ = some (.map none)) (hf : w.frozen? ⟨nb, i, none⟩ = false) (hlt : nb < w.heap.size)
    (hl : (Instr.lookup 97 (.map (some w.heap.size)) (.int .i64 ((id : Int) / 64)) false).run Tryz.prog ((w.setCell ⟨nb, i, none⟩ (.map (some w.heap.size))).alloc (.map #[] 0)).drew = .ok (.int .u64 0) ((w.setCell ⟨nb, i, none⟩ (.map (some w.heap.size))).alloc (.map #[] 0)).drew)
    (hm : (Instr.mapUpdate 97 (.map (some w.heap.size)) (.int .i64 ((id : Int) / 64)) (.int .u64 ((bt id : Nat) : Int))).run Tryz.prog ((w.setCell ⟨nb, i, none⟩ (.map (some w.heap.size))).alloc (.map #[] 0)).drew = .ok () w2) :
    Calls Tryz.prog 92 #[.pointer (some ⟨nb, i, none⟩), .int .i64 id] w fun e w' => e = .returned (.tuple #[]) ∧ w' = w2 := by
  have hb := bit_any id
  have hwr : IntKind.i64.wrap ((id : Int) / 64) = (id : Int) / 64 := by rw [IntKind.wrap_i64]; omega
  have hq := or_bt 0 (by omega) id
  simp only [Nat.zero_or, Int.natCast_zero] at hq
  have heq := eqn71n
  have hmk : (Instr.makeMap 97 none).run Tryz.prog w = .ok (.map (some w.heap.size)) (w.alloc (.map #[] 0)) := by simp [Instr.makeMap, run_underlying Tryz.underlying97]; try rfl
  go_enter Tryz.func92, Tryz.ntmps92
  go_wp2_with fail
  go_region_with (go_at_call 102; refine (hb _).mono ?_; rintro e w' ⟨rfl, rfl⟩)
  all_goals go_wp2_with fail
  all_goals first | go_end0 | refine bodyPost_ret (results_none rfl _ _ _) rfl ?_
  all_goals exact ⟨rfl, rfl⟩
end Go.Proofs.YtmihpmmkkklpfaaGreatDoor
namespace Go.Proofs.YtmihpmmkkklpfaaGreatDoor
open Go Go.RowKit
set_option linter.unusedSimpArgs false
set_option linter.unusedVariables false
theorem anot_bt (x : Nat) (hx : x < 18446744073709551616) (id : Nat) : bits BinOp.andNot IntKind.u64 (x : Int) (bt id : Int) = ((x &&& (18446744073709551615 - bt id) : Nat) : Int) := u64_andNot_nat x (bt id) hx (bt_lt id)
set_option maxRecDepth 100000 in
set_option maxHeartbeats 1000000 in
/-- A number is taken out: what is left in its word is kept, or the word goes, and with the last one the map. -/
theorem drop_walk (nb i id mb : Nat) (hid : id ≤ 65535) (x y n : Nat) (w w2 : World) (hc : w.cell? ⟨nb, i, none⟩ = some (.map (some mb))) (hx : x < 18446744073709551616) (hy : y = x &&& (18446744073709551615 - bt id))
    (hl : (Instr.lookup 97 (.map (some mb)) (.int .i64 ((id : Int) / 64)) false).run Tryz.prog w.drew = .ok (.int .u64 x) w.drew)
    (hm : (Instr.mapUpdate 97 (.map (some mb)) (.int .i64 ((id : Int) / 64)) (.int .u64 (y : Int))).run Tryz.prog w.drew = .ok () w2)
    (hc2 : w2.cell? ⟨nb, i, none⟩ = some (.map (some mb)))
    (hl2 : (Instr.lookup 97 (.map (some mb)) (.int .i64 ((id : Int) / 64)) false).run Tryz.prog w2 = .ok (.int .u64 (y : Int)) w2)
    (w3 : World) (hw3 : y ≠ 0 → w3 = w2)
    (hd : y = 0 → (Builtin.delete_ #[97, 3] 0 #[.map (some mb), .int .i64 ((id : Int) / 64)]).run Tryz.prog w2 = .ok (.tuple #[]) w3)
    (hc3 : w3.cell? ⟨nb, i, none⟩ = some (.map (some mb))) (hf3 : w3.frozen? ⟨nb, i, none⟩ = false)
    (hn : (Builtin.len_ #[97] 3 #[.map (some mb)]).run Tryz.prog w3 = .ok (.int .i64 n) w3)
    {R : World → Prop} (hR1 : n = 0 → R (w3.setCell ⟨nb, i, none⟩ (.map none))) (hR2 : n ≠ 0 → R w3) :
    Calls Tryz.prog 82 #[.pointer (some ⟨nb, i, none⟩), .int .i64 id] w fun e w' => e = .returned (.tuple #[]) ∧ R w' := by
  have hb := bit_any id
  have hwr : IntKind.i64.wrap ((id : Int) / 64) = (id : Int) / 64 := by rw [IntKind.wrap_i64]; omega
  have hq := anot_bt x hx id
  rw [← hy] at hq
  clear hy
  obtain ⟨bY, hbY⟩ : ∃ bY, ((y : Int) == 0) = bY := ⟨_, rfl⟩
  obtain ⟨bN, hbN⟩ : ∃ bN, ((n : Int) == 0) = bN := ⟨_, rfl⟩
  have H1 : Hid (bY = false → w3 = w2) := fun q => hw3 (fun e => by subst e; rw [q] at hbY; simp at hbY)
  have H2 : Hid (bY = true → (Builtin.delete_ #[97, 3] 0 #[.map (some mb), .int .i64 ((id : Int) / 64)]).run Tryz.prog w2 = .ok (.tuple #[]) w3) := fun q => hd (by rw [q] at hbY; simpa using hbY)
  have H3 : Hid (bN = true → R (w3.setCell ⟨nb, i, none⟩ (.map none))) := fun q => hR1 (by rw [q] at hbN; simpa using hbN)
  have H4 : Hid (bN = false → R w3) := fun q => hR2 (by rw [q] at hbN; simpa using hbN)
  clear hw3 hd hR1 hR2
  have key : Hid (R (if bN then w3.setCell ⟨nb, i, none⟩ (.map none) else w3)) := by
    cases bN
    · exact H4.out rfl
    · exact H3.out rfl
  cases bY <;> cases bN
  · have e3 := H1.out rfl
    subst e3
    have r : Hid (R w3) := key
    clear H1 H2 H3 H4 key
    go_enter Tryz.func82, Tryz.ntmps82
    go_wp2_with fail
    go_region_with (go_at_call 102; refine (hb _).mono ?_; rintro e w' ⟨rfl, rfl⟩)
    all_goals go_wp2_with fail
    all_goals go_end0
    all_goals exact ⟨rfl, r.out⟩
  · have e3 := H1.out rfl
    subst e3
    have r : Hid (R (w3.setCell ⟨nb, i, none⟩ (.map none))) := key
    clear H1 H2 H3 H4 key
    go_enter Tryz.func82, Tryz.ntmps82
    go_wp2_with fail
    go_region_with (go_at_call 102; refine (hb _).mono ?_; rintro e w' ⟨rfl, rfl⟩)
    all_goals go_wp2_with fail
    all_goals go_end0
    all_goals exact ⟨rfl, r.out⟩
  · have hd := H2.out rfl
    have r : Hid (R w3) := key
    clear H1 H2 H3 H4 key
    go_enter Tryz.func82, Tryz.ntmps82
    go_wp2_with fail
    go_region_with (go_at_call 102; refine (hb _).mono ?_; rintro e w' ⟨rfl, rfl⟩)
    all_goals go_wp2_with fail
    all_goals go_end0
    all_goals exact ⟨rfl, r.out⟩
  · have hd := H2.out rfl
    have r : Hid (R (w3.setCell ⟨nb, i, none⟩ (.map none))) := key
    clear H1 H2 H3 H4 key
    go_enter Tryz.func82, Tryz.ntmps82
    go_wp2_with fail
    go_region_with (go_at_call 102; refine (hb _).mono ?_; rintro e w' ⟨rfl, rfl⟩)
    all_goals go_wp2_with fail
    all_goals go_end0
    all_goals exact ⟨rfl, r.out⟩
end Go.Proofs.YtmihpmmkkklpfaaGreatDoor
