import Derived.Test.YtkjeneklkdekoaaGreatDoorRek
import Derived.Deep.RegionHeldLaw
namespace Go.Proofs.YtkjeneklkdekoaaGreatDoor
open Go Go.RowKit
set_option linter.unusedSimpArgs false
set_option linter.unusedVariables false

/-! ### does, walked over contracts -/
theorem cells_at {w : World} {b i : Nat} {cs : Array Value} {t : TypeId} {f : Nat × Nat} {v : Value} (h : w.heap[b]? = some (.cells cs t f)) (hv : cs[i]? = some v) : w.cell? ⟨b, i, none⟩ = some v := by
  simp [World.cell?, h, hv]
/-- What does reads of its own. -/
def BP (W : World) (rb mb s : Nat) : Prop := W.cell? ⟨s, 0, none⟩ = some (.pointer (some ⟨rb, 0, none⟩)) ∧ W.cell? ⟨s, 1, none⟩ = some (.pointer (some ⟨mb, 0, none⟩))
set_option maxRecDepth 100000 in
set_option maxHeartbeats 4000000 in
theorem does_byte {w : World} {rb mb bb : Nat} {kind mark : Int} {K1 KA KB : World → Prop} {x : Int} (hkind : kind = 1) (Po : Ending → World → Prop)
    (h1 : Calls Tryz.prog 65 #[.pointer (some ⟨rb, 0, none⟩)] (w.alloc (.cells #[.pointer (some ⟨rb, 0, none⟩), .pointer (some ⟨mb, 0, none⟩)] 60)).drew fun r w' => r = .returned (.int .u8 x) ∧ BP w' rb mb w.heap.size ∧ K1 w')
    (h2 : ∀ W, K1 W → Calls Tryz.prog 66 #[.pointer (some ⟨mb, 0, none⟩)] W fun r w' => r = .returned (.int .u8 x) ∧ BP w' rb mb w.heap.size ∧ KA w')
    (g1 : ∀ W, KA W → Calls Tryz.prog 14 #[.agg #[.pointer (some ⟨rb, 0, none⟩), .pointer (some ⟨mb, 0, none⟩)]] W fun r w' => r = .returned (.bool true) ∧ BP w' rb mb w.heap.size ∧ KB w')
    (g2 : ∀ W, KB W → Calls Tryz.prog 14 #[.agg #[.pointer (some ⟨rb, 0, none⟩), .pointer (some ⟨mb, 0, none⟩)]] W fun r w' => r = .returned (.bool true) ∧ Po (.returned (.bool true)) w') :
    Calls Tryz.prog 15 #[.agg #[.pointer (some ⟨rb, 0, none⟩), .pointer (some ⟨mb, 0, none⟩)], .pointer (some ⟨bb, 0, none⟩), .int .i64 kind, .int .i64 mark] w Po := by
  have H1 := hidi h1
  have H2 := hidi h2
  have G1 := hidi g1
  have G2 := hidi g2
  clear h1 h2 g1 g2
  subst hkind
  have hnew : (w.alloc (.cells #[.pointer (some ⟨rb, 0, none⟩), .pointer (some ⟨mb, 0, none⟩)] 60)).heap[w.heap.size]? = some (.cells #[.pointer (some ⟨rb, 0, none⟩), .pointer (some ⟨mb, 0, none⟩)] 60 (0, 0)) := heap_alloc_new _ _
  have b0 : (w.alloc (.cells #[.pointer (some ⟨rb, 0, none⟩), .pointer (some ⟨mb, 0, none⟩)] 60)).cell? ⟨w.heap.size, 0, none⟩ = some (.pointer (some ⟨rb, 0, none⟩)) := cells_at hnew rfl
  have b1 : (w.alloc (.cells #[.pointer (some ⟨rb, 0, none⟩), .pointer (some ⟨mb, 0, none⟩)] 60)).cell? ⟨w.heap.size, 1, none⟩ = some (.pointer (some ⟨mb, 0, none⟩)) := cells_at hnew rfl
  clear hnew
  go_enter Tryz.func15, Tryz.ntmps15
  go_wp2_with fail
  refine wp_region_held_drew (S := fun w' => w'.cell? ⟨w.heap.size, 0, none⟩ = some (.pointer (some ⟨rb, 0, none⟩)) ∧ w'.cell? ⟨w.heap.size, 1, none⟩ = some (.pointer (some ⟨mb, 0, none⟩))) (by kernel_rfl) ⟨b0, b1⟩ (fun hHeld => ?_)
  change wpAnyH _ _ _ _ _ 8 #[false, false, false, false, false, false, false, false] _ (World.drew _)
  refine wpAnyH_take (i := 0) (oi := { dst := some 15, op := Go.Op.fieldAddr 60 (Go.Operand.tmp 4) 0, type := 0, pos := "exact.go:130", after := #[], guard := none }) (v := .pointer (some ⟨w.heap.size, 0, none⟩)) rfl (by kernel_rfl) (by kernel_rfl) (by kernel_rfl) (fun _ _ _ h => h) (Or.inl ⟨by kernel_rfl, by intro wq hSw; (try dsimp only at hSw); clear hHeld; go_simp⟩) hHeld ?_
  simp only [Act.put, List.setIfInBounds_toArray, List.set_cons_zero, List.set_cons_succ]
  refine wpAnyH_take (i := 1) (oi := { dst := some 16, op := Go.Op.load 55 (Go.Operand.tmp 15), type := 55, pos := "exact.go:130", after := #[{ on := 0, ground := Go.Ground.data }], guard := none }) (v := .pointer (some ⟨rb, 0, none⟩)) rfl (by kernel_rfl) (by kernel_rfl) (by kernel_rfl) (fun _ _ _ h => h) (Or.inl ⟨by kernel_rfl, by intro wq hSw; (try dsimp only at hSw); clear hHeld; go_simp⟩) hHeld ?_
  simp only [Act.put, List.setIfInBounds_toArray, List.set_cons_zero, List.set_cons_succ]
  refine wpAnyH_take (i := 3) (oi := { dst := some 18, op := Go.Op.fieldAddr 60 (Go.Operand.tmp 4) 1, type := 0, pos := "exact.go:130", after := #[], guard := none }) (v := .pointer (some ⟨w.heap.size, 1, none⟩)) rfl (by kernel_rfl) (by kernel_rfl) (by kernel_rfl) (fun _ _ _ h => h) (Or.inl ⟨by kernel_rfl, by intro wq hSw; (try dsimp only at hSw); clear hHeld; go_simp⟩) hHeld ?_
  simp only [Act.put, List.setIfInBounds_toArray, List.set_cons_zero, List.set_cons_succ]
  refine wpAnyH_take (i := 4) (oi := { dst := some 19, op := Go.Op.load 57 (Go.Operand.tmp 18), type := 57, pos := "exact.go:130", after := #[{ on := 3, ground := Go.Ground.data }], guard := none }) (v := .pointer (some ⟨mb, 0, none⟩)) rfl (by kernel_rfl) (by kernel_rfl) (by kernel_rfl) (fun _ _ _ h => h) (Or.inl ⟨by kernel_rfl, by intro wq hSw; (try dsimp only at hSw); clear hHeld; go_simp⟩) hHeld ?_
  simp only [Act.put, List.setIfInBounds_toArray, List.set_cons_zero, List.set_cons_succ]
  clear b0 b1
  refine wpAnyH_ready (rs := [2]) (by kernel_rfl) (by simp) ?_
  refine AllReadyH.cons (o := { dst := some 17, op := Go.Op.call { callee := Go.Callee.value (Go.Operand.func 65), args := #[Go.Operand.tmp 16], argTypes := #[55] }, type := 5, pos := "exact.go:130", after := #[{ on := 1, ground := Go.Ground.data }], guard := none }) (by rfl) (fun K hK => ?_) AllReadyH.nil
  go_simp
  go_wp2_with (go_at_call 65; refine (H1.out).mono ?_; rintro e w1 ⟨rfl, ⟨b0, b1⟩, hk⟩)
  have J1 := hidi (H2.out _ hk)
  clear hk
  refine hK.out _ _ ⟨b0, b1⟩ (fun hHeld => ?_)
  clear hK K
  (try simp only [Act.put, List.setIfInBounds_toArray, List.set_cons_zero, List.set_cons_succ])
  clear b0 b1
  refine wpAnyH_ready (rs := [5]) (by kernel_rfl) (by simp) ?_
  refine AllReadyH.cons (o := { dst := some 20, op := Go.Op.call { callee := Go.Callee.value (Go.Operand.func 66), args := #[Go.Operand.tmp 19], argTypes := #[57] }, type := 5, pos := "exact.go:130", after := #[{ on := 4, ground := Go.Ground.data }, { on := 2, ground := Go.Ground.chain }], guard := none }) (by rfl) (fun K hK => ?_) AllReadyH.nil
  go_simp
  go_wp2_with (go_at_call 66; refine (J1.out).mono ?_; rintro e w2 ⟨rfl, ⟨b0, b1⟩, hk⟩)
  have JA := hidi (G1.out _ hk)
  clear hk J1
  refine hK.out _ _ ⟨b0, b1⟩ (fun hHeld => ?_)
  clear hK K
  (try simp only [Act.put, List.setIfInBounds_toArray, List.set_cons_zero, List.set_cons_succ])
  refine wpAnyH_take (i := 6) (oi := { dst := some 21, op := Go.Op.binOp Go.BinOp.eql 5 (Go.Operand.tmp 17) (Go.Operand.tmp 20) 5, type := 4, pos := "exact.go:130", after := #[{ on := 2, ground := Go.Ground.data }, { on := 5, ground := Go.Ground.data }], guard := none }) (v := .bool true) rfl (by kernel_rfl) (by kernel_rfl) (by kernel_rfl) (fun _ _ _ h => h) (Or.inl ⟨by kernel_rfl, by intro wq hSw; (try dsimp only at hSw); clear hHeld; go_simp⟩) hHeld ?_
  simp only [Act.put, List.setIfInBounds_toArray, List.set_cons_zero, List.set_cons_succ]
  refine wpAnyH_take (i := 7) (oi := { dst := some 9, op := Go.Op.assign (Go.Operand.tmp 21), type := 4, pos := "exact.go:130", after := #[{ on := 6, ground := Go.Ground.data }, { on := 5, ground := Go.Ground.chain }, { on := 0, ground := Go.Ground.phase }, { on := 1, ground := Go.Ground.phase }, { on := 2, ground := Go.Ground.phase }, { on := 3, ground := Go.Ground.phase }, { on := 4, ground := Go.Ground.phase }, { on := 5, ground := Go.Ground.phase }, { on := 6, ground := Go.Ground.phase }], guard := none }) (v := .bool true) rfl (by kernel_rfl) (by kernel_rfl) (by kernel_rfl) (fun _ _ _ h => h) (Or.inl ⟨by kernel_rfl, by intro wq hSw; (try dsimp only at hSw); clear hHeld; go_simp⟩) hHeld ?_
  simp only [Act.put, List.setIfInBounds_toArray, List.set_cons_zero, List.set_cons_succ]
  refine wpAnyH_done (by kernel_rfl) ?_ _
  clear hHeld
  go_wp2_with fail
  go_must (go_at_call 14)
  refine (JA.out).mono ?_
  clear b0 b1
  rintro e v1 ⟨rfl, ⟨b0, b1⟩, hk⟩
  have JB := hidi (G2.out _ hk)
  clear hk JA
  go_wp2_with fail
  go_must (go_at_call 14)
  refine (JB.out).mono ?_
  clear b0 b1
  rintro e v2 ⟨rfl, hk⟩
  have Z := hidi hk
  clear hk JB
  go_wp2_with fail
  all_goals (try go_ret)
  all_goals exact Z.out
set_option maxRecDepth 100000 in
set_option maxHeartbeats 4000000 in
theorem does_number {w : World} {rb mb bb : Nat} {kind mark : Int} {K1 KA KB : World → Prop} {x : Int} (hkind : kind = 2) (Po : Ending → World → Prop)
    (h1 : Calls Tryz.prog 67 #[.pointer (some ⟨rb, 0, none⟩)] (w.alloc (.cells #[.pointer (some ⟨rb, 0, none⟩), .pointer (some ⟨mb, 0, none⟩)] 60)).drew fun r w' => r = .returned (.int .i64 x) ∧ BP w' rb mb w.heap.size ∧ K1 w')
    (h2 : ∀ W, K1 W → Calls Tryz.prog 68 #[.pointer (some ⟨mb, 0, none⟩)] W fun r w' => r = .returned (.int .i64 x) ∧ BP w' rb mb w.heap.size ∧ KA w')
    (g1 : ∀ W, KA W → Calls Tryz.prog 14 #[.agg #[.pointer (some ⟨rb, 0, none⟩), .pointer (some ⟨mb, 0, none⟩)]] W fun r w' => r = .returned (.bool true) ∧ BP w' rb mb w.heap.size ∧ KB w')
    (g2 : ∀ W, KB W → Calls Tryz.prog 14 #[.agg #[.pointer (some ⟨rb, 0, none⟩), .pointer (some ⟨mb, 0, none⟩)]] W fun r w' => r = .returned (.bool true) ∧ Po (.returned (.bool true)) w') :
    Calls Tryz.prog 15 #[.agg #[.pointer (some ⟨rb, 0, none⟩), .pointer (some ⟨mb, 0, none⟩)], .pointer (some ⟨bb, 0, none⟩), .int .i64 kind, .int .i64 mark] w Po := by
  have H1 := hidi h1
  have H2 := hidi h2
  have G1 := hidi g1
  have G2 := hidi g2
  clear h1 h2 g1 g2
  subst hkind
  have hnew : (w.alloc (.cells #[.pointer (some ⟨rb, 0, none⟩), .pointer (some ⟨mb, 0, none⟩)] 60)).heap[w.heap.size]? = some (.cells #[.pointer (some ⟨rb, 0, none⟩), .pointer (some ⟨mb, 0, none⟩)] 60 (0, 0)) := heap_alloc_new _ _
  have b0 : (w.alloc (.cells #[.pointer (some ⟨rb, 0, none⟩), .pointer (some ⟨mb, 0, none⟩)] 60)).cell? ⟨w.heap.size, 0, none⟩ = some (.pointer (some ⟨rb, 0, none⟩)) := cells_at hnew rfl
  have b1 : (w.alloc (.cells #[.pointer (some ⟨rb, 0, none⟩), .pointer (some ⟨mb, 0, none⟩)] 60)).cell? ⟨w.heap.size, 1, none⟩ = some (.pointer (some ⟨mb, 0, none⟩)) := cells_at hnew rfl
  clear hnew
  go_enter Tryz.func15, Tryz.ntmps15
  go_wp2_with fail
  refine wp_region_held_drew (S := fun w' => w'.cell? ⟨w.heap.size, 0, none⟩ = some (.pointer (some ⟨rb, 0, none⟩)) ∧ w'.cell? ⟨w.heap.size, 1, none⟩ = some (.pointer (some ⟨mb, 0, none⟩))) (by kernel_rfl) ⟨b0, b1⟩ (fun hHeld => ?_)
  change wpAnyH _ _ _ _ _ 8 #[false, false, false, false, false, false, false, false] _ (World.drew _)
  refine wpAnyH_take (i := 0) (oi := { dst := some 24, op := Go.Op.fieldAddr 60 (Go.Operand.tmp 4) 0, type := 0, pos := "exact.go:132", after := #[], guard := none }) (v := .pointer (some ⟨w.heap.size, 0, none⟩)) rfl (by kernel_rfl) (by kernel_rfl) (by kernel_rfl) (fun _ _ _ h => h) (Or.inl ⟨by kernel_rfl, by intro wq hSw; (try dsimp only at hSw); clear hHeld; go_simp⟩) hHeld ?_
  simp only [Act.put, List.setIfInBounds_toArray, List.set_cons_zero, List.set_cons_succ]
  refine wpAnyH_take (i := 1) (oi := { dst := some 25, op := Go.Op.load 55 (Go.Operand.tmp 24), type := 55, pos := "exact.go:132", after := #[{ on := 0, ground := Go.Ground.data }], guard := none }) (v := .pointer (some ⟨rb, 0, none⟩)) rfl (by kernel_rfl) (by kernel_rfl) (by kernel_rfl) (fun _ _ _ h => h) (Or.inl ⟨by kernel_rfl, by intro wq hSw; (try dsimp only at hSw); clear hHeld; go_simp⟩) hHeld ?_
  simp only [Act.put, List.setIfInBounds_toArray, List.set_cons_zero, List.set_cons_succ]
  refine wpAnyH_take (i := 3) (oi := { dst := some 27, op := Go.Op.fieldAddr 60 (Go.Operand.tmp 4) 1, type := 0, pos := "exact.go:132", after := #[], guard := none }) (v := .pointer (some ⟨w.heap.size, 1, none⟩)) rfl (by kernel_rfl) (by kernel_rfl) (by kernel_rfl) (fun _ _ _ h => h) (Or.inl ⟨by kernel_rfl, by intro wq hSw; (try dsimp only at hSw); clear hHeld; go_simp⟩) hHeld ?_
  simp only [Act.put, List.setIfInBounds_toArray, List.set_cons_zero, List.set_cons_succ]
  refine wpAnyH_take (i := 4) (oi := { dst := some 28, op := Go.Op.load 57 (Go.Operand.tmp 27), type := 57, pos := "exact.go:132", after := #[{ on := 3, ground := Go.Ground.data }], guard := none }) (v := .pointer (some ⟨mb, 0, none⟩)) rfl (by kernel_rfl) (by kernel_rfl) (by kernel_rfl) (fun _ _ _ h => h) (Or.inl ⟨by kernel_rfl, by intro wq hSw; (try dsimp only at hSw); clear hHeld; go_simp⟩) hHeld ?_
  simp only [Act.put, List.setIfInBounds_toArray, List.set_cons_zero, List.set_cons_succ]
  clear b0 b1
  refine wpAnyH_ready (rs := [2]) (by kernel_rfl) (by simp) ?_
  refine AllReadyH.cons (o := { dst := some 26, op := Go.Op.call { callee := Go.Callee.value (Go.Operand.func 67), args := #[Go.Operand.tmp 25], argTypes := #[55] }, type := 3, pos := "exact.go:132", after := #[{ on := 1, ground := Go.Ground.data }], guard := none }) (by rfl) (fun K hK => ?_) AllReadyH.nil
  go_simp
  go_wp2_with (go_at_call 67; refine (H1.out).mono ?_; rintro e w1 ⟨rfl, ⟨b0, b1⟩, hk⟩)
  have J1 := hidi (H2.out _ hk)
  clear hk
  refine hK.out _ _ ⟨b0, b1⟩ (fun hHeld => ?_)
  clear hK K
  (try simp only [Act.put, List.setIfInBounds_toArray, List.set_cons_zero, List.set_cons_succ])
  clear b0 b1
  refine wpAnyH_ready (rs := [5]) (by kernel_rfl) (by simp) ?_
  refine AllReadyH.cons (o := { dst := some 29, op := Go.Op.call { callee := Go.Callee.value (Go.Operand.func 68), args := #[Go.Operand.tmp 28], argTypes := #[57] }, type := 3, pos := "exact.go:132", after := #[{ on := 4, ground := Go.Ground.data }, { on := 2, ground := Go.Ground.chain }], guard := none }) (by rfl) (fun K hK => ?_) AllReadyH.nil
  go_simp
  go_wp2_with (go_at_call 68; refine (J1.out).mono ?_; rintro e w2 ⟨rfl, ⟨b0, b1⟩, hk⟩)
  have JA := hidi (G1.out _ hk)
  clear hk J1
  refine hK.out _ _ ⟨b0, b1⟩ (fun hHeld => ?_)
  clear hK K
  (try simp only [Act.put, List.setIfInBounds_toArray, List.set_cons_zero, List.set_cons_succ])
  refine wpAnyH_take (i := 6) (oi := { dst := some 30, op := Go.Op.binOp Go.BinOp.eql 3 (Go.Operand.tmp 26) (Go.Operand.tmp 29) 3, type := 4, pos := "exact.go:132", after := #[{ on := 2, ground := Go.Ground.data }, { on := 5, ground := Go.Ground.data }], guard := none }) (v := .bool true) rfl (by kernel_rfl) (by kernel_rfl) (by kernel_rfl) (fun _ _ _ h => h) (Or.inl ⟨by kernel_rfl, by intro wq hSw; (try dsimp only at hSw); clear hHeld; go_simp⟩) hHeld ?_
  simp only [Act.put, List.setIfInBounds_toArray, List.set_cons_zero, List.set_cons_succ]
  refine wpAnyH_take (i := 7) (oi := { dst := some 9, op := Go.Op.assign (Go.Operand.tmp 30), type := 4, pos := "exact.go:132", after := #[{ on := 6, ground := Go.Ground.data }, { on := 5, ground := Go.Ground.chain }, { on := 0, ground := Go.Ground.phase }, { on := 1, ground := Go.Ground.phase }, { on := 2, ground := Go.Ground.phase }, { on := 3, ground := Go.Ground.phase }, { on := 4, ground := Go.Ground.phase }, { on := 5, ground := Go.Ground.phase }, { on := 6, ground := Go.Ground.phase }], guard := none }) (v := .bool true) rfl (by kernel_rfl) (by kernel_rfl) (by kernel_rfl) (fun _ _ _ h => h) (Or.inl ⟨by kernel_rfl, by intro wq hSw; (try dsimp only at hSw); clear hHeld; go_simp⟩) hHeld ?_
  simp only [Act.put, List.setIfInBounds_toArray, List.set_cons_zero, List.set_cons_succ]
  refine wpAnyH_done (by kernel_rfl) ?_ _
  clear hHeld
  go_wp2_with fail
  go_must (go_at_call 14)
  refine (JA.out).mono ?_
  clear b0 b1
  rintro e v1 ⟨rfl, ⟨b0, b1⟩, hk⟩
  have JB := hidi (G2.out _ hk)
  clear hk JA
  go_wp2_with fail
  go_must (go_at_call 14)
  refine (JB.out).mono ?_
  clear b0 b1
  rintro e v2 ⟨rfl, hk⟩
  have Z := hidi hk
  clear hk JB
  go_wp2_with fail
  all_goals (try go_ret)
  all_goals exact Z.out
set_option maxRecDepth 100000 in
set_option maxHeartbeats 4000000 in
theorem does_long {w : World} {rb mb bb : Nat} {kind mark : Int} {K1 KA KB : World → Prop} {x : Int} (hkind : kind = 3) (Po : Ending → World → Prop)
    (h1 : Calls Tryz.prog 69 #[.pointer (some ⟨rb, 0, none⟩)] (w.alloc (.cells #[.pointer (some ⟨rb, 0, none⟩), .pointer (some ⟨mb, 0, none⟩)] 60)).drew fun r w' => r = .returned (.int .i64 x) ∧ BP w' rb mb w.heap.size ∧ K1 w')
    (h2 : ∀ W, K1 W → Calls Tryz.prog 70 #[.pointer (some ⟨mb, 0, none⟩)] W fun r w' => r = .returned (.int .i64 x) ∧ BP w' rb mb w.heap.size ∧ KA w')
    (g1 : ∀ W, KA W → Calls Tryz.prog 14 #[.agg #[.pointer (some ⟨rb, 0, none⟩), .pointer (some ⟨mb, 0, none⟩)]] W fun r w' => r = .returned (.bool true) ∧ BP w' rb mb w.heap.size ∧ KB w')
    (g2 : ∀ W, KB W → Calls Tryz.prog 14 #[.agg #[.pointer (some ⟨rb, 0, none⟩), .pointer (some ⟨mb, 0, none⟩)]] W fun r w' => r = .returned (.bool true) ∧ Po (.returned (.bool true)) w') :
    Calls Tryz.prog 15 #[.agg #[.pointer (some ⟨rb, 0, none⟩), .pointer (some ⟨mb, 0, none⟩)], .pointer (some ⟨bb, 0, none⟩), .int .i64 kind, .int .i64 mark] w Po := by
  have H1 := hidi h1
  have H2 := hidi h2
  have G1 := hidi g1
  have G2 := hidi g2
  clear h1 h2 g1 g2
  subst hkind
  have hnew : (w.alloc (.cells #[.pointer (some ⟨rb, 0, none⟩), .pointer (some ⟨mb, 0, none⟩)] 60)).heap[w.heap.size]? = some (.cells #[.pointer (some ⟨rb, 0, none⟩), .pointer (some ⟨mb, 0, none⟩)] 60 (0, 0)) := heap_alloc_new _ _
  have b0 : (w.alloc (.cells #[.pointer (some ⟨rb, 0, none⟩), .pointer (some ⟨mb, 0, none⟩)] 60)).cell? ⟨w.heap.size, 0, none⟩ = some (.pointer (some ⟨rb, 0, none⟩)) := cells_at hnew rfl
  have b1 : (w.alloc (.cells #[.pointer (some ⟨rb, 0, none⟩), .pointer (some ⟨mb, 0, none⟩)] 60)).cell? ⟨w.heap.size, 1, none⟩ = some (.pointer (some ⟨mb, 0, none⟩)) := cells_at hnew rfl
  clear hnew
  go_enter Tryz.func15, Tryz.ntmps15
  go_wp2_with fail
  refine wp_region_held_drew (S := fun w' => w'.cell? ⟨w.heap.size, 0, none⟩ = some (.pointer (some ⟨rb, 0, none⟩)) ∧ w'.cell? ⟨w.heap.size, 1, none⟩ = some (.pointer (some ⟨mb, 0, none⟩))) (by kernel_rfl) ⟨b0, b1⟩ (fun hHeld => ?_)
  change wpAnyH _ _ _ _ _ 8 #[false, false, false, false, false, false, false, false] _ (World.drew _)
  refine wpAnyH_take (i := 0) (oi := { dst := some 33, op := Go.Op.fieldAddr 60 (Go.Operand.tmp 4) 0, type := 0, pos := "exact.go:134", after := #[], guard := none }) (v := .pointer (some ⟨w.heap.size, 0, none⟩)) rfl (by kernel_rfl) (by kernel_rfl) (by kernel_rfl) (fun _ _ _ h => h) (Or.inl ⟨by kernel_rfl, by intro wq hSw; (try dsimp only at hSw); clear hHeld; go_simp⟩) hHeld ?_
  simp only [Act.put, List.setIfInBounds_toArray, List.set_cons_zero, List.set_cons_succ]
  refine wpAnyH_take (i := 1) (oi := { dst := some 34, op := Go.Op.load 55 (Go.Operand.tmp 33), type := 55, pos := "exact.go:134", after := #[{ on := 0, ground := Go.Ground.data }], guard := none }) (v := .pointer (some ⟨rb, 0, none⟩)) rfl (by kernel_rfl) (by kernel_rfl) (by kernel_rfl) (fun _ _ _ h => h) (Or.inl ⟨by kernel_rfl, by intro wq hSw; (try dsimp only at hSw); clear hHeld; go_simp⟩) hHeld ?_
  simp only [Act.put, List.setIfInBounds_toArray, List.set_cons_zero, List.set_cons_succ]
  refine wpAnyH_take (i := 3) (oi := { dst := some 36, op := Go.Op.fieldAddr 60 (Go.Operand.tmp 4) 1, type := 0, pos := "exact.go:134", after := #[], guard := none }) (v := .pointer (some ⟨w.heap.size, 1, none⟩)) rfl (by kernel_rfl) (by kernel_rfl) (by kernel_rfl) (fun _ _ _ h => h) (Or.inl ⟨by kernel_rfl, by intro wq hSw; (try dsimp only at hSw); clear hHeld; go_simp⟩) hHeld ?_
  simp only [Act.put, List.setIfInBounds_toArray, List.set_cons_zero, List.set_cons_succ]
  refine wpAnyH_take (i := 4) (oi := { dst := some 37, op := Go.Op.load 57 (Go.Operand.tmp 36), type := 57, pos := "exact.go:134", after := #[{ on := 3, ground := Go.Ground.data }], guard := none }) (v := .pointer (some ⟨mb, 0, none⟩)) rfl (by kernel_rfl) (by kernel_rfl) (by kernel_rfl) (fun _ _ _ h => h) (Or.inl ⟨by kernel_rfl, by intro wq hSw; (try dsimp only at hSw); clear hHeld; go_simp⟩) hHeld ?_
  simp only [Act.put, List.setIfInBounds_toArray, List.set_cons_zero, List.set_cons_succ]
  clear b0 b1
  refine wpAnyH_ready (rs := [2]) (by kernel_rfl) (by simp) ?_
  refine AllReadyH.cons (o := { dst := some 35, op := Go.Op.call { callee := Go.Callee.value (Go.Operand.func 69), args := #[Go.Operand.tmp 34], argTypes := #[55] }, type := 3, pos := "exact.go:134", after := #[{ on := 1, ground := Go.Ground.data }], guard := none }) (by rfl) (fun K hK => ?_) AllReadyH.nil
  go_simp
  go_wp2_with (go_at_call 69; refine (H1.out).mono ?_; rintro e w1 ⟨rfl, ⟨b0, b1⟩, hk⟩)
  have J1 := hidi (H2.out _ hk)
  clear hk
  refine hK.out _ _ ⟨b0, b1⟩ (fun hHeld => ?_)
  clear hK K
  (try simp only [Act.put, List.setIfInBounds_toArray, List.set_cons_zero, List.set_cons_succ])
  clear b0 b1
  refine wpAnyH_ready (rs := [5]) (by kernel_rfl) (by simp) ?_
  refine AllReadyH.cons (o := { dst := some 38, op := Go.Op.call { callee := Go.Callee.value (Go.Operand.func 70), args := #[Go.Operand.tmp 37], argTypes := #[57] }, type := 3, pos := "exact.go:134", after := #[{ on := 4, ground := Go.Ground.data }, { on := 2, ground := Go.Ground.chain }], guard := none }) (by rfl) (fun K hK => ?_) AllReadyH.nil
  go_simp
  go_wp2_with (go_at_call 70; refine (J1.out).mono ?_; rintro e w2 ⟨rfl, ⟨b0, b1⟩, hk⟩)
  have JA := hidi (G1.out _ hk)
  clear hk J1
  refine hK.out _ _ ⟨b0, b1⟩ (fun hHeld => ?_)
  clear hK K
  (try simp only [Act.put, List.setIfInBounds_toArray, List.set_cons_zero, List.set_cons_succ])
  refine wpAnyH_take (i := 6) (oi := { dst := some 39, op := Go.Op.binOp Go.BinOp.eql 3 (Go.Operand.tmp 35) (Go.Operand.tmp 38) 3, type := 4, pos := "exact.go:134", after := #[{ on := 2, ground := Go.Ground.data }, { on := 5, ground := Go.Ground.data }], guard := none }) (v := .bool true) rfl (by kernel_rfl) (by kernel_rfl) (by kernel_rfl) (fun _ _ _ h => h) (Or.inl ⟨by kernel_rfl, by intro wq hSw; (try dsimp only at hSw); clear hHeld; go_simp⟩) hHeld ?_
  simp only [Act.put, List.setIfInBounds_toArray, List.set_cons_zero, List.set_cons_succ]
  refine wpAnyH_take (i := 7) (oi := { dst := some 9, op := Go.Op.assign (Go.Operand.tmp 39), type := 4, pos := "exact.go:134", after := #[{ on := 6, ground := Go.Ground.data }, { on := 5, ground := Go.Ground.chain }, { on := 0, ground := Go.Ground.phase }, { on := 1, ground := Go.Ground.phase }, { on := 2, ground := Go.Ground.phase }, { on := 3, ground := Go.Ground.phase }, { on := 4, ground := Go.Ground.phase }, { on := 5, ground := Go.Ground.phase }, { on := 6, ground := Go.Ground.phase }], guard := none }) (v := .bool true) rfl (by kernel_rfl) (by kernel_rfl) (by kernel_rfl) (fun _ _ _ h => h) (Or.inl ⟨by kernel_rfl, by intro wq hSw; (try dsimp only at hSw); clear hHeld; go_simp⟩) hHeld ?_
  simp only [Act.put, List.setIfInBounds_toArray, List.set_cons_zero, List.set_cons_succ]
  refine wpAnyH_done (by kernel_rfl) ?_ _
  clear hHeld
  go_wp2_with fail
  go_must (go_at_call 14)
  refine (JA.out).mono ?_
  clear b0 b1
  rintro e v1 ⟨rfl, ⟨b0, b1⟩, hk⟩
  have JB := hidi (G2.out _ hk)
  clear hk JA
  go_wp2_with fail
  go_must (go_at_call 14)
  refine (JB.out).mono ?_
  clear b0 b1
  rintro e v2 ⟨rfl, hk⟩
  have Z := hidi hk
  clear hk JB
  go_wp2_with fail
  all_goals (try go_ret)
  all_goals exact Z.out
set_option maxRecDepth 100000 in
set_option maxHeartbeats 4000000 in
theorem does_length {w : World} {rb mb bb : Nat} {kind mark : Int} {K1 KA KB : World → Prop} {x : Int} (hkind : kind = 4) (Po : Ending → World → Prop)
    (h1 : Calls Tryz.prog 71 #[.pointer (some ⟨rb, 0, none⟩)] (w.alloc (.cells #[.pointer (some ⟨rb, 0, none⟩), .pointer (some ⟨mb, 0, none⟩)] 60)).drew fun r w' => r = .returned (.int .i64 x) ∧ BP w' rb mb w.heap.size ∧ K1 w')
    (h2 : ∀ W, K1 W → Calls Tryz.prog 72 #[.pointer (some ⟨mb, 0, none⟩)] W fun r w' => r = .returned (.int .i64 x) ∧ BP w' rb mb w.heap.size ∧ KA w')
    (g1 : ∀ W, KA W → Calls Tryz.prog 14 #[.agg #[.pointer (some ⟨rb, 0, none⟩), .pointer (some ⟨mb, 0, none⟩)]] W fun r w' => r = .returned (.bool true) ∧ BP w' rb mb w.heap.size ∧ KB w')
    (g2 : ∀ W, KB W → Calls Tryz.prog 14 #[.agg #[.pointer (some ⟨rb, 0, none⟩), .pointer (some ⟨mb, 0, none⟩)]] W fun r w' => r = .returned (.bool true) ∧ Po (.returned (.bool true)) w') :
    Calls Tryz.prog 15 #[.agg #[.pointer (some ⟨rb, 0, none⟩), .pointer (some ⟨mb, 0, none⟩)], .pointer (some ⟨bb, 0, none⟩), .int .i64 kind, .int .i64 mark] w Po := by
  have H1 := hidi h1
  have H2 := hidi h2
  have G1 := hidi g1
  have G2 := hidi g2
  clear h1 h2 g1 g2
  subst hkind
  have hnew : (w.alloc (.cells #[.pointer (some ⟨rb, 0, none⟩), .pointer (some ⟨mb, 0, none⟩)] 60)).heap[w.heap.size]? = some (.cells #[.pointer (some ⟨rb, 0, none⟩), .pointer (some ⟨mb, 0, none⟩)] 60 (0, 0)) := heap_alloc_new _ _
  have b0 : (w.alloc (.cells #[.pointer (some ⟨rb, 0, none⟩), .pointer (some ⟨mb, 0, none⟩)] 60)).cell? ⟨w.heap.size, 0, none⟩ = some (.pointer (some ⟨rb, 0, none⟩)) := cells_at hnew rfl
  have b1 : (w.alloc (.cells #[.pointer (some ⟨rb, 0, none⟩), .pointer (some ⟨mb, 0, none⟩)] 60)).cell? ⟨w.heap.size, 1, none⟩ = some (.pointer (some ⟨mb, 0, none⟩)) := cells_at hnew rfl
  clear hnew
  go_enter Tryz.func15, Tryz.ntmps15
  go_wp2_with fail
  refine wp_region_held_drew (S := fun w' => w'.cell? ⟨w.heap.size, 0, none⟩ = some (.pointer (some ⟨rb, 0, none⟩)) ∧ w'.cell? ⟨w.heap.size, 1, none⟩ = some (.pointer (some ⟨mb, 0, none⟩))) (by kernel_rfl) ⟨b0, b1⟩ (fun hHeld => ?_)
  change wpAnyH _ _ _ _ _ 8 #[false, false, false, false, false, false, false, false] _ (World.drew _)
  refine wpAnyH_take (i := 0) (oi := { dst := some 42, op := Go.Op.fieldAddr 60 (Go.Operand.tmp 4) 0, type := 0, pos := "exact.go:136", after := #[], guard := none }) (v := .pointer (some ⟨w.heap.size, 0, none⟩)) rfl (by kernel_rfl) (by kernel_rfl) (by kernel_rfl) (fun _ _ _ h => h) (Or.inl ⟨by kernel_rfl, by intro wq hSw; (try dsimp only at hSw); clear hHeld; go_simp⟩) hHeld ?_
  simp only [Act.put, List.setIfInBounds_toArray, List.set_cons_zero, List.set_cons_succ]
  refine wpAnyH_take (i := 1) (oi := { dst := some 43, op := Go.Op.load 55 (Go.Operand.tmp 42), type := 55, pos := "exact.go:136", after := #[{ on := 0, ground := Go.Ground.data }], guard := none }) (v := .pointer (some ⟨rb, 0, none⟩)) rfl (by kernel_rfl) (by kernel_rfl) (by kernel_rfl) (fun _ _ _ h => h) (Or.inl ⟨by kernel_rfl, by intro wq hSw; (try dsimp only at hSw); clear hHeld; go_simp⟩) hHeld ?_
  simp only [Act.put, List.setIfInBounds_toArray, List.set_cons_zero, List.set_cons_succ]
  refine wpAnyH_take (i := 3) (oi := { dst := some 45, op := Go.Op.fieldAddr 60 (Go.Operand.tmp 4) 1, type := 0, pos := "exact.go:136", after := #[], guard := none }) (v := .pointer (some ⟨w.heap.size, 1, none⟩)) rfl (by kernel_rfl) (by kernel_rfl) (by kernel_rfl) (fun _ _ _ h => h) (Or.inl ⟨by kernel_rfl, by intro wq hSw; (try dsimp only at hSw); clear hHeld; go_simp⟩) hHeld ?_
  simp only [Act.put, List.setIfInBounds_toArray, List.set_cons_zero, List.set_cons_succ]
  refine wpAnyH_take (i := 4) (oi := { dst := some 46, op := Go.Op.load 57 (Go.Operand.tmp 45), type := 57, pos := "exact.go:136", after := #[{ on := 3, ground := Go.Ground.data }], guard := none }) (v := .pointer (some ⟨mb, 0, none⟩)) rfl (by kernel_rfl) (by kernel_rfl) (by kernel_rfl) (fun _ _ _ h => h) (Or.inl ⟨by kernel_rfl, by intro wq hSw; (try dsimp only at hSw); clear hHeld; go_simp⟩) hHeld ?_
  simp only [Act.put, List.setIfInBounds_toArray, List.set_cons_zero, List.set_cons_succ]
  clear b0 b1
  refine wpAnyH_ready (rs := [2]) (by kernel_rfl) (by simp) ?_
  refine AllReadyH.cons (o := { dst := some 44, op := Go.Op.call { callee := Go.Callee.value (Go.Operand.func 71), args := #[Go.Operand.tmp 43], argTypes := #[55] }, type := 3, pos := "exact.go:136", after := #[{ on := 1, ground := Go.Ground.data }], guard := none }) (by rfl) (fun K hK => ?_) AllReadyH.nil
  go_simp
  go_wp2_with (go_at_call 71; refine (H1.out).mono ?_; rintro e w1 ⟨rfl, ⟨b0, b1⟩, hk⟩)
  have J1 := hidi (H2.out _ hk)
  clear hk
  refine hK.out _ _ ⟨b0, b1⟩ (fun hHeld => ?_)
  clear hK K
  (try simp only [Act.put, List.setIfInBounds_toArray, List.set_cons_zero, List.set_cons_succ])
  clear b0 b1
  refine wpAnyH_ready (rs := [5]) (by kernel_rfl) (by simp) ?_
  refine AllReadyH.cons (o := { dst := some 47, op := Go.Op.call { callee := Go.Callee.value (Go.Operand.func 72), args := #[Go.Operand.tmp 46], argTypes := #[57] }, type := 3, pos := "exact.go:136", after := #[{ on := 4, ground := Go.Ground.data }, { on := 2, ground := Go.Ground.chain }], guard := none }) (by rfl) (fun K hK => ?_) AllReadyH.nil
  go_simp
  go_wp2_with (go_at_call 72; refine (J1.out).mono ?_; rintro e w2 ⟨rfl, ⟨b0, b1⟩, hk⟩)
  have JA := hidi (G1.out _ hk)
  clear hk J1
  refine hK.out _ _ ⟨b0, b1⟩ (fun hHeld => ?_)
  clear hK K
  (try simp only [Act.put, List.setIfInBounds_toArray, List.set_cons_zero, List.set_cons_succ])
  refine wpAnyH_take (i := 6) (oi := { dst := some 48, op := Go.Op.binOp Go.BinOp.eql 3 (Go.Operand.tmp 44) (Go.Operand.tmp 47) 3, type := 4, pos := "exact.go:136", after := #[{ on := 2, ground := Go.Ground.data }, { on := 5, ground := Go.Ground.data }], guard := none }) (v := .bool true) rfl (by kernel_rfl) (by kernel_rfl) (by kernel_rfl) (fun _ _ _ h => h) (Or.inl ⟨by kernel_rfl, by intro wq hSw; (try dsimp only at hSw); clear hHeld; go_simp⟩) hHeld ?_
  simp only [Act.put, List.setIfInBounds_toArray, List.set_cons_zero, List.set_cons_succ]
  refine wpAnyH_take (i := 7) (oi := { dst := some 9, op := Go.Op.assign (Go.Operand.tmp 48), type := 4, pos := "exact.go:136", after := #[{ on := 6, ground := Go.Ground.data }, { on := 5, ground := Go.Ground.chain }, { on := 0, ground := Go.Ground.phase }, { on := 1, ground := Go.Ground.phase }, { on := 2, ground := Go.Ground.phase }, { on := 3, ground := Go.Ground.phase }, { on := 4, ground := Go.Ground.phase }, { on := 5, ground := Go.Ground.phase }, { on := 6, ground := Go.Ground.phase }], guard := none }) (v := .bool true) rfl (by kernel_rfl) (by kernel_rfl) (by kernel_rfl) (fun _ _ _ h => h) (Or.inl ⟨by kernel_rfl, by intro wq hSw; (try dsimp only at hSw); clear hHeld; go_simp⟩) hHeld ?_
  simp only [Act.put, List.setIfInBounds_toArray, List.set_cons_zero, List.set_cons_succ]
  refine wpAnyH_done (by kernel_rfl) ?_ _
  clear hHeld
  go_wp2_with fail
  go_must (go_at_call 14)
  refine (JA.out).mono ?_
  clear b0 b1
  rintro e v1 ⟨rfl, ⟨b0, b1⟩, hk⟩
  have JB := hidi (G2.out _ hk)
  clear hk JA
  go_wp2_with fail
  go_must (go_at_call 14)
  refine (JB.out).mono ?_
  clear b0 b1
  rintro e v2 ⟨rfl, hk⟩
  have Z := hidi hk
  clear hk JB
  go_wp2_with fail
  all_goals (try go_ret)
  all_goals exact Z.out
set_option maxRecDepth 100000 in
set_option maxHeartbeats 4000000 in
theorem does_text {w : World} {rb mb bb : Nat} {kind mark : Int} {K1 KA KB : World → Prop} {x : ByteArray} (hkind : kind = 5) (Po : Ending → World → Prop)
    (h1 : Calls Tryz.prog 73 #[.pointer (some ⟨rb, 0, none⟩)] (w.alloc (.cells #[.pointer (some ⟨rb, 0, none⟩), .pointer (some ⟨mb, 0, none⟩)] 60)).drew fun r w' => r = .returned (.string x) ∧ BP w' rb mb w.heap.size ∧ K1 w')
    (h2 : ∀ W, K1 W → Calls Tryz.prog 74 #[.pointer (some ⟨mb, 0, none⟩)] W fun r w' => r = .returned (.string x) ∧ BP w' rb mb w.heap.size ∧ KA w')
    (g1 : ∀ W, KA W → Calls Tryz.prog 14 #[.agg #[.pointer (some ⟨rb, 0, none⟩), .pointer (some ⟨mb, 0, none⟩)]] W fun r w' => r = .returned (.bool true) ∧ BP w' rb mb w.heap.size ∧ KB w')
    (g2 : ∀ W, KB W → Calls Tryz.prog 14 #[.agg #[.pointer (some ⟨rb, 0, none⟩), .pointer (some ⟨mb, 0, none⟩)]] W fun r w' => r = .returned (.bool true) ∧ Po (.returned (.bool true)) w') :
    Calls Tryz.prog 15 #[.agg #[.pointer (some ⟨rb, 0, none⟩), .pointer (some ⟨mb, 0, none⟩)], .pointer (some ⟨bb, 0, none⟩), .int .i64 kind, .int .i64 mark] w Po := by
  have H1 := hidi h1
  have H2 := hidi h2
  have G1 := hidi g1
  have G2 := hidi g2
  clear h1 h2 g1 g2
  subst hkind
  have hnew : (w.alloc (.cells #[.pointer (some ⟨rb, 0, none⟩), .pointer (some ⟨mb, 0, none⟩)] 60)).heap[w.heap.size]? = some (.cells #[.pointer (some ⟨rb, 0, none⟩), .pointer (some ⟨mb, 0, none⟩)] 60 (0, 0)) := heap_alloc_new _ _
  have b0 : (w.alloc (.cells #[.pointer (some ⟨rb, 0, none⟩), .pointer (some ⟨mb, 0, none⟩)] 60)).cell? ⟨w.heap.size, 0, none⟩ = some (.pointer (some ⟨rb, 0, none⟩)) := cells_at hnew rfl
  have b1 : (w.alloc (.cells #[.pointer (some ⟨rb, 0, none⟩), .pointer (some ⟨mb, 0, none⟩)] 60)).cell? ⟨w.heap.size, 1, none⟩ = some (.pointer (some ⟨mb, 0, none⟩)) := cells_at hnew rfl
  clear hnew
  go_enter Tryz.func15, Tryz.ntmps15
  go_wp2_with fail
  refine wp_region_held_drew (S := fun w' => w'.cell? ⟨w.heap.size, 0, none⟩ = some (.pointer (some ⟨rb, 0, none⟩)) ∧ w'.cell? ⟨w.heap.size, 1, none⟩ = some (.pointer (some ⟨mb, 0, none⟩))) (by kernel_rfl) ⟨b0, b1⟩ (fun hHeld => ?_)
  change wpAnyH _ _ _ _ _ 8 #[false, false, false, false, false, false, false, false] _ (World.drew _)
  refine wpAnyH_take (i := 0) (oi := { dst := some 51, op := Go.Op.fieldAddr 60 (Go.Operand.tmp 4) 0, type := 0, pos := "exact.go:138", after := #[], guard := none }) (v := .pointer (some ⟨w.heap.size, 0, none⟩)) rfl (by kernel_rfl) (by kernel_rfl) (by kernel_rfl) (fun _ _ _ h => h) (Or.inl ⟨by kernel_rfl, by intro wq hSw; (try dsimp only at hSw); clear hHeld; go_simp⟩) hHeld ?_
  simp only [Act.put, List.setIfInBounds_toArray, List.set_cons_zero, List.set_cons_succ]
  refine wpAnyH_take (i := 1) (oi := { dst := some 52, op := Go.Op.load 55 (Go.Operand.tmp 51), type := 55, pos := "exact.go:138", after := #[{ on := 0, ground := Go.Ground.data }], guard := none }) (v := .pointer (some ⟨rb, 0, none⟩)) rfl (by kernel_rfl) (by kernel_rfl) (by kernel_rfl) (fun _ _ _ h => h) (Or.inl ⟨by kernel_rfl, by intro wq hSw; (try dsimp only at hSw); clear hHeld; go_simp⟩) hHeld ?_
  simp only [Act.put, List.setIfInBounds_toArray, List.set_cons_zero, List.set_cons_succ]
  refine wpAnyH_take (i := 3) (oi := { dst := some 54, op := Go.Op.fieldAddr 60 (Go.Operand.tmp 4) 1, type := 0, pos := "exact.go:138", after := #[], guard := none }) (v := .pointer (some ⟨w.heap.size, 1, none⟩)) rfl (by kernel_rfl) (by kernel_rfl) (by kernel_rfl) (fun _ _ _ h => h) (Or.inl ⟨by kernel_rfl, by intro wq hSw; (try dsimp only at hSw); clear hHeld; go_simp⟩) hHeld ?_
  simp only [Act.put, List.setIfInBounds_toArray, List.set_cons_zero, List.set_cons_succ]
  refine wpAnyH_take (i := 4) (oi := { dst := some 55, op := Go.Op.load 57 (Go.Operand.tmp 54), type := 57, pos := "exact.go:138", after := #[{ on := 3, ground := Go.Ground.data }], guard := none }) (v := .pointer (some ⟨mb, 0, none⟩)) rfl (by kernel_rfl) (by kernel_rfl) (by kernel_rfl) (fun _ _ _ h => h) (Or.inl ⟨by kernel_rfl, by intro wq hSw; (try dsimp only at hSw); clear hHeld; go_simp⟩) hHeld ?_
  simp only [Act.put, List.setIfInBounds_toArray, List.set_cons_zero, List.set_cons_succ]
  clear b0 b1
  refine wpAnyH_ready (rs := [2]) (by kernel_rfl) (by simp) ?_
  refine AllReadyH.cons (o := { dst := some 53, op := Go.Op.call { callee := Go.Callee.value (Go.Operand.func 73), args := #[Go.Operand.tmp 52], argTypes := #[55] }, type := 9, pos := "exact.go:138", after := #[{ on := 1, ground := Go.Ground.data }], guard := none }) (by rfl) (fun K hK => ?_) AllReadyH.nil
  go_simp
  go_wp2_with (go_at_call 73; refine (H1.out).mono ?_; rintro e w1 ⟨rfl, ⟨b0, b1⟩, hk⟩)
  have J1 := hidi (H2.out _ hk)
  clear hk
  refine hK.out _ _ ⟨b0, b1⟩ (fun hHeld => ?_)
  clear hK K
  (try simp only [Act.put, List.setIfInBounds_toArray, List.set_cons_zero, List.set_cons_succ])
  clear b0 b1
  refine wpAnyH_ready (rs := [5]) (by kernel_rfl) (by simp) ?_
  refine AllReadyH.cons (o := { dst := some 56, op := Go.Op.call { callee := Go.Callee.value (Go.Operand.func 74), args := #[Go.Operand.tmp 55], argTypes := #[57] }, type := 9, pos := "exact.go:138", after := #[{ on := 4, ground := Go.Ground.data }, { on := 2, ground := Go.Ground.chain }], guard := none }) (by rfl) (fun K hK => ?_) AllReadyH.nil
  go_simp
  go_wp2_with (go_at_call 74; refine (J1.out).mono ?_; rintro e w2 ⟨rfl, ⟨b0, b1⟩, hk⟩)
  have JA := hidi (G1.out _ hk)
  clear hk J1
  refine hK.out _ _ ⟨b0, b1⟩ (fun hHeld => ?_)
  clear hK K
  (try simp only [Act.put, List.setIfInBounds_toArray, List.set_cons_zero, List.set_cons_succ])
  refine wpAnyH_take (i := 6) (oi := { dst := some 57, op := Go.Op.binOp Go.BinOp.eql 9 (Go.Operand.tmp 53) (Go.Operand.tmp 56) 9, type := 4, pos := "exact.go:138", after := #[{ on := 2, ground := Go.Ground.data }, { on := 5, ground := Go.Ground.data }], guard := none }) (v := .bool true) rfl (by kernel_rfl) (by kernel_rfl) (by kernel_rfl) (fun _ _ _ h => h) (Or.inl ⟨by kernel_rfl, by intro wq hSw; (try dsimp only at hSw); clear hHeld; go_simp⟩) hHeld ?_
  simp only [Act.put, List.setIfInBounds_toArray, List.set_cons_zero, List.set_cons_succ]
  refine wpAnyH_take (i := 7) (oi := { dst := some 9, op := Go.Op.assign (Go.Operand.tmp 57), type := 4, pos := "exact.go:138", after := #[{ on := 6, ground := Go.Ground.data }, { on := 5, ground := Go.Ground.chain }, { on := 0, ground := Go.Ground.phase }, { on := 1, ground := Go.Ground.phase }, { on := 2, ground := Go.Ground.phase }, { on := 3, ground := Go.Ground.phase }, { on := 4, ground := Go.Ground.phase }, { on := 5, ground := Go.Ground.phase }, { on := 6, ground := Go.Ground.phase }], guard := none }) (v := .bool true) rfl (by kernel_rfl) (by kernel_rfl) (by kernel_rfl) (fun _ _ _ h => h) (Or.inl ⟨by kernel_rfl, by intro wq hSw; (try dsimp only at hSw); clear hHeld; go_simp⟩) hHeld ?_
  simp only [Act.put, List.setIfInBounds_toArray, List.set_cons_zero, List.set_cons_succ]
  refine wpAnyH_done (by kernel_rfl) ?_ _
  clear hHeld
  go_wp2_with fail
  go_must (go_at_call 14)
  refine (JA.out).mono ?_
  clear b0 b1
  rintro e v1 ⟨rfl, ⟨b0, b1⟩, hk⟩
  have JB := hidi (G2.out _ hk)
  clear hk JA
  go_wp2_with fail
  go_must (go_at_call 14)
  refine (JB.out).mono ?_
  clear b0 b1
  rintro e v2 ⟨rfl, hk⟩
  have Z := hidi hk
  clear hk JB
  go_wp2_with fail
  all_goals (try go_ret)
  all_goals exact Z.out
set_option maxRecDepth 100000 in
set_option maxHeartbeats 4000000 in
theorem does_data {w : World} {rb mb bb : Nat} {kind mark : Int} {K1 : Option Addr → Nat → Nat → World → Prop} {K2 : Option Addr → Nat → Nat → Option Addr → Nat → Nat → World → Prop} {K3 : Option Addr → Nat → Nat → World → Prop} {KA KB : World → Prop} (hkind : kind = 6) (Po : Ending → World → Prop)
    (h1 : Calls Tryz.prog 75 #[.pointer (some ⟨rb, 0, none⟩)] (w.alloc (.cells #[.pointer (some ⟨rb, 0, none⟩), .pointer (some ⟨mb, 0, none⟩)] 60)).drew fun r w' => ∃ a m c, r = .returned (.slice a m c) ∧ BP w' rb mb w.heap.size ∧ K1 a m c w')
    (h2 : ∀ a m c W, K1 a m c W → Calls Tryz.prog 76 #[.pointer (some ⟨mb, 0, none⟩)] W fun r w' => ∃ a' m' c', r = .returned (.slice a' m' c') ∧ BP w' rb mb w.heap.size ∧ K2 a m c a' m' c' w')
    (h3 : ∀ a m c a' m' c' W, K2 a m c a' m' c' W → Calls Tryz.prog 8 #[.slice a m c, .slice a' m' c'] W fun r w' => r = .returned (.bool true) ∧ BP w' rb mb w.heap.size ∧ K3 a m c w')
    (h4 : ∀ a m c W, K3 a m c W → Calls Tryz.prog 28 #[.pointer (some ⟨bb, 0, none⟩), .slice a m c, .int .i64 mark] W fun r w' => r = .returned (.tuple #[]) ∧ BP w' rb mb w.heap.size ∧ KA w')
    (g1 : ∀ W, KA W → Calls Tryz.prog 14 #[.agg #[.pointer (some ⟨rb, 0, none⟩), .pointer (some ⟨mb, 0, none⟩)]] W fun r w' => r = .returned (.bool true) ∧ BP w' rb mb w.heap.size ∧ KB w')
    (g2 : ∀ W, KB W → Calls Tryz.prog 14 #[.agg #[.pointer (some ⟨rb, 0, none⟩), .pointer (some ⟨mb, 0, none⟩)]] W fun r w' => r = .returned (.bool true) ∧ Po (.returned (.bool true)) w') :
    Calls Tryz.prog 15 #[.agg #[.pointer (some ⟨rb, 0, none⟩), .pointer (some ⟨mb, 0, none⟩)], .pointer (some ⟨bb, 0, none⟩), .int .i64 kind, .int .i64 mark] w Po := by
  have H1 := hidi h1
  have H2 := hidi h2
  have H3 := hidi h3
  have H4 := hidi h4
  have G1 := hidi g1
  have G2 := hidi g2
  clear h1 h2 h3 h4 g1 g2
  subst hkind
  have hnew : (w.alloc (.cells #[.pointer (some ⟨rb, 0, none⟩), .pointer (some ⟨mb, 0, none⟩)] 60)).heap[w.heap.size]? = some (.cells #[.pointer (some ⟨rb, 0, none⟩), .pointer (some ⟨mb, 0, none⟩)] 60 (0, 0)) := heap_alloc_new _ _
  have b0 : (w.alloc (.cells #[.pointer (some ⟨rb, 0, none⟩), .pointer (some ⟨mb, 0, none⟩)] 60)).cell? ⟨w.heap.size, 0, none⟩ = some (.pointer (some ⟨rb, 0, none⟩)) := cells_at hnew rfl
  have b1 : (w.alloc (.cells #[.pointer (some ⟨rb, 0, none⟩), .pointer (some ⟨mb, 0, none⟩)] 60)).cell? ⟨w.heap.size, 1, none⟩ = some (.pointer (some ⟨mb, 0, none⟩)) := cells_at hnew rfl
  clear hnew
  go_enter Tryz.func15, Tryz.ntmps15
  go_wp2_with fail
  refine wp_region_held_drew (S := fun w' => w'.cell? ⟨w.heap.size, 0, none⟩ = some (.pointer (some ⟨rb, 0, none⟩)) ∧ w'.cell? ⟨w.heap.size, 1, none⟩ = some (.pointer (some ⟨mb, 0, none⟩))) (by kernel_rfl) ⟨b0, b1⟩ (fun hHeld => ?_)
  change wpAnyH _ _ _ _ _ 8 #[false, false, false, false, false, false, false, false] _ (World.drew _)
  refine wpAnyH_take (i := 0) (oi := { dst := some 63, op := Go.Op.fieldAddr 60 (Go.Operand.tmp 4) 0, type := 0, pos := "exact.go:142", after := #[], guard := none }) (v := .pointer (some ⟨w.heap.size, 0, none⟩)) rfl (by kernel_rfl) (by kernel_rfl) (by kernel_rfl) (fun _ _ _ h => h) (Or.inl ⟨by kernel_rfl, by intro wq hSw; (try dsimp only at hSw); clear hHeld; go_simp⟩) hHeld ?_
  simp only [Act.put, List.setIfInBounds_toArray, List.set_cons_zero, List.set_cons_succ]
  refine wpAnyH_take (i := 1) (oi := { dst := some 64, op := Go.Op.load 55 (Go.Operand.tmp 63), type := 55, pos := "exact.go:142", after := #[{ on := 0, ground := Go.Ground.data }], guard := none }) (v := .pointer (some ⟨rb, 0, none⟩)) rfl (by kernel_rfl) (by kernel_rfl) (by kernel_rfl) (fun _ _ _ h => h) (Or.inl ⟨by kernel_rfl, by intro wq hSw; (try dsimp only at hSw); clear hHeld; go_simp⟩) hHeld ?_
  simp only [Act.put, List.setIfInBounds_toArray, List.set_cons_zero, List.set_cons_succ]
  refine wpAnyH_take (i := 3) (oi := { dst := some 66, op := Go.Op.fieldAddr 60 (Go.Operand.tmp 4) 1, type := 0, pos := "exact.go:142", after := #[], guard := none }) (v := .pointer (some ⟨w.heap.size, 1, none⟩)) rfl (by kernel_rfl) (by kernel_rfl) (by kernel_rfl) (fun _ _ _ h => h) (Or.inl ⟨by kernel_rfl, by intro wq hSw; (try dsimp only at hSw); clear hHeld; go_simp⟩) hHeld ?_
  simp only [Act.put, List.setIfInBounds_toArray, List.set_cons_zero, List.set_cons_succ]
  refine wpAnyH_take (i := 4) (oi := { dst := some 67, op := Go.Op.load 57 (Go.Operand.tmp 66), type := 57, pos := "exact.go:142", after := #[{ on := 3, ground := Go.Ground.data }], guard := none }) (v := .pointer (some ⟨mb, 0, none⟩)) rfl (by kernel_rfl) (by kernel_rfl) (by kernel_rfl) (fun _ _ _ h => h) (Or.inl ⟨by kernel_rfl, by intro wq hSw; (try dsimp only at hSw); clear hHeld; go_simp⟩) hHeld ?_
  simp only [Act.put, List.setIfInBounds_toArray, List.set_cons_zero, List.set_cons_succ]
  clear b0 b1
  refine wpAnyH_ready (rs := [2]) (by kernel_rfl) (by simp) ?_
  refine AllReadyH.cons (o := { dst := some 65, op := Go.Op.call { callee := Go.Callee.value (Go.Operand.func 75), args := #[Go.Operand.tmp 64], argTypes := #[55] }, type := 22, pos := "exact.go:142", after := #[{ on := 1, ground := Go.Ground.data }], guard := none }) (by rfl) (fun K hK => ?_) AllReadyH.nil
  go_simp
  go_wp2_with (go_at_call 75; refine (H1.out).mono ?_; rintro e w1 ⟨a, m, c, rfl, ⟨b0, b1⟩, hk⟩)
  have J1 := hidi (H2.out _ _ _ _ hk)
  clear hk
  refine hK.out _ _ ⟨b0, b1⟩ (fun hHeld => ?_)
  clear hK K
  (try simp only [Act.put, List.setIfInBounds_toArray, List.set_cons_zero, List.set_cons_succ])
  clear b0 b1
  refine wpAnyH_ready (rs := [5]) (by kernel_rfl) (by simp) ?_
  refine AllReadyH.cons (o := { dst := some 68, op := Go.Op.call { callee := Go.Callee.value (Go.Operand.func 76), args := #[Go.Operand.tmp 67], argTypes := #[57] }, type := 22, pos := "exact.go:142", after := #[{ on := 4, ground := Go.Ground.data }, { on := 2, ground := Go.Ground.chain }], guard := none }) (by rfl) (fun K hK => ?_) AllReadyH.nil
  go_simp
  go_wp2_with (go_at_call 76; refine (J1.out).mono ?_; rintro e w2 ⟨a', m', c', rfl, ⟨b0, b1⟩, hk⟩)
  have J2 := hidi (H3.out _ _ _ _ _ _ _ hk)
  clear hk J1
  refine hK.out _ _ ⟨b0, b1⟩ (fun hHeld => ?_)
  clear hK K
  (try simp only [Act.put, List.setIfInBounds_toArray, List.set_cons_zero, List.set_cons_succ])
  refine wpAnyH_take (i := 6) (oi := { dst := some 10, op := Go.Op.assign (Go.Operand.tmp 65), type := 22, pos := "exact.go:142", after := #[{ on := 2, ground := Go.Ground.data }, { on := 5, ground := Go.Ground.chain }, { on := 0, ground := Go.Ground.phase }, { on := 1, ground := Go.Ground.phase }, { on := 2, ground := Go.Ground.phase }, { on := 3, ground := Go.Ground.textOnly Go.Departure.lateStores }, { on := 4, ground := Go.Ground.textOnly Go.Departure.lateStores }, { on := 5, ground := Go.Ground.textOnly Go.Departure.lateStoresUnsure }], guard := none }) (v := .slice a m c) rfl (by kernel_rfl) (by kernel_rfl) (by kernel_rfl) (fun _ _ _ h => h) (Or.inl ⟨by kernel_rfl, by intro wq hSw; (try dsimp only at hSw); clear hHeld; go_simp⟩) hHeld ?_
  simp only [Act.put, List.setIfInBounds_toArray, List.set_cons_zero, List.set_cons_succ]
  refine wpAnyH_take (i := 7) (oi := { dst := some 11, op := Go.Op.assign (Go.Operand.tmp 68), type := 22, pos := "exact.go:142", after := #[{ on := 5, ground := Go.Ground.data }, { on := 6, ground := Go.Ground.chain }, { on := 0, ground := Go.Ground.phase }, { on := 1, ground := Go.Ground.phase }, { on := 2, ground := Go.Ground.phase }, { on := 3, ground := Go.Ground.phase }, { on := 4, ground := Go.Ground.phase }, { on := 5, ground := Go.Ground.phase }, { on := 6, ground := Go.Ground.phase }], guard := none }) (v := (.slice a' m' c')) rfl (by kernel_rfl) (by kernel_rfl) (by kernel_rfl) (fun _ _ _ h => h) (Or.inl ⟨by kernel_rfl, by intro wq hSw; (try dsimp only at hSw); clear hHeld; go_simp⟩) hHeld ?_
  simp only [Act.put, List.setIfInBounds_toArray, List.set_cons_zero, List.set_cons_succ]
  refine wpAnyH_done (by kernel_rfl) ?_ _
  clear hHeld
  go_wp2_with fail
  go_must (go_at_call 8)
  refine (J2.out).mono ?_
  clear b0 b1
  rintro e w3 ⟨rfl, ⟨b0, b1⟩, hk⟩
  have J3 := hidi (H4.out _ _ _ _ hk)
  clear hk J2
  go_wp2_with fail
  go_must (go_at_call 28)
  refine (J3.out).mono ?_
  clear b0 b1
  rintro e w4 ⟨rfl, ⟨b0, b1⟩, hk⟩
  have JA := hidi (G1.out _ hk)
  clear hk J3
  go_wp2_with fail
  go_must (go_at_call 14)
  refine (JA.out).mono ?_
  clear b0 b1
  rintro e v1 ⟨rfl, ⟨b0, b1⟩, hk⟩
  have JB := hidi (G2.out _ hk)
  clear hk JA
  go_wp2_with fail
  go_must (go_at_call 14)
  refine (JB.out).mono ?_
  clear b0 b1
  rintro e v2 ⟨rfl, hk⟩
  have Z := hidi hk
  clear hk JB
  go_wp2_with fail
  all_goals (try go_ret)
  all_goals exact Z.out
set_option maxRecDepth 100000 in
set_option maxHeartbeats 4000000 in
theorem does_rest {w : World} {rb mb bb : Nat} {kind mark : Int} {K1 : Option Addr → Nat → Nat → World → Prop} {K2 : Option Addr → Nat → Nat → Option Addr → Nat → Nat → World → Prop} {K3 : Option Addr → Nat → Nat → World → Prop} {KA KB : World → Prop} (hkind : kind = 7) (Po : Ending → World → Prop)
    (h1 : Calls Tryz.prog 77 #[.pointer (some ⟨rb, 0, none⟩)] (w.alloc (.cells #[.pointer (some ⟨rb, 0, none⟩), .pointer (some ⟨mb, 0, none⟩)] 60)).drew fun r w' => ∃ a m c, r = .returned (.slice a m c) ∧ BP w' rb mb w.heap.size ∧ K1 a m c w')
    (h2 : ∀ a m c W, K1 a m c W → Calls Tryz.prog 78 #[.pointer (some ⟨mb, 0, none⟩)] W fun r w' => ∃ a' m' c', r = .returned (.slice a' m' c') ∧ BP w' rb mb w.heap.size ∧ K2 a m c a' m' c' w')
    (h3 : ∀ a m c a' m' c' W, K2 a m c a' m' c' W → Calls Tryz.prog 8 #[.slice a m c, .slice a' m' c'] W fun r w' => r = .returned (.bool true) ∧ BP w' rb mb w.heap.size ∧ K3 a m c w')
    (h4 : ∀ a m c W, K3 a m c W → Calls Tryz.prog 28 #[.pointer (some ⟨bb, 0, none⟩), .slice a m c, .int .i64 mark] W fun r w' => r = .returned (.tuple #[]) ∧ BP w' rb mb w.heap.size ∧ KA w')
    (g1 : ∀ W, KA W → Calls Tryz.prog 14 #[.agg #[.pointer (some ⟨rb, 0, none⟩), .pointer (some ⟨mb, 0, none⟩)]] W fun r w' => r = .returned (.bool true) ∧ BP w' rb mb w.heap.size ∧ KB w')
    (g2 : ∀ W, KB W → Calls Tryz.prog 14 #[.agg #[.pointer (some ⟨rb, 0, none⟩), .pointer (some ⟨mb, 0, none⟩)]] W fun r w' => r = .returned (.bool true) ∧ Po (.returned (.bool true)) w') :
    Calls Tryz.prog 15 #[.agg #[.pointer (some ⟨rb, 0, none⟩), .pointer (some ⟨mb, 0, none⟩)], .pointer (some ⟨bb, 0, none⟩), .int .i64 kind, .int .i64 mark] w Po := by
  have H1 := hidi h1
  have H2 := hidi h2
  have H3 := hidi h3
  have H4 := hidi h4
  have G1 := hidi g1
  have G2 := hidi g2
  clear h1 h2 h3 h4 g1 g2
  subst hkind
  have hnew : (w.alloc (.cells #[.pointer (some ⟨rb, 0, none⟩), .pointer (some ⟨mb, 0, none⟩)] 60)).heap[w.heap.size]? = some (.cells #[.pointer (some ⟨rb, 0, none⟩), .pointer (some ⟨mb, 0, none⟩)] 60 (0, 0)) := heap_alloc_new _ _
  have b0 : (w.alloc (.cells #[.pointer (some ⟨rb, 0, none⟩), .pointer (some ⟨mb, 0, none⟩)] 60)).cell? ⟨w.heap.size, 0, none⟩ = some (.pointer (some ⟨rb, 0, none⟩)) := cells_at hnew rfl
  have b1 : (w.alloc (.cells #[.pointer (some ⟨rb, 0, none⟩), .pointer (some ⟨mb, 0, none⟩)] 60)).cell? ⟨w.heap.size, 1, none⟩ = some (.pointer (some ⟨mb, 0, none⟩)) := cells_at hnew rfl
  clear hnew
  go_enter Tryz.func15, Tryz.ntmps15
  go_wp2_with fail
  refine wp_region_held_drew (S := fun w' => w'.cell? ⟨w.heap.size, 0, none⟩ = some (.pointer (some ⟨rb, 0, none⟩)) ∧ w'.cell? ⟨w.heap.size, 1, none⟩ = some (.pointer (some ⟨mb, 0, none⟩))) (by kernel_rfl) ⟨b0, b1⟩ (fun hHeld => ?_)
  change wpAnyH _ _ _ _ _ 8 #[false, false, false, false, false, false, false, false] _ (World.drew _)
  refine wpAnyH_take (i := 0) (oi := { dst := some 69, op := Go.Op.fieldAddr 60 (Go.Operand.tmp 4) 0, type := 0, pos := "exact.go:144", after := #[], guard := none }) (v := .pointer (some ⟨w.heap.size, 0, none⟩)) rfl (by kernel_rfl) (by kernel_rfl) (by kernel_rfl) (fun _ _ _ h => h) (Or.inl ⟨by kernel_rfl, by intro wq hSw; (try dsimp only at hSw); clear hHeld; go_simp⟩) hHeld ?_
  simp only [Act.put, List.setIfInBounds_toArray, List.set_cons_zero, List.set_cons_succ]
  refine wpAnyH_take (i := 1) (oi := { dst := some 70, op := Go.Op.load 55 (Go.Operand.tmp 69), type := 55, pos := "exact.go:144", after := #[{ on := 0, ground := Go.Ground.data }], guard := none }) (v := .pointer (some ⟨rb, 0, none⟩)) rfl (by kernel_rfl) (by kernel_rfl) (by kernel_rfl) (fun _ _ _ h => h) (Or.inl ⟨by kernel_rfl, by intro wq hSw; (try dsimp only at hSw); clear hHeld; go_simp⟩) hHeld ?_
  simp only [Act.put, List.setIfInBounds_toArray, List.set_cons_zero, List.set_cons_succ]
  refine wpAnyH_take (i := 3) (oi := { dst := some 72, op := Go.Op.fieldAddr 60 (Go.Operand.tmp 4) 1, type := 0, pos := "exact.go:144", after := #[], guard := none }) (v := .pointer (some ⟨w.heap.size, 1, none⟩)) rfl (by kernel_rfl) (by kernel_rfl) (by kernel_rfl) (fun _ _ _ h => h) (Or.inl ⟨by kernel_rfl, by intro wq hSw; (try dsimp only at hSw); clear hHeld; go_simp⟩) hHeld ?_
  simp only [Act.put, List.setIfInBounds_toArray, List.set_cons_zero, List.set_cons_succ]
  refine wpAnyH_take (i := 4) (oi := { dst := some 73, op := Go.Op.load 57 (Go.Operand.tmp 72), type := 57, pos := "exact.go:144", after := #[{ on := 3, ground := Go.Ground.data }], guard := none }) (v := .pointer (some ⟨mb, 0, none⟩)) rfl (by kernel_rfl) (by kernel_rfl) (by kernel_rfl) (fun _ _ _ h => h) (Or.inl ⟨by kernel_rfl, by intro wq hSw; (try dsimp only at hSw); clear hHeld; go_simp⟩) hHeld ?_
  simp only [Act.put, List.setIfInBounds_toArray, List.set_cons_zero, List.set_cons_succ]
  clear b0 b1
  refine wpAnyH_ready (rs := [2]) (by kernel_rfl) (by simp) ?_
  refine AllReadyH.cons (o := { dst := some 71, op := Go.Op.call { callee := Go.Callee.value (Go.Operand.func 77), args := #[Go.Operand.tmp 70], argTypes := #[55] }, type := 22, pos := "exact.go:144", after := #[{ on := 1, ground := Go.Ground.data }], guard := none }) (by rfl) (fun K hK => ?_) AllReadyH.nil
  go_simp
  go_wp2_with (go_at_call 77; refine (H1.out).mono ?_; rintro e w1 ⟨a, m, c, rfl, ⟨b0, b1⟩, hk⟩)
  have J1 := hidi (H2.out _ _ _ _ hk)
  clear hk
  refine hK.out _ _ ⟨b0, b1⟩ (fun hHeld => ?_)
  clear hK K
  (try simp only [Act.put, List.setIfInBounds_toArray, List.set_cons_zero, List.set_cons_succ])
  clear b0 b1
  refine wpAnyH_ready (rs := [5]) (by kernel_rfl) (by simp) ?_
  refine AllReadyH.cons (o := { dst := some 74, op := Go.Op.call { callee := Go.Callee.value (Go.Operand.func 78), args := #[Go.Operand.tmp 73], argTypes := #[57] }, type := 22, pos := "exact.go:144", after := #[{ on := 4, ground := Go.Ground.data }, { on := 2, ground := Go.Ground.chain }], guard := none }) (by rfl) (fun K hK => ?_) AllReadyH.nil
  go_simp
  go_wp2_with (go_at_call 78; refine (J1.out).mono ?_; rintro e w2 ⟨a', m', c', rfl, ⟨b0, b1⟩, hk⟩)
  have J2 := hidi (H3.out _ _ _ _ _ _ _ hk)
  clear hk J1
  refine hK.out _ _ ⟨b0, b1⟩ (fun hHeld => ?_)
  clear hK K
  (try simp only [Act.put, List.setIfInBounds_toArray, List.set_cons_zero, List.set_cons_succ])
  refine wpAnyH_take (i := 6) (oi := { dst := some 10, op := Go.Op.assign (Go.Operand.tmp 71), type := 22, pos := "exact.go:144", after := #[{ on := 2, ground := Go.Ground.data }, { on := 5, ground := Go.Ground.chain }, { on := 0, ground := Go.Ground.phase }, { on := 1, ground := Go.Ground.phase }, { on := 2, ground := Go.Ground.phase }, { on := 3, ground := Go.Ground.textOnly Go.Departure.lateStores }, { on := 4, ground := Go.Ground.textOnly Go.Departure.lateStores }, { on := 5, ground := Go.Ground.textOnly Go.Departure.lateStoresUnsure }], guard := none }) (v := .slice a m c) rfl (by kernel_rfl) (by kernel_rfl) (by kernel_rfl) (fun _ _ _ h => h) (Or.inl ⟨by kernel_rfl, by intro wq hSw; (try dsimp only at hSw); clear hHeld; go_simp⟩) hHeld ?_
  simp only [Act.put, List.setIfInBounds_toArray, List.set_cons_zero, List.set_cons_succ]
  refine wpAnyH_take (i := 7) (oi := { dst := some 11, op := Go.Op.assign (Go.Operand.tmp 74), type := 22, pos := "exact.go:144", after := #[{ on := 5, ground := Go.Ground.data }, { on := 6, ground := Go.Ground.chain }, { on := 0, ground := Go.Ground.phase }, { on := 1, ground := Go.Ground.phase }, { on := 2, ground := Go.Ground.phase }, { on := 3, ground := Go.Ground.phase }, { on := 4, ground := Go.Ground.phase }, { on := 5, ground := Go.Ground.phase }, { on := 6, ground := Go.Ground.phase }], guard := none }) (v := (.slice a' m' c')) rfl (by kernel_rfl) (by kernel_rfl) (by kernel_rfl) (fun _ _ _ h => h) (Or.inl ⟨by kernel_rfl, by intro wq hSw; (try dsimp only at hSw); clear hHeld; go_simp⟩) hHeld ?_
  simp only [Act.put, List.setIfInBounds_toArray, List.set_cons_zero, List.set_cons_succ]
  refine wpAnyH_done (by kernel_rfl) ?_ _
  clear hHeld
  go_wp2_with fail
  go_must (go_at_call 8)
  refine (J2.out).mono ?_
  clear b0 b1
  rintro e w3 ⟨rfl, ⟨b0, b1⟩, hk⟩
  have J3 := hidi (H4.out _ _ _ _ hk)
  clear hk J2
  go_wp2_with fail
  go_must (go_at_call 28)
  refine (J3.out).mono ?_
  clear b0 b1
  rintro e w4 ⟨rfl, ⟨b0, b1⟩, hk⟩
  have JA := hidi (G1.out _ hk)
  clear hk J3
  go_wp2_with fail
  go_must (go_at_call 14)
  refine (JA.out).mono ?_
  clear b0 b1
  rintro e v1 ⟨rfl, ⟨b0, b1⟩, hk⟩
  have JB := hidi (G2.out _ hk)
  clear hk JA
  go_wp2_with fail
  go_must (go_at_call 14)
  refine (JB.out).mono ?_
  clear b0 b1
  rintro e v2 ⟨rfl, hk⟩
  have Z := hidi hk
  clear hk JB
  go_wp2_with fail
  all_goals (try go_ret)
  all_goals exact Z.out
set_option maxRecDepth 100000 in
set_option maxHeartbeats 4000000 in
theorem does_end {w : World} {rb mb bb : Nat} {kind mark : Int} {K1 KA KB : World → Prop} (hkind : kind = 8) (Po : Ending → World → Prop)
    (h1 : Calls Tryz.prog 79 #[.pointer (some ⟨rb, 0, none⟩)] (w.alloc (.cells #[.pointer (some ⟨rb, 0, none⟩), .pointer (some ⟨mb, 0, none⟩)] 60)) fun r w' => r = .returned (.tuple #[]) ∧ BP w' rb mb w.heap.size ∧ K1 w')
    (h2 : ∀ W, K1 W → Calls Tryz.prog 80 #[.pointer (some ⟨mb, 0, none⟩)] W fun r w' => r = .returned (.tuple #[]) ∧ BP w' rb mb w.heap.size ∧ KA w')
    (g1 : ∀ W, KA W → Calls Tryz.prog 14 #[.agg #[.pointer (some ⟨rb, 0, none⟩), .pointer (some ⟨mb, 0, none⟩)]] W fun r w' => r = .returned (.bool true) ∧ BP w' rb mb w.heap.size ∧ KB w')
    (g2 : ∀ W, KB W → Calls Tryz.prog 14 #[.agg #[.pointer (some ⟨rb, 0, none⟩), .pointer (some ⟨mb, 0, none⟩)]] W fun r w' => r = .returned (.bool true) ∧ Po (.returned (.bool true)) w') :
    Calls Tryz.prog 15 #[.agg #[.pointer (some ⟨rb, 0, none⟩), .pointer (some ⟨mb, 0, none⟩)], .pointer (some ⟨bb, 0, none⟩), .int .i64 kind, .int .i64 mark] w Po := by
  have H1 := hidi h1
  have H2 := hidi h2
  have G1 := hidi g1
  have G2 := hidi g2
  clear h1 h2 g1 g2
  subst hkind
  have hnew : (w.alloc (.cells #[.pointer (some ⟨rb, 0, none⟩), .pointer (some ⟨mb, 0, none⟩)] 60)).heap[w.heap.size]? = some (.cells #[.pointer (some ⟨rb, 0, none⟩), .pointer (some ⟨mb, 0, none⟩)] 60 (0, 0)) := heap_alloc_new _ _
  have b0 : (w.alloc (.cells #[.pointer (some ⟨rb, 0, none⟩), .pointer (some ⟨mb, 0, none⟩)] 60)).cell? ⟨w.heap.size, 0, none⟩ = some (.pointer (some ⟨rb, 0, none⟩)) := cells_at hnew rfl
  have b1 : (w.alloc (.cells #[.pointer (some ⟨rb, 0, none⟩), .pointer (some ⟨mb, 0, none⟩)] 60)).cell? ⟨w.heap.size, 1, none⟩ = some (.pointer (some ⟨mb, 0, none⟩)) := cells_at hnew rfl
  clear hnew
  go_enter Tryz.func15, Tryz.ntmps15
  go_wp2_with fail
  go_must (go_at_call 79)
  refine (H1.out).mono ?_
  clear b0 b1
  rintro e w1 ⟨rfl, ⟨b0, b1⟩, hk⟩
  have J1 := hidi (H2.out _ hk)
  clear hk
  go_wp2_with fail
  go_must (go_at_call 80)
  refine (J1.out).mono ?_
  clear b0 b1
  rintro e w2 ⟨rfl, ⟨b0, b1⟩, hk⟩
  have JA := hidi (G1.out _ hk)
  clear hk J1
  go_wp2_with fail
  go_must (go_at_call 14)
  refine (JA.out).mono ?_
  clear b0 b1
  rintro e v1 ⟨rfl, ⟨b0, b1⟩, hk⟩
  have JB := hidi (G2.out _ hk)
  clear hk JA
  go_wp2_with fail
  go_must (go_at_call 14)
  refine (JB.out).mono ?_
  clear b0 b1
  rintro e v2 ⟨rfl, hk⟩
  have Z := hidi hk
  clear hk JB
  go_wp2_with fail
  all_goals (try go_ret)
  all_goals exact Z.out
set_option maxRecDepth 100000 in
set_option maxHeartbeats 4000000 in
theorem does_else {w : World} {rb mb bb : Nat} {kind mark : Int} {KA KB : World → Prop} (hkind : kind ≠ 1 ∧ kind ≠ 2 ∧ kind ≠ 3 ∧ kind ≠ 4 ∧ kind ≠ 5 ∧ kind ≠ 6 ∧ kind ≠ 7 ∧ kind ≠ 8) (Po : Ending → World → Prop)
    (h1 : KA (w.alloc (.cells #[.pointer (some ⟨rb, 0, none⟩), .pointer (some ⟨mb, 0, none⟩)] 60)))
    (g1 : ∀ W, KA W → Calls Tryz.prog 14 #[.agg #[.pointer (some ⟨rb, 0, none⟩), .pointer (some ⟨mb, 0, none⟩)]] W fun r w' => r = .returned (.bool true) ∧ BP w' rb mb w.heap.size ∧ KB w')
    (g2 : ∀ W, KB W → Calls Tryz.prog 14 #[.agg #[.pointer (some ⟨rb, 0, none⟩), .pointer (some ⟨mb, 0, none⟩)]] W fun r w' => r = .returned (.bool true) ∧ Po (.returned (.bool true)) w') :
    Calls Tryz.prog 15 #[.agg #[.pointer (some ⟨rb, 0, none⟩), .pointer (some ⟨mb, 0, none⟩)], .pointer (some ⟨bb, 0, none⟩), .int .i64 kind, .int .i64 mark] w Po := by
  have H1 := hidi h1
  have G1 := hidi g1
  have G2 := hidi g2
  clear h1 g1 g2
  obtain ⟨k1, k2, k3, k4, k5, k6, k7, k8⟩ := hkind
  have f1 : (kind == 1) = false := by simpa using k1
  have f2 : (kind == 2) = false := by simpa using k2
  have f3 : (kind == 3) = false := by simpa using k3
  have f4 : (kind == 4) = false := by simpa using k4
  have f5 : (kind == 5) = false := by simpa using k5
  have f6 : (kind == 6) = false := by simpa using k6
  have f7 : (kind == 7) = false := by simpa using k7
  have f8 : (kind == 8) = false := by simpa using k8
  clear k1 k2 k3 k4 k5 k6 k7 k8
  have hnew : (w.alloc (.cells #[.pointer (some ⟨rb, 0, none⟩), .pointer (some ⟨mb, 0, none⟩)] 60)).heap[w.heap.size]? = some (.cells #[.pointer (some ⟨rb, 0, none⟩), .pointer (some ⟨mb, 0, none⟩)] 60 (0, 0)) := heap_alloc_new _ _
  have b0 : (w.alloc (.cells #[.pointer (some ⟨rb, 0, none⟩), .pointer (some ⟨mb, 0, none⟩)] 60)).cell? ⟨w.heap.size, 0, none⟩ = some (.pointer (some ⟨rb, 0, none⟩)) := cells_at hnew rfl
  have b1 : (w.alloc (.cells #[.pointer (some ⟨rb, 0, none⟩), .pointer (some ⟨mb, 0, none⟩)] 60)).cell? ⟨w.heap.size, 1, none⟩ = some (.pointer (some ⟨mb, 0, none⟩)) := cells_at hnew rfl
  clear hnew
  go_enter Tryz.func15, Tryz.ntmps15
  have JA := hidi (G1.out _ H1.out)
  go_wp2_with fail
  go_must (go_at_call 14)
  refine (JA.out).mono ?_
  clear b0 b1
  rintro e v1 ⟨rfl, ⟨b0, b1⟩, hk⟩
  have JB := hidi (G2.out _ hk)
  clear hk JA
  go_wp2_with fail
  go_must (go_at_call 14)
  refine (JB.out).mono ?_
  clear b0 b1
  rintro e v2 ⟨rfl, hk⟩
  have Z := hidi hk
  clear hk JB
  go_wp2_with fail
  all_goals (try go_ret)
  all_goals exact Z.out
end Go.Proofs.YtkjeneklkdekoaaGreatDoor
