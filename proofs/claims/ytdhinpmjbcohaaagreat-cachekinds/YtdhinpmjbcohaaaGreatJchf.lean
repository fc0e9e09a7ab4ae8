import Derived.Test.YtdhinpmjbcohaaaGreatJche
import Derived.Deep.RegionHeldLaw
import Derived.Test.YtdhinpmjbcohaaaGreatTk
namespace Go.Proofs.YtdhinpmjbcohaaaGreat.Jc
open Go Go.RowKit Go.Shelf
open Qa (cell_ltk)
set_option linter.unusedSimpArgs false
set_option linter.unusedVariables false
abbrev zhf0 : Oper := { dst := some 21, op := Go.Op.fieldAddr 41 (Go.Operand.tmp 5) 2, type := 0, pos := "exact.go:117", after := #[], guard := none }
abbrev zhf1 : Oper := { dst := some 22, op := Go.Op.load 38 (Go.Operand.tmp 21), type := 38, pos := "exact.go:117", after := #[{ on := 0, ground := Go.Ground.data }], guard := none }
abbrev zhf2 : Oper := { dst := some 23, op := Go.Op.load 43 (Go.Operand.tmp 7), type := 43, pos := "exact.go:117", after := #[], guard := none }
abbrev zhf3 : Oper := { dst := some 25, op := Go.Op.fieldAddr 41 (Go.Operand.tmp 5) 3, type := 0, pos := "exact.go:117", after := #[], guard := none }
abbrev zhf4 : Oper := { dst := some 26, op := Go.Op.load 39 (Go.Operand.tmp 25), type := 39, pos := "exact.go:117", after := #[{ on := 4, ground := Go.Ground.data }], guard := none }
abbrev zhf5 : Oper := { dst := some 27, op := Go.Op.move (Go.Operand.tmp 3), type := 4, pos := "exact.go:117", after := #[], guard := none }
abbrev zhf6 : Oper := { dst := some 24, op := Go.Op.call { callee := Go.Callee.value (Go.Operand.func 41), args := #[Go.Operand.tmp 22, Go.Operand.tmp 23], argTypes := #[38, 43] }, type := 3, pos := "exact.go:117", after := #[{ on := 1, ground := Go.Ground.data }, { on := 2, ground := Go.Ground.data }], guard := none }
abbrev zhf7 : Oper := { dst := some 28, op := Go.Op.call { callee := Go.Callee.value (Go.Operand.func 42), args := #[Go.Operand.tmp 26, Go.Operand.tmp 27], argTypes := #[39, 4] }, type := 3, pos := "exact.go:117", after := #[{ on := 5, ground := Go.Ground.data }, { on := 6, ground := Go.Ground.data }, { on := 3, ground := Go.Ground.chain }], guard := none }
abbrev zhf8 : Oper := { dst := some 11, op := Go.Op.assign (Go.Operand.tmp 24), type := 3, pos := "exact.go:117", after := #[{ on := 3, ground := Go.Ground.data }, { on := 7, ground := Go.Ground.chain }, { on := 0, ground := Go.Ground.phase }, { on := 1, ground := Go.Ground.phase }, { on := 2, ground := Go.Ground.phase }, { on := 3, ground := Go.Ground.phase }, { on := 4, ground := Go.Ground.textOnly Go.Departure.lateStores }, { on := 5, ground := Go.Ground.textOnly Go.Departure.lateStores }, { on := 6, ground := Go.Ground.textOnly Go.Departure.lateStores }, { on := 7, ground := Go.Ground.textOnly Go.Departure.lateStoresUnsure }], guard := none }
abbrev zhf9 : Oper := { dst := some 12, op := Go.Op.assign (Go.Operand.tmp 28), type := 3, pos := "exact.go:117", after := #[{ on := 7, ground := Go.Ground.data }, { on := 8, ground := Go.Ground.chain }, { on := 0, ground := Go.Ground.phase }, { on := 1, ground := Go.Ground.phase }, { on := 2, ground := Go.Ground.phase }, { on := 3, ground := Go.Ground.phase }, { on := 4, ground := Go.Ground.phase }, { on := 5, ground := Go.Ground.phase }, { on := 6, ground := Go.Ground.phase }, { on := 7, ground := Go.Ground.phase }, { on := 8, ground := Go.Ground.phase }], guard := none }
abbrev zhf10 : Oper := { dst := some 71, op := Go.Op.fieldAddr 41 (Go.Operand.tmp 5) 0, type := 0, pos := "exact.go:127", after := #[], guard := none }
abbrev zhf11 : Oper := { dst := some 72, op := Go.Op.load 37 (Go.Operand.tmp 71), type := 37, pos := "exact.go:127", after := #[{ on := 0, ground := Go.Ground.data }], guard := none }
abbrev zhf12 : Oper := { dst := some 73, op := Go.Op.load 43 (Go.Operand.tmp 7), type := 43, pos := "exact.go:127", after := #[], guard := none }
abbrev zhf13 : Oper := { dst := some 75, op := Go.Op.fieldAddr 41 (Go.Operand.tmp 5) 1, type := 0, pos := "exact.go:127", after := #[], guard := none }
abbrev zhf14 : Oper := { dst := some 76, op := Go.Op.load 24 (Go.Operand.tmp 75), type := 24, pos := "exact.go:127", after := #[{ on := 4, ground := Go.Ground.data }], guard := none }
abbrev zhf15 : Oper := { dst := some 77, op := Go.Op.move (Go.Operand.tmp 11), type := 3, pos := "exact.go:127", after := #[], guard := none }
abbrev zhf16 : Oper := { dst := some 74, op := Go.Op.call { callee := Go.Callee.value (Go.Operand.func 45), args := #[Go.Operand.tmp 72, Go.Operand.tmp 73], argTypes := #[37, 43] }, type := 4, pos := "exact.go:127", after := #[{ on := 1, ground := Go.Ground.data }, { on := 2, ground := Go.Ground.data }], guard := none }
abbrev zhf17 : Oper := { dst := some 78, op := Go.Op.call { callee := Go.Callee.value (Go.Operand.func 28), args := #[Go.Operand.tmp 76, Go.Operand.tmp 77], argTypes := #[24, 3] }, type := 4, pos := "exact.go:127", after := #[{ on := 5, ground := Go.Ground.data }, { on := 6, ground := Go.Ground.data }, { on := 3, ground := Go.Ground.chain }], guard := none }
abbrev zhf18 : Oper := { dst := some 79, op := Go.Op.binOp Go.BinOp.eql 4 (Go.Operand.tmp 74) (Go.Operand.tmp 78) 4, type := 4, pos := "exact.go:127", after := #[{ on := 3, ground := Go.Ground.data }, { on := 7, ground := Go.Ground.data }], guard := none }
abbrev zhf19 : Oper := { dst := some 10, op := Go.Op.assign (Go.Operand.tmp 79), type := 4, pos := "exact.go:127", after := #[{ on := 8, ground := Go.Ground.data }, { on := 7, ground := Go.Ground.chain }, { on := 0, ground := Go.Ground.phase }, { on := 1, ground := Go.Ground.phase }, { on := 2, ground := Go.Ground.phase }, { on := 3, ground := Go.Ground.phase }, { on := 4, ground := Go.Ground.phase }, { on := 5, ground := Go.Ground.phase }, { on := 6, ground := Go.Ground.phase }, { on := 7, ground := Go.Ground.phase }, { on := 8, ground := Go.Ground.phase }], guard := none }
abbrev zhf20 : Oper := { dst := some 82, op := Go.Op.fieldAddr 41 (Go.Operand.tmp 5) 0, type := 0, pos := "exact.go:129", after := #[], guard := none }
abbrev zhf21 : Oper := { dst := some 83, op := Go.Op.load 37 (Go.Operand.tmp 82), type := 37, pos := "exact.go:129", after := #[{ on := 0, ground := Go.Ground.data }], guard := none }
abbrev zhf22 : Oper := { dst := some 85, op := Go.Op.fieldAddr 41 (Go.Operand.tmp 5) 1, type := 0, pos := "exact.go:129", after := #[], guard := none }
abbrev zhf23 : Oper := { dst := some 86, op := Go.Op.load 24 (Go.Operand.tmp 85), type := 24, pos := "exact.go:129", after := #[{ on := 3, ground := Go.Ground.data }], guard := none }
abbrev zhf24 : Oper := { dst := some 84, op := Go.Op.call { callee := Go.Callee.value (Go.Operand.func 46), args := #[Go.Operand.tmp 83], argTypes := #[37] }, type := 3, pos := "exact.go:129", after := #[{ on := 1, ground := Go.Ground.data }], guard := none }
abbrev zhf25 : Oper := { dst := some 87, op := Go.Op.call { callee := Go.Callee.value (Go.Operand.func 30), args := #[Go.Operand.tmp 86], argTypes := #[24] }, type := 3, pos := "exact.go:129", after := #[{ on := 4, ground := Go.Ground.data }, { on := 2, ground := Go.Ground.chain }], guard := none }
abbrev zhf26 : Oper := { dst := some 88, op := Go.Op.binOp Go.BinOp.eql 3 (Go.Operand.tmp 84) (Go.Operand.tmp 87) 3, type := 4, pos := "exact.go:129", after := #[{ on := 2, ground := Go.Ground.data }, { on := 5, ground := Go.Ground.data }], guard := none }
abbrev zhf27 : Oper := { dst := some 10, op := Go.Op.assign (Go.Operand.tmp 88), type := 4, pos := "exact.go:129", after := #[{ on := 6, ground := Go.Ground.data }, { on := 5, ground := Go.Ground.chain }, { on := 0, ground := Go.Ground.phase }, { on := 1, ground := Go.Ground.phase }, { on := 2, ground := Go.Ground.phase }, { on := 3, ground := Go.Ground.phase }, { on := 4, ground := Go.Ground.phase }, { on := 5, ground := Go.Ground.phase }, { on := 6, ground := Go.Ground.phase }], guard := none }
abbrev zhf28 : Oper := { dst := some 91, op := Go.Op.fieldAddr 41 (Go.Operand.tmp 5) 0, type := 0, pos := "exact.go:131", after := #[], guard := none }
abbrev zhf29 : Oper := { dst := some 92, op := Go.Op.load 37 (Go.Operand.tmp 91), type := 37, pos := "exact.go:131", after := #[{ on := 0, ground := Go.Ground.data }], guard := none }
abbrev zhf30 : Oper := { dst := some 94, op := Go.Op.fieldAddr 41 (Go.Operand.tmp 5) 1, type := 0, pos := "exact.go:131", after := #[], guard := none }
abbrev zhf31 : Oper := { dst := some 95, op := Go.Op.load 24 (Go.Operand.tmp 94), type := 24, pos := "exact.go:131", after := #[{ on := 3, ground := Go.Ground.data }], guard := none }
abbrev zhf32 : Oper := { dst := some 96, op := Go.Op.nilCheck (Go.Operand.tmp 95), type := 0, pos := "exact.go:131", after := #[{ on := 4, ground := Go.Ground.data }], guard := none }
abbrev zhf33 : Oper := { dst := some 97, op := Go.Op.fieldAddr 92 (Go.Operand.tmp 96) 1, type := 0, pos := "exact.go:131", after := #[{ on := 5, ground := Go.Ground.data }], guard := none }
abbrev zhf34 : Oper := { dst := some 98, op := Go.Op.load 90 (Go.Operand.tmp 97), type := 90, pos := "exact.go:131", after := #[{ on := 6, ground := Go.Ground.data }], guard := none }
abbrev zhf35 : Oper := { dst := some 99, op := Go.Op.call { callee := Go.Callee.builtin Go.Builtin.len, args := #[Go.Operand.tmp 98], argTypes := #[90] }, type := 3, pos := "exact.go:131", after := #[{ on := 7, ground := Go.Ground.data }], guard := none }
abbrev zhf36 : Oper := { dst := some 93, op := Go.Op.call { callee := Go.Callee.value (Go.Operand.func 47), args := #[Go.Operand.tmp 92], argTypes := #[37] }, type := 3, pos := "exact.go:131", after := #[{ on := 1, ground := Go.Ground.data }], guard := none }
abbrev zhf37 : Oper := { dst := some 100, op := Go.Op.binOp Go.BinOp.eql 3 (Go.Operand.tmp 93) (Go.Operand.tmp 99) 3, type := 4, pos := "exact.go:131", after := #[{ on := 2, ground := Go.Ground.data }, { on := 8, ground := Go.Ground.data }], guard := none }
abbrev zhf38 : Oper := { dst := some 10, op := Go.Op.assign (Go.Operand.tmp 100), type := 4, pos := "exact.go:131", after := #[{ on := 9, ground := Go.Ground.data }, { on := 2, ground := Go.Ground.chain }, { on := 0, ground := Go.Ground.phase }, { on := 1, ground := Go.Ground.phase }, { on := 2, ground := Go.Ground.phase }, { on := 3, ground := Go.Ground.phase }, { on := 4, ground := Go.Ground.phase }, { on := 5, ground := Go.Ground.phase }, { on := 6, ground := Go.Ground.phase }, { on := 7, ground := Go.Ground.phase }, { on := 8, ground := Go.Ground.phase }, { on := 9, ground := Go.Ground.phase }], guard := none }
set_option maxRecDepth 100000
set_option maxHeartbeats 4000000

def BQ (W : World) (cb mb kb vb s : Nat) (kx : Int) (ki : Int) : Prop :=
 W.cell? ⟨s, 0, none⟩ = some (.pointer (some ⟨cb, 0, none⟩)) ∧ W.cell? ⟨s, 1, none⟩ = some (.pointer (some ⟨mb, 0, none⟩)) ∧ W.cell? ⟨s, 2, none⟩ = some (.pointer (some ⟨kb, 0, none⟩)) ∧ W.cell? ⟨s, 3, none⟩ = some (.pointer (some ⟨vb, 0, none⟩)) ∧ W.cell? ⟨s + 1, 0, none⟩ = some (.int .u8 kx) ∧ W.cell? ⟨s + 1, 1, none⟩ = some (.int .u8 ki)
theorem bq0 (w : World) (cb mb kb vb : Nat) (kx : Int) (ki : Int) : BQ ((w.alloc (.cells #[pt cb, pt mb, pt kb, pt vb] 41)).alloc (.cells #[.int .u8 kx, .int .u8 ki] 43)) cb mb kb vb w.heap.size kx ki := by
 have hnew : ((w.alloc (.cells #[pt cb, pt mb, pt kb, pt vb] 41)).alloc (.cells #[.int .u8 kx, .int .u8 ki] 43)).heap[w.heap.size]? = some (.cells #[pt cb, pt mb, pt kb, pt vb] 41 (0, 0)) := (Below.heap_alloc _ _ _ (by simp)).trans (heap_alloc_new w _)
 have hkey : ((w.alloc (.cells #[pt cb, pt mb, pt kb, pt vb] 41)).alloc (.cells #[.int .u8 kx, .int .u8 ki] 43)).heap[w.heap.size + 1]? = some (.cells #[.int .u8 kx, .int .u8 ki] 43 (0, 0)) := by have := heap_alloc_new (w.alloc (.cells #[pt cb, pt mb, pt kb, pt vb] 41)) (.cells #[.int .u8 kx, .int .u8 ki] 43); rw [World.size_alloc] at this; exact this
 have b0 : ((w.alloc (.cells #[pt cb, pt mb, pt kb, pt vb] 41)).alloc (.cells #[.int .u8 kx, .int .u8 ki] 43)).cell? ⟨w.heap.size, 0, none⟩ = some (.pointer (some ⟨cb, 0, none⟩)) := box_cells hnew 0 _ rfl
 have b1 : ((w.alloc (.cells #[pt cb, pt mb, pt kb, pt vb] 41)).alloc (.cells #[.int .u8 kx, .int .u8 ki] 43)).cell? ⟨w.heap.size, 1, none⟩ = some (.pointer (some ⟨mb, 0, none⟩)) := box_cells hnew 1 _ rfl
 have b2 : ((w.alloc (.cells #[pt cb, pt mb, pt kb, pt vb] 41)).alloc (.cells #[.int .u8 kx, .int .u8 ki] 43)).cell? ⟨w.heap.size, 2, none⟩ = some (.pointer (some ⟨kb, 0, none⟩)) := box_cells hnew 2 _ rfl
 have b3 : ((w.alloc (.cells #[pt cb, pt mb, pt kb, pt vb] 41)).alloc (.cells #[.int .u8 kx, .int .u8 ki] 43)).cell? ⟨w.heap.size, 3, none⟩ = some (.pointer (some ⟨vb, 0, none⟩)) := box_cells hnew 3 _ rfl
 have b4 : ((w.alloc (.cells #[pt cb, pt mb, pt kb, pt vb] 41)).alloc (.cells #[.int .u8 kx, .int .u8 ki] 43)).cell? ⟨w.heap.size + 1, 0, none⟩ = some (.int .u8 kx) := box_cells hkey 0 _ rfl
 have b5 : ((w.alloc (.cells #[pt cb, pt mb, pt kb, pt vb] 41)).alloc (.cells #[.int .u8 kx, .int .u8 ki] 43)).cell? ⟨w.heap.size + 1, 1, none⟩ = some (.int .u8 ki) := box_cells hkey 1 _ rfl
 exact ⟨b0, b1, b2, b3, b4, b5⟩
theorem does_get {w : World} {cb mb kb vb : Nat} {kind stop n m : Int} {v : Bool} {kx : Int} {ki : Int} {a : Bool} {b : Int} {ok : Bool} (hkind : kind = 1) {K1 K2 K3 K4 : World → Prop} (Po : Ending → World → Prop)
  (h1 : Calls Tryz.prog 41 #[.pointer (some ⟨kb, 0, none⟩), .agg #[.int .u8 kx, .int .u8 ki]] ((w.alloc (.cells #[pt cb, pt mb, pt kb, pt vb] 41)).alloc (.cells #[.int .u8 kx, .int .u8 ki] 43)).drew fun r w' => r = .returned (.int .i64 n) ∧ BQ w' cb mb kb vb w.heap.size kx ki ∧ K1 w')
  (h2 : ∀ W, K1 W → Calls Tryz.prog 42 #[.pointer (some ⟨vb, 0, none⟩), .bool v] W fun r w' => r = .returned (.int .i64 m) ∧ BQ w' cb mb kb vb w.heap.size kx ki ∧ K2 w')
  (h3 : ∀ W, K2 W → Calls Tryz.prog 43 #[.pointer (some ⟨cb, 0, none⟩), .agg #[.int .u8 kx, .int .u8 ki]] W fun r w' => r = .returned (.tuple #[.bool a, .bool ok]) ∧ BQ w' cb mb kb vb w.heap.size kx ki ∧ K3 w')
  (h4 : ∀ W, K3 W → Calls Tryz.prog 24 #[.pointer (some ⟨mb, 0, none⟩), .int .i64 n] W fun r w' => r = .returned (.tuple #[.int .i64 b, .bool ok]) ∧ BQ w' cb mb kb vb w.heap.size kx ki ∧ K4 w')
  (h5 : ∀ W, K4 W → Calls Tryz.prog 42 #[.pointer (some ⟨vb, 0, none⟩), .bool a] W fun r w' => r = .returned (.int .i64 b) ∧ Po (.returned (.bool true)) w') :
  Calls Tryz.prog 10 #[.agg #[pt cb, pt mb, pt kb, pt vb], .int .i64 kind, .agg #[.int .u8 kx, .int .u8 ki], .bool v, .int .i64 stop] w Po := by
 have H1 := hidi h1
 have H2 := hidi h2
 subst hkind
 have H3 := hidi h3
 have H4 := hidi h4
 have H5 := hidi h5
 clear h1 h2 h3 h4 h5
 obtain ⟨b0, b1, b2, b3, b4, b5⟩ := bq0 w cb mb kb vb kx ki
 unfold pt at *
 go_enter Tryz.func10, Tryz.ntmps10
 go_wp2_with fail
 refine wp_region_held_drew (S := fun w' => w'.cell? ⟨w.heap.size, 2, none⟩ = some (.pointer (some ⟨kb, 0, none⟩)) ∧ w'.cell? ⟨w.heap.size, 3, none⟩ = some (.pointer (some ⟨vb, 0, none⟩)) ∧ w'.cell? ⟨w.heap.size + 1, 0, none⟩ = some (.int .u8 kx) ∧ w'.cell? ⟨w.heap.size + 1, 1, none⟩ = some (.int .u8 ki)) (by kernel_rfl) ⟨b2, b3, b4, b5⟩ (fun hHeld => ?_)
 change wpAnyH _ _ _ _ _ 10 #[false, false, false, false, false, false, false, false, false, false] _ (World.drew _)
 refine tkH 0 zhf0 (.pointer (some ⟨w.heap.size, 2, none⟩)) hHeld ?_
 refine tkH 1 zhf1 (.pointer (some ⟨kb, 0, none⟩)) hHeld ?_
 refine tkH 2 zhf2 (.agg #[.int .u8 kx, .int .u8 ki]) hHeld ?_
 refine tkH 4 zhf3 (.pointer (some ⟨w.heap.size, 3, none⟩)) hHeld ?_
 refine tkH 5 zhf4 (.pointer (some ⟨vb, 0, none⟩)) hHeld ?_
 refine tkH 6 zhf5 (.bool v) hHeld ?_
 simp only [Act.put, nrA, nrB, nrC]
 clear b0 b1 b2 b3 b4 b5
 refine wpAnyH_ready (rs := [3]) (by kernel_rfl) (by simp) ?_
 refine AllReadyH.cons (o := zhf6) (by rfl) (fun K hK => ?_) AllReadyH.nil
 go_simp
 go_wp2_with (go_at_call 41; refine (H1.out).mono ?_; rintro e w1 ⟨rfl, ⟨b0, b1, b2, b3, b4, b5⟩, hk⟩)
 have J1 := hidi (H2.out _ hk)
 clear hk
 refine hK.out _ _ ⟨b2, b3, b4, b5⟩ (fun hHeld => ?_)
 clear hK K
 (try simp only [Act.put, nrA, nrB, nrC])
 clear b0 b1 b2 b3 b4 b5
 refine wpAnyH_ready (rs := [7]) (by kernel_rfl) (by simp) ?_
 refine AllReadyH.cons (o := zhf7) (by rfl) (fun K hK => ?_) AllReadyH.nil
 go_simp
 go_wp2_with (go_at_call 42; refine (J1.out).mono ?_; rintro e w2 ⟨rfl, ⟨b0, b1, b2, b3, b4, b5⟩, hk⟩)
 have J2 := hidi (H3.out _ hk)
 clear hk J1
 refine hK.out _ _ ⟨b2, b3, b4, b5⟩ (fun hHeld => ?_)
 clear hK K
 (try simp only [Act.put, nrA, nrB, nrC])
 refine tkH 8 zhf8 (.int .i64 n) hHeld ?_
 refine tkH 9 zhf9 (.int .i64 m) hHeld ?_
 simp only [Act.put, nrA, nrB, nrC]
 refine wpAnyH_done (by kernel_rfl) ?_ _
 clear hHeld
 go_wp2_with fail
 go_must (go_at_call 43)
 refine (J2.out).mono ?_
 clear b0 b1 b2 b3 b4 b5
 rintro e w3 ⟨rfl, ⟨b0, b1, b2, b3, b4, b5⟩, hk⟩
 have J3 := hidi (H4.out _ hk)
 clear hk
 go_wp2_with fail
 go_must (go_at_call 24)
 refine (J3.out).mono ?_
 clear b0 b1 b2 b3 b4 b5
 rintro e w4 ⟨rfl, ⟨b0, b1, b2, b3, b4, b5⟩, hk⟩
 have J4 := hidi (H5.out _ hk)
 clear hk
 go_wp2_with fail
 go_must (go_at_call 42)
 refine (J4.out).mono ?_
 rintro e w5 ⟨rfl, hk⟩
 have Z := hidi hk
 clear hk
 go_wp2_with fail
 all_goals (try go_ret2)
 all_goals exact Z.out
theorem does_put {w : World} {cb mb kb vb : Nat} {kind stop n m : Int} {v : Bool} {kx : Int} {ki : Int} (hkind : kind = 2) {K1 K2 K3 K4 : World → Prop} (Po : Ending → World → Prop)
  (h1 : Calls Tryz.prog 41 #[.pointer (some ⟨kb, 0, none⟩), .agg #[.int .u8 kx, .int .u8 ki]] ((w.alloc (.cells #[pt cb, pt mb, pt kb, pt vb] 41)).alloc (.cells #[.int .u8 kx, .int .u8 ki] 43)).drew fun r w' => r = .returned (.int .i64 n) ∧ BQ w' cb mb kb vb w.heap.size kx ki ∧ K1 w')
  (h2 : ∀ W, K1 W → Calls Tryz.prog 42 #[.pointer (some ⟨vb, 0, none⟩), .bool v] W fun r w' => r = .returned (.int .i64 m) ∧ BQ w' cb mb kb vb w.heap.size kx ki ∧ K2 w')
  (h3 : ∀ W, K2 W → Calls Tryz.prog 44 #[.pointer (some ⟨cb, 0, none⟩), .agg #[.int .u8 kx, .int .u8 ki], .bool v] W fun r w' => r = .returned (.tuple #[]) ∧ BQ w' cb mb kb vb w.heap.size kx ki ∧ K3 w')
  (h4 : ∀ W, K3 W → Calls Tryz.prog 26 #[.pointer (some ⟨mb, 0, none⟩), .int .i64 n, .int .i64 m] W fun r w' => r = .returned (.tuple #[]) ∧ Po (.returned (.bool true)) w') :
  Calls Tryz.prog 10 #[.agg #[pt cb, pt mb, pt kb, pt vb], .int .i64 kind, .agg #[.int .u8 kx, .int .u8 ki], .bool v, .int .i64 stop] w Po := by
 have H1 := hidi h1
 have H2 := hidi h2
 subst hkind
 have H3 := hidi h3
 have H4 := hidi h4
 clear h1 h2 h3 h4
 obtain ⟨b0, b1, b2, b3, b4, b5⟩ := bq0 w cb mb kb vb kx ki
 unfold pt at *
 go_enter Tryz.func10, Tryz.ntmps10
 go_wp2_with fail
 refine wp_region_held_drew (S := fun w' => w'.cell? ⟨w.heap.size, 2, none⟩ = some (.pointer (some ⟨kb, 0, none⟩)) ∧ w'.cell? ⟨w.heap.size, 3, none⟩ = some (.pointer (some ⟨vb, 0, none⟩)) ∧ w'.cell? ⟨w.heap.size + 1, 0, none⟩ = some (.int .u8 kx) ∧ w'.cell? ⟨w.heap.size + 1, 1, none⟩ = some (.int .u8 ki)) (by kernel_rfl) ⟨b2, b3, b4, b5⟩ (fun hHeld => ?_)
 change wpAnyH _ _ _ _ _ 10 #[false, false, false, false, false, false, false, false, false, false] _ (World.drew _)
 refine tkH 0 zhf0 (.pointer (some ⟨w.heap.size, 2, none⟩)) hHeld ?_
 refine tkH 1 zhf1 (.pointer (some ⟨kb, 0, none⟩)) hHeld ?_
 refine tkH 2 zhf2 (.agg #[.int .u8 kx, .int .u8 ki]) hHeld ?_
 refine tkH 4 zhf3 (.pointer (some ⟨w.heap.size, 3, none⟩)) hHeld ?_
 refine tkH 5 zhf4 (.pointer (some ⟨vb, 0, none⟩)) hHeld ?_
 refine tkH 6 zhf5 (.bool v) hHeld ?_
 simp only [Act.put, nrA, nrB, nrC]
 clear b0 b1 b2 b3 b4 b5
 refine wpAnyH_ready (rs := [3]) (by kernel_rfl) (by simp) ?_
 refine AllReadyH.cons (o := zhf6) (by rfl) (fun K hK => ?_) AllReadyH.nil
 go_simp
 go_wp2_with (go_at_call 41; refine (H1.out).mono ?_; rintro e w1 ⟨rfl, ⟨b0, b1, b2, b3, b4, b5⟩, hk⟩)
 have J1 := hidi (H2.out _ hk)
 clear hk
 refine hK.out _ _ ⟨b2, b3, b4, b5⟩ (fun hHeld => ?_)
 clear hK K
 (try simp only [Act.put, nrA, nrB, nrC])
 clear b0 b1 b2 b3 b4 b5
 refine wpAnyH_ready (rs := [7]) (by kernel_rfl) (by simp) ?_
 refine AllReadyH.cons (o := zhf7) (by rfl) (fun K hK => ?_) AllReadyH.nil
 go_simp
 go_wp2_with (go_at_call 42; refine (J1.out).mono ?_; rintro e w2 ⟨rfl, ⟨b0, b1, b2, b3, b4, b5⟩, hk⟩)
 have J2 := hidi (H3.out _ hk)
 clear hk J1
 refine hK.out _ _ ⟨b2, b3, b4, b5⟩ (fun hHeld => ?_)
 clear hK K
 (try simp only [Act.put, nrA, nrB, nrC])
 refine tkH 8 zhf8 (.int .i64 n) hHeld ?_
 refine tkH 9 zhf9 (.int .i64 m) hHeld ?_
 simp only [Act.put, nrA, nrB, nrC]
 refine wpAnyH_done (by kernel_rfl) ?_ _
 clear hHeld
 go_wp2_with fail
 go_must (go_at_call 44)
 refine (J2.out).mono ?_
 clear b0 b1 b2 b3 b4 b5
 rintro e w3 ⟨rfl, ⟨b0, b1, b2, b3, b4, b5⟩, hk⟩
 have J3 := hidi (H4.out _ hk)
 clear hk
 go_wp2_with fail
 go_must (go_at_call 26)
 refine (J3.out).mono ?_
 clear b0 b1 b2 b3 b4 b5
 rintro e w4 ⟨rfl, hk⟩
 have Z := hidi hk
 clear hk
 go_wp2_with fail
 all_goals (try go_ret2)
 all_goals exact Z.out
theorem does_drop {w : World} {cb mb kb vb : Nat} {kind stop n m : Int} {v : Bool} {kx : Int} {ki : Int} {ok : Bool} (hkind : kind = 3) {K1 K2 K3 K4 : World → Prop} (Po : Ending → World → Prop)
  (h1 : Calls Tryz.prog 41 #[.pointer (some ⟨kb, 0, none⟩), .agg #[.int .u8 kx, .int .u8 ki]] ((w.alloc (.cells #[pt cb, pt mb, pt kb, pt vb] 41)).alloc (.cells #[.int .u8 kx, .int .u8 ki] 43)).drew fun r w' => r = .returned (.int .i64 n) ∧ BQ w' cb mb kb vb w.heap.size kx ki ∧ K1 w')
  (h2 : ∀ W, K1 W → Calls Tryz.prog 42 #[.pointer (some ⟨vb, 0, none⟩), .bool v] W fun r w' => r = .returned (.int .i64 m) ∧ BQ w' cb mb kb vb w.heap.size kx ki ∧ K2 w')
  (h3 : ∀ W, K2 W → Calls Tryz.prog 45 #[.pointer (some ⟨cb, 0, none⟩), .agg #[.int .u8 kx, .int .u8 ki]] W.drew fun r w' => r = .returned (.bool ok) ∧ BQ w' cb mb kb vb w.heap.size kx ki ∧ K3 w')
  (h4 : ∀ W, K3 W → Calls Tryz.prog 28 #[.pointer (some ⟨mb, 0, none⟩), .int .i64 n] W fun r w' => r = .returned (.bool ok) ∧ BQ w' cb mb kb vb w.heap.size kx ki ∧ Po (.returned (.bool true)) w') :
  Calls Tryz.prog 10 #[.agg #[pt cb, pt mb, pt kb, pt vb], .int .i64 kind, .agg #[.int .u8 kx, .int .u8 ki], .bool v, .int .i64 stop] w Po := by
 have H1 := hidi h1
 have H2 := hidi h2
 subst hkind
 have H3 := hidi h3
 have H4 := hidi h4
 clear h1 h2 h3 h4
 obtain ⟨b0, b1, b2, b3, b4, b5⟩ := bq0 w cb mb kb vb kx ki
 unfold pt at *
 go_enter Tryz.func10, Tryz.ntmps10
 go_wp2_with fail
 refine wp_region_held_drew (S := fun w' => w'.cell? ⟨w.heap.size, 2, none⟩ = some (.pointer (some ⟨kb, 0, none⟩)) ∧ w'.cell? ⟨w.heap.size, 3, none⟩ = some (.pointer (some ⟨vb, 0, none⟩)) ∧ w'.cell? ⟨w.heap.size + 1, 0, none⟩ = some (.int .u8 kx) ∧ w'.cell? ⟨w.heap.size + 1, 1, none⟩ = some (.int .u8 ki)) (by kernel_rfl) ⟨b2, b3, b4, b5⟩ (fun hHeld => ?_)
 change wpAnyH _ _ _ _ _ 10 #[false, false, false, false, false, false, false, false, false, false] _ (World.drew _)
 refine tkH 0 zhf0 (.pointer (some ⟨w.heap.size, 2, none⟩)) hHeld ?_
 refine tkH 1 zhf1 (.pointer (some ⟨kb, 0, none⟩)) hHeld ?_
 refine tkH 2 zhf2 (.agg #[.int .u8 kx, .int .u8 ki]) hHeld ?_
 refine tkH 4 zhf3 (.pointer (some ⟨w.heap.size, 3, none⟩)) hHeld ?_
 refine tkH 5 zhf4 (.pointer (some ⟨vb, 0, none⟩)) hHeld ?_
 refine tkH 6 zhf5 (.bool v) hHeld ?_
 simp only [Act.put, nrA, nrB, nrC]
 clear b0 b1 b2 b3 b4 b5
 refine wpAnyH_ready (rs := [3]) (by kernel_rfl) (by simp) ?_
 refine AllReadyH.cons (o := zhf6) (by rfl) (fun K hK => ?_) AllReadyH.nil
 go_simp
 go_wp2_with (go_at_call 41; refine (H1.out).mono ?_; rintro e w1 ⟨rfl, ⟨b0, b1, b2, b3, b4, b5⟩, hk⟩)
 have J1 := hidi (H2.out _ hk)
 clear hk
 refine hK.out _ _ ⟨b2, b3, b4, b5⟩ (fun hHeld => ?_)
 clear hK K
 (try simp only [Act.put, nrA, nrB, nrC])
 clear b0 b1 b2 b3 b4 b5
 refine wpAnyH_ready (rs := [7]) (by kernel_rfl) (by simp) ?_
 refine AllReadyH.cons (o := zhf7) (by rfl) (fun K hK => ?_) AllReadyH.nil
 go_simp
 go_wp2_with (go_at_call 42; refine (J1.out).mono ?_; rintro e w2 ⟨rfl, ⟨b0, b1, b2, b3, b4, b5⟩, hk⟩)
 have J2 := hidi (H3.out _ hk)
 clear hk J1
 refine hK.out _ _ ⟨b2, b3, b4, b5⟩ (fun hHeld => ?_)
 clear hK K
 (try simp only [Act.put, nrA, nrB, nrC])
 refine tkH 8 zhf8 (.int .i64 n) hHeld ?_
 refine tkH 9 zhf9 (.int .i64 m) hHeld ?_
 simp only [Act.put, nrA, nrB, nrC]
 refine wpAnyH_done (by kernel_rfl) ?_ _
 clear hHeld
 go_wp2_with fail
 refine wp_region_held_drew (S := fun w' => w'.cell? ⟨w.heap.size, 0, none⟩ = some (.pointer (some ⟨cb, 0, none⟩)) ∧ w'.cell? ⟨w.heap.size, 1, none⟩ = some (.pointer (some ⟨mb, 0, none⟩)) ∧ w'.cell? ⟨w.heap.size + 1, 0, none⟩ = some (.int .u8 kx) ∧ w'.cell? ⟨w.heap.size + 1, 1, none⟩ = some (.int .u8 ki)) (by kernel_rfl) ⟨b0, b1, b4, b5⟩ (fun hHeld => ?_)
 change wpAnyH _ _ _ _ _ 10 #[false, false, false, false, false, false, false, false, false, false] _ (World.drew _)
 refine tkH 0 zhf10 (.pointer (some ⟨w.heap.size, 0, none⟩)) hHeld ?_
 refine tkH 1 zhf11 (.pointer (some ⟨cb, 0, none⟩)) hHeld ?_
 refine tkH 2 zhf12 (.agg #[.int .u8 kx, .int .u8 ki]) hHeld ?_
 refine tkH 4 zhf13 (.pointer (some ⟨w.heap.size, 1, none⟩)) hHeld ?_
 refine tkH 5 zhf14 (.pointer (some ⟨mb, 0, none⟩)) hHeld ?_
 refine tkH 6 zhf15 (.int .i64 n) hHeld ?_
 simp only [Act.put, nrA, nrB, nrC]
 clear b0 b1 b2 b3 b4 b5
 refine wpAnyH_ready (rs := [3]) (by kernel_rfl) (by simp) ?_
 refine AllReadyH.cons (o := zhf16) (by rfl) (fun K hK => ?_) AllReadyH.nil
 go_simp
 go_wp2_with (go_at_call 45; refine (J2.out).mono ?_; rintro e w3 ⟨rfl, ⟨b0, b1, b2, b3, b4, b5⟩, hk⟩)
 have J3 := hidi (H4.out _ hk)
 clear hk
 refine hK.out _ _ ⟨b0, b1, b4, b5⟩ (fun hHeld => ?_)
 clear hK K
 (try simp only [Act.put, nrA, nrB, nrC])
 refine wpAnyH_ready (rs := [7]) (by kernel_rfl) (by simp) ?_
 refine AllReadyH.cons (o := zhf17) (by rfl) (fun K hK => ?_) AllReadyH.nil
 go_simp
 go_wp2_with (go_at_call 28; refine (J3.out).mono ?_; rintro e w4 ⟨rfl, hc, hk⟩)
 obtain ⟨b0, b1, b2, b3, b4, b5⟩ := hc
 have Z := hidi hk
 clear hk
 refine hK.out _ _ ⟨b0, b1, b4, b5⟩ (fun hHeld => ?_)
 clear hK K
 (try simp only [Act.put, nrA, nrB, nrC])
 refine tkH 8 zhf18 (.bool true) hHeld ?_
 refine tkH 9 zhf19 (.bool true) hHeld ?_
 simp only [Act.put, nrA, nrB, nrC]
 refine wpAnyH_done (by kernel_rfl) ?_ _
 clear hHeld
 go_wp2_with fail
 all_goals (try go_ret2)
 all_goals exact Z.out
theorem does_clear {w : World} {cb mb kb vb : Nat} {kind stop n m : Int} {v : Bool} {kx : Int} {ki : Int} {a : Int} (hkind : kind = 4) {K1 K2 K3 K4 : World → Prop} (Po : Ending → World → Prop)
  (h1 : Calls Tryz.prog 41 #[.pointer (some ⟨kb, 0, none⟩), .agg #[.int .u8 kx, .int .u8 ki]] ((w.alloc (.cells #[pt cb, pt mb, pt kb, pt vb] 41)).alloc (.cells #[.int .u8 kx, .int .u8 ki] 43)).drew fun r w' => r = .returned (.int .i64 n) ∧ BQ w' cb mb kb vb w.heap.size kx ki ∧ K1 w')
  (h2 : ∀ W, K1 W → Calls Tryz.prog 42 #[.pointer (some ⟨vb, 0, none⟩), .bool v] W fun r w' => r = .returned (.int .i64 m) ∧ BQ w' cb mb kb vb w.heap.size kx ki ∧ K2 w')
  (h3 : ∀ W, K2 W → Calls Tryz.prog 46 #[.pointer (some ⟨cb, 0, none⟩)] W.drew fun r w' => r = .returned (.int .i64 a) ∧ BQ w' cb mb kb vb w.heap.size kx ki ∧ K3 w')
  (h4 : ∀ W, K3 W → Calls Tryz.prog 30 #[.pointer (some ⟨mb, 0, none⟩)] W fun r w' => r = .returned (.int .i64 a) ∧ BQ w' cb mb kb vb w.heap.size kx ki ∧ Po (.returned (.bool true)) w') :
  Calls Tryz.prog 10 #[.agg #[pt cb, pt mb, pt kb, pt vb], .int .i64 kind, .agg #[.int .u8 kx, .int .u8 ki], .bool v, .int .i64 stop] w Po := by
 have H1 := hidi h1
 have H2 := hidi h2
 subst hkind
 have H3 := hidi h3
 have H4 := hidi h4
 clear h1 h2 h3 h4
 obtain ⟨b0, b1, b2, b3, b4, b5⟩ := bq0 w cb mb kb vb kx ki
 unfold pt at *
 go_enter Tryz.func10, Tryz.ntmps10
 go_wp2_with fail
 refine wp_region_held_drew (S := fun w' => w'.cell? ⟨w.heap.size, 2, none⟩ = some (.pointer (some ⟨kb, 0, none⟩)) ∧ w'.cell? ⟨w.heap.size, 3, none⟩ = some (.pointer (some ⟨vb, 0, none⟩)) ∧ w'.cell? ⟨w.heap.size + 1, 0, none⟩ = some (.int .u8 kx) ∧ w'.cell? ⟨w.heap.size + 1, 1, none⟩ = some (.int .u8 ki)) (by kernel_rfl) ⟨b2, b3, b4, b5⟩ (fun hHeld => ?_)
 change wpAnyH _ _ _ _ _ 10 #[false, false, false, false, false, false, false, false, false, false] _ (World.drew _)
 refine tkH 0 zhf0 (.pointer (some ⟨w.heap.size, 2, none⟩)) hHeld ?_
 refine tkH 1 zhf1 (.pointer (some ⟨kb, 0, none⟩)) hHeld ?_
 refine tkH 2 zhf2 (.agg #[.int .u8 kx, .int .u8 ki]) hHeld ?_
 refine tkH 4 zhf3 (.pointer (some ⟨w.heap.size, 3, none⟩)) hHeld ?_
 refine tkH 5 zhf4 (.pointer (some ⟨vb, 0, none⟩)) hHeld ?_
 refine tkH 6 zhf5 (.bool v) hHeld ?_
 simp only [Act.put, nrA, nrB, nrC]
 clear b0 b1 b2 b3 b4 b5
 refine wpAnyH_ready (rs := [3]) (by kernel_rfl) (by simp) ?_
 refine AllReadyH.cons (o := zhf6) (by rfl) (fun K hK => ?_) AllReadyH.nil
 go_simp
 go_wp2_with (go_at_call 41; refine (H1.out).mono ?_; rintro e w1 ⟨rfl, ⟨b0, b1, b2, b3, b4, b5⟩, hk⟩)
 have J1 := hidi (H2.out _ hk)
 clear hk
 refine hK.out _ _ ⟨b2, b3, b4, b5⟩ (fun hHeld => ?_)
 clear hK K
 (try simp only [Act.put, nrA, nrB, nrC])
 clear b0 b1 b2 b3 b4 b5
 refine wpAnyH_ready (rs := [7]) (by kernel_rfl) (by simp) ?_
 refine AllReadyH.cons (o := zhf7) (by rfl) (fun K hK => ?_) AllReadyH.nil
 go_simp
 go_wp2_with (go_at_call 42; refine (J1.out).mono ?_; rintro e w2 ⟨rfl, ⟨b0, b1, b2, b3, b4, b5⟩, hk⟩)
 have J2 := hidi (H3.out _ hk)
 clear hk J1
 refine hK.out _ _ ⟨b2, b3, b4, b5⟩ (fun hHeld => ?_)
 clear hK K
 (try simp only [Act.put, nrA, nrB, nrC])
 refine tkH 8 zhf8 (.int .i64 n) hHeld ?_
 refine tkH 9 zhf9 (.int .i64 m) hHeld ?_
 simp only [Act.put, nrA, nrB, nrC]
 refine wpAnyH_done (by kernel_rfl) ?_ _
 clear hHeld
 go_wp2_with fail
 refine wp_region_held_drew (S := fun w' => w'.cell? ⟨w.heap.size, 0, none⟩ = some (.pointer (some ⟨cb, 0, none⟩)) ∧ w'.cell? ⟨w.heap.size, 1, none⟩ = some (.pointer (some ⟨mb, 0, none⟩)) ∧ w'.cell? ⟨w.heap.size + 1, 0, none⟩ = some (.int .u8 kx) ∧ w'.cell? ⟨w.heap.size + 1, 1, none⟩ = some (.int .u8 ki)) (by kernel_rfl) ⟨b0, b1, b4, b5⟩ (fun hHeld => ?_)
 change wpAnyH _ _ _ _ _ 8 #[false, false, false, false, false, false, false, false] _ (World.drew _)
 refine tkH 0 zhf20 (.pointer (some ⟨w.heap.size, 0, none⟩)) hHeld ?_
 refine tkH 1 zhf21 (.pointer (some ⟨cb, 0, none⟩)) hHeld ?_
 refine tkH 3 zhf22 (.pointer (some ⟨w.heap.size, 1, none⟩)) hHeld ?_
 refine tkH 4 zhf23 (.pointer (some ⟨mb, 0, none⟩)) hHeld ?_
 simp only [Act.put, nrA, nrB, nrC]
 clear b0 b1 b2 b3 b4 b5
 refine wpAnyH_ready (rs := [2]) (by kernel_rfl) (by simp) ?_
 refine AllReadyH.cons (o := zhf24) (by rfl) (fun K hK => ?_) AllReadyH.nil
 go_simp
 go_wp2_with (go_at_call 46; refine (J2.out).mono ?_; rintro e w3 ⟨rfl, ⟨b0, b1, b2, b3, b4, b5⟩, hk⟩)
 have J3 := hidi (H4.out _ hk)
 clear hk
 refine hK.out _ _ ⟨b0, b1, b4, b5⟩ (fun hHeld => ?_)
 clear hK K
 (try simp only [Act.put, nrA, nrB, nrC])
 refine wpAnyH_ready (rs := [5]) (by kernel_rfl) (by simp) ?_
 refine AllReadyH.cons (o := zhf25) (by rfl) (fun K hK => ?_) AllReadyH.nil
 go_simp
 go_wp2_with (go_at_call 30; refine (J3.out).mono ?_; rintro e w4 ⟨rfl, hc, hk⟩)
 obtain ⟨b0, b1, b2, b3, b4, b5⟩ := hc
 have Z := hidi hk
 clear hk
 refine hK.out _ _ ⟨b0, b1, b4, b5⟩ (fun hHeld => ?_)
 clear hK K
 (try simp only [Act.put, nrA, nrB, nrC])
 refine tkH 6 zhf26 (.bool true) hHeld ?_
 refine tkH 7 zhf27 (.bool true) hHeld ?_
 simp only [Act.put, nrA, nrB, nrC]
 refine wpAnyH_done (by kernel_rfl) ?_ _
 clear hHeld
 go_wp2_with fail
 all_goals (try go_ret2)
 all_goals exact Z.out
theorem does_len {w : World} {cb mb kb vb : Nat} {kind stop n m : Int} {v : Bool} {kx : Int} {ki : Int} {ln : Nat} (hkind : kind = 5) {K1 K2 K3 K4 : World → Prop} (Po : Ending → World → Prop)
  (h1 : Calls Tryz.prog 41 #[.pointer (some ⟨kb, 0, none⟩), .agg #[.int .u8 kx, .int .u8 ki]] ((w.alloc (.cells #[pt cb, pt mb, pt kb, pt vb] 41)).alloc (.cells #[.int .u8 kx, .int .u8 ki] 43)).drew fun r w' => r = .returned (.int .i64 n) ∧ BQ w' cb mb kb vb w.heap.size kx ki ∧ K1 w')
  (h2 : ∀ W, K1 W → Calls Tryz.prog 42 #[.pointer (some ⟨vb, 0, none⟩), .bool v] W fun r w' => r = .returned (.int .i64 m) ∧ BQ w' cb mb kb vb w.heap.size kx ki ∧ K2 w')
  (h3 : ∀ W, K2 W → Calls Tryz.prog 47 #[.pointer (some ⟨cb, 0, none⟩)] W.drew fun r w' => r = .returned (.int .i64 ln) ∧ w' = W.drew ∧ Po (.returned (.bool true)) w')
  (h4 : ∀ W, K2 W → ∃ ad cap, W.cell? ⟨mb, 1, none⟩ = some (.slice ad ln cap)) :
  Calls Tryz.prog 10 #[.agg #[pt cb, pt mb, pt kb, pt vb], .int .i64 kind, .agg #[.int .u8 kx, .int .u8 ki], .bool v, .int .i64 stop] w Po := by
 have H1 := hidi h1
 have H2 := hidi h2
 subst hkind
 have H3 := hidi h3
 have H4 := hidi h4
 clear h1 h2 h3 h4
 obtain ⟨b0, b1, b2, b3, b4, b5⟩ := bq0 w cb mb kb vb kx ki
 unfold pt at *
 go_enter Tryz.func10, Tryz.ntmps10
 go_wp2_with fail
 refine wp_region_held_drew (S := fun w' => w'.cell? ⟨w.heap.size, 2, none⟩ = some (.pointer (some ⟨kb, 0, none⟩)) ∧ w'.cell? ⟨w.heap.size, 3, none⟩ = some (.pointer (some ⟨vb, 0, none⟩)) ∧ w'.cell? ⟨w.heap.size + 1, 0, none⟩ = some (.int .u8 kx) ∧ w'.cell? ⟨w.heap.size + 1, 1, none⟩ = some (.int .u8 ki)) (by kernel_rfl) ⟨b2, b3, b4, b5⟩ (fun hHeld => ?_)
 change wpAnyH _ _ _ _ _ 10 #[false, false, false, false, false, false, false, false, false, false] _ (World.drew _)
 refine tkH 0 zhf0 (.pointer (some ⟨w.heap.size, 2, none⟩)) hHeld ?_
 refine tkH 1 zhf1 (.pointer (some ⟨kb, 0, none⟩)) hHeld ?_
 refine tkH 2 zhf2 (.agg #[.int .u8 kx, .int .u8 ki]) hHeld ?_
 refine tkH 4 zhf3 (.pointer (some ⟨w.heap.size, 3, none⟩)) hHeld ?_
 refine tkH 5 zhf4 (.pointer (some ⟨vb, 0, none⟩)) hHeld ?_
 refine tkH 6 zhf5 (.bool v) hHeld ?_
 simp only [Act.put, nrA, nrB, nrC]
 clear b0 b1 b2 b3 b4 b5
 refine wpAnyH_ready (rs := [3]) (by kernel_rfl) (by simp) ?_
 refine AllReadyH.cons (o := zhf6) (by rfl) (fun K hK => ?_) AllReadyH.nil
 go_simp
 go_wp2_with (go_at_call 41; refine (H1.out).mono ?_; rintro e w1 ⟨rfl, ⟨b0, b1, b2, b3, b4, b5⟩, hk⟩)
 have J1 := hidi (H2.out _ hk)
 clear hk
 refine hK.out _ _ ⟨b2, b3, b4, b5⟩ (fun hHeld => ?_)
 clear hK K
 (try simp only [Act.put, nrA, nrB, nrC])
 clear b0 b1 b2 b3 b4 b5
 refine wpAnyH_ready (rs := [7]) (by kernel_rfl) (by simp) ?_
 refine AllReadyH.cons (o := zhf7) (by rfl) (fun K hK => ?_) AllReadyH.nil
 go_simp
 go_wp2_with (go_at_call 42; refine (J1.out).mono ?_; rintro e w2 ⟨rfl, ⟨b0, b1, b2, b3, b4, b5⟩, hk⟩)
 have J2 := hidi (H3.out _ hk)
 have HK := hidi hk
 clear hk J1
 refine hK.out _ _ ⟨b2, b3, b4, b5⟩ (fun hHeld => ?_)
 clear hK K
 (try simp only [Act.put, nrA, nrB, nrC])
 refine tkH 8 zhf8 (.int .i64 n) hHeld ?_
 refine tkH 9 zhf9 (.int .i64 m) hHeld ?_
 simp only [Act.put, nrA, nrB, nrC]
 refine wpAnyH_done (by kernel_rfl) ?_ _
 clear hHeld
 obtain ⟨ad, cap, m1⟩ := H4.out _ (HK.out)
 go_wp2_with fail
 refine wp_region_held_drew (S := fun w' => w'.cell? ⟨w.heap.size, 0, none⟩ = some (.pointer (some ⟨cb, 0, none⟩)) ∧ w'.cell? ⟨w.heap.size, 1, none⟩ = some (.pointer (some ⟨mb, 0, none⟩)) ∧ w'.cell? ⟨w.heap.size + 1, 0, none⟩ = some (.int .u8 kx) ∧ w'.cell? ⟨w.heap.size + 1, 1, none⟩ = some (.int .u8 ki) ∧ w'.cell? ⟨mb, 1, none⟩ = some (.slice ad ln cap)) (by kernel_rfl) ⟨b0, b1, b4, b5, m1⟩ (fun hHeld => ?_)
 change wpAnyH _ _ _ _ _ 11 #[false, false, false, false, false, false, false, false, false, false, false] _ (World.drew _)
 refine tkH 0 zhf28 (.pointer (some ⟨w.heap.size, 0, none⟩)) hHeld ?_
 refine tkH 1 zhf29 (.pointer (some ⟨cb, 0, none⟩)) hHeld ?_
 refine tkH 3 zhf30 (.pointer (some ⟨w.heap.size, 1, none⟩)) hHeld ?_
 refine tkH 4 zhf31 (.pointer (some ⟨mb, 0, none⟩)) hHeld ?_
 refine tkH 5 zhf32 (.pointer (some ⟨mb, 0, none⟩)) hHeld ?_
 refine tkH 6 zhf33 (.pointer (some ⟨mb, 1, none⟩)) hHeld ?_
 refine tkH 7 zhf34 (.slice ad ln cap) hHeld ?_
 refine tkH 8 zhf35 (.int .i64 (ln : Int)) hHeld ?_
 simp only [Act.put, nrA, nrB, nrC]
 refine wpAnyH_ready (rs := [2]) (by kernel_rfl) (by simp) ?_
 refine AllReadyH.cons (o := zhf36) (by rfl) (fun K hK => ?_) AllReadyH.nil
 go_simp
 go_wp2_with (go_at_call 47; refine (J2.out).mono ?_; rintro e w3 ⟨rfl, he, hk⟩)
 obtain rfl := he.symm
 have Z := hidi hk
 clear hk he
 refine hK.out _ _ ⟨b0, b1, b4, b5, m1⟩ (fun hHeld => ?_)
 clear hK K
 (try simp only [Act.put, nrA, nrB, nrC])
 refine tkH 9 zhf37 (.bool true) hHeld ?_
 refine tkH 10 zhf38 (.bool true) hHeld ?_
 simp only [Act.put, nrA, nrB, nrC]
 refine wpAnyH_done (by kernel_rfl) ?_ _
 clear hHeld
 go_wp2_with fail
 all_goals (try go_ret2)
 all_goals exact Z.out
theorem does_oldest {w : World} {cb mb kb vb : Nat} {kind stop n m : Int} {v : Bool} {kx : Int} {ki : Int} {ax : Int} {ai b : Int} {ok : Bool} (hkind : kind = 6) {K1 K2 K3 K4 : World → Prop} (Po : Ending → World → Prop)
  (h1 : Calls Tryz.prog 41 #[.pointer (some ⟨kb, 0, none⟩), .agg #[.int .u8 kx, .int .u8 ki]] ((w.alloc (.cells #[pt cb, pt mb, pt kb, pt vb] 41)).alloc (.cells #[.int .u8 kx, .int .u8 ki] 43)).drew fun r w' => r = .returned (.int .i64 n) ∧ BQ w' cb mb kb vb w.heap.size kx ki ∧ K1 w')
  (h2 : ∀ W, K1 W → Calls Tryz.prog 42 #[.pointer (some ⟨vb, 0, none⟩), .bool v] W fun r w' => r = .returned (.int .i64 m) ∧ BQ w' cb mb kb vb w.heap.size kx ki ∧ K2 w')
  (h3 : ∀ W, K2 W → Calls Tryz.prog 48 #[.pointer (some ⟨cb, 0, none⟩)] W fun r w' => r = .returned (.tuple #[.agg #[.int .u8 ax, .int .u8 ai], .bool ok]) ∧ BQ w' cb mb kb vb w.heap.size kx ki ∧ K3 w')
  (h4 : ∀ W, K3 W → Calls Tryz.prog 33 #[.pointer (some ⟨mb, 0, none⟩)] (W.alloc (.cells #[.int .u8 ax, .int .u8 ai] 43)) fun r w' => r = .returned (.tuple #[.int .i64 b, .bool ok]) ∧ BQ w' cb mb kb vb w.heap.size kx ki ∧ w'.cell? ⟨W.heap.size, 0, none⟩ = some (.int .u8 ax) ∧ w'.cell? ⟨W.heap.size, 1, none⟩ = some (.int .u8 ai) ∧ K4 w')
  (h5 : ∀ W, K4 W → Calls Tryz.prog 41 #[.pointer (some ⟨kb, 0, none⟩), .agg #[.int .u8 ax, .int .u8 ai]] W fun r w' => r = .returned (.int .i64 b) ∧ Po (.returned (.bool true)) w') :
  Calls Tryz.prog 10 #[.agg #[pt cb, pt mb, pt kb, pt vb], .int .i64 kind, .agg #[.int .u8 kx, .int .u8 ki], .bool v, .int .i64 stop] w Po := by
 have H1 := hidi h1
 have H2 := hidi h2
 subst hkind
 have H3 := hidi h3
 have H4 := hidi h4
 have H5 := hidi h5
 clear h1 h2 h3 h4 h5
 obtain ⟨b0, b1, b2, b3, b4, b5⟩ := bq0 w cb mb kb vb kx ki
 unfold pt at *
 go_enter Tryz.func10, Tryz.ntmps10
 go_wp2_with fail
 refine wp_region_held_drew (S := fun w' => w'.cell? ⟨w.heap.size, 2, none⟩ = some (.pointer (some ⟨kb, 0, none⟩)) ∧ w'.cell? ⟨w.heap.size, 3, none⟩ = some (.pointer (some ⟨vb, 0, none⟩)) ∧ w'.cell? ⟨w.heap.size + 1, 0, none⟩ = some (.int .u8 kx) ∧ w'.cell? ⟨w.heap.size + 1, 1, none⟩ = some (.int .u8 ki)) (by kernel_rfl) ⟨b2, b3, b4, b5⟩ (fun hHeld => ?_)
 change wpAnyH _ _ _ _ _ 10 #[false, false, false, false, false, false, false, false, false, false] _ (World.drew _)
 refine tkH 0 zhf0 (.pointer (some ⟨w.heap.size, 2, none⟩)) hHeld ?_
 refine tkH 1 zhf1 (.pointer (some ⟨kb, 0, none⟩)) hHeld ?_
 refine tkH 2 zhf2 (.agg #[.int .u8 kx, .int .u8 ki]) hHeld ?_
 refine tkH 4 zhf3 (.pointer (some ⟨w.heap.size, 3, none⟩)) hHeld ?_
 refine tkH 5 zhf4 (.pointer (some ⟨vb, 0, none⟩)) hHeld ?_
 refine tkH 6 zhf5 (.bool v) hHeld ?_
 simp only [Act.put, nrA, nrB, nrC]
 clear b0 b1 b2 b3 b4 b5
 refine wpAnyH_ready (rs := [3]) (by kernel_rfl) (by simp) ?_
 refine AllReadyH.cons (o := zhf6) (by rfl) (fun K hK => ?_) AllReadyH.nil
 go_simp
 go_wp2_with (go_at_call 41; refine (H1.out).mono ?_; rintro e w1 ⟨rfl, ⟨b0, b1, b2, b3, b4, b5⟩, hk⟩)
 have J1 := hidi (H2.out _ hk)
 clear hk
 refine hK.out _ _ ⟨b2, b3, b4, b5⟩ (fun hHeld => ?_)
 clear hK K
 (try simp only [Act.put, nrA, nrB, nrC])
 clear b0 b1 b2 b3 b4 b5
 refine wpAnyH_ready (rs := [7]) (by kernel_rfl) (by simp) ?_
 refine AllReadyH.cons (o := zhf7) (by rfl) (fun K hK => ?_) AllReadyH.nil
 go_simp
 go_wp2_with (go_at_call 42; refine (J1.out).mono ?_; rintro e w2 ⟨rfl, ⟨b0, b1, b2, b3, b4, b5⟩, hk⟩)
 have J2 := hidi (H3.out _ hk)
 clear hk J1
 refine hK.out _ _ ⟨b2, b3, b4, b5⟩ (fun hHeld => ?_)
 clear hK K
 (try simp only [Act.put, nrA, nrB, nrC])
 refine tkH 8 zhf8 (.int .i64 n) hHeld ?_
 refine tkH 9 zhf9 (.int .i64 m) hHeld ?_
 simp only [Act.put, nrA, nrB, nrC]
 refine wpAnyH_done (by kernel_rfl) ?_ _
 clear hHeld
 go_wp2_with fail
 go_must (go_at_call 48)
 refine (J2.out).mono ?_
 clear b0 b1 b2 b3 b4 b5
 rintro e w3 ⟨rfl, ⟨b0, b1, b2, b3, b4, b5⟩, hk⟩
 have J3 := hidi (H4.out _ hk)
 clear hk
 have kp : ∀ {b o : Nat} {v : Value}, w3.cell? ⟨b, o, none⟩ = some v → (w3.alloc (.cells #[.int .u8 ax, .int .u8 ai] 43)).cell? ⟨b, o, none⟩ = some v := fun {b o v} h => by rw [World.cell?_alloc_lt]; exact h; exact cell_ltk h
 have b0' := kp b0
 have b1' := kp b1
 have b2' := kp b2
 have b3' := kp b3
 clear kp
 go_wp2_with fail
 go_must (go_at_call 33)
 refine (J3.out).mono ?_
 clear b0 b1 b2 b3 b4 b5
 rintro e w4 ⟨rfl, ⟨b0, b1, b2, b3, b4, b5⟩, o0, o1, hk⟩
 have J4 := hidi (H5.out _ hk)
 clear hk
 go_wp2_with fail
 go_must (go_at_call 41)
 refine (J4.out).mono ?_
 rintro e w5 ⟨rfl, hk⟩
 have Z := hidi hk
 clear hk
 go_wp2_with fail
 all_goals (try go_ret2)
 all_goals exact Z.out
theorem does_all {w : World} {cb mb kb vb : Nat} {kind stop n m : Int} {v : Bool} {kx : Int} {ki : Int} (hkind : kind = 7) {K1 K2 K3 K4 : World → Prop} (Po : Ending → World → Prop)
  (h1 : Calls Tryz.prog 41 #[.pointer (some ⟨kb, 0, none⟩), .agg #[.int .u8 kx, .int .u8 ki]] ((w.alloc (.cells #[pt cb, pt mb, pt kb, pt vb] 41)).alloc (.cells #[.int .u8 kx, .int .u8 ki] 43)).drew fun r w' => r = .returned (.int .i64 n) ∧ BQ w' cb mb kb vb w.heap.size kx ki ∧ K1 w')
  (h2 : ∀ W, K1 W → Calls Tryz.prog 42 #[.pointer (some ⟨vb, 0, none⟩), .bool v] W fun r w' => r = .returned (.int .i64 m) ∧ BQ w' cb mb kb vb w.heap.size kx ki ∧ K2 w')
  (h3 : ∀ W, K2 W → Calls Tryz.prog 14 #[.agg #[.pointer (some ⟨cb, 0, none⟩), .pointer (some ⟨mb, 0, none⟩), .pointer (some ⟨kb, 0, none⟩), .pointer (some ⟨vb, 0, none⟩)], .int .i64 stop] W fun r w' => r = .returned (.bool true) ∧ Po (.returned (.bool true)) w') :
  Calls Tryz.prog 10 #[.agg #[pt cb, pt mb, pt kb, pt vb], .int .i64 kind, .agg #[.int .u8 kx, .int .u8 ki], .bool v, .int .i64 stop] w Po := by
 have H1 := hidi h1
 have H2 := hidi h2
 subst hkind
 have H3 := hidi h3
 clear h1 h2 h3
 obtain ⟨b0, b1, b2, b3, b4, b5⟩ := bq0 w cb mb kb vb kx ki
 unfold pt at *
 go_enter Tryz.func10, Tryz.ntmps10
 go_wp2_with fail
 refine wp_region_held_drew (S := fun w' => w'.cell? ⟨w.heap.size, 2, none⟩ = some (.pointer (some ⟨kb, 0, none⟩)) ∧ w'.cell? ⟨w.heap.size, 3, none⟩ = some (.pointer (some ⟨vb, 0, none⟩)) ∧ w'.cell? ⟨w.heap.size + 1, 0, none⟩ = some (.int .u8 kx) ∧ w'.cell? ⟨w.heap.size + 1, 1, none⟩ = some (.int .u8 ki)) (by kernel_rfl) ⟨b2, b3, b4, b5⟩ (fun hHeld => ?_)
 change wpAnyH _ _ _ _ _ 10 #[false, false, false, false, false, false, false, false, false, false] _ (World.drew _)
 refine tkH 0 zhf0 (.pointer (some ⟨w.heap.size, 2, none⟩)) hHeld ?_
 refine tkH 1 zhf1 (.pointer (some ⟨kb, 0, none⟩)) hHeld ?_
 refine tkH 2 zhf2 (.agg #[.int .u8 kx, .int .u8 ki]) hHeld ?_
 refine tkH 4 zhf3 (.pointer (some ⟨w.heap.size, 3, none⟩)) hHeld ?_
 refine tkH 5 zhf4 (.pointer (some ⟨vb, 0, none⟩)) hHeld ?_
 refine tkH 6 zhf5 (.bool v) hHeld ?_
 simp only [Act.put, nrA, nrB, nrC]
 clear b0 b1 b2 b3 b4 b5
 refine wpAnyH_ready (rs := [3]) (by kernel_rfl) (by simp) ?_
 refine AllReadyH.cons (o := zhf6) (by rfl) (fun K hK => ?_) AllReadyH.nil
 go_simp
 go_wp2_with (go_at_call 41; refine (H1.out).mono ?_; rintro e w1 ⟨rfl, ⟨b0, b1, b2, b3, b4, b5⟩, hk⟩)
 have J1 := hidi (H2.out _ hk)
 clear hk
 refine hK.out _ _ ⟨b2, b3, b4, b5⟩ (fun hHeld => ?_)
 clear hK K
 (try simp only [Act.put, nrA, nrB, nrC])
 clear b0 b1 b2 b3 b4 b5
 refine wpAnyH_ready (rs := [7]) (by kernel_rfl) (by simp) ?_
 refine AllReadyH.cons (o := zhf7) (by rfl) (fun K hK => ?_) AllReadyH.nil
 go_simp
 go_wp2_with (go_at_call 42; refine (J1.out).mono ?_; rintro e w2 ⟨rfl, ⟨b0, b1, b2, b3, b4, b5⟩, hk⟩)
 have J2 := hidi (H3.out _ hk)
 clear hk J1
 refine hK.out _ _ ⟨b2, b3, b4, b5⟩ (fun hHeld => ?_)
 clear hK K
 (try simp only [Act.put, nrA, nrB, nrC])
 refine tkH 8 zhf8 (.int .i64 n) hHeld ?_
 refine tkH 9 zhf9 (.int .i64 m) hHeld ?_
 simp only [Act.put, nrA, nrB, nrC]
 refine wpAnyH_done (by kernel_rfl) ?_ _
 clear hHeld
 go_wp2_with fail
 go_must (go_at_call 14)
 refine (J2.out).mono ?_
 rintro e w3 ⟨rfl, hk⟩
 have Z := hidi hk
 clear hk
 go_wp2_with fail
 all_goals (try go_ret2)
 all_goals exact Z.out
theorem does_else {w : World} {cb mb kb vb : Nat} {kind stop n m : Int} {v : Bool} {kx : Int} {ki : Int} (hkind : kind ≠ 1 ∧ kind ≠ 2 ∧ kind ≠ 3 ∧ kind ≠ 4 ∧ kind ≠ 5 ∧ kind ≠ 6 ∧ kind ≠ 7) {K1 K2 K3 K4 : World → Prop} (Po : Ending → World → Prop)
  (h1 : Calls Tryz.prog 41 #[.pointer (some ⟨kb, 0, none⟩), .agg #[.int .u8 kx, .int .u8 ki]] ((w.alloc (.cells #[pt cb, pt mb, pt kb, pt vb] 41)).alloc (.cells #[.int .u8 kx, .int .u8 ki] 43)).drew fun r w' => r = .returned (.int .i64 n) ∧ BQ w' cb mb kb vb w.heap.size kx ki ∧ K1 w')
  (h2 : ∀ W, K1 W → Calls Tryz.prog 42 #[.pointer (some ⟨vb, 0, none⟩), .bool v] W fun r w' => r = .returned (.int .i64 m) ∧ BQ w' cb mb kb vb w.heap.size kx ki ∧ K2 w')
  (h3 : ∀ W, K2 W → Po (.returned (.bool true)) W) :
  Calls Tryz.prog 10 #[.agg #[pt cb, pt mb, pt kb, pt vb], .int .i64 kind, .agg #[.int .u8 kx, .int .u8 ki], .bool v, .int .i64 stop] w Po := by
 have H1 := hidi h1
 have H2 := hidi h2
 obtain ⟨g1, g2, g3, g4, g5, g6, g7⟩ := hkind
 have f1 : (kind == 1) = false := by simpa using g1
 have f2 : (kind == 2) = false := by simpa using g2
 have f3 : (kind == 3) = false := by simpa using g3
 have f4 : (kind == 4) = false := by simpa using g4
 have f5 : (kind == 5) = false := by simpa using g5
 have f6 : (kind == 6) = false := by simpa using g6
 have f7 : (kind == 7) = false := by simpa using g7
 clear g1 g2 g3 g4 g5 g6 g7
 have H3 := hidi h3
 clear h1 h2 h3
 obtain ⟨b0, b1, b2, b3, b4, b5⟩ := bq0 w cb mb kb vb kx ki
 unfold pt at *
 go_enter Tryz.func10, Tryz.ntmps10
 go_wp2_with fail
 refine wp_region_held_drew (S := fun w' => w'.cell? ⟨w.heap.size, 2, none⟩ = some (.pointer (some ⟨kb, 0, none⟩)) ∧ w'.cell? ⟨w.heap.size, 3, none⟩ = some (.pointer (some ⟨vb, 0, none⟩)) ∧ w'.cell? ⟨w.heap.size + 1, 0, none⟩ = some (.int .u8 kx) ∧ w'.cell? ⟨w.heap.size + 1, 1, none⟩ = some (.int .u8 ki)) (by kernel_rfl) ⟨b2, b3, b4, b5⟩ (fun hHeld => ?_)
 change wpAnyH _ _ _ _ _ 10 #[false, false, false, false, false, false, false, false, false, false] _ (World.drew _)
 refine tkH 0 zhf0 (.pointer (some ⟨w.heap.size, 2, none⟩)) hHeld ?_
 refine tkH 1 zhf1 (.pointer (some ⟨kb, 0, none⟩)) hHeld ?_
 refine tkH 2 zhf2 (.agg #[.int .u8 kx, .int .u8 ki]) hHeld ?_
 refine tkH 4 zhf3 (.pointer (some ⟨w.heap.size, 3, none⟩)) hHeld ?_
 refine tkH 5 zhf4 (.pointer (some ⟨vb, 0, none⟩)) hHeld ?_
 refine tkH 6 zhf5 (.bool v) hHeld ?_
 simp only [Act.put, nrA, nrB, nrC]
 clear b0 b1 b2 b3 b4 b5
 refine wpAnyH_ready (rs := [3]) (by kernel_rfl) (by simp) ?_
 refine AllReadyH.cons (o := zhf6) (by rfl) (fun K hK => ?_) AllReadyH.nil
 go_simp
 go_wp2_with (go_at_call 41; refine (H1.out).mono ?_; rintro e w1 ⟨rfl, ⟨b0, b1, b2, b3, b4, b5⟩, hk⟩)
 have J1 := hidi (H2.out _ hk)
 clear hk
 refine hK.out _ _ ⟨b2, b3, b4, b5⟩ (fun hHeld => ?_)
 clear hK K
 (try simp only [Act.put, nrA, nrB, nrC])
 clear b0 b1 b2 b3 b4 b5
 refine wpAnyH_ready (rs := [7]) (by kernel_rfl) (by simp) ?_
 refine AllReadyH.cons (o := zhf7) (by rfl) (fun K hK => ?_) AllReadyH.nil
 go_simp
 go_wp2_with (go_at_call 42; refine (J1.out).mono ?_; rintro e w2 ⟨rfl, ⟨b0, b1, b2, b3, b4, b5⟩, hk⟩)
 have J2 := hidi (H3.out _ hk)
 clear hk J1
 refine hK.out _ _ ⟨b2, b3, b4, b5⟩ (fun hHeld => ?_)
 clear hK K
 (try simp only [Act.put, nrA, nrB, nrC])
 refine tkH 8 zhf8 (.int .i64 n) hHeld ?_
 refine tkH 9 zhf9 (.int .i64 m) hHeld ?_
 simp only [Act.put, nrA, nrB, nrC]
 refine wpAnyH_done (by kernel_rfl) ?_ _
 clear hHeld
 have Z := J2
 go_wp2_with fail
 all_goals (try go_ret2)
 all_goals exact Z.out
end Go.Proofs.YtdhinpmjbcohaaaGreat.Jc
