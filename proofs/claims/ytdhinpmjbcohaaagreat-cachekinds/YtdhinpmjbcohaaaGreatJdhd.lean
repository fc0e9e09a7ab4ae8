import Derived.Test.YtdhinpmjbcohaaaGreatJdgz
import Derived.Lib.MinMax
import Derived.Test.YtdhinpmjbcohaaaGreatTk
namespace Go.Proofs.YtdhinpmjbcohaaaGreat.Jd
open Go Go.RowKit Go.Shelf
set_option linter.unusedSimpArgs false
set_option linter.unusedVariables false
abbrev zha0 : Oper := { dst := some 17, op := Go.Op.load 4 (Go.Operand.tmp 4), type := 4, pos := "exact.go:108", after := #[], guard := none }
abbrev zha1 : Oper := { dst := some 18, op := Go.Op.move (Go.Operand.tmp 17), type := 4, pos := "exact.go:108", after := #[{ on := 0, ground := Go.Ground.data }], guard := none }
abbrev zha2 : Oper := { dst := some 19, op := Go.Op.move (Go.Operand.tmp 10), type := 4, pos := "exact.go:108", after := #[{ on := 1, ground := Go.Ground.guard }], guard := some (1, true) }
abbrev zha3 : Oper := { dst := some 20, op := Go.Op.pick (Go.Operand.tmp 18) (Go.Operand.tmp 19) (Go.Operand.const (Go.Value.bool false)), type := 4, pos := "exact.go:108", after := #[{ on := 1, ground := Go.Ground.data }, { on := 2, ground := Go.Ground.data }], guard := none }
abbrev zha4 : Oper := { dst := some 21, op := Go.Op.move (Go.Operand.tmp 20), type := 4, pos := "exact.go:108", after := #[{ on := 3, ground := Go.Ground.data }, { on := 1, ground := Go.Ground.chain }], guard := none }
abbrev zha5 : Oper := { dst := some 22, op := Go.Op.move (Go.Operand.tmp 9), type := 90, pos := "exact.go:108", after := #[{ on := 4, ground := Go.Ground.guard }], guard := some (4, true) }
abbrev zha6 : Oper := { dst := some 23, op := Go.Op.fieldAddr 47 (Go.Operand.tmp 2) 1, type := 0, pos := "exact.go:108", after := #[{ on := 4, ground := Go.Ground.guard }], guard := some (4, true) }
abbrev zha7 : Oper := { dst := some 24, op := Go.Op.load 24 (Go.Operand.tmp 23), type := 24, pos := "exact.go:108", after := #[{ on := 6, ground := Go.Ground.data }, { on := 4, ground := Go.Ground.guard }], guard := some (4, true) }
abbrev zha8 : Oper := { dst := some 25, op := Go.Op.nilCheck (Go.Operand.tmp 24), type := 0, pos := "exact.go:108", after := #[{ on := 7, ground := Go.Ground.data }, { on := 4, ground := Go.Ground.guard }], guard := some (4, true) }
abbrev zha9 : Oper := { dst := some 26, op := Go.Op.fieldAddr 92 (Go.Operand.tmp 25) 1, type := 0, pos := "exact.go:108", after := #[{ on := 8, ground := Go.Ground.data }, { on := 4, ground := Go.Ground.guard }], guard := some (4, true) }
abbrev zha10 : Oper := { dst := some 27, op := Go.Op.load 90 (Go.Operand.tmp 26), type := 90, pos := "exact.go:108", after := #[{ on := 9, ground := Go.Ground.data }, { on := 4, ground := Go.Ground.guard }], guard := some (4, true) }
abbrev zha11 : Oper := { dst := some 28, op := Go.Op.call { callee := Go.Callee.value (Go.Operand.func 58), args := #[Go.Operand.tmp 22, Go.Operand.tmp 27], argTypes := #[90, 90] }, type := 4, pos := "exact.go:108", after := #[{ on := 5, ground := Go.Ground.data }, { on := 10, ground := Go.Ground.data }, { on := 4, ground := Go.Ground.chain }, { on := 4, ground := Go.Ground.guard }], guard := some (4, true) }
abbrev zha12 : Oper := { dst := some 29, op := Go.Op.pick (Go.Operand.tmp 21) (Go.Operand.tmp 28) (Go.Operand.const (Go.Value.bool false)), type := 4, pos := "exact.go:108", after := #[{ on := 4, ground := Go.Ground.data }, { on := 11, ground := Go.Ground.data }], guard := none }
abbrev zha13 : Oper := { dst := some 30, op := Go.Op.move (Go.Operand.tmp 29), type := 4, pos := "exact.go:108", after := #[{ on := 12, ground := Go.Ground.data }, { on := 11, ground := Go.Ground.chain }], guard := none }
abbrev zha14 : Oper := { dst := some 31, op := Go.Op.load 3 (Go.Operand.tmp 5), type := 3, pos := "exact.go:108", after := #[{ on := 13, ground := Go.Ground.guard }], guard := some (13, true) }
abbrev zha15 : Oper := { dst := some 32, op := Go.Op.fieldAddr 47 (Go.Operand.tmp 2) 1, type := 0, pos := "exact.go:108", after := #[{ on := 13, ground := Go.Ground.guard }], guard := some (13, true) }
abbrev zha16 : Oper := { dst := some 33, op := Go.Op.load 24 (Go.Operand.tmp 32), type := 24, pos := "exact.go:108", after := #[{ on := 15, ground := Go.Ground.data }, { on := 13, ground := Go.Ground.guard }], guard := some (13, true) }
abbrev zha17 : Oper := { dst := some 34, op := Go.Op.nilCheck (Go.Operand.tmp 33), type := 0, pos := "exact.go:108", after := #[{ on := 16, ground := Go.Ground.data }, { on := 13, ground := Go.Ground.guard }], guard := some (13, true) }
abbrev zha18 : Oper := { dst := some 35, op := Go.Op.fieldAddr 92 (Go.Operand.tmp 34) 1, type := 0, pos := "exact.go:108", after := #[{ on := 17, ground := Go.Ground.data }, { on := 13, ground := Go.Ground.guard }], guard := some (13, true) }
abbrev zha19 : Oper := { dst := some 36, op := Go.Op.load 90 (Go.Operand.tmp 35), type := 90, pos := "exact.go:108", after := #[{ on := 18, ground := Go.Ground.data }, { on := 13, ground := Go.Ground.guard }], guard := some (13, true) }
abbrev zha20 : Oper := { dst := some 37, op := Go.Op.call { callee := Go.Callee.builtin Go.Builtin.len, args := #[Go.Operand.tmp 36], argTypes := #[90] }, type := 3, pos := "exact.go:108", after := #[{ on := 19, ground := Go.Ground.data }, { on := 13, ground := Go.Ground.guard }], guard := some (13, true) }
abbrev zha21 : Oper := { dst := some 38, op := Go.Op.binOp Go.BinOp.lss 3 (Go.Operand.tmp 31) (Go.Operand.tmp 37) 3, type := 4, pos := "exact.go:108", after := #[{ on := 14, ground := Go.Ground.data }, { on := 20, ground := Go.Ground.data }, { on := 13, ground := Go.Ground.guard }], guard := some (13, true) }
abbrev zha22 : Oper := { dst := some 39, op := Go.Op.pick (Go.Operand.tmp 30) (Go.Operand.tmp 38) (Go.Operand.const (Go.Value.bool false)), type := 4, pos := "exact.go:108", after := #[{ on := 13, ground := Go.Ground.data }, { on := 21, ground := Go.Ground.data }], guard := none }
abbrev zha23 : Oper := { dst := some 40, op := Go.Op.move (Go.Operand.tmp 39), type := 4, pos := "exact.go:108", after := #[{ on := 22, ground := Go.Ground.data }, { on := 13, ground := Go.Ground.chain }], guard := none }
abbrev zha24 : Oper := { dst := some 41, op := Go.Op.fieldAddr 47 (Go.Operand.tmp 2) 1, type := 0, pos := "exact.go:108", after := #[{ on := 23, ground := Go.Ground.guard }], guard := some (23, true) }
abbrev zha25 : Oper := { dst := some 42, op := Go.Op.load 24 (Go.Operand.tmp 41), type := 24, pos := "exact.go:108", after := #[{ on := 24, ground := Go.Ground.data }, { on := 23, ground := Go.Ground.guard }], guard := some (23, true) }
abbrev zha26 : Oper := { dst := some 43, op := Go.Op.nilCheck (Go.Operand.tmp 42), type := 0, pos := "exact.go:108", after := #[{ on := 25, ground := Go.Ground.data }, { on := 23, ground := Go.Ground.guard }], guard := some (23, true) }
abbrev zha27 : Oper := { dst := some 44, op := Go.Op.fieldAddr 92 (Go.Operand.tmp 43) 1, type := 0, pos := "exact.go:108", after := #[{ on := 26, ground := Go.Ground.data }, { on := 23, ground := Go.Ground.guard }], guard := some (23, true) }
abbrev zha28 : Oper := { dst := some 45, op := Go.Op.load 90 (Go.Operand.tmp 44), type := 90, pos := "exact.go:108", after := #[{ on := 27, ground := Go.Ground.data }, { on := 23, ground := Go.Ground.guard }], guard := some (23, true) }
abbrev zha29 : Oper := { dst := some 46, op := Go.Op.load 3 (Go.Operand.tmp 5), type := 3, pos := "exact.go:108", after := #[{ on := 23, ground := Go.Ground.guard }], guard := some (23, true) }
abbrev zha30 : Oper := { dst := some 47, op := Go.Op.fieldAddr 47 (Go.Operand.tmp 2) 1, type := 0, pos := "exact.go:108", after := #[{ on := 23, ground := Go.Ground.guard }], guard := some (23, true) }
abbrev zha31 : Oper := { dst := some 48, op := Go.Op.load 24 (Go.Operand.tmp 47), type := 24, pos := "exact.go:108", after := #[{ on := 30, ground := Go.Ground.data }, { on := 23, ground := Go.Ground.guard }], guard := some (23, true) }
abbrev zha32 : Oper := { dst := some 49, op := Go.Op.nilCheck (Go.Operand.tmp 48), type := 0, pos := "exact.go:108", after := #[{ on := 31, ground := Go.Ground.data }, { on := 23, ground := Go.Ground.guard }], guard := some (23, true) }
abbrev zha33 : Oper := { dst := some 50, op := Go.Op.fieldAddr 92 (Go.Operand.tmp 49) 1, type := 0, pos := "exact.go:108", after := #[{ on := 32, ground := Go.Ground.data }, { on := 23, ground := Go.Ground.guard }], guard := some (23, true) }
abbrev zha34 : Oper := { dst := some 51, op := Go.Op.load 90 (Go.Operand.tmp 50), type := 90, pos := "exact.go:108", after := #[{ on := 33, ground := Go.Ground.data }, { on := 23, ground := Go.Ground.guard }], guard := some (23, true) }
abbrev zha35 : Oper := { dst := some 52, op := Go.Op.call { callee := Go.Callee.builtin Go.Builtin.len, args := #[Go.Operand.tmp 51], argTypes := #[90] }, type := 3, pos := "exact.go:108", after := #[{ on := 34, ground := Go.Ground.data }, { on := 23, ground := Go.Ground.guard }], guard := some (23, true) }
abbrev zha36 : Oper := { dst := some 53, op := Go.Op.binOp Go.BinOp.sub 3 (Go.Operand.tmp 52) (Go.Operand.const (Go.Value.int Go.IntKind.i64 1)) 3, type := 3, pos := "exact.go:108", after := #[{ on := 35, ground := Go.Ground.data }, { on := 23, ground := Go.Ground.guard }], guard := some (23, true) }
abbrev zha37 : Oper := { dst := some 58, op := Go.Op.fieldAddr 47 (Go.Operand.tmp 2) 2, type := 0, pos := "exact.go:108", after := #[{ on := 23, ground := Go.Ground.guard }], guard := some (23, true) }
abbrev zha38 : Oper := { dst := some 59, op := Go.Op.load 39 (Go.Operand.tmp 58), type := 39, pos := "exact.go:108", after := #[{ on := 41, ground := Go.Ground.data }, { on := 23, ground := Go.Ground.guard }], guard := some (23, true) }
abbrev zha39 : Oper := { dst := some 60, op := Go.Op.move (Go.Operand.tmp 0), type := 4, pos := "exact.go:108", after := #[{ on := 23, ground := Go.Ground.guard }], guard := some (23, true) }
abbrev zha40 : Oper := { dst := some 54, op := Go.Op.call { callee := Go.Callee.builtin Go.Builtin.min, args := #[Go.Operand.tmp 46, Go.Operand.tmp 53], argTypes := #[3, 3] }, type := 3, pos := "exact.go:108", after := #[{ on := 29, ground := Go.Ground.data }, { on := 36, ground := Go.Ground.data }, { on := 23, ground := Go.Ground.guard }], guard := some (23, true) }
abbrev zha41 : Oper := { dst := some 61, op := Go.Op.call { callee := Go.Callee.value (Go.Operand.func 42), args := #[Go.Operand.tmp 59, Go.Operand.tmp 60], argTypes := #[39, 4] }, type := 3, pos := "exact.go:108", after := #[{ on := 42, ground := Go.Ground.data }, { on := 43, ground := Go.Ground.data }, { on := 23, ground := Go.Ground.chain }, { on := 23, ground := Go.Ground.guard }], guard := some (23, true) }
abbrev zha42 : Oper := { dst := some 55, op := Go.Op.indexAddr 90 (Go.Operand.tmp 45) (Go.Operand.tmp 54), type := 0, pos := "exact.go:108", after := #[{ on := 28, ground := Go.Ground.data }, { on := 37, ground := Go.Ground.data }, { on := 23, ground := Go.Ground.guard }], guard := some (23, true) }
abbrev zha43 : Oper := { dst := some 56, op := Go.Op.fieldAddr 120 (Go.Operand.tmp 55) 0, type := 0, pos := "exact.go:108", after := #[{ on := 38, ground := Go.Ground.data }, { on := 23, ground := Go.Ground.guard }], guard := some (23, true) }
abbrev zha44 : Oper := { dst := some 57, op := Go.Op.load 3 (Go.Operand.tmp 56), type := 3, pos := "exact.go:108", after := #[{ on := 39, ground := Go.Ground.data }, { on := 23, ground := Go.Ground.guard }], guard := some (23, true) }
abbrev zha45 : Oper := { dst := some 62, op := Go.Op.binOp Go.BinOp.eql 3 (Go.Operand.tmp 57) (Go.Operand.tmp 61) 3, type := 4, pos := "exact.go:108", after := #[{ on := 40, ground := Go.Ground.data }, { on := 44, ground := Go.Ground.data }, { on := 23, ground := Go.Ground.guard }], guard := some (23, true) }
abbrev zha46 : Oper := { dst := some 63, op := Go.Op.pick (Go.Operand.tmp 40) (Go.Operand.tmp 62) (Go.Operand.const (Go.Value.bool false)), type := 4, pos := "exact.go:108", after := #[{ on := 23, ground := Go.Ground.data }, { on := 45, ground := Go.Ground.data }], guard := none }
abbrev zha47 : Oper := { dst := none, op := Go.Op.store 4 (Go.Operand.tmp 4) (Go.Operand.tmp 63), type := 0, pos := "exact.go:108", after := #[{ on := 46, ground := Go.Ground.data }, { on := 44, ground := Go.Ground.chain }, { on := 0, ground := Go.Ground.phase }, { on := 1, ground := Go.Ground.phase }, { on := 2, ground := Go.Ground.phase }, { on := 3, ground := Go.Ground.phase }, { on := 4, ground := Go.Ground.phase }, { on := 5, ground := Go.Ground.phase }, { on := 6, ground := Go.Ground.phase }, { on := 7, ground := Go.Ground.phase }, { on := 8, ground := Go.Ground.phase }, { on := 9, ground := Go.Ground.phase }, { on := 10, ground := Go.Ground.phase }, { on := 11, ground := Go.Ground.phase }, { on := 12, ground := Go.Ground.phase }, { on := 13, ground := Go.Ground.phase }, { on := 14, ground := Go.Ground.phase }, { on := 15, ground := Go.Ground.phase }, { on := 16, ground := Go.Ground.phase }, { on := 17, ground := Go.Ground.phase }, { on := 18, ground := Go.Ground.phase }, { on := 19, ground := Go.Ground.phase }, { on := 20, ground := Go.Ground.phase }, { on := 21, ground := Go.Ground.phase }, { on := 22, ground := Go.Ground.phase }, { on := 23, ground := Go.Ground.phase }, { on := 24, ground := Go.Ground.phase }, { on := 25, ground := Go.Ground.phase }, { on := 26, ground := Go.Ground.phase }, { on := 27, ground := Go.Ground.phase }, { on := 28, ground := Go.Ground.phase }, { on := 29, ground := Go.Ground.phase }, { on := 30, ground := Go.Ground.phase }, { on := 31, ground := Go.Ground.phase }, { on := 32, ground := Go.Ground.phase }, { on := 33, ground := Go.Ground.phase }, { on := 34, ground := Go.Ground.phase }, { on := 35, ground := Go.Ground.phase }, { on := 36, ground := Go.Ground.phase }, { on := 37, ground := Go.Ground.phase }, { on := 38, ground := Go.Ground.phase }, { on := 39, ground := Go.Ground.phase }, { on := 40, ground := Go.Ground.phase }, { on := 41, ground := Go.Ground.phase }, { on := 42, ground := Go.Ground.phase }, { on := 43, ground := Go.Ground.phase }, { on := 44, ground := Go.Ground.phase }, { on := 45, ground := Go.Ground.phase }, { on := 46, ground := Go.Ground.phase }], guard := none }
set_option maxRecDepth 100000
set_option maxHeartbeats 4000000
open Rf (e2 e2_len e2_app e2_one ER own_er own_shape app_many addr0)

theorem w64' {x : Int} (h1 : -9223372036854775808 ≤ x) (h2 : x ≤ 9223372036854775807) : wrap64 x = x := by
 unfold wrap64
 omega
structure AF (Ca : World → Prop) (pb wb ib mb kb g j n cap rn kn : Nat) (k : Bool) (iv : Value) (W1 : World) : Prop where
 r1 : W1.cell? ⟨pb, 1, none⟩ = some (pt mb)
 r2 : W1.cell? ⟨pb, 2, none⟩ = some (pt kb)
 s1 : W1.cell? ⟨mb, 1, none⟩ = some (.slice (some ⟨g, 0, none⟩) n cap)
 t0 : W1.cell? ⟨wb, 0, none⟩ = some (.bool true)
 t1 : W1.cell? ⟨ib, 0, none⟩ = some (.int .i64 j)
 u0 : W1.cell? ⟨g, j * 2, none⟩ = some (.int .i64 rn)
 ft0 : W1.frozen? ⟨wb, 0, none⟩ = false
 ft1 : W1.frozen? ⟨ib, 0, none⟩ = false
 h42 : Calls Tryz.prog 58 #[iv, .slice (some ⟨g, 0, none⟩) n cap] W1.drew fun r w' => r = .returned (.bool true) ∧ ∃ m, w' = W1.drew.drewN m
 h27 : ∀ m, Calls Tryz.prog 42 #[pt kb, .bool k] (W1.drew.drewN m) fun r w' => r = .returned (.int .i64 kn) ∧ w' = W1.drew.drewN m
 hq : ∀ m, Ca (((W1.drew.drewN m).setCell ⟨wb, 0, none⟩ (.bool ((rn : Int) == kn))).setCell ⟨ib, 0, none⟩ (.int .i64 ((j : Int) + 1)))
theorem allc_walk {Ca : World → Prop} {W : World} {pb fb wb ib cb mb kb vb j n g cap kn rn : Nat} {fv : Value} {k : Bool} {x : Int} (hj : j < n) (hn : n ≤ 100000)
  (p0 : W.cell? ⟨pb, 0, none⟩ = some (pt cb)) (p1 : W.cell? ⟨pb, 1, none⟩ = some (pt mb)) (p2 : W.cell? ⟨pb, 2, none⟩ = some (pt kb)) (p3 : W.cell? ⟨pb, 3, none⟩ = some (pt vb)) (q0 : W.cell? ⟨fb, 0, none⟩ = some fv) (hfv : ∃ a, fv = .func (.func 92) #[] #[a])
  (hwi : wb ≠ ib) (hwp : wb ≠ pb) (hwm : wb ≠ mb) (hwg : wb ≠ g)
  (h41 : Calls Tryz.prog 67 #[.agg #[pt cb, pt mb, pt kb, pt vb], fv, .int .i64 (-1)] W fun r W1 => ∃ iv, r = .returned (.tuple #[iv, .bool true]) ∧ AF Ca pb wb ib mb kb g j n cap rn kn k iv W1) :
  Calls Tryz.prog 68 #[.bool k, .int .u8 x, pt pb, pt fb, pt wb, pt ib] W fun r w' => r = .returned (.bool ((rn : Int) == kn && decide ((j : Int) + 1 < 3))) ∧ Ca w' := by
 obtain ⟨fa, rfl⟩ := hfv
 have H41 : Hid (Calls Tryz.prog 67 #[.agg #[pt cb, pt mb, pt kb, pt vb], .func (.func 92) #[] #[fa], .int .i64 (-1)] W fun r W1 => ∃ iv, r = .returned (.tuple #[iv, .bool true]) ∧ AF Ca pb wb ib mb kb g j n cap rn kn k iv W1) := h41
 have e1 : (j : Int) < (n : Int) := by omega
 have e2' : wrap64 ((n : Int) - 1) = (n : Int) - 1 := w64' (by omega) (by omega)
 have e3 : min (j : Int) ((n : Int) - 1) = (j : Int) := by omega
 have e4 : (0 : Int) ≤ (j : Int) := by omega
 have e6 : IntKind.i64.wrap ((n : Int) - 1) = (n : Int) - 1 := by rw [IntKind.wrap_i64]; omega
 have e7 : IntKind.i64.wrap ((j : Int) + 1) = (j : Int) + 1 := by rw [IntKind.wrap_i64]; omega
 have e5 : wrap64 ((j : Int) + 1) = (j : Int) + 1 := w64' (by omega) (by omega)
 obtain ⟨bo, hbo⟩ : ∃ bo, ((rn : Int) == kn) = bo := ⟨_, rfl⟩
 rw [hbo]
 obtain ⟨bt, hbt⟩ : ∃ bt, decide ((j : Int) + 1 < 3) = bt := ⟨_, rfl⟩
 rw [hbt]
 unfold pt at *
 clear h41 hj hn
 go_enter Tryz.func68, Tryz.ntmps68
 go_wp2_with fail
 go_must (go_at_call 67)
 refine (H41.out).mono ?_
 rintro r W1 ⟨iv, rfl, af⟩
 have H42 : Hid (Calls Tryz.prog 58 #[iv, .slice (some ⟨g, 0, none⟩) n cap] W1.drew fun r w' => r = .returned (.bool true) ∧ ∃ m, w' = W1.drew.drewN m) := af.h42
 have H27 : Hid (∀ m, Calls Tryz.prog 42 #[.pointer (some ⟨kb, 0, none⟩), .bool k] (W1.drew.drewN m) fun r w' => r = .returned (.int .i64 kn) ∧ w' = W1.drew.drewN m) := af.h27
 have HQ : Hid (∀ m, Ca (((W1.drew.drewN m).setCell ⟨wb, 0, none⟩ (.bool ((rn : Int) == kn))).setCell ⟨ib, 0, none⟩ (.int .i64 ((j : Int) + 1)))) := af.hq
 have r1 : W1.cell? ⟨pb, 1, none⟩ = some (.pointer (some ⟨mb, 0, none⟩)) := af.r1
 have r2 : W1.cell? ⟨pb, 2, none⟩ = some (.pointer (some ⟨kb, 0, none⟩)) := af.r2
 have s1 := af.s1
 have t0 := af.t0
 have t1 := af.t1
 have u0 := af.u0
 have ft0 := af.ft0
 have ft1 := af.ft1
 clear af H41 p0 p1 p2 p3 q0
 rw [hbo] at HQ
 go_wp2_with fail
 refine wp_region_held_drew (S := fun w' => w'.cell? ⟨pb, 1, none⟩ = some (.pointer (some ⟨mb, 0, none⟩)) ∧ w'.cell? ⟨pb, 2, none⟩ = some (.pointer (some ⟨kb, 0, none⟩)) ∧ w'.cell? ⟨mb, 1, none⟩ = some (.slice (some ⟨g, 0, none⟩) n cap) ∧ w'.cell? ⟨ib, 0, none⟩ = some (.int .i64 j) ∧ w'.cell? ⟨g, j * 2, none⟩ = some (.int .i64 rn)) (by kernel_rfl) ⟨r1, r2, s1, t1, u0⟩ (fun hHeld => ?_)
 change wpAnyH _ _ _ _ _ 48 #[false, false, false, false, false, false, false, false, false, false, false, false, false, false, false, false, false, false, false, false, false, false, false, false, false, false, false, false, false, false, false, false, false, false, false, false, false, false, false, false, false, false, false, false, false, false, false, false] _ (World.drew _)
 refine wpAnyH_ready (rs := [0]) (by kernel_rfl) (by simp) ?_
 refine AllReadyH.cons (o := zha0) (by rfl) (fun K hK => ?_) AllReadyH.nil
 go_simp
 refine hK.out _ _ ⟨r1, r2, s1, t1, u0⟩ (fun hHeld => ?_)
 clear hK K
 (try simp only [Act.put, nrA, nrB, nrC])
 refine tkH 1 zha1 (.bool true) hHeld ?_
 refine tkH 2 zha2 (.bool true) hHeld ?_
 refine tkH 3 zha3 (.bool true) hHeld ?_
 refine tkH 4 zha4 (.bool true) hHeld ?_
 refine tkH 5 zha5 (iv) hHeld ?_
 refine tkH 6 zha6 (.pointer (some ⟨pb, 1, none⟩)) hHeld ?_
 refine tkH 7 zha7 (.pointer (some ⟨mb, 0, none⟩)) hHeld ?_
 refine tkH 8 zha8 (.pointer (some ⟨mb, 0, none⟩)) hHeld ?_
 refine tkH 9 zha9 (.pointer (some ⟨mb, 1, none⟩)) hHeld ?_
 refine tkH 10 zha10 (.slice (some ⟨g, 0, none⟩) n cap) hHeld ?_
 simp only [Act.put, nrA, nrB, nrC]
 refine wpAnyH_ready (rs := [11]) (by kernel_rfl) (by simp) ?_
 refine AllReadyH.cons (o := zha11) (by rfl) (fun K hK => ?_) AllReadyH.nil
 go_simp
 go_wp2_with (go_at_call 58; refine (H42.out).mono ?_; rintro e W2 ⟨rfl, hm⟩)
 obtain ⟨m, hm⟩ := hm
 have HM : Hid (W2 = W1.drew.drewN m) := hm
 have y1 : W2.cell? ⟨pb, 1, none⟩ = _ := (congrArg (fun q : World => q.cell? ⟨pb, 1, none⟩) hm).trans r1
 have y2 : W2.cell? ⟨pb, 2, none⟩ = _ := (congrArg (fun q : World => q.cell? ⟨pb, 2, none⟩) hm).trans r2
 have y3 : W2.cell? ⟨mb, 1, none⟩ = _ := (congrArg (fun q : World => q.cell? ⟨mb, 1, none⟩) hm).trans s1
 have y4 : W2.cell? ⟨ib, 0, none⟩ = _ := (congrArg (fun q : World => q.cell? ⟨ib, 0, none⟩) hm).trans t1
 have y5 : W2.cell? ⟨g, j * 2, none⟩ = _ := (congrArg (fun q : World => q.cell? ⟨g, j * 2, none⟩) hm).trans u0
 have t0' : W2.cell? ⟨wb, 0, none⟩ = _ := (congrArg (fun q : World => q.cell? ⟨wb, 0, none⟩) hm).trans t0
 have g0 : W2.frozen? ⟨wb, 0, none⟩ = false := (congrArg (fun q : World => q.frozen? ⟨wb, 0, none⟩) hm).trans ft0
 have g1 : W2.frozen? ⟨ib, 0, none⟩ = false := (congrArg (fun q : World => q.frozen? ⟨ib, 0, none⟩) hm).trans ft1
 have H27' : Hid (Calls Tryz.prog 42 #[.pointer (some ⟨kb, 0, none⟩), .bool k] W2 fun r w' => r = .returned (.int .i64 kn) ∧ w' = W2) := by
  have := H27.out m
  rw [← hm] at this
  exact this
 have oth : ∀ (b o : Nat) (v : Value), wb ≠ b → W2.cell? ⟨b, o, none⟩ = some v → (W2.setCell ⟨wb, 0, none⟩ (.bool bo)).cell? ⟨b, o, none⟩ = some v := fun b o v hb hc => (World.cell?_setCell_other W2 _ _ _ (fun e => hb (congrArg Addr.block e))).trans hc
 have z1 := oth pb 1 _ hwp y1
 have z2 := oth pb 2 _ hwp y2
 have z3 := oth mb 1 _ hwm y3
 have z4 := oth ib 0 _ hwi y4
 have z5 := oth g (j * 2) _ hwg y5
 clear oth hm r1 r2 s1 t0 t1 u0 ft0 ft1 H42
 refine hK.out _ _ ⟨y1, y2, y3, y4, y5⟩ (fun hHeld => ?_)
 clear hK K
 (try simp only [Act.put, nrA, nrB, nrC])
 refine tkH 12 zha12 (.bool true) hHeld ?_
 refine tkH 13 zha13 (.bool true) hHeld ?_
 refine tkH 14 zha14 (.int .i64 (j : Int)) hHeld ?_
 refine tkH 15 zha15 (.pointer (some ⟨pb, 1, none⟩)) hHeld ?_
 refine tkH 16 zha16 (.pointer (some ⟨mb, 0, none⟩)) hHeld ?_
 refine tkH 17 zha17 (.pointer (some ⟨mb, 0, none⟩)) hHeld ?_
 refine tkH 18 zha18 (.pointer (some ⟨mb, 1, none⟩)) hHeld ?_
 refine tkH 19 zha19 (.slice (some ⟨g, 0, none⟩) n cap) hHeld ?_
 refine tkH 20 zha20 (.int .i64 (n : Int)) hHeld ?_
 refine tkH 21 zha21 (.bool true) hHeld ?_
 refine tkH 22 zha22 (.bool true) hHeld ?_
 refine tkH 23 zha23 (.bool true) hHeld ?_
 refine tkH 24 zha24 (.pointer (some ⟨pb, 1, none⟩)) hHeld ?_
 refine tkH 25 zha25 (.pointer (some ⟨mb, 0, none⟩)) hHeld ?_
 refine tkH 26 zha26 (.pointer (some ⟨mb, 0, none⟩)) hHeld ?_
 refine tkH 27 zha27 (.pointer (some ⟨mb, 1, none⟩)) hHeld ?_
 refine tkH 28 zha28 (.slice (some ⟨g, 0, none⟩) n cap) hHeld ?_
 refine tkH 29 zha29 (.int .i64 (j : Int)) hHeld ?_
 refine tkH 30 zha30 (.pointer (some ⟨pb, 1, none⟩)) hHeld ?_
 refine tkH 31 zha31 (.pointer (some ⟨mb, 0, none⟩)) hHeld ?_
 refine tkH 32 zha32 (.pointer (some ⟨mb, 0, none⟩)) hHeld ?_
 refine tkH 33 zha33 (.pointer (some ⟨mb, 1, none⟩)) hHeld ?_
 refine tkH 34 zha34 (.slice (some ⟨g, 0, none⟩) n cap) hHeld ?_
 refine tkH 35 zha35 (.int .i64 (n : Int)) hHeld ?_
 refine tkH 36 zha36 (.int .i64 ((n : Int) - 1)) hHeld ?_
 refine tkH 41 zha37 (.pointer (some ⟨pb, 2, none⟩)) hHeld ?_
 refine tkH 42 zha38 (.pointer (some ⟨kb, 0, none⟩)) hHeld ?_
 refine tkH 43 zha39 (.bool k) hHeld ?_
 simp only [Act.put, nrA, nrB, nrC]
 refine wpAnyH_ready (rs := [37, 44]) (by kernel_rfl) (by simp) ?_
 refine AllReadyH.cons (o := zha40) (by rfl) (fun K hK => ?_) (AllReadyH.cons (o := zha41) (by rfl) (fun K hK => ?_) AllReadyH.nil)
 ·
  go_simp
  refine hK.out _ _ ⟨y1, y2, y3, y4, y5⟩ (fun hHeld => ?_)
  clear hK K
  (try simp only [Act.put, nrA, nrB, nrC])
  refine tkH 38 zha42 (.pointer (some ⟨g, j * 2, none⟩)) hHeld ?_
  refine tkH 39 zha43 (.pointer (some ⟨g, j * 2, none⟩)) hHeld ?_
  refine tkH 40 zha44 (.int .i64 (rn : Int)) hHeld ?_
  simp only [Act.put, nrA, nrB, nrC]
  refine wpAnyH_ready (rs := [44]) (by kernel_rfl) (by simp) ?_
  refine AllReadyH.cons (o := zha41) (by rfl) (fun K hK => ?_) AllReadyH.nil
  go_simp
  go_wp2_with (go_at_call 42; refine (H27'.out).mono ?_; rintro e w' ⟨rfl, he⟩; obtain rfl := he.symm; clear he)
  refine hK.out _ _ ⟨y1, y2, y3, y4, y5⟩ (fun hHeld => ?_)
  clear hK K
  (try simp only [Act.put, nrA, nrB, nrC])
  refine tkH 45 zha45 (.bool bo) hHeld ?_
  refine tkH 46 zha46 (.bool bo) hHeld ?_
  simp only [Act.put, nrA, nrB, nrC]
  refine wpAnyH_ready (rs := [47]) (by kernel_rfl) (by simp) ?_
  refine AllReadyH.cons (o := zha47) (by rfl) (fun K hK => ?_) AllReadyH.nil
  go_simp
  refine hK.out _ _ ⟨z1, z2, z3, z4, z5⟩ (fun hHeld => ?_)
  clear hK K
  (try simp only [Act.put, nrA, nrB, nrC])
  refine wpAnyH_done (by kernel_rfl) ?_ _
  have x0 : (W2.setCell ⟨wb, 0, none⟩ (.bool bo)).cell? ⟨wb, 0, none⟩ = some (.bool bo) := World.cell?_setCell_same _ _ _ t0'
  have x1 : (W2.setCell ⟨wb, 0, none⟩ (.bool bo)).frozen? ⟨ib, 0, none⟩ = false := (World.frozen?_setCell _ _ _ _).trans g1
  obtain ⟨W3, hW3⟩ : ∃ W3, W3 = W2.setCell ⟨wb, 0, none⟩ (.bool bo) := ⟨_, rfl⟩
  have HQ3 : Hid (Ca (W3.setCell ⟨ib, 0, none⟩ (.int .i64 ((j : Int) + 1)))) := by
   have hq := HQ.out m
   rw [← HM.out, ← hW3] at hq
   exact hq
  rw [← hW3] at z1 z2 z3 z4 z5 x0 x1 ⊢
  have x2 : (W3.setCell ⟨ib, 0, none⟩ (.int .i64 ((j : Int) + 1))).cell? ⟨wb, 0, none⟩ = some (.bool bo) := (World.cell?_setCell_other W3 _ _ _ (fun e => hwi (congrArg Addr.block e).symm)).trans x0
  have x3 : (W3.setCell ⟨ib, 0, none⟩ (.int .i64 ((j : Int) + 1))).cell? ⟨ib, 0, none⟩ = some (.int .i64 ((j : Int) + 1)) := World.cell?_setCell_same _ _ _ z4
  clear hW3 HQ HM hHeld y1 y2 y3 y4 y5 t0' g0 g1 H27' H27
  go_wp2_with fail
  all_goals go_ret
  all_goals exact ⟨by simp_all, HQ3.out⟩
 ·
  go_simp
  go_wp2_with (go_at_call 42; refine (H27'.out).mono ?_; rintro e w' ⟨rfl, he⟩; obtain rfl := he.symm; clear he)
  refine hK.out _ _ ⟨y1, y2, y3, y4, y5⟩ (fun hHeld => ?_)
  clear hK K
  (try simp only [Act.put, nrA, nrB, nrC])
  refine wpAnyH_ready (rs := [37]) (by kernel_rfl) (by simp) ?_
  refine AllReadyH.cons (o := zha40) (by rfl) (fun K hK => ?_) AllReadyH.nil
  go_simp
  refine hK.out _ _ ⟨y1, y2, y3, y4, y5⟩ (fun hHeld => ?_)
  clear hK K
  (try simp only [Act.put, nrA, nrB, nrC])
  refine tkH 38 zha42 (.pointer (some ⟨g, j * 2, none⟩)) hHeld ?_
  refine tkH 39 zha43 (.pointer (some ⟨g, j * 2, none⟩)) hHeld ?_
  refine tkH 40 zha44 (.int .i64 (rn : Int)) hHeld ?_
  refine tkH 45 zha45 (.bool bo) hHeld ?_
  refine tkH 46 zha46 (.bool bo) hHeld ?_
  simp only [Act.put, nrA, nrB, nrC]
  refine wpAnyH_ready (rs := [47]) (by kernel_rfl) (by simp) ?_
  refine AllReadyH.cons (o := zha47) (by rfl) (fun K hK => ?_) AllReadyH.nil
  go_simp
  refine hK.out _ _ ⟨z1, z2, z3, z4, z5⟩ (fun hHeld => ?_)
  clear hK K
  (try simp only [Act.put, nrA, nrB, nrC])
  refine wpAnyH_done (by kernel_rfl) ?_ _
  have x0 : (W2.setCell ⟨wb, 0, none⟩ (.bool bo)).cell? ⟨wb, 0, none⟩ = some (.bool bo) := World.cell?_setCell_same _ _ _ t0'
  have x1 : (W2.setCell ⟨wb, 0, none⟩ (.bool bo)).frozen? ⟨ib, 0, none⟩ = false := (World.frozen?_setCell _ _ _ _).trans g1
  obtain ⟨W3, hW3⟩ : ∃ W3, W3 = W2.setCell ⟨wb, 0, none⟩ (.bool bo) := ⟨_, rfl⟩
  have HQ3 : Hid (Ca (W3.setCell ⟨ib, 0, none⟩ (.int .i64 ((j : Int) + 1)))) := by
   have hq := HQ.out m
   rw [← HM.out, ← hW3] at hq
   exact hq
  rw [← hW3] at z1 z2 z3 z4 z5 x0 x1 ⊢
  have x2 : (W3.setCell ⟨ib, 0, none⟩ (.int .i64 ((j : Int) + 1))).cell? ⟨wb, 0, none⟩ = some (.bool bo) := (World.cell?_setCell_other W3 _ _ _ (fun e => hwi (congrArg Addr.block e).symm)).trans x0
  have x3 : (W3.setCell ⟨ib, 0, none⟩ (.int .i64 ((j : Int) + 1))).cell? ⟨ib, 0, none⟩ = some (.int .i64 ((j : Int) + 1)) := World.cell?_setCell_same _ _ _ z4
  clear hW3 HQ HM hHeld y1 y2 y3 y4 y5 t0' g0 g1 H27' H27
  go_wp2_with fail
  all_goals go_ret
  all_goals exact ⟨by simp_all, HQ3.out⟩
end Go.Proofs.YtdhinpmjbcohaaaGreat.Jd
namespace Go.Proofs.YtdhinpmjbcohaaaGreat.Jd
open Go Go.RowKit Go.Shelf
set_option linter.unusedSimpArgs false
set_option linter.unusedVariables false
set_option maxRecDepth 100000
set_option maxHeartbeats 4000000
open Rf (e2 e2_len e2_app e2_one e2_at ER own_er own_shape app_many addr0 RS)

structure AS (w : World) (cb room mb rm kb vb Bc pb fb wb ib ft : Nat) (mv : Value) (L : List Nat) (nn oo : Nat → Nat) (ky : Nat → Bool) (vl : Nat → Int) (C : List Bool) (D : List Int) (G1 G2 G3 : Nat → Prop) : Prop where
 ca : Kd.CA w cb room mv L nn oo ky vl
 hl : L.length ≤ 100000
 bc : w.heap[Bc]? = some (.cells #[pt cb] 44 (0, 0))
 k : Qo.CD w kb C G1
 v : Qy.CD w vb D G2
 hC : ∀ b ∈ L, ky b ∈ C
 hD : ∀ b ∈ L, vl b ∈ D
 lC : C.length ≤ 900000
 lD : D.length ≤ 900000
 m : RS w mb rm (L.map (num ky vl C D)) G3
 p : w.heap[pb]? = some (.cells #[pt cb, pt mb, pt kb, pt vb] 47 (0, 0))
 f : w.heap[fb]? = some (.cells #[.func (.func 92) #[] #[pt Bc]] ft (0, 0))
 ne : wb ≠ ib
 un : ∀ z, z = wb ∨ z = ib → ¬ Kd.FP cb mv L z ∧ ¬ G1 z ∧ ¬ G2 z ∧ ¬ G3 z ∧ z ≠ Bc ∧ z ≠ pb ∧ z ≠ fb ∧ z < w.heap.size
def Tq (w W : World) : Prop := W.os = w.os ∧ W.tape = w.tape ∧ W.output = w.output
def AI {L : List Nat} (w : World) (wb ib : Nat) (pre : List {b : Nat // b ∈ L}) (W : World) : Prop :=
 W.heap[wb]? = some (.cells #[.bool true] 4 (0, 0)) ∧ W.heap[ib]? = some (.cells #[.int .i64 pre.length] 3 (0, 0)) ∧ w.heap.size ≤ W.heap.size ∧ (∀ j, j < w.heap.size → j ≠ wb → j ≠ ib → W.heap[j]? = w.heap[j]?) ∧ Tq w W
def AX {L : List Nat} (w : World) (wb ib : Nat) (pre : List {b : Nat // b ∈ L}) (W : World) : Prop :=
 (∃ b, W.heap[wb]? = some (.cells #[.bool b] 4 (0, 0)) ∧ (pre = L.attach.take pre.length → b = true)) ∧ w.heap.size ≤ W.heap.size ∧ (∀ j, j < w.heap.size → j ≠ wb → j ≠ ib → W.heap[j]? = w.heap[j]?) ∧ Tq w W
theorem AI.own {L : List Nat} {w : World} {wb ib : Nat} : OwnFrom w.heap.size (AI (L := L) w wb ib) := by
 intro s A B row hs hg hr
 obtain ⟨h1, h2, h3, h4, t1, t2, t3⟩ := hs
 have hr2 : ∀ r, row = some r → ∃ o : Obj, A.heap[r]? = some o ∧ o.isCells = false := fun r e => (hr r e).2
 exact ⟨(kept_cells hg hr2 h1).trans h1, (kept_cells hg hr2 h2).trans h2, Nat.le_trans h3 hg.size, fun j hj q1 q2 => (hg.block j (by omega) (fun e => by
  have := (hr j e.symm).1
  omega)).trans (h4 j hj q1 q2), hg.os.trans t1, hg.tape.trans t2, hg.output.trans t3⟩
theorem AX.own {L : List Nat} {w : World} {wb ib : Nat} : OwnFrom w.heap.size (AX (L := L) w wb ib) := by
 intro s A B row hs hg hr
 obtain ⟨⟨b, h1, h2⟩, h3, h4, t1, t2, t3⟩ := hs
 have hr2 : ∀ r, row = some r → ∃ o : Obj, A.heap[r]? = some o ∧ o.isCells = false := fun r e => (hr r e).2
 exact ⟨⟨b, (kept_cells hg hr2 h1).trans h1, h2⟩, Nat.le_trans h3 hg.size, fun j hj q1 q2 => (hg.block j (by omega) (fun e => by
  have := (hr j e.symm).1
  omega)).trans (h4 j hj q1 q2), hg.os.trans t1, hg.tape.trans t2, hg.output.trans t3⟩
theorem AS.yield {w W : World} {cb room mb rm kb vb Bc pb fb wb ib ft : Nat} {mv : Value} {L : List Nat} {nn oo : Nat → Nat} {ky : Nat → Bool} {vl : Nat → Int} {C : List Bool} {D : List Int} {G1 G2 G3 : Nat → Prop}
  (h : AS w cb room mb rm kb vb Bc pb fb wb ib ft mv L nn oo ky vl C D G1 G2 G3) (pre : List {b : Nat // b ∈ L}) (x : {b : Nat // b ∈ L}) (hi : AI w wb ib pre W) (hlt : pre.length < L.length) (hsz : w.heap.size + 2 ≤ W.heap.size) :
  Calls Tryz.prog 68 #[Kd.kc (ky x.1), Kd.vc (vl x.1), pt pb, pt fb, pt wb, pt ib] W fun r W' =>
   (Kd.Cy W W' ∧ W.heap.size ≤ W'.heap.size) ∧ Kd.Kq (fun j => Kd.FP cb mv L j ∨ j = w.heap.size ∨ j = w.heap.size + 1) W W' ∧ ∃ b, r = .returned (.bool b) ∧ (b = true → AI w wb ib (pre ++ [x]) W') ∧ (b = false → AX w wb ib (pre ++ [x]) W') := by
 obtain ⟨i1, i2, i3, i4, t1, t2, t3⟩ := hi
 obtain ⟨u1, u2, u3, u4, u5, u6, u7, u8⟩ := h.un wb (.inl rfl)
 obtain ⟨v1, v2, v3, v4, v5, v6, v7, v8⟩ := h.un ib (.inr rfl)
 have hne := h.ne
 have kp : ∀ (S : Nat → Prop), ¬ S wb → ¬ S ib → (∀ j, S j → j < w.heap.size) → ∀ j, S j → W.heap[j]? = w.heap[j]? := fun S a b c j hj => i4 j (c j hj) (fun e => a (e ▸ hj)) (fun e => b (e ▸ hj))
 have hp : W.heap[pb]? = _ := (i4 pb (Array.getElem?_eq_some_iff.1 h.p).1 (Ne.symm u6) (Ne.symm v6)).trans h.p
 have hf : W.heap[fb]? = _ := (i4 fb (Array.getElem?_eq_some_iff.1 h.f).1 (Ne.symm u7) (Ne.symm v7)).trans h.f
 have hbc : W.heap[Bc]? = _ := (i4 Bc (Array.getElem?_eq_some_iff.1 h.bc).1 (Ne.symm u5) (Ne.symm v5)).trans h.bc
 have hca : Kd.CA W cb room mv L nn oo ky vl := h.ca.keep (kp _ u1 v1 (fun j hj => h.ca.lt hj))
 have hk : Qo.CD W kb C G1 := h.k.keep (kp _ u2 v2 (fun j hj => h.k.lt hj))
 have hv : Qy.CD W vb D G2 := h.v.keep (kp _ u3 v3 (fun j hj => h.v.lt hj))
 have hm : RS W mb rm (L.map (num ky vl C D)) G3 := h.m.keep (kp _ u4 v4 (fun j hj => h.m.lt hj))
 have hml : (L.map (num ky vl C D)).length = L.length := by simp
 obtain ⟨⟨va, hma, hmo, hmg⟩, hmn⟩ := hm
 obtain ⟨a, cap, rfl⟩ := own_shape hmo
 have hLne : L.map (num ky vl C D) ≠ [] := fun e => by rw [e] at hml; simp at hml; omega
 obtain ⟨a', c', e', _, hg⟩ := own_er hmo
 obtain ⟨g, rfl, _⟩ := hg hLne
 cases e'
 have hgb : G3 g := (hmg g).2 (.inr rfl)
 obtain ⟨y, hy⟩ : ∃ y, L[pre.length]? = some y := ⟨_, List.getElem?_eq_getElem hlt⟩
 have hyL : y ∈ L := List.mem_of_getElem? hy
 have hMy : (L.map (num ky vl C D))[pre.length]? = some (num ky vl C D y) := by rw [List.getElem?_map, hy]; rfl
 have hbo : ((ix (ky y) C : Int) == (ix (ky x.1) C : Int)) = true ↔ y = x.1 := by
  constructor
  ·
   intro e
   have e := eq_of_beq e
   exact h.ca.ks y hyL x.1 x.2 (ix_inj (h.hC y hyL) (h.hC x.1 x.2) (by omega))
  ·
   intro e
   rw [e]
   simp
 refine (allc_walk (Ca := fun W' => (Kd.Cy W W' ∧ W.heap.size ≤ W'.heap.size) ∧ Kd.Kq (fun j => Kd.FP cb mv L j ∨ j = w.heap.size ∨ j = w.heap.size + 1) W W' ∧ W'.heap[wb]? = some (.cells #[.bool ((ix (ky y) C : Int) == (ix (ky x.1) C : Int))] 4 (0, 0)) ∧ W'.heap[ib]? = some (.cells #[.int .i64 ((pre.length : Int) + 1)] 3 (0, 0)) ∧ w.heap.size ≤ W'.heap.size ∧ (∀ j, j < w.heap.size → j ≠ wb → j ≠ ib → W'.heap[j]? = w.heap[j]?) ∧ Tq w W')
  (j := pre.length) (n := (L.map (num ky vl C D)).length) (g := g) (cap := cap) (rn := ix (ky y) C) (kn := ix (ky x.1) C) (mb := mb) (vb := vb) (by omega) (by have := h.hl; omega) (box_cells hp 0 _ rfl) (box_cells hp 1 _ rfl) (box_cells hp 2 _ rfl) (box_cells hp 3 _ rfl) (box_cells hf 0 _ rfl) ⟨_, rfl⟩ hne u6
  (fun e => u4 (by rw [e]; exact (hmg mb).2 (.inl rfl))) (fun e => u4 (by rw [e]; exact hgb)) ((given_any hca h.hl hbc hk hv h.hC h.hD h.lC h.lD (-1)).mono ?_)).mono ?_
 ·
  rintro r W1 ⟨iv, rfl, hiv, hbel⟩
  have htk : tk (-1) (L.map (num ky vl C D)) = L.map (num ky vl C D) := rfl
  rw [htk] at hiv
  have kb1 : ∀ {j : Nat} {o : Obj}, W.heap[j]? = some o → W1.heap[j]? = some o := fun hj => (hbel.block _ (Array.getElem?_eq_some_iff.1 hj).1).trans hj
  have hmo1 : W1.ownsRow 0 120 2 (.slice (some ⟨g, 0, none⟩) (L.map (num ky vl C D)).length cap) (L.map (num ky vl C D)).length (e2 (L.map (num ky vl C D))) := Rf.own_keep hmo (fun k hk => by
   obtain ⟨c, hc⟩ := Rf.own_blk hmo hk
   exact (kb1 hc).trans hc.symm)
  have hk1 : Qo.CD W1 kb C G1 := hk.keep (fun j hj => hbel.block j (hk.lt hj))
  have hu0 : W1.cell? ⟨g, pre.length * 2, none⟩ = some (.int .i64 (ix (ky y) C)) := by
   have := hmo1.cells rfl _ _ (e2_at _ _ _ hMy).1
   rw [addr0, Nat.zero_add] at this
   exact this
  refine ⟨iv, rfl, box_cells (kb1 hp) 1 _ rfl, box_cells (kb1 hp) 2 _ rfl, box_cells (kb1 hma) 1 _ rfl, box_cells (kb1 i1) 0 _ rfl, box_cells (kb1 i2) 0 _ rfl, hu0, box_frozen (kb1 i1) 0, box_frozen (kb1 i2) 0, ?_, fun m => ?_, fun m => ?_⟩
  ·
   refine (Rf.same_any (w := W1.drew) (A := L.map (num ky vl C D)) (B := L.map (num ky vl C D)) hiv (own_er (w := W1.drew) hmo1) (by have := h.hl; omega)).mono ?_
   rintro r w' ⟨rfl, q⟩
   exact ⟨by simp, q⟩
  ·
   exact Qo.of_known (w := W1.drew.drewN m) (hk1.keep (fun _ _ => rfl)) (h.hC x.1 x.2) h.lC
  ·
   have j1 : (W1.drew.drewN m).heap[wb]? = some (.cells #[.bool true] 4 (0, 0)) := kb1 i1
   have j2 : (W1.drew.drewN m).heap[ib]? = some (.cells #[.int .i64 pre.length] 3 (0, 0)) := kb1 i2
   have hch : ∀ j, j ≠ wb → j ≠ ib → (((W1.drew.drewN m).setCell ⟨wb, 0, none⟩ (.bool ((ix (ky y) C : Int) == (ix (ky x.1) C : Int)))).setCell ⟨ib, 0, none⟩ (.int .i64 ((pre.length : Int) + 1))).heap[j]? = W1.heap[j]? := fun j a b => (heap_set_ne _ b).trans (heap_set_ne _ a)
   have hs1 : (((W1.drew.drewN m).setCell ⟨wb, 0, none⟩ (.bool ((ix (ky y) C : Int) == (ix (ky x.1) C : Int)))).setCell ⟨ib, 0, none⟩ (.int .i64 ((pre.length : Int) + 1))).heap.size = W1.heap.size := by
    simp [World.setCell]
   have hsW := hbel.size
   refine ⟨⟨fun r o hr ho' => ?_, by omega⟩, fun j hj => ?_, ?_, ?_, by omega, fun j hj a b => ?_, hbel.os.trans t1, hbel.tape.trans t2, hbel.output.trans t3⟩
   ·
    rw [hch r (fun e => ?_) (fun e => ?_)]
    ·
     exact kb1 hr
    ·
     rw [e, i1] at hr
     cases hr
     cases ho'
    ·
     rw [e, i2] at hr
     cases hr
     cases ho'
   ·
    have hjl : j < W.heap.size := by
     rcases hj with q | q | q
     ·
      have := h.ca.lt q
      omega
     ·
      omega
     ·
      omega
    refine (hch j (fun e => ?_) (fun e => ?_)).trans (hbel.block j hjl)
    ·
     rcases hj with q | q | q
     ·
      exact u1 (e ▸ q)
     ·
      omega
     ·
      omega
    ·
     rcases hj with q | q | q
     ·
      exact v1 (e ▸ q)
     ·
      omega
     ·
      omega
   ·
    exact (heap_set_ne _ hne).trans (heap_set j1 _)
   ·
    exact heap_set ((heap_set_ne _ (Ne.symm hne)).trans j2) _
   ·
    exact ((hch j a b).trans (hbel.block j (by omega))).trans (i4 j hj a b)
 ·
  rintro r W' ⟨rfl, q1, q2, q3, q4, q5, q6, q7⟩
  refine ⟨q1, q2, _, rfl, fun hb => ?_, fun hb => ?_⟩
  ·
   rw [Bool.and_eq_true] at hb
   rw [hb.1] at q3
   exact ⟨q3, by simpa using q4, q5, q6, q7⟩
  ·
   refine ⟨⟨_, q3, fun e => hbo.2 ?_⟩, q5, q6, q7⟩
   have e1 := congrArg (fun l => (l[pre.length]?).map Subtype.val) e
   simp [List.getElem?_take, hlt] at e1
   have := List.getElem?_eq_getElem hlt
   rw [hy] at this
   injection this with this
   rw [this, e1]
end Go.Proofs.YtdhinpmjbcohaaaGreat.Jd
namespace Go.Proofs.YtdhinpmjbcohaaaGreat.Jd
open Go Go.RowKit Go.Shelf
set_option linter.unusedSimpArgs false
set_option linter.unusedVariables false
set_option maxRecDepth 100000
set_option maxHeartbeats 4000000
open Rf (e2 e2_len e2_app e2_one e2_at ER own_er own_shape app_many addr0 RS)

theorem run_store_fn {P : Program} {w : World} {a : Addr} {m : Mode} (fn : Fn) (first captured : Array Value) : (store a (.func fn first captured) m).run P w = stored P w a (.func fn first captured) m := run_store P w a _ m rfl
attribute [local go_sem] run_store_fn
def alw (w : World) (cb mb kb vb : Nat) : World := ((w.alloc (.cells #[pt cb, pt mb, pt kb, pt vb] 47)).alloc (.cells #[pt cb] 44)).alloc (.cells #[.func (.func 92) #[] #[.pointer (some ⟨w.heap.size + 1, 0, none⟩)]] 133)
def AQ (W : World) (cb mb kb vb s n cap : Nat) (a : Option Addr) : Prop :=
 W.cell? ⟨s, 0, none⟩ = some (.pointer (some ⟨cb, 0, none⟩)) ∧ W.cell? ⟨s, 1, none⟩ = some (.pointer (some ⟨mb, 0, none⟩)) ∧ W.cell? ⟨s, 2, none⟩ = some (.pointer (some ⟨kb, 0, none⟩)) ∧ W.cell? ⟨s, 3, none⟩ = some (.pointer (some ⟨vb, 0, none⟩)) ∧ W.cell? ⟨mb, 1, none⟩ = some (.slice a n cap) ∧ W.cell? ⟨s + 1 + 1, 0, none⟩ = some (.func (.func 92) #[] #[.pointer (some ⟨s + 1, 0, none⟩)])
theorem hidi {p : Prop} (h : p) : Hid p := h
theorem all_walk {w : World} {cb mb rm kb vb n cap : Nat} {a : Option Addr} {stop : Int} {ns : Nat} (hmb : w.heap[mb]? = some (.cells #[.int .i64 rm, .slice a n cap] 92 (0, 0))) (hnc : n ≤ cap)
  (hsv : (stop < 0 ∧ ns = n) ∨ (¬ stop < 0 ∧ ¬ stop < n ∧ ns = n) ∨ (∃ g, a = some ⟨g, 0, none⟩ ∧ ¬ stop < 0 ∧ stop < n ∧ ns = stop.toNat))
  (Po : Ending → World → Prop) {R1 : Value → World → Prop} {R2 : Value → Value → World → Prop} {R3 : Value → World → Prop} {R4 : World → Prop}
  (h40 : ∀ W, Calls Tryz.prog 66 #[pt cb] W fun e w' => e = .returned (.func (.func 92) #[] #[.pointer (some ⟨W.heap.size, 0, none⟩)]) ∧ w' = W.alloc (.cells #[pt cb] 44))
  (h1 : Calls Tryz.prog 67 #[.agg #[.pointer (some ⟨cb, 0, none⟩), .pointer (some ⟨mb, 0, none⟩), .pointer (some ⟨kb, 0, none⟩), .pointer (some ⟨vb, 0, none⟩)], .func (.func 92) #[] #[.pointer (some ⟨w.heap.size + 1, 0, none⟩)], .int .i64 stop] (alw w cb mb kb vb) fun r w' => ∃ b m c, r = .returned (.tuple #[.slice b m c, .bool true]) ∧ AQ w' cb mb kb vb w.heap.size n cap a ∧ R1 (.slice b m c) w')
  (h2 : ∀ v W, R1 v W → Calls Tryz.prog 67 #[.agg #[.pointer (some ⟨cb, 0, none⟩), .pointer (some ⟨mb, 0, none⟩), .pointer (some ⟨kb, 0, none⟩), .pointer (some ⟨vb, 0, none⟩)], .func (.func 92) #[] #[.pointer (some ⟨w.heap.size + 1, 0, none⟩)], .int .i64 (-1)] W fun r w' => ∃ b m c, r = .returned (.tuple #[.slice b m c, .bool true]) ∧ R2 v (.slice b m c) w')
  (h3 : ∀ v u W, R2 v u W → Calls Tryz.prog 58 #[v, .slice a ns cap] W fun r w' => r = .returned (.bool true) ∧ AQ w' cb mb kb vb w.heap.size n cap a ∧ R3 u w')
  (h4 : ∀ u W, R3 u W → Calls Tryz.prog 58 #[u, .slice a n cap] W fun r w' => r = .returned (.bool true) ∧ AQ ((w'.alloc (.cells #[.int .i64 0] 3)).alloc (.cells #[.bool true] 4)) cb mb kb vb w.heap.size n cap a ∧ R4 w')
  (h5 : ∀ W, R4 W → Calls Tryz.prog 92 #[.func (.func 68) #[] #[.pointer (some ⟨w.heap.size, 0, none⟩), .pointer (some ⟨w.heap.size + 1 + 1, 0, none⟩), .pointer (some ⟨W.heap.size + 1, 0, none⟩), .pointer (some ⟨W.heap.size, 0, none⟩)], .pointer (some ⟨w.heap.size + 1, 0, none⟩)] ((W.alloc (.cells #[.int .i64 0] 3)).alloc (.cells #[.bool true] 4)) fun r w' => (∃ v, r = .returned v) ∧ w'.cell? ⟨W.heap.size + 1, 0, none⟩ = some (.bool true) ∧ Po (.returned (.bool true)) w') :
  Calls Tryz.prog 15 #[.agg #[pt cb, pt mb, pt kb, pt vb], .int .i64 stop] w Po := by
 have H40 : Hid (∀ W, Calls Tryz.prog 66 #[pt cb] W fun e w' => e = .returned (.func (.func 92) #[] #[.pointer (some ⟨W.heap.size, 0, none⟩)]) ∧ w' = W.alloc (.cells #[pt cb] 44)) := h40
 have H1 := hidi h1
 have H2 := hidi h2
 have H3 := hidi h3
 have H4 := hidi h4
 have H5 := hidi h5
 clear h40 h1 h2 h3 h4 h5
 have m1 : (alw w cb mb kb vb).cell? ⟨mb, 1, none⟩ = some (.slice a n cap) := by
  unfold alw
  have hl := (Array.getElem?_eq_some_iff.1 hmb).1
  refine box_cells (cs := #[.int .i64 rm, .slice a n cap]) (t := 92) (fz := (0, 0)) ?_ 1 _ rfl
  rw [(World.grownBy_alloc _ _ none).block _ (by simp; omega) (by simp), (World.grownBy_alloc _ _ none).block _ (by simp; omega) (by simp), (World.grownBy_alloc _ _ none).block _ hl (by simp)]
  exact hmb
 have hsz : ((w.alloc (.cells #[pt cb, pt mb, pt kb, pt vb] 47)).alloc (.cells #[pt cb] 44)).heap.size = w.heap.size + 1 + 1 := by simp
 have b0 : (((w.alloc (.cells #[pt cb, pt mb, pt kb, pt vb] 47)).alloc (.cells #[pt cb] 44)).alloc (.cells #[.nilFunc] 133)).heap[w.heap.size + 1 + 1]? = some (.cells #[.nilFunc] 133 (0, 0)) := by rw [← hsz]; exact (MapKept.heap_alloc _ _).1
 have s0 := box_cells b0 0 .nilFunc rfl
 have s1 := box_frozen b0 0
 have s2 : (((w.alloc (.cells #[pt cb, pt mb, pt kb, pt vb] 47)).alloc (.cells #[pt cb] 44)).alloc (.cells #[.nilFunc] 133)).setCell ⟨w.heap.size + 1 + 1, 0, none⟩ (.func (.func 92) #[] #[.pointer (some ⟨w.heap.size + 1, 0, none⟩)]) = ((w.alloc (.cells #[pt cb, pt mb, pt kb, pt vb] 47)).alloc (.cells #[pt cb] 44)).alloc (.cells #[.func (.func 92) #[] #[.pointer (some ⟨w.heap.size + 1, 0, none⟩)]] 133) := by
  rw [World.setCell_alloc_at _ _ _ _ _ hsz.symm]
  rfl
 clear b0 hsz
 unfold alw pt at *
 rcases hsv with ⟨k1, rfl⟩ | ⟨k1, k2, rfl⟩ | ⟨g, rfl, k1, k2, rfl⟩
 ·
  go_enter Tryz.func15, Tryz.ntmps15
  go_wp2_with fail
  go_must (go_at_call 66)
  refine (H40.out _).mono ?_
  rintro r w' ⟨rfl, rfl⟩
  go_wp2_with fail
  go_must (go_at_call 67)
  refine (H1.out).mono ?_
  rintro r w1 ⟨b1, n1, c1, rfl, ⟨x0, x1, x2, x3, x4, x5⟩, hr1⟩
  have J1 := hidi (H2.out _ _ hr1)
  clear hr1 s0 s1 s2 m1
  go_wp2_with fail
  go_must (go_at_call 67)
  refine (J1.out).mono ?_
  rintro r w2 ⟨b2, n2, c2, rfl, hr2⟩
  have J2 := hidi (H3.out _ _ _ hr2)
  clear hr2 x0 x1 x2 x3 x4 x5
  go_wp2_with fail
  go_must (go_at_call 58)
  refine (J2.out).mono ?_
  rintro r w3 ⟨rfl, ⟨x0, x1, x2, x3, x4, x5⟩, hr3⟩
  have J3 := hidi (H4.out _ _ hr3)
  clear hr3
  go_wp2_with fail
  go_must (go_at_call 58)
  refine (J3.out).mono ?_
  rintro r w4 ⟨rfl, ⟨y0, y1, y2, y3, y4, y5⟩, hr4⟩
  have J4 := hidi (H5.out _ hr4)
  clear hr4 x0 x1 x2 x3 x4 x5
  go_wp2_with fail
  go_must (go_at_call 92)
  refine (J4.out).mono ?_
  rintro r w5 ⟨⟨u, rfl⟩, z0, hr5⟩
  have J5 := hidi hr5
  clear hr5
  go_wp2_with fail
  all_goals (try go_ret2)
  all_goals exact J5.out
 ·
  go_enter Tryz.func15, Tryz.ntmps15
  go_wp2_with fail
  go_must (go_at_call 66)
  refine (H40.out _).mono ?_
  rintro r w' ⟨rfl, rfl⟩
  go_wp2_with fail
  go_must (go_at_call 67)
  refine (H1.out).mono ?_
  rintro r w1 ⟨b1, n1, c1, rfl, ⟨x0, x1, x2, x3, x4, x5⟩, hr1⟩
  have J1 := hidi (H2.out _ _ hr1)
  clear hr1 s0 s1 s2 m1
  go_wp2_with fail
  go_must (go_at_call 67)
  refine (J1.out).mono ?_
  rintro r w2 ⟨b2, n2, c2, rfl, hr2⟩
  have J2 := hidi (H3.out _ _ _ hr2)
  clear hr2 x0 x1 x2 x3 x4 x5
  go_wp2_with fail
  go_must (go_at_call 58)
  refine (J2.out).mono ?_
  rintro r w3 ⟨rfl, ⟨x0, x1, x2, x3, x4, x5⟩, hr3⟩
  have J3 := hidi (H4.out _ _ hr3)
  clear hr3
  go_wp2_with fail
  go_must (go_at_call 58)
  refine (J3.out).mono ?_
  rintro r w4 ⟨rfl, ⟨y0, y1, y2, y3, y4, y5⟩, hr4⟩
  have J4 := hidi (H5.out _ hr4)
  clear hr4 x0 x1 x2 x3 x4 x5
  go_wp2_with fail
  go_must (go_at_call 92)
  refine (J4.out).mono ?_
  rintro r w5 ⟨⟨u, rfl⟩, z0, hr5⟩
  have J5 := hidi hr5
  clear hr5
  go_wp2_with fail
  all_goals (try go_ret2)
  all_goals exact J5.out
 ·
  go_enter Tryz.func15, Tryz.ntmps15
  go_wp2_with fail
  go_must (go_at_call 66)
  refine (H40.out _).mono ?_
  rintro r w' ⟨rfl, rfl⟩
  go_wp2_with fail
  go_must (go_at_call 67)
  refine (H1.out).mono ?_
  rintro r w1 ⟨b1, n1, c1, rfl, ⟨x0, x1, x2, x3, x4, x5⟩, hr1⟩
  have J1 := hidi (H2.out _ _ hr1)
  clear hr1 s0 s1 s2 m1
  go_wp2_with fail
  go_must (go_at_call 67)
  refine (J1.out).mono ?_
  rintro r w2 ⟨b2, n2, c2, rfl, hr2⟩
  have J2 := hidi (H3.out _ _ _ hr2)
  clear hr2 x0 x1 x2 x3 x4 x5
  go_wp2_with fail
  go_must (go_at_call 58)
  refine (J2.out).mono ?_
  rintro r w3 ⟨rfl, ⟨x0, x1, x2, x3, x4, x5⟩, hr3⟩
  have J3 := hidi (H4.out _ _ hr3)
  clear hr3
  go_wp2_with fail
  go_must (go_at_call 58)
  refine (J3.out).mono ?_
  rintro r w4 ⟨rfl, ⟨y0, y1, y2, y3, y4, y5⟩, hr4⟩
  have J4 := hidi (H5.out _ hr4)
  clear hr4 x0 x1 x2 x3 x4 x5
  go_wp2_with fail
  go_must (go_at_call 92)
  refine (J4.out).mono ?_
  rintro r w5 ⟨⟨u, rfl⟩, z0, hr5⟩
  have J5 := hidi hr5
  clear hr5
  go_wp2_with fail
  all_goals (try go_ret2)
  all_goals exact J5.out
end Go.Proofs.YtdhinpmjbcohaaaGreat.Jd
