import Derived.Test.YtdhinpmjbcohaaaKgz
import Derived.Lib.MinMax
namespace Go.Proofs.Ytdhinpmjbcohaaa.Kp
open Go Go.RowKit Go.Shelf
set_option linter.unusedSimpArgs false
set_option linter.unusedVariables false
open Rf (e2 e2_len e2_app e2_one ER own_er own_shape app_many addr0)
open Qk (cell_ltk)

theorem w64' {x : Int} (h1 : -9223372036854775808 ≤ x) (h2 : x ≤ 9223372036854775807) : wrap64 x = x := by
  unfold wrap64
  omega
theorem frz_keep {w w' : World} (h : Below w.heap.size w w') {b o : Nat} {v : Value} (hc : w.cell? ⟨b, o, none⟩ = some v) : w'.frozen? ⟨b, o, none⟩ = w.frozen? ⟨b, o, none⟩ := by
  unfold World.frozen?
  rw [h.block b (cell_ltk hc)]
/-- What is known in all's closure behind given. -/
structure AF (Ca : World → Prop) (pb wb ib mb kb bx g j n cap rn kn : Nat) (kx : ByteArray) (ki : Int) (iv : Value) (W1 : World) : Prop where
  r1 : W1.cell? ⟨pb, 1, none⟩ = some (pt mb)
  r2 : W1.cell? ⟨pb, 2, none⟩ = some (pt kb)
  s1 : W1.cell? ⟨mb, 1, none⟩ = some (.slice (some ⟨g, 0, none⟩) n cap)
  t0 : W1.cell? ⟨wb, 0, none⟩ = some (.bool true)
  t1 : W1.cell? ⟨ib, 0, none⟩ = some (.int .i64 j)
  u0 : W1.cell? ⟨g, j * 2, none⟩ = some (.int .i64 rn)
  x0 : W1.cell? ⟨bx, 0, none⟩ = some (.string kx)
  x1 : W1.cell? ⟨bx, 1, none⟩ = some (.int .i64 ki)
  ft0 : W1.frozen? ⟨wb, 0, none⟩ = false
  ft1 : W1.frozen? ⟨ib, 0, none⟩ = false
  h42 : Calls Try.prog 42 #[iv, .slice (some ⟨g, 0, none⟩) n cap] W1.drew fun r w' => r = .returned (.bool true) ∧ ∃ m, w' = W1.drew.drewN m
  h44 : ∀ m, Calls Try.prog 44 #[pt kb, .agg #[.string kx, .int .i64 ki]] (W1.drew.drewN m) fun r w' => r = .returned (.int .i64 kn) ∧ Below (W1.drew.drewN m).heap.size (W1.drew.drewN m) w'
  hq : ∀ m W4, Below (W1.drew.drewN m).heap.size (W1.drew.drewN m) W4 → Ca ((W4.setCell ⟨wb, 0, none⟩ (.bool ((rn : Int) == kn))).setCell ⟨ib, 0, none⟩ (.int .i64 ((j : Int) + 1)))
set_option maxRecDepth 100000 in
set_option maxHeartbeats 4000000 in
/-- all's closure: one entry looked at. -/
theorem allc_walk {Ca : World → Prop} {W : World} {pb fb wb ib cb mb kb vb j n g cap kn rn : Nat} {fv : Value} {kx : ByteArray} {ki x : Int} (hj : j < n) (hn : n ≤ 100000)
    (p0 : W.cell? ⟨pb, 0, none⟩ = some (pt cb)) (p1 : W.cell? ⟨pb, 1, none⟩ = some (pt mb)) (p2 : W.cell? ⟨pb, 2, none⟩ = some (pt kb)) (p3 : W.cell? ⟨pb, 3, none⟩ = some (pt vb)) (q0 : W.cell? ⟨fb, 0, none⟩ = some fv) (hfv : ∃ a, fv = .func (.func 63) #[] #[a])
    (hwi : wb ≠ ib) (hwp : wb ≠ pb) (hwm : wb ≠ mb) (hwg : wb ≠ g) (hwx : wb ≠ W.heap.size)
    (h41 : Calls Try.prog 47 #[.agg #[pt cb, pt mb, pt kb, pt vb], fv, .int .i64 (-1)] (W.alloc (.cells #[.string kx, .int .i64 ki] 31)) fun r W1 => ∃ iv, r = .returned (.tuple #[iv, .bool true]) ∧ AF Ca pb wb ib mb kb W.heap.size g j n cap rn kn kx ki iv W1) :
    Calls Try.prog 48 #[.agg #[.string kx, .int .i64 ki], .int .i64 x, pt pb, pt fb, pt wb, pt ib] W fun r w' => r = .returned (.bool ((rn : Int) == kn && decide ((j : Int) + 1 < 3))) ∧ Ca w' := by
  obtain ⟨fa, rfl⟩ := hfv
  have keep : ∀ {b o : Nat} {v : Value}, W.cell? ⟨b, o, none⟩ = some v → (W.alloc (.cells #[.string kx, .int .i64 ki] 31)).cell? ⟨b, o, none⟩ = some v := fun {b o v} h => by rw [World.cell?_alloc_lt]; exact h; exact cell_ltk h
  have p0' := keep p0
  have p1' := keep p1
  have p2' := keep p2
  have p3' := keep p3
  have q0' := keep q0
  clear keep p0 p1 p2 p3 q0
  have H41 : Hid (Calls Try.prog 47 #[.agg #[pt cb, pt mb, pt kb, pt vb], .func (.func 63) #[] #[fa], .int .i64 (-1)] (W.alloc (.cells #[.string kx, .int .i64 ki] 31)) fun r W1 => ∃ iv, r = .returned (.tuple #[iv, .bool true]) ∧ AF Ca pb wb ib mb kb W.heap.size g j n cap rn kn kx ki iv W1) := h41
  have e1 : (j : Int) < (n : Int) := by omega
  have e2' : wrap64 ((n : Int) - 1) = (n : Int) - 1 := w64' (by omega) (by omega)
  have e3 : min (j : Int) ((n : Int) - 1) = (j : Int) := by omega
  have e4 : (0 : Int) ≤ (j : Int) := by omega
  have e6 : IntKind.i64.wrap ((n : Int) - 1) = (n : Int) - 1 := by rw [IntKind.wrap_i64]; omega
  have e7 : IntKind.i64.wrap ((j : Int) + 1) = (j : Int) + 1 := by rw [IntKind.wrap_i64]; omega
  have e5 : wrap64 ((j : Int) + 1) = (j : Int) + 1 := w64' (by omega) (by omega)
  obtain ⟨bo, hbo⟩ : ∃ bo, ((rn : Int) == kn) = bo := ⟨_, rfl⟩
  rw [hbo]
  obtain ⟨bt, hbt⟩ : ∃ bt, decide ((j : Int) + 1 < 3) = bt := ⟨_, rfl⟩
  rw [hbt]
  unfold pt at *
  clear h41 hj hn
  go_enter Try.func48, Try.ntmps48
  go_wp2_with fail
  go_must (go_at_call 47)
  refine (H41.out).mono ?_
  rintro r W1 ⟨iv, rfl, af⟩
  obtain ⟨bx, hbx⟩ : ∃ bx, bx = W.heap.size := ⟨_, rfl⟩
  rw [← hbx] at af hwx ⊢
  clear hbx
  have H42 : Hid (Calls Try.prog 42 #[iv, .slice (some ⟨g, 0, none⟩) n cap] W1.drew fun r w' => r = .returned (.bool true) ∧ ∃ m, w' = W1.drew.drewN m) := af.h42
  have H44 : Hid (∀ m, Calls Try.prog 44 #[.pointer (some ⟨kb, 0, none⟩), .agg #[.string kx, .int .i64 ki]] (W1.drew.drewN m) fun r w' => r = .returned (.int .i64 kn) ∧ Below (W1.drew.drewN m).heap.size (W1.drew.drewN m) w') := af.h44
  have HQ : Hid (∀ m W4, Below (W1.drew.drewN m).heap.size (W1.drew.drewN m) W4 → Ca ((W4.setCell ⟨wb, 0, none⟩ (.bool ((rn : Int) == kn))).setCell ⟨ib, 0, none⟩ (.int .i64 ((j : Int) + 1)))) := af.hq
  have r1 : W1.cell? ⟨pb, 1, none⟩ = some (.pointer (some ⟨mb, 0, none⟩)) := af.r1
  have r2 : W1.cell? ⟨pb, 2, none⟩ = some (.pointer (some ⟨kb, 0, none⟩)) := af.r2
  have s1 := af.s1
  have t0 := af.t0
  have t1 := af.t1
  have u0 := af.u0
  have x0 := af.x0
  have x1 := af.x1
  have ft0 := af.ft0
  have ft1 := af.ft1
  clear af H41 p0' p1' p2' p3' q0'
  rw [hbo] at HQ
  go_wp2_with fail
  refine wp_region_held_drew (S := fun w' => w'.cell? ⟨pb, 1, none⟩ = some (.pointer (some ⟨mb, 0, none⟩)) ∧ w'.cell? ⟨pb, 2, none⟩ = some (.pointer (some ⟨kb, 0, none⟩)) ∧ w'.cell? ⟨mb, 1, none⟩ = some (.slice (some ⟨g, 0, none⟩) n cap) ∧ w'.cell? ⟨ib, 0, none⟩ = some (.int .i64 j) ∧ w'.cell? ⟨g, j * 2, none⟩ = some (.int .i64 rn) ∧ w'.cell? ⟨bx, 0, none⟩ = some (.string kx) ∧ w'.cell? ⟨bx, 1, none⟩ = some (.int .i64 ki)) (by kernel_rfl) ⟨r1, r2, s1, t1, u0, x0, x1⟩ (fun hHeld => ?_)
  change wpAnyH _ _ _ _ _ 48 #[false, false, false, false, false, false, false, false, false, false, false, false, false, false, false, false, false, false, false, false, false, false, false, false, false, false, false, false, false, false, false, false, false, false, false, false, false, false, false, false, false, false, false, false, false, false, false, false] _ (World.drew _)
  refine wpAnyH_ready (rs := [0]) (by kernel_rfl) (by simp) ?_
  refine AllReadyH.cons (o := { dst := some 17, op := Go.Op.load 4 (Go.Operand.tmp 4), type := 4, pos := "exact.go:108", after := #[], guard := none }) (by rfl) (fun K hK => ?_) AllReadyH.nil
  go_simp
  refine hK.out _ _ ⟨r1, r2, s1, t1, u0, x0, x1⟩ (fun hHeld => ?_)
  clear hK K
  (try simp only [Act.put, List.setIfInBounds_toArray, List.set_cons_zero, List.set_cons_succ])
  refine wpAnyH_take (i := 1) (oi := { dst := some 18, op := Go.Op.move (Go.Operand.tmp 17), type := 4, pos := "exact.go:108", after := #[{ on := 0, ground := Go.Ground.data }], guard := none }) (v := .bool true) rfl (by kernel_rfl) (by kernel_rfl) (by kernel_rfl) (fun _ _ _ h => h) (Or.inl ⟨by kernel_rfl, by intro wq hSw; (try dsimp only at hSw); clear hHeld; go_simp⟩) hHeld ?_
  simp only [Act.put, List.setIfInBounds_toArray, List.set_cons_zero, List.set_cons_succ]
  refine wpAnyH_take (i := 2) (oi := { dst := some 19, op := Go.Op.move (Go.Operand.tmp 10), type := 4, pos := "exact.go:108", after := #[{ on := 1, ground := Go.Ground.guard }], guard := some (1, true) }) (v := .bool true) rfl (by kernel_rfl) (by kernel_rfl) (by kernel_rfl) (fun _ _ _ h => h) (Or.inl ⟨by kernel_rfl, by intro wq hSw; (try dsimp only at hSw); clear hHeld; go_simp⟩) hHeld ?_
  simp only [Act.put, List.setIfInBounds_toArray, List.set_cons_zero, List.set_cons_succ]
  refine wpAnyH_take (i := 3) (oi := { dst := some 20, op := Go.Op.pick (Go.Operand.tmp 18) (Go.Operand.tmp 19) (Go.Operand.const (Go.Value.bool false)), type := 4, pos := "exact.go:108", after := #[{ on := 1, ground := Go.Ground.data }, { on := 2, ground := Go.Ground.data }], guard := none }) (v := .bool true) rfl (by kernel_rfl) (by kernel_rfl) (by kernel_rfl) (fun _ _ _ h => h) (Or.inl ⟨by kernel_rfl, by intro wq hSw; (try dsimp only at hSw); clear hHeld; go_simp⟩) hHeld ?_
  simp only [Act.put, List.setIfInBounds_toArray, List.set_cons_zero, List.set_cons_succ]
  refine wpAnyH_take (i := 4) (oi := { dst := some 21, op := Go.Op.move (Go.Operand.tmp 20), type := 4, pos := "exact.go:108", after := #[{ on := 3, ground := Go.Ground.data }, { on := 1, ground := Go.Ground.chain }], guard := none }) (v := .bool true) rfl (by kernel_rfl) (by kernel_rfl) (by kernel_rfl) (fun _ _ _ h => h) (Or.inl ⟨by kernel_rfl, by intro wq hSw; (try dsimp only at hSw); clear hHeld; go_simp⟩) hHeld ?_
  simp only [Act.put, List.setIfInBounds_toArray, List.set_cons_zero, List.set_cons_succ]
  refine wpAnyH_take (i := 5) (oi := { dst := some 22, op := Go.Op.move (Go.Operand.tmp 9), type := 77, pos := "exact.go:108", after := #[{ on := 4, ground := Go.Ground.guard }], guard := some (4, true) }) (v := iv) rfl (by kernel_rfl) (by kernel_rfl) (by kernel_rfl) (fun _ _ _ h => h) (Or.inl ⟨by kernel_rfl, by intro wq hSw; (try dsimp only at hSw); clear hHeld; go_simp⟩) hHeld ?_
  simp only [Act.put, List.setIfInBounds_toArray, List.set_cons_zero, List.set_cons_succ]
  refine wpAnyH_take (i := 6) (oi := { dst := some 23, op := Go.Op.fieldAddr 41 (Go.Operand.tmp 2) 1, type := 0, pos := "exact.go:108", after := #[{ on := 4, ground := Go.Ground.guard }], guard := some (4, true) }) (v := .pointer (some ⟨pb, 1, none⟩)) rfl (by kernel_rfl) (by kernel_rfl) (by kernel_rfl) (fun _ _ _ h => h) (Or.inl ⟨by kernel_rfl, by intro wq hSw; (try dsimp only at hSw); clear hHeld; go_simp⟩) hHeld ?_
  simp only [Act.put, List.setIfInBounds_toArray, List.set_cons_zero, List.set_cons_succ]
  refine wpAnyH_take (i := 7) (oi := { dst := some 24, op := Go.Op.load 24 (Go.Operand.tmp 23), type := 24, pos := "exact.go:108", after := #[{ on := 6, ground := Go.Ground.data }, { on := 4, ground := Go.Ground.guard }], guard := some (4, true) }) (v := .pointer (some ⟨mb, 0, none⟩)) rfl (by kernel_rfl) (by kernel_rfl) (by kernel_rfl) (fun _ _ _ h => h) (Or.inl ⟨by kernel_rfl, by intro wq hSw; (try dsimp only at hSw); clear hHeld; go_simp⟩) hHeld ?_
  simp only [Act.put, List.setIfInBounds_toArray, List.set_cons_zero, List.set_cons_succ]
  refine wpAnyH_take (i := 8) (oi := { dst := some 25, op := Go.Op.nilCheck (Go.Operand.tmp 24), type := 0, pos := "exact.go:108", after := #[{ on := 7, ground := Go.Ground.data }, { on := 4, ground := Go.Ground.guard }], guard := some (4, true) }) (v := .pointer (some ⟨mb, 0, none⟩)) rfl (by kernel_rfl) (by kernel_rfl) (by kernel_rfl) (fun _ _ _ h => h) (Or.inl ⟨by kernel_rfl, by intro wq hSw; (try dsimp only at hSw); clear hHeld; go_simp⟩) hHeld ?_
  simp only [Act.put, List.setIfInBounds_toArray, List.set_cons_zero, List.set_cons_succ]
  refine wpAnyH_take (i := 9) (oi := { dst := some 26, op := Go.Op.fieldAddr 79 (Go.Operand.tmp 25) 1, type := 0, pos := "exact.go:108", after := #[{ on := 8, ground := Go.Ground.data }, { on := 4, ground := Go.Ground.guard }], guard := some (4, true) }) (v := .pointer (some ⟨mb, 1, none⟩)) rfl (by kernel_rfl) (by kernel_rfl) (by kernel_rfl) (fun _ _ _ h => h) (Or.inl ⟨by kernel_rfl, by intro wq hSw; (try dsimp only at hSw); clear hHeld; go_simp⟩) hHeld ?_
  simp only [Act.put, List.setIfInBounds_toArray, List.set_cons_zero, List.set_cons_succ]
  refine wpAnyH_take (i := 10) (oi := { dst := some 27, op := Go.Op.load 77 (Go.Operand.tmp 26), type := 77, pos := "exact.go:108", after := #[{ on := 9, ground := Go.Ground.data }, { on := 4, ground := Go.Ground.guard }], guard := some (4, true) }) (v := .slice (some ⟨g, 0, none⟩) n cap) rfl (by kernel_rfl) (by kernel_rfl) (by kernel_rfl) (fun _ _ _ h => h) (Or.inl ⟨by kernel_rfl, by intro wq hSw; (try dsimp only at hSw); clear hHeld; go_simp⟩) hHeld ?_
  simp only [Act.put, List.setIfInBounds_toArray, List.set_cons_zero, List.set_cons_succ]
  refine wpAnyH_ready (rs := [11]) (by kernel_rfl) (by simp) ?_
  refine AllReadyH.cons (o := { dst := some 28, op := Go.Op.call { callee := Go.Callee.value (Go.Operand.func 42), args := #[Go.Operand.tmp 22, Go.Operand.tmp 27], argTypes := #[77, 77] }, type := 4, pos := "exact.go:108", after := #[{ on := 5, ground := Go.Ground.data }, { on := 10, ground := Go.Ground.data }, { on := 4, ground := Go.Ground.chain }, { on := 4, ground := Go.Ground.guard }], guard := some (4, true) }) (by rfl) (fun K hK => ?_) AllReadyH.nil
  go_simp
  go_wp2_with (go_at_call 42; refine (H42.out).mono ?_; rintro e W2 ⟨rfl, hm⟩)
  obtain ⟨m, hm⟩ := hm
  have HM : Hid (W2 = W1.drew.drewN m) := hm
  have y1 : W2.cell? ⟨pb, 1, none⟩ = _ := (congrArg (fun q : World => q.cell? ⟨pb, 1, none⟩) hm).trans r1
  have y2 : W2.cell? ⟨pb, 2, none⟩ = _ := (congrArg (fun q : World => q.cell? ⟨pb, 2, none⟩) hm).trans r2
  have y3 : W2.cell? ⟨mb, 1, none⟩ = _ := (congrArg (fun q : World => q.cell? ⟨mb, 1, none⟩) hm).trans s1
  have y4 : W2.cell? ⟨ib, 0, none⟩ = _ := (congrArg (fun q : World => q.cell? ⟨ib, 0, none⟩) hm).trans t1
  have y5 : W2.cell? ⟨g, j * 2, none⟩ = _ := (congrArg (fun q : World => q.cell? ⟨g, j * 2, none⟩) hm).trans u0
  have y6 : W2.cell? ⟨bx, 0, none⟩ = _ := (congrArg (fun q : World => q.cell? ⟨bx, 0, none⟩) hm).trans x0
  have y7 : W2.cell? ⟨bx, 1, none⟩ = _ := (congrArg (fun q : World => q.cell? ⟨bx, 1, none⟩) hm).trans x1
  have t0' : W2.cell? ⟨wb, 0, none⟩ = _ := (congrArg (fun q : World => q.cell? ⟨wb, 0, none⟩) hm).trans t0
  have g0 : W2.frozen? ⟨wb, 0, none⟩ = false := (congrArg (fun q : World => q.frozen? ⟨wb, 0, none⟩) hm).trans ft0
  have g1 : W2.frozen? ⟨ib, 0, none⟩ = false := (congrArg (fun q : World => q.frozen? ⟨ib, 0, none⟩) hm).trans ft1
  have H44' : Hid (Calls Try.prog 44 #[.pointer (some ⟨kb, 0, none⟩), .agg #[.string kx, .int .i64 ki]] W2 fun r w' => r = .returned (.int .i64 kn) ∧ Below W2.heap.size W2 w') := by
    have := H44.out m
    rw [← hm] at this
    exact this
  clear hm r1 r2 s1 t0 t1 u0 x0 x1 ft0 ft1 H42
  refine hK.out _ _ ⟨y1, y2, y3, y4, y5, y6, y7⟩ (fun hHeld => ?_)
  clear hK K
  (try simp only [Act.put, List.setIfInBounds_toArray, List.set_cons_zero, List.set_cons_succ])
  refine wpAnyH_take (i := 12) (oi := { dst := some 29, op := Go.Op.pick (Go.Operand.tmp 21) (Go.Operand.tmp 28) (Go.Operand.const (Go.Value.bool false)), type := 4, pos := "exact.go:108", after := #[{ on := 4, ground := Go.Ground.data }, { on := 11, ground := Go.Ground.data }], guard := none }) (v := .bool true) rfl (by kernel_rfl) (by kernel_rfl) (by kernel_rfl) (fun _ _ _ h => h) (Or.inl ⟨by kernel_rfl, by intro wq hSw; (try dsimp only at hSw); clear hHeld; go_simp⟩) hHeld ?_
  simp only [Act.put, List.setIfInBounds_toArray, List.set_cons_zero, List.set_cons_succ]
  refine wpAnyH_take (i := 13) (oi := { dst := some 30, op := Go.Op.move (Go.Operand.tmp 29), type := 4, pos := "exact.go:108", after := #[{ on := 12, ground := Go.Ground.data }, { on := 11, ground := Go.Ground.chain }], guard := none }) (v := .bool true) rfl (by kernel_rfl) (by kernel_rfl) (by kernel_rfl) (fun _ _ _ h => h) (Or.inl ⟨by kernel_rfl, by intro wq hSw; (try dsimp only at hSw); clear hHeld; go_simp⟩) hHeld ?_
  simp only [Act.put, List.setIfInBounds_toArray, List.set_cons_zero, List.set_cons_succ]
  refine wpAnyH_take (i := 14) (oi := { dst := some 31, op := Go.Op.load 3 (Go.Operand.tmp 5), type := 3, pos := "exact.go:108", after := #[{ on := 13, ground := Go.Ground.guard }], guard := some (13, true) }) (v := .int .i64 (j : Int)) rfl (by kernel_rfl) (by kernel_rfl) (by kernel_rfl) (fun _ _ _ h => h) (Or.inl ⟨by kernel_rfl, by intro wq hSw; (try dsimp only at hSw); clear hHeld; go_simp⟩) hHeld ?_
  simp only [Act.put, List.setIfInBounds_toArray, List.set_cons_zero, List.set_cons_succ]
  refine wpAnyH_take (i := 15) (oi := { dst := some 32, op := Go.Op.fieldAddr 41 (Go.Operand.tmp 2) 1, type := 0, pos := "exact.go:108", after := #[{ on := 13, ground := Go.Ground.guard }], guard := some (13, true) }) (v := .pointer (some ⟨pb, 1, none⟩)) rfl (by kernel_rfl) (by kernel_rfl) (by kernel_rfl) (fun _ _ _ h => h) (Or.inl ⟨by kernel_rfl, by intro wq hSw; (try dsimp only at hSw); clear hHeld; go_simp⟩) hHeld ?_
  simp only [Act.put, List.setIfInBounds_toArray, List.set_cons_zero, List.set_cons_succ]
  refine wpAnyH_take (i := 16) (oi := { dst := some 33, op := Go.Op.load 24 (Go.Operand.tmp 32), type := 24, pos := "exact.go:108", after := #[{ on := 15, ground := Go.Ground.data }, { on := 13, ground := Go.Ground.guard }], guard := some (13, true) }) (v := .pointer (some ⟨mb, 0, none⟩)) rfl (by kernel_rfl) (by kernel_rfl) (by kernel_rfl) (fun _ _ _ h => h) (Or.inl ⟨by kernel_rfl, by intro wq hSw; (try dsimp only at hSw); clear hHeld; go_simp⟩) hHeld ?_
  simp only [Act.put, List.setIfInBounds_toArray, List.set_cons_zero, List.set_cons_succ]
  refine wpAnyH_take (i := 17) (oi := { dst := some 34, op := Go.Op.nilCheck (Go.Operand.tmp 33), type := 0, pos := "exact.go:108", after := #[{ on := 16, ground := Go.Ground.data }, { on := 13, ground := Go.Ground.guard }], guard := some (13, true) }) (v := .pointer (some ⟨mb, 0, none⟩)) rfl (by kernel_rfl) (by kernel_rfl) (by kernel_rfl) (fun _ _ _ h => h) (Or.inl ⟨by kernel_rfl, by intro wq hSw; (try dsimp only at hSw); clear hHeld; go_simp⟩) hHeld ?_
  simp only [Act.put, List.setIfInBounds_toArray, List.set_cons_zero, List.set_cons_succ]
  refine wpAnyH_take (i := 18) (oi := { dst := some 35, op := Go.Op.fieldAddr 79 (Go.Operand.tmp 34) 1, type := 0, pos := "exact.go:108", after := #[{ on := 17, ground := Go.Ground.data }, { on := 13, ground := Go.Ground.guard }], guard := some (13, true) }) (v := .pointer (some ⟨mb, 1, none⟩)) rfl (by kernel_rfl) (by kernel_rfl) (by kernel_rfl) (fun _ _ _ h => h) (Or.inl ⟨by kernel_rfl, by intro wq hSw; (try dsimp only at hSw); clear hHeld; go_simp⟩) hHeld ?_
  simp only [Act.put, List.setIfInBounds_toArray, List.set_cons_zero, List.set_cons_succ]
  refine wpAnyH_take (i := 19) (oi := { dst := some 36, op := Go.Op.load 77 (Go.Operand.tmp 35), type := 77, pos := "exact.go:108", after := #[{ on := 18, ground := Go.Ground.data }, { on := 13, ground := Go.Ground.guard }], guard := some (13, true) }) (v := .slice (some ⟨g, 0, none⟩) n cap) rfl (by kernel_rfl) (by kernel_rfl) (by kernel_rfl) (fun _ _ _ h => h) (Or.inl ⟨by kernel_rfl, by intro wq hSw; (try dsimp only at hSw); clear hHeld; go_simp⟩) hHeld ?_
  simp only [Act.put, List.setIfInBounds_toArray, List.set_cons_zero, List.set_cons_succ]
  refine wpAnyH_take (i := 20) (oi := { dst := some 37, op := Go.Op.call { callee := Go.Callee.builtin Go.Builtin.len, args := #[Go.Operand.tmp 36], argTypes := #[77] }, type := 3, pos := "exact.go:108", after := #[{ on := 19, ground := Go.Ground.data }, { on := 13, ground := Go.Ground.guard }], guard := some (13, true) }) (v := .int .i64 (n : Int)) rfl (by kernel_rfl) (by kernel_rfl) (by kernel_rfl) (fun _ _ _ h => h) (Or.inl ⟨by kernel_rfl, by intro wq hSw; (try dsimp only at hSw); clear hHeld; go_simp⟩) hHeld ?_
  simp only [Act.put, List.setIfInBounds_toArray, List.set_cons_zero, List.set_cons_succ]
  refine wpAnyH_take (i := 21) (oi := { dst := some 38, op := Go.Op.binOp Go.BinOp.lss 3 (Go.Operand.tmp 31) (Go.Operand.tmp 37) 3, type := 4, pos := "exact.go:108", after := #[{ on := 14, ground := Go.Ground.data }, { on := 20, ground := Go.Ground.data }, { on := 13, ground := Go.Ground.guard }], guard := some (13, true) }) (v := .bool true) rfl (by kernel_rfl) (by kernel_rfl) (by kernel_rfl) (fun _ _ _ h => h) (Or.inl ⟨by kernel_rfl, by intro wq hSw; (try dsimp only at hSw); clear hHeld; go_simp⟩) hHeld ?_
  simp only [Act.put, List.setIfInBounds_toArray, List.set_cons_zero, List.set_cons_succ]
  refine wpAnyH_take (i := 22) (oi := { dst := some 39, op := Go.Op.pick (Go.Operand.tmp 30) (Go.Operand.tmp 38) (Go.Operand.const (Go.Value.bool false)), type := 4, pos := "exact.go:108", after := #[{ on := 13, ground := Go.Ground.data }, { on := 21, ground := Go.Ground.data }], guard := none }) (v := .bool true) rfl (by kernel_rfl) (by kernel_rfl) (by kernel_rfl) (fun _ _ _ h => h) (Or.inl ⟨by kernel_rfl, by intro wq hSw; (try dsimp only at hSw); clear hHeld; go_simp⟩) hHeld ?_
  simp only [Act.put, List.setIfInBounds_toArray, List.set_cons_zero, List.set_cons_succ]
  refine wpAnyH_take (i := 23) (oi := { dst := some 40, op := Go.Op.move (Go.Operand.tmp 39), type := 4, pos := "exact.go:108", after := #[{ on := 22, ground := Go.Ground.data }, { on := 13, ground := Go.Ground.chain }], guard := none }) (v := .bool true) rfl (by kernel_rfl) (by kernel_rfl) (by kernel_rfl) (fun _ _ _ h => h) (Or.inl ⟨by kernel_rfl, by intro wq hSw; (try dsimp only at hSw); clear hHeld; go_simp⟩) hHeld ?_
  simp only [Act.put, List.setIfInBounds_toArray, List.set_cons_zero, List.set_cons_succ]
  refine wpAnyH_take (i := 24) (oi := { dst := some 41, op := Go.Op.fieldAddr 41 (Go.Operand.tmp 2) 1, type := 0, pos := "exact.go:108", after := #[{ on := 23, ground := Go.Ground.guard }], guard := some (23, true) }) (v := .pointer (some ⟨pb, 1, none⟩)) rfl (by kernel_rfl) (by kernel_rfl) (by kernel_rfl) (fun _ _ _ h => h) (Or.inl ⟨by kernel_rfl, by intro wq hSw; (try dsimp only at hSw); clear hHeld; go_simp⟩) hHeld ?_
  simp only [Act.put, List.setIfInBounds_toArray, List.set_cons_zero, List.set_cons_succ]
  refine wpAnyH_take (i := 25) (oi := { dst := some 42, op := Go.Op.load 24 (Go.Operand.tmp 41), type := 24, pos := "exact.go:108", after := #[{ on := 24, ground := Go.Ground.data }, { on := 23, ground := Go.Ground.guard }], guard := some (23, true) }) (v := .pointer (some ⟨mb, 0, none⟩)) rfl (by kernel_rfl) (by kernel_rfl) (by kernel_rfl) (fun _ _ _ h => h) (Or.inl ⟨by kernel_rfl, by intro wq hSw; (try dsimp only at hSw); clear hHeld; go_simp⟩) hHeld ?_
  simp only [Act.put, List.setIfInBounds_toArray, List.set_cons_zero, List.set_cons_succ]
  refine wpAnyH_take (i := 26) (oi := { dst := some 43, op := Go.Op.nilCheck (Go.Operand.tmp 42), type := 0, pos := "exact.go:108", after := #[{ on := 25, ground := Go.Ground.data }, { on := 23, ground := Go.Ground.guard }], guard := some (23, true) }) (v := .pointer (some ⟨mb, 0, none⟩)) rfl (by kernel_rfl) (by kernel_rfl) (by kernel_rfl) (fun _ _ _ h => h) (Or.inl ⟨by kernel_rfl, by intro wq hSw; (try dsimp only at hSw); clear hHeld; go_simp⟩) hHeld ?_
  simp only [Act.put, List.setIfInBounds_toArray, List.set_cons_zero, List.set_cons_succ]
  refine wpAnyH_take (i := 27) (oi := { dst := some 44, op := Go.Op.fieldAddr 79 (Go.Operand.tmp 43) 1, type := 0, pos := "exact.go:108", after := #[{ on := 26, ground := Go.Ground.data }, { on := 23, ground := Go.Ground.guard }], guard := some (23, true) }) (v := .pointer (some ⟨mb, 1, none⟩)) rfl (by kernel_rfl) (by kernel_rfl) (by kernel_rfl) (fun _ _ _ h => h) (Or.inl ⟨by kernel_rfl, by intro wq hSw; (try dsimp only at hSw); clear hHeld; go_simp⟩) hHeld ?_
  simp only [Act.put, List.setIfInBounds_toArray, List.set_cons_zero, List.set_cons_succ]
  refine wpAnyH_take (i := 28) (oi := { dst := some 45, op := Go.Op.load 77 (Go.Operand.tmp 44), type := 77, pos := "exact.go:108", after := #[{ on := 27, ground := Go.Ground.data }, { on := 23, ground := Go.Ground.guard }], guard := some (23, true) }) (v := .slice (some ⟨g, 0, none⟩) n cap) rfl (by kernel_rfl) (by kernel_rfl) (by kernel_rfl) (fun _ _ _ h => h) (Or.inl ⟨by kernel_rfl, by intro wq hSw; (try dsimp only at hSw); clear hHeld; go_simp⟩) hHeld ?_
  simp only [Act.put, List.setIfInBounds_toArray, List.set_cons_zero, List.set_cons_succ]
  refine wpAnyH_take (i := 29) (oi := { dst := some 46, op := Go.Op.load 3 (Go.Operand.tmp 5), type := 3, pos := "exact.go:108", after := #[{ on := 23, ground := Go.Ground.guard }], guard := some (23, true) }) (v := .int .i64 (j : Int)) rfl (by kernel_rfl) (by kernel_rfl) (by kernel_rfl) (fun _ _ _ h => h) (Or.inl ⟨by kernel_rfl, by intro wq hSw; (try dsimp only at hSw); clear hHeld; go_simp⟩) hHeld ?_
  simp only [Act.put, List.setIfInBounds_toArray, List.set_cons_zero, List.set_cons_succ]
  refine wpAnyH_take (i := 30) (oi := { dst := some 47, op := Go.Op.fieldAddr 41 (Go.Operand.tmp 2) 1, type := 0, pos := "exact.go:108", after := #[{ on := 23, ground := Go.Ground.guard }], guard := some (23, true) }) (v := .pointer (some ⟨pb, 1, none⟩)) rfl (by kernel_rfl) (by kernel_rfl) (by kernel_rfl) (fun _ _ _ h => h) (Or.inl ⟨by kernel_rfl, by intro wq hSw; (try dsimp only at hSw); clear hHeld; go_simp⟩) hHeld ?_
  simp only [Act.put, List.setIfInBounds_toArray, List.set_cons_zero, List.set_cons_succ]
  refine wpAnyH_take (i := 31) (oi := { dst := some 48, op := Go.Op.load 24 (Go.Operand.tmp 47), type := 24, pos := "exact.go:108", after := #[{ on := 30, ground := Go.Ground.data }, { on := 23, ground := Go.Ground.guard }], guard := some (23, true) }) (v := .pointer (some ⟨mb, 0, none⟩)) rfl (by kernel_rfl) (by kernel_rfl) (by kernel_rfl) (fun _ _ _ h => h) (Or.inl ⟨by kernel_rfl, by intro wq hSw; (try dsimp only at hSw); clear hHeld; go_simp⟩) hHeld ?_
  simp only [Act.put, List.setIfInBounds_toArray, List.set_cons_zero, List.set_cons_succ]
  refine wpAnyH_take (i := 32) (oi := { dst := some 49, op := Go.Op.nilCheck (Go.Operand.tmp 48), type := 0, pos := "exact.go:108", after := #[{ on := 31, ground := Go.Ground.data }, { on := 23, ground := Go.Ground.guard }], guard := some (23, true) }) (v := .pointer (some ⟨mb, 0, none⟩)) rfl (by kernel_rfl) (by kernel_rfl) (by kernel_rfl) (fun _ _ _ h => h) (Or.inl ⟨by kernel_rfl, by intro wq hSw; (try dsimp only at hSw); clear hHeld; go_simp⟩) hHeld ?_
  simp only [Act.put, List.setIfInBounds_toArray, List.set_cons_zero, List.set_cons_succ]
  refine wpAnyH_take (i := 33) (oi := { dst := some 50, op := Go.Op.fieldAddr 79 (Go.Operand.tmp 49) 1, type := 0, pos := "exact.go:108", after := #[{ on := 32, ground := Go.Ground.data }, { on := 23, ground := Go.Ground.guard }], guard := some (23, true) }) (v := .pointer (some ⟨mb, 1, none⟩)) rfl (by kernel_rfl) (by kernel_rfl) (by kernel_rfl) (fun _ _ _ h => h) (Or.inl ⟨by kernel_rfl, by intro wq hSw; (try dsimp only at hSw); clear hHeld; go_simp⟩) hHeld ?_
  simp only [Act.put, List.setIfInBounds_toArray, List.set_cons_zero, List.set_cons_succ]
  refine wpAnyH_take (i := 34) (oi := { dst := some 51, op := Go.Op.load 77 (Go.Operand.tmp 50), type := 77, pos := "exact.go:108", after := #[{ on := 33, ground := Go.Ground.data }, { on := 23, ground := Go.Ground.guard }], guard := some (23, true) }) (v := .slice (some ⟨g, 0, none⟩) n cap) rfl (by kernel_rfl) (by kernel_rfl) (by kernel_rfl) (fun _ _ _ h => h) (Or.inl ⟨by kernel_rfl, by intro wq hSw; (try dsimp only at hSw); clear hHeld; go_simp⟩) hHeld ?_
  simp only [Act.put, List.setIfInBounds_toArray, List.set_cons_zero, List.set_cons_succ]
  refine wpAnyH_take (i := 35) (oi := { dst := some 52, op := Go.Op.call { callee := Go.Callee.builtin Go.Builtin.len, args := #[Go.Operand.tmp 51], argTypes := #[77] }, type := 3, pos := "exact.go:108", after := #[{ on := 34, ground := Go.Ground.data }, { on := 23, ground := Go.Ground.guard }], guard := some (23, true) }) (v := .int .i64 (n : Int)) rfl (by kernel_rfl) (by kernel_rfl) (by kernel_rfl) (fun _ _ _ h => h) (Or.inl ⟨by kernel_rfl, by intro wq hSw; (try dsimp only at hSw); clear hHeld; go_simp⟩) hHeld ?_
  simp only [Act.put, List.setIfInBounds_toArray, List.set_cons_zero, List.set_cons_succ]
  refine wpAnyH_take (i := 36) (oi := { dst := some 53, op := Go.Op.binOp Go.BinOp.sub 3 (Go.Operand.tmp 52) (Go.Operand.const (Go.Value.int Go.IntKind.i64 1)) 3, type := 3, pos := "exact.go:108", after := #[{ on := 35, ground := Go.Ground.data }, { on := 23, ground := Go.Ground.guard }], guard := some (23, true) }) (v := .int .i64 ((n : Int) - 1)) rfl (by kernel_rfl) (by kernel_rfl) (by kernel_rfl) (fun _ _ _ h => h) (Or.inl ⟨by kernel_rfl, by intro wq hSw; (try dsimp only at hSw); clear hHeld; go_simp⟩) hHeld ?_
  simp only [Act.put, List.setIfInBounds_toArray, List.set_cons_zero, List.set_cons_succ]
  refine wpAnyH_take (i := 41) (oi := { dst := some 58, op := Go.Op.fieldAddr 41 (Go.Operand.tmp 2) 2, type := 0, pos := "exact.go:108", after := #[{ on := 23, ground := Go.Ground.guard }], guard := some (23, true) }) (v := .pointer (some ⟨pb, 2, none⟩)) rfl (by kernel_rfl) (by kernel_rfl) (by kernel_rfl) (fun _ _ _ h => h) (Or.inl ⟨by kernel_rfl, by intro wq hSw; (try dsimp only at hSw); clear hHeld; go_simp⟩) hHeld ?_
  simp only [Act.put, List.setIfInBounds_toArray, List.set_cons_zero, List.set_cons_succ]
  refine wpAnyH_take (i := 42) (oi := { dst := some 59, op := Go.Op.load 39 (Go.Operand.tmp 58), type := 39, pos := "exact.go:108", after := #[{ on := 41, ground := Go.Ground.data }, { on := 23, ground := Go.Ground.guard }], guard := some (23, true) }) (v := .pointer (some ⟨kb, 0, none⟩)) rfl (by kernel_rfl) (by kernel_rfl) (by kernel_rfl) (fun _ _ _ h => h) (Or.inl ⟨by kernel_rfl, by intro wq hSw; (try dsimp only at hSw); clear hHeld; go_simp⟩) hHeld ?_
  simp only [Act.put, List.setIfInBounds_toArray, List.set_cons_zero, List.set_cons_succ]
  refine wpAnyH_take (i := 43) (oi := { dst := some 60, op := Go.Op.load 31 (Go.Operand.tmp 6), type := 31, pos := "exact.go:108", after := #[{ on := 23, ground := Go.Ground.guard }], guard := some (23, true) }) (v := .agg #[.string kx, .int .i64 ki]) rfl (by kernel_rfl) (by kernel_rfl) (by kernel_rfl) (fun _ _ _ h => h) (Or.inl ⟨by kernel_rfl, by intro wq hSw; (try dsimp only at hSw); clear hHeld; go_simp⟩) hHeld ?_
  simp only [Act.put, List.setIfInBounds_toArray, List.set_cons_zero, List.set_cons_succ]
  refine wpAnyH_ready (rs := [37, 44]) (by kernel_rfl) (by simp) ?_
  refine AllReadyH.cons (o := { dst := some 54, op := Go.Op.call { callee := Go.Callee.builtin Go.Builtin.min, args := #[Go.Operand.tmp 46, Go.Operand.tmp 53], argTypes := #[3, 3] }, type := 3, pos := "exact.go:108", after := #[{ on := 29, ground := Go.Ground.data }, { on := 36, ground := Go.Ground.data }, { on := 23, ground := Go.Ground.guard }], guard := some (23, true) }) (by rfl) (fun K hK => ?_) (AllReadyH.cons (o := { dst := some 61, op := Go.Op.call { callee := Go.Callee.value (Go.Operand.func 44), args := #[Go.Operand.tmp 59, Go.Operand.tmp 60], argTypes := #[39, 31] }, type := 3, pos := "exact.go:108", after := #[{ on := 42, ground := Go.Ground.data }, { on := 43, ground := Go.Ground.data }, { on := 23, ground := Go.Ground.chain }, { on := 23, ground := Go.Ground.guard }], guard := some (23, true) }) (by rfl) (fun K hK => ?_) AllReadyH.nil)
  · go_simp
    refine hK.out _ _ ⟨y1, y2, y3, y4, y5, y6, y7⟩ (fun hHeld => ?_)
    clear hK K
    (try simp only [Act.put, List.setIfInBounds_toArray, List.set_cons_zero, List.set_cons_succ])
    refine wpAnyH_take (i := 38) (oi := { dst := some 55, op := Go.Op.indexAddr 77 (Go.Operand.tmp 45) (Go.Operand.tmp 54), type := 0, pos := "exact.go:108", after := #[{ on := 28, ground := Go.Ground.data }, { on := 37, ground := Go.Ground.data }, { on := 23, ground := Go.Ground.guard }], guard := some (23, true) }) (v := .pointer (some ⟨g, j * 2, none⟩)) rfl (by kernel_rfl) (by kernel_rfl) (by kernel_rfl) (fun _ _ _ h => h) (Or.inl ⟨by kernel_rfl, by intro wq hSw; (try dsimp only at hSw); clear hHeld; go_simp⟩) hHeld ?_
    simp only [Act.put, List.setIfInBounds_toArray, List.set_cons_zero, List.set_cons_succ]
    refine wpAnyH_take (i := 39) (oi := { dst := some 56, op := Go.Op.fieldAddr 90 (Go.Operand.tmp 55) 0, type := 0, pos := "exact.go:108", after := #[{ on := 38, ground := Go.Ground.data }, { on := 23, ground := Go.Ground.guard }], guard := some (23, true) }) (v := .pointer (some ⟨g, j * 2, none⟩)) rfl (by kernel_rfl) (by kernel_rfl) (by kernel_rfl) (fun _ _ _ h => h) (Or.inl ⟨by kernel_rfl, by intro wq hSw; (try dsimp only at hSw); clear hHeld; go_simp⟩) hHeld ?_
    simp only [Act.put, List.setIfInBounds_toArray, List.set_cons_zero, List.set_cons_succ]
    refine wpAnyH_take (i := 40) (oi := { dst := some 57, op := Go.Op.load 3 (Go.Operand.tmp 56), type := 3, pos := "exact.go:108", after := #[{ on := 39, ground := Go.Ground.data }, { on := 23, ground := Go.Ground.guard }], guard := some (23, true) }) (v := .int .i64 (rn : Int)) rfl (by kernel_rfl) (by kernel_rfl) (by kernel_rfl) (fun _ _ _ h => h) (Or.inl ⟨by kernel_rfl, by intro wq hSw; (try dsimp only at hSw); clear hHeld; go_simp⟩) hHeld ?_
    simp only [Act.put, List.setIfInBounds_toArray, List.set_cons_zero, List.set_cons_succ]
    refine wpAnyH_ready (rs := [44]) (by kernel_rfl) (by simp) ?_
    refine AllReadyH.cons (o := { dst := some 61, op := Go.Op.call { callee := Go.Callee.value (Go.Operand.func 44), args := #[Go.Operand.tmp 59, Go.Operand.tmp 60], argTypes := #[39, 31] }, type := 3, pos := "exact.go:108", after := #[{ on := 42, ground := Go.Ground.data }, { on := 43, ground := Go.Ground.data }, { on := 23, ground := Go.Ground.chain }, { on := 23, ground := Go.Ground.guard }], guard := some (23, true) }) (by rfl) (fun K hK => ?_) AllReadyH.nil
    go_simp
    go_wp2_with (go_at_call 44; refine (H44'.out).mono ?_; rintro e W4 ⟨rfl, hb4⟩)
    have kp : ∀ {b o : Nat} {v : Value}, W2.cell? ⟨b, o, none⟩ = some v → W4.cell? ⟨b, o, none⟩ = some v := fun {b o v} h => (hb4.cell (p := ⟨b, o, none⟩) (cell_ltk h)).trans h
    have a1 := kp y1
    have a2 := kp y2
    have a3 := kp y3
    have a4 := kp y4
    have a5 := kp y5
    have a6 := kp y6
    have a7 := kp y7
    have t4 := kp t0'
    have g04 : W4.frozen? ⟨wb, 0, none⟩ = false := (frz_keep hb4 t0').trans g0
    have g14 : W4.frozen? ⟨ib, 0, none⟩ = false := (frz_keep hb4 y4).trans g1
    have HQ4 : Hid (Ca ((W4.setCell ⟨wb, 0, none⟩ (.bool bo)).setCell ⟨ib, 0, none⟩ (.int .i64 ((j : Int) + 1)))) := HQ.out m W4 (by rw [← HM.out]; exact hb4)
    have oth : ∀ (b o : Nat) (v : Value), wb ≠ b → W4.cell? ⟨b, o, none⟩ = some v → (W4.setCell ⟨wb, 0, none⟩ (.bool bo)).cell? ⟨b, o, none⟩ = some v := fun b o v hb hc => (World.cell?_setCell_other W4 _ _ _ (fun e => hb (congrArg Addr.block e))).trans hc
    have z1 := oth pb 1 _ hwp a1
    have z2 := oth pb 2 _ hwp a2
    have z3 := oth mb 1 _ hwm a3
    have z4 := oth ib 0 _ hwi a4
    have z5 := oth g (j * 2) _ hwg a5
    have z6 := oth bx 0 _ hwx a6
    have z7 := oth bx 1 _ hwx a7
    clear oth kp hb4 y1 y2 y3 y4 y5 y6 y7 t0' g0 g1 H44' H44 HQ HM
    refine hK.out _ _ ⟨a1, a2, a3, a4, a5, a6, a7⟩ (fun hHeld => ?_)
    clear hK K
    (try simp only [Act.put, List.setIfInBounds_toArray, List.set_cons_zero, List.set_cons_succ])
    refine wpAnyH_take (i := 45) (oi := { dst := some 62, op := Go.Op.binOp Go.BinOp.eql 3 (Go.Operand.tmp 57) (Go.Operand.tmp 61) 3, type := 4, pos := "exact.go:108", after := #[{ on := 40, ground := Go.Ground.data }, { on := 44, ground := Go.Ground.data }, { on := 23, ground := Go.Ground.guard }], guard := some (23, true) }) (v := .bool bo) rfl (by kernel_rfl) (by kernel_rfl) (by kernel_rfl) (fun _ _ _ h => h) (Or.inl ⟨by kernel_rfl, by intro wq hSw; (try dsimp only at hSw); clear hHeld; go_simp⟩) hHeld ?_
    simp only [Act.put, List.setIfInBounds_toArray, List.set_cons_zero, List.set_cons_succ]
    refine wpAnyH_take (i := 46) (oi := { dst := some 63, op := Go.Op.pick (Go.Operand.tmp 40) (Go.Operand.tmp 62) (Go.Operand.const (Go.Value.bool false)), type := 4, pos := "exact.go:108", after := #[{ on := 23, ground := Go.Ground.data }, { on := 45, ground := Go.Ground.data }], guard := none }) (v := .bool bo) rfl (by kernel_rfl) (by kernel_rfl) (by kernel_rfl) (fun _ _ _ h => h) (Or.inl ⟨by kernel_rfl, by intro wq hSw; (try dsimp only at hSw); clear hHeld; go_simp⟩) hHeld ?_
    simp only [Act.put, List.setIfInBounds_toArray, List.set_cons_zero, List.set_cons_succ]
    refine wpAnyH_ready (rs := [47]) (by kernel_rfl) (by simp) ?_
    refine AllReadyH.cons (o := { dst := none, op := Go.Op.store 4 (Go.Operand.tmp 4) (Go.Operand.tmp 63), type := 0, pos := "exact.go:108", after := #[{ on := 46, ground := Go.Ground.data }, { on := 44, ground := Go.Ground.chain }, { on := 0, ground := Go.Ground.phase }, { on := 1, ground := Go.Ground.phase }, { on := 2, ground := Go.Ground.phase }, { on := 3, ground := Go.Ground.phase }, { on := 4, ground := Go.Ground.phase }, { on := 5, ground := Go.Ground.phase }, { on := 6, ground := Go.Ground.phase }, { on := 7, ground := Go.Ground.phase }, { on := 8, ground := Go.Ground.phase }, { on := 9, ground := Go.Ground.phase }, { on := 10, ground := Go.Ground.phase }, { on := 11, ground := Go.Ground.phase }, { on := 12, ground := Go.Ground.phase }, { on := 13, ground := Go.Ground.phase }, { on := 14, ground := Go.Ground.phase }, { on := 15, ground := Go.Ground.phase }, { on := 16, ground := Go.Ground.phase }, { on := 17, ground := Go.Ground.phase }, { on := 18, ground := Go.Ground.phase }, { on := 19, ground := Go.Ground.phase }, { on := 20, ground := Go.Ground.phase }, { on := 21, ground := Go.Ground.phase }, { on := 22, ground := Go.Ground.phase }, { on := 23, ground := Go.Ground.phase }, { on := 24, ground := Go.Ground.phase }, { on := 25, ground := Go.Ground.phase }, { on := 26, ground := Go.Ground.phase }, { on := 27, ground := Go.Ground.phase }, { on := 28, ground := Go.Ground.phase }, { on := 29, ground := Go.Ground.phase }, { on := 30, ground := Go.Ground.phase }, { on := 31, ground := Go.Ground.phase }, { on := 32, ground := Go.Ground.phase }, { on := 33, ground := Go.Ground.phase }, { on := 34, ground := Go.Ground.phase }, { on := 35, ground := Go.Ground.phase }, { on := 36, ground := Go.Ground.phase }, { on := 37, ground := Go.Ground.phase }, { on := 38, ground := Go.Ground.phase }, { on := 39, ground := Go.Ground.phase }, { on := 40, ground := Go.Ground.phase }, { on := 41, ground := Go.Ground.phase }, { on := 42, ground := Go.Ground.phase }, { on := 43, ground := Go.Ground.phase }, { on := 44, ground := Go.Ground.phase }, { on := 45, ground := Go.Ground.phase }, { on := 46, ground := Go.Ground.phase }], guard := none }) (by rfl) (fun K hK => ?_) AllReadyH.nil
    go_simp
    refine hK.out _ _ ⟨z1, z2, z3, z4, z5, z6, z7⟩ (fun hHeld => ?_)
    clear hK K
    (try simp only [Act.put, List.setIfInBounds_toArray, List.set_cons_zero, List.set_cons_succ])
    refine wpAnyH_done (by kernel_rfl) ?_ _
    have x0 : (W4.setCell ⟨wb, 0, none⟩ (.bool bo)).cell? ⟨wb, 0, none⟩ = some (.bool bo) := World.cell?_setCell_same _ _ _ t4
    have x1 : (W4.setCell ⟨wb, 0, none⟩ (.bool bo)).frozen? ⟨ib, 0, none⟩ = false := (World.frozen?_setCell _ _ _ _).trans g14
    obtain ⟨W3, hW3⟩ : ∃ W3, W3 = W4.setCell ⟨wb, 0, none⟩ (.bool bo) := ⟨_, rfl⟩
    have HQ3 : Hid (Ca (W3.setCell ⟨ib, 0, none⟩ (.int .i64 ((j : Int) + 1)))) := by
      have hq := HQ4.out
      rw [← hW3] at hq
      exact hq
    rw [← hW3] at z1 z2 z3 z4 z5 x0 x1 ⊢
    have x2 : (W3.setCell ⟨ib, 0, none⟩ (.int .i64 ((j : Int) + 1))).cell? ⟨wb, 0, none⟩ = some (.bool bo) := (World.cell?_setCell_other W3 _ _ _ (fun e => hwi (congrArg Addr.block e).symm)).trans x0
    have x3 : (W3.setCell ⟨ib, 0, none⟩ (.int .i64 ((j : Int) + 1))).cell? ⟨ib, 0, none⟩ = some (.int .i64 ((j : Int) + 1)) := World.cell?_setCell_same _ _ _ z4
    clear hW3 hHeld a1 a2 a3 a4 a5 a6 a7 t4 g04 g14 z6 z7 HQ4
    go_wp2_with fail
    all_goals go_ret
    all_goals exact ⟨by simp_all, HQ3.out⟩
  · go_simp
    go_wp2_with (go_at_call 44; refine (H44'.out).mono ?_; rintro e W4 ⟨rfl, hb4⟩)
    have kp : ∀ {b o : Nat} {v : Value}, W2.cell? ⟨b, o, none⟩ = some v → W4.cell? ⟨b, o, none⟩ = some v := fun {b o v} h => (hb4.cell (p := ⟨b, o, none⟩) (cell_ltk h)).trans h
    have a1 := kp y1
    have a2 := kp y2
    have a3 := kp y3
    have a4 := kp y4
    have a5 := kp y5
    have a6 := kp y6
    have a7 := kp y7
    have t4 := kp t0'
    have g04 : W4.frozen? ⟨wb, 0, none⟩ = false := (frz_keep hb4 t0').trans g0
    have g14 : W4.frozen? ⟨ib, 0, none⟩ = false := (frz_keep hb4 y4).trans g1
    have HQ4 : Hid (Ca ((W4.setCell ⟨wb, 0, none⟩ (.bool bo)).setCell ⟨ib, 0, none⟩ (.int .i64 ((j : Int) + 1)))) := HQ.out m W4 (by rw [← HM.out]; exact hb4)
    have oth : ∀ (b o : Nat) (v : Value), wb ≠ b → W4.cell? ⟨b, o, none⟩ = some v → (W4.setCell ⟨wb, 0, none⟩ (.bool bo)).cell? ⟨b, o, none⟩ = some v := fun b o v hb hc => (World.cell?_setCell_other W4 _ _ _ (fun e => hb (congrArg Addr.block e))).trans hc
    have z1 := oth pb 1 _ hwp a1
    have z2 := oth pb 2 _ hwp a2
    have z3 := oth mb 1 _ hwm a3
    have z4 := oth ib 0 _ hwi a4
    have z5 := oth g (j * 2) _ hwg a5
    have z6 := oth bx 0 _ hwx a6
    have z7 := oth bx 1 _ hwx a7
    clear oth kp hb4 y1 y2 y3 y4 y5 y6 y7 t0' g0 g1 H44' H44 HQ HM
    refine hK.out _ _ ⟨a1, a2, a3, a4, a5, a6, a7⟩ (fun hHeld => ?_)
    clear hK K
    (try simp only [Act.put, List.setIfInBounds_toArray, List.set_cons_zero, List.set_cons_succ])
    refine wpAnyH_ready (rs := [37]) (by kernel_rfl) (by simp) ?_
    refine AllReadyH.cons (o := { dst := some 54, op := Go.Op.call { callee := Go.Callee.builtin Go.Builtin.min, args := #[Go.Operand.tmp 46, Go.Operand.tmp 53], argTypes := #[3, 3] }, type := 3, pos := "exact.go:108", after := #[{ on := 29, ground := Go.Ground.data }, { on := 36, ground := Go.Ground.data }, { on := 23, ground := Go.Ground.guard }], guard := some (23, true) }) (by rfl) (fun K hK => ?_) AllReadyH.nil
    go_simp
    refine hK.out _ _ ⟨a1, a2, a3, a4, a5, a6, a7⟩ (fun hHeld => ?_)
    clear hK K
    (try simp only [Act.put, List.setIfInBounds_toArray, List.set_cons_zero, List.set_cons_succ])
    refine wpAnyH_take (i := 38) (oi := { dst := some 55, op := Go.Op.indexAddr 77 (Go.Operand.tmp 45) (Go.Operand.tmp 54), type := 0, pos := "exact.go:108", after := #[{ on := 28, ground := Go.Ground.data }, { on := 37, ground := Go.Ground.data }, { on := 23, ground := Go.Ground.guard }], guard := some (23, true) }) (v := .pointer (some ⟨g, j * 2, none⟩)) rfl (by kernel_rfl) (by kernel_rfl) (by kernel_rfl) (fun _ _ _ h => h) (Or.inl ⟨by kernel_rfl, by intro wq hSw; (try dsimp only at hSw); clear hHeld; go_simp⟩) hHeld ?_
    simp only [Act.put, List.setIfInBounds_toArray, List.set_cons_zero, List.set_cons_succ]
    refine wpAnyH_take (i := 39) (oi := { dst := some 56, op := Go.Op.fieldAddr 90 (Go.Operand.tmp 55) 0, type := 0, pos := "exact.go:108", after := #[{ on := 38, ground := Go.Ground.data }, { on := 23, ground := Go.Ground.guard }], guard := some (23, true) }) (v := .pointer (some ⟨g, j * 2, none⟩)) rfl (by kernel_rfl) (by kernel_rfl) (by kernel_rfl) (fun _ _ _ h => h) (Or.inl ⟨by kernel_rfl, by intro wq hSw; (try dsimp only at hSw); clear hHeld; go_simp⟩) hHeld ?_
    simp only [Act.put, List.setIfInBounds_toArray, List.set_cons_zero, List.set_cons_succ]
    refine wpAnyH_take (i := 40) (oi := { dst := some 57, op := Go.Op.load 3 (Go.Operand.tmp 56), type := 3, pos := "exact.go:108", after := #[{ on := 39, ground := Go.Ground.data }, { on := 23, ground := Go.Ground.guard }], guard := some (23, true) }) (v := .int .i64 (rn : Int)) rfl (by kernel_rfl) (by kernel_rfl) (by kernel_rfl) (fun _ _ _ h => h) (Or.inl ⟨by kernel_rfl, by intro wq hSw; (try dsimp only at hSw); clear hHeld; go_simp⟩) hHeld ?_
    simp only [Act.put, List.setIfInBounds_toArray, List.set_cons_zero, List.set_cons_succ]
    refine wpAnyH_take (i := 45) (oi := { dst := some 62, op := Go.Op.binOp Go.BinOp.eql 3 (Go.Operand.tmp 57) (Go.Operand.tmp 61) 3, type := 4, pos := "exact.go:108", after := #[{ on := 40, ground := Go.Ground.data }, { on := 44, ground := Go.Ground.data }, { on := 23, ground := Go.Ground.guard }], guard := some (23, true) }) (v := .bool bo) rfl (by kernel_rfl) (by kernel_rfl) (by kernel_rfl) (fun _ _ _ h => h) (Or.inl ⟨by kernel_rfl, by intro wq hSw; (try dsimp only at hSw); clear hHeld; go_simp⟩) hHeld ?_
    simp only [Act.put, List.setIfInBounds_toArray, List.set_cons_zero, List.set_cons_succ]
    refine wpAnyH_take (i := 46) (oi := { dst := some 63, op := Go.Op.pick (Go.Operand.tmp 40) (Go.Operand.tmp 62) (Go.Operand.const (Go.Value.bool false)), type := 4, pos := "exact.go:108", after := #[{ on := 23, ground := Go.Ground.data }, { on := 45, ground := Go.Ground.data }], guard := none }) (v := .bool bo) rfl (by kernel_rfl) (by kernel_rfl) (by kernel_rfl) (fun _ _ _ h => h) (Or.inl ⟨by kernel_rfl, by intro wq hSw; (try dsimp only at hSw); clear hHeld; go_simp⟩) hHeld ?_
    simp only [Act.put, List.setIfInBounds_toArray, List.set_cons_zero, List.set_cons_succ]
    refine wpAnyH_ready (rs := [47]) (by kernel_rfl) (by simp) ?_
    refine AllReadyH.cons (o := { dst := none, op := Go.Op.store 4 (Go.Operand.tmp 4) (Go.Operand.tmp 63), type := 0, pos := "exact.go:108", after := #[{ on := 46, ground := Go.Ground.data }, { on := 44, ground := Go.Ground.chain }, { on := 0, ground := Go.Ground.phase }, { on := 1, ground := Go.Ground.phase }, { on := 2, ground := Go.Ground.phase }, { on := 3, ground := Go.Ground.phase }, { on := 4, ground := Go.Ground.phase }, { on := 5, ground := Go.Ground.phase }, { on := 6, ground := Go.Ground.phase }, { on := 7, ground := Go.Ground.phase }, { on := 8, ground := Go.Ground.phase }, { on := 9, ground := Go.Ground.phase }, { on := 10, ground := Go.Ground.phase }, { on := 11, ground := Go.Ground.phase }, { on := 12, ground := Go.Ground.phase }, { on := 13, ground := Go.Ground.phase }, { on := 14, ground := Go.Ground.phase }, { on := 15, ground := Go.Ground.phase }, { on := 16, ground := Go.Ground.phase }, { on := 17, ground := Go.Ground.phase }, { on := 18, ground := Go.Ground.phase }, { on := 19, ground := Go.Ground.phase }, { on := 20, ground := Go.Ground.phase }, { on := 21, ground := Go.Ground.phase }, { on := 22, ground := Go.Ground.phase }, { on := 23, ground := Go.Ground.phase }, { on := 24, ground := Go.Ground.phase }, { on := 25, ground := Go.Ground.phase }, { on := 26, ground := Go.Ground.phase }, { on := 27, ground := Go.Ground.phase }, { on := 28, ground := Go.Ground.phase }, { on := 29, ground := Go.Ground.phase }, { on := 30, ground := Go.Ground.phase }, { on := 31, ground := Go.Ground.phase }, { on := 32, ground := Go.Ground.phase }, { on := 33, ground := Go.Ground.phase }, { on := 34, ground := Go.Ground.phase }, { on := 35, ground := Go.Ground.phase }, { on := 36, ground := Go.Ground.phase }, { on := 37, ground := Go.Ground.phase }, { on := 38, ground := Go.Ground.phase }, { on := 39, ground := Go.Ground.phase }, { on := 40, ground := Go.Ground.phase }, { on := 41, ground := Go.Ground.phase }, { on := 42, ground := Go.Ground.phase }, { on := 43, ground := Go.Ground.phase }, { on := 44, ground := Go.Ground.phase }, { on := 45, ground := Go.Ground.phase }, { on := 46, ground := Go.Ground.phase }], guard := none }) (by rfl) (fun K hK => ?_) AllReadyH.nil
    go_simp
    refine hK.out _ _ ⟨z1, z2, z3, z4, z5, z6, z7⟩ (fun hHeld => ?_)
    clear hK K
    (try simp only [Act.put, List.setIfInBounds_toArray, List.set_cons_zero, List.set_cons_succ])
    refine wpAnyH_done (by kernel_rfl) ?_ _
    have x0 : (W4.setCell ⟨wb, 0, none⟩ (.bool bo)).cell? ⟨wb, 0, none⟩ = some (.bool bo) := World.cell?_setCell_same _ _ _ t4
    have x1 : (W4.setCell ⟨wb, 0, none⟩ (.bool bo)).frozen? ⟨ib, 0, none⟩ = false := (World.frozen?_setCell _ _ _ _).trans g14
    obtain ⟨W3, hW3⟩ : ∃ W3, W3 = W4.setCell ⟨wb, 0, none⟩ (.bool bo) := ⟨_, rfl⟩
    have HQ3 : Hid (Ca (W3.setCell ⟨ib, 0, none⟩ (.int .i64 ((j : Int) + 1)))) := by
      have hq := HQ4.out
      rw [← hW3] at hq
      exact hq
    rw [← hW3] at z1 z2 z3 z4 z5 x0 x1 ⊢
    have x2 : (W3.setCell ⟨ib, 0, none⟩ (.int .i64 ((j : Int) + 1))).cell? ⟨wb, 0, none⟩ = some (.bool bo) := (World.cell?_setCell_other W3 _ _ _ (fun e => hwi (congrArg Addr.block e).symm)).trans x0
    have x3 : (W3.setCell ⟨ib, 0, none⟩ (.int .i64 ((j : Int) + 1))).cell? ⟨ib, 0, none⟩ = some (.int .i64 ((j : Int) + 1)) := World.cell?_setCell_same _ _ _ z4
    clear hW3 hHeld a1 a2 a3 a4 a5 a6 a7 t4 g04 g14 z6 z7 HQ4
    go_wp2_with fail
    all_goals go_ret
    all_goals exact ⟨by simp_all, HQ3.out⟩
end Go.Proofs.Ytdhinpmjbcohaaa.Kp
