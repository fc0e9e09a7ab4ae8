import Derived.Test.YtcoccggimbficaaDoorSe
import Derived.Test.YtcoccggimbficaaDoorSb
namespace Go.Proofs.YtcoccggimbficaaDoor
open Go Go.RowKit Go.Sort
set_option linter.unusedSimpArgs false
set_option linter.unusedVariables false

/-- The boxes of two packets. -/
structure Bxs (P Q : Array Value) (w w' : World) : Prop where
  box : w'.heap[w.heap.size]? = some (.cells P 31)
  qbox : w'.heap[w.heap.size + 1]? = some (.cells Q 31)
  bel : Below w.heap.size w w'
theorem Bxs.below {P Q : Array Value} {w w1 w2 : World} (h : Hid (Bxs P Q w w1)) (hb : Below w1.heap.size w1 w2) : Hid (Bxs P Q w w2) :=
  ⟨(hb.block _ (block_lt h.out.box)).trans h.out.box, (hb.block _ (block_lt h.out.qbox)).trans h.out.qbox, h.out.bel.trans (hb.mono h.out.bel.size)⟩
theorem yields_load {o : Oper} {a : Act} {x : Operand} {g : Nat} {P : Array Value} {w : World} (ho : o.op = .load 31 x) (hx : a.eval x = .pointer (some ⟨g, 0, none⟩)) (hg : w.heap[g]? = some (.cells P 31)) (hs : P.size = 25) :
    (execOp a.eval o).run Tryd.prog w = .ok (.value (.agg P)) w := by
  unfold execOp
  simp only [ho, hx, Instr.loadAt, Instr.sureAddr, Sem.run_bind, Sem.run_pure, Result.andThen_ok, load_row hg hs]
theorem held_call {P : Program} {ops : Array Oper} {Q : Exit → Act → World → Prop} {o : Oper} {a : Act} {w : World} {K : Act → World → Prop} {E : Prop} (hw : Region.wanted o (yielded ops a.tmps) = true) (f : FuncId) (args : Array Value)
    (hr : (execOp a.eval o).run P w = .ok (.enter f args) w) {R : Value → World → Prop} (hc : Calls P f args w fun e w' => ∃ v, e = .returned v ∧ R v w') (hK : ∀ v w', R v w' → K (a.put o.dst v) w') :
    if Region.wanted o (yielded ops a.tmps) = true then Oper.wp P o a w K Q else E := by
  rw [if_pos hw]
  unfold Oper.wp
  rw [hr]
  simp only [Oper.upon]
  exact hc.mono fun e w' ⟨v, he, hv⟩ => by subst he; exact hK v w' hv
theorem nm_full {k : Int} (h1 : 1 ≤ k) (h2 : k ≤ 14) : (nm k).toList.isEmpty = false := by
  rcases kinds14' h1 h2 with e | e | e | e | e | e | e | e | e | e | e | e | e | e <;> (rw [e]; show List.isEmpty _ = false; kernel_rfl)
theorem str_eql_empty (s : ByteArray) (w : World) (h : s.toList.isEmpty = false) : (binOp .eql 9 (.string s) (.string ⟨#[]⟩)).run Tryd.prog w = .ok (.bool false) w := by
  have h2 : (s.toList == (⟨#[]⟩ : ByteArray).toList) = false := by
    rw [Lib.toList_data] at h ⊢
    rw [Lib.toList_data]
    revert h
    cases s.data.toList <;> simp
  go_simp
theorem yields_eqs {o : Oper} {a : Act} {t ty : TypeId} {x y : Operand} {xs ys : ByteArray} {v : Value} {w : World} (ho : o.op = .binOp .eql t x y ty) (hx : a.eval x = .string xs) (hy : a.eval y = .string ys)
    (h : (binOp .eql t (.string xs) (.string ys)).run Tryd.prog w = .ok v w) : (execOp a.eval o).run Tryd.prog w = .ok (.value v) w := by
  unfold execOp
  have hg : (eqGuard .eql t x y (.string xs) (.string ys)).run Tryd.prog w = .ok () w := by go_simp
  simp only [ho, hx, hy, Sem.run_bind, hg, Result.andThen_ok, h, Sem.run_pure]
theorem fit_copy {p : Pk} {c : Cn} (h : Fit p c) (s1 s2 s3 s4 s5 s6 : Sl) (h1 : s1.n = p.wP.n) (h2 : s2.n = p.pass.n) (h3 : s3.n = p.mP.n) (h4 : s4.n = p.asks.n) (h5 : s5.n = p.codes.n) (h6 : s6.n = p.filters.n) :
    Fit { p with wP := s1, pass := s2, mP := s3, asks := s4, codes := s5, filters := s6 } c :=
  ⟨h.cl, h.us, h.wt, h.mt, by simp only; rw [h1]; exact h.wp, by simp only; rw [h2]; exact h.ps, by simp only; rw [h3]; exact h.mp, by simp only; rw [h4]; exact h.an, by simp only; rw [h5]; exact h.cn, by simp only; rw [h6]; exact h.fn,
    fun i hi => h.af i (by simp only at hi; omega), fun i hi => h.fs i (by simp only at hi; omega)⟩
theorem len_right (p : Pk) (c : Cn) (w : World) (hg : Gd w) (hin : In w p c) (hs : Small p c) (hr : Right TT p c) : Calls Tryd.prog 12 #[p.v] w fun e w' => e = .returned (.int .i64 (sz p c)) ∧ Below w.heap.size w w' := by
  have h := length_any p c w hg hin hs
  rw [if_pos ((ck_right TT p c).2 hr)] at h
  exact h

set_option maxHeartbeats 20000000 in
set_option maxRecDepth 100000 in
theorem pair_walk (p q : Pk) (c d : Cn) (w : World) (hg : Gd w) (hin : In w p c) (hin' : In w q d) (hf : Fit p c) (hf' : Fit q d) : Calls Tryd.prog 4 #[p.v, q.v] w fun e w' => e = .returned (.bool true) ∧ Below w.heap.size w w' := by
  have HG : Hid (Gd w) := hg
  have HI : Hid (In w p c) := hin
  have HJ : Hid (In w q d) := hin'
  have HF : Hid (Fit p c) := hf
  have HE : Hid (Fit q d) := hf'
  clear hg hin hin' hf hf'
  obtain ⟨P, hP⟩ : ∃ P, P = pkCells p := ⟨_, rfl⟩
  obtain ⟨Q, hQ⟩ : ∃ Q, Q = pkCells q := ⟨_, rfl⟩
  rw [show p.v = .agg P by rw [hP]; rfl, show q.v = .agg Q by rw [hQ]; rfl]
  have HP : Hid (P = pkCells p) := hP
  have HQ : Hid (Q = pkCells q) := hQ
  have SP : Hid (P.size = 25) := by show _ = _; rw [hP]; rfl
  have SQ : Hid (Q.size = 25) := by show _ = _; rw [hQ]; rfl
  clear hP hQ
  obtain ⟨W, hW⟩ : ∃ W, W = (w.alloc (.cells P 31)).alloc (.cells Q 31) := ⟨_, rfl⟩
  have B0 : Hid (Bxs P Q w W) := by
    subst hW
    exact ⟨(Below.heap_alloc (w.alloc (.cells P 31)) _ _ (by show w.heap.size < (w.heap.push _).size; simp)).trans (heap_alloc_new w _), heap_alloc2_new w _ _, below2 _ _ _⟩
  go_enter Tryd.func4, Tryd.ntmps4
  go_upto_region 1 with fail
  rw [← hW]
  clear hW
  go_wp2_with fail
  go_must (go_at_call 10)
  refine (known_any W (HG.out.below B0.out.bel)).mono ?_
  rintro e w1 ⟨rfl, hb⟩
  have B1 := Bxs.below B0 hb
  clear hb B0
  go_wp2_with (first | (refine wpList_load_wanted rfl _ rfl w.heap.size rfl P (0, 0) B1.out.box SP.out ?_) | fail)
  go_must (go_at_call 11)
  refine (show Calls Tryd.prog 11 #[.agg P] w1 _ from by rw [HP.out]; exact right_any p c w1 (HG.out.below B1.out.bel) (HI.out.below B1.out.bel) HF.out).mono ?_
  rintro e w2 ⟨b, rfl, hb, hr⟩
  have B2 := Bxs.below B1 hb
  clear hb B1
  cases b
  · clear hr
    go_wp2
    go_ret
    exact ⟨rfl, B2.out.bel⟩
  have HS : Hid (Small p c) := (hr rfl).1
  have HR : Hid (Right TT p c) := (hr rfl).2
  clear hr
  go_wp2_with (first | (refine wpList_load_wanted rfl _ rfl w.heap.size rfl P (0, 0) B2.out.box SP.out ?_) | fail)
  go_must (go_at_call 12)
  refine (show Calls Tryd.prog 12 #[.agg P] w2 _ from by rw [HP.out]; exact len_right p c w2 (HG.out.below B2.out.bel) (HI.out.below B2.out.bel) HS.out HR.out).mono ?_
  rintro e w3 ⟨rfl, hb⟩
  have B3 := Bxs.below B2 hb
  clear hb B2
  go_upto_region 6 with fail
  have D3 : Hid (Bxs P Q w w3.drew) := ⟨B3.out.box, B3.out.qbox, B3.out.bel.drew⟩
  clear B3
  have HM : Hid (may p.kind (fg p) = true) := may_fg HR.out
  obtain ⟨nn, hnn⟩ : ∃ nn, nn = nm p.kind := ⟨_, rfl⟩
  have NE : Hid (∀ wq, (binOp .eql 9 (.string nn) (.string ⟨#[]⟩)).run Tryd.prog wq = .ok (.bool false) wq) := fun wq => str_eql_empty nn wq (by rw [hnn]; exact nm_full HR.out.k1 HR.out.k2)
  have NM : Hid (∀ w', KindsAt w' → Calls Tryd.prog 8 #[.int .i64 p.kind] w' fun e w'' => e = .returned (.string nn) ∧ w'' = w') := fun w' hk => by rw [hnn]; exact name_any p.kind w' hk
  clear hnn
  have N8 : Hid (¬ ((sz p c : Int) < 0)) := by show ¬ _; omega
  have N12 : Hid (¬ ((268435455 : Int) < sz p c)) := by have := HR.out.s3; show ¬ _; omega
  refine wp_region_held_drew (S := fun w' => Hid (Bxs P Q w w')) (by kernel_rfl) D3 (fun hHeld => ?_)
  refine wpAnyH_take (i := 0) (oi := { dst := some 13, op := Go.Op.fieldAddr 31 (Go.Operand.tmp 2) 0, type := 0, pos := "outright.go:34", after := #[], guard := none }) (v := .pointer (some ⟨w.heap.size, 0, none⟩)) rfl (by kernel_rfl) (by kernel_rfl) (by kernel_rfl) (fun _ _ _ h => h) (Or.inl ⟨by kernel_rfl, by intro wq hSw; clear hSw hHeld; go_simp⟩) hHeld ?_
  simp only [Act.put, List.setIfInBounds_toArray, List.set_cons_zero, List.set_cons_succ]
  refine wpAnyH_take (i := 1) (oi := { dst := some 14, op := Go.Op.load 3 (Go.Operand.tmp 13), type := 3, pos := "outright.go:34", after := #[{ on := 0, ground := Go.Ground.data }], guard := none }) (v := .int .i64 p.kind) rfl (by kernel_rfl) (by kernel_rfl) (by kernel_rfl) (fun _ _ _ h => h) (Or.inl ⟨by kernel_rfl, by intro wq hSw; have hk := boxed_cell (Hid.out hSw).box 0 (.int .i64 p.kind) (by rw [HP.out]; rfl); clear hSw hHeld; go_simp⟩) hHeld ?_
  simp only [Act.put, List.setIfInBounds_toArray, List.set_cons_zero, List.set_cons_succ]
  refine wpAnyH_take (i := 2) (oi := { dst := some 15, op := Go.Op.load 31 (Go.Operand.tmp 2), type := 31, pos := "outright.go:34", after := #[], guard := none }) (v := .agg P) rfl (by kernel_rfl) (by kernel_rfl) (by kernel_rfl) (fun _ _ _ h => h) (Or.inl ⟨by kernel_rfl, fun wq hSw => yields_load rfl rfl (Hid.out hSw).box SP.out⟩) hHeld ?_
  simp only [Act.put, List.setIfInBounds_toArray, List.set_cons_zero, List.set_cons_succ]
  refine wpAnyH_ready (rs := [3]) (by kernel_rfl) (by simp) ?_
  refine AllReadyH.cons (o := { dst := some 16, op := Go.Op.call { callee := Go.Callee.value (Go.Operand.func 13), args := #[Go.Operand.tmp 15], argTypes := #[31] }, type := 3, pos := "outright.go:34", after := #[{ on := 2, ground := Go.Ground.data }], guard := none }) (by rfl) (fun K hK => held_call (by kernel_rfl) 13 #[.agg P] (by clear hHeld hK; go_simp) (R := fun v w' => v = .int .i64 (fg p) ∧ Below w3.drew.heap.size w3.drew w') ((show Calls Tryd.prog 13 #[.agg P] w3.drew fun e w' => e = .returned (.int .i64 (fg p)) ∧ Below w3.drew.heap.size w3.drew w' from by rw [HP.out]; exact flags_any p c w3.drew (HG.out.below D3.out.bel) (HI.out.below D3.out.bel) HS.out HR.out).mono fun e w' ⟨he, hb⟩ => ⟨_, he, rfl, hb⟩) ?_) AllReadyH.nil
  rintro _ w4 ⟨rfl, hb⟩
  have D4 := Bxs.below D3 hb
  clear hb hHeld D3
  refine hK.out _ _ D4 (fun hHeld => ?_)
  clear hK K
  simp only [Act.put, List.setIfInBounds_toArray, List.set_cons_zero, List.set_cons_succ]
  refine wpAnyH_ready (rs := [4]) (by kernel_rfl) (by simp) ?_
  refine AllReadyH.cons (o := { dst := some 17, op := Go.Op.call { callee := Go.Callee.value (Go.Operand.func 6), args := #[Go.Operand.tmp 14, Go.Operand.tmp 16], argTypes := #[3, 3] }, type := 4, pos := "outright.go:34", after := #[{ on := 1, ground := Go.Ground.data }, { on := 3, ground := Go.Ground.data }, { on := 3, ground := Go.Ground.chain }], guard := none }) (by rfl) (fun K hK => held_call (by kernel_rfl) 6 #[.int .i64 p.kind, .int .i64 (fg p)] (by clear hHeld hK; go_simp) (R := fun v w' => v = .bool true ∧ Below w4.heap.size w4 w') ((may_any p.kind (fg p) w4 (HG.out.below D4.out.bel).kinds).mono fun e w' ⟨he, hw⟩ => ⟨_, he, by rw [HM.out], by rw [hw]; exact Below.refl _ _⟩) ?_) AllReadyH.nil
  rintro _ w5 ⟨rfl, hb⟩
  have D5 := Bxs.below D4 hb
  clear hb hHeld D4
  refine hK.out _ _ D5 (fun hHeld => ?_)
  clear hK K
  simp only [Act.put, List.setIfInBounds_toArray, List.set_cons_zero, List.set_cons_succ]
  refine wpAnyH_take (i := 5) (oi := { dst := some 18, op := Go.Op.unOp Go.UnOp.not 4 (Go.Operand.tmp 17), type := 4, pos := "outright.go:34", after := #[{ on := 4, ground := Go.Ground.data }], guard := none }) (v := .bool false) rfl (by kernel_rfl) (by kernel_rfl) (by kernel_rfl) (fun _ _ _ h => h) (Or.inl ⟨by kernel_rfl, by intro wq hSw; clear hSw hHeld; go_simp⟩) hHeld ?_
  simp only [Act.put, List.setIfInBounds_toArray, List.set_cons_zero, List.set_cons_succ]
  refine wpAnyH_take (i := 6) (oi := { dst := some 19, op := Go.Op.move (Go.Operand.tmp 18), type := 4, pos := "outright.go:34", after := #[{ on := 5, ground := Go.Ground.data }, { on := 4, ground := Go.Ground.chain }], guard := none }) (v := .bool false) rfl (by kernel_rfl) (by kernel_rfl) (by kernel_rfl) (fun _ _ _ h => h) (Or.inl ⟨by kernel_rfl, fun wq _ => pureVal_run (by kernel_rfl) wq⟩) hHeld ?_
  simp only [Act.put, List.setIfInBounds_toArray, List.set_cons_zero, List.set_cons_succ]
  refine wpAnyH_take (i := 7) (oi := { dst := some 20, op := Go.Op.move (Go.Operand.tmp 5), type := 3, pos := "outright.go:34", after := #[{ on := 6, ground := Go.Ground.guard }], guard := some (6, false) }) (v := .int .i64 (sz p c)) rfl (by kernel_rfl) (by kernel_rfl) (by kernel_rfl) (fun _ _ _ h => h) (Or.inl ⟨by kernel_rfl, fun wq _ => pureVal_run (by kernel_rfl) wq⟩) hHeld ?_
  simp only [Act.put, List.setIfInBounds_toArray, List.set_cons_zero, List.set_cons_succ]
  refine wpAnyH_take (i := 8) (oi := { dst := some 21, op := Go.Op.binOp Go.BinOp.lss 3 (Go.Operand.tmp 20) (Go.Operand.const (Go.Value.int Go.IntKind.i64 0)) 3, type := 4, pos := "outright.go:34", after := #[{ on := 7, ground := Go.Ground.data }, { on := 6, ground := Go.Ground.guard }], guard := some (6, false) }) (v := .bool false) rfl (by kernel_rfl) (by kernel_rfl) (by kernel_rfl) (fun _ _ _ h => h) (Or.inl ⟨by kernel_rfl, by intro wq hSw; have h8 := N8.out; clear hSw hHeld; go_simp⟩) hHeld ?_
  simp only [Act.put, List.setIfInBounds_toArray, List.set_cons_zero, List.set_cons_succ]
  refine wpAnyH_take (i := 9) (oi := { dst := some 22, op := Go.Op.pick (Go.Operand.tmp 19) (Go.Operand.const (Go.Value.bool true)) (Go.Operand.tmp 21), type := 4, pos := "outright.go:34", after := #[{ on := 6, ground := Go.Ground.data }, { on := 8, ground := Go.Ground.data }], guard := none }) (v := .bool false) rfl (by kernel_rfl) (by kernel_rfl) (by kernel_rfl) (fun _ _ _ h => h) (Or.inl ⟨by kernel_rfl, fun wq _ => pureVal_run (by kernel_rfl) wq⟩) hHeld ?_
  simp only [Act.put, List.setIfInBounds_toArray, List.set_cons_zero, List.set_cons_succ]
  refine wpAnyH_take (i := 10) (oi := { dst := some 23, op := Go.Op.move (Go.Operand.tmp 22), type := 4, pos := "outright.go:34", after := #[{ on := 9, ground := Go.Ground.data }, { on := 6, ground := Go.Ground.chain }], guard := none }) (v := .bool false) rfl (by kernel_rfl) (by kernel_rfl) (by kernel_rfl) (fun _ _ _ h => h) (Or.inl ⟨by kernel_rfl, fun wq _ => pureVal_run (by kernel_rfl) wq⟩) hHeld ?_
  simp only [Act.put, List.setIfInBounds_toArray, List.set_cons_zero, List.set_cons_succ]
  refine wpAnyH_take (i := 11) (oi := { dst := some 24, op := Go.Op.move (Go.Operand.tmp 5), type := 3, pos := "outright.go:34", after := #[{ on := 10, ground := Go.Ground.guard }], guard := some (10, false) }) (v := .int .i64 (sz p c)) rfl (by kernel_rfl) (by kernel_rfl) (by kernel_rfl) (fun _ _ _ h => h) (Or.inl ⟨by kernel_rfl, fun wq _ => pureVal_run (by kernel_rfl) wq⟩) hHeld ?_
  simp only [Act.put, List.setIfInBounds_toArray, List.set_cons_zero, List.set_cons_succ]
  refine wpAnyH_take (i := 12) (oi := { dst := some 25, op := Go.Op.binOp Go.BinOp.gtr 3 (Go.Operand.tmp 24) (Go.Operand.const (Go.Value.int Go.IntKind.i64 268435455)) 3, type := 4, pos := "outright.go:34", after := #[{ on := 11, ground := Go.Ground.data }, { on := 10, ground := Go.Ground.guard }], guard := some (10, false) }) (v := .bool false) rfl (by kernel_rfl) (by kernel_rfl) (by kernel_rfl) (fun _ _ _ h => h) (Or.inl ⟨by kernel_rfl, by intro wq hSw; have h8 := N12.out; clear hSw hHeld; go_simp⟩) hHeld ?_
  simp only [Act.put, List.setIfInBounds_toArray, List.set_cons_zero, List.set_cons_succ]
  refine wpAnyH_take (i := 13) (oi := { dst := some 26, op := Go.Op.pick (Go.Operand.tmp 23) (Go.Operand.const (Go.Value.bool true)) (Go.Operand.tmp 25), type := 4, pos := "outright.go:34", after := #[{ on := 10, ground := Go.Ground.data }, { on := 12, ground := Go.Ground.data }], guard := none }) (v := .bool false) rfl (by kernel_rfl) (by kernel_rfl) (by kernel_rfl) (fun _ _ _ h => h) (Or.inl ⟨by kernel_rfl, fun wq _ => pureVal_run (by kernel_rfl) wq⟩) hHeld ?_
  simp only [Act.put, List.setIfInBounds_toArray, List.set_cons_zero, List.set_cons_succ]
  refine wpAnyH_take (i := 14) (oi := { dst := some 27, op := Go.Op.move (Go.Operand.tmp 26), type := 4, pos := "outright.go:34", after := #[{ on := 13, ground := Go.Ground.data }, { on := 10, ground := Go.Ground.chain }], guard := none }) (v := .bool false) rfl (by kernel_rfl) (by kernel_rfl) (by kernel_rfl) (fun _ _ _ h => h) (Or.inl ⟨by kernel_rfl, fun wq _ => pureVal_run (by kernel_rfl) wq⟩) hHeld ?_
  simp only [Act.put, List.setIfInBounds_toArray, List.set_cons_zero, List.set_cons_succ]
  refine wpAnyH_take (i := 15) (oi := { dst := some 28, op := Go.Op.fieldAddr 31 (Go.Operand.tmp 2) 0, type := 0, pos := "outright.go:34", after := #[{ on := 14, ground := Go.Ground.guard }], guard := some (14, false) }) (v := .pointer (some ⟨w.heap.size, 0, none⟩)) rfl (by kernel_rfl) (by kernel_rfl) (by kernel_rfl) (fun _ _ _ h => h) (Or.inl ⟨by kernel_rfl, by intro wq hSw; clear hSw hHeld; go_simp⟩) hHeld ?_
  simp only [Act.put, List.setIfInBounds_toArray, List.set_cons_zero, List.set_cons_succ]
  refine wpAnyH_take (i := 16) (oi := { dst := some 29, op := Go.Op.load 3 (Go.Operand.tmp 28), type := 3, pos := "outright.go:34", after := #[{ on := 15, ground := Go.Ground.data }, { on := 14, ground := Go.Ground.guard }], guard := some (14, false) }) (v := .int .i64 p.kind) rfl (by kernel_rfl) (by kernel_rfl) (by kernel_rfl) (fun _ _ _ h => h) (Or.inl ⟨by kernel_rfl, by intro wq hSw; have hk := boxed_cell (Hid.out hSw).box 0 (.int .i64 p.kind) (by rw [HP.out]; rfl); clear hSw hHeld; go_simp⟩) hHeld ?_
  simp only [Act.put, List.setIfInBounds_toArray, List.set_cons_zero, List.set_cons_succ]
  refine wpAnyH_ready (rs := [17]) (by kernel_rfl) (by simp) ?_
  refine AllReadyH.cons (o := { dst := some 30, op := Go.Op.call { callee := Go.Callee.value (Go.Operand.func 8), args := #[Go.Operand.tmp 29], argTypes := #[3] }, type := 9, pos := "outright.go:34", after := #[{ on := 16, ground := Go.Ground.data }, { on := 14, ground := Go.Ground.chain }, { on := 14, ground := Go.Ground.guard }], guard := some (14, false) }) (by rfl) (fun K hK => held_call (by kernel_rfl) 8 #[.int .i64 p.kind] (by clear hHeld hK; go_simp) (R := fun v w' => v = .string nn ∧ Below w5.heap.size w5 w') ((NM.out w5 (HG.out.below D5.out.bel).kinds).mono fun e w' ⟨he, hw⟩ => ⟨_, he, rfl, by rw [hw]; exact Below.refl _ _⟩) ?_) AllReadyH.nil
  rintro _ w6 ⟨rfl, hb⟩
  have D6 := Bxs.below D5 hb
  clear hb hHeld D5
  refine hK.out _ _ D6 (fun hHeld => ?_)
  clear hK K
  simp only [Act.put, List.setIfInBounds_toArray, List.set_cons_zero, List.set_cons_succ]
  refine wpAnyH_take (i := 18) (oi := { dst := some 31, op := Go.Op.binOp Go.BinOp.eql 9 (Go.Operand.tmp 30) (Go.Operand.const (Go.Value.string { data := #[] })) 9, type := 4, pos := "outright.go:34", after := #[{ on := 17, ground := Go.Ground.data }, { on := 14, ground := Go.Ground.guard }], guard := some (14, false) }) (v := .bool false) rfl (by kernel_rfl) (by kernel_rfl) (by kernel_rfl) (fun _ _ _ h => h) (Or.inl ⟨by kernel_rfl, fun wq hSw => yields_eqs rfl rfl rfl (NE.out wq)⟩) hHeld ?_
  simp only [Act.put, List.setIfInBounds_toArray, List.set_cons_zero, List.set_cons_succ]
  refine wpAnyH_take (i := 19) (oi := { dst := some 32, op := Go.Op.pick (Go.Operand.tmp 27) (Go.Operand.const (Go.Value.bool true)) (Go.Operand.tmp 31), type := 4, pos := "outright.go:34", after := #[{ on := 14, ground := Go.Ground.data }, { on := 18, ground := Go.Ground.data }], guard := none }) (v := .bool false) rfl (by kernel_rfl) (by kernel_rfl) (by kernel_rfl) (fun _ _ _ h => h) (Or.inl ⟨by kernel_rfl, fun wq _ => pureVal_run (by kernel_rfl) wq⟩) hHeld ?_
  simp only [Act.put, List.setIfInBounds_toArray, List.set_cons_zero, List.set_cons_succ]
  refine wpAnyH_take (i := 20) (oi := { dst := some 33, op := Go.Op.move (Go.Operand.tmp 32), type := 4, pos := "outright.go:34", after := #[{ on := 19, ground := Go.Ground.data }, { on := 17, ground := Go.Ground.chain }], guard := none }) (v := .bool false) rfl (by kernel_rfl) (by kernel_rfl) (by kernel_rfl) (fun _ _ _ h => h) (Or.inl ⟨by kernel_rfl, fun wq _ => pureVal_run (by kernel_rfl) wq⟩) hHeld ?_
  simp only [Act.put, List.setIfInBounds_toArray, List.set_cons_zero, List.set_cons_succ]
  refine wpAnyH_take (i := 21) (oi := { dst := some 34, op := Go.Op.load 31 (Go.Operand.tmp 2), type := 31, pos := "outright.go:34", after := #[{ on := 20, ground := Go.Ground.guard }], guard := some (20, false) }) (v := .agg P) rfl (by kernel_rfl) (by kernel_rfl) (by kernel_rfl) (fun _ _ _ h => h) (Or.inl ⟨by kernel_rfl, fun wq hSw => yields_load rfl rfl (Hid.out hSw).box SP.out⟩) hHeld ?_
  simp only [Act.put, List.setIfInBounds_toArray, List.set_cons_zero, List.set_cons_succ]
  refine wpAnyH_take (i := 22) (oi := { dst := some 35, op := Go.Op.load 31 (Go.Operand.tmp 2), type := 31, pos := "outright.go:34", after := #[{ on := 20, ground := Go.Ground.guard }], guard := some (20, false) }) (v := .agg P) rfl (by kernel_rfl) (by kernel_rfl) (by kernel_rfl) (fun _ _ _ h => h) (Or.inl ⟨by kernel_rfl, fun wq hSw => yields_load rfl rfl (Hid.out hSw).box SP.out⟩) hHeld ?_
  simp only [Act.put, List.setIfInBounds_toArray, List.set_cons_zero, List.set_cons_succ]
  refine wpAnyH_ready (rs := [23]) (by kernel_rfl) (by simp) ?_
  refine AllReadyH.cons (o := { dst := some 36, op := Go.Op.call { callee := Go.Callee.value (Go.Operand.func 15), args := #[Go.Operand.tmp 35], argTypes := #[31] }, type := 31, pos := "outright.go:34", after := #[{ on := 22, ground := Go.Ground.data }, { on := 20, ground := Go.Ground.chain }, { on := 20, ground := Go.Ground.guard }], guard := some (20, false) }) (by rfl) (fun K hK => held_call (by kernel_rfl) 15 #[.agg P] (by clear hHeld hK; go_simp) (R := fun v w' => ∃ p' : Pk, v = p'.v ∧ Below w6.heap.size w6 w' ∧ In w' p' c ∧ Fit p' c ∧ sm p c p' c = true) ((show Calls Tryd.prog 15 #[.agg P] w6 fun e w' => ∃ s1 s2 s3 s4 s5 s6 : Sl, e = .returned ({ p with wP := s1, pass := s2, mP := s3, asks := s4, codes := s5, filters := s6 } : Pk).v ∧ Below w6.heap.size w6 w' ∧ In w' { p with wP := s1, pass := s2, mP := s3, asks := s4, codes := s5, filters := s6 } c ∧ s1.n = p.wP.n ∧ s2.n = p.pass.n ∧ s3.n = p.mP.n ∧ s4.n = p.asks.n ∧ s5.n = p.codes.n ∧ s6.n = p.filters.n from by rw [HP.out]; exact copy_any p c w6 (HI.out.below D6.out.bel) HS.out).mono fun e w' ⟨s1, s2, s3, s4, s5, s6, he, hb, hi, n1, n2, n3, n4, n5, n6⟩ => ⟨_, he, _, rfl, hb, hi, fit_copy HF.out s1 s2 s3 s4 s5 s6 n1 n2 n3 n4 n5 n6, sm_copy p c s1 s2 s3 s4 s5 s6 n1 n2 n3 n4 n5 n6⟩) ?_) AllReadyH.nil
  rintro v2 w7 ⟨p2, hv2, hb, hi2, hf2, hs2⟩
  have D7 := Bxs.below D6 hb
  clear hb hHeld D6
  have V2 : Hid (v2 = p2.v) := hv2
  have I2 : Hid (In w7 p2 c) := hi2
  have F2 : Hid (Fit p2 c) := hf2
  have S2 : Hid (sm p c p2 c = true) := hs2
  clear hv2 hi2 hf2 hs2
  refine hK.out _ _ D7 (fun hHeld => ?_)
  clear hK K
  simp only [Act.put, List.setIfInBounds_toArray, List.set_cons_zero, List.set_cons_succ]
  refine wpAnyH_ready (rs := [24]) (by kernel_rfl) (by simp) ?_
  refine AllReadyH.cons (o := { dst := some 37, op := Go.Op.call { callee := Go.Callee.value (Go.Operand.func 14), args := #[Go.Operand.tmp 34, Go.Operand.tmp 36], argTypes := #[31, 31] }, type := 4, pos := "outright.go:34", after := #[{ on := 21, ground := Go.Ground.data }, { on := 23, ground := Go.Ground.data }, { on := 23, ground := Go.Ground.chain }, { on := 20, ground := Go.Ground.guard }], guard := some (20, false) }) (by rfl) (fun K hK => held_call (by kernel_rfl) 14 #[.agg P, v2] (by clear hHeld hK; go_simp) (R := fun v w' => v = .bool true ∧ Below w7.heap.size w7 w') ((show Calls Tryd.prog 14 #[.agg P, v2] w7 fun e w' => e = .returned (.bool (sm p c p2 c)) ∧ Below w7.heap.size w7 w' from by rw [HP.out, V2.out]; exact same_any p p2 c c w7 (HI.out.below D7.out.bel) I2.out HF.out F2.out).mono fun e w' ⟨he, hb⟩ => ⟨_, he, by rw [S2.out], hb⟩) ?_) AllReadyH.nil
  rintro _ w8 ⟨rfl, hb⟩
  have D8 := Bxs.below D7 hb
  clear hb hHeld D7
  clear V2 I2 F2 S2
  refine hK.out _ _ D8 (fun hHeld => ?_)
  clear hK K
  simp only [Act.put, List.setIfInBounds_toArray, List.set_cons_zero, List.set_cons_succ]
  refine wpAnyH_take (i := 25) (oi := { dst := some 38, op := Go.Op.unOp Go.UnOp.not 4 (Go.Operand.tmp 37), type := 4, pos := "outright.go:34", after := #[{ on := 24, ground := Go.Ground.data }, { on := 20, ground := Go.Ground.guard }], guard := some (20, false) }) (v := .bool false) rfl (by kernel_rfl) (by kernel_rfl) (by kernel_rfl) (fun _ _ _ h => h) (Or.inl ⟨by kernel_rfl, by intro wq hSw; clear hSw hHeld; go_simp⟩) hHeld ?_
  simp only [Act.put, List.setIfInBounds_toArray, List.set_cons_zero, List.set_cons_succ]
  refine wpAnyH_take (i := 26) (oi := { dst := some 39, op := Go.Op.pick (Go.Operand.tmp 33) (Go.Operand.const (Go.Value.bool true)) (Go.Operand.tmp 38), type := 4, pos := "outright.go:34", after := #[{ on := 20, ground := Go.Ground.data }, { on := 25, ground := Go.Ground.data }], guard := none }) (v := .bool false) rfl (by kernel_rfl) (by kernel_rfl) (by kernel_rfl) (fun _ _ _ h => h) (Or.inl ⟨by kernel_rfl, fun wq _ => pureVal_run (by kernel_rfl) wq⟩) hHeld ?_
  simp only [Act.put, List.setIfInBounds_toArray, List.set_cons_zero, List.set_cons_succ]
  clear hHeld
  refine wpAnyH_done (by kernel_rfl) ?_ _
  clear HM NE NM
  go_wp2_with (first | (refine wpList_load_wanted rfl _ rfl (w.heap.size + 1) rfl Q (0, 0) D8.out.qbox SQ.out ?_) | fail)
  go_must (go_at_call 11)
  refine (show Calls Tryd.prog 11 #[.agg Q] w8 _ from by rw [HQ.out]; exact right_any q d w8 (HG.out.below D8.out.bel) (HJ.out.below D8.out.bel) HE.out).mono ?_
  rintro e w9 ⟨b, rfl, hb, hr⟩
  have B9 := Bxs.below D8 hb
  clear hb D8
  cases b
  · clear hr
    go_wp2
    go_ret
    exact ⟨rfl, B9.out.bel⟩
  have HT : Hid (Small q d) := (hr rfl).1
  have HU : Hid (Right TT q d) := (hr rfl).2
  clear hr
  obtain ⟨x, hx⟩ : ∃ x, sm p c q d = x := ⟨_, rfl⟩
  go_wp2_with (first | (refine wpList_load_wanted rfl _ rfl (w.heap.size + 1) rfl Q (0, 0) B9.out.qbox SQ.out ?_) | (refine wpList_load_wanted rfl _ rfl w.heap.size rfl P (0, 0) B9.out.box SP.out ?_) | fail)
  go_must (go_at_call 14)
  refine (show Calls Tryd.prog 14 #[.agg P, .agg Q] w9 fun e w' => e = .returned (.bool x) ∧ Below w9.heap.size w9 w' from by rw [HP.out, HQ.out, ← hx]; exact same_any p q c d w9 (HI.out.below B9.out.bel) (HJ.out.below B9.out.bel) HF.out HE.out).mono ?_
  rintro e w10 ⟨rfl, hb⟩
  have B10 := Bxs.below B9 hb
  clear hb B9
  cases x
  · clear hx
    go_wp2
    go_ret
    exact ⟨rfl, B10.out.bel⟩
  have E1 : Hid (fg q = fg p) := (sm_fg hx).symm
  have E2 : Hid (sz q d = sz p c) := (sm_sz hx).symm
  have E3 : Hid (sm q d p c = true) := by show _ = _; rw [sm_comm]; exact hx
  clear hx
  go_upto_region 10 with fail
  have BB : Hid (∀ d os, Below w.heap.size w (grow (redrawn w10 d) os)) := fun d os => B10.out.bel.trans ((below_regrown w10 d os).mono B10.out.bel.size)
  have HC : Hid (∀ f args v, (∀ d os, Calls Tryd.prog f args (grow (redrawn w10 d) os) fun e w'' => e = .returned v ∧ Below (grow (redrawn w10 d) os).heap.size (grow (redrawn w10 d) os) w'') → ∀ w', (∃ p : Regrown, w' = grow (redrawn w10 p.d) p.os) → Calls Tryd.prog f args w' fun e w'' => e = .returned v ∧ ∃ p : Regrown, w'' = grow (redrawn w10 p.d) p.os) := fun f args v h w' ⟨pp, e⟩ => by subst e; exact Calls.regrown_of (h _ _)
  have L1 : Hid (∀ w', (∃ p : Regrown, w' = grow (redrawn w10 p.d) p.os) → (loadVar 31 ⟨w.heap.size, 0, none⟩).run Tryd.prog w' = .ok (.agg P) w') := load_boxed B10.out.box SP.out
  have L2 : Hid (∀ w', (∃ p : Regrown, w' = grow (redrawn w10 p.d) p.os) → (loadVar 31 ⟨w.heap.size + 1, 0, none⟩).run Tryd.prog w' = .ok (.agg Q) w') := load_boxed B10.out.qbox SQ.out
  have C1 : Hid (∀ w', (∃ p : Regrown, w' = grow (redrawn w10 p.d) p.os) → Calls Tryd.prog 13 #[.agg P] w' fun e w'' => e = .returned (.int .i64 (fg p)) ∧ ∃ p : Regrown, w'' = grow (redrawn w10 p.d) p.os) := HC.out _ _ _ fun d' os => by rw [HP.out]; exact flags_any p c _ (HG.out.below (BB.out d' os)) (HI.out.below (BB.out d' os)) HS.out HR.out
  have C2 : Hid (∀ w', (∃ p : Regrown, w' = grow (redrawn w10 p.d) p.os) → Calls Tryd.prog 13 #[.agg Q] w' fun e w'' => e = .returned (.int .i64 (fg p)) ∧ ∃ p : Regrown, w'' = grow (redrawn w10 p.d) p.os) := HC.out _ _ _ fun d' os => by rw [HQ.out, ← E1.out]; exact flags_any q d _ (HG.out.below (BB.out d' os)) (HJ.out.below (BB.out d' os)) HT.out HU.out
  have C3 : Hid (∀ w', (∃ p : Regrown, w' = grow (redrawn w10 p.d) p.os) → Calls Tryd.prog 12 #[.agg Q] w' fun e w'' => e = .returned (.int .i64 (sz p c)) ∧ ∃ p : Regrown, w'' = grow (redrawn w10 p.d) p.os) := HC.out _ _ _ fun d' os => by rw [HQ.out, ← E2.out]; exact len_right q d _ (HG.out.below (BB.out d' os)) (HJ.out.below (BB.out d' os)) HT.out HU.out
  have C4 : Hid (∀ w', (∃ p : Regrown, w' = grow (redrawn w10 p.d) p.os) → Calls Tryd.prog 14 #[.agg Q, .agg P] w' fun e w'' => e = .returned (.bool true) ∧ ∃ p : Regrown, w'' = grow (redrawn w10 p.d) p.os) := HC.out _ _ _ fun d' os => by
    have h := same_any q p d c (grow (redrawn w10 d') os) (HJ.out.below (BB.out d' os)) (HI.out.below (BB.out d' os)) HE.out HF.out
    rw [E3.out] at h
    rw [HP.out, HQ.out]; exact h
  refine wp_region_quiet_below (by kernel_rfl) (by kernel_rfl) ?_
  refine quiet_load (by kernel_rfl) rfl (w.heap.size) rfl (.agg P) L1.out ?_
  simp only [Act.put, List.setIfInBounds_toArray, List.set_cons_zero, List.set_cons_succ]
  refine quiet_call (by kernel_rfl) 13 #[.agg P] (.int .i64 (fg p)) (by intro wq; go_simp) C1.out ?_
  simp only [Act.put, List.setIfInBounds_toArray, List.set_cons_zero, List.set_cons_succ]
  refine quiet_load (by kernel_rfl) rfl (w.heap.size + 1) rfl (.agg Q) L2.out ?_
  simp only [Act.put, List.setIfInBounds_toArray, List.set_cons_zero, List.set_cons_succ]
  refine quiet_call (by kernel_rfl) 13 #[.agg Q] (.int .i64 (fg p)) (by intro wq; go_simp) C2.out ?_
  simp only [Act.put, List.setIfInBounds_toArray, List.set_cons_zero, List.set_cons_succ]
  refine quiet_yield (by kernel_rfl) (.bool true) (by intro wq _; go_simp) ?_
  simp only [Act.put, List.setIfInBounds_toArray, List.set_cons_zero, List.set_cons_succ]
  refine quiet_yield (by kernel_rfl) (.bool true) (fun wq _ => pureVal_run (by kernel_rfl) wq) ?_
  simp only [Act.put, List.setIfInBounds_toArray, List.set_cons_zero, List.set_cons_succ]
  refine quiet_yield (by kernel_rfl) (.int .i64 (sz p c)) (fun wq _ => pureVal_run (by kernel_rfl) wq) ?_
  simp only [Act.put, List.setIfInBounds_toArray, List.set_cons_zero, List.set_cons_succ]
  refine quiet_load (by kernel_rfl) rfl (w.heap.size + 1) rfl (.agg Q) L2.out ?_
  simp only [Act.put, List.setIfInBounds_toArray, List.set_cons_zero, List.set_cons_succ]
  refine quiet_call (by kernel_rfl) 12 #[.agg Q] (.int .i64 (sz p c)) (by intro wq; go_simp) C3.out ?_
  simp only [Act.put, List.setIfInBounds_toArray, List.set_cons_zero, List.set_cons_succ]
  refine quiet_yield (by kernel_rfl) (.bool true) (by intro wq _; go_simp) ?_
  simp only [Act.put, List.setIfInBounds_toArray, List.set_cons_zero, List.set_cons_succ]
  refine quiet_yield (by kernel_rfl) (.bool true) (fun wq _ => pureVal_run (by kernel_rfl) wq) ?_
  simp only [Act.put, List.setIfInBounds_toArray, List.set_cons_zero, List.set_cons_succ]
  refine quiet_yield (by kernel_rfl) (.bool true) (fun wq _ => pureVal_run (by kernel_rfl) wq) ?_
  simp only [Act.put, List.setIfInBounds_toArray, List.set_cons_zero, List.set_cons_succ]
  refine quiet_load (by kernel_rfl) rfl (w.heap.size + 1) rfl (.agg Q) L2.out ?_
  simp only [Act.put, List.setIfInBounds_toArray, List.set_cons_zero, List.set_cons_succ]
  refine quiet_load (by kernel_rfl) rfl (w.heap.size) rfl (.agg P) L1.out ?_
  simp only [Act.put, List.setIfInBounds_toArray, List.set_cons_zero, List.set_cons_succ]
  refine quiet_call (by kernel_rfl) 14 #[.agg Q, .agg P] (.bool true) (by intro wq; go_simp) C4.out ?_
  simp only [Act.put, List.setIfInBounds_toArray, List.set_cons_zero, List.set_cons_succ]
  refine quiet_yield (by kernel_rfl) (.bool true) (fun wq _ => pureVal_run (by kernel_rfl) wq) ?_
  simp only [Act.put, List.setIfInBounds_toArray, List.set_cons_zero, List.set_cons_succ]
  refine quiet_yield (by kernel_rfl) (.bool true) (fun wq _ => pureVal_run (by kernel_rfl) wq) ?_
  simp only [Act.put, List.setIfInBounds_toArray, List.set_cons_zero, List.set_cons_succ]
  refine wpQuiet_nil ?_
  rintro _ ⟨⟨d', os⟩, rfl⟩
  go_wp2
  go_ret
  exact ⟨rfl, BB.out d' os⟩
end Go.Proofs.YtcoccggimbficaaDoor
