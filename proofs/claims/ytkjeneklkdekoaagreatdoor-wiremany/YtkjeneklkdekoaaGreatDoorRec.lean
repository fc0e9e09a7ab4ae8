import Derived.Test.YtkjeneklkdekoaaGreatDoorRea
import Derived.Deep.RegionHeldLaw
namespace Go.Proofs.YtkjeneklkdekoaaGreatDoor
open Go Go.RowKit
set_option linter.unusedSimpArgs false
set_option linter.unusedVariables false

theorem run_nil_none {P : Program} {w : World} (t ty e : TypeId) (i : TypeInfo) (ht : P.underlying t = some (.slice e)) (hi : P.info? e = some i) (a : Option Addr) (c : Nat) :
    (Builtin.append_ #[t, t] ty #[.slice none 0 0, .slice a 0 c]).run P w = .ok (.slice none 0 0) w := by
  cases a with
  | none => simp [Builtin.append_, run_underlying ht, sizeOf, typeInfo, hi, Builtin.lenOf, Builtin.firstCells, storeCells]
  | some a =>
    have hf := run_firstCells_some (P := P) w i.size 0 a 0 c [] (by simp) (by intro j v h; simp at h)
    simp [Builtin.append_, run_underlying ht, sizeOf, typeInfo, hi, Builtin.lenOf, hf, storeCells]
/-- What append makes of nothing and a list. -/
theorem nil_run {w : World} (ty : TypeId) (sa : Option Addr) (n c : Nat) (L : List Value) (hc : CL w sa n c L) (h1 : ∀ u ∈ L, u.oneCell' = true) (hn : n ≤ 1000000) :
    ∃ a k w', (Builtin.append_ #[22, 22] ty #[.slice none 0 0, .slice sa n c]).run Tryz.prog w = .ok (.slice a n k) w' ∧ w'.ownsRow w.heap.size 5 1 (.slice a n k) n L ∧ Below w.heap.size w w' := by
  obtain ⟨i0, hi, hz0, hz1, hz2⟩ := info_parts binfo5
  by_cases h0 : n = 0
  · subst h0
    have hL : L = [] := List.eq_nil_of_length_eq_zero hc.2.1
    subst hL
    exact ⟨none, 0, w, run_nil_none 22 ty 5 i0 Tryz.underlying22 hi sa c, World.ownsRow_nil _ _ _ _, Below.refl _ _⟩
  · obtain ⟨g, off, e, hcell⟩ := hc.2.2.resolve_left h0
    subst e
    obtain ⟨v', w', hr, ho, hg, hne, hw⟩ := push_run (P := Tryz.prog) w w.heap.size 22 ty 5 i0 (.int .u8 0) 1 1 Tryz.underlying22 hi hz0 hz1 hz2 rfl (by decide) _ 0 [] (World.ownsRow_nil _ _ _ _) ⟨g, off, none⟩ n c L (by omega) (by rw [hc.2.1, Nat.mul_one]) (fun j u hu => by
      have hj : j < n := by have := (List.getElem?_eq_some_iff.1 hu).1; rw [hc.2.1] at this; exact this
      rw [plain_add, hcell j hj, hu]) h1 (by unfold maxLen; omega) (by omega) (Nat.le_refl _)
    rw [Nat.zero_add, List.nil_append] at ho
    have hb := (Below.refl w.heap.size w).grown hg (Nat.le_refl _) (fun q hq => by simp [Value.ownBlock] at hq)
    rcases ho.2 with ⟨q, _⟩ | ⟨g', cap, cur, q, _⟩
    · exact absurd q (by intro q; subst q; have := ho.1; have h2 := hc.2.1; omega)
    · subst q
      exact ⟨_, _, w', hr, ho, hb⟩
theorem step_nil {w : World} {ops : Array Oper} {o : Oper} {a : Act} {K : Act → World → Prop} {Q : Exit → Act → World → Prop} {E : Prop} (hgd : o.guard = none) (s x : Operand) (ho : o.op = .call { callee := .builtin .append, args := #[s, x], argTypes := #[22, 22] })
    (hs : a.eval s = .slice none 0 0) (sa : Option Addr) (n c : Nat) (L : List Value) (hx : a.eval x = .slice sa n c) (hc : CL w sa n c L) (h1 : ∀ u ∈ L, u.oneCell' = true) (hn : n ≤ 1000000)
    (k : ∀ a' k' w', w'.ownsRow w.heap.size 5 1 (.slice a' n k') n L → Below w.heap.size w w' → K (a.put o.dst (.slice a' n k')) w') : if Region.wanted o (yielded ops a.tmps) = true then Oper.wp Tryz.prog o a w K Q else E := by
  have hw : Region.wanted o (yielded ops a.tmps) = true := by simp [Region.wanted, hgd]
  rw [if_pos hw]
  obtain ⟨a', k', w', hr, h2, h3⟩ := nil_run (w := w) o.type sa n c L hc h1 hn
  unfold Oper.wp
  simp [execOp, ho, resolve, invoke, builtin, hs, hx, hr, Result.andThen]
  exact k a' k' w' h2 h3
theorem Rr.below {w w' : World} {mb : Nat} {v : Value} {at0 q p : Int} (h : Rr w mb v at0 q p) (hb : Below w.heap.size w w') : Rr w' mb v at0 q p := (hb.block mb (lt_of_block h)).trans h
set_option maxRecDepth 100000 in
set_option maxHeartbeats 2000000 in
theorem rtake_ok {w : World} {mb g l c : Nat} {at0 n : Nat} {p : Int} {z : Nat → Int} (h : Rr w mb (.slice (some ⟨g, 0, none⟩) l c) at0 0 p) (hc : Came w (some ⟨g, 0, none⟩) l c z) (hl : l ≤ 300000) (hn : at0 + n ≤ l) :
    Calls Tryz.prog 109 #[.pointer (some ⟨mb, 0, none⟩), .int .i64 n] w fun e w' => ∃ a k w1, e = .returned (.tuple #[.slice a n k, .bool true]) ∧ w1.ownsRow w.heap.size 5 1 (.slice a n k) n (cellsOf (fun i => z (at0 + i)) n) ∧ Below w.heap.size w w1 ∧ w' = w1.setCell ⟨mb, 1, none⟩ (.int .i64 ((at0 + n : Nat) : Int)) := by
  obtain ⟨c0, c1, c2, c3, f⟩ := h.facts
  have hlc : l ≤ c := hc.1
  have HR : Hid (∀ w1, Below w.heap.size w w1 → w1.cell? ⟨mb, 1, none⟩ = some (.int .i64 at0) ∧ w1.frozen? ⟨mb, 1, none⟩ = false) := fun w1 hb => ⟨(h.below hb).facts.2.1, (h.below hb).facts.2.2.2.2 1⟩
  have HR0 : Hid (∀ w1, Below w.heap.size w w1 → w1.cell? ⟨mb, 0, none⟩ = some (.slice (some ⟨g, 0, none⟩) l c)) := fun w1 hb => (h.below hb).facts.1
  have s1 : ((at0 + n : Nat) : Int) - (at0 : Int) = (n : Int) := by omega
  have s2 : (0 : Int) ≤ (at0 : Int) := by omega
  have s3 : (at0 : Int) ≤ ((at0 + n : Nat) : Int) := by omega
  have s4 : ((at0 + n : Nat) : Int) ≤ (c : Int) := by omega
  have s5 : at0 + n - at0 = n := by omega
  have t1 : (0 : Int) ≤ (at0 : Int) + n ∧ (at0 : Int) + n ≤ c := by omega
  have t2 : at0 ≤ ((at0 : Int) + n).toNat := by omega
  have t3 : ((at0 : Int) + n).toNat - at0 = n := by omega
  obtain ⟨ad, had⟩ : ∃ ad, (if c = at0 then some (⟨g, 0, none⟩ : Addr) else some ⟨g, at0, none⟩) = some ad := by
    split
    · exact ⟨_, rfl⟩
    · exact ⟨_, rfl⟩
  have HC : Hid (CL w.drew.drew (some ad) n (c - at0) (cellsOf (fun i => z (at0 + i)) n)) := by
    refine ⟨by omega, by simp [cellsOf], ?_⟩
    by_cases hca : c = at0
    · exact .inl (by omega)
    rw [if_neg hca] at had
    obtain rfl := Option.some.inj had
    refine .inr ⟨g, at0, rfl, fun j hj => ?_⟩
    rw [show (cellsOf (fun i => z (at0 + i)) n)[j]? = some (.int .u8 (z (at0 + j))) by simp [cellsOf, hj]]
    exact came_cell hc (show at0 + j < l by omega)
  have HO : Hid (∀ u ∈ cellsOf (fun i => z (at0 + i)) n, u.oneCell' = true) := fun u hu => cellsOf_one _ _ u hu
  have HN : Hid (n ≤ 1000000) := (by omega : n ≤ 1000000)
  have e2 : IntKind.i64.wrap ((l : Int) - (at0 : Int)) = (l : Int) - at0 := by rw [IntKind.wrap_i64]; omega
  have e3 : wrap64 ((l : Int) - (at0 : Int)) = (l : Int) - at0 := by unfold wrap64; omega
  have e4 : ¬ (l : Int) - (at0 : Int) < (n : Int) := by omega
  have e5 : IntKind.i64.wrap ((at0 : Int) + (n : Int)) = ((at0 + n : Nat) : Int) := by rw [IntKind.wrap_i64]; omega
  have e6 : wrap64 ((at0 : Int) + (n : Int)) = ((at0 + n : Nat) : Int) := by unfold wrap64; omega
  clear h hn f hl hc
  go_enter Tryz.func109, Tryz.ntmps109
  go_wp2_with fail
  go_region
  all_goals go_wp2_with fail
  refine wp_region_held_drew (S := fun w' => w'.cell? ⟨mb, 0, none⟩ = some (.slice (some ⟨g, 0, none⟩) l c) ∧ w'.cell? ⟨mb, 1, none⟩ = some (.int .i64 at0)) (by kernel_rfl) ⟨c0, c1⟩ (fun hHeld => ?_)
  change wpAnyH _ _ _ _ _ 18 #[false, false, false, false, false, false, false, false, false, false, false, false, false, false, false, false, false, false] _ (World.drew _)
  refine wpAnyH_take (i := 0) (oi := { dst := some 31, op := Go.Op.move (Go.Operand.tmp 6), type := 22, pos := "crierref1.go:177", after := #[], guard := none }) (v := .slice none 0 0) rfl (by kernel_rfl) (by kernel_rfl) (by kernel_rfl) (fun _ _ _ h => h) (Or.inl ⟨by kernel_rfl, by intro wq hSw; (try dsimp only at hSw); clear hHeld; go_simp⟩) hHeld ?_
  simp only [Act.put, List.setIfInBounds_toArray, List.set_cons_zero, List.set_cons_succ]
  refine wpAnyH_take (i := 1) (oi := { dst := some 32, op := Go.Op.move (Go.Operand.tmp 0), type := 57, pos := "crierref1.go:177", after := #[], guard := none }) (v := .pointer (some ⟨mb, 0, none⟩)) rfl (by kernel_rfl) (by kernel_rfl) (by kernel_rfl) (fun _ _ _ h => h) (Or.inl ⟨by kernel_rfl, by intro wq hSw; (try dsimp only at hSw); clear hHeld; go_simp⟩) hHeld ?_
  simp only [Act.put, List.setIfInBounds_toArray, List.set_cons_zero, List.set_cons_succ]
  refine wpAnyH_take (i := 2) (oi := { dst := some 33, op := Go.Op.nilCheck (Go.Operand.tmp 32), type := 0, pos := "crierref1.go:177", after := #[{ on := 1, ground := Go.Ground.data }], guard := none }) (v := .pointer (some ⟨mb, 0, none⟩)) rfl (by kernel_rfl) (by kernel_rfl) (by kernel_rfl) (fun _ _ _ h => h) (Or.inl ⟨by kernel_rfl, by intro wq hSw; (try dsimp only at hSw); clear hHeld; go_simp⟩) hHeld ?_
  simp only [Act.put, List.setIfInBounds_toArray, List.set_cons_zero, List.set_cons_succ]
  refine wpAnyH_take (i := 3) (oi := { dst := some 34, op := Go.Op.fieldAddr 83 (Go.Operand.tmp 33) 0, type := 0, pos := "crierref1.go:177", after := #[{ on := 2, ground := Go.Ground.data }], guard := none }) (v := .pointer (some ⟨mb, 0, none⟩)) rfl (by kernel_rfl) (by kernel_rfl) (by kernel_rfl) (fun _ _ _ h => h) (Or.inl ⟨by kernel_rfl, by intro wq hSw; (try dsimp only at hSw); clear hHeld; go_simp⟩) hHeld ?_
  simp only [Act.put, List.setIfInBounds_toArray, List.set_cons_zero, List.set_cons_succ]
  refine wpAnyH_take (i := 4) (oi := { dst := some 35, op := Go.Op.load 22 (Go.Operand.tmp 34), type := 22, pos := "crierref1.go:177", after := #[{ on := 3, ground := Go.Ground.data }], guard := none }) (v := .slice (some ⟨g, 0, none⟩) l c) rfl (by kernel_rfl) (by kernel_rfl) (by kernel_rfl) (fun _ _ _ h => h) (Or.inl ⟨by kernel_rfl, by intro wq hSw; (try dsimp only at hSw); clear hHeld; go_simp⟩) hHeld ?_
  simp only [Act.put, List.setIfInBounds_toArray, List.set_cons_zero, List.set_cons_succ]
  refine wpAnyH_take (i := 5) (oi := { dst := some 36, op := Go.Op.move (Go.Operand.tmp 0), type := 57, pos := "crierref1.go:177", after := #[], guard := none }) (v := .pointer (some ⟨mb, 0, none⟩)) rfl (by kernel_rfl) (by kernel_rfl) (by kernel_rfl) (fun _ _ _ h => h) (Or.inl ⟨by kernel_rfl, by intro wq hSw; (try dsimp only at hSw); clear hHeld; go_simp⟩) hHeld ?_
  simp only [Act.put, List.setIfInBounds_toArray, List.set_cons_zero, List.set_cons_succ]
  refine wpAnyH_take (i := 6) (oi := { dst := some 37, op := Go.Op.nilCheck (Go.Operand.tmp 36), type := 0, pos := "crierref1.go:177", after := #[{ on := 5, ground := Go.Ground.data }], guard := none }) (v := .pointer (some ⟨mb, 0, none⟩)) rfl (by kernel_rfl) (by kernel_rfl) (by kernel_rfl) (fun _ _ _ h => h) (Or.inl ⟨by kernel_rfl, by intro wq hSw; (try dsimp only at hSw); clear hHeld; go_simp⟩) hHeld ?_
  simp only [Act.put, List.setIfInBounds_toArray, List.set_cons_zero, List.set_cons_succ]
  refine wpAnyH_take (i := 7) (oi := { dst := some 38, op := Go.Op.fieldAddr 83 (Go.Operand.tmp 37) 1, type := 0, pos := "crierref1.go:177", after := #[{ on := 6, ground := Go.Ground.data }], guard := none }) (v := .pointer (some ⟨mb, 1, none⟩)) rfl (by kernel_rfl) (by kernel_rfl) (by kernel_rfl) (fun _ _ _ h => h) (Or.inl ⟨by kernel_rfl, by intro wq hSw; (try dsimp only at hSw); clear hHeld; go_simp⟩) hHeld ?_
  simp only [Act.put, List.setIfInBounds_toArray, List.set_cons_zero, List.set_cons_succ]
  refine wpAnyH_take (i := 8) (oi := { dst := some 39, op := Go.Op.load 3 (Go.Operand.tmp 38), type := 3, pos := "crierref1.go:177", after := #[{ on := 7, ground := Go.Ground.data }], guard := none }) (v := .int .i64 at0) rfl (by kernel_rfl) (by kernel_rfl) (by kernel_rfl) (fun _ _ _ h => h) (Or.inl ⟨by kernel_rfl, by intro wq hSw; (try dsimp only at hSw); clear hHeld; go_simp⟩) hHeld ?_
  simp only [Act.put, List.setIfInBounds_toArray, List.set_cons_zero, List.set_cons_succ]
  refine wpAnyH_take (i := 9) (oi := { dst := some 40, op := Go.Op.move (Go.Operand.tmp 0), type := 57, pos := "crierref1.go:177", after := #[], guard := none }) (v := .pointer (some ⟨mb, 0, none⟩)) rfl (by kernel_rfl) (by kernel_rfl) (by kernel_rfl) (fun _ _ _ h => h) (Or.inl ⟨by kernel_rfl, by intro wq hSw; (try dsimp only at hSw); clear hHeld; go_simp⟩) hHeld ?_
  simp only [Act.put, List.setIfInBounds_toArray, List.set_cons_zero, List.set_cons_succ]
  refine wpAnyH_take (i := 10) (oi := { dst := some 41, op := Go.Op.nilCheck (Go.Operand.tmp 40), type := 0, pos := "crierref1.go:177", after := #[{ on := 9, ground := Go.Ground.data }], guard := none }) (v := .pointer (some ⟨mb, 0, none⟩)) rfl (by kernel_rfl) (by kernel_rfl) (by kernel_rfl) (fun _ _ _ h => h) (Or.inl ⟨by kernel_rfl, by intro wq hSw; (try dsimp only at hSw); clear hHeld; go_simp⟩) hHeld ?_
  simp only [Act.put, List.setIfInBounds_toArray, List.set_cons_zero, List.set_cons_succ]
  refine wpAnyH_take (i := 11) (oi := { dst := some 42, op := Go.Op.fieldAddr 83 (Go.Operand.tmp 41) 1, type := 0, pos := "crierref1.go:177", after := #[{ on := 10, ground := Go.Ground.data }], guard := none }) (v := .pointer (some ⟨mb, 1, none⟩)) rfl (by kernel_rfl) (by kernel_rfl) (by kernel_rfl) (fun _ _ _ h => h) (Or.inl ⟨by kernel_rfl, by intro wq hSw; (try dsimp only at hSw); clear hHeld; go_simp⟩) hHeld ?_
  simp only [Act.put, List.setIfInBounds_toArray, List.set_cons_zero, List.set_cons_succ]
  refine wpAnyH_take (i := 12) (oi := { dst := some 43, op := Go.Op.load 3 (Go.Operand.tmp 42), type := 3, pos := "crierref1.go:177", after := #[{ on := 11, ground := Go.Ground.data }], guard := none }) (v := .int .i64 at0) rfl (by kernel_rfl) (by kernel_rfl) (by kernel_rfl) (fun _ _ _ h => h) (Or.inl ⟨by kernel_rfl, by intro wq hSw; (try dsimp only at hSw); clear hHeld; go_simp⟩) hHeld ?_
  simp only [Act.put, List.setIfInBounds_toArray, List.set_cons_zero, List.set_cons_succ]
  refine wpAnyH_take (i := 13) (oi := { dst := some 44, op := Go.Op.move (Go.Operand.tmp 1), type := 3, pos := "crierref1.go:177", after := #[], guard := none }) (v := .int .i64 n) rfl (by kernel_rfl) (by kernel_rfl) (by kernel_rfl) (fun _ _ _ h => h) (Or.inl ⟨by kernel_rfl, by intro wq hSw; (try dsimp only at hSw); clear hHeld; go_simp⟩) hHeld ?_
  simp only [Act.put, List.setIfInBounds_toArray, List.set_cons_zero, List.set_cons_succ]
  refine wpAnyH_take (i := 14) (oi := { dst := some 45, op := Go.Op.binOp Go.BinOp.add 3 (Go.Operand.tmp 43) (Go.Operand.tmp 44) 3, type := 3, pos := "crierref1.go:177", after := #[{ on := 12, ground := Go.Ground.data }, { on := 13, ground := Go.Ground.data }], guard := none }) (v := .int .i64 ((at0 + n : Nat) : Int)) rfl (by kernel_rfl) (by kernel_rfl) (by kernel_rfl) (fun _ _ _ h => h) (Or.inl ⟨by kernel_rfl, by intro wq hSw; (try dsimp only at hSw); clear hHeld; go_simp⟩) hHeld ?_
  simp only [Act.put, List.setIfInBounds_toArray, List.set_cons_zero, List.set_cons_succ]
  refine wpAnyH_take (i := 15) (oi := { dst := some 46, op := Go.Op.slice 22 (Go.Operand.tmp 35) (some (Go.Operand.tmp 39)) (some (Go.Operand.tmp 45)) none, type := 22, pos := "crierref1.go:177", after := #[{ on := 4, ground := Go.Ground.data }, { on := 8, ground := Go.Ground.data }, { on := 14, ground := Go.Ground.data }], guard := none }) (v := .slice (some ad) n (c - at0)) rfl (by kernel_rfl) (by kernel_rfl) (by kernel_rfl) (fun _ _ _ h => h) (Or.inl ⟨by kernel_rfl, by intro wq hSw; (try dsimp only at hSw); clear hHeld; go_simp⟩) hHeld ?_
  simp only [Act.put, List.setIfInBounds_toArray, List.set_cons_zero, List.set_cons_succ]
  refine wpAnyH_ready (rs := [16]) (by kernel_rfl) (by simp) ?_
  refine AllReadyH.cons (o := { dst := some 47, op := Go.Op.call { callee := Go.Callee.builtin Go.Builtin.append, args := #[Go.Operand.tmp 31, Go.Operand.tmp 46], argTypes := #[22, 22] }, type := 22, pos := "crierref1.go:177", after := #[{ on := 0, ground := Go.Ground.data }, { on := 15, ground := Go.Ground.data }], guard := none }) (by rfl) (fun K hK => ?_) AllReadyH.nil
  refine step_nil rfl (.tmp 31) (.tmp 46) rfl rfl (some ad) n (c - at0) _ rfl HC.out HO.out HN.out ?_
  intro a1 k1 w1 h2 h3
  have hb1 : Below w.heap.size w w1 := ⟨h3.os, h3.tape, h3.output, h3.size, h3.block⟩
  obtain ⟨d1, d2⟩ := HR.out w1 hb1
  have d0 : w1.cell? ⟨mb, 0, none⟩ = some (.slice (some ⟨g, 0, none⟩) l c) := HR0.out w1 hb1
  have Z : Hid (w1.ownsRow w.heap.size 5 1 (.slice a1 n k1) n (cellsOf (fun i => z (at0 + i)) n) ∧ Below w.heap.size w w1) := ⟨h2, hb1⟩
  clear h2 h3 hb1 c0 c1 c2 c3
  refine hK.out _ _ ⟨d0, d1⟩ (fun hHeld => ?_)
  clear hK K
  (try simp only [Act.put, List.setIfInBounds_toArray, List.set_cons_zero, List.set_cons_succ])
  refine wpAnyH_take (i := 17) (oi := { dst := some 6, op := Go.Op.assign (Go.Operand.tmp 47), type := 22, pos := "crierref1.go:177", after := #[{ on := 16, ground := Go.Ground.data }, { on := 16, ground := Go.Ground.chain }, { on := 0, ground := Go.Ground.phase }, { on := 1, ground := Go.Ground.phase }, { on := 2, ground := Go.Ground.phase }, { on := 3, ground := Go.Ground.phase }, { on := 4, ground := Go.Ground.phase }, { on := 5, ground := Go.Ground.phase }, { on := 6, ground := Go.Ground.phase }, { on := 7, ground := Go.Ground.phase }, { on := 8, ground := Go.Ground.phase }, { on := 9, ground := Go.Ground.phase }, { on := 10, ground := Go.Ground.phase }, { on := 11, ground := Go.Ground.phase }, { on := 12, ground := Go.Ground.phase }, { on := 13, ground := Go.Ground.phase }, { on := 14, ground := Go.Ground.phase }, { on := 15, ground := Go.Ground.phase }, { on := 16, ground := Go.Ground.phase }], guard := none }) (v := .slice a1 n k1) rfl (by kernel_rfl) (by kernel_rfl) (by kernel_rfl) (fun _ _ _ h => h) (Or.inl ⟨by kernel_rfl, by intro wq hSw; (try dsimp only at hSw); clear hHeld; go_simp⟩) hHeld ?_
  simp only [Act.put, List.setIfInBounds_toArray, List.set_cons_zero, List.set_cons_succ]
  refine wpAnyH_done (by kernel_rfl) ?_ _
  clear hHeld
  go_wp2_with fail
  all_goals (try go_ret2)
  all_goals exact ⟨a1, k1, w1, rfl, Z.out.1, Z.out.2, rfl⟩
end Go.Proofs.YtkjeneklkdekoaaGreatDoor
namespace Go.Proofs.YtkjeneklkdekoaaGreatDoor
open Go Go.RowKit
set_option linter.unusedSimpArgs false
set_option linter.unusedVariables false

/-! ### Both readers, purely: where one stands, its first fault -/
structure Rs where
  at0 : Nat
  p : Int
  q : Int
def Rs.gaveUp (r : Rs) (p q : Int) : Rs := ⟨r.at0, p, q⟩
def Rs.on (r : Rs) (k : Nat) : Rs := ⟨r.at0 + k, r.p, 0⟩
/-- What is taken, if so much is there. -/
def rTake (l : Nat) (r : Rs) (n : Nat) : Bool × Rs := if r.q ≠ 0 then (false, r) else if l < r.at0 + n then (false, r.gaveUp l 10) else (true, r.on n)
/-- A reader of the document in memory. -/
structure Rrd (w : World) (mb : Nat) (a : Option Addr) (l c : Nat) (z : Nat → Int) (r : Rs) : Prop where
  rr : Rr w mb (.slice a l c) r.at0 r.q r.p
  cm : Came w a l c z
  ba : a = none ∨ ∃ g, a = some ⟨g, 0, none⟩ ∧ g ≠ mb
  le : r.at0 ≤ l
  few : l ≤ 300000
theorem lt_of_cell {w : World} {b k : Nat} {v : Value} (h : w.cell? ⟨b, k, none⟩ = some v) : b < w.heap.size := by
  rcases Nat.lt_or_ge b w.heap.size with q | q
  · exact q
  · have e : w.heap[b]? = none := Array.getElem?_eq_none q
    simp [World.cell?, e] at h
theorem gb_drew2 {w w' : World} {k : Option Nat} (h : w.drew.grownBy w' k) : w.grownBy w' k := ⟨h.os, h.tape, h.output, h.size, h.block⟩
theorem gb_two {a b c : World} {k : Nat} (h1 : a.grownBy b (some k)) (h2 : b.grownBy c (some k)) : a.grownBy c (some k) := ⟨h2.os.trans h1.os, h2.tape.trans h1.tape, h2.output.trans h1.output, Nat.le_trans h1.size h2.size, fun j hj hn => (h2.block j (Nat.lt_of_lt_of_le hj h1.size) hn).trans (h1.block j hj hn)⟩
theorem gb_bel {a b : World} {k : Nat} (h : Below a.heap.size a b) : a.grownBy b (some k) := ⟨h.os, h.tape, h.output, h.size, fun j hj _ => h.block j hj⟩
/-- The reader goes on where only its own block changed. -/
theorem Rrd.next {w w' : World} {mb : Nat} {a : Option Addr} {l c : Nat} {z : Nat → Int} {r r' : Rs} (h : Rrd w mb a l c z r) (hg : w.grownBy w' (some mb)) (hr : Rr w' mb (.slice a l c) r'.at0 r'.q r'.p) (hl : r'.at0 ≤ l) : Rrd w' mb a l c z r' := by
  refine ⟨hr, ?_, h.ba, hl, h.few⟩
  rcases h.ba with rfl | ⟨g, rfl, hne⟩
  · rcases h.cm.2.2 with ⟨_, q1, q2⟩ | ⟨ad, q, _⟩
    · exact ⟨h.cm.1, h.cm.2.1, .inl ⟨rfl, q1, q2⟩⟩
    · cases q
  · by_cases h0 : l = 0
    · subst h0
      exact came_of h.cm.1 h.cm.2.1 (fun i hi => absurd hi (Nat.not_lt_zero _))
    · have hlt : g < w.heap.size := lt_of_cell (came_cell h.cm (show 0 < l by omega))
      exact came_heap h.cm (hg.block g hlt (fun e => hne (Option.some.inj e)))
set_option maxRecDepth 100000 in
set_option maxHeartbeats 2000000 in
theorem rtake_nil {w : World} {mb : Nat} {p : Int} (h : Rr w mb (.slice none 0 0) 0 0 p) : Calls Tryz.prog 109 #[.pointer (some ⟨mb, 0, none⟩), .int .i64 0] w fun e w' => ∃ a k, e = .returned (.tuple #[.slice a 0 k, .bool true]) ∧ w'.ownsRow 0 5 1 (.slice a 0 k) 0 [] ∧ (∀ g, a = some ⟨g, 0, none⟩ → w.heap.size ≤ g) ∧ Rr w' mb (.slice none 0 0) 0 0 p ∧ w.grownBy w' (some mb) := by
  obtain ⟨c0, c1, c2, c3, f⟩ := h.facts
  have HR : Hid (∀ w1, Below w.heap.size w w1 → Rr w1 mb (.slice none 0 0) 0 0 p) := fun w1 hb => h.below hb
  have hw0 : IntKind.i64.wrap 0 = 0 := by rw [IntKind.wrap_i64]; decide
  have HC : Hid (CL w.drew.drew none 0 0 []) := ⟨by omega, rfl, .inl rfl⟩
  clear h f
  go_enter Tryz.func109, Tryz.ntmps109
  go_wp2_with fail
  go_region
  all_goals go_wp2_with fail
  refine wp_region_held_drew (S := fun w' => w'.cell? ⟨mb, 0, none⟩ = some (.slice none 0 0) ∧ w'.cell? ⟨mb, 1, none⟩ = some (.int .i64 0)) (by kernel_rfl) ⟨c0, c1⟩ (fun hHeld => ?_)
  change wpAnyH _ _ _ _ _ 18 #[false, false, false, false, false, false, false, false, false, false, false, false, false, false, false, false, false, false] _ (World.drew _)
  refine wpAnyH_take (i := 0) (oi := { dst := some 31, op := Go.Op.move (Go.Operand.tmp 6), type := 22, pos := "crierref1.go:177", after := #[], guard := none }) (v := .slice none 0 0) rfl (by kernel_rfl) (by kernel_rfl) (by kernel_rfl) (fun _ _ _ h => h) (Or.inl ⟨by kernel_rfl, by intro wq hSw; (try dsimp only at hSw); clear hHeld; go_simp⟩) hHeld ?_
  simp only [Act.put, List.setIfInBounds_toArray, List.set_cons_zero, List.set_cons_succ]
  refine wpAnyH_take (i := 1) (oi := { dst := some 32, op := Go.Op.move (Go.Operand.tmp 0), type := 57, pos := "crierref1.go:177", after := #[], guard := none }) (v := .pointer (some ⟨mb, 0, none⟩)) rfl (by kernel_rfl) (by kernel_rfl) (by kernel_rfl) (fun _ _ _ h => h) (Or.inl ⟨by kernel_rfl, by intro wq hSw; (try dsimp only at hSw); clear hHeld; go_simp⟩) hHeld ?_
  simp only [Act.put, List.setIfInBounds_toArray, List.set_cons_zero, List.set_cons_succ]
  refine wpAnyH_take (i := 2) (oi := { dst := some 33, op := Go.Op.nilCheck (Go.Operand.tmp 32), type := 0, pos := "crierref1.go:177", after := #[{ on := 1, ground := Go.Ground.data }], guard := none }) (v := .pointer (some ⟨mb, 0, none⟩)) rfl (by kernel_rfl) (by kernel_rfl) (by kernel_rfl) (fun _ _ _ h => h) (Or.inl ⟨by kernel_rfl, by intro wq hSw; (try dsimp only at hSw); clear hHeld; go_simp⟩) hHeld ?_
  simp only [Act.put, List.setIfInBounds_toArray, List.set_cons_zero, List.set_cons_succ]
  refine wpAnyH_take (i := 3) (oi := { dst := some 34, op := Go.Op.fieldAddr 83 (Go.Operand.tmp 33) 0, type := 0, pos := "crierref1.go:177", after := #[{ on := 2, ground := Go.Ground.data }], guard := none }) (v := .pointer (some ⟨mb, 0, none⟩)) rfl (by kernel_rfl) (by kernel_rfl) (by kernel_rfl) (fun _ _ _ h => h) (Or.inl ⟨by kernel_rfl, by intro wq hSw; (try dsimp only at hSw); clear hHeld; go_simp⟩) hHeld ?_
  simp only [Act.put, List.setIfInBounds_toArray, List.set_cons_zero, List.set_cons_succ]
  refine wpAnyH_take (i := 4) (oi := { dst := some 35, op := Go.Op.load 22 (Go.Operand.tmp 34), type := 22, pos := "crierref1.go:177", after := #[{ on := 3, ground := Go.Ground.data }], guard := none }) (v := .slice none 0 0) rfl (by kernel_rfl) (by kernel_rfl) (by kernel_rfl) (fun _ _ _ h => h) (Or.inl ⟨by kernel_rfl, by intro wq hSw; (try dsimp only at hSw); clear hHeld; go_simp⟩) hHeld ?_
  simp only [Act.put, List.setIfInBounds_toArray, List.set_cons_zero, List.set_cons_succ]
  refine wpAnyH_take (i := 5) (oi := { dst := some 36, op := Go.Op.move (Go.Operand.tmp 0), type := 57, pos := "crierref1.go:177", after := #[], guard := none }) (v := .pointer (some ⟨mb, 0, none⟩)) rfl (by kernel_rfl) (by kernel_rfl) (by kernel_rfl) (fun _ _ _ h => h) (Or.inl ⟨by kernel_rfl, by intro wq hSw; (try dsimp only at hSw); clear hHeld; go_simp⟩) hHeld ?_
  simp only [Act.put, List.setIfInBounds_toArray, List.set_cons_zero, List.set_cons_succ]
  refine wpAnyH_take (i := 6) (oi := { dst := some 37, op := Go.Op.nilCheck (Go.Operand.tmp 36), type := 0, pos := "crierref1.go:177", after := #[{ on := 5, ground := Go.Ground.data }], guard := none }) (v := .pointer (some ⟨mb, 0, none⟩)) rfl (by kernel_rfl) (by kernel_rfl) (by kernel_rfl) (fun _ _ _ h => h) (Or.inl ⟨by kernel_rfl, by intro wq hSw; (try dsimp only at hSw); clear hHeld; go_simp⟩) hHeld ?_
  simp only [Act.put, List.setIfInBounds_toArray, List.set_cons_zero, List.set_cons_succ]
  refine wpAnyH_take (i := 7) (oi := { dst := some 38, op := Go.Op.fieldAddr 83 (Go.Operand.tmp 37) 1, type := 0, pos := "crierref1.go:177", after := #[{ on := 6, ground := Go.Ground.data }], guard := none }) (v := .pointer (some ⟨mb, 1, none⟩)) rfl (by kernel_rfl) (by kernel_rfl) (by kernel_rfl) (fun _ _ _ h => h) (Or.inl ⟨by kernel_rfl, by intro wq hSw; (try dsimp only at hSw); clear hHeld; go_simp⟩) hHeld ?_
  simp only [Act.put, List.setIfInBounds_toArray, List.set_cons_zero, List.set_cons_succ]
  refine wpAnyH_take (i := 8) (oi := { dst := some 39, op := Go.Op.load 3 (Go.Operand.tmp 38), type := 3, pos := "crierref1.go:177", after := #[{ on := 7, ground := Go.Ground.data }], guard := none }) (v := .int .i64 0) rfl (by kernel_rfl) (by kernel_rfl) (by kernel_rfl) (fun _ _ _ h => h) (Or.inl ⟨by kernel_rfl, by intro wq hSw; (try dsimp only at hSw); clear hHeld; go_simp⟩) hHeld ?_
  simp only [Act.put, List.setIfInBounds_toArray, List.set_cons_zero, List.set_cons_succ]
  refine wpAnyH_take (i := 9) (oi := { dst := some 40, op := Go.Op.move (Go.Operand.tmp 0), type := 57, pos := "crierref1.go:177", after := #[], guard := none }) (v := .pointer (some ⟨mb, 0, none⟩)) rfl (by kernel_rfl) (by kernel_rfl) (by kernel_rfl) (fun _ _ _ h => h) (Or.inl ⟨by kernel_rfl, by intro wq hSw; (try dsimp only at hSw); clear hHeld; go_simp⟩) hHeld ?_
  simp only [Act.put, List.setIfInBounds_toArray, List.set_cons_zero, List.set_cons_succ]
  refine wpAnyH_take (i := 10) (oi := { dst := some 41, op := Go.Op.nilCheck (Go.Operand.tmp 40), type := 0, pos := "crierref1.go:177", after := #[{ on := 9, ground := Go.Ground.data }], guard := none }) (v := .pointer (some ⟨mb, 0, none⟩)) rfl (by kernel_rfl) (by kernel_rfl) (by kernel_rfl) (fun _ _ _ h => h) (Or.inl ⟨by kernel_rfl, by intro wq hSw; (try dsimp only at hSw); clear hHeld; go_simp⟩) hHeld ?_
  simp only [Act.put, List.setIfInBounds_toArray, List.set_cons_zero, List.set_cons_succ]
  refine wpAnyH_take (i := 11) (oi := { dst := some 42, op := Go.Op.fieldAddr 83 (Go.Operand.tmp 41) 1, type := 0, pos := "crierref1.go:177", after := #[{ on := 10, ground := Go.Ground.data }], guard := none }) (v := .pointer (some ⟨mb, 1, none⟩)) rfl (by kernel_rfl) (by kernel_rfl) (by kernel_rfl) (fun _ _ _ h => h) (Or.inl ⟨by kernel_rfl, by intro wq hSw; (try dsimp only at hSw); clear hHeld; go_simp⟩) hHeld ?_
  simp only [Act.put, List.setIfInBounds_toArray, List.set_cons_zero, List.set_cons_succ]
  refine wpAnyH_take (i := 12) (oi := { dst := some 43, op := Go.Op.load 3 (Go.Operand.tmp 42), type := 3, pos := "crierref1.go:177", after := #[{ on := 11, ground := Go.Ground.data }], guard := none }) (v := .int .i64 0) rfl (by kernel_rfl) (by kernel_rfl) (by kernel_rfl) (fun _ _ _ h => h) (Or.inl ⟨by kernel_rfl, by intro wq hSw; (try dsimp only at hSw); clear hHeld; go_simp⟩) hHeld ?_
  simp only [Act.put, List.setIfInBounds_toArray, List.set_cons_zero, List.set_cons_succ]
  refine wpAnyH_take (i := 13) (oi := { dst := some 44, op := Go.Op.move (Go.Operand.tmp 1), type := 3, pos := "crierref1.go:177", after := #[], guard := none }) (v := .int .i64 0) rfl (by kernel_rfl) (by kernel_rfl) (by kernel_rfl) (fun _ _ _ h => h) (Or.inl ⟨by kernel_rfl, by intro wq hSw; (try dsimp only at hSw); clear hHeld; go_simp⟩) hHeld ?_
  simp only [Act.put, List.setIfInBounds_toArray, List.set_cons_zero, List.set_cons_succ]
  refine wpAnyH_take (i := 14) (oi := { dst := some 45, op := Go.Op.binOp Go.BinOp.add 3 (Go.Operand.tmp 43) (Go.Operand.tmp 44) 3, type := 3, pos := "crierref1.go:177", after := #[{ on := 12, ground := Go.Ground.data }, { on := 13, ground := Go.Ground.data }], guard := none }) (v := .int .i64 0) rfl (by kernel_rfl) (by kernel_rfl) (by kernel_rfl) (fun _ _ _ h => h) (Or.inl ⟨by kernel_rfl, by intro wq hSw; (try dsimp only at hSw); clear hHeld; go_simp⟩) hHeld ?_
  simp only [Act.put, List.setIfInBounds_toArray, List.set_cons_zero, List.set_cons_succ]
  refine wpAnyH_take (i := 15) (oi := { dst := some 46, op := Go.Op.slice 22 (Go.Operand.tmp 35) (some (Go.Operand.tmp 39)) (some (Go.Operand.tmp 45)) none, type := 22, pos := "crierref1.go:177", after := #[{ on := 4, ground := Go.Ground.data }, { on := 8, ground := Go.Ground.data }, { on := 14, ground := Go.Ground.data }], guard := none }) (v := .slice none 0 0) rfl (by kernel_rfl) (by kernel_rfl) (by kernel_rfl) (fun _ _ _ h => h) (Or.inl ⟨by kernel_rfl, by intro wq hSw; (try dsimp only at hSw); clear hHeld; go_simp⟩) hHeld ?_
  simp only [Act.put, List.setIfInBounds_toArray, List.set_cons_zero, List.set_cons_succ]
  refine wpAnyH_ready (rs := [16]) (by kernel_rfl) (by simp) ?_
  refine AllReadyH.cons (o := { dst := some 47, op := Go.Op.call { callee := Go.Callee.builtin Go.Builtin.append, args := #[Go.Operand.tmp 31, Go.Operand.tmp 46], argTypes := #[22, 22] }, type := 22, pos := "crierref1.go:177", after := #[{ on := 0, ground := Go.Ground.data }, { on := 15, ground := Go.Ground.data }], guard := none }) (by rfl) (fun K hK => ?_) AllReadyH.nil
  refine step_nil rfl (.tmp 31) (.tmp 46) rfl rfl none 0 0 [] rfl HC.out (by simp) (by omega) ?_
  intro a1 k1 w1 h2 h3
  have hb1 : Below w.heap.size w w1 := ⟨h3.os, h3.tape, h3.output, h3.size, h3.block⟩
  have hr1 := HR.out w1 hb1
  obtain ⟨d0, d1, d2, d3, f1⟩ := hr1.facts
  have f11 := f1 1
  have hmb := lt_of_block (HR.out w (Below.refl _ _))
  have Z : Hid ((w1.setCell ⟨mb, 1, none⟩ (.int .i64 0)).ownsRow 0 5 1 (.slice a1 0 k1) 0 [] ∧ (∀ g, a1 = some ⟨g, 0, none⟩ → w.heap.size ≤ g) ∧ Rr (w1.setCell ⟨mb, 1, none⟩ (.int .i64 0)) mb (.slice none 0 0) 0 0 p ∧ w.grownBy (w1.setCell ⟨mb, 1, none⟩ (.int .i64 0)) (some mb)) := ⟨own_keep (own_zero h2) (fun j e => Below.heap_setCell _ _ _ _ (fun q => by have := (h2.lt j e).1; have q : j = mb := q; have t : w.drew.drew.heap.size = w.heap.size := rfl; omega)), fun g' e => (h2.lt g' (by rw [e]; rfl)).1, hr1.set1 0, gb_two (gb_bel hb1) (rr_gb1 _ _ _ _)⟩
  clear h2 h3 hb1 hr1 f1 c0 c1 c2 c3 hmb
  refine hK.out _ _ ⟨d0, d1⟩ (fun hHeld => ?_)
  clear hK K
  (try simp only [Act.put, List.setIfInBounds_toArray, List.set_cons_zero, List.set_cons_succ])
  refine wpAnyH_take (i := 17) (oi := { dst := some 6, op := Go.Op.assign (Go.Operand.tmp 47), type := 22, pos := "crierref1.go:177", after := #[{ on := 16, ground := Go.Ground.data }, { on := 16, ground := Go.Ground.chain }, { on := 0, ground := Go.Ground.phase }, { on := 1, ground := Go.Ground.phase }, { on := 2, ground := Go.Ground.phase }, { on := 3, ground := Go.Ground.phase }, { on := 4, ground := Go.Ground.phase }, { on := 5, ground := Go.Ground.phase }, { on := 6, ground := Go.Ground.phase }, { on := 7, ground := Go.Ground.phase }, { on := 8, ground := Go.Ground.phase }, { on := 9, ground := Go.Ground.phase }, { on := 10, ground := Go.Ground.phase }, { on := 11, ground := Go.Ground.phase }, { on := 12, ground := Go.Ground.phase }, { on := 13, ground := Go.Ground.phase }, { on := 14, ground := Go.Ground.phase }, { on := 15, ground := Go.Ground.phase }, { on := 16, ground := Go.Ground.phase }], guard := none }) (v := .slice a1 0 k1) rfl (by kernel_rfl) (by kernel_rfl) (by kernel_rfl) (fun _ _ _ h => h) (Or.inl ⟨by kernel_rfl, by intro wq hSw; (try dsimp only at hSw); clear hHeld; go_simp⟩) hHeld ?_
  simp only [Act.put, List.setIfInBounds_toArray, List.set_cons_zero, List.set_cons_succ]
  refine wpAnyH_done (by kernel_rfl) ?_ _
  clear hHeld
  go_wp2_with fail
  all_goals (try go_ret2)
  all_goals exact ⟨a1, k1, rfl, Z.out⟩
/-- The document's take. -/
theorem rtake_any {w : World} {mb : Nat} {a : Option Addr} {l c : Nat} {z : Nat → Int} {r : Rs} (h : Rrd w mb a l c z r) (n : Nat) : Calls Tryz.prog 109 #[.pointer (some ⟨mb, 0, none⟩), .int .i64 n] w fun e w' => ∃ a' m k, e = .returned (.tuple #[.slice a' m k, .bool (rTake l r n).1]) ∧ m = (if (rTake l r n).1 then n else 0) ∧ w'.ownsRow 0 5 1 (.slice a' m k) m (cellsOf (fun i => z (r.at0 + i)) m) ∧ (∀ g, a' = some ⟨g, 0, none⟩ → w.heap.size ≤ g) ∧ Rrd w' mb a l c z (rTake l r n).2 ∧ w.grownBy w' (some mb) := by
  have hle := h.le
  have hf := h.few
  unfold rTake
  by_cases hq : r.q ≠ 0
  · rw [if_pos hq]
    refine (rtake_dead h.rr hq n).mono ?_
    rintro e w' ⟨rfl, rfl⟩
    exact ⟨none, 0, 0, rfl, rfl, World.ownsRow_nil _ _ _ _, (fun g q => by cases q), h, gb_refl _ _⟩
  rw [if_neg hq]
  have q0 : r.q = 0 := by simpa using hq
  have hR := h.rr
  rw [q0] at hR
  by_cases hn : l < r.at0 + n
  · rw [if_pos hn]
    refine (rtake_short hR hf hle hn).mono ?_
    rintro e w' ⟨rfl, rfl⟩
    have hg : w.grownBy ((w.drew.setCell ⟨mb, 2, none⟩ (.int .i64 10)).setCell ⟨mb, 3, none⟩ (.int .i64 l)) (some mb) := gb_drew2 (gb_two (rr_gb1 _ _ _ _) (rr_gb1 _ _ _ _))
    exact ⟨none, 0, 0, rfl, rfl, World.ownsRow_nil _ _ _ _, (fun g q => by cases q), h.next (r' := r.gaveUp l 10) hg (((hR.drew).set2 10).set3 l) hle, hg⟩
  rw [if_neg hn]
  rcases h.ba with rfl | ⟨g, rfl, hne⟩
  · rcases h.cm.2.2 with ⟨_, q1, q2⟩ | ⟨ad, q, _⟩
    · subst q1 q2
      have e0 : r.at0 = 0 := by omega
      have n0 : n = 0 := by omega
      subst n0
      rw [e0] at hR
      refine (rtake_nil hR).mono ?_
      rintro e w' ⟨a', k, rfl, s1, s2, r1, r2⟩
      exact ⟨a', 0, k, rfl, rfl, s1, s2, h.next (r' := r.on 0) r2 (by show Rr w' mb _ ((r.at0 + 0 : Nat) : Int) 0 r.p; rw [e0]; exact r1) (by show r.at0 + 0 ≤ 0; omega), r2⟩
    · cases q
  · refine (rtake_ok hR h.cm hf (by omega)).mono ?_
    rintro e w' ⟨a', k, w1, rfl, q1, q2, rfl⟩
    have hg : w.grownBy (w1.setCell ⟨mb, 1, none⟩ (.int .i64 ((r.at0 + n : Nat) : Int))) (some mb) := gb_two (gb_bel q2) (rr_gb1 _ _ _ _)
    have hmb : mb < w.heap.size := lt_of_block hR
    refine ⟨a', n, k, rfl, rfl, own_keep (own_zero q1) (fun j e => Below.heap_setCell _ _ _ _ (fun q => ?_)), fun g' e => ?_, h.next (r' := r.on n) hg ((hR.below q2).set1 _) (by show r.at0 + n ≤ l; omega), hg⟩
    · have := (q1.lt j e).1
      have q : j = mb := q
      omega
    · exact (q1.lt g' (by rw [e]; rfl)).1
end Go.Proofs.YtkjeneklkdekoaaGreatDoor
