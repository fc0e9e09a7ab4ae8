import Derived.Test.YtibihbclijpkjaaGreatDoorGn
import Derived.Test.YtibihbclijpkjaaGreatDoorPTe
namespace Go.Proofs.YtibihbclijpkjaaGreatDoor
open Go Go.RowKit
open Pkt (Pk Cn Sl In By Is Ss As pkCells Gd wpList_load_wanted box_below sumN)
set_option linter.unusedSimpArgs false
set_option linter.unusedVariables false

set_option maxRecDepth 100000 in
set_option maxHeartbeats 4000000 in
theorem wFields_more4 (w0 w : World) (p : Pk) (v : Value) (n : Nat) (xs : List Value) (hk : p.kind = 4) (h : w.ownsRow w0.heap.size 5 1 v n xs) (hv : v ≠ .slice none 0 0) (hb0 : Below w0.heap.size w0 w) (hn : n ≤ 10) (m : Nat) (Z : List Value)
    (HC : ∀ (W : World) (u : Value) (i : Nat) (ys : List Value), W.ownsRow w0.heap.size 5 1 u i ys → u ≠ .slice none 0 0 → Below w0.heap.size w0 W → i = n + 2 → Calls Tryz.prog 69 #[u, .agg (pkCells p)] W fun e w' => Adds w0.heap.size u W w' e (i + m) (ys ++ Z)) :
    Calls Tryz.prog 43 #[v, .agg (pkCells p)] w fun e w' => Adds w0.heap.size v w w' e (n + 2 + m) (xs ++ cellsOf (numZ p.id) 2 ++ Z) := by
  obtain ⟨W, hW⟩ : ∃ W, W = w.alloc (.cells (pkCells p) 29) := ⟨_, rfl⟩
  have b0 : Hid (Below w.heap.size w W) := box_below hW
  have g0 : Hid (W.heap[w.heap.size]? = some (.cells (pkCells p) 29)) := by show _ = _; rw [hW]; exact heap_alloc_new w _
  have k0 : W.cell? ⟨w.heap.size, 0, none⟩ = some (.int .i64 4) := box_cells g0.out 0 _ (by rw [← hk]; rfl)
  have HV : Hid (v.ownBlock ≠ some w.heap.size) := fun e => by have := (h.lt _ e).2; omega
  have HOB : Hid (∀ k, v.ownBlock = some k → w0.heap.size ≤ k) := fun k e => (h.lt k e).1
  have HB : Hid (w0.heap.size ≤ W.heap.size) := Nat.le_trans hb0.size b0.out.size
  have BW : Hid (Below w0.heap.size w0 W) := hb0.trans (b0.out.mono hb0.size)
  have L0 : Hid (Lay w0.heap.size v W W.drew v n xs) := (Lay.start (own_below h b0.out) hv).below (Below.refl _ _).drew
  have HN : Hid (n ≤ 10) := hn
  have HL : Hid (∀ (W : World) (u : Value) (i : Nat) (ys : List Value), W.ownsRow w0.heap.size 5 1 u i ys → u ≠ .slice none 0 0 → Below w0.heap.size w0 W → i = n + 2 → Calls Tryz.prog 69 #[u, .agg (pkCells p)] W fun e w' => Adds w0.heap.size u W w' e (i + m) (ys ++ Z)) := HC
  obtain ⟨cs, hcs⟩ : ∃ cs, cs = pkCells p := ⟨_, rfl⟩
  have hsz : Hid (cs.size = 25) := by show _ = _; rw [hcs]; rfl
  have k21 : Hid (cs[21]? = some (.int .i64 p.id)) := by show _ = _; rw [hcs]; rfl
  rw [← hcs] at HL g0 ⊢
  rw [← hcs] at hW
  clear hcs hk h hv hb0 hn HC
  go_enter Tryz.func43, Tryz.ntmps43
  go_upto_region 1 with fail
  rw [← hW]
  clear hW
  go_upto_region 12 with fail
  refine wp_region_held_drew (S := fun w' => Hid (w'.heap[w.heap.size]? = some (.cells cs 29))) (by kernel_rfl) g0 (fun hHeld => ?_)
  refine wpAnyH_take (i := 0) (oi := { dst := Option.some 33, op := Go.Op.move (Go.Operand.tmp 0), type := 22, pos := "write.go:20", after := #[], guard := Option.none }) (v := v) rfl (by kernel_rfl) (by kernel_rfl) (by kernel_rfl) (fun _ _ _ h => h) (Or.inl ⟨by kernel_rfl, fun wq _ => pureVal_run (by kernel_rfl) wq⟩) hHeld ?_
  simp only [Act.put, List.setIfInBounds_toArray, List.set_cons_zero, List.set_cons_succ]
  refine wpAnyH_take (i := 1) (oi := { dst := Option.some 34, op := Go.Op.fieldAddr 29 (Go.Operand.tmp 3) 15, type := 0, pos := "write.go:20", after := #[], guard := Option.none }) (v := .pointer (some ⟨w.heap.size, 21, none⟩)) rfl (by kernel_rfl) (by kernel_rfl) (by kernel_rfl) (fun _ _ _ h => h) (Or.inl ⟨by kernel_rfl, by intro wq hSw; clear hSw hHeld; go_simp⟩) hHeld ?_
  simp only [Act.put, List.setIfInBounds_toArray, List.set_cons_zero, List.set_cons_succ]
  refine wpAnyH_take (i := 2) (oi := { dst := Option.some 35, op := Go.Op.load 3 (Go.Operand.tmp 34), type := 3, pos := "write.go:20", after := #[{ on := 1, ground := Go.Ground.data }], guard := Option.none }) (v := .int .i64 p.id) rfl (by kernel_rfl) (by kernel_rfl) (by kernel_rfl) (fun _ _ _ h => h) (Or.inl ⟨by kernel_rfl, by intro wq hSw; have hk := box_cells (Hid.out hSw) 21 _ k21.out; clear hSw hHeld; go_simp⟩) hHeld ?_
  simp only [Act.put, List.setIfInBounds_toArray, List.set_cons_zero, List.set_cons_succ]
  refine wpAnyH_take (i := 4) (oi := { dst := Option.some 37, op := Go.Op.load 29 (Go.Operand.tmp 3), type := 29, pos := "write.go:20", after := #[], guard := Option.none }) (v := .agg cs) rfl (by kernel_rfl) (by kernel_rfl) (by kernel_rfl) (fun _ _ _ h => h) (Or.inl ⟨by kernel_rfl, fun wq hSw => yields_load29 rfl (by rfl) (Hid.out hSw) hsz.out⟩) hHeld ?_
  simp only [Act.put, List.setIfInBounds_toArray, List.set_cons_zero, List.set_cons_succ]
  refine wpAnyH_ready (rs := [3]) (by kernel_rfl) (by simp) ?_
  refine AllReadyH.cons (o := { dst := Option.some 36, op := Go.Op.call { callee := Go.Callee.value (Go.Operand.func 70), args := #[Go.Operand.tmp 33, Go.Operand.tmp 35], argTypes := #[22, 3] }, type := 22, pos := "write.go:20", after := #[{ on := 0, ground := Go.Ground.data }, { on := 2, ground := Go.Ground.data }], guard := Option.none }) (by rfl) (fun K hK => ?_) AllReadyH.nil
  refine held_call (by kernel_rfl) 70 #[v, .int .i64 p.id] (by clear hHeld hK; go_simp) (R := fun x w' => Adds w0.heap.size v W.drew w' (.returned x) _ _) ((wNumber_any w0.heap.size _ v _ p.id W.drew L0.out.own HB.out (by have := HN.out; omega)).mono fun e w' ha => ⟨ha.choose, ha.choose_spec.1, ⟨ha.choose, rfl, ha.choose_spec.2⟩⟩) ?_
  intro v6 w6 r6
  have L6 : Hid (Lay w0.heap.size v W w6 v6 _ _) := L0.out.add r6
  have g6 : Hid (w6.heap[w.heap.size]? = some (.cells cs 29)) := L6.out.block g0.out HV.out
  refine hK.out _ _ g6 (fun hHeld => ?_)
  clear hK K r6
  simp only [Act.put, List.setIfInBounds_toArray, List.set_cons_zero, List.set_cons_succ]
  refine wpAnyH_ready (rs := [5]) (by kernel_rfl) (by simp) ?_
  refine AllReadyH.cons (o := { dst := Option.some 38, op := Go.Op.call { callee := Go.Callee.value (Go.Operand.func 69), args := #[Go.Operand.tmp 36, Go.Operand.tmp 37], argTypes := #[22, 29] }, type := 22, pos := "write.go:20", after := #[{ on := 3, ground := Go.Ground.data }, { on := 4, ground := Go.Ground.data }, { on := 3, ground := Go.Ground.chain }], guard := Option.none }) (by rfl) (fun K hK => ?_) AllReadyH.nil
  have B6 : Hid (Below w0.heap.size w0 w6) := BW.out.trans (L6.out.old HB.out HOB.out)
  refine held_call (by kernel_rfl) 69 #[v6, .agg cs] (by clear hHeld hK; go_simp) (R := fun x w' => Adds w0.heap.size v6 w6 w' (.returned x) _ _) ((HL.out w6 v6 _ _ L6.out.own L6.out.ne B6.out rfl).mono fun e w' ha => ⟨ha.choose, ha.choose_spec.1, ⟨ha.choose, rfl, ha.choose_spec.2⟩⟩) ?_
  intro v7 w7 r7
  have L7 : Hid (Lay w0.heap.size v W w7 v7 _ _) := L6.out.add r7
  have g7 : Hid (w7.heap[w.heap.size]? = some (.cells cs 29)) := L7.out.block g0.out HV.out
  refine hK.out _ _ g7 (fun hHeld => ?_)
  clear hK K r7
  simp only [Act.put, List.setIfInBounds_toArray, List.set_cons_zero, List.set_cons_succ]
  refine wpAnyH_take (i := 6) (oi := { dst := Option.some 4, op := Go.Op.assign (Go.Operand.tmp 38), type := 22, pos := "write.go:20", after := #[{ on := 5, ground := Go.Ground.data }, { on := 5, ground := Go.Ground.chain }, { on := 0, ground := Go.Ground.phase }, { on := 1, ground := Go.Ground.phase }, { on := 2, ground := Go.Ground.phase }, { on := 3, ground := Go.Ground.phase }, { on := 4, ground := Go.Ground.phase }, { on := 5, ground := Go.Ground.phase }], guard := Option.none }) (v := v7) rfl (by kernel_rfl) (by kernel_rfl) (by kernel_rfl) (fun _ _ _ h => h) (Or.inl ⟨by kernel_rfl, fun wq _ => pureVal_run (by kernel_rfl) wq⟩) hHeld ?_
  simp only [Act.put, List.setIfInBounds_toArray, List.set_cons_zero, List.set_cons_succ]
  refine wpAnyH_done (by kernel_rfl) ?_ _
  clear hHeld k0
  go_wp2_with fail
  go_ret
  exact Lay.done b0.out (L7.out.cast rfl (by simp only [List.append_assoc]))

set_option maxRecDepth 100000 in
set_option maxHeartbeats 4000000 in
theorem wFields_more5 (w0 w : World) (p : Pk) (v : Value) (n : Nat) (xs : List Value) (hk : p.kind = 5) (h : w.ownsRow w0.heap.size 5 1 v n xs) (hv : v ≠ .slice none 0 0) (hb0 : Below w0.heap.size w0 w) (hn : n ≤ 10) (m : Nat) (Z : List Value)
    (HC : ∀ (W : World) (u : Value) (i : Nat) (ys : List Value), W.ownsRow w0.heap.size 5 1 u i ys → u ≠ .slice none 0 0 → Below w0.heap.size w0 W → i = n + 2 → Calls Tryz.prog 69 #[u, .agg (pkCells p)] W fun e w' => Adds w0.heap.size u W w' e (i + m) (ys ++ Z)) :
    Calls Tryz.prog 43 #[v, .agg (pkCells p)] w fun e w' => Adds w0.heap.size v w w' e (n + 2 + m) (xs ++ cellsOf (numZ p.id) 2 ++ Z) := by
  obtain ⟨W, hW⟩ : ∃ W, W = w.alloc (.cells (pkCells p) 29) := ⟨_, rfl⟩
  have b0 : Hid (Below w.heap.size w W) := box_below hW
  have g0 : Hid (W.heap[w.heap.size]? = some (.cells (pkCells p) 29)) := by show _ = _; rw [hW]; exact heap_alloc_new w _
  have k0 : W.cell? ⟨w.heap.size, 0, none⟩ = some (.int .i64 5) := box_cells g0.out 0 _ (by rw [← hk]; rfl)
  have HV : Hid (v.ownBlock ≠ some w.heap.size) := fun e => by have := (h.lt _ e).2; omega
  have HOB : Hid (∀ k, v.ownBlock = some k → w0.heap.size ≤ k) := fun k e => (h.lt k e).1
  have HB : Hid (w0.heap.size ≤ W.heap.size) := Nat.le_trans hb0.size b0.out.size
  have BW : Hid (Below w0.heap.size w0 W) := hb0.trans (b0.out.mono hb0.size)
  have L0 : Hid (Lay w0.heap.size v W W.drew v n xs) := (Lay.start (own_below h b0.out) hv).below (Below.refl _ _).drew
  have HN : Hid (n ≤ 10) := hn
  have HL : Hid (∀ (W : World) (u : Value) (i : Nat) (ys : List Value), W.ownsRow w0.heap.size 5 1 u i ys → u ≠ .slice none 0 0 → Below w0.heap.size w0 W → i = n + 2 → Calls Tryz.prog 69 #[u, .agg (pkCells p)] W fun e w' => Adds w0.heap.size u W w' e (i + m) (ys ++ Z)) := HC
  obtain ⟨cs, hcs⟩ : ∃ cs, cs = pkCells p := ⟨_, rfl⟩
  have hsz : Hid (cs.size = 25) := by show _ = _; rw [hcs]; rfl
  have k21 : Hid (cs[21]? = some (.int .i64 p.id)) := by show _ = _; rw [hcs]; rfl
  rw [← hcs] at HL g0 ⊢
  rw [← hcs] at hW
  clear hcs hk h hv hb0 hn HC
  go_enter Tryz.func43, Tryz.ntmps43
  go_upto_region 1 with fail
  rw [← hW]
  clear hW
  go_upto_region 12 with fail
  refine wp_region_held_drew (S := fun w' => Hid (w'.heap[w.heap.size]? = some (.cells cs 29))) (by kernel_rfl) g0 (fun hHeld => ?_)
  refine wpAnyH_take (i := 0) (oi := { dst := Option.some 33, op := Go.Op.move (Go.Operand.tmp 0), type := 22, pos := "write.go:20", after := #[], guard := Option.none }) (v := v) rfl (by kernel_rfl) (by kernel_rfl) (by kernel_rfl) (fun _ _ _ h => h) (Or.inl ⟨by kernel_rfl, fun wq _ => pureVal_run (by kernel_rfl) wq⟩) hHeld ?_
  simp only [Act.put, List.setIfInBounds_toArray, List.set_cons_zero, List.set_cons_succ]
  refine wpAnyH_take (i := 1) (oi := { dst := Option.some 34, op := Go.Op.fieldAddr 29 (Go.Operand.tmp 3) 15, type := 0, pos := "write.go:20", after := #[], guard := Option.none }) (v := .pointer (some ⟨w.heap.size, 21, none⟩)) rfl (by kernel_rfl) (by kernel_rfl) (by kernel_rfl) (fun _ _ _ h => h) (Or.inl ⟨by kernel_rfl, by intro wq hSw; clear hSw hHeld; go_simp⟩) hHeld ?_
  simp only [Act.put, List.setIfInBounds_toArray, List.set_cons_zero, List.set_cons_succ]
  refine wpAnyH_take (i := 2) (oi := { dst := Option.some 35, op := Go.Op.load 3 (Go.Operand.tmp 34), type := 3, pos := "write.go:20", after := #[{ on := 1, ground := Go.Ground.data }], guard := Option.none }) (v := .int .i64 p.id) rfl (by kernel_rfl) (by kernel_rfl) (by kernel_rfl) (fun _ _ _ h => h) (Or.inl ⟨by kernel_rfl, by intro wq hSw; have hk := box_cells (Hid.out hSw) 21 _ k21.out; clear hSw hHeld; go_simp⟩) hHeld ?_
  simp only [Act.put, List.setIfInBounds_toArray, List.set_cons_zero, List.set_cons_succ]
  refine wpAnyH_take (i := 4) (oi := { dst := Option.some 37, op := Go.Op.load 29 (Go.Operand.tmp 3), type := 29, pos := "write.go:20", after := #[], guard := Option.none }) (v := .agg cs) rfl (by kernel_rfl) (by kernel_rfl) (by kernel_rfl) (fun _ _ _ h => h) (Or.inl ⟨by kernel_rfl, fun wq hSw => yields_load29 rfl (by rfl) (Hid.out hSw) hsz.out⟩) hHeld ?_
  simp only [Act.put, List.setIfInBounds_toArray, List.set_cons_zero, List.set_cons_succ]
  refine wpAnyH_ready (rs := [3]) (by kernel_rfl) (by simp) ?_
  refine AllReadyH.cons (o := { dst := Option.some 36, op := Go.Op.call { callee := Go.Callee.value (Go.Operand.func 70), args := #[Go.Operand.tmp 33, Go.Operand.tmp 35], argTypes := #[22, 3] }, type := 22, pos := "write.go:20", after := #[{ on := 0, ground := Go.Ground.data }, { on := 2, ground := Go.Ground.data }], guard := Option.none }) (by rfl) (fun K hK => ?_) AllReadyH.nil
  refine held_call (by kernel_rfl) 70 #[v, .int .i64 p.id] (by clear hHeld hK; go_simp) (R := fun x w' => Adds w0.heap.size v W.drew w' (.returned x) _ _) ((wNumber_any w0.heap.size _ v _ p.id W.drew L0.out.own HB.out (by have := HN.out; omega)).mono fun e w' ha => ⟨ha.choose, ha.choose_spec.1, ⟨ha.choose, rfl, ha.choose_spec.2⟩⟩) ?_
  intro v6 w6 r6
  have L6 : Hid (Lay w0.heap.size v W w6 v6 _ _) := L0.out.add r6
  have g6 : Hid (w6.heap[w.heap.size]? = some (.cells cs 29)) := L6.out.block g0.out HV.out
  refine hK.out _ _ g6 (fun hHeld => ?_)
  clear hK K r6
  simp only [Act.put, List.setIfInBounds_toArray, List.set_cons_zero, List.set_cons_succ]
  refine wpAnyH_ready (rs := [5]) (by kernel_rfl) (by simp) ?_
  refine AllReadyH.cons (o := { dst := Option.some 38, op := Go.Op.call { callee := Go.Callee.value (Go.Operand.func 69), args := #[Go.Operand.tmp 36, Go.Operand.tmp 37], argTypes := #[22, 29] }, type := 22, pos := "write.go:20", after := #[{ on := 3, ground := Go.Ground.data }, { on := 4, ground := Go.Ground.data }, { on := 3, ground := Go.Ground.chain }], guard := Option.none }) (by rfl) (fun K hK => ?_) AllReadyH.nil
  have B6 : Hid (Below w0.heap.size w0 w6) := BW.out.trans (L6.out.old HB.out HOB.out)
  refine held_call (by kernel_rfl) 69 #[v6, .agg cs] (by clear hHeld hK; go_simp) (R := fun x w' => Adds w0.heap.size v6 w6 w' (.returned x) _ _) ((HL.out w6 v6 _ _ L6.out.own L6.out.ne B6.out rfl).mono fun e w' ha => ⟨ha.choose, ha.choose_spec.1, ⟨ha.choose, rfl, ha.choose_spec.2⟩⟩) ?_
  intro v7 w7 r7
  have L7 : Hid (Lay w0.heap.size v W w7 v7 _ _) := L6.out.add r7
  have g7 : Hid (w7.heap[w.heap.size]? = some (.cells cs 29)) := L7.out.block g0.out HV.out
  refine hK.out _ _ g7 (fun hHeld => ?_)
  clear hK K r7
  simp only [Act.put, List.setIfInBounds_toArray, List.set_cons_zero, List.set_cons_succ]
  refine wpAnyH_take (i := 6) (oi := { dst := Option.some 4, op := Go.Op.assign (Go.Operand.tmp 38), type := 22, pos := "write.go:20", after := #[{ on := 5, ground := Go.Ground.data }, { on := 5, ground := Go.Ground.chain }, { on := 0, ground := Go.Ground.phase }, { on := 1, ground := Go.Ground.phase }, { on := 2, ground := Go.Ground.phase }, { on := 3, ground := Go.Ground.phase }, { on := 4, ground := Go.Ground.phase }, { on := 5, ground := Go.Ground.phase }], guard := Option.none }) (v := v7) rfl (by kernel_rfl) (by kernel_rfl) (by kernel_rfl) (fun _ _ _ h => h) (Or.inl ⟨by kernel_rfl, fun wq _ => pureVal_run (by kernel_rfl) wq⟩) hHeld ?_
  simp only [Act.put, List.setIfInBounds_toArray, List.set_cons_zero, List.set_cons_succ]
  refine wpAnyH_done (by kernel_rfl) ?_ _
  clear hHeld k0
  go_wp2_with fail
  go_ret
  exact Lay.done b0.out (L7.out.cast rfl (by simp only [List.append_assoc]))

set_option maxRecDepth 100000 in
set_option maxHeartbeats 4000000 in
theorem wFields_more6 (w0 w : World) (p : Pk) (v : Value) (n : Nat) (xs : List Value) (hk : p.kind = 6) (h : w.ownsRow w0.heap.size 5 1 v n xs) (hv : v ≠ .slice none 0 0) (hb0 : Below w0.heap.size w0 w) (hn : n ≤ 10) (m : Nat) (Z : List Value)
    (HC : ∀ (W : World) (u : Value) (i : Nat) (ys : List Value), W.ownsRow w0.heap.size 5 1 u i ys → u ≠ .slice none 0 0 → Below w0.heap.size w0 W → i = n + 2 → Calls Tryz.prog 69 #[u, .agg (pkCells p)] W fun e w' => Adds w0.heap.size u W w' e (i + m) (ys ++ Z)) :
    Calls Tryz.prog 43 #[v, .agg (pkCells p)] w fun e w' => Adds w0.heap.size v w w' e (n + 2 + m) (xs ++ cellsOf (numZ p.id) 2 ++ Z) := by
  obtain ⟨W, hW⟩ : ∃ W, W = w.alloc (.cells (pkCells p) 29) := ⟨_, rfl⟩
  have b0 : Hid (Below w.heap.size w W) := box_below hW
  have g0 : Hid (W.heap[w.heap.size]? = some (.cells (pkCells p) 29)) := by show _ = _; rw [hW]; exact heap_alloc_new w _
  have k0 : W.cell? ⟨w.heap.size, 0, none⟩ = some (.int .i64 6) := box_cells g0.out 0 _ (by rw [← hk]; rfl)
  have HV : Hid (v.ownBlock ≠ some w.heap.size) := fun e => by have := (h.lt _ e).2; omega
  have HOB : Hid (∀ k, v.ownBlock = some k → w0.heap.size ≤ k) := fun k e => (h.lt k e).1
  have HB : Hid (w0.heap.size ≤ W.heap.size) := Nat.le_trans hb0.size b0.out.size
  have BW : Hid (Below w0.heap.size w0 W) := hb0.trans (b0.out.mono hb0.size)
  have L0 : Hid (Lay w0.heap.size v W W.drew v n xs) := (Lay.start (own_below h b0.out) hv).below (Below.refl _ _).drew
  have HN : Hid (n ≤ 10) := hn
  have HL : Hid (∀ (W : World) (u : Value) (i : Nat) (ys : List Value), W.ownsRow w0.heap.size 5 1 u i ys → u ≠ .slice none 0 0 → Below w0.heap.size w0 W → i = n + 2 → Calls Tryz.prog 69 #[u, .agg (pkCells p)] W fun e w' => Adds w0.heap.size u W w' e (i + m) (ys ++ Z)) := HC
  obtain ⟨cs, hcs⟩ : ∃ cs, cs = pkCells p := ⟨_, rfl⟩
  have hsz : Hid (cs.size = 25) := by show _ = _; rw [hcs]; rfl
  have k21 : Hid (cs[21]? = some (.int .i64 p.id)) := by show _ = _; rw [hcs]; rfl
  rw [← hcs] at HL g0 ⊢
  rw [← hcs] at hW
  clear hcs hk h hv hb0 hn HC
  go_enter Tryz.func43, Tryz.ntmps43
  go_upto_region 1 with fail
  rw [← hW]
  clear hW
  go_upto_region 12 with fail
  refine wp_region_held_drew (S := fun w' => Hid (w'.heap[w.heap.size]? = some (.cells cs 29))) (by kernel_rfl) g0 (fun hHeld => ?_)
  refine wpAnyH_take (i := 0) (oi := { dst := Option.some 33, op := Go.Op.move (Go.Operand.tmp 0), type := 22, pos := "write.go:20", after := #[], guard := Option.none }) (v := v) rfl (by kernel_rfl) (by kernel_rfl) (by kernel_rfl) (fun _ _ _ h => h) (Or.inl ⟨by kernel_rfl, fun wq _ => pureVal_run (by kernel_rfl) wq⟩) hHeld ?_
  simp only [Act.put, List.setIfInBounds_toArray, List.set_cons_zero, List.set_cons_succ]
  refine wpAnyH_take (i := 1) (oi := { dst := Option.some 34, op := Go.Op.fieldAddr 29 (Go.Operand.tmp 3) 15, type := 0, pos := "write.go:20", after := #[], guard := Option.none }) (v := .pointer (some ⟨w.heap.size, 21, none⟩)) rfl (by kernel_rfl) (by kernel_rfl) (by kernel_rfl) (fun _ _ _ h => h) (Or.inl ⟨by kernel_rfl, by intro wq hSw; clear hSw hHeld; go_simp⟩) hHeld ?_
  simp only [Act.put, List.setIfInBounds_toArray, List.set_cons_zero, List.set_cons_succ]
  refine wpAnyH_take (i := 2) (oi := { dst := Option.some 35, op := Go.Op.load 3 (Go.Operand.tmp 34), type := 3, pos := "write.go:20", after := #[{ on := 1, ground := Go.Ground.data }], guard := Option.none }) (v := .int .i64 p.id) rfl (by kernel_rfl) (by kernel_rfl) (by kernel_rfl) (fun _ _ _ h => h) (Or.inl ⟨by kernel_rfl, by intro wq hSw; have hk := box_cells (Hid.out hSw) 21 _ k21.out; clear hSw hHeld; go_simp⟩) hHeld ?_
  simp only [Act.put, List.setIfInBounds_toArray, List.set_cons_zero, List.set_cons_succ]
  refine wpAnyH_take (i := 4) (oi := { dst := Option.some 37, op := Go.Op.load 29 (Go.Operand.tmp 3), type := 29, pos := "write.go:20", after := #[], guard := Option.none }) (v := .agg cs) rfl (by kernel_rfl) (by kernel_rfl) (by kernel_rfl) (fun _ _ _ h => h) (Or.inl ⟨by kernel_rfl, fun wq hSw => yields_load29 rfl (by rfl) (Hid.out hSw) hsz.out⟩) hHeld ?_
  simp only [Act.put, List.setIfInBounds_toArray, List.set_cons_zero, List.set_cons_succ]
  refine wpAnyH_ready (rs := [3]) (by kernel_rfl) (by simp) ?_
  refine AllReadyH.cons (o := { dst := Option.some 36, op := Go.Op.call { callee := Go.Callee.value (Go.Operand.func 70), args := #[Go.Operand.tmp 33, Go.Operand.tmp 35], argTypes := #[22, 3] }, type := 22, pos := "write.go:20", after := #[{ on := 0, ground := Go.Ground.data }, { on := 2, ground := Go.Ground.data }], guard := Option.none }) (by rfl) (fun K hK => ?_) AllReadyH.nil
  refine held_call (by kernel_rfl) 70 #[v, .int .i64 p.id] (by clear hHeld hK; go_simp) (R := fun x w' => Adds w0.heap.size v W.drew w' (.returned x) _ _) ((wNumber_any w0.heap.size _ v _ p.id W.drew L0.out.own HB.out (by have := HN.out; omega)).mono fun e w' ha => ⟨ha.choose, ha.choose_spec.1, ⟨ha.choose, rfl, ha.choose_spec.2⟩⟩) ?_
  intro v6 w6 r6
  have L6 : Hid (Lay w0.heap.size v W w6 v6 _ _) := L0.out.add r6
  have g6 : Hid (w6.heap[w.heap.size]? = some (.cells cs 29)) := L6.out.block g0.out HV.out
  refine hK.out _ _ g6 (fun hHeld => ?_)
  clear hK K r6
  simp only [Act.put, List.setIfInBounds_toArray, List.set_cons_zero, List.set_cons_succ]
  refine wpAnyH_ready (rs := [5]) (by kernel_rfl) (by simp) ?_
  refine AllReadyH.cons (o := { dst := Option.some 38, op := Go.Op.call { callee := Go.Callee.value (Go.Operand.func 69), args := #[Go.Operand.tmp 36, Go.Operand.tmp 37], argTypes := #[22, 29] }, type := 22, pos := "write.go:20", after := #[{ on := 3, ground := Go.Ground.data }, { on := 4, ground := Go.Ground.data }, { on := 3, ground := Go.Ground.chain }], guard := Option.none }) (by rfl) (fun K hK => ?_) AllReadyH.nil
  have B6 : Hid (Below w0.heap.size w0 w6) := BW.out.trans (L6.out.old HB.out HOB.out)
  refine held_call (by kernel_rfl) 69 #[v6, .agg cs] (by clear hHeld hK; go_simp) (R := fun x w' => Adds w0.heap.size v6 w6 w' (.returned x) _ _) ((HL.out w6 v6 _ _ L6.out.own L6.out.ne B6.out rfl).mono fun e w' ha => ⟨ha.choose, ha.choose_spec.1, ⟨ha.choose, rfl, ha.choose_spec.2⟩⟩) ?_
  intro v7 w7 r7
  have L7 : Hid (Lay w0.heap.size v W w7 v7 _ _) := L6.out.add r7
  have g7 : Hid (w7.heap[w.heap.size]? = some (.cells cs 29)) := L7.out.block g0.out HV.out
  refine hK.out _ _ g7 (fun hHeld => ?_)
  clear hK K r7
  simp only [Act.put, List.setIfInBounds_toArray, List.set_cons_zero, List.set_cons_succ]
  refine wpAnyH_take (i := 6) (oi := { dst := Option.some 4, op := Go.Op.assign (Go.Operand.tmp 38), type := 22, pos := "write.go:20", after := #[{ on := 5, ground := Go.Ground.data }, { on := 5, ground := Go.Ground.chain }, { on := 0, ground := Go.Ground.phase }, { on := 1, ground := Go.Ground.phase }, { on := 2, ground := Go.Ground.phase }, { on := 3, ground := Go.Ground.phase }, { on := 4, ground := Go.Ground.phase }, { on := 5, ground := Go.Ground.phase }], guard := Option.none }) (v := v7) rfl (by kernel_rfl) (by kernel_rfl) (by kernel_rfl) (fun _ _ _ h => h) (Or.inl ⟨by kernel_rfl, fun wq _ => pureVal_run (by kernel_rfl) wq⟩) hHeld ?_
  simp only [Act.put, List.setIfInBounds_toArray, List.set_cons_zero, List.set_cons_succ]
  refine wpAnyH_done (by kernel_rfl) ?_ _
  clear hHeld k0
  go_wp2_with fail
  go_ret
  exact Lay.done b0.out (L7.out.cast rfl (by simp only [List.append_assoc]))

set_option maxRecDepth 100000 in
set_option maxHeartbeats 4000000 in
theorem wFields_more7 (w0 w : World) (p : Pk) (v : Value) (n : Nat) (xs : List Value) (hk : p.kind = 7) (h : w.ownsRow w0.heap.size 5 1 v n xs) (hv : v ≠ .slice none 0 0) (hb0 : Below w0.heap.size w0 w) (hn : n ≤ 10) (m : Nat) (Z : List Value)
    (HC : ∀ (W : World) (u : Value) (i : Nat) (ys : List Value), W.ownsRow w0.heap.size 5 1 u i ys → u ≠ .slice none 0 0 → Below w0.heap.size w0 W → i = n + 2 → Calls Tryz.prog 69 #[u, .agg (pkCells p)] W fun e w' => Adds w0.heap.size u W w' e (i + m) (ys ++ Z)) :
    Calls Tryz.prog 43 #[v, .agg (pkCells p)] w fun e w' => Adds w0.heap.size v w w' e (n + 2 + m) (xs ++ cellsOf (numZ p.id) 2 ++ Z) := by
  obtain ⟨W, hW⟩ : ∃ W, W = w.alloc (.cells (pkCells p) 29) := ⟨_, rfl⟩
  have b0 : Hid (Below w.heap.size w W) := box_below hW
  have g0 : Hid (W.heap[w.heap.size]? = some (.cells (pkCells p) 29)) := by show _ = _; rw [hW]; exact heap_alloc_new w _
  have k0 : W.cell? ⟨w.heap.size, 0, none⟩ = some (.int .i64 7) := box_cells g0.out 0 _ (by rw [← hk]; rfl)
  have HV : Hid (v.ownBlock ≠ some w.heap.size) := fun e => by have := (h.lt _ e).2; omega
  have HOB : Hid (∀ k, v.ownBlock = some k → w0.heap.size ≤ k) := fun k e => (h.lt k e).1
  have HB : Hid (w0.heap.size ≤ W.heap.size) := Nat.le_trans hb0.size b0.out.size
  have BW : Hid (Below w0.heap.size w0 W) := hb0.trans (b0.out.mono hb0.size)
  have L0 : Hid (Lay w0.heap.size v W W.drew v n xs) := (Lay.start (own_below h b0.out) hv).below (Below.refl _ _).drew
  have HN : Hid (n ≤ 10) := hn
  have HL : Hid (∀ (W : World) (u : Value) (i : Nat) (ys : List Value), W.ownsRow w0.heap.size 5 1 u i ys → u ≠ .slice none 0 0 → Below w0.heap.size w0 W → i = n + 2 → Calls Tryz.prog 69 #[u, .agg (pkCells p)] W fun e w' => Adds w0.heap.size u W w' e (i + m) (ys ++ Z)) := HC
  obtain ⟨cs, hcs⟩ : ∃ cs, cs = pkCells p := ⟨_, rfl⟩
  have hsz : Hid (cs.size = 25) := by show _ = _; rw [hcs]; rfl
  have k21 : Hid (cs[21]? = some (.int .i64 p.id)) := by show _ = _; rw [hcs]; rfl
  rw [← hcs] at HL g0 ⊢
  rw [← hcs] at hW
  clear hcs hk h hv hb0 hn HC
  go_enter Tryz.func43, Tryz.ntmps43
  go_upto_region 1 with fail
  rw [← hW]
  clear hW
  go_upto_region 12 with fail
  refine wp_region_held_drew (S := fun w' => Hid (w'.heap[w.heap.size]? = some (.cells cs 29))) (by kernel_rfl) g0 (fun hHeld => ?_)
  refine wpAnyH_take (i := 0) (oi := { dst := Option.some 33, op := Go.Op.move (Go.Operand.tmp 0), type := 22, pos := "write.go:20", after := #[], guard := Option.none }) (v := v) rfl (by kernel_rfl) (by kernel_rfl) (by kernel_rfl) (fun _ _ _ h => h) (Or.inl ⟨by kernel_rfl, fun wq _ => pureVal_run (by kernel_rfl) wq⟩) hHeld ?_
  simp only [Act.put, List.setIfInBounds_toArray, List.set_cons_zero, List.set_cons_succ]
  refine wpAnyH_take (i := 1) (oi := { dst := Option.some 34, op := Go.Op.fieldAddr 29 (Go.Operand.tmp 3) 15, type := 0, pos := "write.go:20", after := #[], guard := Option.none }) (v := .pointer (some ⟨w.heap.size, 21, none⟩)) rfl (by kernel_rfl) (by kernel_rfl) (by kernel_rfl) (fun _ _ _ h => h) (Or.inl ⟨by kernel_rfl, by intro wq hSw; clear hSw hHeld; go_simp⟩) hHeld ?_
  simp only [Act.put, List.setIfInBounds_toArray, List.set_cons_zero, List.set_cons_succ]
  refine wpAnyH_take (i := 2) (oi := { dst := Option.some 35, op := Go.Op.load 3 (Go.Operand.tmp 34), type := 3, pos := "write.go:20", after := #[{ on := 1, ground := Go.Ground.data }], guard := Option.none }) (v := .int .i64 p.id) rfl (by kernel_rfl) (by kernel_rfl) (by kernel_rfl) (fun _ _ _ h => h) (Or.inl ⟨by kernel_rfl, by intro wq hSw; have hk := box_cells (Hid.out hSw) 21 _ k21.out; clear hSw hHeld; go_simp⟩) hHeld ?_
  simp only [Act.put, List.setIfInBounds_toArray, List.set_cons_zero, List.set_cons_succ]
  refine wpAnyH_take (i := 4) (oi := { dst := Option.some 37, op := Go.Op.load 29 (Go.Operand.tmp 3), type := 29, pos := "write.go:20", after := #[], guard := Option.none }) (v := .agg cs) rfl (by kernel_rfl) (by kernel_rfl) (by kernel_rfl) (fun _ _ _ h => h) (Or.inl ⟨by kernel_rfl, fun wq hSw => yields_load29 rfl (by rfl) (Hid.out hSw) hsz.out⟩) hHeld ?_
  simp only [Act.put, List.setIfInBounds_toArray, List.set_cons_zero, List.set_cons_succ]
  refine wpAnyH_ready (rs := [3]) (by kernel_rfl) (by simp) ?_
  refine AllReadyH.cons (o := { dst := Option.some 36, op := Go.Op.call { callee := Go.Callee.value (Go.Operand.func 70), args := #[Go.Operand.tmp 33, Go.Operand.tmp 35], argTypes := #[22, 3] }, type := 22, pos := "write.go:20", after := #[{ on := 0, ground := Go.Ground.data }, { on := 2, ground := Go.Ground.data }], guard := Option.none }) (by rfl) (fun K hK => ?_) AllReadyH.nil
  refine held_call (by kernel_rfl) 70 #[v, .int .i64 p.id] (by clear hHeld hK; go_simp) (R := fun x w' => Adds w0.heap.size v W.drew w' (.returned x) _ _) ((wNumber_any w0.heap.size _ v _ p.id W.drew L0.out.own HB.out (by have := HN.out; omega)).mono fun e w' ha => ⟨ha.choose, ha.choose_spec.1, ⟨ha.choose, rfl, ha.choose_spec.2⟩⟩) ?_
  intro v6 w6 r6
  have L6 : Hid (Lay w0.heap.size v W w6 v6 _ _) := L0.out.add r6
  have g6 : Hid (w6.heap[w.heap.size]? = some (.cells cs 29)) := L6.out.block g0.out HV.out
  refine hK.out _ _ g6 (fun hHeld => ?_)
  clear hK K r6
  simp only [Act.put, List.setIfInBounds_toArray, List.set_cons_zero, List.set_cons_succ]
  refine wpAnyH_ready (rs := [5]) (by kernel_rfl) (by simp) ?_
  refine AllReadyH.cons (o := { dst := Option.some 38, op := Go.Op.call { callee := Go.Callee.value (Go.Operand.func 69), args := #[Go.Operand.tmp 36, Go.Operand.tmp 37], argTypes := #[22, 29] }, type := 22, pos := "write.go:20", after := #[{ on := 3, ground := Go.Ground.data }, { on := 4, ground := Go.Ground.data }, { on := 3, ground := Go.Ground.chain }], guard := Option.none }) (by rfl) (fun K hK => ?_) AllReadyH.nil
  have B6 : Hid (Below w0.heap.size w0 w6) := BW.out.trans (L6.out.old HB.out HOB.out)
  refine held_call (by kernel_rfl) 69 #[v6, .agg cs] (by clear hHeld hK; go_simp) (R := fun x w' => Adds w0.heap.size v6 w6 w' (.returned x) _ _) ((HL.out w6 v6 _ _ L6.out.own L6.out.ne B6.out rfl).mono fun e w' ha => ⟨ha.choose, ha.choose_spec.1, ⟨ha.choose, rfl, ha.choose_spec.2⟩⟩) ?_
  intro v7 w7 r7
  have L7 : Hid (Lay w0.heap.size v W w7 v7 _ _) := L6.out.add r7
  have g7 : Hid (w7.heap[w.heap.size]? = some (.cells cs 29)) := L7.out.block g0.out HV.out
  refine hK.out _ _ g7 (fun hHeld => ?_)
  clear hK K r7
  simp only [Act.put, List.setIfInBounds_toArray, List.set_cons_zero, List.set_cons_succ]
  refine wpAnyH_take (i := 6) (oi := { dst := Option.some 4, op := Go.Op.assign (Go.Operand.tmp 38), type := 22, pos := "write.go:20", after := #[{ on := 5, ground := Go.Ground.data }, { on := 5, ground := Go.Ground.chain }, { on := 0, ground := Go.Ground.phase }, { on := 1, ground := Go.Ground.phase }, { on := 2, ground := Go.Ground.phase }, { on := 3, ground := Go.Ground.phase }, { on := 4, ground := Go.Ground.phase }, { on := 5, ground := Go.Ground.phase }], guard := Option.none }) (v := v7) rfl (by kernel_rfl) (by kernel_rfl) (by kernel_rfl) (fun _ _ _ h => h) (Or.inl ⟨by kernel_rfl, fun wq _ => pureVal_run (by kernel_rfl) wq⟩) hHeld ?_
  simp only [Act.put, List.setIfInBounds_toArray, List.set_cons_zero, List.set_cons_succ]
  refine wpAnyH_done (by kernel_rfl) ?_ _
  clear hHeld k0
  go_wp2_with fail
  go_ret
  exact Lay.done b0.out (L7.out.cast rfl (by simp only [List.append_assoc]))

set_option maxRecDepth 100000 in
set_option maxHeartbeats 4000000 in
theorem wFields_more8 (w0 w : World) (p : Pk) (v : Value) (n : Nat) (xs : List Value) (hk : p.kind = 8) (h : w.ownsRow w0.heap.size 5 1 v n xs) (hv : v ≠ .slice none 0 0) (hb0 : Below w0.heap.size w0 w) (hn : n ≤ 10) (m : Nat) (Z : List Value)
    (HC : ∀ (W : World) (u : Value) (i : Nat) (ys : List Value), W.ownsRow w0.heap.size 5 1 u i ys → u ≠ .slice none 0 0 → Below w0.heap.size w0 W → i = n + 2 → Calls Tryz.prog 69 #[u, .agg (pkCells p)] W fun e w' => Adds w0.heap.size u W w' e (i + m) (ys ++ Z)) :
    Calls Tryz.prog 43 #[v, .agg (pkCells p)] w fun e w' => Adds w0.heap.size v w w' e (n + 2 + m) (xs ++ cellsOf (numZ p.id) 2 ++ Z) := by
  obtain ⟨W, hW⟩ : ∃ W, W = w.alloc (.cells (pkCells p) 29) := ⟨_, rfl⟩
  have b0 : Hid (Below w.heap.size w W) := box_below hW
  have g0 : Hid (W.heap[w.heap.size]? = some (.cells (pkCells p) 29)) := by show _ = _; rw [hW]; exact heap_alloc_new w _
  have k0 : W.cell? ⟨w.heap.size, 0, none⟩ = some (.int .i64 8) := box_cells g0.out 0 _ (by rw [← hk]; rfl)
  have HV : Hid (v.ownBlock ≠ some w.heap.size) := fun e => by have := (h.lt _ e).2; omega
  have HOB : Hid (∀ k, v.ownBlock = some k → w0.heap.size ≤ k) := fun k e => (h.lt k e).1
  have HB : Hid (w0.heap.size ≤ W.heap.size) := Nat.le_trans hb0.size b0.out.size
  have BW : Hid (Below w0.heap.size w0 W) := hb0.trans (b0.out.mono hb0.size)
  have L0 : Hid (Lay w0.heap.size v W W.drew v n xs) := (Lay.start (own_below h b0.out) hv).below (Below.refl _ _).drew
  have HN : Hid (n ≤ 10) := hn
  have HL : Hid (∀ (W : World) (u : Value) (i : Nat) (ys : List Value), W.ownsRow w0.heap.size 5 1 u i ys → u ≠ .slice none 0 0 → Below w0.heap.size w0 W → i = n + 2 → Calls Tryz.prog 69 #[u, .agg (pkCells p)] W fun e w' => Adds w0.heap.size u W w' e (i + m) (ys ++ Z)) := HC
  obtain ⟨cs, hcs⟩ : ∃ cs, cs = pkCells p := ⟨_, rfl⟩
  have hsz : Hid (cs.size = 25) := by show _ = _; rw [hcs]; rfl
  have k21 : Hid (cs[21]? = some (.int .i64 p.id)) := by show _ = _; rw [hcs]; rfl
  rw [← hcs] at HL g0 ⊢
  rw [← hcs] at hW
  clear hcs hk h hv hb0 hn HC
  go_enter Tryz.func43, Tryz.ntmps43
  go_upto_region 1 with fail
  rw [← hW]
  clear hW
  go_upto_region 12 with fail
  refine wp_region_held_drew (S := fun w' => Hid (w'.heap[w.heap.size]? = some (.cells cs 29))) (by kernel_rfl) g0 (fun hHeld => ?_)
  refine wpAnyH_take (i := 0) (oi := { dst := Option.some 33, op := Go.Op.move (Go.Operand.tmp 0), type := 22, pos := "write.go:20", after := #[], guard := Option.none }) (v := v) rfl (by kernel_rfl) (by kernel_rfl) (by kernel_rfl) (fun _ _ _ h => h) (Or.inl ⟨by kernel_rfl, fun wq _ => pureVal_run (by kernel_rfl) wq⟩) hHeld ?_
  simp only [Act.put, List.setIfInBounds_toArray, List.set_cons_zero, List.set_cons_succ]
  refine wpAnyH_take (i := 1) (oi := { dst := Option.some 34, op := Go.Op.fieldAddr 29 (Go.Operand.tmp 3) 15, type := 0, pos := "write.go:20", after := #[], guard := Option.none }) (v := .pointer (some ⟨w.heap.size, 21, none⟩)) rfl (by kernel_rfl) (by kernel_rfl) (by kernel_rfl) (fun _ _ _ h => h) (Or.inl ⟨by kernel_rfl, by intro wq hSw; clear hSw hHeld; go_simp⟩) hHeld ?_
  simp only [Act.put, List.setIfInBounds_toArray, List.set_cons_zero, List.set_cons_succ]
  refine wpAnyH_take (i := 2) (oi := { dst := Option.some 35, op := Go.Op.load 3 (Go.Operand.tmp 34), type := 3, pos := "write.go:20", after := #[{ on := 1, ground := Go.Ground.data }], guard := Option.none }) (v := .int .i64 p.id) rfl (by kernel_rfl) (by kernel_rfl) (by kernel_rfl) (fun _ _ _ h => h) (Or.inl ⟨by kernel_rfl, by intro wq hSw; have hk := box_cells (Hid.out hSw) 21 _ k21.out; clear hSw hHeld; go_simp⟩) hHeld ?_
  simp only [Act.put, List.setIfInBounds_toArray, List.set_cons_zero, List.set_cons_succ]
  refine wpAnyH_take (i := 4) (oi := { dst := Option.some 37, op := Go.Op.load 29 (Go.Operand.tmp 3), type := 29, pos := "write.go:20", after := #[], guard := Option.none }) (v := .agg cs) rfl (by kernel_rfl) (by kernel_rfl) (by kernel_rfl) (fun _ _ _ h => h) (Or.inl ⟨by kernel_rfl, fun wq hSw => yields_load29 rfl (by rfl) (Hid.out hSw) hsz.out⟩) hHeld ?_
  simp only [Act.put, List.setIfInBounds_toArray, List.set_cons_zero, List.set_cons_succ]
  refine wpAnyH_ready (rs := [3]) (by kernel_rfl) (by simp) ?_
  refine AllReadyH.cons (o := { dst := Option.some 36, op := Go.Op.call { callee := Go.Callee.value (Go.Operand.func 70), args := #[Go.Operand.tmp 33, Go.Operand.tmp 35], argTypes := #[22, 3] }, type := 22, pos := "write.go:20", after := #[{ on := 0, ground := Go.Ground.data }, { on := 2, ground := Go.Ground.data }], guard := Option.none }) (by rfl) (fun K hK => ?_) AllReadyH.nil
  refine held_call (by kernel_rfl) 70 #[v, .int .i64 p.id] (by clear hHeld hK; go_simp) (R := fun x w' => Adds w0.heap.size v W.drew w' (.returned x) _ _) ((wNumber_any w0.heap.size _ v _ p.id W.drew L0.out.own HB.out (by have := HN.out; omega)).mono fun e w' ha => ⟨ha.choose, ha.choose_spec.1, ⟨ha.choose, rfl, ha.choose_spec.2⟩⟩) ?_
  intro v6 w6 r6
  have L6 : Hid (Lay w0.heap.size v W w6 v6 _ _) := L0.out.add r6
  have g6 : Hid (w6.heap[w.heap.size]? = some (.cells cs 29)) := L6.out.block g0.out HV.out
  refine hK.out _ _ g6 (fun hHeld => ?_)
  clear hK K r6
  simp only [Act.put, List.setIfInBounds_toArray, List.set_cons_zero, List.set_cons_succ]
  refine wpAnyH_ready (rs := [5]) (by kernel_rfl) (by simp) ?_
  refine AllReadyH.cons (o := { dst := Option.some 38, op := Go.Op.call { callee := Go.Callee.value (Go.Operand.func 69), args := #[Go.Operand.tmp 36, Go.Operand.tmp 37], argTypes := #[22, 29] }, type := 22, pos := "write.go:20", after := #[{ on := 3, ground := Go.Ground.data }, { on := 4, ground := Go.Ground.data }, { on := 3, ground := Go.Ground.chain }], guard := Option.none }) (by rfl) (fun K hK => ?_) AllReadyH.nil
  have B6 : Hid (Below w0.heap.size w0 w6) := BW.out.trans (L6.out.old HB.out HOB.out)
  refine held_call (by kernel_rfl) 69 #[v6, .agg cs] (by clear hHeld hK; go_simp) (R := fun x w' => Adds w0.heap.size v6 w6 w' (.returned x) _ _) ((HL.out w6 v6 _ _ L6.out.own L6.out.ne B6.out rfl).mono fun e w' ha => ⟨ha.choose, ha.choose_spec.1, ⟨ha.choose, rfl, ha.choose_spec.2⟩⟩) ?_
  intro v7 w7 r7
  have L7 : Hid (Lay w0.heap.size v W w7 v7 _ _) := L6.out.add r7
  have g7 : Hid (w7.heap[w.heap.size]? = some (.cells cs 29)) := L7.out.block g0.out HV.out
  refine hK.out _ _ g7 (fun hHeld => ?_)
  clear hK K r7
  simp only [Act.put, List.setIfInBounds_toArray, List.set_cons_zero, List.set_cons_succ]
  refine wpAnyH_take (i := 6) (oi := { dst := Option.some 4, op := Go.Op.assign (Go.Operand.tmp 38), type := 22, pos := "write.go:20", after := #[{ on := 5, ground := Go.Ground.data }, { on := 5, ground := Go.Ground.chain }, { on := 0, ground := Go.Ground.phase }, { on := 1, ground := Go.Ground.phase }, { on := 2, ground := Go.Ground.phase }, { on := 3, ground := Go.Ground.phase }, { on := 4, ground := Go.Ground.phase }, { on := 5, ground := Go.Ground.phase }], guard := Option.none }) (v := v7) rfl (by kernel_rfl) (by kernel_rfl) (by kernel_rfl) (fun _ _ _ h => h) (Or.inl ⟨by kernel_rfl, fun wq _ => pureVal_run (by kernel_rfl) wq⟩) hHeld ?_
  simp only [Act.put, List.setIfInBounds_toArray, List.set_cons_zero, List.set_cons_succ]
  refine wpAnyH_done (by kernel_rfl) ?_ _
  clear hHeld k0
  go_wp2_with fail
  go_ret
  exact Lay.done b0.out (L7.out.cast rfl (by simp only [List.append_assoc]))

set_option maxRecDepth 100000 in
set_option maxHeartbeats 4000000 in
theorem wFields_more9 (w0 w : World) (p : Pk) (v : Value) (n : Nat) (xs : List Value) (hk : p.kind = 9) (h : w.ownsRow w0.heap.size 5 1 v n xs) (hv : v ≠ .slice none 0 0) (hb0 : Below w0.heap.size w0 w) (hn : n ≤ 10) (m : Nat) (Z : List Value)
    (HC : ∀ (W : World) (u : Value) (i : Nat) (ys : List Value), W.ownsRow w0.heap.size 5 1 u i ys → u ≠ .slice none 0 0 → Below w0.heap.size w0 W → i = n + 2 → Calls Tryz.prog 69 #[u, .agg (pkCells p)] W fun e w' => Adds w0.heap.size u W w' e (i + m) (ys ++ Z)) :
    Calls Tryz.prog 43 #[v, .agg (pkCells p)] w fun e w' => Adds w0.heap.size v w w' e (n + 2 + m) (xs ++ cellsOf (numZ p.id) 2 ++ Z) := by
  obtain ⟨W, hW⟩ : ∃ W, W = w.alloc (.cells (pkCells p) 29) := ⟨_, rfl⟩
  have b0 : Hid (Below w.heap.size w W) := box_below hW
  have g0 : Hid (W.heap[w.heap.size]? = some (.cells (pkCells p) 29)) := by show _ = _; rw [hW]; exact heap_alloc_new w _
  have k0 : W.cell? ⟨w.heap.size, 0, none⟩ = some (.int .i64 9) := box_cells g0.out 0 _ (by rw [← hk]; rfl)
  have HV : Hid (v.ownBlock ≠ some w.heap.size) := fun e => by have := (h.lt _ e).2; omega
  have HOB : Hid (∀ k, v.ownBlock = some k → w0.heap.size ≤ k) := fun k e => (h.lt k e).1
  have HB : Hid (w0.heap.size ≤ W.heap.size) := Nat.le_trans hb0.size b0.out.size
  have BW : Hid (Below w0.heap.size w0 W) := hb0.trans (b0.out.mono hb0.size)
  have L0 : Hid (Lay w0.heap.size v W W.drew v n xs) := (Lay.start (own_below h b0.out) hv).below (Below.refl _ _).drew
  have HN : Hid (n ≤ 10) := hn
  have HL : Hid (∀ (W : World) (u : Value) (i : Nat) (ys : List Value), W.ownsRow w0.heap.size 5 1 u i ys → u ≠ .slice none 0 0 → Below w0.heap.size w0 W → i = n + 2 → Calls Tryz.prog 69 #[u, .agg (pkCells p)] W fun e w' => Adds w0.heap.size u W w' e (i + m) (ys ++ Z)) := HC
  obtain ⟨cs, hcs⟩ : ∃ cs, cs = pkCells p := ⟨_, rfl⟩
  have hsz : Hid (cs.size = 25) := by show _ = _; rw [hcs]; rfl
  have k21 : Hid (cs[21]? = some (.int .i64 p.id)) := by show _ = _; rw [hcs]; rfl
  rw [← hcs] at HL g0 ⊢
  rw [← hcs] at hW
  clear hcs hk h hv hb0 hn HC
  go_enter Tryz.func43, Tryz.ntmps43
  go_upto_region 1 with fail
  rw [← hW]
  clear hW
  go_upto_region 12 with fail
  refine wp_region_held_drew (S := fun w' => Hid (w'.heap[w.heap.size]? = some (.cells cs 29))) (by kernel_rfl) g0 (fun hHeld => ?_)
  refine wpAnyH_take (i := 0) (oi := { dst := Option.some 33, op := Go.Op.move (Go.Operand.tmp 0), type := 22, pos := "write.go:20", after := #[], guard := Option.none }) (v := v) rfl (by kernel_rfl) (by kernel_rfl) (by kernel_rfl) (fun _ _ _ h => h) (Or.inl ⟨by kernel_rfl, fun wq _ => pureVal_run (by kernel_rfl) wq⟩) hHeld ?_
  simp only [Act.put, List.setIfInBounds_toArray, List.set_cons_zero, List.set_cons_succ]
  refine wpAnyH_take (i := 1) (oi := { dst := Option.some 34, op := Go.Op.fieldAddr 29 (Go.Operand.tmp 3) 15, type := 0, pos := "write.go:20", after := #[], guard := Option.none }) (v := .pointer (some ⟨w.heap.size, 21, none⟩)) rfl (by kernel_rfl) (by kernel_rfl) (by kernel_rfl) (fun _ _ _ h => h) (Or.inl ⟨by kernel_rfl, by intro wq hSw; clear hSw hHeld; go_simp⟩) hHeld ?_
  simp only [Act.put, List.setIfInBounds_toArray, List.set_cons_zero, List.set_cons_succ]
  refine wpAnyH_take (i := 2) (oi := { dst := Option.some 35, op := Go.Op.load 3 (Go.Operand.tmp 34), type := 3, pos := "write.go:20", after := #[{ on := 1, ground := Go.Ground.data }], guard := Option.none }) (v := .int .i64 p.id) rfl (by kernel_rfl) (by kernel_rfl) (by kernel_rfl) (fun _ _ _ h => h) (Or.inl ⟨by kernel_rfl, by intro wq hSw; have hk := box_cells (Hid.out hSw) 21 _ k21.out; clear hSw hHeld; go_simp⟩) hHeld ?_
  simp only [Act.put, List.setIfInBounds_toArray, List.set_cons_zero, List.set_cons_succ]
  refine wpAnyH_take (i := 4) (oi := { dst := Option.some 37, op := Go.Op.load 29 (Go.Operand.tmp 3), type := 29, pos := "write.go:20", after := #[], guard := Option.none }) (v := .agg cs) rfl (by kernel_rfl) (by kernel_rfl) (by kernel_rfl) (fun _ _ _ h => h) (Or.inl ⟨by kernel_rfl, fun wq hSw => yields_load29 rfl (by rfl) (Hid.out hSw) hsz.out⟩) hHeld ?_
  simp only [Act.put, List.setIfInBounds_toArray, List.set_cons_zero, List.set_cons_succ]
  refine wpAnyH_ready (rs := [3]) (by kernel_rfl) (by simp) ?_
  refine AllReadyH.cons (o := { dst := Option.some 36, op := Go.Op.call { callee := Go.Callee.value (Go.Operand.func 70), args := #[Go.Operand.tmp 33, Go.Operand.tmp 35], argTypes := #[22, 3] }, type := 22, pos := "write.go:20", after := #[{ on := 0, ground := Go.Ground.data }, { on := 2, ground := Go.Ground.data }], guard := Option.none }) (by rfl) (fun K hK => ?_) AllReadyH.nil
  refine held_call (by kernel_rfl) 70 #[v, .int .i64 p.id] (by clear hHeld hK; go_simp) (R := fun x w' => Adds w0.heap.size v W.drew w' (.returned x) _ _) ((wNumber_any w0.heap.size _ v _ p.id W.drew L0.out.own HB.out (by have := HN.out; omega)).mono fun e w' ha => ⟨ha.choose, ha.choose_spec.1, ⟨ha.choose, rfl, ha.choose_spec.2⟩⟩) ?_
  intro v6 w6 r6
  have L6 : Hid (Lay w0.heap.size v W w6 v6 _ _) := L0.out.add r6
  have g6 : Hid (w6.heap[w.heap.size]? = some (.cells cs 29)) := L6.out.block g0.out HV.out
  refine hK.out _ _ g6 (fun hHeld => ?_)
  clear hK K r6
  simp only [Act.put, List.setIfInBounds_toArray, List.set_cons_zero, List.set_cons_succ]
  refine wpAnyH_ready (rs := [5]) (by kernel_rfl) (by simp) ?_
  refine AllReadyH.cons (o := { dst := Option.some 38, op := Go.Op.call { callee := Go.Callee.value (Go.Operand.func 69), args := #[Go.Operand.tmp 36, Go.Operand.tmp 37], argTypes := #[22, 29] }, type := 22, pos := "write.go:20", after := #[{ on := 3, ground := Go.Ground.data }, { on := 4, ground := Go.Ground.data }, { on := 3, ground := Go.Ground.chain }], guard := Option.none }) (by rfl) (fun K hK => ?_) AllReadyH.nil
  have B6 : Hid (Below w0.heap.size w0 w6) := BW.out.trans (L6.out.old HB.out HOB.out)
  refine held_call (by kernel_rfl) 69 #[v6, .agg cs] (by clear hHeld hK; go_simp) (R := fun x w' => Adds w0.heap.size v6 w6 w' (.returned x) _ _) ((HL.out w6 v6 _ _ L6.out.own L6.out.ne B6.out rfl).mono fun e w' ha => ⟨ha.choose, ha.choose_spec.1, ⟨ha.choose, rfl, ha.choose_spec.2⟩⟩) ?_
  intro v7 w7 r7
  have L7 : Hid (Lay w0.heap.size v W w7 v7 _ _) := L6.out.add r7
  have g7 : Hid (w7.heap[w.heap.size]? = some (.cells cs 29)) := L7.out.block g0.out HV.out
  refine hK.out _ _ g7 (fun hHeld => ?_)
  clear hK K r7
  simp only [Act.put, List.setIfInBounds_toArray, List.set_cons_zero, List.set_cons_succ]
  refine wpAnyH_take (i := 6) (oi := { dst := Option.some 4, op := Go.Op.assign (Go.Operand.tmp 38), type := 22, pos := "write.go:20", after := #[{ on := 5, ground := Go.Ground.data }, { on := 5, ground := Go.Ground.chain }, { on := 0, ground := Go.Ground.phase }, { on := 1, ground := Go.Ground.phase }, { on := 2, ground := Go.Ground.phase }, { on := 3, ground := Go.Ground.phase }, { on := 4, ground := Go.Ground.phase }, { on := 5, ground := Go.Ground.phase }], guard := Option.none }) (v := v7) rfl (by kernel_rfl) (by kernel_rfl) (by kernel_rfl) (fun _ _ _ h => h) (Or.inl ⟨by kernel_rfl, fun wq _ => pureVal_run (by kernel_rfl) wq⟩) hHeld ?_
  simp only [Act.put, List.setIfInBounds_toArray, List.set_cons_zero, List.set_cons_succ]
  refine wpAnyH_done (by kernel_rfl) ?_ _
  clear hHeld k0
  go_wp2_with fail
  go_ret
  exact Lay.done b0.out (L7.out.cast rfl (by simp only [List.append_assoc]))

set_option maxRecDepth 100000 in
set_option maxHeartbeats 4000000 in
theorem wFields_more10 (w0 w : World) (p : Pk) (v : Value) (n : Nat) (xs : List Value) (hk : p.kind = 10) (h : w.ownsRow w0.heap.size 5 1 v n xs) (hv : v ≠ .slice none 0 0) (hb0 : Below w0.heap.size w0 w) (hn : n ≤ 10) (m : Nat) (Z : List Value)
    (HC : ∀ (W : World) (u : Value) (i : Nat) (ys : List Value), W.ownsRow w0.heap.size 5 1 u i ys → u ≠ .slice none 0 0 → Below w0.heap.size w0 W → i = n + 2 → Calls Tryz.prog 69 #[u, .agg (pkCells p)] W fun e w' => Adds w0.heap.size u W w' e (i + m) (ys ++ Z)) :
    Calls Tryz.prog 43 #[v, .agg (pkCells p)] w fun e w' => Adds w0.heap.size v w w' e (n + 2 + m) (xs ++ cellsOf (numZ p.id) 2 ++ Z) := by
  obtain ⟨W, hW⟩ : ∃ W, W = w.alloc (.cells (pkCells p) 29) := ⟨_, rfl⟩
  have b0 : Hid (Below w.heap.size w W) := box_below hW
  have g0 : Hid (W.heap[w.heap.size]? = some (.cells (pkCells p) 29)) := by show _ = _; rw [hW]; exact heap_alloc_new w _
  have k0 : W.cell? ⟨w.heap.size, 0, none⟩ = some (.int .i64 10) := box_cells g0.out 0 _ (by rw [← hk]; rfl)
  have HV : Hid (v.ownBlock ≠ some w.heap.size) := fun e => by have := (h.lt _ e).2; omega
  have HOB : Hid (∀ k, v.ownBlock = some k → w0.heap.size ≤ k) := fun k e => (h.lt k e).1
  have HB : Hid (w0.heap.size ≤ W.heap.size) := Nat.le_trans hb0.size b0.out.size
  have BW : Hid (Below w0.heap.size w0 W) := hb0.trans (b0.out.mono hb0.size)
  have L0 : Hid (Lay w0.heap.size v W W.drew v n xs) := (Lay.start (own_below h b0.out) hv).below (Below.refl _ _).drew
  have HN : Hid (n ≤ 10) := hn
  have HL : Hid (∀ (W : World) (u : Value) (i : Nat) (ys : List Value), W.ownsRow w0.heap.size 5 1 u i ys → u ≠ .slice none 0 0 → Below w0.heap.size w0 W → i = n + 2 → Calls Tryz.prog 69 #[u, .agg (pkCells p)] W fun e w' => Adds w0.heap.size u W w' e (i + m) (ys ++ Z)) := HC
  obtain ⟨cs, hcs⟩ : ∃ cs, cs = pkCells p := ⟨_, rfl⟩
  have hsz : Hid (cs.size = 25) := by show _ = _; rw [hcs]; rfl
  have k21 : Hid (cs[21]? = some (.int .i64 p.id)) := by show _ = _; rw [hcs]; rfl
  rw [← hcs] at HL g0 ⊢
  rw [← hcs] at hW
  clear hcs hk h hv hb0 hn HC
  go_enter Tryz.func43, Tryz.ntmps43
  go_upto_region 1 with fail
  rw [← hW]
  clear hW
  go_upto_region 12 with fail
  refine wp_region_held_drew (S := fun w' => Hid (w'.heap[w.heap.size]? = some (.cells cs 29))) (by kernel_rfl) g0 (fun hHeld => ?_)
  refine wpAnyH_take (i := 0) (oi := { dst := Option.some 33, op := Go.Op.move (Go.Operand.tmp 0), type := 22, pos := "write.go:20", after := #[], guard := Option.none }) (v := v) rfl (by kernel_rfl) (by kernel_rfl) (by kernel_rfl) (fun _ _ _ h => h) (Or.inl ⟨by kernel_rfl, fun wq _ => pureVal_run (by kernel_rfl) wq⟩) hHeld ?_
  simp only [Act.put, List.setIfInBounds_toArray, List.set_cons_zero, List.set_cons_succ]
  refine wpAnyH_take (i := 1) (oi := { dst := Option.some 34, op := Go.Op.fieldAddr 29 (Go.Operand.tmp 3) 15, type := 0, pos := "write.go:20", after := #[], guard := Option.none }) (v := .pointer (some ⟨w.heap.size, 21, none⟩)) rfl (by kernel_rfl) (by kernel_rfl) (by kernel_rfl) (fun _ _ _ h => h) (Or.inl ⟨by kernel_rfl, by intro wq hSw; clear hSw hHeld; go_simp⟩) hHeld ?_
  simp only [Act.put, List.setIfInBounds_toArray, List.set_cons_zero, List.set_cons_succ]
  refine wpAnyH_take (i := 2) (oi := { dst := Option.some 35, op := Go.Op.load 3 (Go.Operand.tmp 34), type := 3, pos := "write.go:20", after := #[{ on := 1, ground := Go.Ground.data }], guard := Option.none }) (v := .int .i64 p.id) rfl (by kernel_rfl) (by kernel_rfl) (by kernel_rfl) (fun _ _ _ h => h) (Or.inl ⟨by kernel_rfl, by intro wq hSw; have hk := box_cells (Hid.out hSw) 21 _ k21.out; clear hSw hHeld; go_simp⟩) hHeld ?_
  simp only [Act.put, List.setIfInBounds_toArray, List.set_cons_zero, List.set_cons_succ]
  refine wpAnyH_take (i := 4) (oi := { dst := Option.some 37, op := Go.Op.load 29 (Go.Operand.tmp 3), type := 29, pos := "write.go:20", after := #[], guard := Option.none }) (v := .agg cs) rfl (by kernel_rfl) (by kernel_rfl) (by kernel_rfl) (fun _ _ _ h => h) (Or.inl ⟨by kernel_rfl, fun wq hSw => yields_load29 rfl (by rfl) (Hid.out hSw) hsz.out⟩) hHeld ?_
  simp only [Act.put, List.setIfInBounds_toArray, List.set_cons_zero, List.set_cons_succ]
  refine wpAnyH_ready (rs := [3]) (by kernel_rfl) (by simp) ?_
  refine AllReadyH.cons (o := { dst := Option.some 36, op := Go.Op.call { callee := Go.Callee.value (Go.Operand.func 70), args := #[Go.Operand.tmp 33, Go.Operand.tmp 35], argTypes := #[22, 3] }, type := 22, pos := "write.go:20", after := #[{ on := 0, ground := Go.Ground.data }, { on := 2, ground := Go.Ground.data }], guard := Option.none }) (by rfl) (fun K hK => ?_) AllReadyH.nil
  refine held_call (by kernel_rfl) 70 #[v, .int .i64 p.id] (by clear hHeld hK; go_simp) (R := fun x w' => Adds w0.heap.size v W.drew w' (.returned x) _ _) ((wNumber_any w0.heap.size _ v _ p.id W.drew L0.out.own HB.out (by have := HN.out; omega)).mono fun e w' ha => ⟨ha.choose, ha.choose_spec.1, ⟨ha.choose, rfl, ha.choose_spec.2⟩⟩) ?_
  intro v6 w6 r6
  have L6 : Hid (Lay w0.heap.size v W w6 v6 _ _) := L0.out.add r6
  have g6 : Hid (w6.heap[w.heap.size]? = some (.cells cs 29)) := L6.out.block g0.out HV.out
  refine hK.out _ _ g6 (fun hHeld => ?_)
  clear hK K r6
  simp only [Act.put, List.setIfInBounds_toArray, List.set_cons_zero, List.set_cons_succ]
  refine wpAnyH_ready (rs := [5]) (by kernel_rfl) (by simp) ?_
  refine AllReadyH.cons (o := { dst := Option.some 38, op := Go.Op.call { callee := Go.Callee.value (Go.Operand.func 69), args := #[Go.Operand.tmp 36, Go.Operand.tmp 37], argTypes := #[22, 29] }, type := 22, pos := "write.go:20", after := #[{ on := 3, ground := Go.Ground.data }, { on := 4, ground := Go.Ground.data }, { on := 3, ground := Go.Ground.chain }], guard := Option.none }) (by rfl) (fun K hK => ?_) AllReadyH.nil
  have B6 : Hid (Below w0.heap.size w0 w6) := BW.out.trans (L6.out.old HB.out HOB.out)
  refine held_call (by kernel_rfl) 69 #[v6, .agg cs] (by clear hHeld hK; go_simp) (R := fun x w' => Adds w0.heap.size v6 w6 w' (.returned x) _ _) ((HL.out w6 v6 _ _ L6.out.own L6.out.ne B6.out rfl).mono fun e w' ha => ⟨ha.choose, ha.choose_spec.1, ⟨ha.choose, rfl, ha.choose_spec.2⟩⟩) ?_
  intro v7 w7 r7
  have L7 : Hid (Lay w0.heap.size v W w7 v7 _ _) := L6.out.add r7
  have g7 : Hid (w7.heap[w.heap.size]? = some (.cells cs 29)) := L7.out.block g0.out HV.out
  refine hK.out _ _ g7 (fun hHeld => ?_)
  clear hK K r7
  simp only [Act.put, List.setIfInBounds_toArray, List.set_cons_zero, List.set_cons_succ]
  refine wpAnyH_take (i := 6) (oi := { dst := Option.some 4, op := Go.Op.assign (Go.Operand.tmp 38), type := 22, pos := "write.go:20", after := #[{ on := 5, ground := Go.Ground.data }, { on := 5, ground := Go.Ground.chain }, { on := 0, ground := Go.Ground.phase }, { on := 1, ground := Go.Ground.phase }, { on := 2, ground := Go.Ground.phase }, { on := 3, ground := Go.Ground.phase }, { on := 4, ground := Go.Ground.phase }, { on := 5, ground := Go.Ground.phase }], guard := Option.none }) (v := v7) rfl (by kernel_rfl) (by kernel_rfl) (by kernel_rfl) (fun _ _ _ h => h) (Or.inl ⟨by kernel_rfl, fun wq _ => pureVal_run (by kernel_rfl) wq⟩) hHeld ?_
  simp only [Act.put, List.setIfInBounds_toArray, List.set_cons_zero, List.set_cons_succ]
  refine wpAnyH_done (by kernel_rfl) ?_ _
  clear hHeld k0
  go_wp2_with fail
  go_ret
  exact Lay.done b0.out (L7.out.cast rfl (by simp only [List.append_assoc]))

set_option maxRecDepth 100000 in
set_option maxHeartbeats 4000000 in
theorem wFields_more11 (w0 w : World) (p : Pk) (v : Value) (n : Nat) (xs : List Value) (hk : p.kind = 11) (h : w.ownsRow w0.heap.size 5 1 v n xs) (hv : v ≠ .slice none 0 0) (hb0 : Below w0.heap.size w0 w) (hn : n ≤ 10) (m : Nat) (Z : List Value)
    (HC : ∀ (W : World) (u : Value) (i : Nat) (ys : List Value), W.ownsRow w0.heap.size 5 1 u i ys → u ≠ .slice none 0 0 → Below w0.heap.size w0 W → i = n + 2 → Calls Tryz.prog 69 #[u, .agg (pkCells p)] W fun e w' => Adds w0.heap.size u W w' e (i + m) (ys ++ Z)) :
    Calls Tryz.prog 43 #[v, .agg (pkCells p)] w fun e w' => Adds w0.heap.size v w w' e (n + 2 + m) (xs ++ cellsOf (numZ p.id) 2 ++ Z) := by
  obtain ⟨W, hW⟩ : ∃ W, W = w.alloc (.cells (pkCells p) 29) := ⟨_, rfl⟩
  have b0 : Hid (Below w.heap.size w W) := box_below hW
  have g0 : Hid (W.heap[w.heap.size]? = some (.cells (pkCells p) 29)) := by show _ = _; rw [hW]; exact heap_alloc_new w _
  have k0 : W.cell? ⟨w.heap.size, 0, none⟩ = some (.int .i64 11) := box_cells g0.out 0 _ (by rw [← hk]; rfl)
  have HV : Hid (v.ownBlock ≠ some w.heap.size) := fun e => by have := (h.lt _ e).2; omega
  have HOB : Hid (∀ k, v.ownBlock = some k → w0.heap.size ≤ k) := fun k e => (h.lt k e).1
  have HB : Hid (w0.heap.size ≤ W.heap.size) := Nat.le_trans hb0.size b0.out.size
  have BW : Hid (Below w0.heap.size w0 W) := hb0.trans (b0.out.mono hb0.size)
  have L0 : Hid (Lay w0.heap.size v W W.drew v n xs) := (Lay.start (own_below h b0.out) hv).below (Below.refl _ _).drew
  have HN : Hid (n ≤ 10) := hn
  have HL : Hid (∀ (W : World) (u : Value) (i : Nat) (ys : List Value), W.ownsRow w0.heap.size 5 1 u i ys → u ≠ .slice none 0 0 → Below w0.heap.size w0 W → i = n + 2 → Calls Tryz.prog 69 #[u, .agg (pkCells p)] W fun e w' => Adds w0.heap.size u W w' e (i + m) (ys ++ Z)) := HC
  obtain ⟨cs, hcs⟩ : ∃ cs, cs = pkCells p := ⟨_, rfl⟩
  have hsz : Hid (cs.size = 25) := by show _ = _; rw [hcs]; rfl
  have k21 : Hid (cs[21]? = some (.int .i64 p.id)) := by show _ = _; rw [hcs]; rfl
  rw [← hcs] at HL g0 ⊢
  rw [← hcs] at hW
  clear hcs hk h hv hb0 hn HC
  go_enter Tryz.func43, Tryz.ntmps43
  go_upto_region 1 with fail
  rw [← hW]
  clear hW
  go_upto_region 12 with fail
  refine wp_region_held_drew (S := fun w' => Hid (w'.heap[w.heap.size]? = some (.cells cs 29))) (by kernel_rfl) g0 (fun hHeld => ?_)
  refine wpAnyH_take (i := 0) (oi := { dst := Option.some 33, op := Go.Op.move (Go.Operand.tmp 0), type := 22, pos := "write.go:20", after := #[], guard := Option.none }) (v := v) rfl (by kernel_rfl) (by kernel_rfl) (by kernel_rfl) (fun _ _ _ h => h) (Or.inl ⟨by kernel_rfl, fun wq _ => pureVal_run (by kernel_rfl) wq⟩) hHeld ?_
  simp only [Act.put, List.setIfInBounds_toArray, List.set_cons_zero, List.set_cons_succ]
  refine wpAnyH_take (i := 1) (oi := { dst := Option.some 34, op := Go.Op.fieldAddr 29 (Go.Operand.tmp 3) 15, type := 0, pos := "write.go:20", after := #[], guard := Option.none }) (v := .pointer (some ⟨w.heap.size, 21, none⟩)) rfl (by kernel_rfl) (by kernel_rfl) (by kernel_rfl) (fun _ _ _ h => h) (Or.inl ⟨by kernel_rfl, by intro wq hSw; clear hSw hHeld; go_simp⟩) hHeld ?_
  simp only [Act.put, List.setIfInBounds_toArray, List.set_cons_zero, List.set_cons_succ]
  refine wpAnyH_take (i := 2) (oi := { dst := Option.some 35, op := Go.Op.load 3 (Go.Operand.tmp 34), type := 3, pos := "write.go:20", after := #[{ on := 1, ground := Go.Ground.data }], guard := Option.none }) (v := .int .i64 p.id) rfl (by kernel_rfl) (by kernel_rfl) (by kernel_rfl) (fun _ _ _ h => h) (Or.inl ⟨by kernel_rfl, by intro wq hSw; have hk := box_cells (Hid.out hSw) 21 _ k21.out; clear hSw hHeld; go_simp⟩) hHeld ?_
  simp only [Act.put, List.setIfInBounds_toArray, List.set_cons_zero, List.set_cons_succ]
  refine wpAnyH_take (i := 4) (oi := { dst := Option.some 37, op := Go.Op.load 29 (Go.Operand.tmp 3), type := 29, pos := "write.go:20", after := #[], guard := Option.none }) (v := .agg cs) rfl (by kernel_rfl) (by kernel_rfl) (by kernel_rfl) (fun _ _ _ h => h) (Or.inl ⟨by kernel_rfl, fun wq hSw => yields_load29 rfl (by rfl) (Hid.out hSw) hsz.out⟩) hHeld ?_
  simp only [Act.put, List.setIfInBounds_toArray, List.set_cons_zero, List.set_cons_succ]
  refine wpAnyH_ready (rs := [3]) (by kernel_rfl) (by simp) ?_
  refine AllReadyH.cons (o := { dst := Option.some 36, op := Go.Op.call { callee := Go.Callee.value (Go.Operand.func 70), args := #[Go.Operand.tmp 33, Go.Operand.tmp 35], argTypes := #[22, 3] }, type := 22, pos := "write.go:20", after := #[{ on := 0, ground := Go.Ground.data }, { on := 2, ground := Go.Ground.data }], guard := Option.none }) (by rfl) (fun K hK => ?_) AllReadyH.nil
  refine held_call (by kernel_rfl) 70 #[v, .int .i64 p.id] (by clear hHeld hK; go_simp) (R := fun x w' => Adds w0.heap.size v W.drew w' (.returned x) _ _) ((wNumber_any w0.heap.size _ v _ p.id W.drew L0.out.own HB.out (by have := HN.out; omega)).mono fun e w' ha => ⟨ha.choose, ha.choose_spec.1, ⟨ha.choose, rfl, ha.choose_spec.2⟩⟩) ?_
  intro v6 w6 r6
  have L6 : Hid (Lay w0.heap.size v W w6 v6 _ _) := L0.out.add r6
  have g6 : Hid (w6.heap[w.heap.size]? = some (.cells cs 29)) := L6.out.block g0.out HV.out
  refine hK.out _ _ g6 (fun hHeld => ?_)
  clear hK K r6
  simp only [Act.put, List.setIfInBounds_toArray, List.set_cons_zero, List.set_cons_succ]
  refine wpAnyH_ready (rs := [5]) (by kernel_rfl) (by simp) ?_
  refine AllReadyH.cons (o := { dst := Option.some 38, op := Go.Op.call { callee := Go.Callee.value (Go.Operand.func 69), args := #[Go.Operand.tmp 36, Go.Operand.tmp 37], argTypes := #[22, 29] }, type := 22, pos := "write.go:20", after := #[{ on := 3, ground := Go.Ground.data }, { on := 4, ground := Go.Ground.data }, { on := 3, ground := Go.Ground.chain }], guard := Option.none }) (by rfl) (fun K hK => ?_) AllReadyH.nil
  have B6 : Hid (Below w0.heap.size w0 w6) := BW.out.trans (L6.out.old HB.out HOB.out)
  refine held_call (by kernel_rfl) 69 #[v6, .agg cs] (by clear hHeld hK; go_simp) (R := fun x w' => Adds w0.heap.size v6 w6 w' (.returned x) _ _) ((HL.out w6 v6 _ _ L6.out.own L6.out.ne B6.out rfl).mono fun e w' ha => ⟨ha.choose, ha.choose_spec.1, ⟨ha.choose, rfl, ha.choose_spec.2⟩⟩) ?_
  intro v7 w7 r7
  have L7 : Hid (Lay w0.heap.size v W w7 v7 _ _) := L6.out.add r7
  have g7 : Hid (w7.heap[w.heap.size]? = some (.cells cs 29)) := L7.out.block g0.out HV.out
  refine hK.out _ _ g7 (fun hHeld => ?_)
  clear hK K r7
  simp only [Act.put, List.setIfInBounds_toArray, List.set_cons_zero, List.set_cons_succ]
  refine wpAnyH_take (i := 6) (oi := { dst := Option.some 4, op := Go.Op.assign (Go.Operand.tmp 38), type := 22, pos := "write.go:20", after := #[{ on := 5, ground := Go.Ground.data }, { on := 5, ground := Go.Ground.chain }, { on := 0, ground := Go.Ground.phase }, { on := 1, ground := Go.Ground.phase }, { on := 2, ground := Go.Ground.phase }, { on := 3, ground := Go.Ground.phase }, { on := 4, ground := Go.Ground.phase }, { on := 5, ground := Go.Ground.phase }], guard := Option.none }) (v := v7) rfl (by kernel_rfl) (by kernel_rfl) (by kernel_rfl) (fun _ _ _ h => h) (Or.inl ⟨by kernel_rfl, fun wq _ => pureVal_run (by kernel_rfl) wq⟩) hHeld ?_
  simp only [Act.put, List.setIfInBounds_toArray, List.set_cons_zero, List.set_cons_succ]
  refine wpAnyH_done (by kernel_rfl) ?_ _
  clear hHeld k0
  go_wp2_with fail
  go_ret
  exact Lay.done b0.out (L7.out.cast rfl (by simp only [List.append_assoc]))

end Go.Proofs.YtibihbclijpkjaaGreatDoor
namespace Go.Proofs.YtibihbclijpkjaaGreatDoor
open Go Go.RowKit
open Pkt (Pk Cn Sl In By Is Ss As pkCells Gd sumN)
set_option linter.unusedSimpArgs false
set_option linter.unusedVariables false

/-- What a packet's fields are written as. -/
def fieldsL (p : Pk) (c : Cn) : List Value :=
  if p.kind = 1 then connL p c.wz c.pz else if p.kind = 2 then [.int .u8 (mkU p.present 1), .int .u8 (p.code % 256)] else if p.kind = 3 then pubL p c.mz
  else if 12 ≤ p.kind then [] else cellsOf (numZ p.id) 2 ++ (asksL c.af c.aq p.asks.n ++ codesL c.cs p.codes.n ++ filtL c.fs p.filters.n)
open Pkt (Right TT txt topb flt ct ct_zero txt_size allN_iff)
theorem txt_ok {s : ByteArray} (h : txt s = true) : s.size ≤ 65535 ∧ (chk s).2 = 0 := by
  refine ⟨txt_size h, ?_⟩
  simp only [txt, beq_iff_eq] at h; omega
theorem ct_ok {s : ByteArray} (h : ct s = 0) : s.size ≤ 65535 ∧ (chk s).2 = 0 := by
  cases ht : txt s with
  | true => exact txt_ok ht
  | false => exfalso; unfold ct at h; simp [ht] at h; split at h <;> omega
theorem flt_ok {s : ByteArray} (h : flt s = true) : s.size ≤ 65535 ∧ (chk s).2 = 0 := by
  refine ct_ok ?_
  simp only [flt, Pkt.fcode, Pkt.rfc, beq_iff_eq] at h
  split at h <;> assumption
theorem top_ok {s : ByteArray} (h : topb s = true) : s.size ≤ 65535 ∧ (chk s).2 = 0 := by
  refine ct_ok ?_
  simp only [topb, Pkt.tcode, beq_iff_eq] at h
  split at h <;> assumption
theorem wFields_any (w0 w : World) (p : Pk) (c : Cn) (v : Value) (n : Nat) (xs : List Value) (r : Right TT p c) (hin : In w0 p c) (hsz : Pkt.sz p c ≤ 299990) (h : w.ownsRow w0.heap.size 5 1 v n xs) (hv : v ≠ .slice none 0 0) (hb0 : Below w0.heap.size w0 w) (hn : n ≤ 10) :
    Calls Tryz.prog 43 #[v, .agg (pkCells p)] w fun e w' => Adds w0.heap.size v w w' e (n + Pkt.sz p c) (xs ++ fieldsL p c) := by
  have hown : ∀ W, Below w.heap.size w W → W.ownsRow w0.heap.size 5 1 v n xs := fun W hb => own_below h hb
  have hbel : ∀ W, Below w.heap.size w W → Below w0.heap.size w0 W := fun W hb => hb0.trans (hb.mono hb0.size)
  have hQ := r.ql
  simp only [Pkt.qls, Bool.and_eq_true, Pkt.isQ, decide_eq_true_eq] at hQ
  by_cases k1 : p.kind = 1
  · have hc : ConnOk w0 p c.wz c.pz := by
      refine ⟨txt_ok r.t1, fun hw => ?_, fun _ => r.s1, fun _ => txt_ok r.t2, fun _ => r.s2, by omega, hin.wP, hin.pass⟩
      have := r.tp
      simp [Pkt.tps, hw, k1] at this
      exact top_ok this
    have e1 : Pkt.sz p c = connN p := by unfold Pkt.sz; rw [if_pos k1]; rfl
    have e2 : fieldsL p c = connL p c.wz c.pz := by unfold fieldsL; rw [if_pos k1]
    rw [e1, e2]
    exact wFields_one w0 w p v n xs k1 _ _ (fun W hb => wConnect_any w0 W p c.wz c.pz v n xs (hown W hb) hv (hbel W hb) hc hn)
  by_cases k2 : p.kind = 2
  · have e1 : Pkt.sz p c = 2 := by unfold Pkt.sz; rw [if_neg k1, if_pos k2]
    have e2 : fieldsL p c = [.int .u8 (mkU p.present 1), .int .u8 (p.code % 256)] := by unfold fieldsL; rw [if_neg k1, if_pos k2]
    rw [e1, e2]
    exact wFields_ack w0.heap.size w p v n xs k2 h hv hb0.size (by omega)
  by_cases k3 : p.kind = 3
  · have e1 : Pkt.sz p c = pubN p := by
      unfold Pkt.sz pubN Pkt.nid Pkt.hasID
      rw [if_neg k1, if_neg k2, if_pos k3]
      by_cases hq : p.mQ = 0
      · simp [k3, hq]
      · have : 0 < p.mQ := by omega
        simp [k3, hq, this]; omega
    have e2 : fieldsL p c = pubL p c.mz := by unfold fieldsL; rw [if_neg k1, if_neg k2, if_pos k3]
    have ht : topb p.mT = true := by have := r.tp; simp [Pkt.tps, k3] at this; exact this.2
    rw [e1] at hsz
    rw [e1, e2]
    exact wFields_three w0 w p v n xs k3 _ _ (fun W hb => wPub_any w0 W p c.mz v n xs (hown W hb) hv (hbel W hb) hin.mP hn (by unfold pubN at hsz; omega) (top_ok ht).1 (top_ok ht).2)
  by_cases k12 : 12 ≤ p.kind
  · have a8 := r.own.asks (by omega)
    have a9 := r.own.codes (by omega)
    have a10 := r.own.filters (by omega)
    have e1 : Pkt.sz p c = 0 := by
      unfold Pkt.sz Pkt.nid Pkt.hasID
      rw [if_neg k1, if_neg k2, if_neg k3, a8, a9, a10]
      have : ¬ p.kind ≤ 11 := by omega
      simp [k3, this, sumN]
    have e2 : fieldsL p c = [] := by unfold fieldsL; rw [if_neg k1, if_neg k2, if_neg k3, if_pos k12]
    rw [e1, e2, Nat.add_zero, List.append_nil]
    have : p.kind = 12 ∨ p.kind = 13 ∨ p.kind = 14 := by have := r.k2; omega
    rcases this with k | k | k
    · exact wFields_no12 w0.heap.size w p v n xs k h hv
    · exact wFields_no13 w0.heap.size w p v n xs k h hv
    · exact wFields_no14 w0.heap.size w p v n xs k h hv
  · have hk4 : 4 ≤ p.kind := by have := r.k1; omega
    have e1 : Pkt.sz p c = 2 + (sumN (fun i => 3 + (c.af i).size) p.asks.n + p.codes.n + sumN (fun i => 2 + (c.fs i).size) p.filters.n) := by
      unfold Pkt.sz Pkt.nid Pkt.hasID
      rw [if_neg k1, if_neg k2, if_neg k3]
      have : p.kind ≤ 11 := by omega
      simp [k3, this, hk4]; omega
    have e2 : fieldsL p c = cellsOf (numZ p.id) 2 ++ (asksL c.af c.aq p.asks.n ++ codesL c.cs p.codes.n ++ filtL c.fs p.filters.n) := by unfold fieldsL; rw [if_neg k1, if_neg k2, if_neg k3, if_neg k12]
    have hft := r.ft
    simp only [Pkt.flts, Bool.and_eq_true, allN_iff] at hft
    have lo : ListsOk w0 p c := ⟨fun i hi => flt_ok (hft.1 i hi), fun i hi => flt_ok (hft.2 i hi), hin.asks, hin.codes, hin.filters⟩
    rw [e1] at hsz
    have HC : ∀ (W : World) (u : Value) (i : Nat) (ys : List Value), W.ownsRow w0.heap.size 5 1 u i ys → u ≠ .slice none 0 0 → Below w0.heap.size w0 W → i = n + 2 → Calls Tryz.prog 69 #[u, .agg (pkCells p)] W fun e w' => Adds w0.heap.size u W w' e (i + (sumN (fun i => 3 + (c.af i).size) p.asks.n + p.codes.n + sumN (fun i => 2 + (c.fs i).size) p.filters.n)) (ys ++ (asksL c.af c.aq p.asks.n ++ codesL c.cs p.codes.n ++ filtL c.fs p.filters.n)) := by
      intro W u i ys h1 h2 h3 h4
      have := wLists_any w0 W p c u i ys h1 h2 h3 lo (by omega)
      simp only [List.append_assoc, Nat.add_assoc] at this ⊢
      exact this
    rw [e1, e2, ← Nat.add_assoc, ← List.append_assoc]
    have : p.kind = 4 ∨ p.kind = 5 ∨ p.kind = 6 ∨ p.kind = 7 ∨ p.kind = 8 ∨ p.kind = 9 ∨ p.kind = 10 ∨ p.kind = 11 := by omega
    rcases this with k | k | k | k | k | k | k | k
    · exact wFields_more4 w0 w p v n xs k h hv hb0 hn _ _ HC
    · exact wFields_more5 w0 w p v n xs k h hv hb0 hn _ _ HC
    · exact wFields_more6 w0 w p v n xs k h hv hb0 hn _ _ HC
    · exact wFields_more7 w0 w p v n xs k h hv hb0 hn _ _ HC
    · exact wFields_more8 w0 w p v n xs k h hv hb0 hn _ _ HC
    · exact wFields_more9 w0 w p v n xs k h hv hb0 hn _ _ HC
    · exact wFields_more10 w0 w p v n xs k h hv hb0 hn _ _ HC
    · exact wFields_more11 w0 w p v n xs k h hv hb0 hn _ _ HC
end Go.Proofs.YtibihbclijpkjaaGreatDoor
