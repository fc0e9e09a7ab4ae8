import Derived.Test.YtphofgnehdlafaaGreatDoorGj
namespace Go.Proofs.YtphofgnehdlafaaGreatDoor
open Go Go.RowKit
open Pkt (Pk Cn Sl In By Is Ss As pkCells Gd wpList_load_wanted box_below)
set_option linter.unusedSimpArgs false
set_option linter.unusedVariables false
set_option maxRecDepth 100000
set_option maxHeartbeats 8000000
def tx (s : ByteArray) : List Value := cellsOf (numZ s.size) 2 ++ Lib.strCells s
def dt (z : Nat → Int) (n : Nat) : List Value := cellsOf (numZ n) 2 ++ cellsOf z n
def mq : ByteArray := { data := #[77, 81, 84, 84] }
def connL (p : Pk) (zw zp : Nat → Int) : List Value :=
 tx mq ++ [.int .u8 (p.level % 256), .int .u8 (marksV p)] ++ cellsOf (numZ p.keep) 2 ++ tx p.client ++ (if p.hasWill then tx p.wT ++ dt zw p.wP.n else []) ++ (if p.hasUser then tx p.user else []) ++ (if p.hasPass then dt zp p.pass.n else [])
def connN (p : Pk) : Nat :=
 12 + p.client.size + (if p.hasWill then 4 + p.wT.size + p.wP.n else 0) + (if p.hasUser then 2 + p.user.size else 0) + (if p.hasPass then 2 + p.pass.n else 0)
structure ConnOk (w0 : World) (p : Pk) (zw zp : Nat → Int) : Prop where
 cl : p.client.size ≤ 65535 ∧ (chk p.client).2 = 0
 wt : p.hasWill = true → p.wT.size ≤ 65535 ∧ (chk p.wT).2 = 0
 wp : p.hasWill = true → p.wP.n ≤ 65535
 us : p.hasUser = true → p.user.size ≤ 65535 ∧ (chk p.user).2 = 0
 ps : p.hasPass = true → p.pass.n ≤ 65535
 q : p.wQ = 0 ∨ p.wQ = 1 ∨ p.wQ = 2
 bw : By w0 p.wP zw
 bp : By w0 p.pass zp
theorem Lay.cast {B : Nat} {v0 v : Value} {W w : World} {n m : Nat} {xs ys : List Value} (h : Lay B v0 W w v n xs) (hn : n = m) (hx : xs = ys) : Lay B v0 W w v m ys := hn ▸ hx ▸ h
theorem mq_ok : (chk mq).2 = 0 := by decide +kernel
theorem wConnect_any (w0 w : World) (p : Pk) (zw zp : Nat → Int) (v : Value) (n : Nat) (xs : List Value) (h : w.ownsRow w0.heap.size 5 1 v n xs) (hv : v ≠ .slice none 0 0) (hb0 : Below w0.heap.size w0 w) (ok : ConnOk w0 p zw zp) (hn : n ≤ 10) :
    Calls Tryz.prog 221 #[v, .agg (pkCells p)] w fun e w' => Adds w0.heap.size v w w' e (n + connN p) (xs ++ connL p zw zp) := by
  obtain ⟨i0, hi, hz0, hz1, hz2⟩ := info_parts Tryz.info5
  obtain ⟨W, hW⟩ : ∃ W, W = w.alloc (.cells (pkCells p) 29) := ⟨_, rfl⟩
  have b0 : Hid (Below w.heap.size w W) := box_below hW
  have g0 : Hid (W.heap[w.heap.size]? = some (.cells (pkCells p) 29)) := by show _ = _; rw [hW]; exact heap_alloc_new w _
  have HV : Hid (v.ownBlock ≠ some w.heap.size) := fun e => by have := (h.lt _ e).2; omega
  have HOB : Hid (∀ k, v.ownBlock = some k → w0.heap.size ≤ k) := fun k e => (h.lt k e).1
  have L0 : Hid (Lay w0.heap.size v W W v n xs) := Lay.start (own_below h b0.out) hv
  have HB : Hid (w0.heap.size ≤ W.heap.size) := Nat.le_trans hb0.size b0.out.size
  have BW : Hid (Below w0.heap.size w0 W) := hb0.trans (b0.out.mono hb0.size)
  have HN : Hid (n ≤ 10) := hn
  have OK : Hid (ConnOk w0 p zw zp) := ok
  have HM : Hid (∀ u, Calls Tryz.prog 260 #[.agg (pkCells p)] u fun e w' => e = .returned (.int .u8 (marksV p)) ∧ Below u.heap.size u w') := fun u => marksOf_any p u ok.q
  obtain ⟨cs, hcs⟩ : ∃ cs, cs = pkCells p := ⟨_, rfl⟩
  have hsz : Hid (cs.size = 25) := by show _ = _; rw [hcs]; rfl
  have k1 : Hid (cs[1]? = some (.int .i64 p.level)) := by show _ = _; rw [hcs]; rfl
  have k3 : Hid (cs[3]? = some (.int .i64 p.keep)) := by show _ = _; rw [hcs]; rfl
  have k4 : Hid (cs[4]? = some (.string p.client)) := by show _ = _; rw [hcs]; rfl
  have k5 : Hid (cs[5]? = some (.bool p.hasWill)) := by show _ = _; rw [hcs]; rfl
  have k6 : Hid (cs[6]? = some (.string p.wT)) := by show _ = _; rw [hcs]; rfl
  have k7 : Hid (cs[7]? = some (.slice p.wP.a p.wP.n p.wP.c)) := by show _ = _; rw [hcs]; rfl
  have k10 : Hid (cs[10]? = some (.bool p.hasUser)) := by show _ = _; rw [hcs]; rfl
  have k11 : Hid (cs[11]? = some (.string p.user)) := by show _ = _; rw [hcs]; rfl
  have k12 : Hid (cs[12]? = some (.bool p.hasPass)) := by show _ = _; rw [hcs]; rfl
  have k13 : Hid (cs[13]? = some (.slice p.pass.a p.pass.n p.pass.c)) := by show _ = _; rw [hcs]; rfl
  rw [← hcs] at g0 HM ⊢
  rw [← hcs] at hW
  clear hcs h hv hb0 ok hn
  go_enter Tryz.func221, Tryz.ntmps221
  go_upto_region 1 with fail
  rw [← hW]
  clear hW
  go_wp2_with fail
  go_must (go_at_call 259)
  refine (wText_any w0.heap.size _ v _ mq W L0.out.own (Nat.le_trans HB.out L0.out.size) (by have := HN.out; have := OK.out.cl.1; omega) (by decide) mq_ok).mono ?_
  rintro e w1 ⟨v1, rfl, r1⟩
  have L1 : Hid (Lay w0.heap.size v W w1 v1 _ _) := L0.out.add ⟨v1, rfl, r1⟩
  have g1 : Hid (w1.heap[w.heap.size]? = some (.cells cs 29)) := L1.out.block g0.out HV.out
  clear r1
  go_wp2_with fail
  refine wp_region_held_drew (S := fun w' => Hid (w'.heap[w.heap.size]? = some (.cells cs 29))) (by kernel_rfl) g1.out (fun hHeld => ?_)
  refine wpAnyH_take (i := 0) (oi := { dst := Option.some 7, op := Go.Op.move (Go.Operand.tmp 0), type := 22, pos := "write.go:25", after := #[], guard := Option.none }) (v := v1) rfl (by kernel_rfl) (by kernel_rfl) (by kernel_rfl) (fun _ _ _ h => h) (Or.inl ⟨by kernel_rfl, fun wq _ => pureVal_run (by kernel_rfl) wq⟩) hHeld ?_
  simp only [Act.put, List.setIfInBounds_toArray, List.set_cons_zero, List.set_cons_succ]
  refine wpAnyH_take (i := 1) (oi := { dst := Option.some 8, op := Go.Op.fieldAddr 29 (Go.Operand.tmp 3) 1, type := 0, pos := "write.go:25", after := #[], guard := Option.none }) (v := .pointer (some ⟨w.heap.size, 1, none⟩)) rfl (by kernel_rfl) (by kernel_rfl) (by kernel_rfl) (fun _ _ _ h => h) (Or.inl ⟨by kernel_rfl, by intro wq hSw; clear hSw hHeld; go_simp⟩) hHeld ?_
  simp only [Act.put, List.setIfInBounds_toArray, List.set_cons_zero, List.set_cons_succ]
  refine wpAnyH_take (i := 2) (oi := { dst := Option.some 9, op := Go.Op.load 3 (Go.Operand.tmp 8), type := 3, pos := "write.go:25", after := #[{ on := 1, ground := Go.Ground.data }], guard := Option.none }) (v := .int .i64 p.level) rfl (by kernel_rfl) (by kernel_rfl) (by kernel_rfl) (fun _ _ _ h => h) (Or.inl ⟨by kernel_rfl, by intro wq hSw; have hk := box_cells (Hid.out hSw) 1 _ k1.out; clear hSw hHeld; go_simp⟩) hHeld ?_
  simp only [Act.put, List.setIfInBounds_toArray, List.set_cons_zero, List.set_cons_succ]
  refine wpAnyH_take (i := 3) (oi := { dst := Option.some 10, op := Go.Op.convert 3 5 (Go.Operand.tmp 9), type := 5, pos := "write.go:25", after := #[{ on := 2, ground := Go.Ground.data }], guard := Option.none }) (v := .int .u8 (IntKind.u8.wrap p.level)) rfl (by kernel_rfl) (by kernel_rfl) (by kernel_rfl) (fun _ _ _ h => h) (Or.inl ⟨by kernel_rfl, by intro wq hSw; clear hSw hHeld; go_simp⟩) hHeld ?_
  simp only [Act.put, List.setIfInBounds_toArray, List.set_cons_zero, List.set_cons_succ]
  refine wpAnyH_take (i := 4) (oi := { dst := Option.some 11, op := Go.Op.load 29 (Go.Operand.tmp 3), type := 29, pos := "write.go:25", after := #[], guard := Option.none }) (v := .agg cs) rfl (by kernel_rfl) (by kernel_rfl) (by kernel_rfl) (fun _ _ _ h => h) (Or.inl ⟨by kernel_rfl, fun wq hSw => yields_load29 rfl (by rfl) (Hid.out hSw) hsz.out⟩) hHeld ?_
  simp only [Act.put, List.setIfInBounds_toArray, List.set_cons_zero, List.set_cons_succ]
  refine wpAnyH_ready (rs := [5]) (by kernel_rfl) (by simp) ?_
  refine AllReadyH.cons (o := { dst := Option.some 12, op := Go.Op.call { callee := Go.Callee.value (Go.Operand.func 260), args := #[Go.Operand.tmp 11], argTypes := #[29] }, type := 5, pos := "write.go:25", after := #[{ on := 4, ground := Go.Ground.data }], guard := Option.none }) (by rfl) (fun K hK => ?_) AllReadyH.nil
  refine held_call (by kernel_rfl) 260 #[.agg cs] (by clear hHeld hK; go_simp) (R := fun x w' => x = .int .u8 (marksV p) ∧ Below w1.heap.size w1 w') ((HM.out w1.drew).mono fun e w' ⟨h1, h2⟩ => ⟨_, h1, rfl, (Below.refl _ _).drew.trans h2⟩) ?_
  rintro _ w2 ⟨rfl, hb2⟩
  have L2 : Hid (Lay w0.heap.size v W w2 v1 _ _) := L1.out.below hb2
  have g2 : Hid (w2.heap[w.heap.size]? = some (.cells cs 29)) := L2.out.block g0.out HV.out
  refine hK.out _ _ g2 (fun hHeld => ?_)
  clear hK K hb2
  simp only [Act.put, List.setIfInBounds_toArray, List.set_cons_zero, List.set_cons_succ]
  refine wpAnyH_ready (rs := [6]) (by kernel_rfl) (by simp) ?_
  refine AllReadyH.cons (o := { dst := Option.some 13, op := Go.Op.buildSlice 22 2 #[(0, Go.Operand.tmp 10), (1, Go.Operand.tmp 12)], type := 22, pos := "write.go:25", after := #[{ on := 3, ground := Go.Ground.data }, { on := 5, ground := Go.Ground.data }], guard := Option.none }) (by rfl) (fun K hK => ?_) AllReadyH.nil
  go_simp
  have L2b : Hid (Lay w0.heap.size v W (w2.alloc (.cells #[.int .u8 (p.level % 256), .int .u8 (marksV p)] 5)) v1 _ _) := L2.out.below ((Below.refl _ _).alloc (Nat.le_refl _) _)
  have gA : Hid ((w2.alloc (.cells #[.int .u8 (p.level % 256), .int .u8 (marksV p)] 5)).heap[w.heap.size]? = some (.cells cs 29)) := L2b.out.block g0.out HV.out
  refine hK.out _ _ gA (fun hHeld => ?_)
  clear hK K
  refine wpAnyH_ready (rs := [7]) (by kernel_rfl) (by simp) ?_
  refine AllReadyH.cons (o := { dst := Option.some 14, op := Go.Op.call { callee := Go.Callee.builtin Go.Builtin.append, args := #[Go.Operand.tmp 7, Go.Operand.tmp 13], argTypes := #[22, 22] }, type := 22, pos := "write.go:25", after := #[{ on := 0, ground := Go.Ground.data }, { on := 6, ground := Go.Ground.data }, { on := 5, ground := Go.Ground.chain }], guard := Option.none }) (by rfl) (fun K hK => ?_) AllReadyH.nil
  refine step_push rfl (.tmp 7) (.tmp 13) 22 rfl w0.heap.size 5 i0 (.int .u8 0) 1 1 Tryz.underlying22 hi hz0 hz1 hz2 rfl (by decide) v1 _ _ rfl L2b.out.own ⟨w2.heap.size, 0, none⟩ 2 2 [.int .u8 (p.level % 256), .int .u8 (marksV p)] rfl (by decide) rfl ?_ ?_ ?_ ?_ ?_ ?_
  · intro j u hu
    rw [plain_add, Nat.zero_add]
    show (w2.alloc (.cells #[.int .u8 (p.level % 256), .int .u8 (marksV p)] 5)).cell? _ = _
    rw [World.cell?_alloc_at _ _ _ _ rfl]
    simpa using hu
  · intro u hu; simp at hu; rcases hu with rfl | rfl <;> rfl
  · have := HN.out; have e : mq.size = 4 := rfl; unfold maxLen; omega
  · have := HN.out; have e : mq.size = 4 := rfl; omega
  · have := (Nat.le_trans HB.out L2.out.size); simp; omega
  intro v3 w3 o3 gb3 n3 wh3
  have L3 : Hid (Lay w0.heap.size v W w3 v3 (n + (2 + mq.size) + 2) (xs ++ (cellsOf (numZ mq.size) 2 ++ Lib.strCells mq) ++ [.int .u8 (p.level % 256), .int .u8 (marksV p)])) := L2b.out.add ⟨v3, rfl, o3, n3, gb3, fun k e => by
    rcases wh3 with h | h
    · exact .inl (h ▸ e)
    · rw [h] at e; cases e; exact .inr (Nat.le_refl _)⟩
  have g3 : Hid (w3.heap[w.heap.size]? = some (.cells cs 29)) := L3.out.block g0.out HV.out
  refine hK.out _ _ g3 (fun hHeld => ?_)
  clear hK K o3 gb3 n3 wh3 L2 L2b gA g2
  simp only [Act.put, List.setIfInBounds_toArray, List.set_cons_zero, List.set_cons_succ]
  refine wpAnyH_take (i := 8) (oi := { dst := Option.some 0, op := Go.Op.assign (Go.Operand.tmp 14), type := 22, pos := "write.go:25", after := #[{ on := 7, ground := Go.Ground.data }, { on := 7, ground := Go.Ground.chain }, { on := 0, ground := Go.Ground.phase }, { on := 1, ground := Go.Ground.phase }, { on := 2, ground := Go.Ground.phase }, { on := 3, ground := Go.Ground.phase }, { on := 4, ground := Go.Ground.phase }, { on := 5, ground := Go.Ground.phase }, { on := 6, ground := Go.Ground.phase }, { on := 7, ground := Go.Ground.phase }], guard := Option.none }) (v := v3) rfl (by kernel_rfl) (by kernel_rfl) (by kernel_rfl) (fun _ _ _ h => h) (Or.inl ⟨by kernel_rfl, fun wq _ => pureVal_run (by kernel_rfl) wq⟩) hHeld ?_
  simp only [Act.put, List.setIfInBounds_toArray, List.set_cons_zero, List.set_cons_succ]
  refine wpAnyH_done (by kernel_rfl) ?_ _
  have c3 := box_cells g3.out 3 _ k3.out
  clear hHeld
  go_wp2_with fail
  go_must (go_at_call 225)
  refine (wNumber_any w0.heap.size _ v3 _ p.keep w3 L3.out.own (Nat.le_trans HB.out L3.out.size) (by have := HN.out; have e : mq.size = 4 := rfl; omega)).mono ?_
  rintro e w4 ⟨v4, rfl, r4⟩
  have L4 : Hid (Lay w0.heap.size v W w4 v4 _ _) := L3.out.add ⟨v4, rfl, r4⟩
  have g4 : Hid (w4.heap[w.heap.size]? = some (.cells cs 29)) := L4.out.block g0.out HV.out
  clear r4 c3
  have c4 := box_cells g4.out 4 _ k4.out
  go_wp2_with fail
  go_must (go_at_call 259)
  refine (wText_any w0.heap.size _ v4 _ p.client w4 L4.out.own (Nat.le_trans HB.out L4.out.size) (by have := HN.out; have := OK.out.cl.1; have e : mq.size = 4 := rfl; omega) OK.out.cl.1 OK.out.cl.2).mono ?_
  rintro e w5 ⟨v5, rfl, r5⟩
  have L5 : Hid (Lay w0.heap.size v W w5 v5 _ _) := L4.out.add ⟨v5, rfl, r5⟩
  have g5 : Hid (w5.heap[w.heap.size]? = some (.cells cs 29)) := L5.out.block g0.out HV.out
  clear r5
  clear c4
  rcases Bool.eq_false_or_eq_true p.hasWill with hw | hw
  · have c5 := box_cells g5.out 5 _ k5.out
    rw [hw] at c5
    go_upto_region 6 with fail
    refine wp_region_held_drew (S := fun w' => Hid (w'.heap[w.heap.size]? = some (.cells cs 29))) (by kernel_rfl) g5.out (fun hHeld => ?_)
    refine wpAnyH_take (i := 0) (oi := { dst := Option.some 25, op := Go.Op.move (Go.Operand.tmp 0), type := 22, pos := "write.go:29", after := #[], guard := Option.none }) (v := v5) rfl (by kernel_rfl) (by kernel_rfl) (by kernel_rfl) (fun _ _ _ h => h) (Or.inl ⟨by kernel_rfl, fun wq _ => pureVal_run (by kernel_rfl) wq⟩) hHeld ?_
    simp only [Act.put, List.setIfInBounds_toArray, List.set_cons_zero, List.set_cons_succ]
    refine wpAnyH_take (i := 1) (oi := { dst := Option.some 26, op := Go.Op.fieldAddr 29 (Go.Operand.tmp 3) 6, type := 0, pos := "write.go:29", after := #[], guard := Option.none }) (v := .pointer (some ⟨w.heap.size, 6, none⟩)) rfl (by kernel_rfl) (by kernel_rfl) (by kernel_rfl) (fun _ _ _ h => h) (Or.inl ⟨by kernel_rfl, by intro wq hSw; clear hSw hHeld; go_simp⟩) hHeld ?_
    simp only [Act.put, List.setIfInBounds_toArray, List.set_cons_zero, List.set_cons_succ]
    refine wpAnyH_take (i := 2) (oi := { dst := Option.some 27, op := Go.Op.fieldAddr 24 (Go.Operand.tmp 26) 0, type := 0, pos := "write.go:29", after := #[{ on := 1, ground := Go.Ground.data }], guard := Option.none }) (v := .pointer (some ⟨w.heap.size, 6, none⟩)) rfl (by kernel_rfl) (by kernel_rfl) (by kernel_rfl) (fun _ _ _ h => h) (Or.inl ⟨by kernel_rfl, by intro wq hSw; clear hSw hHeld; go_simp⟩) hHeld ?_
    simp only [Act.put, List.setIfInBounds_toArray, List.set_cons_zero, List.set_cons_succ]
    refine wpAnyH_take (i := 3) (oi := { dst := Option.some 28, op := Go.Op.load 9 (Go.Operand.tmp 27), type := 9, pos := "write.go:29", after := #[{ on := 2, ground := Go.Ground.data }], guard := Option.none }) (v := .string p.wT) rfl (by kernel_rfl) (by kernel_rfl) (by kernel_rfl) (fun _ _ _ h => h) (Or.inl ⟨by kernel_rfl, by intro wq hSw; have hk := box_cells (Hid.out hSw) 6 _ k6.out; clear hSw hHeld; go_simp⟩) hHeld ?_
    simp only [Act.put, List.setIfInBounds_toArray, List.set_cons_zero, List.set_cons_succ]
    refine wpAnyH_take (i := 5) (oi := { dst := Option.some 30, op := Go.Op.fieldAddr 29 (Go.Operand.tmp 3) 6, type := 0, pos := "write.go:29", after := #[], guard := Option.none }) (v := .pointer (some ⟨w.heap.size, 6, none⟩)) rfl (by kernel_rfl) (by kernel_rfl) (by kernel_rfl) (fun _ _ _ h => h) (Or.inl ⟨by kernel_rfl, by intro wq hSw; clear hSw hHeld; go_simp⟩) hHeld ?_
    simp only [Act.put, List.setIfInBounds_toArray, List.set_cons_zero, List.set_cons_succ]
    refine wpAnyH_take (i := 6) (oi := { dst := Option.some 31, op := Go.Op.fieldAddr 24 (Go.Operand.tmp 30) 1, type := 0, pos := "write.go:29", after := #[{ on := 5, ground := Go.Ground.data }], guard := Option.none }) (v := .pointer (some ⟨w.heap.size, 7, none⟩)) rfl (by kernel_rfl) (by kernel_rfl) (by kernel_rfl) (fun _ _ _ h => h) (Or.inl ⟨by kernel_rfl, by intro wq hSw; clear hSw hHeld; go_simp⟩) hHeld ?_
    simp only [Act.put, List.setIfInBounds_toArray, List.set_cons_zero, List.set_cons_succ]
    refine wpAnyH_take (i := 7) (oi := { dst := Option.some 32, op := Go.Op.load 22 (Go.Operand.tmp 31), type := 22, pos := "write.go:29", after := #[{ on := 6, ground := Go.Ground.data }], guard := Option.none }) (v := .slice p.wP.a p.wP.n p.wP.c) rfl (by kernel_rfl) (by kernel_rfl) (by kernel_rfl) (fun _ _ _ h => h) (Or.inl ⟨by kernel_rfl, by intro wq hSw; have hk := box_cells (Hid.out hSw) 7 _ k7.out; clear hSw hHeld; go_simp⟩) hHeld ?_
    simp only [Act.put, List.setIfInBounds_toArray, List.set_cons_zero, List.set_cons_succ]
    refine wpAnyH_ready (rs := [4]) (by kernel_rfl) (by simp) ?_
    refine AllReadyH.cons (o := { dst := Option.some 29, op := Go.Op.call { callee := Go.Callee.value (Go.Operand.func 259), args := #[Go.Operand.tmp 25, Go.Operand.tmp 28], argTypes := #[22, 9] }, type := 22, pos := "write.go:29", after := #[{ on := 0, ground := Go.Ground.data }, { on := 3, ground := Go.Ground.data }], guard := Option.none }) (by rfl) (fun K hK => ?_) AllReadyH.nil
    have L5d : Hid (Lay w0.heap.size v W w5.drew v5 _ _) := L5.out.below (Below.refl _ _).drew
    refine held_call (by kernel_rfl) 259 #[v5, .string p.wT] (by clear hHeld hK; go_simp) (R := fun x w' => Adds w0.heap.size v5 w5.drew w' (.returned x) _ _) ((wText_any w0.heap.size _ v5 _ p.wT w5.drew L5d.out.own (Nat.le_trans HB.out L5.out.size) (by have := HN.out; have := OK.out.cl.1; have e : mq.size = 4 := rfl; omega) (OK.out.wt hw).1 (OK.out.wt hw).2).mono fun e w' ha => ⟨ha.choose, ha.choose_spec.1, ⟨ha.choose, rfl, ha.choose_spec.2⟩⟩) ?_
    intro v6 w6 r6
    have L6 : Hid (Lay w0.heap.size v W w6 v6 _ _) := L5d.out.add r6
    have g6 : Hid (w6.heap[w.heap.size]? = some (.cells cs 29)) := L6.out.block g0.out HV.out
    refine hK.out _ _ g6 (fun hHeld => ?_)
    clear hK K r6
    simp only [Act.put, List.setIfInBounds_toArray, List.set_cons_zero, List.set_cons_succ]
    refine wpAnyH_ready (rs := [8]) (by kernel_rfl) (by simp) ?_
    refine AllReadyH.cons (o := { dst := Option.some 33, op := Go.Op.call { callee := Go.Callee.value (Go.Operand.func 261), args := #[Go.Operand.tmp 29, Go.Operand.tmp 32], argTypes := #[22, 22] }, type := 22, pos := "write.go:29", after := #[{ on := 4, ground := Go.Ground.data }, { on := 7, ground := Go.Ground.data }, { on := 4, ground := Go.Ground.chain }], guard := Option.none }) (by rfl) (fun K hK => ?_) AllReadyH.nil
    have B6 : Hid (Below w0.heap.size w0 w6) := BW.out.trans (L6.out.old HB.out HOB.out)
    refine held_call (by kernel_rfl) 261 #[v6, .slice p.wP.a p.wP.n p.wP.c] (by clear hHeld hK; go_simp) (R := fun x w' => Adds w0.heap.size v6 w6 w' (.returned x) _ _) ((wData_any w0.heap.size _ v6 _ p.wP zw w6 L6.out.own L6.out.ne (Nat.le_trans HB.out L6.out.size) (by have := HN.out; have := OK.out.cl.1; have := (OK.out.wt hw).1; have e : mq.size = 4 := rfl; omega) (OK.out.bw.below B6.out) (OK.out.wp hw)).mono fun e w' ha => ⟨ha.choose, ha.choose_spec.1, ⟨ha.choose, rfl, ha.choose_spec.2⟩⟩) ?_
    intro v7 w7 r7
    have L7 : Hid (Lay w0.heap.size v W w7 v7 _ _) := L6.out.add r7
    have g7 : Hid (w7.heap[w.heap.size]? = some (.cells cs 29)) := L7.out.block g0.out HV.out
    refine hK.out _ _ g7 (fun hHeld => ?_)
    clear hK K r7
    simp only [Act.put, List.setIfInBounds_toArray, List.set_cons_zero, List.set_cons_succ]
    refine wpAnyH_take (i := 9) (oi := { dst := Option.some 0, op := Go.Op.assign (Go.Operand.tmp 33), type := 22, pos := "write.go:29", after := #[{ on := 8, ground := Go.Ground.data }, { on := 8, ground := Go.Ground.chain }, { on := 0, ground := Go.Ground.phase }, { on := 1, ground := Go.Ground.phase }, { on := 2, ground := Go.Ground.phase }, { on := 3, ground := Go.Ground.phase }, { on := 4, ground := Go.Ground.phase }, { on := 5, ground := Go.Ground.phase }, { on := 6, ground := Go.Ground.phase }, { on := 7, ground := Go.Ground.phase }, { on := 8, ground := Go.Ground.phase }], guard := Option.none }) (v := v7) rfl (by kernel_rfl) (by kernel_rfl) (by kernel_rfl) (fun _ _ _ h => h) (Or.inl ⟨by kernel_rfl, fun wq _ => pureVal_run (by kernel_rfl) wq⟩) hHeld ?_
    simp only [Act.put, List.setIfInBounds_toArray, List.set_cons_zero, List.set_cons_succ]
    refine wpAnyH_done (by kernel_rfl) ?_ _
    clear hHeld c5
    rcases Bool.eq_false_or_eq_true p.hasUser with hu | hu
    · have c10 := box_cells g7.out 10 _ k10.out
      rw [hu] at c10
      have c11 := box_cells g7.out 11 _ k11.out
      go_wp2_with fail
      go_must (go_at_call 259)
      refine (wText_any w0.heap.size _ v7 _ p.user w7 L7.out.own (Nat.le_trans HB.out L7.out.size) (by have := HN.out; have := OK.out.cl.1; have := HN.out; have := HN.out; have := OK.out.cl.1; have e : mq.size = 4 := rfl; have := (OK.out.wt hw).1; have := OK.out.wp hw; omega) (OK.out.us hu).1 (OK.out.us hu).2).mono ?_
      rintro e w8 ⟨v8, rfl, r8⟩
      have L8 : Hid (Lay w0.heap.size v W w8 v8 _ _) := L7.out.add ⟨v8, rfl, r8⟩
      have g8 : Hid (w8.heap[w.heap.size]? = some (.cells cs 29)) := L8.out.block g0.out HV.out
      clear r8
      clear c10 c11
      rcases Bool.eq_false_or_eq_true p.hasPass with hp | hp
      · have c12 := box_cells g8.out 12 _ k12.out
        rw [hp] at c12
        have c13 := box_cells g8.out 13 _ k13.out
        go_wp2_with fail
        go_must (go_at_call 261)
        have B9 : Hid (Below w0.heap.size w0 w8) := BW.out.trans (L8.out.old HB.out HOB.out)
        refine (wData_any w0.heap.size _ v8 _ p.pass zp w8 L8.out.own L8.out.ne (Nat.le_trans HB.out L8.out.size) (by have := HN.out; have := OK.out.cl.1; have e : mq.size = 4 := rfl; have := (OK.out.wt hw).1; have := OK.out.wp hw; have := (OK.out.us hu).1; omega) (OK.out.bp.below B9.out) (OK.out.ps hp)).mono ?_
        rintro e w9 ⟨v9, rfl, r9⟩
        have L9 : Hid (Lay w0.heap.size v W w9 v9 _ _) := L8.out.add ⟨v9, rfl, r9⟩
        clear r9 c12 c13
        go_wp2_with fail
        go_ret
        exact Lay.done b0.out (L9.out.cast (by have e : mq.size = 4 := rfl; simp only [connN, hw, hu, hp, if_true, Bool.false_eq_true, if_false]; omega) (by simp only [connL, tx, dt, hw, hu, hp, if_true, Bool.false_eq_true, if_false, List.append_assoc, List.append_nil]))
      · have c12 := box_cells g8.out 12 _ k12.out
        rw [hp] at c12
        have c13 := box_cells g8.out 13 _ k13.out
        go_wp2_with fail
        go_ret
        exact Lay.done b0.out (L8.out.cast (by have e : mq.size = 4 := rfl; simp only [connN, hw, hu, hp, if_true, Bool.false_eq_true, if_false]; omega) (by simp only [connL, tx, dt, hw, hu, hp, if_true, Bool.false_eq_true, if_false, List.append_assoc, List.append_nil]))
    · have c10 := box_cells g7.out 10 _ k10.out
      rw [hu] at c10
      have c11 := box_cells g7.out 11 _ k11.out
      rcases Bool.eq_false_or_eq_true p.hasPass with hp | hp
      · have c12 := box_cells g7.out 12 _ k12.out
        rw [hp] at c12
        have c13 := box_cells g7.out 13 _ k13.out
        go_wp2_with fail
        go_must (go_at_call 261)
        have B9 : Hid (Below w0.heap.size w0 w7) := BW.out.trans (L7.out.old HB.out HOB.out)
        refine (wData_any w0.heap.size _ v7 _ p.pass zp w7 L7.out.own L7.out.ne (Nat.le_trans HB.out L7.out.size) (by have := HN.out; have := OK.out.cl.1; have e : mq.size = 4 := rfl; have := (OK.out.wt hw).1; have := OK.out.wp hw; omega) (OK.out.bp.below B9.out) (OK.out.ps hp)).mono ?_
        rintro e w9 ⟨v9, rfl, r9⟩
        have L9 : Hid (Lay w0.heap.size v W w9 v9 _ _) := L7.out.add ⟨v9, rfl, r9⟩
        clear r9 c12 c13
        go_wp2_with fail
        go_ret
        exact Lay.done b0.out (L9.out.cast (by have e : mq.size = 4 := rfl; simp only [connN, hw, hu, hp, if_true, Bool.false_eq_true, if_false]; omega) (by simp only [connL, tx, dt, hw, hu, hp, if_true, Bool.false_eq_true, if_false, List.append_assoc, List.append_nil]))
      · have c12 := box_cells g7.out 12 _ k12.out
        rw [hp] at c12
        have c13 := box_cells g7.out 13 _ k13.out
        go_wp2_with fail
        go_ret
        exact Lay.done b0.out (L7.out.cast (by have e : mq.size = 4 := rfl; simp only [connN, hw, hu, hp, if_true, Bool.false_eq_true, if_false]; omega) (by simp only [connL, tx, dt, hw, hu, hp, if_true, Bool.false_eq_true, if_false, List.append_assoc, List.append_nil]))
  · rcases Bool.eq_false_or_eq_true p.hasUser with hu | hu
    · have c10 := box_cells g5.out 10 _ k10.out
      rw [hu] at c10
      have c11 := box_cells g5.out 11 _ k11.out
      have c5 := box_cells g5.out 5 _ k5.out
      rw [hw] at c5
      go_wp2_with fail
      go_must (go_at_call 259)
      refine (wText_any w0.heap.size _ v5 _ p.user w5 L5.out.own (Nat.le_trans HB.out L5.out.size) (by have := HN.out; have := OK.out.cl.1; have := HN.out; have := HN.out; have := OK.out.cl.1; have e : mq.size = 4 := rfl; omega) (OK.out.us hu).1 (OK.out.us hu).2).mono ?_
      rintro e w8 ⟨v8, rfl, r8⟩
      have L8 : Hid (Lay w0.heap.size v W w8 v8 _ _) := L5.out.add ⟨v8, rfl, r8⟩
      have g8 : Hid (w8.heap[w.heap.size]? = some (.cells cs 29)) := L8.out.block g0.out HV.out
      clear r8
      clear c10 c11 c5
      rcases Bool.eq_false_or_eq_true p.hasPass with hp | hp
      · have c12 := box_cells g8.out 12 _ k12.out
        rw [hp] at c12
        have c13 := box_cells g8.out 13 _ k13.out
        go_wp2_with fail
        go_must (go_at_call 261)
        have B9 : Hid (Below w0.heap.size w0 w8) := BW.out.trans (L8.out.old HB.out HOB.out)
        refine (wData_any w0.heap.size _ v8 _ p.pass zp w8 L8.out.own L8.out.ne (Nat.le_trans HB.out L8.out.size) (by have := HN.out; have := OK.out.cl.1; have e : mq.size = 4 := rfl; have := (OK.out.us hu).1; omega) (OK.out.bp.below B9.out) (OK.out.ps hp)).mono ?_
        rintro e w9 ⟨v9, rfl, r9⟩
        have L9 : Hid (Lay w0.heap.size v W w9 v9 _ _) := L8.out.add ⟨v9, rfl, r9⟩
        clear r9 c12 c13
        go_wp2_with fail
        go_ret
        exact Lay.done b0.out (L9.out.cast (by have e : mq.size = 4 := rfl; simp only [connN, hw, hu, hp, if_true, Bool.false_eq_true, if_false]; omega) (by simp only [connL, tx, dt, hw, hu, hp, if_true, Bool.false_eq_true, if_false, List.append_assoc, List.append_nil]))
      · have c12 := box_cells g8.out 12 _ k12.out
        rw [hp] at c12
        have c13 := box_cells g8.out 13 _ k13.out
        go_wp2_with fail
        go_ret
        exact Lay.done b0.out (L8.out.cast (by have e : mq.size = 4 := rfl; simp only [connN, hw, hu, hp, if_true, Bool.false_eq_true, if_false]; omega) (by simp only [connL, tx, dt, hw, hu, hp, if_true, Bool.false_eq_true, if_false, List.append_assoc, List.append_nil]))
    · have c10 := box_cells g5.out 10 _ k10.out
      rw [hu] at c10
      have c11 := box_cells g5.out 11 _ k11.out
      have c5 := box_cells g5.out 5 _ k5.out
      rw [hw] at c5
      rcases Bool.eq_false_or_eq_true p.hasPass with hp | hp
      · have c12 := box_cells g5.out 12 _ k12.out
        rw [hp] at c12
        have c13 := box_cells g5.out 13 _ k13.out
        go_wp2_with fail
        go_must (go_at_call 261)
        have B9 : Hid (Below w0.heap.size w0 w5) := BW.out.trans (L5.out.old HB.out HOB.out)
        refine (wData_any w0.heap.size _ v5 _ p.pass zp w5 L5.out.own L5.out.ne (Nat.le_trans HB.out L5.out.size) (by have := HN.out; have := OK.out.cl.1; have e : mq.size = 4 := rfl; omega) (OK.out.bp.below B9.out) (OK.out.ps hp)).mono ?_
        rintro e w9 ⟨v9, rfl, r9⟩
        have L9 : Hid (Lay w0.heap.size v W w9 v9 _ _) := L5.out.add ⟨v9, rfl, r9⟩
        clear r9 c12 c13
        go_wp2_with fail
        go_ret
        exact Lay.done b0.out (L9.out.cast (by have e : mq.size = 4 := rfl; simp only [connN, hw, hu, hp, if_true, Bool.false_eq_true, if_false]; omega) (by simp only [connL, tx, dt, hw, hu, hp, if_true, Bool.false_eq_true, if_false, List.append_assoc, List.append_nil]))
      · have c12 := box_cells g5.out 12 _ k12.out
        rw [hp] at c12
        have c13 := box_cells g5.out 13 _ k13.out
        go_wp2_with fail
        go_ret
        exact Lay.done b0.out (L5.out.cast (by have e : mq.size = 4 := rfl; simp only [connN, hw, hu, hp, if_true, Bool.false_eq_true, if_false]; omega) (by simp only [connL, tx, dt, hw, hu, hp, if_true, Bool.false_eq_true, if_false, List.append_assoc, List.append_nil]))
set_option maxHeartbeats 4000000
theorem wFields_ack (B : Nat) (w : World) (p : Pk) (v : Value) (n : Nat) (xs : List Value) (hk : p.kind = 2) (h : w.ownsRow B 5 1 v n xs) (hv : v ≠ .slice none 0 0) (hB : B ≤ w.heap.size) (hn : n ≤ 100000) :
    Calls Tryz.prog 146 #[v, .agg (pkCells p)] w fun e w' => Adds B v w w' e (n + 2) (xs ++ [.int .u8 (mkU p.present 1), .int .u8 (p.code % 256)]) := by
  obtain ⟨i0, hi, hz0, hz1, hz2⟩ := info_parts Tryz.info5
  obtain ⟨W, hW⟩ : ∃ W, W = w.alloc (.cells (pkCells p) 29) := ⟨_, rfl⟩
  have b0 : Hid (Below w.heap.size w W) := box_below hW
  have g0 : Hid (W.heap[w.heap.size]? = some (.cells (pkCells p) 29)) := by show _ = _; rw [hW]; exact heap_alloc_new w _
  have k0 : W.cell? ⟨w.heap.size, 0, none⟩ = some (.int .i64 2) := box_cells g0.out 0 _ (by rw [← hk]; rfl)
  have HV : Hid (v.ownBlock ≠ some w.heap.size) := fun e => by have := (h.lt _ e).2; omega
  have HO : Hid (W.ownsRow B 5 1 v n xs) := own_below h b0.out
  have HVN : Hid (v ≠ .slice none 0 0) := hv
  have HN : Hid (n ≤ 100000 ∧ B ≤ W.heap.size) := ⟨hn, Nat.le_trans hB b0.out.size⟩
  obtain ⟨cs, hcs⟩ : ∃ cs, cs = pkCells p := ⟨_, rfl⟩
  have k14 : Hid (cs[14]? = some (.bool p.present)) := by show _ = _; rw [hcs]; rfl
  have k15 : Hid (cs[15]? = some (.int .i64 p.code)) := by show _ = _; rw [hcs]; rfl
  rw [← hcs] at g0 ⊢
  rw [← hcs] at hW
  clear hcs h hv hB hn hk
  go_enter Tryz.func146, Tryz.ntmps146
  go_upto_region 1 with fail
  rw [← hW]
  clear hW
  go_wp2_with fail
  refine wp_region_held_drew (S := fun w' => Hid (w'.heap[w.heap.size]? = some (.cells cs 29))) (by kernel_rfl) g0.out (fun hHeld => ?_)
  refine wpAnyH_take (i := 0) (oi := { dst := Option.some 14, op := Go.Op.move (Go.Operand.tmp 0), type := 22, pos := "write.go:14", after := #[], guard := Option.none }) (v := v) rfl (by kernel_rfl) (by kernel_rfl) (by kernel_rfl) (fun _ _ _ h => h) (Or.inl ⟨by kernel_rfl, fun wq _ => pureVal_run (by kernel_rfl) wq⟩) hHeld ?_
  simp only [Act.put, List.setIfInBounds_toArray, List.set_cons_zero, List.set_cons_succ]
  refine wpAnyH_take (i := 1) (oi := { dst := Option.some 15, op := Go.Op.fieldAddr 29 (Go.Operand.tmp 3) 11, type := 0, pos := "write.go:14", after := #[], guard := Option.none }) (v := .pointer (some ⟨w.heap.size, 14, none⟩)) rfl (by kernel_rfl) (by kernel_rfl) (by kernel_rfl) (fun _ _ _ h => h) (Or.inl ⟨by kernel_rfl, by intro wq hSw; clear hSw hHeld; go_simp⟩) hHeld ?_
  simp only [Act.put, List.setIfInBounds_toArray, List.set_cons_zero, List.set_cons_succ]
  refine wpAnyH_take (i := 2) (oi := { dst := Option.some 16, op := Go.Op.load 4 (Go.Operand.tmp 15), type := 4, pos := "write.go:14", after := #[{ on := 1, ground := Go.Ground.data }], guard := Option.none }) (v := .bool p.present) rfl (by kernel_rfl) (by kernel_rfl) (by kernel_rfl) (fun _ _ _ h => h) (Or.inl ⟨by kernel_rfl, by intro wq hSw; have hk := box_cells (Hid.out hSw) 14 _ k14.out; clear hSw hHeld; go_simp⟩) hHeld ?_
  simp only [Act.put, List.setIfInBounds_toArray, List.set_cons_zero, List.set_cons_succ]
  refine wpAnyH_take (i := 4) (oi := { dst := Option.some 18, op := Go.Op.fieldAddr 29 (Go.Operand.tmp 3) 12, type := 0, pos := "write.go:14", after := #[], guard := Option.none }) (v := .pointer (some ⟨w.heap.size, 15, none⟩)) rfl (by kernel_rfl) (by kernel_rfl) (by kernel_rfl) (fun _ _ _ h => h) (Or.inl ⟨by kernel_rfl, by intro wq hSw; clear hSw hHeld; go_simp⟩) hHeld ?_
  simp only [Act.put, List.setIfInBounds_toArray, List.set_cons_zero, List.set_cons_succ]
  refine wpAnyH_take (i := 5) (oi := { dst := Option.some 19, op := Go.Op.load 3 (Go.Operand.tmp 18), type := 3, pos := "write.go:14", after := #[{ on := 4, ground := Go.Ground.data }], guard := Option.none }) (v := .int .i64 p.code) rfl (by kernel_rfl) (by kernel_rfl) (by kernel_rfl) (fun _ _ _ h => h) (Or.inl ⟨by kernel_rfl, by intro wq hSw; have hk := box_cells (Hid.out hSw) 15 _ k15.out; clear hSw hHeld; go_simp⟩) hHeld ?_
  simp only [Act.put, List.setIfInBounds_toArray, List.set_cons_zero, List.set_cons_succ]
  refine wpAnyH_take (i := 6) (oi := { dst := Option.some 20, op := Go.Op.convert 3 5 (Go.Operand.tmp 19), type := 5, pos := "write.go:14", after := #[{ on := 5, ground := Go.Ground.data }], guard := Option.none }) (v := .int .u8 (IntKind.u8.wrap p.code)) rfl (by kernel_rfl) (by kernel_rfl) (by kernel_rfl) (fun _ _ _ h => h) (Or.inl ⟨by kernel_rfl, by intro wq hSw; clear hSw hHeld; go_simp⟩) hHeld ?_
  simp only [Act.put, List.setIfInBounds_toArray, List.set_cons_zero, List.set_cons_succ]
  refine wpAnyH_ready (rs := [3]) (by kernel_rfl) (by simp) ?_
  refine AllReadyH.cons (o := { dst := Option.some 17, op := Go.Op.call { callee := Go.Callee.value (Go.Operand.func 222), args := #[Go.Operand.tmp 16, Go.Operand.const (Go.Value.int Go.IntKind.u8 1)], argTypes := #[4, 5] }, type := 5, pos := "write.go:14", after := #[{ on := 2, ground := Go.Ground.data }], guard := Option.none }) (by rfl) (fun K hK => ?_) AllReadyH.nil
  refine held_call (by kernel_rfl) 222 #[.bool p.present, .int .u8 1] (by clear hHeld hK; go_simp) (R := fun x w' => x = .int .u8 (mkU p.present 1) ∧ w' = W.drew) ((mark_any p.present 1 W.drew).mono fun e w' ⟨h1, h2⟩ => ⟨_, h1, rfl, h2⟩) ?_
  rintro _ _ ⟨rfl, rfl⟩
  refine hK.out _ _ hHeld (fun hHeld => ?_)
  clear hK K
  simp only [Act.put, List.setIfInBounds_toArray, List.set_cons_zero, List.set_cons_succ]
  refine wpAnyH_ready (rs := [7]) (by kernel_rfl) (by simp) ?_
  refine AllReadyH.cons (o := { dst := Option.some 21, op := Go.Op.buildSlice 22 2 #[(0, Go.Operand.tmp 17), (1, Go.Operand.tmp 20)], type := 22, pos := "write.go:14", after := #[{ on := 3, ground := Go.Ground.data }, { on := 6, ground := Go.Ground.data }], guard := Option.none }) (by rfl) (fun K hK => ?_) AllReadyH.nil
  go_simp
  have gA : Hid ((W.alloc (.cells #[.int .u8 (mkU p.present 1), .int .u8 (p.code % 256)] 5)).drew.heap[w.heap.size]? = some (.cells cs 29)) := (((Below.refl _ _).alloc (Nat.le_refl _) _).drew.block _ (heap_in g0.out)).trans g0.out
  refine hK.out _ _ gA.out (fun hHeld => ?_)
  clear hK K
  refine wpAnyH_ready (rs := [8]) (by kernel_rfl) (by simp) ?_
  refine AllReadyH.cons (o := { dst := Option.some 22, op := Go.Op.call { callee := Go.Callee.builtin Go.Builtin.append, args := #[Go.Operand.tmp 14, Go.Operand.tmp 21], argTypes := #[22, 22] }, type := 22, pos := "write.go:14", after := #[{ on := 0, ground := Go.Ground.data }, { on := 7, ground := Go.Ground.data }, { on := 3, ground := Go.Ground.chain }], guard := Option.none }) (by rfl) (fun K hK => ?_) AllReadyH.nil
  have HO2 : Hid ((W.alloc (.cells #[.int .u8 (mkU p.present 1), .int .u8 (p.code % 256)] 5)).drew.ownsRow B 5 1 v n xs) := own_below HO.out ((Below.refl _ _).alloc (Nat.le_refl _) _).drew
  refine step_push rfl (.tmp 14) (.tmp 21) 22 rfl B 5 i0 (.int .u8 0) 1 1 Tryz.underlying22 hi hz0 hz1 hz2 rfl (by decide) v n xs rfl HO2.out ⟨W.heap.size, 0, none⟩ 2 2 [.int .u8 (mkU p.present 1), .int .u8 (p.code % 256)] rfl (by decide) rfl ?_ ?_ ?_ ?_ ?_ ?_
  · intro j u hu
    rw [plain_add, Nat.zero_add]
    show (W.alloc (.cells #[.int .u8 (mkU p.present 1), .int .u8 (p.code % 256)] 5)).cell? _ = _
    rw [World.cell?_alloc_at _ _ _ _ rfl]
    simpa using hu
  · intro u hu; simp at hu; rcases hu with rfl | rfl <;> rfl
  · have := HN.out; unfold maxLen; omega
  · have := HN.out; omega
  · have := HN.out; simp; omega
  intro v2 w2 o2 gb2 n2 wh2
  have A2 : Hid (Adds B v w w2 (.returned v2) (n + 2) (xs ++ [.int .u8 (mkU p.present 1), .int .u8 (p.code % 256)])) := by
    refine ⟨v2, rfl, o2, n2, grown_on (v1 := v) (below_gb (b0.out.trans (((Below.refl _ _).alloc (Nat.le_refl _) _).drew.mono b0.out.size))) (fun k e => .inl e) gb2, fun k e => ?_⟩
    have hs := b0.out.size
    rcases wh2 with h | h
    · exact .inl (h ▸ e)
    · rw [h] at e; cases e; exact .inr (by simp; omega)
  have g2 : Hid (w2.heap[w.heap.size]? = some (.cells cs 29)) := gb_block gb2 gA.out HV.out
  refine hK.out _ _ g2.out (fun hHeld => ?_)
  clear hK K o2 gb2 n2 wh2
  simp only [Act.put, List.setIfInBounds_toArray, List.set_cons_zero, List.set_cons_succ]
  refine wpAnyH_take (i := 9) (oi := { dst := Option.some 4, op := Go.Op.assign (Go.Operand.tmp 22), type := 22, pos := "write.go:14", after := #[{ on := 8, ground := Go.Ground.data }, { on := 8, ground := Go.Ground.chain }, { on := 0, ground := Go.Ground.phase }, { on := 1, ground := Go.Ground.phase }, { on := 2, ground := Go.Ground.phase }, { on := 3, ground := Go.Ground.phase }, { on := 4, ground := Go.Ground.phase }, { on := 5, ground := Go.Ground.phase }, { on := 6, ground := Go.Ground.phase }, { on := 7, ground := Go.Ground.phase }, { on := 8, ground := Go.Ground.phase }], guard := Option.none }) (v := v2) rfl (by kernel_rfl) (by kernel_rfl) (by kernel_rfl) (fun _ _ _ h => h) (Or.inl ⟨by kernel_rfl, fun wq _ => pureVal_run (by kernel_rfl) wq⟩) hHeld ?_
  simp only [Act.put, List.setIfInBounds_toArray, List.set_cons_zero, List.set_cons_succ]
  refine wpAnyH_done (by kernel_rfl) ?_ _
  go_wp2_with fail
  go_ret
  exact A2.out
set_option maxHeartbeats 2000000
def pubL (p : Pk) (z : Nat → Int) : List Value := tx p.mT ++ (if 0 < p.mQ then cellsOf (numZ p.id) 2 else []) ++ cellsOf z p.mP.n
def pubN (p : Pk) : Nat := 2 + p.mT.size + (if 0 < p.mQ then 2 else 0) + p.mP.n
theorem wPub_any (w0 w : World) (p : Pk) (z : Nat → Int) (v : Value) (n : Nat) (xs : List Value) (h : w.ownsRow w0.heap.size 5 1 v n xs) (hv : v ≠ .slice none 0 0) (hb0 : Below w0.heap.size w0 w) (hp : By w0 p.mP z) (hn : n ≤ 10) (hm : p.mP.n ≤ 1300000) (hs : p.mT.size ≤ 65535) (hc : (chk p.mT).2 = 0) :
    Calls Tryz.prog 223 #[v, .agg (pkCells p)] w fun e w' => Adds w0.heap.size v w w' e (n + pubN p) (xs ++ pubL p z) := by
  obtain ⟨W, hW⟩ : ∃ W, W = w.alloc (.cells (pkCells p) 29) := ⟨_, rfl⟩
  have b0 : Hid (Below w.heap.size w W) := box_below hW
  have g0 : Hid (W.heap[w.heap.size]? = some (.cells (pkCells p) 29)) := by show _ = _; rw [hW]; exact heap_alloc_new w _
  have HV : Hid (v.ownBlock ≠ some w.heap.size) := fun e => by have := (h.lt _ e).2; omega
  have HOB : Hid (∀ k, v.ownBlock = some k → w0.heap.size ≤ k) := fun k e => (h.lt k e).1
  have L0 : Hid (Lay w0.heap.size v W W v n xs) := Lay.start (own_below h b0.out) hv
  have HB : Hid (w0.heap.size ≤ W.heap.size) := Nat.le_trans hb0.size b0.out.size
  have BW : Hid (Below w0.heap.size w0 W) := hb0.trans (b0.out.mono hb0.size)
  have HP : Hid (By w0 p.mP z) := hp
  have HN : Hid (n ≤ 10 ∧ p.mP.n ≤ 1300000 ∧ p.mT.size ≤ 65535 ∧ (chk p.mT).2 = 0) := ⟨hn, hm, hs, hc⟩
  obtain ⟨cs, hcs⟩ : ∃ cs, cs = pkCells p := ⟨_, rfl⟩
  have k17 : Hid (cs[17]? = some (.string p.mT)) := by show _ = _; rw [hcs]; rfl
  have k18 : Hid (cs[18]? = some (.slice p.mP.a p.mP.n p.mP.c)) := by show _ = _; rw [hcs]; rfl
  have k19 : Hid (cs[19]? = some (.int .i64 p.mQ)) := by show _ = _; rw [hcs]; rfl
  have k21 : Hid (cs[21]? = some (.int .i64 p.id)) := by show _ = _; rw [hcs]; rfl
  rw [← hcs] at g0 ⊢
  rw [← hcs] at hW
  clear hcs h hb0 hp hn hm hs hc hv
  have c17 := box_cells g0.out 17 _ k17.out
  go_enter Tryz.func223, Tryz.ntmps223
  go_upto_region 1 with fail
  rw [← hW]
  clear hW
  go_wp2_with fail
  go_must (go_at_call 259)
  refine (wText_any w0.heap.size n v xs p.mT W L0.out.own HB.out (by have := HN.out; omega) HN.out.2.2.1 HN.out.2.2.2).mono ?_
  rintro e w1 ⟨v1, rfl, r1⟩
  have L1 : Hid (Lay w0.heap.size v W w1 v1 _ _) := L0.out.add ⟨v1, rfl, r1⟩
  have g1 : Hid (w1.heap[w.heap.size]? = some (.cells cs 29)) := L1.out.block g0.out HV.out
  have c19 := box_cells g1.out 19 _ k19.out
  have c21 := box_cells g1.out 21 _ k21.out
  clear r1 c17
  by_cases hq : 0 < p.mQ
  · go_wp2_with fail
    go_must (go_at_call 225)
    refine (wNumber_any w0.heap.size _ v1 _ p.id w1 L1.out.own (Nat.le_trans HB.out L1.out.size) (by have := HN.out; omega)).mono ?_
    rintro e w2 ⟨v2, rfl, r2⟩
    have L2 : Hid (Lay w0.heap.size v W w2 v2 _ _) := L1.out.add ⟨v2, rfl, r2⟩
    have g2 : Hid (w2.heap[w.heap.size]? = some (.cells cs 29)) := L2.out.block g0.out HV.out
    have Y2 : Hid (By w2 p.mP z) := HP.out.below (BW.out.trans (L2.out.old HB.out HOB.out))
    have c18 := box_cells g2.out 18 _ k18.out
    clear r2 c19 c21
    go_wp2_with (at_builtin; refine wpList_push_by rfl (.tmp 18) (.tmp 21) rfl w0.heap.size _ v2 _ rfl L2.out.own L2.out.ne p.mP z rfl Y2.out (by have := HN.out; omega) (by have := HN.out; omega) (Nat.le_trans HB.out L2.out.size) ?_)
    intro v3 w3 ad3
    have L3 : Hid (Lay w0.heap.size v W w3 v3 _ _) := L2.out.add ad3
    clear ad3 c18
    go_wp2_with fail
    go_ret
    exact Lay.done b0.out (L3.out.cast (by simp only [pubN, hq, if_true]; omega) (by simp only [pubL, tx, hq, if_true, List.append_assoc]))
  · have hq2 : Hid (¬ 0 < p.mQ) := hq
    have c18 := box_cells g1.out 18 _ k18.out
    have Y2 : Hid (By w1 p.mP z) := HP.out.below (BW.out.trans (L1.out.old HB.out HOB.out))
    go_wp2_with (at_builtin; refine wpList_push_by rfl (.tmp 18) (.tmp 21) rfl w0.heap.size _ v1 _ rfl L1.out.own L1.out.ne p.mP z rfl Y2.out (by have := HN.out; omega) (by have := HN.out; omega) (Nat.le_trans HB.out L1.out.size) ?_)
    intro v3 w3 ad3
    have L3 : Hid (Lay w0.heap.size v W w3 v3 _ _) := L1.out.add ad3
    clear ad3 c18
    go_wp2_with fail
    go_ret
    exact Lay.done b0.out (L3.out.cast (by simp only [pubN, if_neg (Int.not_lt.mpr hq2.out)]; omega) (by simp only [pubL, tx, if_neg (Int.not_lt.mpr hq2.out), List.append_assoc, List.nil_append, List.append_nil]))
theorem Adds.before {B : Nat} {v : Value} {w W w' : World} {e : Ending} {n : Nat} {xs : List Value} (hb : Below w.heap.size w W) (h : Adds B v W w' e n xs) : Adds B v w w' e n xs := by
 obtain ⟨u, he, o, ne, g, a⟩ := h
 exact ⟨u, he, o, ne, grown_on (v1 := v) (below_gb hb) (fun k e => .inl e) g, fun k e => (a k e).elim .inl (fun q => .inr (Nat.le_trans hb.size q))⟩
theorem wFields_one (w0 w : World) (p : Pk)  (v : Value) (n : Nat) (xs : List Value) (hk : p.kind = 1) (m : Nat) (R : List Value) (HC : ∀ W, Below w.heap.size w W → Calls Tryz.prog 221 #[v, .agg (pkCells p)] W fun e w' => Adds w0.heap.size v W w' e m R) :
    Calls Tryz.prog 146 #[v, .agg (pkCells p)] w fun e w' => Adds w0.heap.size v w w' e m R := by
  obtain ⟨W, hW⟩ : ∃ W, W = w.alloc (.cells (pkCells p) 29) := ⟨_, rfl⟩
  have b0 : Hid (Below w.heap.size w W) := box_below hW
  have g0 : Hid (W.heap[w.heap.size]? = some (.cells (pkCells p) 29)) := by show _ = _; rw [hW]; exact heap_alloc_new w _
  have k0 : W.cell? ⟨w.heap.size, 0, none⟩ = some (.int .i64 1) := box_cells g0.out 0 _ (by rw [← hk]; rfl)
  have HC : Hid (Calls Tryz.prog 221 #[v, .agg (pkCells p)] W fun e w' => Adds w0.heap.size v W w' e m R) := HC W b0.out
  obtain ⟨cs, hcs⟩ : ∃ cs, cs = pkCells p := ⟨_, rfl⟩
  have hsz : Hid (cs.size = 25) := by show _ = _; rw [hcs]; rfl
  rw [← hcs] at HC g0 ⊢
  rw [← hcs] at hW
  clear hcs hk
  go_enter Tryz.func146, Tryz.ntmps146
  go_upto_region 1 with fail
  rw [← hW]
  clear hW
  go_wp2_with (first | (refine wpList_load_wanted rfl _ rfl w.heap.size rfl _ (0, 0) g0.out hsz.out ?_) | fail)
  go_must (go_at_call 221)
  refine HC.out.mono ?_
  rintro e w1 ⟨v1, rfl, r1⟩
  have A1 : Hid (Adds w0.heap.size v w w1 (.returned v1) m R) := Adds.before b0.out ⟨v1, rfl, r1⟩
  clear r1 k0
  go_wp2_with fail
  go_ret
  exact A1.out
theorem wFields_three (w0 w : World) (p : Pk)  (v : Value) (n : Nat) (xs : List Value) (hk : p.kind = 3) (m : Nat) (R : List Value) (HC : ∀ W, Below w.heap.size w W → Calls Tryz.prog 223 #[v, .agg (pkCells p)] W fun e w' => Adds w0.heap.size v W w' e m R) :
    Calls Tryz.prog 146 #[v, .agg (pkCells p)] w fun e w' => Adds w0.heap.size v w w' e m R := by
  obtain ⟨W, hW⟩ : ∃ W, W = w.alloc (.cells (pkCells p) 29) := ⟨_, rfl⟩
  have b0 : Hid (Below w.heap.size w W) := box_below hW
  have g0 : Hid (W.heap[w.heap.size]? = some (.cells (pkCells p) 29)) := by show _ = _; rw [hW]; exact heap_alloc_new w _
  have k0 : W.cell? ⟨w.heap.size, 0, none⟩ = some (.int .i64 3) := box_cells g0.out 0 _ (by rw [← hk]; rfl)
  have HC : Hid (Calls Tryz.prog 223 #[v, .agg (pkCells p)] W fun e w' => Adds w0.heap.size v W w' e m R) := HC W b0.out
  obtain ⟨cs, hcs⟩ : ∃ cs, cs = pkCells p := ⟨_, rfl⟩
  have hsz : Hid (cs.size = 25) := by show _ = _; rw [hcs]; rfl
  rw [← hcs] at HC g0 ⊢
  rw [← hcs] at hW
  clear hcs hk
  go_enter Tryz.func146, Tryz.ntmps146
  go_upto_region 1 with fail
  rw [← hW]
  clear hW
  go_wp2_with (first | (refine wpList_load_wanted rfl _ rfl w.heap.size rfl _ (0, 0) g0.out hsz.out ?_) | fail)
  go_must (go_at_call 223)
  refine HC.out.mono ?_
  rintro e w1 ⟨v1, rfl, r1⟩
  have A1 : Hid (Adds w0.heap.size v w w1 (.returned v1) m R) := Adds.before b0.out ⟨v1, rfl, r1⟩
  clear r1 k0
  go_wp2_with fail
  go_ret
  exact A1.out
theorem wFields_no12 (B : Nat) (w : World) (p : Pk) (v : Value) (n : Nat) (xs : List Value) (hk : p.kind = 12) (h : w.ownsRow B 5 1 v n xs) (hv : v ≠ .slice none 0 0) :
    Calls Tryz.prog 146 #[v, .agg (pkCells p)] w fun e w' => Adds B v w w' e n xs := by
  obtain ⟨W, hW⟩ : ∃ W, W = w.alloc (.cells (pkCells p) 29) := ⟨_, rfl⟩
  have b0 : Hid (Below w.heap.size w W) := box_below hW
  have g0 : Hid (W.heap[w.heap.size]? = some (.cells (pkCells p) 29)) := by show _ = _; rw [hW]; exact heap_alloc_new w _
  have k0 : W.cell? ⟨w.heap.size, 0, none⟩ = some (.int .i64 12) := box_cells g0.out 0 _ (by rw [← hk]; rfl)
  have A1 : Hid (Adds B v w W (.returned v) n xs) := Adds.before b0.out ⟨v, rfl, own_below h b0.out, hv, World.grownBy.refl _ _, fun k e => .inl e⟩
  obtain ⟨cs, hcs⟩ : ∃ cs, cs = pkCells p := ⟨_, rfl⟩
  rw [← hcs] at g0 ⊢
  rw [← hcs] at hW
  clear hcs hk h hv
  go_enter Tryz.func146, Tryz.ntmps146
  go_upto_region 1 with fail
  rw [← hW]
  clear hW
  go_wp2_with fail
  go_ret
  exact A1.out
theorem wFields_no13 (B : Nat) (w : World) (p : Pk) (v : Value) (n : Nat) (xs : List Value) (hk : p.kind = 13) (h : w.ownsRow B 5 1 v n xs) (hv : v ≠ .slice none 0 0) :
    Calls Tryz.prog 146 #[v, .agg (pkCells p)] w fun e w' => Adds B v w w' e n xs := by
  obtain ⟨W, hW⟩ : ∃ W, W = w.alloc (.cells (pkCells p) 29) := ⟨_, rfl⟩
  have b0 : Hid (Below w.heap.size w W) := box_below hW
  have g0 : Hid (W.heap[w.heap.size]? = some (.cells (pkCells p) 29)) := by show _ = _; rw [hW]; exact heap_alloc_new w _
  have k0 : W.cell? ⟨w.heap.size, 0, none⟩ = some (.int .i64 13) := box_cells g0.out 0 _ (by rw [← hk]; rfl)
  have A1 : Hid (Adds B v w W (.returned v) n xs) := Adds.before b0.out ⟨v, rfl, own_below h b0.out, hv, World.grownBy.refl _ _, fun k e => .inl e⟩
  obtain ⟨cs, hcs⟩ : ∃ cs, cs = pkCells p := ⟨_, rfl⟩
  rw [← hcs] at g0 ⊢
  rw [← hcs] at hW
  clear hcs hk h hv
  go_enter Tryz.func146, Tryz.ntmps146
  go_upto_region 1 with fail
  rw [← hW]
  clear hW
  go_wp2_with fail
  go_ret
  exact A1.out
theorem wFields_no14 (B : Nat) (w : World) (p : Pk) (v : Value) (n : Nat) (xs : List Value) (hk : p.kind = 14) (h : w.ownsRow B 5 1 v n xs) (hv : v ≠ .slice none 0 0) :
    Calls Tryz.prog 146 #[v, .agg (pkCells p)] w fun e w' => Adds B v w w' e n xs := by
  obtain ⟨W, hW⟩ : ∃ W, W = w.alloc (.cells (pkCells p) 29) := ⟨_, rfl⟩
  have b0 : Hid (Below w.heap.size w W) := box_below hW
  have g0 : Hid (W.heap[w.heap.size]? = some (.cells (pkCells p) 29)) := by show _ = _; rw [hW]; exact heap_alloc_new w _
  have k0 : W.cell? ⟨w.heap.size, 0, none⟩ = some (.int .i64 14) := box_cells g0.out 0 _ (by rw [← hk]; rfl)
  have A1 : Hid (Adds B v w W (.returned v) n xs) := Adds.before b0.out ⟨v, rfl, own_below h b0.out, hv, World.grownBy.refl _ _, fun k e => .inl e⟩
  obtain ⟨cs, hcs⟩ : ∃ cs, cs = pkCells p := ⟨_, rfl⟩
  rw [← hcs] at g0 ⊢
  rw [← hcs] at hW
  clear hcs hk h hv
  go_enter Tryz.func146, Tryz.ntmps146
  go_upto_region 1 with fail
  rw [← hW]
  clear hW
  go_wp2_with fail
  go_ret
  exact A1.out
end Go.Proofs.YtphofgnehdlafaaGreatDoor
