import Derived.Test.YtphofgnehdlafaaGreatDoorGm
import Derived.Test.YtphofgnehdlafaaGreatDoorPWj
namespace Go.Proofs.YtphofgnehdlafaaGreatDoor
open Go Go.RowKit
open Pkt (Pk Cn Sl In By Is Ss As pkCells Gd wpList_load_wanted box_below sumN)
set_option linter.unusedSimpArgs false
set_option linter.unusedVariables false
set_option maxRecDepth 100000
set_option maxHeartbeats 8000000
def asksL (f : Nat → ByteArray) (q : Nat → Int) : Nat → List Value
 | 0 => []
 | k + 1 => asksL f q k ++ (tx (f k) ++ [.int .u8 (q k % 256)])
def codesL (z : Nat → Int) : Nat → List Value
 | 0 => []
 | k + 1 => codesL z k ++ [.int .u8 (z k % 256)]
def filtL (f : Nat → ByteArray) : Nat → List Value
 | 0 => []
 | k + 1 => filtL f k ++ tx (f k)
theorem sumN_succ (f : Nat → Nat) (k : Nat) : sumN f (k + 1) = sumN f k + f k := rfl
theorem sumN_ge (f : Nat → Nat) (h : ∀ i, 1 ≤ f i) (n : Nat) : n ≤ sumN f n := by
 induction n with
 | zero => exact Nat.zero_le _
 | succ n ih => rw [sumN_succ]; have := h n; omega
theorem sumN_le (f : Nat → Nat) {k n : Nat} (h : k ≤ n) : sumN f k ≤ sumN f n := by
 induction h with
 | refl => exact Nat.le_refl _
 | step _ ih => exact Nat.le_trans ih (by simp [sumN])
structure ListsOk (w0 : World) (p : Pk) (c : Cn) : Prop where
 af : ∀ i, i < p.asks.n → (c.af i).size ≤ 65535 ∧ (chk (c.af i)).2 = 0
 fs : ∀ i, i < p.filters.n → (c.fs i).size ≤ 65535 ∧ (chk (c.fs i)).2 = 0
 as_ : As w0 p.asks c.af c.aq
 is_ : Is w0 p.codes c.cs
 ss_ : Ss w0 p.filters c.fs
theorem wLists_any (w0 w : World) (p : Pk) (c : Cn) (v : Value) (n : Nat) (xs : List Value) (h : w.ownsRow w0.heap.size 5 1 v n xs) (hv : v ≠ .slice none 0 0) (hb0 : Below w0.heap.size w0 w) (ok : ListsOk w0 p c) (hn : n + sumN (fun i => 3 + (c.af i).size) p.asks.n + p.codes.n + sumN (fun i => 2 + (c.fs i).size) p.filters.n ≤ 1300000) :
    Calls Tryz.prog 224 #[v, .agg (pkCells p)] w fun e w' => Adds w0.heap.size v w w' e (n + sumN (fun i => 3 + (c.af i).size) p.asks.n + p.codes.n + sumN (fun i => 2 + (c.fs i).size) p.filters.n) (xs ++ asksL c.af c.aq p.asks.n ++ codesL c.cs p.codes.n ++ filtL c.fs p.filters.n) := by
  obtain ⟨i0, hi, hz0, hz1, hz2⟩ := info_parts Tryz.info5
  obtain ⟨W, hW⟩ : ∃ W, W = w.alloc (.cells (pkCells p) 29) := ⟨_, rfl⟩
  have b0 : Hid (Below w.heap.size w W) := box_below hW
  have g0 : Hid (W.heap[w.heap.size]? = some (.cells (pkCells p) 29)) := by show _ = _; rw [hW]; exact heap_alloc_new w _
  have HV : Hid (v.ownBlock ≠ some w.heap.size) := fun e => by have := (h.lt _ e).2; omega
  have HOB : Hid (∀ k, v.ownBlock = some k → w0.heap.size ≤ k) := fun k e => (h.lt k e).1
  have L0 : Hid (Lay w0.heap.size v W W v n xs) := Lay.start (own_below h b0.out) hv
  have HB : Hid (w0.heap.size ≤ W.heap.size) := Nat.le_trans hb0.size b0.out.size
  have BW : Hid (Below w0.heap.size w0 W) := hb0.trans (b0.out.mono hb0.size)
  have HN : Hid (n + sumN (fun i => 3 + (c.af i).size) p.asks.n + p.codes.n + sumN (fun i => 2 + (c.fs i).size) p.filters.n ≤ 1300000) := hn
  have OK : Hid (ListsOk w0 p c) := ok
  obtain ⟨cs, hcs⟩ : ∃ cs, cs = pkCells p := ⟨_, rfl⟩
  have k22 : Hid (cs[22]? = some (.slice p.asks.a p.asks.n p.asks.c)) := by show _ = _; rw [hcs]; rfl
  have k23 : Hid (cs[23]? = some (.slice p.codes.a p.codes.n p.codes.c)) := by show _ = _; rw [hcs]; rfl
  have k24 : Hid (cs[24]? = some (.slice p.filters.a p.filters.n p.filters.c)) := by show _ = _; rw [hcs]; rfl
  rw [← hcs] at g0 ⊢
  rw [← hcs] at hW
  clear hcs h hv hb0 ok hn
  obtain ⟨an, han⟩ : ∃ an, an = p.asks.n := ⟨_, rfl⟩
  obtain ⟨cn, hcn⟩ : ∃ cn, cn = p.codes.n := ⟨_, rfl⟩
  obtain ⟨fn, hfn⟩ : ∃ fn, fn = p.filters.n := ⟨_, rfl⟩
  have HAN : Hid (an = p.asks.n) := han
  have HCN : Hid (cn = p.codes.n) := hcn
  have HFN : Hid (fn = p.filters.n) := hfn
  obtain ⟨aa, haa⟩ : ∃ an, an = p.asks.a := ⟨_, rfl⟩
  obtain ⟨ca, hca⟩ : ∃ cn, cn = p.codes.a := ⟨_, rfl⟩
  obtain ⟨fa, hfa⟩ : ∃ fn, fn = p.filters.a := ⟨_, rfl⟩
  rw [← han, ← haa] at k22
  rw [← hcn, ← hca] at k23
  rw [← hfn, ← hfa] at k24
  have HAA : Hid (aa = p.asks.a) := haa
  have HCA : Hid (ca = p.codes.a) := hca
  have HFA : Hid (fa = p.filters.a) := hfa
  clear han hcn hfn haa hca hfa
  have ha3 : an ≤ 1300000 := by have := HN.out; have := sumN_ge (fun i => 3 + (c.af i).size) (fun i => by omega) p.asks.n; have := HAN.out; omega
  have hc3 : cn ≤ 1300000 := by have := HN.out; have := HCN.out; omega
  have hf3 : fn ≤ 1300000 := by have := HN.out; have := sumN_ge (fun i => 2 + (c.fs i).size) (fun i => by omega) p.filters.n; have := HFN.out; omega
  go_enter Tryz.func224, Tryz.ntmps224
  go_upto_region 1 with fail
  rw [← hW]
  clear hW
  have c22 := box_cells g0.out 22 _ k22.out
  go_wp2_with fail
  clear c22
  go_loopg [0, 14] an (fun gg s0 s14 wx => ∃ (k : Nat), s14 = .int .i64 k ∧ k + gg = an ∧ Hid (Lay w0.heap.size v W wx s0 (n + sumN (fun i => 3 + (c.af i).size) k) (xs ++ asksL c.af c.aq k)))
  case atStart => exact ⟨0, rfl, by omega, L0.out.cast (by simp [sumN]) (by simp [asksL])⟩
  case round =>
    obtain ⟨k, rfl, hkg, L1⟩ := hrel
    by_cases hk : k < an
    · have hk' : (k : Int) < an := by omega
      have BR : Hid (Below w0.heap.size w0 wr) := BW.out.trans (L1.out.old HB.out HOB.out)
      obtain ⟨b, off, he, hc⟩ : ∃ b off, aa = some ⟨b, off, none⟩ ∧ ∀ i, i < p.asks.n → (w0.cell? ⟨b, off + i * 2, none⟩ = some (.string (c.af i)) ∧ w0.cell? ⟨b, off + i * 2 + 1, none⟩ = some (.int .i64 (c.aq i))) := by
        rcases OK.out.as_.2 with h | h
        · have := HAN.out; omega
        · rw [← HAA.out] at h; exact h
      subst he
      have hac : an ≤ p.asks.c := by rw [HAN.out]; exact OK.out.as_.1
      have c0 := cell_later BR.out (hc k (by rw [← HAN.out]; exact hk)).1
      have c1 := cell_later BR.out (hc k (by rw [← HAN.out]; exact hk)).2
      obtain ⟨gg, hg⟩ : ∃ gg, gk = gg + 1 := ⟨gk - 1, by omega⟩
      clear hc
      go_upto_region 4 with fail
      obtain ⟨wA, hwA⟩ : ∃ wA, wA = wr.alloc (.cells #[.string (c.af k), .int .i64 (c.aq k)] 98) := ⟨_, rfl⟩
      rw [← hwA]
      have LA : Hid (Lay w0.heap.size v W wA u0 _ _) := L1.out.below (by rw [hwA]; exact (Below.refl _ _).alloc (Nat.le_refl _) _)
      have gA : Hid (wA.heap[wr.heap.size]? = some (.cells #[.string (c.af k), .int .i64 (c.aq k)] 98)) := by show _ = _; rw [hwA]; exact heap_alloc_new wr _
      have VA : Hid (u0.ownBlock ≠ some wr.heap.size) := fun e => by have := (L1.out.own.lt _ e).2; omega
      have kf : (#[Value.string (c.af k), Value.int .i64 (c.aq k)] : Array Value)[0]? = some (.string (c.af k)) := rfl
      have kq : (#[Value.string (c.af k), Value.int .i64 (c.aq k)] : Array Value)[1]? = some (.int .i64 (c.aq k)) := rfl
      clear hwA c0 c1
      refine wp_region_held_drew (S := fun w' => Hid (w'.heap[wr.heap.size]? = some (.cells #[.string (c.af k), .int .i64 (c.aq k)] 98))) (by kernel_rfl) gA (fun hHeld => ?_)
      refine wpAnyH_take (i := 0) (oi := { dst := Option.some 18, op := Go.Op.move (Go.Operand.tmp 0), type := 22, pos := "write.go:61", after := #[], guard := Option.none }) (v := u0) rfl (by kernel_rfl) (by kernel_rfl) (by kernel_rfl) (fun _ _ _ h => h) (Or.inl ⟨by kernel_rfl, fun wq _ => pureVal_run (by kernel_rfl) wq⟩) hHeld ?_
      simp only [Act.put, List.setIfInBounds_toArray, List.set_cons_zero, List.set_cons_succ]
      refine wpAnyH_take (i := 1) (oi := { dst := Option.some 19, op := Go.Op.fieldAddr 98 (Go.Operand.tmp 6) 0, type := 0, pos := "write.go:61", after := #[], guard := Option.none }) (v := .pointer (some ⟨wr.heap.size, 0, none⟩)) rfl (by kernel_rfl) (by kernel_rfl) (by kernel_rfl) (fun _ _ _ h => h) (Or.inl ⟨by kernel_rfl, by intro wq hSw; clear hSw hHeld; go_simp⟩) hHeld ?_
      simp only [Act.put, List.setIfInBounds_toArray, List.set_cons_zero, List.set_cons_succ]
      refine wpAnyH_take (i := 2) (oi := { dst := Option.some 20, op := Go.Op.load 9 (Go.Operand.tmp 19), type := 9, pos := "write.go:61", after := #[{ on := 1, ground := Go.Ground.data }], guard := Option.none }) (v := .string (c.af k)) rfl (by kernel_rfl) (by kernel_rfl) (by kernel_rfl) (fun _ _ _ h => h) (Or.inl ⟨by kernel_rfl, by intro wq hSw; have hk2 := box_cells (Hid.out hSw) 0 _ kf; clear hSw hHeld; go_simp⟩) hHeld ?_
      simp only [Act.put, List.setIfInBounds_toArray, List.set_cons_zero, List.set_cons_succ]
      refine wpAnyH_take (i := 4) (oi := { dst := Option.some 22, op := Go.Op.fieldAddr 98 (Go.Operand.tmp 6) 1, type := 0, pos := "write.go:61", after := #[], guard := Option.none }) (v := .pointer (some ⟨wr.heap.size, 1, none⟩)) rfl (by kernel_rfl) (by kernel_rfl) (by kernel_rfl) (fun _ _ _ h => h) (Or.inl ⟨by kernel_rfl, by intro wq hSw; clear hSw hHeld; go_simp⟩) hHeld ?_
      simp only [Act.put, List.setIfInBounds_toArray, List.set_cons_zero, List.set_cons_succ]
      refine wpAnyH_take (i := 5) (oi := { dst := Option.some 23, op := Go.Op.load 3 (Go.Operand.tmp 22), type := 3, pos := "write.go:61", after := #[{ on := 4, ground := Go.Ground.data }], guard := Option.none }) (v := .int .i64 (c.aq k)) rfl (by kernel_rfl) (by kernel_rfl) (by kernel_rfl) (fun _ _ _ h => h) (Or.inl ⟨by kernel_rfl, by intro wq hSw; have hk2 := box_cells (Hid.out hSw) 1 _ kq; clear hSw hHeld; go_simp⟩) hHeld ?_
      simp only [Act.put, List.setIfInBounds_toArray, List.set_cons_zero, List.set_cons_succ]
      refine wpAnyH_take (i := 6) (oi := { dst := Option.some 24, op := Go.Op.convert 3 5 (Go.Operand.tmp 23), type := 5, pos := "write.go:61", after := #[{ on := 5, ground := Go.Ground.data }], guard := Option.none }) (v := .int .u8 (IntKind.u8.wrap (c.aq k))) rfl (by kernel_rfl) (by kernel_rfl) (by kernel_rfl) (fun _ _ _ h => h) (Or.inl ⟨by kernel_rfl, by intro wq hSw; clear hSw hHeld; go_simp⟩) hHeld ?_
      simp only [Act.put, List.setIfInBounds_toArray, List.set_cons_zero, List.set_cons_succ]
      have LD : Hid (Lay w0.heap.size v W wA.drew u0 _ _) := LA.out.below (Below.refl _ _).drew
      refine wpAnyH_ready (rs := [3, 7]) (by kernel_rfl) (by simp) ?_
      refine AllReadyH.cons (o := { dst := Option.some 21, op := Go.Op.call { callee := Go.Callee.value (Go.Operand.func 259), args := #[Go.Operand.tmp 18, Go.Operand.tmp 20], argTypes := #[22, 9] }, type := 22, pos := "write.go:61", after := #[{ on := 0, ground := Go.Ground.data }, { on := 2, ground := Go.Ground.data }], guard := Option.none }) (by rfl) (fun K hK => ?_) (AllReadyH.cons (o := { dst := Option.some 25, op := Go.Op.buildSlice 22 1 #[(0, Go.Operand.tmp 24)], type := 22, pos := "write.go:61", after := #[{ on := 6, ground := Go.Ground.data }], guard := Option.none }) (by rfl) (fun K hK => ?_) AllReadyH.nil)
      · refine held_call (by kernel_rfl) 259 #[u0, .string (c.af k)] (by clear hHeld hK; go_simp) (R := fun x w' => Adds w0.heap.size u0 wA.drew w' (.returned x) _ _) ((wText_any w0.heap.size _ u0 _ (c.af k) wA.drew LD.out.own (Nat.le_trans HB.out LD.out.size) (by have h1 := HN.out; have h2 := sumN_le (fun i => 3 + (c.af i).size) (k := k + 1) (n := p.asks.n) (by rw [← HAN.out]; exact hk); rw [sumN_succ] at h2; omega) (OK.out.af k (by rw [← HAN.out]; exact hk)).1 (OK.out.af k (by rw [← HAN.out]; exact hk)).2).mono fun e w' ha => ⟨ha.choose, ha.choose_spec.1, ⟨ha.choose, rfl, ha.choose_spec.2⟩⟩) ?_
        intro v6 w6 r6
        have L6 : Hid (Lay w0.heap.size v W w6 v6 _ _) := LD.out.add r6
        obtain ⟨v6', e6, o6, n6, gb6, a6⟩ := r6
        cases e6
        have g6 : Hid (w6.heap[wr.heap.size]? = some (.cells #[.string (c.af k), .int .i64 (c.aq k)] 98)) := gb_block gb6 gA.out VA.out
        have V6 : Hid (v6.ownBlock ≠ some wr.heap.size) := fun e => (a6 _ e).elim VA.out (fun q => by have := heap_in gA.out; simp at q; omega)
        refine hK.out _ _ g6 (fun hHeld => ?_)
        clear hK K o6 n6 gb6 a6
        simp only [Act.put, List.setIfInBounds_toArray, List.set_cons_zero, List.set_cons_succ]
        refine wpAnyH_ready (rs := [7]) (by kernel_rfl) (by simp) ?_
        refine AllReadyH.cons (o := { dst := Option.some 25, op := Go.Op.buildSlice 22 1 #[(0, Go.Operand.tmp 24)], type := 22, pos := "write.go:61", after := #[{ on := 6, ground := Go.Ground.data }], guard := Option.none }) (by rfl) (fun K hK => ?_) AllReadyH.nil
        go_simp
        have LB : Hid (Lay w0.heap.size v W (w6.alloc (.cells #[.int .u8 (c.aq k % 256)] 5)) v6 _ _) := L6.out.below ((Below.refl _ _).alloc (Nat.le_refl _) _)
        have gL : Hid ((w6.alloc (.cells #[.int .u8 (c.aq k % 256)] 5)).heap[wr.heap.size]? = some (.cells #[.string (c.af k), .int .i64 (c.aq k)] 98)) := (((Below.refl _ _).alloc (Nat.le_refl _) _).block _ (heap_in g6.out)).trans g6.out
        have gS : Hid ((w6.alloc (.cells #[.int .u8 (c.aq k % 256)] 5)).heap[w6.heap.size]? = some (.cells #[.int .u8 (c.aq k % 256)] 5)) := heap_alloc_new w6 _
        have VL := V6
        refine hK.out _ _ gL (fun hHeld => ?_)
        clear hK K
        refine wpAnyH_ready (rs := [8]) (by kernel_rfl) (by simp) ?_
        refine AllReadyH.cons (o := { dst := Option.some 26, op := Go.Op.call { callee := Go.Callee.builtin Go.Builtin.append, args := #[Go.Operand.tmp 21, Go.Operand.tmp 25], argTypes := #[22, 22] }, type := 22, pos := "write.go:61", after := #[{ on := 3, ground := Go.Ground.data }, { on := 7, ground := Go.Ground.data }, { on := 3, ground := Go.Ground.chain }], guard := Option.none }) (by rfl) (fun K hK => ?_) AllReadyH.nil
        refine step_push rfl (.tmp 21) (.tmp 25) 22 rfl w0.heap.size 5 i0 (.int .u8 0) 1 1 Tryz.underlying22 hi hz0 hz1 hz2 rfl (by decide) v6 _ _ rfl LB.out.own ⟨w6.heap.size, 0, none⟩ 1 1 [.int .u8 (c.aq k % 256)] rfl (by decide) rfl ?_ ?_ ?_ ?_ ?_ ?_
        · intro j u hu
          rw [plain_add, Nat.zero_add]
          exact box_cells gS.out j _ (by simpa using hu)
        · intro u hu; simp at hu; subst hu; rfl
        · have h1 := HN.out; have h2 := sumN_le (fun i => 3 + (c.af i).size) (k := k + 1) (n := p.asks.n) (by rw [← HAN.out]; exact hk); rw [sumN_succ] at h2; unfold maxLen; omega
        · have h1 := HN.out; have h2 := sumN_le (fun i => 3 + (c.af i).size) (k := k + 1) (n := p.asks.n) (by rw [← HAN.out]; exact hk); rw [sumN_succ] at h2; omega
        · exact Nat.le_trans HB.out LB.out.size
        intro v8 w8 o8 gb8 n8 wh8
        have L8 : Hid (Lay w0.heap.size v W w8 v8 _ _) := LB.out.add ⟨v8, rfl, o8, n8, gb8, fun j e => by
          rcases wh8 with h | h
          · exact .inl (h ▸ e)
          · rw [h] at e; cases e; exact .inr (Nat.le_refl _)⟩
        refine hK.out _ _ (gb_block gb8 gL.out VL.out) (fun hHeld => ?_)
        clear hK K o8 gb8 n8 wh8
        simp only [Act.put, List.setIfInBounds_toArray, List.set_cons_zero, List.set_cons_succ]
        refine wpAnyH_take (i := 9) (oi := { dst := Option.some 0, op := Go.Op.assign (Go.Operand.tmp 26), type := 22, pos := "write.go:61", after := #[{ on := 8, ground := Go.Ground.data }, { on := 8, ground := Go.Ground.chain }, { on := 0, ground := Go.Ground.phase }, { on := 1, ground := Go.Ground.phase }, { on := 2, ground := Go.Ground.phase }, { on := 3, ground := Go.Ground.phase }, { on := 4, ground := Go.Ground.phase }, { on := 5, ground := Go.Ground.phase }, { on := 6, ground := Go.Ground.phase }, { on := 7, ground := Go.Ground.phase }, { on := 8, ground := Go.Ground.phase }], guard := Option.none }) (v := v8) rfl (by kernel_rfl) (by kernel_rfl) (by kernel_rfl) (fun _ _ _ h => h) (Or.inl ⟨by kernel_rfl, fun wq _ => pureVal_run (by kernel_rfl) wq⟩) hHeld ?_
        simp only [Act.put, List.setIfInBounds_toArray, List.set_cons_zero, List.set_cons_succ]
        refine wpAnyH_done (by kernel_rfl) ?_ _
        have L9 : Hid (Lay w0.heap.size v W w8 v8 (n + sumN (fun i => 3 + (c.af i).size) (k + 1)) (xs ++ asksL c.af c.aq (k + 1))) := L8.out.cast (by rw [sumN_succ]; omega) (by simp only [asksL, tx, List.append_assoc])
        clear hHeld L8
        go_wp2_with fail
        go_roundg gg
        case measure => omega
        case rel => exact ⟨k + 1, by first | rfl | simp, by omega, L9⟩
      · go_simp
        have LB : Hid (Lay w0.heap.size v W (wA.alloc (.cells #[.int .u8 (c.aq k % 256)] 5)).drew u0 _ _) := LA.out.below ((Below.refl _ _).alloc (Nat.le_refl _) _).drew
        have gB : Hid ((wA.alloc (.cells #[.int .u8 (c.aq k % 256)] 5)).drew.heap[wr.heap.size]? = some (.cells #[.string (c.af k), .int .i64 (c.aq k)] 98)) := (((Below.refl _ _).alloc (Nat.le_refl _) _).drew.block _ (heap_in gA.out)).trans gA.out
        have gT : Hid ((wA.alloc (.cells #[.int .u8 (c.aq k % 256)] 5)).drew.heap[wA.heap.size]? = some (.cells #[.int .u8 (c.aq k % 256)] 5)) := heap_alloc_new wA _
        refine hK.out _ _ gB (fun hHeld => ?_)
        clear hK K
        refine wpAnyH_ready (rs := [3]) (by kernel_rfl) (by simp) ?_
        refine AllReadyH.cons (o := { dst := Option.some 21, op := Go.Op.call { callee := Go.Callee.value (Go.Operand.func 259), args := #[Go.Operand.tmp 18, Go.Operand.tmp 20], argTypes := #[22, 9] }, type := 22, pos := "write.go:61", after := #[{ on := 0, ground := Go.Ground.data }, { on := 2, ground := Go.Ground.data }], guard := Option.none }) (by rfl) (fun K hK => ?_) AllReadyH.nil
        refine held_call (by kernel_rfl) 259 #[u0, .string (c.af k)] (by clear hHeld hK; go_simp) (R := fun x w' => Adds w0.heap.size u0 (wA.alloc (.cells #[.int .u8 (c.aq k % 256)] 5)).drew w' (.returned x) _ _) ((wText_any w0.heap.size _ u0 _ (c.af k) (wA.alloc (.cells #[.int .u8 (c.aq k % 256)] 5)).drew LB.out.own (Nat.le_trans HB.out LB.out.size) (by have h1 := HN.out; have h2 := sumN_le (fun i => 3 + (c.af i).size) (k := k + 1) (n := p.asks.n) (by rw [← HAN.out]; exact hk); rw [sumN_succ] at h2; omega) (OK.out.af k (by rw [← HAN.out]; exact hk)).1 (OK.out.af k (by rw [← HAN.out]; exact hk)).2).mono fun e w' ha => ⟨ha.choose, ha.choose_spec.1, ⟨ha.choose, rfl, ha.choose_spec.2⟩⟩) ?_
        intro v6 w6 r6
        have L6 : Hid (Lay w0.heap.size v W w6 v6 _ _) := LB.out.add r6
        obtain ⟨v6', e6, o6, n6, gb6, a6⟩ := r6
        cases e6
        have gL : Hid (w6.heap[wr.heap.size]? = some (.cells #[.string (c.af k), .int .i64 (c.aq k)] 98)) := gb_block gb6 gB.out VA.out
        have VT : Hid (u0.ownBlock ≠ some wA.heap.size) := fun e => by have := (LA.out.own.lt _ e).2; omega
        have gS : Hid (w6.heap[wA.heap.size]? = some (.cells #[.int .u8 (c.aq k % 256)] 5)) := gb_block gb6 gT.out VT.out
        have VL : Hid (v6.ownBlock ≠ some wr.heap.size) := fun e => (a6 _ e).elim VA.out (fun q => by have := heap_in gA.out; simp at q; omega)
        refine hK.out _ _ gL (fun hHeld => ?_)
        clear hK K o6 n6 gb6 a6
        simp only [Act.put, List.setIfInBounds_toArray, List.set_cons_zero, List.set_cons_succ]
        refine wpAnyH_ready (rs := [8]) (by kernel_rfl) (by simp) ?_
        refine AllReadyH.cons (o := { dst := Option.some 26, op := Go.Op.call { callee := Go.Callee.builtin Go.Builtin.append, args := #[Go.Operand.tmp 21, Go.Operand.tmp 25], argTypes := #[22, 22] }, type := 22, pos := "write.go:61", after := #[{ on := 3, ground := Go.Ground.data }, { on := 7, ground := Go.Ground.data }, { on := 3, ground := Go.Ground.chain }], guard := Option.none }) (by rfl) (fun K hK => ?_) AllReadyH.nil
        refine step_push rfl (.tmp 21) (.tmp 25) 22 rfl w0.heap.size 5 i0 (.int .u8 0) 1 1 Tryz.underlying22 hi hz0 hz1 hz2 rfl (by decide) v6 _ _ rfl L6.out.own ⟨wA.heap.size, 0, none⟩ 1 1 [.int .u8 (c.aq k % 256)] rfl (by decide) rfl ?_ ?_ ?_ ?_ ?_ ?_
        · intro j u hu
          rw [plain_add, Nat.zero_add]
          exact box_cells gS.out j _ (by simpa using hu)
        · intro u hu; simp at hu; subst hu; rfl
        · have h1 := HN.out; have h2 := sumN_le (fun i => 3 + (c.af i).size) (k := k + 1) (n := p.asks.n) (by rw [← HAN.out]; exact hk); rw [sumN_succ] at h2; unfold maxLen; omega
        · have h1 := HN.out; have h2 := sumN_le (fun i => 3 + (c.af i).size) (k := k + 1) (n := p.asks.n) (by rw [← HAN.out]; exact hk); rw [sumN_succ] at h2; omega
        · exact Nat.le_trans HB.out L6.out.size
        intro v8 w8 o8 gb8 n8 wh8
        have L8 : Hid (Lay w0.heap.size v W w8 v8 _ _) := L6.out.add ⟨v8, rfl, o8, n8, gb8, fun j e => by
          rcases wh8 with h | h
          · exact .inl (h ▸ e)
          · rw [h] at e; cases e; exact .inr (Nat.le_refl _)⟩
        refine hK.out _ _ (gb_block gb8 gL.out VL.out) (fun hHeld => ?_)
        clear hK K o8 gb8 n8 wh8
        simp only [Act.put, List.setIfInBounds_toArray, List.set_cons_zero, List.set_cons_succ]
        refine wpAnyH_take (i := 9) (oi := { dst := Option.some 0, op := Go.Op.assign (Go.Operand.tmp 26), type := 22, pos := "write.go:61", after := #[{ on := 8, ground := Go.Ground.data }, { on := 8, ground := Go.Ground.chain }, { on := 0, ground := Go.Ground.phase }, { on := 1, ground := Go.Ground.phase }, { on := 2, ground := Go.Ground.phase }, { on := 3, ground := Go.Ground.phase }, { on := 4, ground := Go.Ground.phase }, { on := 5, ground := Go.Ground.phase }, { on := 6, ground := Go.Ground.phase }, { on := 7, ground := Go.Ground.phase }, { on := 8, ground := Go.Ground.phase }], guard := Option.none }) (v := v8) rfl (by kernel_rfl) (by kernel_rfl) (by kernel_rfl) (fun _ _ _ h => h) (Or.inl ⟨by kernel_rfl, fun wq _ => pureVal_run (by kernel_rfl) wq⟩) hHeld ?_
        simp only [Act.put, List.setIfInBounds_toArray, List.set_cons_zero, List.set_cons_succ]
        refine wpAnyH_done (by kernel_rfl) ?_ _
        have L9 : Hid (Lay w0.heap.size v W w8 v8 (n + sumN (fun i => 3 + (c.af i).size) (k + 1)) (xs ++ asksL c.af c.aq (k + 1))) := L8.out.cast (by rw [sumN_succ]; omega) (by simp only [asksL, tx, List.append_assoc])
        clear hHeld L8
        go_wp2_with fail
        go_roundg gg
        case measure => omega
        case rel => exact ⟨k + 1, by first | rfl | simp, by omega, L9⟩
    · obtain rfl : k = an := by omega
      have hk' : ¬ (k : Int) < k := by omega
      have LX : Hid (Lay w0.heap.size v W wr u0 (n + sumN (fun i => 3 + (c.af i).size) p.asks.n) (xs ++ asksL c.af c.aq p.asks.n)) := by have h := L1.out; rw [HAN.out] at h; exact h
      have gX : Hid (wr.heap[w.heap.size]? = some (.cells cs 29)) := LX.out.block g0.out HV.out
      have c23 := box_cells gX.out 23 _ k23.out
      clear L1
      go_wp2_with fail
      clear c23
      go_loopg [0, 31] cn (fun gg s0 s31 wx => ∃ (k : Nat), s31 = .int .i64 k ∧ k + gg = cn ∧ Hid (Lay w0.heap.size v W wx s0 (n + sumN (fun i => 3 + (c.af i).size) p.asks.n + k) (xs ++ asksL c.af c.aq p.asks.n ++ codesL c.cs k)))
      case atStart => exact ⟨0, rfl, by omega, LX.out.cast (by simp) (by simp [codesL])⟩
      case round =>
        clear hk hk' hkg
        obtain ⟨k, rfl, hkg, L1⟩ := hrel
        by_cases hk : k < cn
        · have hk' : (k : Int) < cn := by omega
          have BR : Hid (Below w0.heap.size w0 wr) := BW.out.trans (L1.out.old HB.out HOB.out)
          obtain ⟨b, off, he, hc⟩ : ∃ b off, ca = some ⟨b, off, none⟩ ∧ ∀ i, i < p.codes.n → w0.cell? ⟨b, off + i, none⟩ = some (.int .i64 (c.cs i)) := by
            rcases OK.out.is_.2 with h | h
            · have := HCN.out; omega
            · rw [← HCA.out] at h; exact h
          subst he
          have hac : cn ≤ p.codes.c := by rw [HCN.out]; exact OK.out.is_.1
          have c0 := cell_later BR.out (hc k (by rw [← HCN.out]; exact hk))
          obtain ⟨gg, hg⟩ : ∃ gg, gk = gg + 1 := ⟨gk - 1, by omega⟩
          clear hc
          have LB : Hid (Lay w0.heap.size v W (wr.alloc (.cells #[.int .u8 (c.cs k % 256)] 5)) u0 _ _) := L1.out.below ((Below.refl _ _).alloc (Nat.le_refl _) _)
          have gS : Hid ((wr.alloc (.cells #[.int .u8 (c.cs k % 256)] 5)).heap[wr.heap.size]? = some (.cells #[.int .u8 (c.cs k % 256)] 5)) := heap_alloc_new wr _
          have YB : Hid (By (wr.alloc (.cells #[.int .u8 (c.cs k % 256)] 5)) ⟨some ⟨wr.heap.size, 0, none⟩, 1, 1⟩ (fun _ => c.cs k % 256)) := ⟨Nat.le_refl _, fun _ => ⟨by show (0 : Int) ≤ c.cs k % 256; omega, by show c.cs k % 256 ≤ (255 : Int); omega⟩, .inr ⟨wr.heap.size, 0, rfl, fun i hi => by
            have : i = 0 := by simp at hi; omega
            subst this; exact box_cells gS.out 0 _ rfl⟩⟩
          go_wp2_with (at_builtin; (refine wpList_push_by rfl (.tmp 35) (.tmp 38) rfl w0.heap.size _ u0 _ rfl LB.out.own LB.out.ne ⟨some ⟨wr.heap.size, 0, none⟩, 1, 1⟩ (fun _ => c.cs k % 256) rfl YB.out (by have h1 := HN.out; have h3 := HCN.out; omega) (by show 1 ≤ 1400000; omega) (Nat.le_trans HB.out LB.out.size) ?_))
          intro v3 w3 ad3
          have L3 : Hid (Lay w0.heap.size v W w3 v3 (n + sumN (fun i => 3 + (c.af i).size) p.asks.n + (k + 1)) (xs ++ asksL c.af c.aq p.asks.n ++ codesL c.cs (k + 1))) := (LB.out.add ad3).cast rfl (by simp only [codesL, List.append_assoc]; rfl)
          clear ad3 c0 LB gS YB
          go_wp2_with fail
          go_roundg gg
          case measure => omega
          case rel => exact ⟨k + 1, by first | rfl | simp, by omega, L3⟩
        · obtain rfl : k = cn := by omega
          have hk' : ¬ (k : Int) < k := by omega
          have LY : Hid (Lay w0.heap.size v W wr u0 (n + sumN (fun i => 3 + (c.af i).size) p.asks.n + p.codes.n) (xs ++ asksL c.af c.aq p.asks.n ++ codesL c.cs p.codes.n)) := by have h := L1.out; rw [HCN.out] at h; exact h
          have gY : Hid (wr.heap[w.heap.size]? = some (.cells cs 29)) := LY.out.block g0.out HV.out
          have c24 := box_cells gY.out 24 _ k24.out
          clear L1
          go_wp2_with fail
          clear c24
          go_loopg [0, 44] fn (fun gg s0 s44 wx => ∃ (k : Nat), s44 = .int .i64 k ∧ k + gg = fn ∧ Hid (Lay w0.heap.size v W wx s0 (n + sumN (fun i => 3 + (c.af i).size) p.asks.n + p.codes.n + sumN (fun i => 2 + (c.fs i).size) k) (xs ++ asksL c.af c.aq p.asks.n ++ codesL c.cs p.codes.n ++ filtL c.fs k)))
          case atStart => exact ⟨0, rfl, by omega, LY.out.cast (by simp [sumN]) (by simp [filtL])⟩
          case round =>
            clear hk hk' hkg
            obtain ⟨k, rfl, hkg, L1⟩ := hrel
            by_cases hk : k < fn
            · have hk' : (k : Int) < fn := by omega
              have BR : Hid (Below w0.heap.size w0 wr) := BW.out.trans (L1.out.old HB.out HOB.out)
              obtain ⟨b, off, he, hc⟩ : ∃ b off, fa = some ⟨b, off, none⟩ ∧ ∀ i, i < p.filters.n → w0.cell? ⟨b, off + i, none⟩ = some (.string (c.fs i)) := by
                rcases OK.out.ss_.2 with h | h
                · have := HFN.out; omega
                · rw [← HFA.out] at h; exact h
              subst he
              have hac : fn ≤ p.filters.c := by rw [HFN.out]; exact OK.out.ss_.1
              have c0 := cell_later BR.out (hc k (by rw [← HFN.out]; exact hk))
              obtain ⟨gg, hg⟩ : ∃ gg, gk = gg + 1 := ⟨gk - 1, by omega⟩
              clear hc
              go_wp2_with fail
              go_must (go_at_call 259)
              refine (wText_any w0.heap.size _ u0 _ (c.fs k) wr L1.out.own (Nat.le_trans HB.out L1.out.size) (by have h1 := HN.out; have h2 := sumN_le (fun i => 2 + (c.fs i).size) (k := k + 1) (n := p.filters.n) (by rw [← HFN.out]; exact hk); rw [sumN_succ] at h2; omega) (OK.out.fs k (by rw [← HFN.out]; exact hk)).1 (OK.out.fs k (by rw [← HFN.out]; exact hk)).2).mono ?_
              rintro e w3 ⟨v3, rfl, r3⟩
              have L3 : Hid (Lay w0.heap.size v W w3 v3 (n + sumN (fun i => 3 + (c.af i).size) p.asks.n + p.codes.n + sumN (fun i => 2 + (c.fs i).size) (k + 1)) (xs ++ asksL c.af c.aq p.asks.n ++ codesL c.cs p.codes.n ++ filtL c.fs (k + 1))) := (L1.out.add ⟨v3, rfl, r3⟩).cast (by rw [sumN_succ]; omega) (by simp only [filtL, tx, List.append_assoc])
              clear r3 c0
              go_wp2_with fail
              go_roundg gg
              case measure => omega
              case rel => exact ⟨k + 1, by first | rfl | simp, by omega, L3⟩
            · obtain rfl : k = fn := by omega
              have hk' : ¬ (k : Int) < k := by omega
              have LZ : Hid (Lay w0.heap.size v W wr u0 (n + sumN (fun i => 3 + (c.af i).size) p.asks.n + p.codes.n + sumN (fun i => 2 + (c.fs i).size) p.filters.n) (xs ++ asksL c.af c.aq p.asks.n ++ codesL c.cs p.codes.n ++ filtL c.fs p.filters.n)) := by have h := L1.out; rw [HFN.out] at h; exact h
              go_wp2_with fail
              go_ret
              exact Lay.done b0.out (LZ.out.cast rfl (by simp only [List.append_assoc]))
set_option maxHeartbeats 4000000
theorem wFields_more (w0 w : World) (p : Pk) (v : Value) (n : Nat) (xs : List Value) (hk : p.kind = 4 ∨ p.kind = 5 ∨ p.kind = 6 ∨ p.kind = 7 ∨ p.kind = 8 ∨ p.kind = 9 ∨ p.kind = 10 ∨ p.kind = 11) (h : w.ownsRow w0.heap.size 5 1 v n xs) (hv : v ≠ .slice none 0 0) (hb0 : Below w0.heap.size w0 w) (hn : n ≤ 10) (m : Nat) (Z : List Value)
    (HC : ∀ (W : World) (u : Value) (i : Nat) (ys : List Value), W.ownsRow w0.heap.size 5 1 u i ys → u ≠ .slice none 0 0 → Below w0.heap.size w0 W → i = n + 2 → Calls Tryz.prog 224 #[u, .agg (pkCells p)] W fun e w' => Adds w0.heap.size u W w' e (i + m) (ys ++ Z)) :
    Calls Tryz.prog 146 #[v, .agg (pkCells p)] w fun e w' => Adds w0.heap.size v w w' e (n + 2 + m) (xs ++ cellsOf (numZ p.id) 2 ++ Z) := by
  obtain ⟨W, hW⟩ : ∃ W, W = w.alloc (.cells (pkCells p) 29) := ⟨_, rfl⟩
  have b0 : Hid (Below w.heap.size w W) := box_below hW
  have g0 : Hid (W.heap[w.heap.size]? = some (.cells (pkCells p) 29)) := by show _ = _; rw [hW]; exact heap_alloc_new w _
  have k0 : W.cell? ⟨w.heap.size, 0, none⟩ = some (.int .i64 p.kind) := box_cells g0.out 0 _ rfl
  have HV : Hid (v.ownBlock ≠ some w.heap.size) := fun e => by have := (h.lt _ e).2; omega
  have HOB : Hid (∀ k, v.ownBlock = some k → w0.heap.size ≤ k) := fun k e => (h.lt k e).1
  have HB : Hid (w0.heap.size ≤ W.heap.size) := Nat.le_trans hb0.size b0.out.size
  have BW : Hid (Below w0.heap.size w0 W) := hb0.trans (b0.out.mono hb0.size)
  have L0 : Hid (Lay w0.heap.size v W W.drew v n xs) := (Lay.start (own_below h b0.out) hv).below (Below.refl _ _).drew
  have HN : Hid (n ≤ 10) := hn
  have HL : Hid (∀ (W : World) (u : Value) (i : Nat) (ys : List Value), W.ownsRow w0.heap.size 5 1 u i ys → u ≠ .slice none 0 0 → Below w0.heap.size w0 W → i = n + 2 → Calls Tryz.prog 224 #[u, .agg (pkCells p)] W fun e w' => Adds w0.heap.size u W w' e (i + m) (ys ++ Z)) := HC
  obtain ⟨cs, hcs⟩ : ∃ cs, cs = pkCells p := ⟨_, rfl⟩
  have hsz : Hid (cs.size = 25) := by show _ = _; rw [hcs]; rfl
  have k21 : Hid (cs[21]? = some (.int .i64 p.id)) := by show _ = _; rw [hcs]; rfl
  rw [← hcs] at HL g0 ⊢
  rw [← hcs] at hW
  rcases hk with hk | hk | hk | hk | hk | hk | hk | hk <;> rw [hk] at k0
  all_goals
    clear hcs hk h hv hb0 hn HC
    go_enter Tryz.func146, Tryz.ntmps146
    go_upto_region 1 with fail
    rw [← hW]
    clear hW
    go_upto_region 12 with fail
    refine wp_region_held_drew (S := fun w' => Hid (w'.heap[w.heap.size]? = some (.cells cs 29))) (by kernel_rfl) g0 (fun hHeld => ?_)
    refine wpAnyH_take (i := 0) (oi := { dst := Option.some 33, op := Go.Op.move (Go.Operand.tmp 0), type := 22, pos := "write.go:20", after := #[], guard := Option.none }) (v := v) rfl (by kernel_rfl) (by kernel_rfl) (by kernel_rfl) (fun _ _ _ h => h) (Or.inl ⟨by kernel_rfl, fun wq _ => pureVal_run (by kernel_rfl) wq⟩) hHeld ?_
    simp only [Act.put, List.setIfInBounds_toArray, List.set_cons_zero, List.set_cons_succ]
    refine wpAnyH_take (i := 1) (oi := { dst := Option.some 34, op := Go.Op.fieldAddr 29 (Go.Operand.tmp 3) 15, type := 0, pos := "write.go:20", after := #[], guard := Option.none }) (v := .pointer (some ⟨w.heap.size, 21, none⟩)) rfl (by kernel_rfl) (by kernel_rfl) (by kernel_rfl) (fun _ _ _ h => h) (Or.inl ⟨by kernel_rfl, by intro wq hSw; clear hSw hHeld; go_simp⟩) hHeld ?_
    simp only [Act.put, List.setIfInBounds_toArray, List.set_cons_zero, List.set_cons_succ]
    refine wpAnyH_take (i := 2) (oi := { dst := Option.some 35, op := Go.Op.load 3 (Go.Operand.tmp 34), type := 3, pos := "write.go:20", after := #[{ on := 1, ground := Go.Ground.data }], guard := Option.none }) (v := .int .i64 p.id) rfl (by kernel_rfl) (by kernel_rfl) (by kernel_rfl) (fun _ _ _ h => h) (Or.inl ⟨by kernel_rfl, by intro wq hSw; have hk := box_cells (Hid.out hSw) 21 _ k21.out; clear hSw hHeld; go_simp⟩) hHeld ?_
    simp only [Act.put, List.setIfInBounds_toArray, List.set_cons_zero, List.set_cons_succ]
    refine wpAnyH_take (i := 4) (oi := { dst := Option.some 37, op := Go.Op.load 29 (Go.Operand.tmp 3), type := 29, pos := "write.go:20", after := #[], guard := Option.none }) (v := .agg cs) rfl (by kernel_rfl) (by kernel_rfl) (by kernel_rfl) (fun _ _ _ h => h) (Or.inl ⟨by kernel_rfl, fun wq hSw => yields_load29 rfl (by rfl) (Hid.out hSw) hsz.out⟩) hHeld ?_
    simp only [Act.put, List.setIfInBounds_toArray, List.set_cons_zero, List.set_cons_succ]
    refine wpAnyH_ready (rs := [3]) (by kernel_rfl) (by simp) ?_
    refine AllReadyH.cons (o := { dst := Option.some 36, op := Go.Op.call { callee := Go.Callee.value (Go.Operand.func 225), args := #[Go.Operand.tmp 33, Go.Operand.tmp 35], argTypes := #[22, 3] }, type := 22, pos := "write.go:20", after := #[{ on := 0, ground := Go.Ground.data }, { on := 2, ground := Go.Ground.data }], guard := Option.none }) (by rfl) (fun K hK => ?_) AllReadyH.nil
    refine held_call (by kernel_rfl) 225 #[v, .int .i64 p.id] (by clear hHeld hK; go_simp) (R := fun x w' => Adds w0.heap.size v W.drew w' (.returned x) _ _) ((wNumber_any w0.heap.size _ v _ p.id W.drew L0.out.own HB.out (by have := HN.out; omega)).mono fun e w' ha => ⟨ha.choose, ha.choose_spec.1, ⟨ha.choose, rfl, ha.choose_spec.2⟩⟩) ?_
    intro v6 w6 r6
    have L6 : Hid (Lay w0.heap.size v W w6 v6 _ _) := L0.out.add r6
    have g6 : Hid (w6.heap[w.heap.size]? = some (.cells cs 29)) := L6.out.block g0.out HV.out
    refine hK.out _ _ g6 (fun hHeld => ?_)
    clear hK K r6
    simp only [Act.put, List.setIfInBounds_toArray, List.set_cons_zero, List.set_cons_succ]
    refine wpAnyH_ready (rs := [5]) (by kernel_rfl) (by simp) ?_
    refine AllReadyH.cons (o := { dst := Option.some 38, op := Go.Op.call { callee := Go.Callee.value (Go.Operand.func 224), args := #[Go.Operand.tmp 36, Go.Operand.tmp 37], argTypes := #[22, 29] }, type := 22, pos := "write.go:20", after := #[{ on := 3, ground := Go.Ground.data }, { on := 4, ground := Go.Ground.data }, { on := 3, ground := Go.Ground.chain }], guard := Option.none }) (by rfl) (fun K hK => ?_) AllReadyH.nil
    have B6 : Hid (Below w0.heap.size w0 w6) := BW.out.trans (L6.out.old HB.out HOB.out)
    refine held_call (by kernel_rfl) 224 #[v6, .agg cs] (by clear hHeld hK; go_simp) (R := fun x w' => Adds w0.heap.size v6 w6 w' (.returned x) _ _) ((HL.out w6 v6 _ _ L6.out.own L6.out.ne B6.out rfl).mono fun e w' ha => ⟨ha.choose, ha.choose_spec.1, ⟨ha.choose, rfl, ha.choose_spec.2⟩⟩) ?_
    intro v7 w7 r7
    have L7 : Hid (Lay w0.heap.size v W w7 v7 _ _) := L6.out.add r7
    have g7 : Hid (w7.heap[w.heap.size]? = some (.cells cs 29)) := L7.out.block g0.out HV.out
    refine hK.out _ _ g7 (fun hHeld => ?_)
    clear hK K r7
    simp only [Act.put, List.setIfInBounds_toArray, List.set_cons_zero, List.set_cons_succ]
    refine wpAnyH_take (i := 6) (oi := { dst := Option.some 4, op := Go.Op.assign (Go.Operand.tmp 38), type := 22, pos := "write.go:20", after := #[{ on := 5, ground := Go.Ground.data }, { on := 5, ground := Go.Ground.chain }, { on := 0, ground := Go.Ground.phase }, { on := 1, ground := Go.Ground.phase }, { on := 2, ground := Go.Ground.phase }, { on := 3, ground := Go.Ground.phase }, { on := 4, ground := Go.Ground.phase }, { on := 5, ground := Go.Ground.phase }], guard := Option.none }) (v := v7) rfl (by kernel_rfl) (by kernel_rfl) (by kernel_rfl) (fun _ _ _ h => h) (Or.inl ⟨by kernel_rfl, fun wq _ => pureVal_run (by kernel_rfl) wq⟩) hHeld ?_
    simp only [Act.put, List.setIfInBounds_toArray, List.set_cons_zero, List.set_cons_succ]
    refine wpAnyH_done (by kernel_rfl) ?_ _
    clear hHeld k0
    go_wp2_with fail
    go_ret
    exact Lay.done b0.out (L7.out.cast rfl (by simp only [List.append_assoc]))
open Pkt (Pk Cn Sl In By Is Ss As pkCells Gd sumN)
def fieldsL (p : Pk) (c : Cn) : List Value :=
 if p.kind = 1 then connL p c.wz c.pz else if p.kind = 2 then [.int .u8 (mkU p.present 1), .int .u8 (p.code % 256)] else if p.kind = 3 then pubL p c.mz
 else if 12 ≤ p.kind then [] else cellsOf (numZ p.id) 2 ++ (asksL c.af c.aq p.asks.n ++ codesL c.cs p.codes.n ++ filtL c.fs p.filters.n)
open Pkt (Right TT txt topb flt ct ct_zero txt_size allN_iff)
theorem txt_ok {s : ByteArray} (h : txt s = true) : s.size ≤ 65535 ∧ (chk s).2 = 0 := by
 refine ⟨txt_size h, ?_⟩
 simp only [txt, beq_iff_eq] at h; omega
theorem ct_ok {s : ByteArray} (h : ct s = 0) : s.size ≤ 65535 ∧ (chk s).2 = 0 := by
 cases ht : txt s with
 | true => exact txt_ok ht
 | false => exfalso; unfold ct at h; simp [ht] at h; split at h <;> omega
theorem flt_ok {s : ByteArray} (h : flt s = true) : s.size ≤ 65535 ∧ (chk s).2 = 0 := by
 refine ct_ok ?_
 simp only [flt, Pkt.fcode, Pkt.rfc, beq_iff_eq] at h
 split at h <;> assumption
theorem top_ok {s : ByteArray} (h : topb s = true) : s.size ≤ 65535 ∧ (chk s).2 = 0 := by
 refine ct_ok ?_
 simp only [topb, Pkt.tcode, beq_iff_eq] at h
 split at h <;> assumption
theorem wFields_any (w0 w : World) (p : Pk) (c : Cn) (v : Value) (n : Nat) (xs : List Value) (r : Right TT p c) (hin : In w0 p c) (hsz : Pkt.sz p c ≤ 1299990) (h : w.ownsRow w0.heap.size 5 1 v n xs) (hv : v ≠ .slice none 0 0) (hb0 : Below w0.heap.size w0 w) (hn : n ≤ 10) :
    Calls Tryz.prog 146 #[v, .agg (pkCells p)] w fun e w' => Adds w0.heap.size v w w' e (n + Pkt.sz p c) (xs ++ fieldsL p c) := by
  have hown : ∀ W, Below w.heap.size w W → W.ownsRow w0.heap.size 5 1 v n xs := fun W hb => own_below h hb
  have hbel : ∀ W, Below w.heap.size w W → Below w0.heap.size w0 W := fun W hb => hb0.trans (hb.mono hb0.size)
  have hQ := r.ql
  simp only [Pkt.qls, Bool.and_eq_true, Pkt.isQ, decide_eq_true_eq] at hQ
  by_cases k1 : p.kind = 1
  · have hc : ConnOk w0 p c.wz c.pz := by
      refine ⟨txt_ok r.t1, fun hw => ?_, fun _ => r.s1, fun _ => txt_ok r.t2, fun _ => r.s2, by omega, hin.wP, hin.pass⟩
      have := r.tp
      simp [Pkt.tps, hw, k1] at this
      exact top_ok this
    have e1 : Pkt.sz p c = connN p := by unfold Pkt.sz; rw [if_pos k1]; rfl
    have e2 : fieldsL p c = connL p c.wz c.pz := by unfold fieldsL; rw [if_pos k1]
    rw [e1, e2]
    exact wFields_one w0 w p v n xs k1 _ _ (fun W hb => wConnect_any w0 W p c.wz c.pz v n xs (hown W hb) hv (hbel W hb) hc hn)
  by_cases k2 : p.kind = 2
  · have e1 : Pkt.sz p c = 2 := by unfold Pkt.sz; rw [if_neg k1, if_pos k2]
    have e2 : fieldsL p c = [.int .u8 (mkU p.present 1), .int .u8 (p.code % 256)] := by unfold fieldsL; rw [if_neg k1, if_pos k2]
    rw [e1, e2]
    exact wFields_ack w0.heap.size w p v n xs k2 h hv hb0.size (by omega)
  by_cases k3 : p.kind = 3
  · have e1 : Pkt.sz p c = pubN p := by
      unfold Pkt.sz pubN Pkt.nid Pkt.hasID
      rw [if_neg k1, if_neg k2, if_pos k3]
      by_cases hq : p.mQ = 0
      · simp [k3, hq]
      · have : 0 < p.mQ := by omega
        simp [k3, hq, this]; omega
    have e2 : fieldsL p c = pubL p c.mz := by unfold fieldsL; rw [if_neg k1, if_neg k2, if_pos k3]
    have ht : topb p.mT = true := by have := r.tp; simp [Pkt.tps, k3] at this; exact this.2
    rw [e1] at hsz
    rw [e1, e2]
    exact wFields_three w0 w p v n xs k3 _ _ (fun W hb => wPub_any w0 W p c.mz v n xs (hown W hb) hv (hbel W hb) hin.mP hn (by unfold pubN at hsz; omega) (top_ok ht).1 (top_ok ht).2)
  by_cases k12 : 12 ≤ p.kind
  · have a8 := r.own.asks (by omega)
    have a9 := r.own.codes (by omega)
    have a10 := r.own.filters (by omega)
    have e1 : Pkt.sz p c = 0 := by
      unfold Pkt.sz Pkt.nid Pkt.hasID
      rw [if_neg k1, if_neg k2, if_neg k3, a8, a9, a10]
      have : ¬ p.kind ≤ 11 := by omega
      simp [k3, this, sumN]
    have e2 : fieldsL p c = [] := by unfold fieldsL; rw [if_neg k1, if_neg k2, if_neg k3, if_pos k12]
    rw [e1, e2, Nat.add_zero, List.append_nil]
    have : p.kind = 12 ∨ p.kind = 13 ∨ p.kind = 14 := by have := r.k2; omega
    rcases this with k | k | k
    · exact wFields_no12 w0.heap.size w p v n xs k h hv
    · exact wFields_no13 w0.heap.size w p v n xs k h hv
    · exact wFields_no14 w0.heap.size w p v n xs k h hv
  · have hk4 : 4 ≤ p.kind := by have := r.k1; omega
    have e1 : Pkt.sz p c = 2 + (sumN (fun i => 3 + (c.af i).size) p.asks.n + p.codes.n + sumN (fun i => 2 + (c.fs i).size) p.filters.n) := by
      unfold Pkt.sz Pkt.nid Pkt.hasID
      rw [if_neg k1, if_neg k2, if_neg k3]
      have : p.kind ≤ 11 := by omega
      simp [k3, this, hk4]; omega
    have e2 : fieldsL p c = cellsOf (numZ p.id) 2 ++ (asksL c.af c.aq p.asks.n ++ codesL c.cs p.codes.n ++ filtL c.fs p.filters.n) := by unfold fieldsL; rw [if_neg k1, if_neg k2, if_neg k3, if_neg k12]
    have hft := r.ft
    simp only [Pkt.flts, Bool.and_eq_true, allN_iff] at hft
    have lo : ListsOk w0 p c := ⟨fun i hi => flt_ok (hft.1 i hi), fun i hi => flt_ok (hft.2 i hi), hin.asks, hin.codes, hin.filters⟩
    rw [e1] at hsz
    have HC : ∀ (W : World) (u : Value) (i : Nat) (ys : List Value), W.ownsRow w0.heap.size 5 1 u i ys → u ≠ .slice none 0 0 → Below w0.heap.size w0 W → i = n + 2 → Calls Tryz.prog 224 #[u, .agg (pkCells p)] W fun e w' => Adds w0.heap.size u W w' e (i + (sumN (fun i => 3 + (c.af i).size) p.asks.n + p.codes.n + sumN (fun i => 2 + (c.fs i).size) p.filters.n)) (ys ++ (asksL c.af c.aq p.asks.n ++ codesL c.cs p.codes.n ++ filtL c.fs p.filters.n)) := by
      intro W u i ys h1 h2 h3 h4
      have := wLists_any w0 W p c u i ys h1 h2 h3 lo (by omega)
      simp only [List.append_assoc, Nat.add_assoc] at this ⊢
      exact this
    rw [e1, e2, ← Nat.add_assoc, ← List.append_assoc]
    have : p.kind = 4 ∨ p.kind = 5 ∨ p.kind = 6 ∨ p.kind = 7 ∨ p.kind = 8 ∨ p.kind = 9 ∨ p.kind = 10 ∨ p.kind = 11 := by omega
    exact wFields_more w0 w p v n xs this h hv hb0 hn _ _ HC
end Go.Proofs.YtphofgnehdlafaaGreatDoor
