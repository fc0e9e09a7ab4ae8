import Derived.Test.YtibihbclijpkjaaGreatDoorGk
namespace Go.Proofs.YtibihbclijpkjaaGreatDoor
open Go Go.RowKit
open Pkt (Pk Cn Sl In By Is Ss As pkCells Gd wpList_load_wanted box_below)
set_option linter.unusedSimpArgs false
set_option linter.unusedVariables false

/-- A Publish's cells. -/
def pubL (p : Pk) (z : Nat → Int) : List Value := tx p.mT ++ (if 0 < p.mQ then cellsOf (numZ p.id) 2 else []) ++ cellsOf z p.mP.n
def pubN (p : Pk) : Nat := 2 + p.mT.size + (if 0 < p.mQ then 2 else 0) + p.mP.n

set_option maxRecDepth 100000 in
set_option maxHeartbeats 2000000 in
theorem wPub_any (w0 w : World) (p : Pk) (z : Nat → Int) (v : Value) (n : Nat) (xs : List Value) (h : w.ownsRow w0.heap.size 5 1 v n xs) (hv : v ≠ .slice none 0 0) (hb0 : Below w0.heap.size w0 w) (hp : By w0 p.mP z) (hn : n ≤ 10) (hm : p.mP.n ≤ 300000) (hs : p.mT.size ≤ 65535) (hc : (chk p.mT).2 = 0) :
    Calls Tryz.prog 68 #[v, .agg (pkCells p)] w fun e w' => Adds w0.heap.size v w w' e (n + pubN p) (xs ++ pubL p z) := by
  obtain ⟨W, hW⟩ : ∃ W, W = w.alloc (.cells (pkCells p) 29) := ⟨_, rfl⟩
  have b0 : Hid (Below w.heap.size w W) := box_below hW
  have g0 : Hid (W.heap[w.heap.size]? = some (.cells (pkCells p) 29)) := by show _ = _; rw [hW]; exact heap_alloc_new w _
  have HV : Hid (v.ownBlock ≠ some w.heap.size) := fun e => by have := (h.lt _ e).2; omega
  have HOB : Hid (∀ k, v.ownBlock = some k → w0.heap.size ≤ k) := fun k e => (h.lt k e).1
  have L0 : Hid (Lay w0.heap.size v W W v n xs) := Lay.start (own_below h b0.out) hv
  have HB : Hid (w0.heap.size ≤ W.heap.size) := Nat.le_trans hb0.size b0.out.size
  have BW : Hid (Below w0.heap.size w0 W) := hb0.trans (b0.out.mono hb0.size)
  have HP : Hid (By w0 p.mP z) := hp
  have HN : Hid (n ≤ 10 ∧ p.mP.n ≤ 300000 ∧ p.mT.size ≤ 65535 ∧ (chk p.mT).2 = 0) := ⟨hn, hm, hs, hc⟩
  obtain ⟨cs, hcs⟩ : ∃ cs, cs = pkCells p := ⟨_, rfl⟩
  have k17 : Hid (cs[17]? = some (.string p.mT)) := by show _ = _; rw [hcs]; rfl
  have k18 : Hid (cs[18]? = some (.slice p.mP.a p.mP.n p.mP.c)) := by show _ = _; rw [hcs]; rfl
  have k19 : Hid (cs[19]? = some (.int .i64 p.mQ)) := by show _ = _; rw [hcs]; rfl
  have k21 : Hid (cs[21]? = some (.int .i64 p.id)) := by show _ = _; rw [hcs]; rfl
  rw [← hcs] at g0 ⊢
  rw [← hcs] at hW
  clear hcs h hb0 hp hn hm hs hc hv
  have c17 := box_cells g0.out 17 _ k17.out
  go_enter Tryz.func68, Tryz.ntmps68
  go_upto_region 1 with fail
  rw [← hW]
  clear hW
  go_wp2_with fail
  go_must (go_at_call 88)
  refine (wText_any w0.heap.size n v xs p.mT W L0.out.own HB.out (by have := HN.out; omega) HN.out.2.2.1 HN.out.2.2.2).mono ?_
  rintro e w1 ⟨v1, rfl, r1⟩
  have L1 : Hid (Lay w0.heap.size v W w1 v1 _ _) := L0.out.add ⟨v1, rfl, r1⟩
  have g1 : Hid (w1.heap[w.heap.size]? = some (.cells cs 29)) := L1.out.block g0.out HV.out
  have c19 := box_cells g1.out 19 _ k19.out
  have c21 := box_cells g1.out 21 _ k21.out
  clear r1 c17
  by_cases hq : 0 < p.mQ
  · go_wp2_with fail
    go_must (go_at_call 70)
    refine (wNumber_any w0.heap.size _ v1 _ p.id w1 L1.out.own (Nat.le_trans HB.out L1.out.size) (by have := HN.out; omega)).mono ?_
    rintro e w2 ⟨v2, rfl, r2⟩
    have L2 : Hid (Lay w0.heap.size v W w2 v2 _ _) := L1.out.add ⟨v2, rfl, r2⟩
    have g2 : Hid (w2.heap[w.heap.size]? = some (.cells cs 29)) := L2.out.block g0.out HV.out
    have Y2 : Hid (By w2 p.mP z) := HP.out.below (BW.out.trans (L2.out.old HB.out HOB.out))
    have c18 := box_cells g2.out 18 _ k18.out
    clear r2 c19 c21
    go_wp2_with (at_builtin; refine wpList_push_by rfl (.tmp 18) (.tmp 21) rfl w0.heap.size _ v2 _ rfl L2.out.own L2.out.ne p.mP z rfl Y2.out (by have := HN.out; omega) (by have := HN.out; omega) (Nat.le_trans HB.out L2.out.size) ?_)
    intro v3 w3 ad3
    have L3 : Hid (Lay w0.heap.size v W w3 v3 _ _) := L2.out.add ad3
    clear ad3 c18
    go_wp2_with fail
    go_ret
    exact Lay.done b0.out (L3.out.cast (by simp only [pubN, hq, if_true]; omega) (by simp only [pubL, tx, hq, if_true, List.append_assoc]))
  · have hq2 : Hid (¬ 0 < p.mQ) := hq
    have c18 := box_cells g1.out 18 _ k18.out
    have Y2 : Hid (By w1 p.mP z) := HP.out.below (BW.out.trans (L1.out.old HB.out HOB.out))
    go_wp2_with (at_builtin; refine wpList_push_by rfl (.tmp 18) (.tmp 21) rfl w0.heap.size _ v1 _ rfl L1.out.own L1.out.ne p.mP z rfl Y2.out (by have := HN.out; omega) (by have := HN.out; omega) (Nat.le_trans HB.out L1.out.size) ?_)
    intro v3 w3 ad3
    have L3 : Hid (Lay w0.heap.size v W w3 v3 _ _) := L1.out.add ad3
    clear ad3 c18
    go_wp2_with fail
    go_ret
    exact Lay.done b0.out (L3.out.cast (by simp only [pubN, if_neg (Int.not_lt.mpr hq2.out)]; omega) (by simp only [pubL, tx, if_neg (Int.not_lt.mpr hq2.out), List.append_assoc, List.nil_append, List.append_nil]))

theorem Adds.before {B : Nat} {v : Value} {w W w' : World} {e : Ending} {n : Nat} {xs : List Value} (hb : Below w.heap.size w W) (h : Adds B v W w' e n xs) : Adds B v w w' e n xs := by
  obtain ⟨u, he, o, ne, g, a⟩ := h
  exact ⟨u, he, o, ne, grown_on (v1 := v) (below_gb hb) (fun k e => .inl e) g, fun k e => (a k e).elim .inl (fun q => .inr (Nat.le_trans hb.size q))⟩

set_option maxRecDepth 100000 in
set_option maxHeartbeats 2000000 in
theorem wFields_one (w0 w : World) (p : Pk)  (v : Value) (n : Nat) (xs : List Value) (hk : p.kind = 1) (m : Nat) (R : List Value) (HC : ∀ W, Below w.heap.size w W → Calls Tryz.prog 66 #[v, .agg (pkCells p)] W fun e w' => Adds w0.heap.size v W w' e m R) :
    Calls Tryz.prog 43 #[v, .agg (pkCells p)] w fun e w' => Adds w0.heap.size v w w' e m R := by
  obtain ⟨W, hW⟩ : ∃ W, W = w.alloc (.cells (pkCells p) 29) := ⟨_, rfl⟩
  have b0 : Hid (Below w.heap.size w W) := box_below hW
  have g0 : Hid (W.heap[w.heap.size]? = some (.cells (pkCells p) 29)) := by show _ = _; rw [hW]; exact heap_alloc_new w _
  have k0 : W.cell? ⟨w.heap.size, 0, none⟩ = some (.int .i64 1) := box_cells g0.out 0 _ (by rw [← hk]; rfl)
  have HC : Hid (Calls Tryz.prog 66 #[v, .agg (pkCells p)] W fun e w' => Adds w0.heap.size v W w' e m R) := HC W b0.out
  obtain ⟨cs, hcs⟩ : ∃ cs, cs = pkCells p := ⟨_, rfl⟩
  have hsz : Hid (cs.size = 25) := by show _ = _; rw [hcs]; rfl
  rw [← hcs] at HC g0 ⊢
  rw [← hcs] at hW
  clear hcs hk
  go_enter Tryz.func43, Tryz.ntmps43
  go_upto_region 1 with fail
  rw [← hW]
  clear hW
  go_wp2_with (first | (refine wpList_load_wanted rfl _ rfl w.heap.size rfl _ (0, 0) g0.out hsz.out ?_) | fail)
  go_must (go_at_call 66)
  refine HC.out.mono ?_
  rintro e w1 ⟨v1, rfl, r1⟩
  have A1 : Hid (Adds w0.heap.size v w w1 (.returned v1) m R) := Adds.before b0.out ⟨v1, rfl, r1⟩
  clear r1 k0
  go_wp2_with fail
  go_ret
  exact A1.out

set_option maxRecDepth 100000 in
set_option maxHeartbeats 2000000 in
theorem wFields_three (w0 w : World) (p : Pk)  (v : Value) (n : Nat) (xs : List Value) (hk : p.kind = 3) (m : Nat) (R : List Value) (HC : ∀ W, Below w.heap.size w W → Calls Tryz.prog 68 #[v, .agg (pkCells p)] W fun e w' => Adds w0.heap.size v W w' e m R) :
    Calls Tryz.prog 43 #[v, .agg (pkCells p)] w fun e w' => Adds w0.heap.size v w w' e m R := by
  obtain ⟨W, hW⟩ : ∃ W, W = w.alloc (.cells (pkCells p) 29) := ⟨_, rfl⟩
  have b0 : Hid (Below w.heap.size w W) := box_below hW
  have g0 : Hid (W.heap[w.heap.size]? = some (.cells (pkCells p) 29)) := by show _ = _; rw [hW]; exact heap_alloc_new w _
  have k0 : W.cell? ⟨w.heap.size, 0, none⟩ = some (.int .i64 3) := box_cells g0.out 0 _ (by rw [← hk]; rfl)
  have HC : Hid (Calls Tryz.prog 68 #[v, .agg (pkCells p)] W fun e w' => Adds w0.heap.size v W w' e m R) := HC W b0.out
  obtain ⟨cs, hcs⟩ : ∃ cs, cs = pkCells p := ⟨_, rfl⟩
  have hsz : Hid (cs.size = 25) := by show _ = _; rw [hcs]; rfl
  rw [← hcs] at HC g0 ⊢
  rw [← hcs] at hW
  clear hcs hk
  go_enter Tryz.func43, Tryz.ntmps43
  go_upto_region 1 with fail
  rw [← hW]
  clear hW
  go_wp2_with (first | (refine wpList_load_wanted rfl _ rfl w.heap.size rfl _ (0, 0) g0.out hsz.out ?_) | fail)
  go_must (go_at_call 68)
  refine HC.out.mono ?_
  rintro e w1 ⟨v1, rfl, r1⟩
  have A1 : Hid (Adds w0.heap.size v w w1 (.returned v1) m R) := Adds.before b0.out ⟨v1, rfl, r1⟩
  clear r1 k0
  go_wp2_with fail
  go_ret
  exact A1.out

set_option maxRecDepth 100000 in
set_option maxHeartbeats 2000000 in
theorem wFields_no12 (B : Nat) (w : World) (p : Pk) (v : Value) (n : Nat) (xs : List Value) (hk : p.kind = 12) (h : w.ownsRow B 5 1 v n xs) (hv : v ≠ .slice none 0 0) :
    Calls Tryz.prog 43 #[v, .agg (pkCells p)] w fun e w' => Adds B v w w' e n xs := by
  obtain ⟨W, hW⟩ : ∃ W, W = w.alloc (.cells (pkCells p) 29) := ⟨_, rfl⟩
  have b0 : Hid (Below w.heap.size w W) := box_below hW
  have g0 : Hid (W.heap[w.heap.size]? = some (.cells (pkCells p) 29)) := by show _ = _; rw [hW]; exact heap_alloc_new w _
  have k0 : W.cell? ⟨w.heap.size, 0, none⟩ = some (.int .i64 12) := box_cells g0.out 0 _ (by rw [← hk]; rfl)
  have A1 : Hid (Adds B v w W (.returned v) n xs) := Adds.before b0.out ⟨v, rfl, own_below h b0.out, hv, World.grownBy.refl _ _, fun k e => .inl e⟩
  obtain ⟨cs, hcs⟩ : ∃ cs, cs = pkCells p := ⟨_, rfl⟩
  rw [← hcs] at g0 ⊢
  rw [← hcs] at hW
  clear hcs hk h hv
  go_enter Tryz.func43, Tryz.ntmps43
  go_upto_region 1 with fail
  rw [← hW]
  clear hW
  go_wp2_with fail
  go_ret
  exact A1.out

set_option maxRecDepth 100000 in
set_option maxHeartbeats 2000000 in
theorem wFields_no13 (B : Nat) (w : World) (p : Pk) (v : Value) (n : Nat) (xs : List Value) (hk : p.kind = 13) (h : w.ownsRow B 5 1 v n xs) (hv : v ≠ .slice none 0 0) :
    Calls Tryz.prog 43 #[v, .agg (pkCells p)] w fun e w' => Adds B v w w' e n xs := by
  obtain ⟨W, hW⟩ : ∃ W, W = w.alloc (.cells (pkCells p) 29) := ⟨_, rfl⟩
  have b0 : Hid (Below w.heap.size w W) := box_below hW
  have g0 : Hid (W.heap[w.heap.size]? = some (.cells (pkCells p) 29)) := by show _ = _; rw [hW]; exact heap_alloc_new w _
  have k0 : W.cell? ⟨w.heap.size, 0, none⟩ = some (.int .i64 13) := box_cells g0.out 0 _ (by rw [← hk]; rfl)
  have A1 : Hid (Adds B v w W (.returned v) n xs) := Adds.before b0.out ⟨v, rfl, own_below h b0.out, hv, World.grownBy.refl _ _, fun k e => .inl e⟩
  obtain ⟨cs, hcs⟩ : ∃ cs, cs = pkCells p := ⟨_, rfl⟩
  rw [← hcs] at g0 ⊢
  rw [← hcs] at hW
  clear hcs hk h hv
  go_enter Tryz.func43, Tryz.ntmps43
  go_upto_region 1 with fail
  rw [← hW]
  clear hW
  go_wp2_with fail
  go_ret
  exact A1.out

set_option maxRecDepth 100000 in
set_option maxHeartbeats 2000000 in
theorem wFields_no14 (B : Nat) (w : World) (p : Pk) (v : Value) (n : Nat) (xs : List Value) (hk : p.kind = 14) (h : w.ownsRow B 5 1 v n xs) (hv : v ≠ .slice none 0 0) :
    Calls Tryz.prog 43 #[v, .agg (pkCells p)] w fun e w' => Adds B v w w' e n xs := by
  obtain ⟨W, hW⟩ : ∃ W, W = w.alloc (.cells (pkCells p) 29) := ⟨_, rfl⟩
  have b0 : Hid (Below w.heap.size w W) := box_below hW
  have g0 : Hid (W.heap[w.heap.size]? = some (.cells (pkCells p) 29)) := by show _ = _; rw [hW]; exact heap_alloc_new w _
  have k0 : W.cell? ⟨w.heap.size, 0, none⟩ = some (.int .i64 14) := box_cells g0.out 0 _ (by rw [← hk]; rfl)
  have A1 : Hid (Adds B v w W (.returned v) n xs) := Adds.before b0.out ⟨v, rfl, own_below h b0.out, hv, World.grownBy.refl _ _, fun k e => .inl e⟩
  obtain ⟨cs, hcs⟩ : ∃ cs, cs = pkCells p := ⟨_, rfl⟩
  rw [← hcs] at g0 ⊢
  rw [← hcs] at hW
  clear hcs hk h hv
  go_enter Tryz.func43, Tryz.ntmps43
  go_upto_region 1 with fail
  rw [← hW]
  clear hW
  go_wp2_with fail
  go_ret
  exact A1.out

end Go.Proofs.YtibihbclijpkjaaGreatDoor
namespace Go.Proofs.YtibihbclijpkjaaGreatDoor
open Go Go.RowKit
open Pkt (Pk Cn Sl In By Is Ss As pkCells Gd wpList_load_wanted box_below sumN)
set_option linter.unusedSimpArgs false
set_option linter.unusedVariables false

/-- The lists' cells. -/
def asksL (f : Nat → ByteArray) (q : Nat → Int) : Nat → List Value
  | 0 => []
  | k + 1 => asksL f q k ++ (tx (f k) ++ [.int .u8 (q k % 256)])
def codesL (z : Nat → Int) : Nat → List Value
  | 0 => []
  | k + 1 => codesL z k ++ [.int .u8 (z k % 256)]
def filtL (f : Nat → ByteArray) : Nat → List Value
  | 0 => []
  | k + 1 => filtL f k ++ tx (f k)
theorem sumN_succ (f : Nat → Nat) (k : Nat) : sumN f (k + 1) = sumN f k + f k := rfl
theorem sumN_ge (f : Nat → Nat) (h : ∀ i, 1 ≤ f i) (n : Nat) : n ≤ sumN f n := by
  induction n with
  | zero => exact Nat.zero_le _
  | succ n ih => rw [sumN_succ]; have := h n; omega
theorem sumN_le (f : Nat → Nat) {k n : Nat} (h : k ≤ n) : sumN f k ≤ sumN f n := by
  induction h with
  | refl => exact Nat.le_refl _
  | step _ ih => exact Nat.le_trans ih (by simp [sumN])

structure ListsOk (w0 : World) (p : Pk) (c : Cn) : Prop where
  af : ∀ i, i < p.asks.n → (c.af i).size ≤ 65535 ∧ (chk (c.af i)).2 = 0
  fs : ∀ i, i < p.filters.n → (c.fs i).size ≤ 65535 ∧ (chk (c.fs i)).2 = 0
  as_ : As w0 p.asks c.af c.aq
  is_ : Is w0 p.codes c.cs
  ss_ : Ss w0 p.filters c.fs

set_option maxRecDepth 100000 in
set_option maxHeartbeats 8000000 in
theorem wLists_any (w0 w : World) (p : Pk) (c : Cn) (v : Value) (n : Nat) (xs : List Value) (h : w.ownsRow w0.heap.size 5 1 v n xs) (hv : v ≠ .slice none 0 0) (hb0 : Below w0.heap.size w0 w) (ok : ListsOk w0 p c) (hn : n + sumN (fun i => 3 + (c.af i).size) p.asks.n + p.codes.n + sumN (fun i => 2 + (c.fs i).size) p.filters.n ≤ 300000) :
    Calls Tryz.prog 69 #[v, .agg (pkCells p)] w fun e w' => Adds w0.heap.size v w w' e (n + sumN (fun i => 3 + (c.af i).size) p.asks.n + p.codes.n + sumN (fun i => 2 + (c.fs i).size) p.filters.n) (xs ++ asksL c.af c.aq p.asks.n ++ codesL c.cs p.codes.n ++ filtL c.fs p.filters.n) := by
  obtain ⟨i0, hi, hz0, hz1, hz2⟩ := info_parts Tryz.info5
  obtain ⟨W, hW⟩ : ∃ W, W = w.alloc (.cells (pkCells p) 29) := ⟨_, rfl⟩
  have b0 : Hid (Below w.heap.size w W) := box_below hW
  have g0 : Hid (W.heap[w.heap.size]? = some (.cells (pkCells p) 29)) := by show _ = _; rw [hW]; exact heap_alloc_new w _
  have HV : Hid (v.ownBlock ≠ some w.heap.size) := fun e => by have := (h.lt _ e).2; omega
  have HOB : Hid (∀ k, v.ownBlock = some k → w0.heap.size ≤ k) := fun k e => (h.lt k e).1
  have L0 : Hid (Lay w0.heap.size v W W v n xs) := Lay.start (own_below h b0.out) hv
  have HB : Hid (w0.heap.size ≤ W.heap.size) := Nat.le_trans hb0.size b0.out.size
  have BW : Hid (Below w0.heap.size w0 W) := hb0.trans (b0.out.mono hb0.size)
  have HN : Hid (n + sumN (fun i => 3 + (c.af i).size) p.asks.n + p.codes.n + sumN (fun i => 2 + (c.fs i).size) p.filters.n ≤ 300000) := hn
  have OK : Hid (ListsOk w0 p c) := ok
  obtain ⟨cs, hcs⟩ : ∃ cs, cs = pkCells p := ⟨_, rfl⟩
  have k22 : Hid (cs[22]? = some (.slice p.asks.a p.asks.n p.asks.c)) := by show _ = _; rw [hcs]; rfl
  have k23 : Hid (cs[23]? = some (.slice p.codes.a p.codes.n p.codes.c)) := by show _ = _; rw [hcs]; rfl
  have k24 : Hid (cs[24]? = some (.slice p.filters.a p.filters.n p.filters.c)) := by show _ = _; rw [hcs]; rfl
  rw [← hcs] at g0 ⊢
  rw [← hcs] at hW
  clear hcs h hv hb0 ok hn
  obtain ⟨an, han⟩ : ∃ an, an = p.asks.n := ⟨_, rfl⟩
  obtain ⟨cn, hcn⟩ : ∃ cn, cn = p.codes.n := ⟨_, rfl⟩
  obtain ⟨fn, hfn⟩ : ∃ fn, fn = p.filters.n := ⟨_, rfl⟩
  have HAN : Hid (an = p.asks.n) := han
  have HCN : Hid (cn = p.codes.n) := hcn
  have HFN : Hid (fn = p.filters.n) := hfn
  obtain ⟨aa, haa⟩ : ∃ an, an = p.asks.a := ⟨_, rfl⟩
  obtain ⟨ca, hca⟩ : ∃ cn, cn = p.codes.a := ⟨_, rfl⟩
  obtain ⟨fa, hfa⟩ : ∃ fn, fn = p.filters.a := ⟨_, rfl⟩
  rw [← han, ← haa] at k22
  rw [← hcn, ← hca] at k23
  rw [← hfn, ← hfa] at k24
  have HAA : Hid (aa = p.asks.a) := haa
  have HCA : Hid (ca = p.codes.a) := hca
  have HFA : Hid (fa = p.filters.a) := hfa
  clear han hcn hfn haa hca hfa
  have ha3 : an ≤ 300000 := by have := HN.out; have := sumN_ge (fun i => 3 + (c.af i).size) (fun i => by omega) p.asks.n; have := HAN.out; omega
  have hc3 : cn ≤ 300000 := by have := HN.out; have := HCN.out; omega
  have hf3 : fn ≤ 300000 := by have := HN.out; have := sumN_ge (fun i => 2 + (c.fs i).size) (fun i => by omega) p.filters.n; have := HFN.out; omega
  go_enter Tryz.func69, Tryz.ntmps69
  go_upto_region 1 with fail
  rw [← hW]
  clear hW
  have c22 := box_cells g0.out 22 _ k22.out
  go_wp2_with fail
  clear c22
  go_loopg [0, 14] an (fun gg s0 s14 wx => ∃ (k : Nat), s14 = .int .i64 k ∧ k + gg = an ∧ Hid (Lay w0.heap.size v W wx s0 (n + sumN (fun i => 3 + (c.af i).size) k) (xs ++ asksL c.af c.aq k)))
  case atStart => exact ⟨0, rfl, by omega, L0.out.cast (by simp [sumN]) (by simp [asksL])⟩
  case round =>
    obtain ⟨k, rfl, hkg, L1⟩ := hrel
    by_cases hk : k < an
    · have hk' : (k : Int) < an := by omega
      have BR : Hid (Below w0.heap.size w0 wr) := BW.out.trans (L1.out.old HB.out HOB.out)
      obtain ⟨b, off, he, hc⟩ : ∃ b off, aa = some ⟨b, off, none⟩ ∧ ∀ i, i < p.asks.n → (w0.cell? ⟨b, off + i * 2, none⟩ = some (.string (c.af i)) ∧ w0.cell? ⟨b, off + i * 2 + 1, none⟩ = some (.int .i64 (c.aq i))) := by
        rcases OK.out.as_.2 with h | h
        · have := HAN.out; omega
        · rw [← HAA.out] at h; exact h
      subst he
      have hac : an ≤ p.asks.c := by rw [HAN.out]; exact OK.out.as_.1
      have c0 := cell_later BR.out (hc k (by rw [← HAN.out]; exact hk)).1
      have c1 := cell_later BR.out (hc k (by rw [← HAN.out]; exact hk)).2
      obtain ⟨gg, hg⟩ : ∃ gg, gk = gg + 1 := ⟨gk - 1, by omega⟩
      clear hc
      go_upto_region 4 with fail
      obtain ⟨wA, hwA⟩ : ∃ wA, wA = wr.alloc (.cells #[.string (c.af k), .int .i64 (c.aq k)] 84) := ⟨_, rfl⟩
      rw [← hwA]
      have LA : Hid (Lay w0.heap.size v W wA u0 _ _) := L1.out.below (by rw [hwA]; exact (Below.refl _ _).alloc (Nat.le_refl _) _)
      have gA : Hid (wA.heap[wr.heap.size]? = some (.cells #[.string (c.af k), .int .i64 (c.aq k)] 84)) := by show _ = _; rw [hwA]; exact heap_alloc_new wr _
      have VA : Hid (u0.ownBlock ≠ some wr.heap.size) := fun e => by have := (L1.out.own.lt _ e).2; omega
      have kf : (#[Value.string (c.af k), Value.int .i64 (c.aq k)] : Array Value)[0]? = some (.string (c.af k)) := rfl
      have kq : (#[Value.string (c.af k), Value.int .i64 (c.aq k)] : Array Value)[1]? = some (.int .i64 (c.aq k)) := rfl
      clear hwA c0 c1
      refine wp_region_held_drew (S := fun w' => Hid (w'.heap[wr.heap.size]? = some (.cells #[.string (c.af k), .int .i64 (c.aq k)] 84))) (by kernel_rfl) gA (fun hHeld => ?_)
      refine wpAnyH_take (i := 0) (oi := { dst := Option.some 18, op := Go.Op.move (Go.Operand.tmp 0), type := 22, pos := "write.go:61", after := #[], guard := Option.none }) (v := u0) rfl (by kernel_rfl) (by kernel_rfl) (by kernel_rfl) (fun _ _ _ h => h) (Or.inl ⟨by kernel_rfl, fun wq _ => pureVal_run (by kernel_rfl) wq⟩) hHeld ?_
      simp only [Act.put, List.setIfInBounds_toArray, List.set_cons_zero, List.set_cons_succ]
      refine wpAnyH_take (i := 1) (oi := { dst := Option.some 19, op := Go.Op.fieldAddr 84 (Go.Operand.tmp 6) 0, type := 0, pos := "write.go:61", after := #[], guard := Option.none }) (v := .pointer (some ⟨wr.heap.size, 0, none⟩)) rfl (by kernel_rfl) (by kernel_rfl) (by kernel_rfl) (fun _ _ _ h => h) (Or.inl ⟨by kernel_rfl, by intro wq hSw; clear hSw hHeld; go_simp⟩) hHeld ?_
      simp only [Act.put, List.setIfInBounds_toArray, List.set_cons_zero, List.set_cons_succ]
      refine wpAnyH_take (i := 2) (oi := { dst := Option.some 20, op := Go.Op.load 9 (Go.Operand.tmp 19), type := 9, pos := "write.go:61", after := #[{ on := 1, ground := Go.Ground.data }], guard := Option.none }) (v := .string (c.af k)) rfl (by kernel_rfl) (by kernel_rfl) (by kernel_rfl) (fun _ _ _ h => h) (Or.inl ⟨by kernel_rfl, by intro wq hSw; have hk2 := box_cells (Hid.out hSw) 0 _ kf; clear hSw hHeld; go_simp⟩) hHeld ?_
      simp only [Act.put, List.setIfInBounds_toArray, List.set_cons_zero, List.set_cons_succ]
      refine wpAnyH_take (i := 4) (oi := { dst := Option.some 22, op := Go.Op.fieldAddr 84 (Go.Operand.tmp 6) 1, type := 0, pos := "write.go:61", after := #[], guard := Option.none }) (v := .pointer (some ⟨wr.heap.size, 1, none⟩)) rfl (by kernel_rfl) (by kernel_rfl) (by kernel_rfl) (fun _ _ _ h => h) (Or.inl ⟨by kernel_rfl, by intro wq hSw; clear hSw hHeld; go_simp⟩) hHeld ?_
      simp only [Act.put, List.setIfInBounds_toArray, List.set_cons_zero, List.set_cons_succ]
      refine wpAnyH_take (i := 5) (oi := { dst := Option.some 23, op := Go.Op.load 3 (Go.Operand.tmp 22), type := 3, pos := "write.go:61", after := #[{ on := 4, ground := Go.Ground.data }], guard := Option.none }) (v := .int .i64 (c.aq k)) rfl (by kernel_rfl) (by kernel_rfl) (by kernel_rfl) (fun _ _ _ h => h) (Or.inl ⟨by kernel_rfl, by intro wq hSw; have hk2 := box_cells (Hid.out hSw) 1 _ kq; clear hSw hHeld; go_simp⟩) hHeld ?_
      simp only [Act.put, List.setIfInBounds_toArray, List.set_cons_zero, List.set_cons_succ]
      refine wpAnyH_take (i := 6) (oi := { dst := Option.some 24, op := Go.Op.convert 3 5 (Go.Operand.tmp 23), type := 5, pos := "write.go:61", after := #[{ on := 5, ground := Go.Ground.data }], guard := Option.none }) (v := .int .u8 (IntKind.u8.wrap (c.aq k))) rfl (by kernel_rfl) (by kernel_rfl) (by kernel_rfl) (fun _ _ _ h => h) (Or.inl ⟨by kernel_rfl, by intro wq hSw; clear hSw hHeld; go_simp⟩) hHeld ?_
      simp only [Act.put, List.setIfInBounds_toArray, List.set_cons_zero, List.set_cons_succ]
      have LD : Hid (Lay w0.heap.size v W wA.drew u0 _ _) := LA.out.below (Below.refl _ _).drew
      refine wpAnyH_ready (rs := [3, 7]) (by kernel_rfl) (by simp) ?_
      refine AllReadyH.cons (o := { dst := Option.some 21, op := Go.Op.call { callee := Go.Callee.value (Go.Operand.func 88), args := #[Go.Operand.tmp 18, Go.Operand.tmp 20], argTypes := #[22, 9] }, type := 22, pos := "write.go:61", after := #[{ on := 0, ground := Go.Ground.data }, { on := 2, ground := Go.Ground.data }], guard := Option.none }) (by rfl) (fun K hK => ?_) (AllReadyH.cons (o := { dst := Option.some 25, op := Go.Op.buildSlice 22 1 #[(0, Go.Operand.tmp 24)], type := 22, pos := "write.go:61", after := #[{ on := 6, ground := Go.Ground.data }], guard := Option.none }) (by rfl) (fun K hK => ?_) AllReadyH.nil)
      · refine held_call (by kernel_rfl) 88 #[u0, .string (c.af k)] (by clear hHeld hK; go_simp) (R := fun x w' => Adds w0.heap.size u0 wA.drew w' (.returned x) _ _) ((wText_any w0.heap.size _ u0 _ (c.af k) wA.drew LD.out.own (Nat.le_trans HB.out LD.out.size) (by have h1 := HN.out; have h2 := sumN_le (fun i => 3 + (c.af i).size) (k := k + 1) (n := p.asks.n) (by rw [← HAN.out]; exact hk); rw [sumN_succ] at h2; omega) (OK.out.af k (by rw [← HAN.out]; exact hk)).1 (OK.out.af k (by rw [← HAN.out]; exact hk)).2).mono fun e w' ha => ⟨ha.choose, ha.choose_spec.1, ⟨ha.choose, rfl, ha.choose_spec.2⟩⟩) ?_
        intro v6 w6 r6
        have L6 : Hid (Lay w0.heap.size v W w6 v6 _ _) := LD.out.add r6
        obtain ⟨v6', e6, o6, n6, gb6, a6⟩ := r6
        cases e6
        have g6 : Hid (w6.heap[wr.heap.size]? = some (.cells #[.string (c.af k), .int .i64 (c.aq k)] 84)) := gb_block gb6 gA.out VA.out
        have V6 : Hid (v6.ownBlock ≠ some wr.heap.size) := fun e => (a6 _ e).elim VA.out (fun q => by have := heap_in gA.out; simp at q; omega)
        refine hK.out _ _ g6 (fun hHeld => ?_)
        clear hK K o6 n6 gb6 a6
        simp only [Act.put, List.setIfInBounds_toArray, List.set_cons_zero, List.set_cons_succ]
        refine wpAnyH_ready (rs := [7]) (by kernel_rfl) (by simp) ?_
        refine AllReadyH.cons (o := { dst := Option.some 25, op := Go.Op.buildSlice 22 1 #[(0, Go.Operand.tmp 24)], type := 22, pos := "write.go:61", after := #[{ on := 6, ground := Go.Ground.data }], guard := Option.none }) (by rfl) (fun K hK => ?_) AllReadyH.nil
        go_simp
        have LB : Hid (Lay w0.heap.size v W (w6.alloc (.cells #[.int .u8 (c.aq k % 256)] 5)) v6 _ _) := L6.out.below ((Below.refl _ _).alloc (Nat.le_refl _) _)
        have gL : Hid ((w6.alloc (.cells #[.int .u8 (c.aq k % 256)] 5)).heap[wr.heap.size]? = some (.cells #[.string (c.af k), .int .i64 (c.aq k)] 84)) := (((Below.refl _ _).alloc (Nat.le_refl _) _).block _ (heap_in g6.out)).trans g6.out
        have gS : Hid ((w6.alloc (.cells #[.int .u8 (c.aq k % 256)] 5)).heap[w6.heap.size]? = some (.cells #[.int .u8 (c.aq k % 256)] 5)) := heap_alloc_new w6 _
        have VL := V6
        refine hK.out _ _ gL (fun hHeld => ?_)
        clear hK K
        refine wpAnyH_ready (rs := [8]) (by kernel_rfl) (by simp) ?_
        refine AllReadyH.cons (o := { dst := Option.some 26, op := Go.Op.call { callee := Go.Callee.builtin Go.Builtin.append, args := #[Go.Operand.tmp 21, Go.Operand.tmp 25], argTypes := #[22, 22] }, type := 22, pos := "write.go:61", after := #[{ on := 3, ground := Go.Ground.data }, { on := 7, ground := Go.Ground.data }, { on := 3, ground := Go.Ground.chain }], guard := Option.none }) (by rfl) (fun K hK => ?_) AllReadyH.nil
        refine step_push rfl (.tmp 21) (.tmp 25) 22 rfl w0.heap.size 5 i0 (.int .u8 0) 1 1 Tryz.underlying22 hi hz0 hz1 hz2 rfl (by decide) v6 _ _ rfl LB.out.own ⟨w6.heap.size, 0, none⟩ 1 1 [.int .u8 (c.aq k % 256)] rfl (by decide) rfl ?_ ?_ ?_ ?_ ?_ ?_
        · intro j u hu
          rw [plain_add, Nat.zero_add]
          exact box_cells gS.out j _ (by simpa using hu)
        · intro u hu; simp at hu; subst hu; rfl
        · have h1 := HN.out; have h2 := sumN_le (fun i => 3 + (c.af i).size) (k := k + 1) (n := p.asks.n) (by rw [← HAN.out]; exact hk); rw [sumN_succ] at h2; unfold maxLen; omega
        · have h1 := HN.out; have h2 := sumN_le (fun i => 3 + (c.af i).size) (k := k + 1) (n := p.asks.n) (by rw [← HAN.out]; exact hk); rw [sumN_succ] at h2; omega
        · exact Nat.le_trans HB.out LB.out.size
        intro v8 w8 o8 gb8 n8 wh8
        have L8 : Hid (Lay w0.heap.size v W w8 v8 _ _) := LB.out.add ⟨v8, rfl, o8, n8, gb8, fun j e => by
          rcases wh8 with h | h
          · exact .inl (h ▸ e)
          · rw [h] at e; cases e; exact .inr (Nat.le_refl _)⟩
        refine hK.out _ _ (gb_block gb8 gL.out VL.out) (fun hHeld => ?_)
        clear hK K o8 gb8 n8 wh8
        simp only [Act.put, List.setIfInBounds_toArray, List.set_cons_zero, List.set_cons_succ]
        refine wpAnyH_take (i := 9) (oi := { dst := Option.some 0, op := Go.Op.assign (Go.Operand.tmp 26), type := 22, pos := "write.go:61", after := #[{ on := 8, ground := Go.Ground.data }, { on := 8, ground := Go.Ground.chain }, { on := 0, ground := Go.Ground.phase }, { on := 1, ground := Go.Ground.phase }, { on := 2, ground := Go.Ground.phase }, { on := 3, ground := Go.Ground.phase }, { on := 4, ground := Go.Ground.phase }, { on := 5, ground := Go.Ground.phase }, { on := 6, ground := Go.Ground.phase }, { on := 7, ground := Go.Ground.phase }, { on := 8, ground := Go.Ground.phase }], guard := Option.none }) (v := v8) rfl (by kernel_rfl) (by kernel_rfl) (by kernel_rfl) (fun _ _ _ h => h) (Or.inl ⟨by kernel_rfl, fun wq _ => pureVal_run (by kernel_rfl) wq⟩) hHeld ?_
        simp only [Act.put, List.setIfInBounds_toArray, List.set_cons_zero, List.set_cons_succ]
        refine wpAnyH_done (by kernel_rfl) ?_ _
        have L9 : Hid (Lay w0.heap.size v W w8 v8 (n + sumN (fun i => 3 + (c.af i).size) (k + 1)) (xs ++ asksL c.af c.aq (k + 1))) := L8.out.cast (by rw [sumN_succ]; omega) (by simp only [asksL, tx, List.append_assoc])
        clear hHeld L8
        go_wp2_with fail
        go_roundg gg
        case measure => omega
        case rel => exact ⟨k + 1, by first | rfl | simp, by omega, L9⟩
      · go_simp
        have LB : Hid (Lay w0.heap.size v W (wA.alloc (.cells #[.int .u8 (c.aq k % 256)] 5)).drew u0 _ _) := LA.out.below ((Below.refl _ _).alloc (Nat.le_refl _) _).drew
        have gB : Hid ((wA.alloc (.cells #[.int .u8 (c.aq k % 256)] 5)).drew.heap[wr.heap.size]? = some (.cells #[.string (c.af k), .int .i64 (c.aq k)] 84)) := (((Below.refl _ _).alloc (Nat.le_refl _) _).drew.block _ (heap_in gA.out)).trans gA.out
        have gT : Hid ((wA.alloc (.cells #[.int .u8 (c.aq k % 256)] 5)).drew.heap[wA.heap.size]? = some (.cells #[.int .u8 (c.aq k % 256)] 5)) := heap_alloc_new wA _
        refine hK.out _ _ gB (fun hHeld => ?_)
        clear hK K
        refine wpAnyH_ready (rs := [3]) (by kernel_rfl) (by simp) ?_
        refine AllReadyH.cons (o := { dst := Option.some 21, op := Go.Op.call { callee := Go.Callee.value (Go.Operand.func 88), args := #[Go.Operand.tmp 18, Go.Operand.tmp 20], argTypes := #[22, 9] }, type := 22, pos := "write.go:61", after := #[{ on := 0, ground := Go.Ground.data }, { on := 2, ground := Go.Ground.data }], guard := Option.none }) (by rfl) (fun K hK => ?_) AllReadyH.nil
        refine held_call (by kernel_rfl) 88 #[u0, .string (c.af k)] (by clear hHeld hK; go_simp) (R := fun x w' => Adds w0.heap.size u0 (wA.alloc (.cells #[.int .u8 (c.aq k % 256)] 5)).drew w' (.returned x) _ _) ((wText_any w0.heap.size _ u0 _ (c.af k) (wA.alloc (.cells #[.int .u8 (c.aq k % 256)] 5)).drew LB.out.own (Nat.le_trans HB.out LB.out.size) (by have h1 := HN.out; have h2 := sumN_le (fun i => 3 + (c.af i).size) (k := k + 1) (n := p.asks.n) (by rw [← HAN.out]; exact hk); rw [sumN_succ] at h2; omega) (OK.out.af k (by rw [← HAN.out]; exact hk)).1 (OK.out.af k (by rw [← HAN.out]; exact hk)).2).mono fun e w' ha => ⟨ha.choose, ha.choose_spec.1, ⟨ha.choose, rfl, ha.choose_spec.2⟩⟩) ?_
        intro v6 w6 r6
        have L6 : Hid (Lay w0.heap.size v W w6 v6 _ _) := LB.out.add r6
        obtain ⟨v6', e6, o6, n6, gb6, a6⟩ := r6
        cases e6
        have gL : Hid (w6.heap[wr.heap.size]? = some (.cells #[.string (c.af k), .int .i64 (c.aq k)] 84)) := gb_block gb6 gB.out VA.out
        have VT : Hid (u0.ownBlock ≠ some wA.heap.size) := fun e => by have := (LA.out.own.lt _ e).2; omega
        have gS : Hid (w6.heap[wA.heap.size]? = some (.cells #[.int .u8 (c.aq k % 256)] 5)) := gb_block gb6 gT.out VT.out
        have VL : Hid (v6.ownBlock ≠ some wr.heap.size) := fun e => (a6 _ e).elim VA.out (fun q => by have := heap_in gA.out; simp at q; omega)
        refine hK.out _ _ gL (fun hHeld => ?_)
        clear hK K o6 n6 gb6 a6
        simp only [Act.put, List.setIfInBounds_toArray, List.set_cons_zero, List.set_cons_succ]
        refine wpAnyH_ready (rs := [8]) (by kernel_rfl) (by simp) ?_
        refine AllReadyH.cons (o := { dst := Option.some 26, op := Go.Op.call { callee := Go.Callee.builtin Go.Builtin.append, args := #[Go.Operand.tmp 21, Go.Operand.tmp 25], argTypes := #[22, 22] }, type := 22, pos := "write.go:61", after := #[{ on := 3, ground := Go.Ground.data }, { on := 7, ground := Go.Ground.data }, { on := 3, ground := Go.Ground.chain }], guard := Option.none }) (by rfl) (fun K hK => ?_) AllReadyH.nil
        refine step_push rfl (.tmp 21) (.tmp 25) 22 rfl w0.heap.size 5 i0 (.int .u8 0) 1 1 Tryz.underlying22 hi hz0 hz1 hz2 rfl (by decide) v6 _ _ rfl L6.out.own ⟨wA.heap.size, 0, none⟩ 1 1 [.int .u8 (c.aq k % 256)] rfl (by decide) rfl ?_ ?_ ?_ ?_ ?_ ?_
        · intro j u hu
          rw [plain_add, Nat.zero_add]
          exact box_cells gS.out j _ (by simpa using hu)
        · intro u hu; simp at hu; subst hu; rfl
        · have h1 := HN.out; have h2 := sumN_le (fun i => 3 + (c.af i).size) (k := k + 1) (n := p.asks.n) (by rw [← HAN.out]; exact hk); rw [sumN_succ] at h2; unfold maxLen; omega
        · have h1 := HN.out; have h2 := sumN_le (fun i => 3 + (c.af i).size) (k := k + 1) (n := p.asks.n) (by rw [← HAN.out]; exact hk); rw [sumN_succ] at h2; omega
        · exact Nat.le_trans HB.out L6.out.size
        intro v8 w8 o8 gb8 n8 wh8
        have L8 : Hid (Lay w0.heap.size v W w8 v8 _ _) := L6.out.add ⟨v8, rfl, o8, n8, gb8, fun j e => by
          rcases wh8 with h | h
          · exact .inl (h ▸ e)
          · rw [h] at e; cases e; exact .inr (Nat.le_refl _)⟩
        refine hK.out _ _ (gb_block gb8 gL.out VL.out) (fun hHeld => ?_)
        clear hK K o8 gb8 n8 wh8
        simp only [Act.put, List.setIfInBounds_toArray, List.set_cons_zero, List.set_cons_succ]
        refine wpAnyH_take (i := 9) (oi := { dst := Option.some 0, op := Go.Op.assign (Go.Operand.tmp 26), type := 22, pos := "write.go:61", after := #[{ on := 8, ground := Go.Ground.data }, { on := 8, ground := Go.Ground.chain }, { on := 0, ground := Go.Ground.phase }, { on := 1, ground := Go.Ground.phase }, { on := 2, ground := Go.Ground.phase }, { on := 3, ground := Go.Ground.phase }, { on := 4, ground := Go.Ground.phase }, { on := 5, ground := Go.Ground.phase }, { on := 6, ground := Go.Ground.phase }, { on := 7, ground := Go.Ground.phase }, { on := 8, ground := Go.Ground.phase }], guard := Option.none }) (v := v8) rfl (by kernel_rfl) (by kernel_rfl) (by kernel_rfl) (fun _ _ _ h => h) (Or.inl ⟨by kernel_rfl, fun wq _ => pureVal_run (by kernel_rfl) wq⟩) hHeld ?_
        simp only [Act.put, List.setIfInBounds_toArray, List.set_cons_zero, List.set_cons_succ]
        refine wpAnyH_done (by kernel_rfl) ?_ _
        have L9 : Hid (Lay w0.heap.size v W w8 v8 (n + sumN (fun i => 3 + (c.af i).size) (k + 1)) (xs ++ asksL c.af c.aq (k + 1))) := L8.out.cast (by rw [sumN_succ]; omega) (by simp only [asksL, tx, List.append_assoc])
        clear hHeld L8
        go_wp2_with fail
        go_roundg gg
        case measure => omega
        case rel => exact ⟨k + 1, by first | rfl | simp, by omega, L9⟩
    · obtain rfl : k = an := by omega
      have hk' : ¬ (k : Int) < k := by omega
      have LX : Hid (Lay w0.heap.size v W wr u0 (n + sumN (fun i => 3 + (c.af i).size) p.asks.n) (xs ++ asksL c.af c.aq p.asks.n)) := by have h := L1.out; rw [HAN.out] at h; exact h
      have gX : Hid (wr.heap[w.heap.size]? = some (.cells cs 29)) := LX.out.block g0.out HV.out
      have c23 := box_cells gX.out 23 _ k23.out
      clear L1
      go_wp2_with fail
      clear c23
      go_loopg [0, 31] cn (fun gg s0 s31 wx => ∃ (k : Nat), s31 = .int .i64 k ∧ k + gg = cn ∧ Hid (Lay w0.heap.size v W wx s0 (n + sumN (fun i => 3 + (c.af i).size) p.asks.n + k) (xs ++ asksL c.af c.aq p.asks.n ++ codesL c.cs k)))
      case atStart => exact ⟨0, rfl, by omega, LX.out.cast (by simp) (by simp [codesL])⟩
      case round =>
        clear hk hk' hkg
        obtain ⟨k, rfl, hkg, L1⟩ := hrel
        by_cases hk : k < cn
        · have hk' : (k : Int) < cn := by omega
          have BR : Hid (Below w0.heap.size w0 wr) := BW.out.trans (L1.out.old HB.out HOB.out)
          obtain ⟨b, off, he, hc⟩ : ∃ b off, ca = some ⟨b, off, none⟩ ∧ ∀ i, i < p.codes.n → w0.cell? ⟨b, off + i, none⟩ = some (.int .i64 (c.cs i)) := by
            rcases OK.out.is_.2 with h | h
            · have := HCN.out; omega
            · rw [← HCA.out] at h; exact h
          subst he
          have hac : cn ≤ p.codes.c := by rw [HCN.out]; exact OK.out.is_.1
          have c0 := cell_later BR.out (hc k (by rw [← HCN.out]; exact hk))
          obtain ⟨gg, hg⟩ : ∃ gg, gk = gg + 1 := ⟨gk - 1, by omega⟩
          clear hc
          have LB : Hid (Lay w0.heap.size v W (wr.alloc (.cells #[.int .u8 (c.cs k % 256)] 5)) u0 _ _) := L1.out.below ((Below.refl _ _).alloc (Nat.le_refl _) _)
          have gS : Hid ((wr.alloc (.cells #[.int .u8 (c.cs k % 256)] 5)).heap[wr.heap.size]? = some (.cells #[.int .u8 (c.cs k % 256)] 5)) := heap_alloc_new wr _
          have YB : Hid (By (wr.alloc (.cells #[.int .u8 (c.cs k % 256)] 5)) ⟨some ⟨wr.heap.size, 0, none⟩, 1, 1⟩ (fun _ => c.cs k % 256)) := ⟨Nat.le_refl _, fun _ => ⟨by show (0 : Int) ≤ c.cs k % 256; omega, by show c.cs k % 256 ≤ (255 : Int); omega⟩, .inr ⟨wr.heap.size, 0, rfl, fun i hi => by
            have : i = 0 := by simp at hi; omega
            subst this; exact box_cells gS.out 0 _ rfl⟩⟩
          go_wp2_with (at_builtin; (refine wpList_push_by rfl (.tmp 35) (.tmp 38) rfl w0.heap.size _ u0 _ rfl LB.out.own LB.out.ne ⟨some ⟨wr.heap.size, 0, none⟩, 1, 1⟩ (fun _ => c.cs k % 256) rfl YB.out (by have h1 := HN.out; have h3 := HCN.out; omega) (by show 1 ≤ 400000; omega) (Nat.le_trans HB.out LB.out.size) ?_))
          intro v3 w3 ad3
          have L3 : Hid (Lay w0.heap.size v W w3 v3 (n + sumN (fun i => 3 + (c.af i).size) p.asks.n + (k + 1)) (xs ++ asksL c.af c.aq p.asks.n ++ codesL c.cs (k + 1))) := (LB.out.add ad3).cast rfl (by simp only [codesL, List.append_assoc]; rfl)
          clear ad3 c0 LB gS YB
          go_wp2_with fail
          go_roundg gg
          case measure => omega
          case rel => exact ⟨k + 1, by first | rfl | simp, by omega, L3⟩
        · obtain rfl : k = cn := by omega
          have hk' : ¬ (k : Int) < k := by omega
          have LY : Hid (Lay w0.heap.size v W wr u0 (n + sumN (fun i => 3 + (c.af i).size) p.asks.n + p.codes.n) (xs ++ asksL c.af c.aq p.asks.n ++ codesL c.cs p.codes.n)) := by have h := L1.out; rw [HCN.out] at h; exact h
          have gY : Hid (wr.heap[w.heap.size]? = some (.cells cs 29)) := LY.out.block g0.out HV.out
          have c24 := box_cells gY.out 24 _ k24.out
          clear L1
          go_wp2_with fail
          clear c24
          go_loopg [0, 44] fn (fun gg s0 s44 wx => ∃ (k : Nat), s44 = .int .i64 k ∧ k + gg = fn ∧ Hid (Lay w0.heap.size v W wx s0 (n + sumN (fun i => 3 + (c.af i).size) p.asks.n + p.codes.n + sumN (fun i => 2 + (c.fs i).size) k) (xs ++ asksL c.af c.aq p.asks.n ++ codesL c.cs p.codes.n ++ filtL c.fs k)))
          case atStart => exact ⟨0, rfl, by omega, LY.out.cast (by simp [sumN]) (by simp [filtL])⟩
          case round =>
            clear hk hk' hkg
            obtain ⟨k, rfl, hkg, L1⟩ := hrel
            by_cases hk : k < fn
            · have hk' : (k : Int) < fn := by omega
              have BR : Hid (Below w0.heap.size w0 wr) := BW.out.trans (L1.out.old HB.out HOB.out)
              obtain ⟨b, off, he, hc⟩ : ∃ b off, fa = some ⟨b, off, none⟩ ∧ ∀ i, i < p.filters.n → w0.cell? ⟨b, off + i, none⟩ = some (.string (c.fs i)) := by
                rcases OK.out.ss_.2 with h | h
                · have := HFN.out; omega
                · rw [← HFA.out] at h; exact h
              subst he
              have hac : fn ≤ p.filters.c := by rw [HFN.out]; exact OK.out.ss_.1
              have c0 := cell_later BR.out (hc k (by rw [← HFN.out]; exact hk))
              obtain ⟨gg, hg⟩ : ∃ gg, gk = gg + 1 := ⟨gk - 1, by omega⟩
              clear hc
              go_wp2_with fail
              go_must (go_at_call 88)
              refine (wText_any w0.heap.size _ u0 _ (c.fs k) wr L1.out.own (Nat.le_trans HB.out L1.out.size) (by have h1 := HN.out; have h2 := sumN_le (fun i => 2 + (c.fs i).size) (k := k + 1) (n := p.filters.n) (by rw [← HFN.out]; exact hk); rw [sumN_succ] at h2; omega) (OK.out.fs k (by rw [← HFN.out]; exact hk)).1 (OK.out.fs k (by rw [← HFN.out]; exact hk)).2).mono ?_
              rintro e w3 ⟨v3, rfl, r3⟩
              have L3 : Hid (Lay w0.heap.size v W w3 v3 (n + sumN (fun i => 3 + (c.af i).size) p.asks.n + p.codes.n + sumN (fun i => 2 + (c.fs i).size) (k + 1)) (xs ++ asksL c.af c.aq p.asks.n ++ codesL c.cs p.codes.n ++ filtL c.fs (k + 1))) := (L1.out.add ⟨v3, rfl, r3⟩).cast (by rw [sumN_succ]; omega) (by simp only [filtL, tx, List.append_assoc])
              clear r3 c0
              go_wp2_with fail
              go_roundg gg
              case measure => omega
              case rel => exact ⟨k + 1, by first | rfl | simp, by omega, L3⟩
            · obtain rfl : k = fn := by omega
              have hk' : ¬ (k : Int) < k := by omega
              have LZ : Hid (Lay w0.heap.size v W wr u0 (n + sumN (fun i => 3 + (c.af i).size) p.asks.n + p.codes.n + sumN (fun i => 2 + (c.fs i).size) p.filters.n) (xs ++ asksL c.af c.aq p.asks.n ++ codesL c.cs p.codes.n ++ filtL c.fs p.filters.n)) := by have h := L1.out; rw [HFN.out] at h; exact h
              go_wp2_with fail
              go_ret
              exact Lay.done b0.out (LZ.out.cast rfl (by simp only [List.append_assoc]))
end Go.Proofs.YtibihbclijpkjaaGreatDoor
