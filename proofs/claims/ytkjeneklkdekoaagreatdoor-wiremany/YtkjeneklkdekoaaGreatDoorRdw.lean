import Derived.Test.YtkjeneklkdekoaaGreatDoorRdu
import Derived.Test.YtkjeneklkdekoaaGreatDoorRdv
import Derived.Test.YtkjeneklkdekoaaGreatDoorRdt
namespace Go.Proofs.YtkjeneklkdekoaaGreatDoor
open Go Go.RowKit
set_option linter.unusedSimpArgs false
set_option linter.unusedVariables false

/-! ### WireMany: what is in memory -/
/-- The cells of a row of pairs. -/
def prs (r m : Nat → Nat) : Nat → List Value
  | 0 => []
  | k + 1 => prs r m k ++ [.pointer (some ⟨r k, 0, none⟩), .pointer (some ⟨m k, 0, none⟩)]
theorem prs_length (r m : Nat → Nat) : ∀ k, (prs r m k).length = k * 2
  | 0 => rfl
  | k + 1 => by
    rw [prs, List.length_append, prs_length r m k]
    simp
    omega
theorem prs_at (r m : Nat → Nat) : ∀ k q, q < k → (prs r m k)[q * 2]? = some (.pointer (some ⟨r q, 0, none⟩)) ∧ (prs r m k)[q * 2 + 1]? = some (.pointer (some ⟨m q, 0, none⟩))
  | 0, q, h => by omega
  | k + 1, q, h => by
    have hl := prs_length r m k
    rw [prs]
    by_cases e : q < k
    · rw [List.getElem?_append_left (by omega), List.getElem?_append_left (by omega)]
      exact prs_at r m k q e
    · obtain rfl : q = k := by omega
      rw [List.getElem?_append_right (by omega), List.getElem?_append_right (by omega), hl]
      simp
theorem prs_congr {r m r' m' : Nat → Nat} : ∀ k, (∀ q, q < k → r q = r' q ∧ m q = m' q) → prs r m k = prs r' m' k
  | 0, _ => rfl
  | k + 1, h => by
    rw [prs, prs, prs_congr k (fun q hq => h q (by omega)), (h k (by omega)).1, (h k (by omega)).2]
/-- The state. -/
structure SM (w : World) (lb : Nat) (z : Nat → Int) (i N : Nat) (v : Value) (r m : Nat → Nat) (F : Nat → Nat → Prop) (t : Nat → Rs) (U : Nat → Prop) (W : World) : Prop where
  bk : Bk W w.heap.size N U
  pa : ∀ j, j < i → Pa W (r j) (m j) (lb - min j lb) (fun k => z (min j lb + k)) (t j) (t j) (F j)
  row : W.ownsRow 0 60 2 v i (prs r m i)
  dj : ∀ j k x, j < i → k < i → F j x → F k x → j = k
  du : ∀ j x, j < i → F j x → ¬ U x
  dv : ∀ x, v.ownBlock = some x → ¬ U x ∧ ∀ j, j < i → ¬ F j x
  lo : ∀ x, U x ∨ v.ownBlock = some x ∨ (∃ j, j < i ∧ F j x) → w.heap.size ≤ x
  be : Below w.heap.size w W
theorem SM.lt {w : World} {lb : Nat} {z : Nat → Int} {i N : Nat} {v : Value} {r m : Nat → Nat} {F : Nat → Nat → Prop} {t : Nat → Rs} {U : Nat → Prop} {W : World} (h : SM w lb z i N v r m F t U W) {x : Nat} (q : U x ∨ v.ownBlock = some x ∨ ∃ j, j < i ∧ F j x) : x < W.heap.size := by
  rcases q with q | q | ⟨j, hj, q⟩
  · exact h.bk.lt q
  · exact (h.row.lt x q).2
  · exact (h.pa j hj).lt x q
theorem SM.below {w : World} {lb : Nat} {z : Nat → Int} {i N : Nat} {v : Value} {r m : Nat → Nat} {F : Nat → Nat → Prop} {t : Nat → Rs} {U : Nat → Prop} {W W' : World} (h : SM w lb z i N v r m F t U W) (hb : Below W.heap.size W W') : SM w lb z i N v r m F t U W' :=
  ⟨h.bk.keep (fun k q => hb.block k (h.bk.lt q)), fun j hj => (h.pa j hj).below hb, own_keep h.row (fun k e => hb.block k (h.row.lt k e).2), h.dj, h.du, h.dv, h.lo, h.be.trans (hb.mono h.be.size)⟩
/-- A pair is laid behind the others. -/
theorem SM.push {w : World} {lb : Nat} {z : Nat → Int} {i N n0 rb mb : Nat} {v v' : Value} {r m : Nat → Nat} {F : Nat → Nat → Prop} {t : Nat → Rs} {tn : Rs} {U Fn : Nat → Prop} {W W' : World} (h : SM w lb z i N v r m F t U W) (h0 : ∀ x, U x ∨ v.ownBlock = some x ∨ (∃ j, j < i ∧ F j x) → x < n0) (hp : Pa W rb mb (lb - min i lb) (fun k => z (min i lb + k)) tn tn Fn) (hf : ∀ k, Fn k → n0 ≤ k) (hn0 : w.heap.size ≤ n0)
    (ho : W'.ownsRow 0 60 2 v' (i + 1) (prs r m i ++ [.pointer (some ⟨rb, 0, none⟩), .pointer (some ⟨mb, 0, none⟩)])) (hg : W.grownBy W' v.ownBlock) (hb : v'.ownBlock = v.ownBlock ∨ v'.ownBlock = some W.heap.size) :
    SM w lb z (i + 1) N v' (fun j => if j = i then rb else r j) (fun j => if j = i then mb else m j) (fun j => if j = i then Fn else F j) (fun j => if j = i then tn else t j) U W' := by
  have hk : ∀ k, k < W.heap.size → v.ownBlock ≠ some k → W'.heap[k]? = W.heap[k]? := fun k q e => hg.block k q (fun x => e x.symm)
  have hsz := h.be.size
  have hv : ∀ x, v'.ownBlock = some x → v.ownBlock = some x ∨ x = W.heap.size := fun x q => by
    rcases hb with e | e
    · exact .inl (e ▸ q)
    · rw [e] at q
      exact .inr (Option.some.inj q).symm
  refine ⟨h.bk.keep (fun k q => hk k (h.bk.lt q) (fun e => (h.dv k e).1 q)), fun j hj => ?_, ?_, fun j k x hj hk' q1 q2 => ?_, fun j x hj q u => ?_, fun x q => ⟨fun u => ?_, fun j hj q1 => ?_⟩, fun x q => ?_, ⟨hg.os.trans h.be.os, hg.tape.trans h.be.tape, hg.output.trans h.be.output, Nat.le_trans hsz hg.size, fun j hj => (hk j (by omega) (fun e => by have := h.lo j (.inr (.inl e)); omega)).trans (h.be.block j hj)⟩⟩
  · by_cases e : j = i
    · subst e
      simp only [if_true]
      exact hp.keep hg.size (fun k q => hk k (hp.lt k q) (fun e => by have := h0 k (.inr (.inl e)); have := hf k q; omega))
    · simp only [if_neg e]
      exact (h.pa j (by omega)).keep hg.size (fun k q => hk k ((h.pa j (by omega)).lt k q) (fun e' => (h.dv k e').2 j (by omega) q))
  · have e : prs (fun j => if j = i then rb else r j) (fun j => if j = i then mb else m j) (i + 1) = prs r m i ++ [.pointer (some ⟨rb, 0, none⟩), .pointer (some ⟨mb, 0, none⟩)] := by
      rw [prs, prs_congr (r' := r) (m' := m) i (fun q hq => by simp [show ¬ q = i by omega])]
      simp
    rw [e]
    exact ho
  · by_cases e1 : j = i
    · by_cases e2 : k = i
      · omega
      · simp only [e1, if_true, if_neg e2] at q1 q2
        have := hf x q1
        have := h0 x (.inr (.inr ⟨k, by omega, q2⟩))
        omega
    · by_cases e2 : k = i
      · simp only [if_neg e1, e2, if_true] at q1 q2
        have := hf x q2
        have := h0 x (.inr (.inr ⟨j, by omega, q1⟩))
        omega
      · simp only [if_neg e1, if_neg e2] at q1 q2
        exact h.dj j k x (by omega) (by omega) q1 q2
  · by_cases e1 : j = i
    · simp only [e1, if_true] at q
      have := hf x q
      have := h0 x (.inl u)
      omega
    · simp only [if_neg e1] at q
      exact h.du j x (by omega) q u
  · rcases hv x q with q | q
    · exact (h.dv x q).1 u
    · have := h.bk.lt u
      omega
  · by_cases e1 : j = i
    · simp only [e1, if_true] at q1
      rcases hv x q with q | q
      · have := hf x q1
        have := h0 x (.inr (.inl q))
        omega
      · have := hp.lt x q1
        omega
    · simp only [if_neg e1] at q1
      rcases hv x q with q | q
      · exact (h.dv x q).2 j (by omega) q1
      · have := (h.pa j (by omega)).lt x q1
        omega
  · rcases q with q | q | ⟨j, hj, q⟩
    · exact h.lo x (.inl q)
    · rcases hv x q with q | q
      · exact h.lo x (.inr (.inl q))
      · omega
    · by_cases e1 : j = i
      · simp only [e1, if_true] at q
        have := hf x q
        omega
      · simp only [if_neg e1] at q
        exact h.lo x (.inr (.inr ⟨j, by omega, q⟩))
/-- One pair's does. -/
theorem SM.does {w : World} {lb : Nat} {z : Nat → Int} {i N N' q : Nat} {v : Value} {r m : Nat → Nat} {F : Nat → Nat → Prop} {t : Nat → Rs} {tx : Rs} {U U' : Nat → Prop} {W W' : World} (h : SM w lb z i N v r m F t U W) (hq : q < i) (hn : Dn W (r q) (m q) w.heap.size N (lb - min q lb) (fun k => z (min q lb + k)) (F q) U tx N' U' W') : SM w lb z i N' v r m F (fun j => if j = q then tx else t j) U' W' := by
  have hk : ∀ k, k < W.heap.size → ¬ F q k → ¬ U k → W'.heap[k]? = W.heap[k]? := fun k q1 q2 q3 => hn.ch.block k q1 (fun x => x.elim q2 q3)
  have hsz := h.be.size
  refine ⟨hn.bk, fun j hj => ?_, own_keep h.row (fun k e => hk k (h.row.lt k e).2 ((h.dv k e).2 q hq) (h.dv k e).1), h.dj, fun j x hj q1 u => ?_, fun x e => ⟨fun u => ?_, (h.dv x e).2⟩, fun x q1 => ?_, ⟨hn.ch.os.trans h.be.os, hn.ch.tape.trans h.be.tape, hn.ch.output.trans h.be.output, Nat.le_trans hsz hn.ch.size, fun j hj => (hk j (by omega) (fun x => by have := h.lo j (.inr (.inr ⟨q, hq, x⟩)); omega) (fun x => by have := h.lo j (.inl x); omega)).trans (h.be.block j hj)⟩⟩
  · by_cases e : j = q
    · subst e
      simp only [if_true]
      exact hn.pa
    · simp only [if_neg e]
      exact (h.pa j hj).keep hn.ch.size (fun k x => hk k ((h.pa j hj).lt k x) (fun y => e (h.dj j q k hj hq x y)) (h.du j k hj x))
  · rcases hn.un x u with u | u
    · exact h.du j x hj q1 u
    · have := (h.pa j hj).lt x q1
      omega
  · rcases hn.un x u with u | u
    · exact (h.dv x e).1 u
    · have := (h.row.lt x e).2
      omega
  · rcases q1 with u | u
    · rcases hn.un x u with u | u
      · exact h.lo x (.inl u)
      · omega
    · exact h.lo x (.inr u)
theorem SM.cell {w : World} {lb : Nat} {z : Nat → Int} {n N g c q : Nat} {r m : Nat → Nat} {F : Nat → Nat → Prop} {t : Nat → Rs} {U : Nat → Prop} {W : World} (h : SM w lb z n N (.slice (some ⟨g, 0, none⟩) n c) r m F t U W) (hq : q < n) : W.cell? ⟨g, q * 2, none⟩ = some (.pointer (some ⟨r q, 0, none⟩)) ∧ W.cell? ⟨g, q * 2 + 1, none⟩ = some (.pointer (some ⟨m q, 0, none⟩)) := by
  obtain ⟨e1, e2⟩ := prs_at r m n q hq
  have d1 := h.row.cells (g := g) rfl _ _ e1
  have d2 := h.row.cells (g := g) rfl _ _ e2
  rw [Rm.plain_add, Nat.zero_add] at d1 d2
  exact ⟨d1, d2⟩
set_option maxRecDepth 100000 in
set_option maxHeartbeats 1000000 in
theorem wmany_long {w : World} {ab sa : Option Addr} {lb kb ns cs : Nat} {n : Int} (h : 4096 < lb ∨ 60 < ns ∨ n < 2 ∨ 20 < n) :
    Calls Tryz.prog 5 #[.slice ab lb kb, .int .i64 n, .slice sa ns cs] w fun e w' => e = .returned (.bool true) ∧ Below w.heap.size w w' := by
  have B0 : Hid (Below w.heap.size w w) := Below.refl _ _
  by_cases i1 : 4096 < lb
  · have i1' : (4096 : Int) < lb := by omega
    clear i1 h
    go_enter Tryz.func5, Tryz.ntmps5
    go_wp2_with fail
    (try go_ret)
    exact ⟨rfl, B0.out⟩
  have i1' : ¬ (4096 : Int) < lb := by omega
  by_cases i2 : 60 < ns
  · have i2' : (60 : Int) < ns := by omega
    clear i1 i2 h
    go_enter Tryz.func5, Tryz.ntmps5
    go_wp2_with fail
    (try go_ret)
    exact ⟨rfl, B0.out⟩
  have i2' : ¬ (60 : Int) < ns := by omega
  by_cases i3 : n < 2
  · clear i1 i2 h
    go_enter Tryz.func5, Tryz.ntmps5
    go_wp2_with fail
    (try go_ret)
    exact ⟨rfl, B0.out⟩
  have i4 : 20 < n := by omega
  clear i1 i2 h
  go_enter Tryz.func5, Tryz.ntmps5
  go_wp2_with fail
  (try go_ret)
  exact ⟨rfl, B0.out⟩
set_option maxHeartbeats 1000000 in
/-- WIREMANY, WHOLE. -/
theorem wmany_any {w : World} {ab sa : Option Addr} {lb kb ns cs : Nat} {z : Nat → Int} (n : Int) (ops : List (Int × Bool)) (hn : ns = ops.length) (hc : ns ≤ cs) (hb : Came w ab lb kb z) (hS : ScR w sa ops) :
    Calls Tryz.prog 5 #[.slice ab lb kb, .int .i64 n, .slice sa ns cs] w fun e w' => e = .returned (.bool true) ∧ Below w.heap.size w w' := by
  by_cases hlong : 4096 < lb ∨ 60 < ns ∨ n < 2 ∨ 20 < n
  · exact wmany_long hlong
  have hl0 : ¬ 4096 < lb := fun q => hlong (.inl q)
  have hns : ¬ 60 < ns := fun q => hlong (.inr (.inl q))
  have hn2 : ¬ n < 2 := fun q => hlong (.inr (.inr (.inl q)))
  have hn20 : ¬ 20 < n := fun q => hlong (.inr (.inr (.inr q)))
  obtain ⟨n, rfl⟩ : ∃ k : Nat, n = k := ⟨n.toNat, by omega⟩
  have frm : ∀ i : Nat, ∃ fa, (∀ w' : World, (Instr.slice 22 (.slice ab lb kb) (some (.int .i64 ((min i lb : Nat) : Int))) none none).run Tryz.prog w' = .ok (.slice fa (lb - min i lb) (kb - min i lb)) w') ∧ ∀ w', Came w' ab lb kb z → Came w' fa (lb - min i lb) (kb - min i lb) (fun k => z (min i lb + k)) := fun i => came_from hb (Nat.min_le_right _ _)
  let fa : Nat → Option Addr := fun i => Classical.choose (frm i)
  have hfa : ∀ i, (∀ w' : World, (Instr.slice 22 (.slice ab lb kb) (some (.int .i64 ((min i lb : Nat) : Int))) none none).run Tryz.prog w' = .ok (.slice (fa i) (lb - min i lb) (kb - min i lb)) w') ∧ ∀ w', Came w' ab lb kb z → Came w' (fa i) (lb - min i lb) (kb - min i lb) (fun k => z (min i lb + k)) := fun i => Classical.choose_spec (frm i)
  have cf : ∀ i W, Below w.heap.size w W → Came W (fa i) (lb - min i lb) (kb - min i lb) (fun k => z (min i lb + k)) := fun i W b => (hfa i).2 W (came_below (B := 0) hb b)
  refine wmany_walk ops hn hc hl0 hns (by omega) (by omega) _ (fun i v W => ∃ r m F t U, SM w lb z i 0 v r m F t U W)
    (K1 := fun i v rb W => ∃ r m F t U n0, SM w lb z i 0 v r m F t U W ∧ (∀ x, U x ∨ v.ownBlock = some x ∨ (∃ j, j < i ∧ F j x) → x < n0) ∧ w.heap.size ≤ n0 ∧ n0 ≤ W.heap.size ∧ ∃ a c, Wrd W rb a (lb - min i lb) c (fun k => z (min i lb + k)) ⟨0, 0, 0⟩ ∧ n0 ≤ rb ∧ ∀ g, a = some ⟨g, 0, none⟩ → n0 ≤ g)
    (K2 := fun i v rb mb W => ∃ r m F t U n0 Fn, SM w lb z i 0 v r m F t U W ∧ (∀ x, U x ∨ v.ownBlock = some x ∨ (∃ j, j < i ∧ F j x) → x < n0) ∧ w.heap.size ≤ n0 ∧ Pa W rb mb (lb - min i lb) (fun k => z (min i lb + k)) ⟨0, 0, 0⟩ ⟨0, 0, 0⟩ Fn ∧ ∀ k, Fn k → n0 ≤ k)
    fa (fun g r m i j W => ∃ c N F t U, SM w lb z n N (.slice (some ⟨g, 0, none⟩) n c) r m F t U W ∧ N ≤ i * n + j) ?_ (fun i => (hfa i).1) ?_ ?_ ?_ ?_ ?_ ?_ ?_ ?_ ?_ ?_
  · have hB : Below w.heap.size w (w.alloc (.cells bk0 47)) := (Below.refl _ _).alloc (Nat.le_refl _) _
    refine ⟨fun _ => 0, fun _ => 0, fun _ _ => False, fun _ => ⟨0, 0, 0⟩, fun k => k = w.heap.size, ⟨bk_start (heap_alloc_new _ _) bk0_hd bk0_rows, fun j hj => absurd hj (Nat.not_lt_zero _), World.ownsRow_nil _ _ _ _, fun j _ _ hj => absurd hj (Nat.not_lt_zero _), fun j _ hj => absurd hj (Nat.not_lt_zero _), fun x e => by simp [Value.ownBlock] at e, fun x q => ?_, hB⟩⟩
    rcases q with q | q | ⟨j, hj, _⟩
    · omega
    · simp [Value.ownBlock] at q
    · omega
  · rintro i v W hi ⟨r, m, F, t, U, h⟩
    refine (pRead_any (cf i W h.be) (by omega)).mono ?_
    rintro e w' ⟨rb, a, c, rfl, q1, q2, q3, q4⟩
    exact ⟨rb, rfl, r, m, F, t, U, W.heap.size, h.below q4, fun x q => h.lt q, h.be.size, q4.size, a, c, q1, q2, q3⟩
  · rintro i v rb W ⟨r, m, F, t, U, n0, h, h1, h2, h3, a, c, h4, h5, h6⟩
    refine (refRead_any (cf i W h.be) (by omega)).mono ?_
    rintro e w' ⟨mb, a', c', rfl, q1, q2, q3, q4⟩
    obtain ⟨Fn, p1, p2⟩ := pa_made h4 h5 h6 h3 q4 q1 q2 q3
    exact ⟨mb, rfl, r, m, F, t, U, n0, Fn, h.below q4, h1, h2, p1, p2⟩
  · rintro i v rb mb W ⟨r, m, F, t, U, n0, Fn, h, h1, h2, h3, h4⟩
    have hB : Below W.heap.size W ((W.alloc (.cells #[.pointer (some ⟨rb, 0, none⟩), .pointer (some ⟨mb, 0, none⟩)] 60)).alloc (.cells #[.pointer (some ⟨rb, 0, none⟩), .pointer (some ⟨mb, 0, none⟩)] 60)) := ((Below.refl _ _).alloc (Nat.le_refl _) _).alloc (by simp) _
    have h' := h.below hB
    exact ⟨prs r m i, h'.row, fun v' W' ho hg hbl => ⟨_, _, _, _, _, h'.push h1 (h3.below hB) h4 h2 ho hg hbl⟩⟩
  · rintro v W ⟨r, m, F, t, U, h⟩
    rcases h.row.2 with ⟨_, q⟩ | ⟨g, cap, cur, rfl, _, _, hnc, _⟩
    · omega
    · exact ⟨g, cap, r, m, rfl, hnc, cap, 0, F, t, U, h, Nat.zero_le _⟩
  · rintro g r m i j W q ⟨c, N, F, t, U, h, hN⟩ hq
    exact h.cell hq
  · rintro g r m i j k W kind sec ⟨c, N, F, t, U, h, hN⟩ hk
    obtain ⟨g', o, e, hcell⟩ := hS (fun q => by rw [q] at hk; simp at hk)
    exact ⟨g', o, e, cell_later h.be (hcell k kind sec hk).1⟩
  · rintro g r m i j W q kind sec ⟨c, N, F, t, U, h, hN⟩ hj hq hk
    have h' := h.below (Below.refl _ _).drew
    have hi : i < ops.length := (List.getElem?_eq_some_iff.1 hk).1
    have hmul : i * n ≤ 60 * 20 := Nat.mul_le_mul (by omega) (by omega)
    refine (does_any (h'.pa q hq) h'.bk (by omega) (fun k x => h'.du q k hq x) kind _).mono ?_
    rintro e w' ⟨rfl, tx, N', U', hd⟩
    have := hd.n1
    exact ⟨rfl, c, N', F, _, U', h'.does hq hd, by omega⟩
  · rintro g r m i W hi ⟨c, N, F, t, U, h, hN⟩
    exact ⟨c, N, F, t, U, h, by rw [Nat.succ_mul]; omega⟩
  · rintro g r m W q ⟨c, N, F, t, U, h, hN⟩ hq
    obtain ⟨a, c1, a', c', p1, p2, _, _⟩ := (h.pa q hq).ex
    refine (stands_any p1 p2).mono ?_
    rintro e w' ⟨rfl, x⟩
    exact ⟨rfl, c, N, F, t, U, h.below x, hN⟩
  · rintro g r m W ⟨c, N, F, t, U, h, hN⟩
    have hmul : ns * n ≤ 60 * 20 := Nat.mul_le_mul (by omega) (by omega)
    refine (bk_hold h.bk (by omega)).mono ?_
    rintro e w' ⟨rfl, x⟩
    exact ⟨rfl, rfl, (h.below x).be⟩
end Go.Proofs.YtkjeneklkdekoaaGreatDoor
