import Derived.Test.YtenaliaefbkbcaaGreatMt
import Derived.Maps.RangeWalk
import Derived.Sort.KeysCollected
import Derived.LoopN
import Derived.Scope
import Derived.WalkMore
namespace Go.Proofs.YtenaliaefbkbcaaGreat.Li
open Go Go.RowKit Go.Maps
set_option linter.unusedSimpArgs false
set_option linter.unusedVariables false
/-! ### The law's second loop, purely -/
structure WS (lk : KP → Option Int) (t : ByteArray) (left : Lit → Bool) (wt : ByteArray → Option Int) (K : List ByteArray) : Prop where
  nd : K.Nodup
  mem : ∀ j, j ∈ K ↔ (wt j).isSome = true
  s1 : ∀ j q, wt j = some q → ∃ f, lk (f, j) = some q ∧ mch f t = true
  s2 : ∀ f j q, lk (f, j) = some q → left (kp (f, j)) = false → mch f t = true → ∃ q', wt j = some q' ∧ q ≤ q'
theorem left_new {left : Lit → Bool} {k x : KP} (hk : okP k) (hx : okP x) (h : (left (kp k) && !(kp k).sameKey (kp x)) = false) : left (kp k) = false ∨ k = x := by
  cases e : left (kp k) with
  | false => exact .inl rfl
  | true =>
    rw [e] at h
    simp at h
    exact .inr (kp_inj hk hx (WideAt.sameKey_eq h))
section
variable {lk : KP → Option Int} {t : ByteArray} {left : Lit → Bool} {wt : ByteArray → Option Int} {K : List ByteArray}
theorem WS.start (hl : ∀ k q, lk k = some q → left (kp k) = true) : WS lk t left (fun _ => none) [] := by
  refine ⟨List.nodup_nil, fun j => by simp, fun j q h => (by cases h), fun f j q h1 h2 => ?_⟩
  rw [hl _ _ h1] at h2
  cases h2
theorem WS.skip (h : WS lk t left wt K) (hok : ∀ k q, lk k = some q → okP k) {f j : ByteArray} {q : Int} (hx : lk (f, j) = some q) (hm : mch f t = false) : WS lk t (fun z => left z && !z.sameKey (kp (f, j))) wt K := by
  refine ⟨h.nd, h.mem, h.s1, fun f' j' q' h1 h2 h3 => ?_⟩
  rcases left_new (hok _ _ h1) (hok _ _ hx) h2 with z | z
  · exact h.s2 f' j' q' h1 z h3
  · simp only [Prod.mk.injEq] at z
    rw [z.1, hm] at h3
    cases h3
theorem WS.stay (h : WS lk t left wt K) (hok : ∀ k q, lk k = some q → okP k) {f j : ByteArray} {q o : Int} (hx : lk (f, j) = some q) (ho : wt j = some o) (hq : q ≤ o) : WS lk t (fun z => left z && !z.sameKey (kp (f, j))) wt K := by
  refine ⟨h.nd, h.mem, h.s1, fun f' j' q' h1 h2 h3 => ?_⟩
  rcases left_new (hok _ _ h1) (hok _ _ hx) h2 with z | z
  · exact h.s2 f' j' q' h1 z h3
  · simp only [Prod.mk.injEq] at z
    obtain ⟨rfl, rfl⟩ := z
    rw [hx] at h1
    cases h1
    exact ⟨o, ho, hq⟩
theorem WS.set (h : WS lk t left wt K) (hok : ∀ k q, lk k = some q → okP k) {f j : ByteArray} {q : Int} (hx : lk (f, j) = some q) (hm : mch f t = true) (ho : ∀ o, wt j = some o → o < q) : WS lk t (fun z => left z && !z.sameKey (kp (f, j))) (fun i => if i = j then some q else wt i) (if (wt j).isSome = true then K else K ++ [j]) := by
  refine ⟨?_, fun i => ?_, fun i q' hi => ?_, fun f' j' q' h1 h2 h3 => ?_⟩
  · split
    · exact h.nd
    · rename_i e
      refine List.nodup_append.2 ⟨h.nd, by simp, fun a ha b hb => ?_⟩
      simp at hb
      subst hb
      intro z
      subst z
      exact e ((h.mem a).1 ha)
  · by_cases e : i = j
    · subst e
      simp only [if_true, Option.isSome_some, iff_true]
      split
      · rename_i z
        exact (h.mem i).2 z
      · simp
    · simp only [e, if_false]
      split
      · exact h.mem i
      · rw [List.mem_append]
        simp [e, h.mem i]
  · by_cases e : i = j
    · subst e
      simp at hi
      subst hi
      exact ⟨f, hx, hm⟩
    · simp only [e, if_false] at hi
      exact h.s1 i q' hi
  · by_cases e : j' = j
    · subst e
      refine ⟨q, by simp, ?_⟩
      rcases left_new (hok _ _ h1) (hok _ _ hx) h2 with z | z
      · obtain ⟨o, z1, z2⟩ := h.s2 f' j' q' h1 z h3
        have := ho o z1
        omega
      · simp only [Prod.mk.injEq] at z
        obtain ⟨rfl, -⟩ := z
        rw [hx] at h1
        cases h1
        exact Int.le_refl _
    · simp only [e, if_false]
      rcases left_new (hok _ _ h1) (hok _ _ hx) h2 with z | z
      · exact h.s2 f' j' q' h1 z h3
      · simp only [Prod.mk.injEq] at z
        exact absurd z.2 e
/-- Behind it: what is wanted is what is found. -/
theorem WS.found (h : WS lk t left wt K) (hl : ∀ kl, left kl = false) {L : List Fl} (hk : ∀ f k q, lk (f, k) = some q ↔ Has (L.map Fl.p) f k q) {ys : List En} (hp : ys.Perm (ents (ms L t))) (hs : ByF ys) :
    (∀ k q, (k, q) ∈ cmpct ys ↔ wt k = some q) ∧ (cmpct ys).length = K.length := by
  obtain ⟨p1, p2⟩ := cmpct_spec ys hs
  have hm : ∀ k q, (k, q) ∈ ys ↔ ∃ f, lk (f, k) = some q ∧ mch f t = true := fun k q => by
    rw [hp.mem_iff]
    constructor
    · intro z
      simp only [ents, List.mem_flatMap, ms, List.mem_filter] at z
      obtain ⟨x, ⟨x1, x2⟩, x3⟩ := z
      exact ⟨x.f, (hk _ _ _).2 ⟨x.es, List.mem_map.2 ⟨x, x1, rfl⟩, x3⟩, x2⟩
    · rintro ⟨f, z1, z2⟩
      obtain ⟨es, z3, z4⟩ := (hk _ _ _).1 z1
      obtain ⟨x, x1, x2⟩ := List.mem_map.1 z3
      simp only [Fl.p, Prod.mk.injEq] at x2
      obtain ⟨rfl, rfl⟩ := x2
      simp only [ents, List.mem_flatMap, ms, List.mem_filter]
      exact ⟨x, ⟨x1, z2⟩, z4⟩
  have hw : ∀ k q, (k, q) ∈ cmpct ys ↔ wt k = some q := fun k q => by
    rw [p2]
    constructor
    · rintro ⟨z1, z2⟩
      obtain ⟨f, f1, f2⟩ := (hm k q).1 z1
      obtain ⟨q', q1, q2⟩ := h.s2 f k q f1 (hl _) f2
      obtain ⟨f', g1, g2⟩ := h.s1 k q' q1
      have := z2 q' ((hm k q').2 ⟨f', g1, g2⟩)
      have : q' = q := by omega
      rw [q1, this]
    · intro z
      obtain ⟨f, f1, f2⟩ := h.s1 k q z
      refine ⟨(hm k q).2 ⟨f, f1, f2⟩, fun q' hq' => ?_⟩
      obtain ⟨f', g1, g2⟩ := (hm k q').1 hq'
      obtain ⟨q'', r1, r2⟩ := h.s2 f' k q' g1 (hl _) g2
      rw [z] at r1
      cases r1
      exact r2
  refine ⟨hw, ?_⟩
  have nd : ((cmpct ys).map (·.1)).Nodup := by
    unfold List.Nodup
    rw [List.pairwise_map]
    refine p1.imp (fun {a b} z e => ?_)
    have : cb a.1.data.toList b.1.data.toList < 0 := z
    rw [e, cb_self] at this
    omega
  have pm : ((cmpct ys).map (·.1)).Perm K := by
    rw [List.perm_ext_iff_of_nodup nd h.nd]
    intro k
    rw [h.mem]
    constructor
    · intro z
      obtain ⟨⟨k', q⟩, z1, rfl⟩ := List.mem_map.1 z
      rw [(hw k' q).1 z1]
      rfl
    · intro z
      obtain ⟨q, hq⟩ := Option.isSome_iff_exists.1 z
      exact List.mem_map.2 ⟨(k, q), (hw k q).2 hq, rfl⟩
  have := pm.length_eq
  simpa using this
end
end Go.Proofs.YtenaliaefbkbcaaGreat.Li
namespace Go.Proofs.YtenaliaefbkbcaaGreat.Li
open Go Go.RowKit Go.Maps
set_option linter.unusedSimpArgs false
set_option linter.unusedVariables false
theorem bl_of : ∀ {a b : List UInt8}, cb a b < 0 → Op.bytesLess a b = true
  | [], [], h => by simp [Lib.compareBytes] at h
  | [], y :: b, _ => rfl
  | x :: a, [], h => by simp [Lib.compareBytes] at h
  | x :: a, y :: b, h => by
    rw [cb_cons] at h
    by_cases e : x = y
    · rw [if_pos e] at h
      have := bl_of h
      simp [Op.bytesLess, e, this]
    · rw [if_neg e] at h
      by_cases l : x < y
      · simp [Op.bytesLess, l]
      · rw [if_neg l] at h
        omega
theorem bl_lt {a b : ByteArray} (h : kl1 a b < 0) : Op.bytesLess a.toList b.toList = true := by
  rw [un_list, un_list]
  exact bl_of h
/-! ### The law's second loop in memory -/
structure LR (W : World) (B : Nat) (v : Value) (L : List Fl) (lk : KP → Option Int) (mb it wb n2 : Nat) (D : DataW Value) (t : ByteArray) (left : Lit → Bool) (cnt : Nat) (wt : ByteArray → Option Int) (K : List ByteArray) (wx : World) : Prop where
  rg : wx.ranges Tryz.prog 38 hv mb it n2 D left cnt
  sl : SL B wx B v L
  mg : MG wx (.map (some wb)) K.length (fun k => (wt k).map (Value.int .i64))
  ws : WS lk t left wt K
  bel : Below W.heap.size W wx
  kb : K.length + cnt ≤ n2
theorem ranges_keep {wx wy : World} {mb it n2 cnt : Nat} {D : DataW Value} {left : Lit → Bool} (h : wx.ranges Tryz.prog 38 hv mb it n2 D left cnt) (h1 : wy.heap[mb]? = wx.heap[mb]?) (h2 : wy.heap[it]? = wx.heap[it]?) : wy.ranges Tryz.prog 38 hv mb it n2 D left cnt := by
  obtain ⟨es, clock, since, seen, c0, r1, r2, r3, r4, r5, r6⟩ := h
  exact ⟨es, clock, since, seen, c0, h1.trans r1, r2, r3, r4, h2.trans r5, r6⟩
theorem ranges_it {wx : World} {mb it n2 cnt : Nat} {D : DataW Value} {left : Lit → Bool} (h : wx.ranges Tryz.prog 38 hv mb it n2 D left cnt) : (∃ es c, wx.heap[mb]? = some (.map es c)) ∧ ∃ a b c d, wx.heap[it]? = some (.mapIter a b c d) := by
  obtain ⟨es, clock, since, seen, c0, r1, r2, r3, r4, r5, r6⟩ := h
  exact ⟨⟨_, _, r1⟩, _, _, _, _, r5⟩
theorem not_isL_map {w : World} {j : Nat} {es : Array MapEntry} {c : Nat} (h : w.heap[j]? = some (.map es c)) : ¬ isL w j := fun ⟨a, b, d, e, _⟩ => by rw [h] at e; cases e
section
variable {W : World} {B : Nat} {v : Value} {L : List Fl} {lk : KP → Option Int} {mb it wb n2 : Nat} {D : DataW Value} {t : ByteArray} {left : Lit → Bool} {cnt : Nat} {wt : ByteArray → Option Int} {K : List ByteArray} {wx wy : World}
theorem LR.below (h : LR W B v L lk mb it wb n2 D t left cnt wt K wx) (hb : Below wx.heap.size wx wy) : LR W B v L lk mb it wb n2 D t left cnt wt K wy := by
  obtain ⟨⟨_, _, m1⟩, _, _, _, _, i1⟩ := ranges_it h.rg
  exact ⟨ranges_keep h.rg (hb.block _ (Array.getElem?_eq_some_iff.1 m1).1) (hb.block _ (Array.getElem?_eq_some_iff.1 i1).1), h.sl.below hb, h.mg.keep (fun b e => hb.block b (h.mg.lt e)), h.ws, h.bel.trans (hb.mono h.bel.size), h.kb⟩
/-- An entry is taken: the maps stand as they stood. -/
theorem LR.took (h : LR W B v L lk mb it wb n2 D t left cnt wt K wx) {left' : Lit → Bool} {cnt' : Nat} (hr : wy.ranges Tryz.prog 38 hv mb it n2 D left' cnt') (hg : wx.grownBy wy (some it)) (hB : W.heap.size ≤ it) : SL B wy B v L ∧ MG wy (.map (some wb)) K.length (fun k => (wt k).map (Value.int .i64)) ∧ Below W.heap.size W wy := by
  obtain ⟨_, _, _, _, _, i1⟩ := ranges_it h.rg
  refine ⟨h.sl.keep (fun j hj => ?_), h.mg.keep (fun b e => ?_), h.bel.trans ⟨hg.os, hg.tape, hg.output, hg.size, fun j hj => hg.block j (Nat.lt_of_lt_of_le hj h.bel.size) (fun e => ?_)⟩⟩
  · obtain ⟨c, t', z, e1, e2⟩ := hj
    exact hg.block j (Array.getElem?_eq_some_iff.1 e1).1 (fun e => by cases e; rw [i1] at e1; cases e1)
  · refine hg.block b (h.mg.lt e) (fun q => ?_)
    cases q
    obtain ⟨es, c, e1⟩ := h.mg.block e
    rw [i1] at e1
    cases e1
  · cases e
    omega
end
end Go.Proofs.YtenaliaefbkbcaaGreat.Li
namespace Go.Proofs.YtenaliaefbkbcaaGreat.Li
open Go Go.RowKit Go.Maps
set_option linter.unusedSimpArgs false
set_option linter.unusedVariables false
theorem zv76 (w : World) : (zeroValue 76).run Tryz.prog w = .ok (.agg #[.string ⟨#[]⟩, .slice none 0 0]) w := (zero_of_info (t := 76) (n := 2) (by kernel_rfl)).1 w
theorem run_clear76 (w : World) (ty : TypeId) (g o n c : Nat) (hn : 0 < n) (hc : ∀ j, j < n * 2 → (w.cell? ⟨g, o + j, none⟩).isSome = true) (hf : ∀ j, j < n * 2 → w.frozen? ⟨g, o + j, none⟩ = false) :
    ∃ Z, (Builtin.clear_ #[69] ty #[.slice (some ⟨g, o, none⟩) n c]).run Tryz.prog w = .ok (.tuple #[]) (w.setCells g o Z) := by
  refine ⟨(Builtin.zeroCells (Value.agg #[.string ⟨#[]⟩, .slice none 0 0]).cells n).toList, ?_⟩
  have hcs : (Value.agg #[.string ⟨#[]⟩, .slice none 0 0]).cells = #[.string ⟨#[]⟩, .slice none 0 0] := rfl
  have hl : (Builtin.zeroCells (Value.agg #[.string ⟨#[]⟩, .slice none 0 0]).cells n).toList.length = n * 2 := by rw [hcs]; simp [Builtin.zeroCells]
  have h1 : ∀ v ∈ (Builtin.zeroCells (Value.agg #[.string ⟨#[]⟩, .slice none 0 0]).cells n).toList, v.oneCell' = true := by
    rw [hcs]
    intro v hv
    simp [Builtin.zeroCells] at hv
    obtain ⟨i, hi, rfl⟩ := hv
    rcases Nat.mod_two_eq_zero_or_one i with q | q <;> rw [q] <;> rfl
  have hst := run_storeCells_cells (P := Tryz.prog) g o _ 0 w (by rw [hl]; simpa using hc) (by rw [hl]; simpa using hf) h1
  simp only [Nat.add_zero] at hst
  obtain ⟨m, rfl⟩ : ∃ m, n = m + 1 := ⟨n - 1, by omega⟩
  simp [Builtin.clear_, run_underlying Tryz.underlying69, zv76, hst]
set_option maxRecDepth 100000 in
set_option maxHeartbeats 2000000 in
/-- A list of one without it. -/
theorem without62_one (g c : Nat) (w : World) (B : Nat) (x : En) (ho : w.ownsRow B 44 2 (.slice (some ⟨g, 0, none⟩) 1 c) 1 (prow [epv x])) :
    Calls Tryz.prog 62 #[.slice (some ⟨g, 0, none⟩) 1 c, .int .i64 0] w fun e w' => e = .returned (.slice none 0 0) ∧ Ch (fun j => j = g) w w' := by
  have h1 : w.ownsRow B 44 2 (.slice (some ⟨g, 0, none⟩) [epv x].length c) [epv x].length (prow [epv x]) := ho
  obtain ⟨g', c', e, hle, hc⟩ := prow_cell h1 (j := 0) (by simp)
  simp only [Value.slice.injEq, Option.some.injEq, Addr.mk.injEq, true_and, and_true] at e
  obtain ⟨rfl, rfl⟩ := e
  obtain ⟨cu, hcu⟩ := own_lt ho (g := g) rfl
  have k0 : w.cell? ⟨g, 0, none⟩ = some (.string x.1) := (hc 0 (by simp)).1
  have k1 : w.cell? ⟨g, 1, none⟩ = some (.int .i64 x.2) := (hc 0 (by simp)).2
  have f0 := box_frozen hcu 0
  have f1 := box_frozen hcu 1
  have hc0 : ¬ c = 0 := by simp at hle; omega
  have hcz : (0 : Int) ≤ (c : Int) := by omega
  have hc1 : (1 : Int) ≤ (c : Int) := by simp at hle; omega
  obtain ⟨w1, hw1⟩ : ∃ w1, w1 = (w.setCell ⟨g, 0, none⟩ (.string x.1)).setCell ⟨g, 1, none⟩ (.int .i64 x.2) := ⟨_, rfl⟩
  have hcu1 : w1.heap[g]? = some (.cells ((cu.setIfInBounds 0 (.string x.1)).setIfInBounds 1 (.int .i64 x.2)) 44 (0, 0)) := by rw [hw1]; exact heap_set (heap_set hcu _) _
  have hsz : 2 ≤ cu.size := by
    have : cu[1]? = some (.int .i64 x.2) := by simp [World.cell?, hcu] at k1; exact k1
    have := (Array.getElem?_eq_some_iff.1 this).1
    omega
  obtain ⟨Z, hclr⟩ := run_clear44 w1 0 g 0 1 c (by omega) (fun j hj => by
    simp [World.cell?, hcu1]
    omega) (fun j hj => box_frozen hcu1 _)
  have hch : Ch (fun j => j = g) w (w1.setCells g 0 Z) := by rw [hw1]; exact ((ch_set g 0 _).then (ch_set g 1 _)).then (ch_setCells g Z 0 _)
  have HCH := hidi hch
  rw [hw1] at hclr HCH
  clear hch hcu1 hw1 hcu hc ho h1 hsz hle
  go_enter Tryz.func62, Tryz.ntmps62
  go_wp2_with fail
  go_ret
  exact ⟨rfl, HCH.out⟩
/-- append(nil, l...) of a row of two cells each. -/
theorem app_nil {w : World} {st e bytes : Nat} {z : Value} {B g n c : Nat} {L : List PV} (hu : Tryz.prog.underlying st = some (.slice e)) (hi : (Tryz.prog.info? e).map (fun i => (i.zero, i.size, i.bytes)) = some (some z, 2, bytes)) (hz : z.cells.size = 2) (hby : bytes ≤ 400) (ho : w.ownsRow B e 2 (.slice (some ⟨g, 0, none⟩) n c) n (prow L)) (hn : 0 < n) (hn2 : n ≤ 1000000) (h1 : ∀ u ∈ prow L, u.oneCell' = true) :
    ∃ g' c' w', (Builtin.append_ #[st, st] st #[.slice none 0 0, .slice (some ⟨g, 0, none⟩) n c]).run Tryz.prog w = .ok (.slice (some ⟨g', 0, none⟩) n c') w' ∧ w'.ownsRow w.heap.size e 2 (.slice (some ⟨g', 0, none⟩) n c') n (prow L) ∧ Below w.heap.size w w' := by
  obtain ⟨i0, hi0, hzz⟩ := Option.map_eq_some_iff.1 hi
  simp only [Prod.mk.injEq] at hzz
  have hl : (prow L).length = n * 2 := ho.1
  obtain ⟨v', w', hr, h2, h3, h4, h5⟩ := run_append_own_at (P := Tryz.prog) w w.heap.size st st e i0 z 2 bytes hu hi0 hzz.1 hzz.2.1 hzz.2.2 hz (by omega) (.slice none 0 0) 0 [] (World.ownsRow_nil _ _ _ _) ⟨g, 0, none⟩ n c (prow L) hl (own_cells ho) h1 (by unfold maxLen; omega) (Nat.le_trans (Nat.mul_le_mul (show 0 + n ≤ 1000000 by omega) hby) (by omega)) (Nat.le_refl _)
  simp only [Nat.zero_add, List.nil_append] at h2
  rcases h2.2 with ⟨_, q⟩ | ⟨g', cap', cur, rfl, q⟩
  · omega
  · exact ⟨g', cap', w', hr, h2, ⟨h3.os, h3.tape, h3.output, h3.size, fun k hk => h3.block k hk (by simp [Value.ownBlock])⟩⟩
set_option maxRecDepth 100000 in
set_option maxHeartbeats 4000000 in
/-- A filter is taken out of a list of two or three. -/
theorem without63_any (g c n p : Nat) (w : World) (B : Nat) (L : List PV) (y : PV) (hL : L.length = n + 1) (hn : n = 1 ∨ n = 2) (hp : p ≤ n) (hy : L[n]? = some y) (hsl : ∀ x ∈ L, ∃ a k d, x.2 = .slice a k d) (ho : w.ownsRow B 76 2 (.slice (some ⟨g, 0, none⟩) (n + 1) c) (n + 1) (prow L)) :
    Calls Tryz.prog 63 #[.slice (some ⟨g, 0, none⟩) (n + 1) c, .int .i64 (p : Int)] w fun e w' => ∃ v', e = .returned v' ∧ w'.ownsRow w.heap.size 76 2 v' n (prow ((L.set p y).take n)) ∧ Ch (fun j => j = g) w w' := by
  have h1 : w.ownsRow B 76 2 (.slice (some ⟨g, 0, none⟩) L.length c) L.length (prow L) := by rw [hL]; exact ho
  obtain ⟨g', c', e, hle, hc⟩ := prow_cell h1 (j := 0) (by omega)
  simp only [Value.slice.injEq, Option.some.injEq, Addr.mk.injEq, true_and, and_true] at e
  obtain ⟨rfl, rfl⟩ := e
  rw [hL] at hle
  obtain ⟨cu, hcu⟩ := own_lt ho (g := g) rfl
  have hyn : L[n]'(by omega) = y := by rw [List.getElem?_eq_getElem (by omega)] at hy; simpa using hy
  have k0 : w.cell? ⟨g, n * 2, none⟩ = some (.string y.1) := by have := (hc n (by omega)).1; rw [hyn] at this; exact this
  have k1 : w.cell? ⟨g, n * 2 + 1, none⟩ = some y.2 := by have := (hc n (by omega)).2; rw [hyn] at this; exact this
  have q0 : ∃ u, w.cell? ⟨g, p * 2, none⟩ = some u := ⟨_, (hc p (by omega)).1⟩
  have q1 : ∃ u, w.cell? ⟨g, p * 2 + 1, none⟩ = some u := ⟨_, (hc p (by omega)).2⟩
  obtain ⟨u0, q0⟩ := q0
  obtain ⟨u1, q1⟩ := q1
  have f0 := box_frozen hcu (p * 2)
  have f1 := box_frozen hcu (p * 2 + 1)
  obtain ⟨w1, hw1⟩ : ∃ w1, w1 = (w.setCell ⟨g, p * 2, none⟩ (.string y.1)).setCell ⟨g, p * 2 + 1, none⟩ y.2 := ⟨_, rfl⟩
  have ho1 : w1.ownsRow B 76 2 (.slice (some ⟨g, 0, none⟩) (n + 1) c) (n + 1) (prow (L.set p y)) := by rw [hw1, ← hL]; exact own_put h1 (by omega) y
  obtain ⟨cu1, hcu1⟩ := own_lt ho1 (g := g) rfl
  obtain ⟨Z, hclr⟩ := run_clear76 w1 0 g (n * 2) 1 (c - n) (by omega) (fun j hj => by
    have := own_cells ho1 (n * 2 + j) ((prow (L.set p y))[n * 2 + j]'(by rw [prow_len, List.length_set, hL]; omega)) (List.getElem?_eq_getElem _)
    rw [addr_at] at this
    rw [this]
    rfl) (fun j hj => box_frozen hcu1 _)
  have ho2 := own_aboves Z (n * 2) w1 (own_take ho1 (k := n) (by omega)) (Nat.le_refl _)
  have h1c : ∀ u ∈ prow ((L.set p y).take n), u.oneCell' = true := fun u hu => by
    simp only [prow, List.mem_flatMap] at hu
    obtain ⟨x, hx, hu⟩ := hu
    have hxL : x ∈ L := by
      rcases List.mem_or_eq_of_mem_set (List.mem_of_mem_take hx) with z | z
      · exact z
      · rw [z]; exact List.mem_of_getElem? hy
    obtain ⟨a, k, d, hx2⟩ := hsl x hxL
    simp only [pcs, List.mem_cons, List.not_mem_nil, or_false] at hu
    rcases hu with rfl | rfl
    · rfl
    · rw [hx2]; rfl
  obtain ⟨g9, c9, w9, hrun, ho9, hb9⟩ := app_nil (w := w1.setCells g (n * 2) Z) (st := 69) Tryz.underlying69 info76 rfl (by omega) ho2 (by omega) (by omega) h1c
  have hch : Ch (fun j => j = g) w (w1.setCells g (n * 2) Z) := by rw [hw1]; exact ((ch_set g _ _).then (ch_set g _ _)).then (ch_setCells g Z _ _)
  have hs9 : w.heap.size ≤ (w1.setCells g (n * 2) Z).heap.size := hch.size
  have HF := hidi (And.intro (row_base ho9 (B' := w.heap.size) (fun j hj => Nat.le_trans hs9 (row_ge ho9 hj))) (hch.then (Below.ch hb9)))
  obtain ⟨ya, yk, yd, hy2⟩ := hsl y (List.mem_of_getElem? hy)
  rw [hw1] at hclr hrun
  rw [hy2] at hclr hrun k1
  have hcn : ¬ c = n := by omega
  have hi1 : (n : Int) < (n : Int) + 1 := by omega
  have hi2 : (p : Int) < (n : Int) + 1 := by omega
  have hi3 : (0 : Int) ≤ (p : Int) := by omega
  have hi4 : (0 : Int) ≤ (n : Int) := by omega
  have hi5 : (n : Int) ≤ (n : Int) + 1 := by omega
  have hi6 : (n : Int) ≤ (c : Int) := by omega
  have hsb : (n : Int) + 1 - 1 = (n : Int) := by omega
  have hwn : IntKind.i64.wrap (n : Int) = (n : Int) := by rw [IntKind.wrap_i64]; omega
  have hwn1 : IntKind.i64.wrap ((n : Int) - 1) = (n : Int) - 1 := by rw [IntKind.wrap_i64]; omega
  have hbt : bits .and .i64 (n : Int) ((n : Int) - 1) = 0 := by rcases hn with rfl | rfl <;> decide +kernel
  have hnn : n + 1 - n = 1 := by omega
  clear ho ho1 ho2 ho9 hb9 h1 hc hcu hcu1 hw1 hyn hy hsl h1c hch hs9 hy2 hle hL
  have HRUN := hidi hrun
  clear hrun
  go_enter Tryz.func63, Tryz.ntmps63
  go_wp2_with (at_builtin; refine Lib.wpList_append_run _ rfl (.const (.slice none 0 0)) (.tmp 27) 69 69 rfl _ _ rfl rfl _ w9 HRUN.out ?_)
  go_ret
  exact ⟨_, rfl, HF.out.1, HF.out.2⟩
end Go.Proofs.YtenaliaefbkbcaaGreat.Li
namespace Go.Proofs.YtenaliaefbkbcaaGreat.Li
open Go Go.RowKit Go.Maps
set_option linter.unusedSimpArgs false
set_option linter.unusedVariables false
theorem left_at {L : List Fl} {n p i : Nat} {y z : Fl} (hy : L[n]? = some y) (hL : L.length = n + 1) (hp : p ≤ n) (hz : ((L.set p y).take n)[i]? = some z) : ∃ j, L[j]? = some z ∧ j ≠ p ∧ (j = (if i = p then n else i) ∧ i < n) := by
  rw [List.getElem?_take] at hz
  split at hz
  · rename_i hi
    rw [List.getElem?_set] at hz
    split at hz
    · rename_i e
      subst e
      rw [if_pos (by omega)] at hz
      cases hz
      exact ⟨n, hy, by omega, by simp, hi⟩
    · rename_i e
      exact ⟨i, hz, fun q => e q.symm, by rw [if_neg (fun q => e q.symm)], hi⟩
  · cases hz
set_option maxRecDepth 100000 in
set_option maxHeartbeats 4000000 in
theorem forget_any {B : Nat} {w : World} {sb : Nat} {v : Value} {L : List Fl} (h : SL B w sb v L) {n p : Nat} {x y : Fl} {e : En} (hL : L.length = n + 1) (hn : n = 1 ∨ n = 2) (hp : p ≤ n) (hx : L[p]? = some x) (hy : L[n]? = some y) (he : x.es = [e]) (hB : B ≤ w.heap.size) :
    Calls Tryz.prog 38 #[.pointer (some ⟨sb, 0, none⟩), .int .i64 (p : Int), .int .i64 0] w fun r w' => r = .returned (.tuple #[]) ∧ ∃ v', SL B w' sb v' ((L.set p y).take n) ∧ KL B w w' := by
  obtain ⟨F, c, fc, hv, hF, hc, hle, -⟩ := h.row hx
  have hxs := h.es x (List.mem_of_getElem? hx)
  rw [he] at hxs
  have hx1 : w.ownsRow B 44 2 x.v 1 (prow [epv e]) := hxs
  obtain ⟨gx, cx, hvx, -, -⟩ := prow_cell hxs (j := 0) (by simp)
  have hvx' : x.v = .slice (some ⟨gx, 0, none⟩) 1 cx := hvx
  rw [hvx'] at hx1
  have W1 := hidi (without62_one gx cx w B e hx1)
  have hgx : B ≤ gx ∧ isL w gx := own_isL hx1 (.inr rfl) rfl
  have hFi : B ≤ F ∧ isL w F := own_isL h.own (.inl rfl) (by rw [hv]; rfl)
  have hFg : F ≠ gx := fun q => by
    obtain ⟨cu, hcu⟩ := own_lt hx1 (g := gx) rfl
    rw [← q, hF] at hcu
    simp at hcu
  have hsbF : sb ≠ F ∧ sb ≠ gx := by
    refine ⟨fun q => ?_, fun q => ?_⟩
    · have := h.at_; rw [q, hF] at this; simp at this
    · obtain ⟨cu, hcu⟩ := own_lt hx1 (g := gx) rfl
      have := h.at_; rw [q, hcu] at this; simp at this
  have hml : (L.map fpv).length = n + 1 := by simpa using hL
  have ST := hidi (show ∀ w1, Ch (fun j => j = gx) w w1 → w1.cell? ⟨sb, 0, none⟩ = some (.slice (some ⟨F, 0, none⟩) (n + 1) c) ∧ w1.cell? ⟨F, p * 2 + 1, none⟩ = some x.v ∧ w1.frozen? ⟨F, p * 2 + 1, none⟩ = false ∧ (w1.setCell ⟨F, p * 2 + 1, none⟩ (.slice none 0 0)).cell? ⟨sb, 0, none⟩ = some (.slice (some ⟨F, 0, none⟩) (n + 1) c) ∧ (w1.setCell ⟨F, p * 2 + 1, none⟩ (.slice none 0 0)).ownsRow B 76 2 (.slice (some ⟨F, 0, none⟩) (n + 1) c) (n + 1) (prow ((L.map fpv).set p (x.f, .slice none 0 0))) ∧ Ch (fun j => j = gx ∨ j = F) w (w1.setCell ⟨F, p * 2 + 1, none⟩ (.slice none 0 0)) from fun w1 hc1 => by
    have a1 : w1.heap[sb]? = some (.cells #[v] 71 (0, 0)) := (hc1.block sb h.lt hsbF.2).trans h.at_
    have a2 : w1.heap[F]? = some (.cells fc 76 (0, 0)) := (hc1.block F (Array.getElem?_eq_some_iff.1 hF).1 hFg).trans hF
    have hv2 : v = .slice (some ⟨F, 0, none⟩) (n + 1) c := by rw [hv, hL]
    have c1 : w1.cell? ⟨sb, 0, none⟩ = some (.slice (some ⟨F, 0, none⟩) (n + 1) c) := by rw [← hv2]; exact box_cells a1 0 v rfl
    have o1 : w1.ownsRow B 76 2 v (L.map fpv).length (prow (L.map fpv)) := own_ch h.own hc1 (fun g hg q => by rw [hv] at hg; simp [Value.ownBlock] at hg; omega)
    refine ⟨c1, box_cells a2 _ _ hc, box_frozen a2 _, ?_, ?_, (hc1.mono (fun j _ q => .inl q)).trans (ch_set F _ _) (fun j _ q => .inr q)⟩
    · rw [← c1]
      unfold World.cell?
      simp only [heap_set_ne _ hsbF.1]
    · have hm : (L.map fpv)[p]? = some (fpv x) := by rw [List.getElem?_map, hx]; rfl
      rw [hv2, hml] at o1
      have o2 : w1.ownsRow B 76 2 (.slice (some ⟨F, 0, none⟩) (L.map fpv).length c) (L.map fpv).length (prow (L.map fpv)) := by rw [hml]; exact o1
      have := own_set o2 hm (.slice none 0 0)
      rw [hml] at this
      exact this)
  have hyL : ((L.map fpv).set p (x.f, .slice none 0 0))[n]? = some (if p = n then (x.f, .slice none 0 0) else fpv y) := by
    rw [List.getElem?_set]
    split
    · rename_i q
      subst q
      rw [if_pos (by omega)]
    · rename_i q
      rw [List.getElem?_map, hy]
      rfl
  have hsl : ∀ u ∈ (L.map fpv).set p (x.f, .slice none 0 0), ∃ a k d, u.2 = .slice a k d := fun u hu => by
    rcases List.mem_or_eq_of_mem_set hu with z | z
    · obtain ⟨l, hl, rfl⟩ := List.mem_map.1 z
      obtain ⟨a, d, hd⟩ := own_sl (h.es l hl)
      exact ⟨_, _, _, hd⟩
    · exact ⟨_, _, _, by rw [z]⟩
  have hset : (((L.map fpv).set p (x.f, .slice none 0 0)).set p (if p = n then (x.f, .slice none 0 0) else fpv y)).take n = (((L.set p y).take n).map fpv) := by
    rw [List.set_set, List.map_take, List.map_set]
    by_cases q : p = n
    · subst q
      apply List.ext_getElem?
      intro i
      rw [List.getElem?_take, List.getElem?_take]
      split
      · rw [List.getElem?_set_ne (by omega), List.getElem?_set_ne (by omega)]
      · rfl
    · rw [if_neg q]
  have WW := hidi (fun (w1 : World) (ho : w1.ownsRow B 76 2 (.slice (some ⟨F, 0, none⟩) (n + 1) c) (n + 1) (prow ((L.map fpv).set p (x.f, .slice none 0 0)))) => without63_any F c n p w1 B _ _ (by rw [List.length_set, hml]) hn hp hyL hsl ho)
  have HS := hidi hset
  have HH := hidi (And.intro h (And.intro hgx (And.intro hFi (And.intro hsbF (And.intro hx (And.intro hy hL))))))
  have HBB := hidi hB
  have FF := hidi (show v.ownBlock = some F by rw [hv]; rfl)
  have cs0 : w.cell? ⟨sb, 0, none⟩ = some (.slice (some ⟨F, 0, none⟩) (n + 1) c) := by have := box_cells h.at_ 0 v rfl; rw [this, hv, hL]
  have cx0 : w.cell? ⟨F, p * 2 + 1, none⟩ = some (.slice (some ⟨gx, 0, none⟩) 1 cx) := by rw [← hvx']; exact box_cells hF _ _ hc
  have hi2 : (p : Int) < (n : Int) + 1 := by omega
  have hi3 : (0 : Int) ≤ (p : Int) := by omega
  clear h hL hx hy he hB hF hc hle hxs hx1 hvx hgx hFi hFg hsbF hml hyL hsl hset hv
  go_enter Tryz.func38, Tryz.ntmps38
  go_wp2_with fail
  go_must (go_at_call 62)
  refine W1.out.mono ?_
  rintro r w1 ⟨rfl, hc1⟩
  obtain ⟨d1, d2, d3, d4, d5, d6⟩ := ST.out w1 hc1
  have W6 := hidi (WW.out _ d5)
  have H6 := hidi d6
  rw [hvx'] at d2
  have s2 := cell_self (u := .slice none 0 0) d2
  clear hc1 d5 d6 cs0 cx0 WW ST W1
  obtain ⟨w2, hw2⟩ : ∃ w2, w2 = w1.setCell ⟨F, p * 2 + 1, none⟩ (.slice none 0 0) := ⟨_, rfl⟩
  have hz : ((0 : Int) == 0) = true := by decide
  go_wp2_with fail
  go_must (go_at_call 63)
  refine W6.out.mono ?_
  rintro r w3 ⟨v', rfl, ho3, hc3⟩
  rw [← hw2] at ho3 hc3 H6 d4
  obtain ⟨a', c', hv'⟩ := own_sl ho3
  subst hv'
  have hsb2 : w2.heap[sb]? = some (.cells #[v] 71 (0, 0)) := (H6.out.block sb HH.out.1.lt (fun q => q.elim HH.out.2.2.2.1.2 HH.out.2.2.2.1.1)).trans HH.out.1.at_
  have hsb3 : w3.heap[sb]? = some (.cells #[v] 71 (0, 0)) := (hc3.block sb (Array.getElem?_eq_some_iff.1 hsb2).1 HH.out.2.2.2.1.1).trans hsb2
  have g1 := box_cells hsb3 0 v rfl
  have g2 := box_frozen hsb3 0
  have HZ := hidi (And.intro ho3 (And.intro hc3 hsb3))
  clear ho3 hc3 hsb2 hsb3
  go_wp2_with fail
  go_end0
  refine ⟨rfl, .slice a' n c', ⟨heap_set HZ.out.2.2 _, ?_, fun z hz => ?_, fun i j za zb hi hj hij => ?_, HH.out.1.ge⟩, ?_⟩
  · have hlen : (((L.set p y).take n).map fpv).length = n := by
      have := HH.out.2.2.2.2.2.2
      rw [List.length_map, List.length_take, List.length_set]
      omega
    rw [hlen, ← HS.out]
    have hs2 : B ≤ w2.heap.size := Nat.le_trans HBB.out H6.out.size
    refine row_base (own_ch HZ.out.1 (ch_set sb 0 _) (fun g hg q => ?_)) (fun g hg => Nat.le_trans hs2 (row_ge HZ.out.1 hg))
    obtain ⟨cu, hcu⟩ := own_lt HZ.out.1 hg
    rw [q, HZ.out.2.2] at hcu
    simp at hcu
  · obtain ⟨i, hi⟩ := List.mem_iff_getElem?.1 hz
    obtain ⟨j, h1, h2, -⟩ := left_at HH.out.2.2.2.2.2.1 HH.out.2.2.2.2.2.2 hp hi
    have hn1 : ∀ g, z.v.ownBlock = some g → g ≠ gx ∧ g ≠ F ∧ g ≠ sb := fun g hg => by
      obtain ⟨cu, hcu⟩ := own_lt (HH.out.1.es z (List.mem_of_getElem? h1)) hg
      refine ⟨fun q => ?_, fun q => ?_, fun q => ?_⟩
      · exact HH.out.1.nb j p z x h1 HH.out.2.2.2.2.1 h2 g hg (by rw [hvx', q]; rfl)
      · obtain ⟨fc', hF'⟩ := own_lt HH.out.1.own (g := F) FF.out
        rw [q, hF'] at hcu
        simp at hcu
      · rw [q, HH.out.1.at_] at hcu
        simp at hcu
    refine own_ch (own_ch (own_ch (HH.out.1.es z (List.mem_of_getElem? h1)) H6.out (fun g hg q => q.elim (hn1 g hg).1 (hn1 g hg).2.1)) HZ.out.2.1 (fun g hg q => (hn1 g hg).2.1 q)) (ch_set sb 0 _) (fun g hg q => (hn1 g hg).2.2 q)
  · obtain ⟨ja, h1, h2, h3⟩ := left_at HH.out.2.2.2.2.2.1 HH.out.2.2.2.2.2.2 hp hi
    obtain ⟨jb, k1, k2, k3⟩ := left_at HH.out.2.2.2.2.2.1 HH.out.2.2.2.2.2.2 hp hj
    refine HH.out.1.nb ja jb za zb h1 k1 (fun q => hij ?_)
    obtain ⟨h3, h4⟩ := h3
    obtain ⟨k3, k4⟩ := k3
    subst h3
    rw [k3] at q
    by_cases e1 : i = p <;> by_cases e2 : j = p <;> simp only [e1, e2, if_true, if_false] at q ⊢ <;> omega
  · refine KL.ch ((H6.out.trans HZ.out.2.1 (fun j _ q => .inr q)).mono (S' := fun j => j = gx ∨ j = F ∨ j = sb) (fun j _ q => q.elim .inl (fun q => .inr (.inl q))) |>.trans (ch_set sb 0 _) (fun j _ q => .inr (.inr q))) (fun j _ q => ?_)
    rcases q with rfl | rfl | rfl
    · exact HH.out.2.1
    · exact HH.out.2.2.1
    · exact ⟨HH.out.1.ge, _, _, _, HH.out.1.at_, .inl rfl⟩
end Go.Proofs.YtenaliaefbkbcaaGreat.Li
namespace Go.Proofs.YtenaliaefbkbcaaGreat.Li
open Go Go.RowKit Go.Maps
set_option linter.unusedSimpArgs false
set_option linter.unusedVariables false
/-- How a round of Leave goes on. -/
structure Lv (B : Nat) (w : World) (sb : Nat) (x : ByteArray) (St : Nat → Int → World → Prop) (p : Nat) (cnt : Int) (wx : World) : Prop where
  go : ∃ v L z ez n y, SL B wx sb v L ∧ B ≤ wx.heap.size ∧ L.length = n + 1 ∧ (n = 1 ∨ n = 2) ∧ p ≤ n ∧ L[p]? = some z ∧ L[n]? = some y ∧ z.es = [ez] ∧
    ((ez.1 = x ∧ ∀ w1 v' w', Below wx.heap.size wx w1 → SL B w' sb v' ((L.set p y).take n) → KL B w1 w' → St p (cnt + 1) w') ∨ (ez.1 ≠ x ∧ ∀ w', Below wx.heap.size wx w' → St p cnt w'))
set_option maxRecDepth 100000 in
set_option maxHeartbeats 4000000 in
theorem leave_any {B : Nat} {w : World} {sb : Nat} {x : ByteArray} {v : Value} {m : Nat} (St : Nat → Int → World → Prop) (hm : m ≤ 3) (hs : ∃ c a, w.cell? ⟨sb, 0, none⟩ = some (.slice a m c)) (h0 : St m 0 w)
    (hst : ∀ p cnt wx, St (p + 1) cnt wx → Lv B w sb x St p cnt wx) (hcn : ∀ p cnt wx, St p cnt wx → 0 ≤ cnt ∧ cnt ≤ 3 ∧ p ≤ 3) :
    Calls Tryz.prog 22 #[.pointer (some ⟨sb, 0, none⟩), .string x] w fun r w' => ∃ cnt, r = .returned (.int .i64 cnt) ∧ St 0 cnt w' := by
  obtain ⟨c, a, hs⟩ := hs
  have H0 := hidi h0
  have HST := hidi (And.intro hst hcn)
  have hw0 : IntKind.i64.wrap ((m : Int) - 1) = (m : Int) - 1 := by rw [IntKind.wrap_i64]; omega
  clear h0 hst hcn hm
  go_enter Tryz.func22, Tryz.ntmps22
  go_wp2_with fail
  go_step3
  go_wp2_with fail
  go_step3
  go_wp2_with fail
  go_loopg [5, 6, 7, 8] m (fun gk s5 s6 s7 s8 wx => ∃ cnt : Int, s5 = .int .i64 cnt ∧ s6 = .int .i64 ((gk : Int) - 1) ∧ Hid (St gk cnt wx))
  case atStart => exact ⟨0, rfl, rfl, H0.out⟩
  case round =>
    clear H0 hs
    obtain ⟨cnt, rfl, rfl, HI⟩ := hrel
    cases gk with
    | zero =>
      have hq : ¬ ((0 : Nat) : Int) - 1 ≥ 0 := by omega
      go_wp2_with fail
      go_ret
      exact ⟨_, rfl, HI.out⟩
    | succ p =>
      have hq0 : ((p + 1 : Nat) : Int) - 1 = (p : Int) := by omega
      rw [hq0]
      obtain ⟨c1, c2, c3⟩ := HST.out.2 _ _ _ HI.out
      have hq1 : (p : Int) ≥ 0 := by omega
      have hq1' : (0 : Int) ≤ (p : Int) := by omega
      have hw1 : IntKind.i64.wrap ((p : Int) - 1) = (p : Int) - 1 := by rw [IntKind.wrap_i64]; omega
      have hw2 : IntKind.i64.wrap (cnt + 1) = cnt + 1 := by rw [IntKind.wrap_i64]; omega
      clear c1 c2 c3 hq0
      obtain ⟨⟨v, L, z, ez, n, y, h, hB, hL, hn, hp, hz, hy, he, hor⟩⟩ := HST.out.1 _ _ _ HI.out
      obtain ⟨F, c, fc, hv, hF, hc, hle, -⟩ := h.row hz
      have hxs := h.es z (List.mem_of_getElem? hz)
      rw [he] at hxs
      obtain ⟨g, cx, hvx, -, hcs⟩ := prow_cell hxs (j := 0) (by simp)
      have hvx' : z.v = .slice (some ⟨g, 0, none⟩) 1 cx := hvx
      have k0 : wr.cell? ⟨sb, 0, none⟩ = some (.slice (some ⟨F, 0, none⟩) (n + 1) c) := by have := box_cells h.at_ 0 v rfl; rw [this, hv, hL]
      have k1 : wr.cell? ⟨F, p * 2 + 1, none⟩ = some (.slice (some ⟨g, 0, none⟩) 1 cx) := by rw [← hvx']; exact box_cells hF _ _ hc
      have k2 : wr.cell? ⟨g, 0, none⟩ = some (.string ez.1) := (hcs 0 (by simp)).1
      have k3 : wr.cell? ⟨g, 1, none⟩ = some (.int .i64 ez.2) := (hcs 0 (by simp)).2
      have hi2 : (p : Int) < (n : Int) + 1 := by omega
      have HH := hidi (And.intro h (And.intro hB (And.intro hL (And.intro hn (And.intro hp (And.intro hz (And.intro hy he)))))))
      clear h hB hL hn hp hz hy he hv hF hc hle hxs hvx hcs hvx'
      obtain ⟨e1, e2⟩ := ez
      simp only at k2 k3
      rcases hor with ⟨hk, hgo⟩ | ⟨hk, hgo⟩
      · simp only at hk
        have HG := hidi hgo
        clear hgo
        have hey : (e1.toList == x.toList) = true := by rw [teq]; exact decide_eq_true hk
        clear hk
        go_wp2_with fail
        go_loopg [5, 7, 8, 28] 1 (fun gk s5 s7 s8 s28 wx => s5 = .int .i64 cnt ∧ s28 = .int .i64 0 ∧ wx = wr)
        case atStart => exact ⟨rfl, rfl, rfl⟩
        case round =>
          obtain ⟨rfl, rfl, rfl⟩ := hrel
          go_wp2_with fail
          go_must (go_at_call 38)
          have b1 : Below wr.heap.size wr (wr.alloc (.cells #[.string e1, .int .i64 e2] 44)) := (Below.refl _ _).alloc (Nat.le_refl _) _
          refine (forget_any (HH.out.1.below b1) HH.out.2.2.1 HH.out.2.2.2.1 HH.out.2.2.2.2.1 HH.out.2.2.2.2.2.1 HH.out.2.2.2.2.2.2.1 HH.out.2.2.2.2.2.2.2 (Nat.le_trans HH.out.2.1 b1.size)).mono ?_
          rintro r w3 ⟨rfl, v3, hs3, hk3⟩
          have H3 := hidi (HG.out _ _ _ b1 hs3 hk3)
          clear b1 hs3 hk3
          go_wp2_with fail
          go_roundg p
          case measure => omega
          case rel => exact ⟨cnt + 1, rfl, rfl, H3.out⟩
      · simp only at hk
        have HG := hidi hgo
        clear hgo
        have hey : (e1.toList == x.toList) = false := by rw [teq]; exact decide_eq_false hk
        clear hk
        go_wp2_with fail
        go_loopg [5, 7, 8, 28] 1 (fun gk s5 s7 s8 s28 wx => ∃ j : Nat, j + gk = 1 ∧ s5 = .int .i64 cnt ∧ s28 = .int .i64 j ∧ (j = 0 → wx = wr) ∧ Hid (Below wr.heap.size wr wx))
        case atStart => exact ⟨0, rfl, rfl, rfl, fun _ => rfl, Below.refl _ _⟩
        case round =>
          obtain ⟨j, hj, rfl, rfl, hj0, HJ⟩ := hrel
          cases gk with
          | zero =>
            obtain rfl : j = 1 := by omega
            go_wp2_with fail
            go_roundg p
            case measure => omega
            case rel => exact ⟨cnt, rfl, rfl, HG.out _ HJ.out⟩
          | succ q =>
            obtain rfl : j = 0 := by omega
            obtain rfl : q = 0 := by omega
            obtain rfl := hj0 rfl
            go_wp2_with fail
            go_roundg 0
            case measure => omega
            case rel => exact ⟨1, rfl, rfl, rfl, fun q => by omega, (Below.refl _ _).alloc (Nat.le_refl _) _⟩
/-- Of three filters, one key at the first two. -/
theorem leave_known {B : Nat} {w : World} {sb : Nat} {x : ByteArray} {v : Value} {a0 a1 a2 : Fl} {e0 e1 e2 : En} (h : SL B w sb v [a0, a1, a2]) (hB : B ≤ w.heap.size) (h0 : a0.es = [e0]) (h1 : a1.es = [e1]) (h2 : a2.es = [e2]) (k0 : e0.1 = x) (k1 : e1.1 = x) (k2 : e2.1 ≠ x) :
    Calls Tryz.prog 22 #[.pointer (some ⟨sb, 0, none⟩), .string x] w fun r w' => r = .returned (.int .i64 2) ∧ ∃ v', SL B w' sb v' [a2] ∧ KL B w w' := by
  obtain ⟨F, c, fc, hv, -, -, -, -⟩ := h.row (i := 0) (x := a0) rfl
  have hs : w.cell? ⟨sb, 0, none⟩ = some (.slice (some ⟨F, 0, none⟩) 3 c) := by have := box_cells h.at_ 0 v rfl; rw [this, hv]; rfl
  let St : Nat → Int → World → Prop := fun p cnt wx => ∃ v', KL B w wx ∧ ((p = 3 ∧ cnt = 0 ∧ SL B wx sb v' [a0, a1, a2]) ∨ (p = 2 ∧ cnt = 0 ∧ SL B wx sb v' [a0, a1, a2]) ∨ (p = 1 ∧ cnt = 1 ∧ SL B wx sb v' [a0, a2]) ∨ (p = 0 ∧ cnt = 2 ∧ SL B wx sb v' [a2]))
  refine (leave_any (B := B) (v := v) (m := 3) St (by omega) ⟨_, _, hs⟩ ⟨v, KL.refl _ _, .inl ⟨rfl, rfl, h⟩⟩ ?_ ?_).mono ?_
  · rintro p cnt wx ⟨v', hk, q⟩
    have hB' : B ≤ wx.heap.size := Nat.le_trans hB hk.size
    rcases q with ⟨hp, rfl, hs⟩ | ⟨hp, rfl, hs⟩ | ⟨hp, rfl, hs⟩ | ⟨hp, -⟩
    · obtain rfl : p = 2 := by omega
      exact ⟨v', _, a2, e2, 2, a2, hs, hB', rfl, .inr rfl, by omega, rfl, rfl, h2, .inr ⟨k2, fun w' hb => ⟨v', hk.trans (KL.below hb), .inr (.inl ⟨rfl, rfl, hs.below hb⟩)⟩⟩⟩
    · obtain rfl : p = 1 := by omega
      exact ⟨v', _, a1, e1, 2, a2, hs, hB', rfl, .inr rfl, by omega, rfl, rfl, h1, .inl ⟨k1, fun w1 v2 w' hb hs' hk' => ⟨v2, (hk.trans (KL.below hb)).trans hk', .inr (.inr (.inl ⟨rfl, rfl, hs'⟩))⟩⟩⟩
    · obtain rfl : p = 0 := by omega
      exact ⟨v', _, a0, e0, 1, a2, hs, hB', rfl, .inl rfl, by omega, rfl, rfl, h0, .inl ⟨k0, fun w1 v2 w' hb hs' hk' => ⟨v2, (hk.trans (KL.below hb)).trans hk', .inr (.inr (.inr ⟨rfl, rfl, hs'⟩))⟩⟩⟩
    · omega
  · rintro p cnt wx ⟨v', hk, q⟩
    rcases q with ⟨hp, rfl, hs⟩ | ⟨hp, rfl, hs⟩ | ⟨hp, rfl, hs⟩ | ⟨hp, rfl, hs⟩ <;> omega
  · rintro r w' ⟨cnt, rfl, v', hk, q⟩
    rcases q with ⟨hp, -⟩ | ⟨hp, -⟩ | ⟨hp, -⟩ | ⟨-, rfl, hs⟩
    · omega
    · omega
    · omega
    · exact ⟨rfl, v', hs, hk⟩
end Go.Proofs.YtenaliaefbkbcaaGreat.Li
