import Derived.Test.YtdhinpmjbcohaaaGreatJbhd
namespace Go.Proofs.YtdhinpmjbcohaaaGreat.Jb
open Go Go.RowKit Go.Shelf
set_option linter.unusedSimpArgs false
set_option linter.unusedVariables false
set_option maxRecDepth 100000
set_option maxHeartbeats 4000000
open Rf (e2 e2_len e2_app e2_one e2_at ER own_er own_shape app_many addr0 RS)

theorem alw_facts (w : World) (cb mb kb vb : Nat) : (alw w cb mb kb vb).heap.size = w.heap.size + 3 ∧ Below w.heap.size w (alw w cb mb kb vb) ∧ (alw w cb mb kb vb).heap[w.heap.size]? = some (.cells #[pt cb, pt mb, pt kb, pt vb] 35 (0, 0)) ∧ (alw w cb mb kb vb).heap[w.heap.size + 1]? = some (.cells #[pt cb] 32 (0, 0)) ∧ (alw w cb mb kb vb).heap[w.heap.size + 1 + 1]? = some (.cells #[.func (.func 86) #[] #[.pointer (some ⟨w.heap.size + 1, 0, none⟩)]] 123 (0, 0)) := by
 have hb : ∀ (A : World) (o : Obj) (j : Nat), j < A.heap.size → (A.alloc o).heap[j]? = A.heap[j]? := fun A o j hj => (World.grownBy_alloc A o none).block j hj (by simp)
 have hnew : ∀ (A : World) (o : Obj) (j : Nat), j = A.heap.size → (A.alloc o).heap[j]? = some o := fun A o j hj => by
  rw [hj]
  exact (MapKept.heap_alloc A o).1
 refine ⟨by simp [alw], ?_, ?_, ?_, ?_⟩
 ·
  unfold alw
  exact (((Below.refl _ _).alloc (Nat.le_refl _) _).alloc (by simp) _).alloc (by simp <;> omega) _
 ·
  unfold alw
  rw [hb _ _ _ (by simp <;> omega), hb _ _ _ (by simp)]
  exact hnew _ _ _ rfl
 ·
  unfold alw
  rw [hb _ _ _ (by simp)]
  exact hnew _ _ _ (by simp)
 ·
  unfold alw
  exact hnew _ _ _ (by simp)
theorem cell_same {w w' : World} {g k : Nat} (h : w'.heap[g]? = w.heap[g]?) : w'.cell? ⟨g, k, none⟩ = w.cell? ⟨g, k, none⟩ := by
 unfold World.cell?
 simp only [h]
theorem below_drewN {B : Nat} {a w : World} (h : Below B a w) (m : Nat) : Below B a (w.drewN m) := ⟨h.os, h.tape, h.output, h.size, h.block⟩
theorem tk_len {α : Type} (n : Int) (l : List α) : (tk n l).length ≤ l.length := by
 unfold tk
 split
 ·
  exact Nat.le_refl _
 ·
  simp
  omega
theorem er_keep {w w' : World} {v : Value} {M : List (Int × Int)} (h : ER w v M) {B : Nat} (hb : Below B w w') (hv : ∀ g, M ≠ [] → v.ownBlock = some g → g < B) : ER w' v M := by
 obtain ⟨a, c, rfl, hc, hg⟩ := h
 refine ⟨a, c, rfl, hc, fun hM => ?_⟩
 obtain ⟨g, rfl, h2⟩ := hg hM
 refine ⟨g, rfl, fun q u hq => ?_⟩
 have hB := hv g hM rfl
 have h3 := h2 q u hq
 exact (cell_same (hb.block g hB)).trans h3
theorem all_any {w : World} {cb room mb rm kb vb : Nat} {mv : Value} {L : List Nat} {nn oo : Nat → Nat} {ky : Nat → Int} {vl : Nat → Qk.Kt} {C : List Int} {D : List Qk.Kt} {G1 G2 G3 : Nat → Prop} (hCA : Kb.CA w cb room mv L nn oo ky vl) (hL : L.length ≤ 100000)
  (h1 : Qi.CD w kb C G1) (h2 : Qk.CD w vb D G2) (hC : ∀ b ∈ L, ky b ∈ C) (hD : ∀ b ∈ L, vl b ∈ D) (hlC : C.length ≤ 900000) (hlD : D.length ≤ 900000) (hm : RS w mb rm (L.map (num ky vl C D)) G3) (stop : Int) :
  Calls Tryz.prog 13 #[.agg #[pt cb, pt mb, pt kb, pt vb], .int .i64 stop] w fun r w' => r = .returned (.bool true) ∧ Below w.heap.size w w' := by
 obtain ⟨hsz, hbl, hp, hbc, hf⟩ := alw_facts w cb mb kb vb
 have hm0 := hm
 obtain ⟨⟨va, hma, hmo, hmg⟩, hmn⟩ := hm
 obtain ⟨a, cap, rfl⟩ := own_shape hmo
 have hml : (L.map (num ky vl C D)).length = L.length := by simp
 obtain ⟨M, hM⟩ : ∃ M, M = L.map (num ky vl C D) := ⟨_, rfl⟩
 rw [← hM] at hmo hma hmn hml hm0
 have her : ER w (.slice a M.length cap) M := own_er hmo
 obtain ⟨a', c', e', hcap, hg⟩ := her
 injection e' with e1 e2 e3
 subst e1 e3
 have hmbl : mb < w.heap.size := (Array.getElem?_eq_some_iff.1 hma).1
 -- what a world that leaves all this alone has
 have hAQ : ∀ W : World, Below (w.heap.size + 3) (alw w cb mb kb vb) W → AQ W cb mb kb vb w.heap.size M.length cap a := fun W hb => by
  have k := hb.block w.heap.size (by omega)
  rw [hp] at k
  have k2 := hb.block (w.heap.size + 1 + 1) (by omega)
  rw [hf] at k2
  have k3 := hb.block mb (by omega)
  rw [hbl.block mb hmbl, hma] at k3
  exact ⟨box_cells k 0 _ rfl, box_cells k 1 _ rfl, box_cells k 2 _ rfl, box_cells k 3 _ rfl, box_cells k3 1 _ rfl, box_cells k2 0 _ rfl⟩
 have hall : ∀ W : World, Below (w.heap.size + 3) (alw w cb mb kb vb) W → (∀ j, j < w.heap.size → W.heap[j]? = w.heap[j]?) ∧ Kb.CA W cb room mv L nn oo ky vl ∧ Qi.CD W kb C G1 ∧ Qk.CD W vb D G2 ∧ RS W mb rm M G3 ∧ W.heap[w.heap.size + 1]? = some (.cells #[pt cb] 32 (0, 0)) := fun W hb => by
  have k : ∀ j, j < w.heap.size → W.heap[j]? = w.heap[j]? := fun j hj => (hb.block j (by omega)).trans (hbl.block j hj)
  exact ⟨k, hCA.keep (fun j hj => k j (hCA.lt hj)), h1.keep (fun j hj => k j (h1.lt hj)), h2.keep (fun j hj => k j (h2.lt hj)), hm0.keep (fun j hj => k j (hm0.lt hj)), (hb.block _ (by omega)).trans hbc⟩
 have hmer : ∀ W : World, Below (w.heap.size + 3) (alw w cb mb kb vb) W → ER W (.slice a M.length cap) M := fun W hb => by
  obtain ⟨_, _, _, _, ⟨⟨va', q1, q2, _⟩, _⟩, _⟩ := hall W hb
  have q3 := (hb.block mb (by omega)).trans ((hbl.block mb hmbl).trans hma)
  rw [q1] at q3
  simp at q3
  subst q3
  exact own_er q2
 have hser : ∃ ns, ((stop < 0 ∧ ns = M.length) ∨ (¬ stop < 0 ∧ ¬ stop < M.length ∧ ns = M.length) ∨ (∃ g, a = some ⟨g, 0, none⟩ ∧ ¬ stop < 0 ∧ stop < M.length ∧ ns = stop.toNat)) ∧ ∀ W : World, Below (w.heap.size + 3) (alw w cb mb kb vb) W → ER W (.slice a ns cap) (tk stop M) := by
  by_cases k1 : stop < 0
  ·
   refine ⟨_, .inl ⟨k1, rfl⟩, fun W hb => ?_⟩
   unfold tk
   rw [if_pos k1]
   exact hmer W hb
  ·
   by_cases k2 : stop < M.length
   ·
    obtain ⟨g, rfl, hgq⟩ := hg (fun e => by rw [e] at k2; simp at k2; omega)
    refine ⟨_, .inr (.inr ⟨g, rfl, k1, k2, rfl⟩), fun W hb => ?_⟩
    unfold tk
    rw [if_neg k1]
    obtain ⟨_, _, _, _, ⟨⟨va', q1, q2, _⟩, _⟩, _⟩ := hall W hb
    have q3 := (hb.block mb (by omega)).trans ((hbl.block mb hmbl).trans hma)
    rw [q1] at q3
    simp at q3
    subst q3
    have q4 := own_er (Rf.own_take q2 (m := stop.toNat) (by omega))
    exact q4
   ·
    refine ⟨_, .inr (.inl ⟨k1, k2, rfl⟩), fun W hb => ?_⟩
    unfold tk
    rw [if_neg k1, List.take_of_length_le (by omega)]
    exact hmer W hb
 obtain ⟨ns, hsv, hser⟩ := hser
 have hb0 : Below (w.heap.size + 3) (alw w cb mb kb vb) (alw w cb mb kb vb) := Below.refl _ _
 have hbt : ∀ W W', Below (w.heap.size + 3) (alw w cb mb kb vb) W → Below W.heap.size W W' → Below (w.heap.size + 3) (alw w cb mb kb vb) W' := fun W W' a b => a.trans (b.mono (by have := a.size; omega))
 refine all_walk (ns := ns) (R1 := fun v W => ER W v (tk stop M) ∧ Below (w.heap.size + 3) (alw w cb mb kb vb) W) (R2 := fun v u W => ER W v (tk stop M) ∧ ER W u M ∧ Below (w.heap.size + 3) (alw w cb mb kb vb) W) (R3 := fun u W => ER W u M ∧ Below (w.heap.size + 3) (alw w cb mb kb vb) W) (R4 := fun W => Below (w.heap.size + 3) (alw w cb mb kb vb) W) hma hcap hsv _ (fun W => Kb.All_any cb W) ?_ ?_ ?_ ?_ ?_
 ·
  obtain ⟨_, k1, k2, k3, k4, k5⟩ := hall _ hb0
  refine (given_any (mb := mb) k1 hL k5 k2 k3 hC hD hlC hlD stop).mono ?_
  rintro r w' ⟨v, rfl, hv, hb⟩
  rw [← hM] at hv
  have hb' := hbt _ _ hb0 hb
  have hv' := hv
  obtain ⟨b, c, rfl, _⟩ := hv'
  exact ⟨_, _, _, rfl, hAQ _ hb', hv, hb'⟩
 ·
  rintro v W ⟨hv, hW⟩
  obtain ⟨_, k1, k2, k3, k4, k5⟩ := hall _ hW
  refine (given_any (mb := mb) k1 hL k5 k2 k3 hC hD hlC hlD (-1)).mono ?_
  rintro r w' ⟨u, rfl, hu, hb⟩
  rw [← hM] at hu
  have hu' := hu
  obtain ⟨b, c, rfl, _⟩ := hu'
  refine ⟨_, _, _, rfl, er_keep hv hb (fun g hM' hg' => ?_), hu, hbt _ _ hW hb⟩
  obtain ⟨a1, c1, rfl, _, q⟩ := hv
  obtain ⟨g1, rfl, q2⟩ := q hM'
  cases hg'
  obtain ⟨x, hx⟩ := List.exists_mem_of_ne_nil _ hM'
  have hne : 0 < (tk stop M).length := List.length_pos_iff.2 hM'
  obtain ⟨p0, hp0⟩ : ∃ p0, (tk stop M)[0]? = some p0 := ⟨_, List.getElem?_eq_getElem hne⟩
  exact Rf.cell_lt'' (q2 _ _ (e2_at _ _ _ hp0).1)
 ·
  rintro v u W ⟨hv, hu, hW⟩
  refine (Rf.same_any hv (hser W hW) (by have := tk_len stop M; omega)).mono ?_
  rintro r w' ⟨rfl, m, rfl⟩
  exact ⟨by simp, hAQ _ (below_drewN hW m), hu, (below_drewN hW m)⟩
 ·
  rintro u W ⟨hu, hW⟩
  refine (Rf.same_any hu (hmer W hW) (by omega)).mono ?_
  rintro r w' ⟨rfl, m, rfl⟩
  have hW' : Below (w.heap.size + 3) (alw w cb mb kb vb) (W.drewN m) := (below_drewN hW m)
  have hs' := hW'.size
  have hs2 := hW.size
  exact ⟨by simp, hAQ _ ((hW'.alloc (by omega) _).alloc (by simp; omega) _), hW'⟩
 ·
  intro W hW
  have hs' := hW.size
  obtain ⟨W5, hW5⟩ : ∃ W5, W5 = (W.alloc (.cells #[.int .i64 0] 3)).alloc (.cells #[.bool true] 4) := ⟨_, rfl⟩
  rw [← hW5]
  have hB5 : Below (w.heap.size + 3) (alw w cb mb kb vb) W5 := by
   rw [hW5]
   exact (hW.alloc (by omega) _).alloc (by simp; omega) _
  have hsz5 : W5.heap.size = W.heap.size + 2 := by rw [hW5]; simp
  have hi5 : W5.heap[W.heap.size]? = some (.cells #[.int .i64 0] 3 (0, 0)) := by
   rw [hW5, (World.grownBy_alloc _ _ none).block _ (by simp) (by simp)]
   exact (MapKept.heap_alloc _ _).1
  have hw5 : W5.heap[W.heap.size + 1]? = some (.cells #[.bool true] 4 (0, 0)) := by
   rw [hW5]
   have := (MapKept.heap_alloc (W.alloc (.cells #[.int .i64 0] 3)) (.cells #[.bool true] 4)).1
   simpa using this
  obtain ⟨k0, k1, k2, k3, k4, k5⟩ := hall _ hB5
  rw [hM] at k4
  have AS5 : AS W5 cb room mb rm kb vb (w.heap.size + 1) w.heap.size (w.heap.size + 1 + 1) (W.heap.size + 1) W.heap.size 123 mv L nn oo ky vl C D G1 G2 G3 :=
   ⟨k1, hL, k5, k2, k3, hC, hD, hlC, hlD, k4, (hB5.block _ (by omega)).trans hp, (hB5.block _ (by omega)).trans hf, by omega, fun z hz => by
    have hz1 : w.heap.size + 3 ≤ z := by omega
    have hz2 : z < W5.heap.size := by omega
    exact ⟨fun q => by have := hCA.lt q; omega, fun q => by have := h1.lt q; omega, fun q => by have := h2.lt q; omega, fun q => by have := hm0.lt q; omega, by omega, by omega, by omega, hz2⟩⟩
  refine (Kb.all1_62 k1 (by omega) (w.heap.size + 1) k5 (AI W5 (W.heap.size + 1) W.heap.size) (AX W5 (W.heap.size + 1) W.heap.size) AI.own AX.own ⟨hw5, hi5, Nat.le_refl _, fun _ _ _ _ => rfl, rfl, rfl, rfl⟩ (fun pre x W' hi hlt _ hs => AS5.yield pre x hi hlt hs)).mono ?_
  rintro r w' ⟨hr, hq⟩
  have fin : W5.heap.size ≤ w'.heap.size → (∀ j, j < W5.heap.size → j ≠ W.heap.size + 1 → j ≠ W.heap.size → w'.heap[j]? = W5.heap[j]?) → Tq W5 w' → Below w.heap.size w w' := fun p q t => ⟨t.1.trans (hB5.os.trans hbl.os), t.2.1.trans (hB5.tape.trans hbl.tape), t.2.2.trans (hB5.output.trans hbl.output), by omega, fun j hj => (q j (by omega) (by omega) (by omega)).trans (k0 j hj)⟩
  rcases hq with ⟨q1, q2, q3, q4, q5⟩ | ⟨k, hk, ⟨b, q1, q2⟩, q3, q4, q5⟩
  ·
   exact ⟨hr, box_cells q1 0 _ rfl, rfl, fin q3 q4 q5⟩
  ·
   rw [q2 (by simp [Nat.min_eq_left hk])] at q1
   exact ⟨hr, box_cells q1 0 _ rfl, rfl, fin q3 q4 q5⟩
end Go.Proofs.YtdhinpmjbcohaaaGreat.Jb
