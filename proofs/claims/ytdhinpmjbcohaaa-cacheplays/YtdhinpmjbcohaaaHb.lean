import Derived.Test.YtdhinpmjbcohaaaHa
namespace Go.Proofs.Ytdhinpmjbcohaaa
open Go Go.RowKit Go.Shelf
set_option linter.unusedSimpArgs false
set_option linter.unusedVariables false
open Rf (e2 e2_len e2_app e2_one e2_at ER own_er own_shape app_many addr0 RS)

/-- A pair in memory, with its iterator and the four boxes of all. -/
structure AS (w : World) (cb room mb rm kb vb Bc pb fb wb ib ft : Nat) (mv : Value) (L : List Nat) (nn oo : Nat → Nat) (ky : Nat → ByteArray) (vl : Nat → Int) (C : List ByteArray) (D : List Int) (G1 G2 G3 : Nat → Prop) : Prop where
  ca : Si.CA w cb room mv L nn oo ky vl
  hl : L.length ≤ 100000
  bc : w.heap[Bc]? = some (.cells #[pt cb] 23 (0, 0))
  k : Qs.CD w kb C G1
  v : Qi.CD w vb D G2
  hC : ∀ b ∈ L, ky b ∈ C
  hD : ∀ b ∈ L, vl b ∈ D
  lC : C.length ≤ 900000
  lD : D.length ≤ 900000
  m : RS w mb rm (L.map (num ky vl C D)) G3
  p : w.heap[pb]? = some (.cells #[pt cb, pt mb, pt kb, pt vb] 28 (0, 0))
  f : w.heap[fb]? = some (.cells #[.func (.func 60) #[] #[pt Bc]] ft (0, 0))
  ne : wb ≠ ib
  un : ∀ z, z = wb ∨ z = ib → ¬ Si.FP cb mv L z ∧ ¬ G1 z ∧ ¬ G2 z ∧ ¬ G3 z ∧ z ≠ Bc ∧ z ≠ pb ∧ z ≠ fb ∧ z < w.heap.size
/-- Nothing was said, nothing heard. -/
def Tq (w W : World) : Prop := W.os = w.os ∧ W.tape = w.tape ∧ W.output = w.output
/-- Between two entries of all's own way through. -/
def AI {L : List Nat} (w : World) (wb ib : Nat) (pre : List {b : Nat // b ∈ L}) (W : World) : Prop :=
  W.heap[wb]? = some (.cells #[.bool true] 4 (0, 0)) ∧ W.heap[ib]? = some (.cells #[.int .i64 pre.length] 3 (0, 0)) ∧ w.heap.size ≤ W.heap.size ∧ (∀ j, j < w.heap.size → j ≠ wb → j ≠ ib → W.heap[j]? = w.heap[j]?) ∧ Tq w W
/-- When it was left. -/
def AX {L : List Nat} (w : World) (wb ib : Nat) (pre : List {b : Nat // b ∈ L}) (W : World) : Prop :=
  (∃ b, W.heap[wb]? = some (.cells #[.bool b] 4 (0, 0)) ∧ (pre = L.attach.take pre.length → b = true)) ∧ w.heap.size ≤ W.heap.size ∧ (∀ j, j < w.heap.size → j ≠ wb → j ≠ ib → W.heap[j]? = w.heap[j]?) ∧ Tq w W
theorem AI.own {L : List Nat} {w : World} {wb ib : Nat} : OwnFrom w.heap.size (AI (L := L) w wb ib) := by
  intro s A B row hs hg hr
  obtain ⟨h1, h2, h3, h4, t1, t2, t3⟩ := hs
  have hr2 : ∀ r, row = some r → ∃ o : Obj, A.heap[r]? = some o ∧ o.isCells = false := fun r e => (hr r e).2
  exact ⟨(kept_cells hg hr2 h1).trans h1, (kept_cells hg hr2 h2).trans h2, Nat.le_trans h3 hg.size, fun j hj q1 q2 => (hg.block j (by omega) (fun e => by
    have := (hr j e.symm).1
    omega)).trans (h4 j hj q1 q2), hg.os.trans t1, hg.tape.trans t2, hg.output.trans t3⟩
theorem AX.own {L : List Nat} {w : World} {wb ib : Nat} : OwnFrom w.heap.size (AX (L := L) w wb ib) := by
  intro s A B row hs hg hr
  obtain ⟨⟨b, h1, h2⟩, h3, h4, t1, t2, t3⟩ := hs
  have hr2 : ∀ r, row = some r → ∃ o : Obj, A.heap[r]? = some o ∧ o.isCells = false := fun r e => (hr r e).2
  exact ⟨⟨b, (kept_cells hg hr2 h1).trans h1, h2⟩, Nat.le_trans h3 hg.size, fun j hj q1 q2 => (hg.block j (by omega) (fun e => by
    have := (hr j e.symm).1
    omega)).trans (h4 j hj q1 q2), hg.os.trans t1, hg.tape.trans t2, hg.output.trans t3⟩
set_option maxHeartbeats 1000000 in
/-- One entry looked at. -/
theorem AS.yield {w W : World} {cb room mb rm kb vb Bc pb fb wb ib ft : Nat} {mv : Value} {L : List Nat} {nn oo : Nat → Nat} {ky : Nat → ByteArray} {vl : Nat → Int} {C : List ByteArray} {D : List Int} {G1 G2 G3 : Nat → Prop}
    (h : AS w cb room mb rm kb vb Bc pb fb wb ib ft mv L nn oo ky vl C D G1 G2 G3) (pre : List {b : Nat // b ∈ L}) (x : {b : Nat // b ∈ L}) (hi : AI w wb ib pre W) (hlt : pre.length < L.length) (hsz : w.heap.size + 2 ≤ W.heap.size) :
    Calls Try.prog 43 #[Si.kc (ky x.1), Si.vc (vl x.1), pt pb, pt fb, pt wb, pt ib] W fun r W' =>
      (Si.Cy W W' ∧ W.heap.size ≤ W'.heap.size) ∧ Si.Kq (fun j => Si.FP cb mv L j ∨ j = w.heap.size ∨ j = w.heap.size + 1) W W' ∧ ∃ b, r = .returned (.bool b) ∧ (b = true → AI w wb ib (pre ++ [x]) W') ∧ (b = false → AX w wb ib (pre ++ [x]) W') := by
  obtain ⟨i1, i2, i3, i4, t1, t2, t3⟩ := hi
  obtain ⟨u1, u2, u3, u4, u5, u6, u7, u8⟩ := h.un wb (.inl rfl)
  obtain ⟨v1, v2, v3, v4, v5, v6, v7, v8⟩ := h.un ib (.inr rfl)
  have hne := h.ne
  have kp : ∀ (S : Nat → Prop), ¬ S wb → ¬ S ib → (∀ j, S j → j < w.heap.size) → ∀ j, S j → W.heap[j]? = w.heap[j]? := fun S a b c j hj => i4 j (c j hj) (fun e => a (e ▸ hj)) (fun e => b (e ▸ hj))
  have hp : W.heap[pb]? = _ := (i4 pb (Array.getElem?_eq_some_iff.1 h.p).1 (Ne.symm u6) (Ne.symm v6)).trans h.p
  have hf : W.heap[fb]? = _ := (i4 fb (Array.getElem?_eq_some_iff.1 h.f).1 (Ne.symm u7) (Ne.symm v7)).trans h.f
  have hbc : W.heap[Bc]? = _ := (i4 Bc (Array.getElem?_eq_some_iff.1 h.bc).1 (Ne.symm u5) (Ne.symm v5)).trans h.bc
  have hca : Si.CA W cb room mv L nn oo ky vl := h.ca.keep (kp _ u1 v1 (fun j hj => h.ca.lt hj))
  have hk : Qs.CD W kb C G1 := h.k.keep (kp _ u2 v2 (fun j hj => h.k.lt hj))
  have hv : Qi.CD W vb D G2 := h.v.keep (kp _ u3 v3 (fun j hj => h.v.lt hj))
  have hm : RS W mb rm (L.map (num ky vl C D)) G3 := h.m.keep (kp _ u4 v4 (fun j hj => h.m.lt hj))
  have hml : (L.map (num ky vl C D)).length = L.length := by simp
  obtain ⟨⟨va, hma, hmo, hmg⟩, hmn⟩ := hm
  obtain ⟨a, cap, rfl⟩ := own_shape hmo
  have hLne : L.map (num ky vl C D) ≠ [] := fun e => by rw [e] at hml; simp at hml; omega
  obtain ⟨a', c', e', _, hg⟩ := own_er hmo
  obtain ⟨g, rfl, _⟩ := hg hLne
  cases e'
  have hgb : G3 g := (hmg g).2 (.inr rfl)
  obtain ⟨y, hy⟩ : ∃ y, L[pre.length]? = some y := ⟨_, List.getElem?_eq_getElem hlt⟩
  have hyL : y ∈ L := List.mem_of_getElem? hy
  have hMy : (L.map (num ky vl C D))[pre.length]? = some (num ky vl C D y) := by rw [List.getElem?_map, hy]; rfl
  have hbo : ((ix (ky y) C : Int) == (ix (ky x.1) C : Int)) = true ↔ y = x.1 := by
    constructor
    · intro e
      have e := eq_of_beq e
      exact h.ca.ks y hyL x.1 x.2 (ix_inj (h.hC y hyL) (h.hC x.1 x.2) (by omega))
    · intro e
      rw [e]
      simp
  refine (allc_walk (Ca := fun W' => (Si.Cy W W' ∧ W.heap.size ≤ W'.heap.size) ∧ Si.Kq (fun j => Si.FP cb mv L j ∨ j = w.heap.size ∨ j = w.heap.size + 1) W W' ∧ W'.heap[wb]? = some (.cells #[.bool ((ix (ky y) C : Int) == (ix (ky x.1) C : Int))] 4 (0, 0)) ∧ W'.heap[ib]? = some (.cells #[.int .i64 ((pre.length : Int) + 1)] 3 (0, 0)) ∧ w.heap.size ≤ W'.heap.size ∧ (∀ j, j < w.heap.size → j ≠ wb → j ≠ ib → W'.heap[j]? = w.heap[j]?) ∧ Tq w W')
    (j := pre.length) (n := (L.map (num ky vl C D)).length) (g := g) (cap := cap) (rn := ix (ky y) C) (kn := ix (ky x.1) C) (mb := mb) (vb := vb) (by omega) (by have := h.hl; omega) (box_cells hp 0 _ rfl) (box_cells hp 1 _ rfl) (box_cells hp 2 _ rfl) (box_cells hp 3 _ rfl) (box_cells hf 0 _ rfl) ⟨_, rfl⟩ hne u6
    (fun e => u4 (by rw [e]; exact (hmg mb).2 (.inl rfl))) (fun e => u4 (by rw [e]; exact hgb)) ((given_any hca h.hl hbc hk hv h.hC h.hD h.lC h.lD (-1)).mono ?_)).mono ?_
  · rintro r W1 ⟨iv, rfl, hiv, hbel⟩
    have htk : tk (-1) (L.map (num ky vl C D)) = L.map (num ky vl C D) := rfl
    rw [htk] at hiv
    have kb1 : ∀ {j : Nat} {o : Obj}, W.heap[j]? = some o → W1.heap[j]? = some o := fun hj => (hbel.block _ (Array.getElem?_eq_some_iff.1 hj).1).trans hj
    have hmo1 : W1.ownsRow 0 90 2 (.slice (some ⟨g, 0, none⟩) (L.map (num ky vl C D)).length cap) (L.map (num ky vl C D)).length (e2 (L.map (num ky vl C D))) := Rf.own_keep hmo (fun k hk => by
      obtain ⟨c, hc⟩ := Rf.own_blk hmo hk
      exact (kb1 hc).trans hc.symm)
    have hk1 : Qs.CD W1 kb C G1 := hk.keep (fun j hj => hbel.block j (hk.lt hj))
    have hu0 : W1.cell? ⟨g, pre.length * 2, none⟩ = some (.int .i64 (ix (ky y) C)) := by
      have := hmo1.cells rfl _ _ (e2_at _ _ _ hMy).1
      rw [addr0, Nat.zero_add] at this
      exact this
    refine ⟨iv, rfl, box_cells (kb1 hp) 1 _ rfl, box_cells (kb1 hp) 2 _ rfl, box_cells (kb1 hma) 1 _ rfl, box_cells (kb1 i1) 0 _ rfl, box_cells (kb1 i2) 0 _ rfl, hu0, box_frozen (kb1 i1) 0, box_frozen (kb1 i2) 0, ?_, fun m => ?_, fun m => ?_⟩
    · refine (Rf.same_any (w := W1.drew) (A := L.map (num ky vl C D)) (B := L.map (num ky vl C D)) hiv (own_er (w := W1.drew) hmo1) (by have := h.hl; omega)).mono ?_
      rintro r w' ⟨rfl, q⟩
      exact ⟨by simp, q⟩
    · exact Qs.of_known (w := W1.drew.drewN m) (hk1.keep (fun _ _ => rfl)) (h.hC x.1 x.2) h.lC
    · have j1 : (W1.drew.drewN m).heap[wb]? = some (.cells #[.bool true] 4 (0, 0)) := kb1 i1
      have j2 : (W1.drew.drewN m).heap[ib]? = some (.cells #[.int .i64 pre.length] 3 (0, 0)) := kb1 i2
      have hch : ∀ j, j ≠ wb → j ≠ ib → (((W1.drew.drewN m).setCell ⟨wb, 0, none⟩ (.bool ((ix (ky y) C : Int) == (ix (ky x.1) C : Int)))).setCell ⟨ib, 0, none⟩ (.int .i64 ((pre.length : Int) + 1))).heap[j]? = W1.heap[j]? := fun j a b => (heap_set_ne _ b).trans (heap_set_ne _ a)
      have hs1 : (((W1.drew.drewN m).setCell ⟨wb, 0, none⟩ (.bool ((ix (ky y) C : Int) == (ix (ky x.1) C : Int)))).setCell ⟨ib, 0, none⟩ (.int .i64 ((pre.length : Int) + 1))).heap.size = W1.heap.size := by
        simp [World.setCell]
      have hsW := hbel.size
      refine ⟨⟨fun r o hr ho' => ?_, by omega⟩, fun j hj => ?_, ?_, ?_, by omega, fun j hj a b => ?_, hbel.os.trans t1, hbel.tape.trans t2, hbel.output.trans t3⟩
      · rw [hch r (fun e => ?_) (fun e => ?_)]
        · exact kb1 hr
        · rw [e, i1] at hr
          cases hr
          cases ho'
        · rw [e, i2] at hr
          cases hr
          cases ho'
      · have hjl : j < W.heap.size := by
          rcases hj with q | q | q
          · have := h.ca.lt q
            omega
          · omega
          · omega
        refine (hch j (fun e => ?_) (fun e => ?_)).trans (hbel.block j hjl)
        · rcases hj with q | q | q
          · exact u1 (e ▸ q)
          · omega
          · omega
        · rcases hj with q | q | q
          · exact v1 (e ▸ q)
          · omega
          · omega
      · exact (heap_set_ne _ hne).trans (heap_set j1 _)
      · exact heap_set ((heap_set_ne _ (Ne.symm hne)).trans j2) _
      · exact ((hch j a b).trans (hbel.block j (by omega))).trans (i4 j hj a b)
  · rintro r W' ⟨rfl, q1, q2, q3, q4, q5, q6, q7⟩
    refine ⟨q1, q2, _, rfl, fun hb => ?_, fun hb => ?_⟩
    · rw [Bool.and_eq_true] at hb
      rw [hb.1] at q3
      exact ⟨q3, by simpa using q4, q5, q6, q7⟩
    · refine ⟨⟨_, q3, fun e => hbo.2 ?_⟩, q5, q6, q7⟩
      have e1 := congrArg (fun l => (l[pre.length]?).map Subtype.val) e
      simp [List.getElem?_take, hlt] at e1
      have := List.getElem?_eq_getElem hlt
      rw [hy] at this
      injection this with this
      rw [this, e1]
end Go.Proofs.Ytdhinpmjbcohaaa
