import Derived.Test.YtdhinpmjbcohaaaGw
namespace Go.Proofs.Ytdhinpmjbcohaaa
open Go Go.RowKit Go.Shelf
set_option linter.unusedSimpArgs false
set_option linter.unusedVariables false
open Rf (e2 e2_len e2_app e2_one ER own_er own_shape app_many addr0)

/-- The numbers of entries. -/
def nums {L : List Nat} (ky : Nat → ByteArray) (vl : Nat → Int) (C : List ByteArray) (D : List Int) (pre : List {b : Nat // b ∈ L}) : List (Int × Int) := pre.map (fun b => ((ix (ky b.1) C : Int), (ix (vl b.1) D : Int)))
theorem nums_snoc {L : List Nat} (ky : Nat → ByteArray) (vl : Nat → Int) (C : List ByteArray) (D : List Int) (pre : List {b : Nat // b ∈ L}) (x : {b : Nat // b ∈ L}) : nums ky vl C D (pre ++ [x]) = nums ky vl C D pre ++ [((ix (ky x.1) C : Int), (ix (vl x.1) D : Int))] := by simp [nums]
/-- What is there between two entries. -/
def GI {L : List Nat} (w WL : World) (eb wb ob pb nb cb mb kb vb : Nat) (n : Int) (ky : Nat → ByteArray) (vl : Nat → Int) (C : List ByteArray) (D : List Int) (G1 G2 : Nat → Prop) (en : Bool) (pre : List {b : Nat // b ∈ L}) (W : World) : Prop :=
  ∃ v, GB W eb wb ob pb nb cb mb kb vb en v n ∧ W.ownsRow 0 90 2 v (nums ky vl C D pre).length (e2 (nums ky vl C D pre)) ∧ Qs.CD W kb C G1 ∧ Qi.CD W vb D G2 ∧ Below w.heap.size w W ∧ (∀ g, v.ownBlock = some g → w.heap.size ≤ g ∧ (g < WL.heap.size ∨ WL.heap.size + 2 ≤ g))
theorem kept_cells {A B : World} {row : Option Nat} (hg : A.grownBy B row) (hr : ∀ r, row = some r → ∃ o : Obj, A.heap[r]? = some o ∧ o.isCells = false) {b t : Nat} {cs : Array Value} {fz : Nat × Nat} (h : A.heap[b]? = some (.cells cs t fz)) : B.heap[b]? = A.heap[b]? :=
  hg.block b (Array.getElem?_eq_some_iff.1 h).1 (fun e => by
    obtain ⟨o, h1, h2⟩ := hr b e.symm
    rw [h] at h1
    cases h1
    cases h2)
theorem GI.own {L : List Nat} {w WL : World} {eb wb ob pb nb cb mb kb vb : Nat} {n : Int} {ky : Nat → ByteArray} {vl : Nat → Int} {C : List ByteArray} {D : List Int} {G1 G2 : Nat → Prop} {en : Bool} (hw : w.heap.size ≤ WL.heap.size) (hk1 : ∀ j, G1 j → j < w.heap.size) (hk2 : ∀ j, G2 j → j < w.heap.size) : OwnFrom WL.heap.size (GI (L := L) w WL eb wb ob pb nb cb mb kb vb n ky vl C D G1 G2 en) := by
  intro s A B row hs hg hr
  obtain ⟨v, h1, h2, h3, h4, h5, h6⟩ := hs
  have hr2 : ∀ r, row = some r → ∃ o : Obj, A.heap[r]? = some o ∧ o.isCells = false := fun r e => (hr r e).2
  have hold : ∀ j, j < WL.heap.size → j < A.heap.size → B.heap[j]? = A.heap[j]? := fun j hj hja => hg.block j hja (fun e => by
    have := (hr j e.symm).1
    omega)
  refine ⟨v, ⟨(kept_cells hg hr2 h1.e).trans h1.e, (kept_cells hg hr2 h1.w).trans h1.w, (kept_cells hg hr2 h1.o).trans h1.o, (kept_cells hg hr2 h1.p).trans h1.p, (kept_cells hg hr2 h1.n).trans h1.n⟩, ?_, h3.keep (fun j hj => hold j (by have := hk1 j hj; omega) (h3.lt hj)), h4.keep (fun j hj => hold j (by have := hk2 j hj; omega) (h4.lt hj)), ?_, h6⟩
  · refine Rf.own_keep h2 (fun k hk => ?_)
    obtain ⟨c, hc⟩ := Rf.own_blk h2 hk
    exact kept_cells hg hr2 hc
  · exact ⟨hg.os.trans h5.os, hg.tape.trans h5.tape, hg.output.trans h5.output, Nat.le_trans h5.size hg.size, fun k hk => (hold k (by omega) (Nat.lt_of_lt_of_le hk h5.size)).trans (h5.block k hk)⟩
/-- One entry handed over. -/
theorem GI.yield {L : List Nat} {w WL W : World} {eb wb ob pb nb cb mb kb vb room : Nat} {mv : Value} {n : Int} {ky : Nat → ByteArray} {vl : Nat → Int} {C : List ByteArray} {D : List Int} {G1 G2 : Nat → Prop} {nn oo : Nat → Nat}
    (hCw : Si.CA w cb room mv L nn oo ky vl) (hC : ∀ b ∈ L, ky b ∈ C) (hD : ∀ b ∈ L, vl b ∈ D) (hk1 : ∀ j, G1 j → j < w.heap.size) (hk2 : ∀ j, G2 j → j < w.heap.size) (hlC : C.length ≤ 900000) (hlD : D.length ≤ 900000) (hL : L.length ≤ 100000)
    (hew : eb ≠ wb) (ho : w.heap.size ≤ ob ∧ ob < WL.heap.size) (he : w.heap.size ≤ eb ∧ eb < WL.heap.size) (pre : List {b : Nat // b ∈ L}) (x : {b : Nat // b ∈ L})
    (hi : GI w WL eb wb ob pb nb cb mb kb vb n ky vl C D G1 G2 false pre W) (hlt : pre.length < L.length) (hsz : WL.heap.size + 2 ≤ W.heap.size) :
    Calls Try.prog 62 #[Si.kc (ky x.1), Si.vc (vl x.1), pt eb, pt wb, pt ob, pt pb, pt nb] W fun r W' =>
      (Si.Cy W W' ∧ W.heap.size ≤ W'.heap.size) ∧ Si.Kq (fun j => Si.FP cb mv L j ∨ j = WL.heap.size ∨ j = WL.heap.size + 1) W W' ∧ ∃ b, r = .returned (.bool b) ∧ (b = true → GI w WL eb wb ob pb nb cb mb kb vb n ky vl C D G1 G2 false (pre ++ [x]) W' ∧ ((pre.length + 1 : Nat) : Int) ≠ n) ∧ (b = false → GI w WL eb wb ob pb nb cb mb kb vb n ky vl C D G1 G2 true (pre ++ [x]) W' ∧ ((pre.length + 1 : Nat) : Int) = n) := by
  obtain ⟨v, h1, h2, h3, h4, h5, h6⟩ := hi
  have hnl : (nums ky vl C D pre).length = pre.length := by simp [nums]
  refine (given1_any h1 hew h2 h3 h4 (hC x.1 x.2) (hD x.1 x.2) (by omega) hlC hlD).mono ?_
  rintro r W' ⟨v', rfl, g1, g2, g3, g4⟩
  rw [hnl] at g1
  have hS : ∀ j, (j = ob ∨ j = eb ∨ v.ownBlock = some j) → w.heap.size ≤ j ∧ (j < WL.heap.size ∨ WL.heap.size + 2 ≤ j) := fun j q => by
    rcases q with rfl | rfl | q
    · exact ⟨ho.1, .inl ho.2⟩
    · exact ⟨he.1, .inl he.2⟩
    · exact h6 j q
  have hGI : ∀ en, (((pre.length + 1 : Nat) : Int) == n) = en → GI w WL eb wb ob pb nb cb mb kb vb n ky vl C D G1 G2 en (pre ++ [x]) W' := fun en hen => by
    rw [hen] at g1
    refine ⟨v', g1, by rw [nums_snoc]; exact g2, h3.keep (fun j hj => g3.block j (h3.lt hj) (fun q => by have := (hS j q).1; have := hk1 j hj; omega)), h4.keep (fun j hj => g3.block j (h4.lt hj) (fun q => by have := (hS j q).1; have := hk2 j hj; omega)), ?_, fun g hg => ?_⟩
    · exact ⟨g3.os.trans h5.os, g3.tape.trans h5.tape, g3.output.trans h5.output, Nat.le_trans h5.size g3.size, fun k hk => (g3.block k (Nat.lt_of_lt_of_le hk h5.size) (fun q => by have := (hS k q).1; omega)).trans (h5.block k hk)⟩
    · rcases g4 with q | q
      · exact h6 g (q ▸ hg)
      · rw [q] at hg
        cases hg
        have := h5.size
        exact ⟨by omega, .inr (by omega)⟩
  refine ⟨⟨fun r o hr ho' => ?_, g3.size⟩, fun j hj => ?_, _, rfl, fun hb => ?_, fun hb => ?_⟩
  · rw [g3.block r (Array.getElem?_eq_some_iff.1 hr).1 (fun q => ?_)]
    · exact hr
    · rcases q with q | q | q
      · rw [q, h1.o] at hr
        cases hr
        cases ho'
      · rw [q, h1.e] at hr
        cases hr
        cases ho'
      · obtain ⟨c, hc⟩ := Rf.own_blk h2 q
        rw [hc] at hr
        cases hr
        cases ho'
  · refine g3.block j ?_ (fun q => ?_)
    · rcases hj with q | q | q
      · have := hCw.lt q
        have := h5.size
        omega
      · omega
      · omega
    · have := hS j q
      rcases hj with r | r | r
      · have := hCw.lt r
        omega
      · omega
      · omega
  · have hb' : (((pre.length + 1 : Nat) : Int) == n) = false := by
      rw [hnl] at hb
      simpa using hb
    exact ⟨hGI false hb', by simpa using hb'⟩
  · have hb' : (((pre.length + 1 : Nat) : Int) == n) = true := by
      rw [hnl] at hb
      simpa using hb
    exact ⟨hGI true hb', by simpa using hb'⟩
end Go.Proofs.Ytdhinpmjbcohaaa
