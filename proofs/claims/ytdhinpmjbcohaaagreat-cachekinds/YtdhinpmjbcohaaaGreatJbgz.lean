import Derived.Test.YtdhinpmjbcohaaaGreatJbgv
import Derived.Test.YtdhinpmjbcohaaaGreatQsQ
import Derived.Test.YtdhinpmjbcohaaaGreatKbF
import Derived.Test.YtdhinpmjbcohaaaGreatKbS
namespace Go.Proofs.YtdhinpmjbcohaaaGreat.Jb
open Go Go.RowKit Go.Shelf
set_option linter.unusedSimpArgs false
set_option linter.unusedVariables false
open Rf (e2 e2_len e2_app e2_one ER own_er own_shape app_many addr0)

structure GB (W : World) (eb wb ob pb nb cb mb kb vb : Nat) (en : Bool) (v : Value) (n : Int) : Prop where
 e : W.heap[eb]? = some (.cells #[.bool en] 4 (0, 0))
 w : W.heap[wb]? = some (.cells #[.bool true] 4 (0, 0))
 o : W.heap[ob]? = some (.cells #[v] 90 (0, 0))
 p : W.heap[pb]? = some (.cells #[pt cb, pt mb, pt kb, pt vb] 35 (0, 0))
 n : W.heap[nb]? = some (.cells #[.int .i64 n] 3 (0, 0))
theorem given1_any {W : World} {eb wb ob pb nb cb mb kb vb : Nat} {v : Value} {n : Int} {A : List (Int × Int)} {C : List Int} {D : List Qk.Kt} {G1 G2 : Nat → Prop} {k : Int} {x : Qk.Kt}
  (hg : GB W eb wb ob pb nb cb mb kb vb false v n) (hew : eb ≠ wb) (ho : W.ownsRow 0 120 2 v A.length (e2 A)) (hC : Qi.CD W kb C G1) (hD : Qk.CD W vb D G2) (hk : k ∈ C) (hx : x ∈ D) (hl : A.length ≤ 100000) (hlC : C.length ≤ 900000) (hlD : D.length ≤ 900000) :
  Calls Tryz.prog 88 #[.int .i64 k, .agg #[.string x.1, .int .i64 x.2], pt eb, pt wb, pt ob, pt pb, pt nb] W fun r W' => ∃ v', r = .returned (.bool (!((A.length + 1 : Nat) : Int) == n)) ∧ GB W' eb wb ob pb nb cb mb kb vb (((A.length + 1 : Nat) : Int) == n) v' n ∧ W'.ownsRow 0 120 2 v' (A ++ [((ix k C : Int), (ix x D : Int))]).length (e2 (A ++ [((ix k C : Int), (ix x D : Int))])) ∧
   Ch (fun j => j = ob ∨ j = eb ∨ v.ownBlock = some j) W W' ∧ (v'.ownBlock = v.ownBlock ∨ ∃ g, v'.ownBlock = some g ∧ W.heap.size ≤ g) := by
 have hbw : Below W.heap.size W (W.alloc (.cells #[.string x.1, .int .i64 x.2] 31)) := (Below.refl _ _).alloc (Nat.le_refl _) _
 have hsw : (W.alloc (.cells #[.string x.1, .int .i64 x.2] 31)).heap.size = W.heap.size + 1 := by simp
 have low : ∀ {W' : World}, Below (W.alloc (.cells #[.string x.1, .int .i64 x.2] 31)).heap.size (W.alloc (.cells #[.string x.1, .int .i64 x.2] 31)) W' → Below W.heap.size W W' := fun {W'} h => hbw.trans (h.mono (by omega))
 refine given1k_walk (v := v) (n := n) _ (box_cells hg.e 0 _ rfl) (box_cells hg.o 0 _ rfl) (box_cells hg.p 2 _ rfl) (box_cells hg.p 3 _ rfl)
  (fun W' h => Qk.of_known (hD.keep (fun j q => (low h).block j (hD.lt q))) hx hlD)
  (fun W' h => Qi.of_known (hC.keep (fun j q => (low h).block j (hC.lt q))) hk hlC) (fun W' hW => ?_)
 have hWW := low hW
 have hoW : W'.ownsRow 0 120 2 v A.length (e2 A) := Rf.own_keep ho (fun j q => hWW.block j ((ho.lt j q).2))
 have hoA : (W'.alloc (.cells #[.int .i64 (ix k C), .int .i64 (ix x D)] 120)).ownsRow 0 120 2 v A.length (e2 A) := hoW.alloc _
 obtain ⟨v', w9, hr, h2, hc, hloc⟩ := app_many (B := [((ix k C : Int), (ix x D : Int))]) hoA ⟨W'.heap.size, 0, none⟩ 1 (fun j u hu => by
  rw [addr0, Nat.zero_add]
  refine box_cells (cs := #[.int .i64 (ix k C), .int .i64 (ix x D)]) (t := 120) (fz := (0, 0)) (heap_alloc_new W' _) j u ?_
  simpa [e2] using hu) (by simp; omega)
 obtain ⟨va, ca, rfl⟩ := own_shape h2
 have hlen : (A ++ [((ix k C : Int), (ix x D : Int))]).length = A.length + 1 := by simp
 rw [hlen] at hr h2 hloc
 have hne : ∀ {b t : Nat} {cs : Array Value}, W.heap[b]? = some (.cells cs t (0, 0)) → t ≠ 120 → v.ownBlock ≠ some b := fun {b t cs} hb ht q => by
  obtain ⟨c, hcc⟩ := Rf.own_blk ho q
  rw [hb] at hcc
  simp at hcc
  exact ht hcc.2
 have hc9 : Ch (fun j => v.ownBlock = some j) W w9 := ((Below.ch hWW).then (ch_alloc _ _ _)).then hc
 have hst : ∀ {b t : Nat} {cs : Array Value}, W.heap[b]? = some (.cells cs t (0, 0)) → t ≠ 120 → w9.heap[b]? = some (.cells cs t (0, 0)) := fun {b t cs} hb ht => (hc9.block b (Array.getElem?_eq_some_iff.1 hb).1 (hne hb ht)).trans hb
 have hkey : w9.heap[W.heap.size]? = some (.cells #[.string x.1, .int .i64 x.2] 31 (0, 0)) := by
  have h1 : W'.heap[W.heap.size]? = some (.cells #[.string x.1, .int .i64 x.2] 31 (0, 0)) := (hW.block W.heap.size (by omega)).trans (heap_alloc_new W _)
  have hl1 := (Array.getElem?_eq_some_iff.1 h1).1
  refine (hc.block W.heap.size (by simp; omega) (fun q => ?_)).trans ((Below.heap_alloc _ _ _ hl1).trans h1)
  have := (ho.lt _ q).2
  omega
 have e9 := hst hg.e (by decide)
 have w9' := hst hg.w (by decide)
 have o9 := hst hg.o (by decide)
 have p9 := hst hg.p (by decide)
 have n9 := hst hg.n (by decide)
 have hoe : ob ≠ eb := fun q => by
  have := hg.o
  rw [q, hg.e] at this
  simp at this
 have hop : ob ≠ pb := fun q => by
  have := hg.o
  rw [q, hg.p] at this
  simp at this
 have hon : ob ≠ nb := fun q => by
  have := hg.o
  rw [q, hg.n] at this
  simp at this
 have how : ob ≠ wb := fun q => by
  have := hg.o
  rw [q, hg.w] at this
  simp at this
 have hep : eb ≠ pb := fun q => by
  have := hg.e
  rw [q, hg.p] at this
  simp at this
 have hen : eb ≠ nb := fun q => by
  have := hg.e
  rw [q, hg.n] at this
  simp at this
 have eS := (heap_set_ne (w := w9) (k := 0) (.slice va (A.length + 1) ca) hoe.symm).trans e9
 have nS := (heap_set_ne (w := w9) (k := 0) (.slice va (A.length + 1) ca) hon.symm).trans n9
 have pS := (heap_set_ne (w := w9) (k := 0) (.slice va (A.length + 1) ca) hop.symm).trans p9
 have wS := (heap_set_ne (w := w9) (k := 0) (.slice va (A.length + 1) ca) how.symm).trans w9'
 have hne9 : ∀ {b t : Nat} {cs : Array Value}, w9.heap[b]? = some (.cells cs t (0, 0)) → t ≠ 120 → ∀ q, (Value.slice va (A.length + 1) ca).ownBlock = some q → q ≠ b := fun {b t cs} hb ht q hq r => by
  obtain ⟨c, hcc⟩ := Rf.own_blk h2 hq
  rw [r, hb] at hcc
  simp at hcc
  exact ht hcc.2
 refine ⟨va, A.length + 1, ca, w9, by omega, hr, ⟨box_cells o9 0 _ rfl, box_cells p9 2 _ rfl, box_cells p9 3 _ rfl, box_cells hkey 0 _ rfl, box_cells hkey 1 _ rfl⟩, box_frozen o9 0, box_cells eS 0 _ rfl, box_cells nS 0 _ rfl, box_frozen eS 0, .slice va (A.length + 1) ca, rfl, ⟨?_, ?_, ?_, ?_, ?_⟩, ?_, ?_, ?_⟩
 ·
  rw [heap_set eS]
  simp
 ·
  exact (heap_set_ne _ hew.symm).trans wS
 ·
  rw [heap_set_ne _ hoe, heap_set o9]
  simp
 ·
  exact (heap_set_ne _ hep.symm).trans pS
 ·
  exact (heap_set_ne _ hen.symm).trans nS
 ·
  rw [hlen]
  refine Rf.own_keep h2 (fun q hq => ?_)
  rw [heap_set_ne _ (hne9 e9 (by decide) q hq), heap_set_ne _ (hne9 o9 (by decide) q hq)]
 ·
  exact ((hc9.mono (fun j _ q => .inr (.inr q))).then ((ch_set ob 0 _).mono (fun j _ q => .inl q))).then ((ch_set eb 0 _).mono (fun j _ q => .inr (.inl q)))
 ·
  rcases hloc with q | q
  ·
   exact .inl q
  ·
   exact .inr ⟨_, q, by have := hWW.size; simp; omega⟩
end Go.Proofs.YtdhinpmjbcohaaaGreat.Jb
namespace Go.Proofs.YtdhinpmjbcohaaaGreat.Jb
open Go Go.RowKit Go.Shelf
set_option linter.unusedSimpArgs false
set_option linter.unusedVariables false
open Rf (e2 e2_len e2_app e2_one ER own_er own_shape app_many addr0)

def nums {L : List Nat} (ky : Nat → Int) (vl : Nat → Qk.Kt) (C : List Int) (D : List Qk.Kt) (pre : List {b : Nat // b ∈ L}) : List (Int × Int) := pre.map (fun b => ((ix (ky b.1) C : Int), (ix (vl b.1) D : Int)))
theorem nums_snoc {L : List Nat} (ky : Nat → Int) (vl : Nat → Qk.Kt) (C : List Int) (D : List Qk.Kt) (pre : List {b : Nat // b ∈ L}) (x : {b : Nat // b ∈ L}) : nums ky vl C D (pre ++ [x]) = nums ky vl C D pre ++ [((ix (ky x.1) C : Int), (ix (vl x.1) D : Int))] := by simp [nums]
def GI {L : List Nat} (w WL : World) (eb wb ob pb nb cb mb kb vb : Nat) (n : Int) (ky : Nat → Int) (vl : Nat → Qk.Kt) (C : List Int) (D : List Qk.Kt) (G1 G2 : Nat → Prop) (en : Bool) (pre : List {b : Nat // b ∈ L}) (W : World) : Prop :=
 ∃ v, GB W eb wb ob pb nb cb mb kb vb en v n ∧ W.ownsRow 0 120 2 v (nums ky vl C D pre).length (e2 (nums ky vl C D pre)) ∧ Qi.CD W kb C G1 ∧ Qk.CD W vb D G2 ∧ Below w.heap.size w W ∧ (∀ g, v.ownBlock = some g → w.heap.size ≤ g ∧ (g < WL.heap.size ∨ WL.heap.size + 2 ≤ g))
theorem kept_cells {A B : World} {row : Option Nat} (hg : A.grownBy B row) (hr : ∀ r, row = some r → ∃ o : Obj, A.heap[r]? = some o ∧ o.isCells = false) {b t : Nat} {cs : Array Value} {fz : Nat × Nat} (h : A.heap[b]? = some (.cells cs t fz)) : B.heap[b]? = A.heap[b]? :=
 hg.block b (Array.getElem?_eq_some_iff.1 h).1 (fun e => by
  obtain ⟨o, h1, h2⟩ := hr b e.symm
  rw [h] at h1
  cases h1
  cases h2)
theorem GI.own {L : List Nat} {w WL : World} {eb wb ob pb nb cb mb kb vb : Nat} {n : Int} {ky : Nat → Int} {vl : Nat → Qk.Kt} {C : List Int} {D : List Qk.Kt} {G1 G2 : Nat → Prop} {en : Bool} (hw : w.heap.size ≤ WL.heap.size) (hk1 : ∀ j, G1 j → j < w.heap.size) (hk2 : ∀ j, G2 j → j < w.heap.size) : OwnFrom WL.heap.size (GI (L := L) w WL eb wb ob pb nb cb mb kb vb n ky vl C D G1 G2 en) := by
 intro s A B row hs hg hr
 obtain ⟨v, h1, h2, h3, h4, h5, h6⟩ := hs
 have hr2 : ∀ r, row = some r → ∃ o : Obj, A.heap[r]? = some o ∧ o.isCells = false := fun r e => (hr r e).2
 have hold : ∀ j, j < WL.heap.size → j < A.heap.size → B.heap[j]? = A.heap[j]? := fun j hj hja => hg.block j hja (fun e => by
  have := (hr j e.symm).1
  omega)
 refine ⟨v, ⟨(kept_cells hg hr2 h1.e).trans h1.e, (kept_cells hg hr2 h1.w).trans h1.w, (kept_cells hg hr2 h1.o).trans h1.o, (kept_cells hg hr2 h1.p).trans h1.p, (kept_cells hg hr2 h1.n).trans h1.n⟩, ?_, h3.keep (fun j hj => hold j (by have := hk1 j hj; omega) (h3.lt hj)), h4.keep (fun j hj => hold j (by have := hk2 j hj; omega) (h4.lt hj)), ?_, h6⟩
 ·
  refine Rf.own_keep h2 (fun k hk => ?_)
  obtain ⟨c, hc⟩ := Rf.own_blk h2 hk
  exact kept_cells hg hr2 hc
 ·
  exact ⟨hg.os.trans h5.os, hg.tape.trans h5.tape, hg.output.trans h5.output, Nat.le_trans h5.size hg.size, fun k hk => (hold k (by omega) (Nat.lt_of_lt_of_le hk h5.size)).trans (h5.block k hk)⟩
theorem GI.yield {L : List Nat} {w WL W : World} {eb wb ob pb nb cb mb kb vb room : Nat} {mv : Value} {n : Int} {ky : Nat → Int} {vl : Nat → Qk.Kt} {C : List Int} {D : List Qk.Kt} {G1 G2 : Nat → Prop} {nn oo : Nat → Nat}
  (hCw : Kb.CA w cb room mv L nn oo ky vl) (hC : ∀ b ∈ L, ky b ∈ C) (hD : ∀ b ∈ L, vl b ∈ D) (hk1 : ∀ j, G1 j → j < w.heap.size) (hk2 : ∀ j, G2 j → j < w.heap.size) (hlC : C.length ≤ 900000) (hlD : D.length ≤ 900000) (hL : L.length ≤ 100000)
  (hew : eb ≠ wb) (ho : w.heap.size ≤ ob ∧ ob < WL.heap.size) (he : w.heap.size ≤ eb ∧ eb < WL.heap.size) (pre : List {b : Nat // b ∈ L}) (x : {b : Nat // b ∈ L})
  (hi : GI w WL eb wb ob pb nb cb mb kb vb n ky vl C D G1 G2 false pre W) (hlt : pre.length < L.length) (hsz : WL.heap.size + 2 ≤ W.heap.size) :
  Calls Tryz.prog 88 #[Kb.kc (ky x.1), Kb.vc (vl x.1), pt eb, pt wb, pt ob, pt pb, pt nb] W fun r W' =>
   (Kb.Cy W W' ∧ W.heap.size ≤ W'.heap.size) ∧ Kb.Kq (fun j => Kb.FP cb mv L j ∨ j = WL.heap.size ∨ j = WL.heap.size + 1) W W' ∧ ∃ b, r = .returned (.bool b) ∧ (b = true → GI w WL eb wb ob pb nb cb mb kb vb n ky vl C D G1 G2 false (pre ++ [x]) W' ∧ ((pre.length + 1 : Nat) : Int) ≠ n) ∧ (b = false → GI w WL eb wb ob pb nb cb mb kb vb n ky vl C D G1 G2 true (pre ++ [x]) W' ∧ ((pre.length + 1 : Nat) : Int) = n) := by
 obtain ⟨v, h1, h2, h3, h4, h5, h6⟩ := hi
 have hnl : (nums ky vl C D pre).length = pre.length := by simp [nums]
 refine (given1_any h1 hew h2 h3 h4 (hC x.1 x.2) (hD x.1 x.2) (by omega) hlC hlD).mono ?_
 rintro r W' ⟨v', rfl, g1, g2, g3, g4⟩
 rw [hnl] at g1
 have hS : ∀ j, (j = ob ∨ j = eb ∨ v.ownBlock = some j) → w.heap.size ≤ j ∧ (j < WL.heap.size ∨ WL.heap.size + 2 ≤ j) := fun j q => by
  rcases q with rfl | rfl | q
  ·
   exact ⟨ho.1, .inl ho.2⟩
  ·
   exact ⟨he.1, .inl he.2⟩
  ·
   exact h6 j q
 have hGI : ∀ en, (((pre.length + 1 : Nat) : Int) == n) = en → GI w WL eb wb ob pb nb cb mb kb vb n ky vl C D G1 G2 en (pre ++ [x]) W' := fun en hen => by
  rw [hen] at g1
  refine ⟨v', g1, by rw [nums_snoc]; exact g2, h3.keep (fun j hj => g3.block j (h3.lt hj) (fun q => by have := (hS j q).1; have := hk1 j hj; omega)), h4.keep (fun j hj => g3.block j (h4.lt hj) (fun q => by have := (hS j q).1; have := hk2 j hj; omega)), ?_, fun g hg => ?_⟩
  ·
   exact ⟨g3.os.trans h5.os, g3.tape.trans h5.tape, g3.output.trans h5.output, Nat.le_trans h5.size g3.size, fun k hk => (g3.block k (Nat.lt_of_lt_of_le hk h5.size) (fun q => by have := (hS k q).1; omega)).trans (h5.block k hk)⟩
  ·
   rcases g4 with q | q
   ·
    exact h6 g (q ▸ hg)
   ·
    obtain ⟨g', q, hg'⟩ := q
    rw [q] at hg
    cases hg
    have := h5.size
    exact ⟨by omega, .inr (by omega)⟩
 refine ⟨⟨fun r o hr ho' => ?_, g3.size⟩, fun j hj => ?_, _, rfl, fun hb => ?_, fun hb => ?_⟩
 ·
  rw [g3.block r (Array.getElem?_eq_some_iff.1 hr).1 (fun q => ?_)]
  ·
   exact hr
  ·
   rcases q with q | q | q
   ·
    rw [q, h1.o] at hr
    cases hr
    cases ho'
   ·
    rw [q, h1.e] at hr
    cases hr
    cases ho'
   ·
    obtain ⟨c, hc⟩ := Rf.own_blk h2 q
    rw [hc] at hr
    cases hr
    cases ho'
 ·
  refine g3.block j ?_ (fun q => ?_)
  ·
   rcases hj with q | q | q
   ·
    have := hCw.lt q
    have := h5.size
    omega
   ·
    omega
   ·
    omega
  ·
   have := hS j q
   rcases hj with r | r | r
   ·
    have := hCw.lt r
    omega
   ·
    omega
   ·
    omega
 ·
  have hb' : (((pre.length + 1 : Nat) : Int) == n) = false := by
   rw [hnl] at hb
   simpa using hb
  exact ⟨hGI false hb', by simpa using hb'⟩
 ·
  have hb' : (((pre.length + 1 : Nat) : Int) == n) = true := by
   rw [hnl] at hb
   simpa using hb
  exact ⟨hGI true hb', by simpa using hb'⟩
end Go.Proofs.YtdhinpmjbcohaaaGreat.Jb
namespace Go.Proofs.YtdhinpmjbcohaaaGreat.Jb
open Go Go.RowKit Go.Shelf
set_option linter.unusedSimpArgs false
set_option linter.unusedVariables false
set_option maxRecDepth 100000
set_option maxHeartbeats 4000000
open Rf (e2 e2_len e2_app e2_one ER own_er own_shape app_many addr0)

def gvw (w : World) (cb mb kb vb : Nat) (n : Int) : World := ((((w.alloc (.cells #[pt cb, pt mb, pt kb, pt vb] 35)).alloc (.cells #[.int .i64 n] 3)).alloc (.cells #[.slice none 0 0] 90)).alloc (.cells #[.bool true] 4)).alloc (.cells #[.bool false] 4)
theorem func_ne (w : World) (q : Value) : (binOp .eql 123 (.func (.func 86) #[] #[q]) .nilFunc).run Tryz.prog w = .ok (.bool false) w := by kernel_rfl
theorem given_zero {w : World} {cb mb kb vb Bc : Nat} : Calls Tryz.prog 61 #[.agg #[pt cb, pt mb, pt kb, pt vb], .func (.func 86) #[] #[.pointer (some ⟨Bc, 0, none⟩)], .int .i64 0] w fun r w' => r = .returned (.tuple #[.slice none 0 0, .bool true]) ∧ Below w.heap.size w w' := by
 have hf := func_ne ((w.alloc (.cells #[pt cb, pt mb, pt kb, pt vb] 35)).alloc (.cells #[.int .i64 0] 3)) (.pointer (some ⟨Bc, 0, none⟩))
 have B0 : Hid (Below w.heap.size w ((w.alloc (.cells #[pt cb, pt mb, pt kb, pt vb] 35)).alloc (.cells #[.int .i64 0] 3))) := ((Below.refl _ _).alloc (Nat.le_refl _) _).alloc (by simp) _
 unfold pt at *
 go_enter Tryz.func61, Tryz.ntmps61
 go_wp2_with fail
 go_ret2
 exact ⟨rfl, B0.out⟩
theorem given_walk {w : World} {cb mb kb vb Bc : Nat} {n : Int} (hn : n ≠ 0) {R1 : World → Prop} (h60 : Calls Tryz.prog 86 #[.func (.func 88) #[] #[pt (w.heap.size + 4), pt (w.heap.size + 3), pt (w.heap.size + 2), pt w.heap.size, pt (w.heap.size + 1)], .pointer (some ⟨Bc, 0, none⟩)] (gvw w cb mb kb vb n) fun r w' => (∃ v, r = .returned v) ∧ R1 w')
  (R : Ending → World → Prop) (hR : ∀ w1, R1 w1 → ∃ a m c, w1.cell? ⟨w.heap.size + 2, 0, none⟩ = some (.slice a m c) ∧ w1.cell? ⟨w.heap.size + 3, 0, none⟩ = some (.bool true) ∧ R (.returned (.tuple #[.slice a m c, .bool true])) w1.drew) :
  Calls Tryz.prog 61 #[.agg #[pt cb, pt mb, pt kb, pt vb], .func (.func 86) #[] #[.pointer (some ⟨Bc, 0, none⟩)], .int .i64 n] w R := by
 have hf := func_ne ((w.alloc (.cells #[pt cb, pt mb, pt kb, pt vb] 35)).alloc (.cells #[.int .i64 n] 3)) (.pointer (some ⟨Bc, 0, none⟩))
 have hn0 : (n == 0) = false := by simpa using hn
 have H60 : Hid (Calls Tryz.prog 86 #[.func (.func 88) #[] #[pt (w.heap.size + 4), pt (w.heap.size + 3), pt (w.heap.size + 2), pt w.heap.size, pt (w.heap.size + 1)], .pointer (some ⟨Bc, 0, none⟩)] (gvw w cb mb kb vb n) fun r w' => (∃ v, r = .returned v) ∧ R1 w') := h60
 have HR : Hid (∀ w1, R1 w1 → ∃ a m c, w1.cell? ⟨w.heap.size + 2, 0, none⟩ = some (.slice a m c) ∧ w1.cell? ⟨w.heap.size + 3, 0, none⟩ = some (.bool true) ∧ R (.returned (.tuple #[.slice a m c, .bool true])) w1.drew) := hR
 clear h60 hR hn
 unfold gvw pt at *
 go_enter Tryz.func61, Tryz.ntmps61
 go_wp2_with fail
 go_must (go_at_call 86)
 refine (H60.out).mono ?_
 rintro r w1 ⟨⟨u, rfl⟩, h1⟩
 obtain ⟨a, m, c, c1, c2, h2⟩ := HR.out w1 h1
 have Z : Hid (R (.returned (.tuple #[.slice a m c, .bool true])) w1.drew) := h2
 clear h1 h2
 go_wp2_with fail
 go_region
 all_goals go_wp2_with fail
 all_goals (try go_ret2)
 all_goals exact Z.out
end Go.Proofs.YtdhinpmjbcohaaaGreat.Jb
namespace Go.Proofs.YtdhinpmjbcohaaaGreat.Jb
open Go Go.RowKit Go.Shelf
set_option linter.unusedSimpArgs false
set_option linter.unusedVariables false
open Rf (e2 e2_len e2_app e2_one ER own_er own_shape app_many addr0)

def tk {α : Type} (n : Int) (l : List α) : List α := if n < 0 then l else l.take n.toNat
def num (ky : Nat → Int) (vl : Nat → Qk.Kt) (C : List Int) (D : List Qk.Kt) (b : Nat) : Int × Int := ((ix (ky b) C : Int), (ix (vl b) D : Int))
theorem nums_all (L : List Nat) (ky : Nat → Int) (vl : Nat → Qk.Kt) (C : List Int) (D : List Qk.Kt) (k : Nat) : nums ky vl C D (L.attach.take k) = (L.map (num ky vl C D)).take k := by
 unfold nums
 rw [List.map_take]
 congr 1
 have : (fun b : {b : Nat // b ∈ L} => ((ix (ky b.1) C : Int), (ix (vl b.1) D : Int))) = (num ky vl C D) ∘ Subtype.val := rfl
 rw [this, ← List.map_map, List.attach_map_subtype_val]
theorem gvw_facts (w : World) (cb mb kb vb : Nat) (n : Int) : (gvw w cb mb kb vb n).heap.size = w.heap.size + 5 ∧ Below w.heap.size w (gvw w cb mb kb vb n) ∧ GB (gvw w cb mb kb vb n) (w.heap.size + 4) (w.heap.size + 3) (w.heap.size + 2) w.heap.size (w.heap.size + 1) cb mb kb vb false (.slice none 0 0) n := by
 have hb : ∀ (A : World) (o : Obj) (j : Nat), j < A.heap.size → (A.alloc o).heap[j]? = A.heap[j]? := fun A o j hj => (World.grownBy_alloc A o none).block j hj (by simp)
 have hnew : ∀ (A : World) (o : Obj) (j : Nat), j = A.heap.size → (A.alloc o).heap[j]? = some o := fun A o j hj => by
  rw [hj]
  exact (MapKept.heap_alloc A o).1
 refine ⟨by simp [gvw], ?_, ⟨?_, ?_, ?_, ?_, ?_⟩⟩
 ·
  unfold gvw
  exact (((((Below.refl _ _).alloc (Nat.le_refl _) _).alloc (by simp) _).alloc (by simp <;> omega) _).alloc (by simp <;> omega) _).alloc (by simp <;> omega) _
 ·
  unfold gvw
  exact hnew _ _ _ (by simp)
 ·
  unfold gvw
  rw [hb _ _ _ (by simp <;> omega)]
  exact hnew _ _ _ (by simp)
 ·
  unfold gvw
  rw [hb _ _ _ (by simp <;> omega), hb _ _ _ (by simp <;> omega)]
  exact hnew _ _ _ (by simp)
 ·
  unfold gvw
  rw [hb _ _ _ (by simp <;> omega), hb _ _ _ (by simp <;> omega), hb _ _ _ (by simp <;> omega), hb _ _ _ (by simp <;> omega)]
  exact hnew _ _ _ rfl
 ·
  unfold gvw
  rw [hb _ _ _ (by simp <;> omega), hb _ _ _ (by simp <;> omega), hb _ _ _ (by simp <;> omega)]
  exact hnew _ _ _ (by simp)
theorem given_any {w : World} {cb room mb kb vb Bc : Nat} {mv : Value} {L : List Nat} {nn oo : Nat → Nat} {ky : Nat → Int} {vl : Nat → Qk.Kt} {C : List Int} {D : List Qk.Kt} {G1 G2 : Nat → Prop} (hCA : Kb.CA w cb room mv L nn oo ky vl) (hL : L.length ≤ 100000) (hBc : w.heap[Bc]? = some (.cells #[pt cb] 32 (0, 0)))
  (h1 : Qi.CD w kb C G1) (h2 : Qk.CD w vb D G2) (hC : ∀ b ∈ L, ky b ∈ C) (hD : ∀ b ∈ L, vl b ∈ D) (hlC : C.length ≤ 900000) (hlD : D.length ≤ 900000) (n : Int) :
  Calls Tryz.prog 61 #[.agg #[pt cb, pt mb, pt kb, pt vb], .func (.func 86) #[] #[.pointer (some ⟨Bc, 0, none⟩)], .int .i64 n] w fun r w' => ∃ v, r = .returned (.tuple #[v, .bool true]) ∧ ER w' v (tk n (L.map (num ky vl C D))) ∧ Below w.heap.size w w' := by
 by_cases hn : n = 0
 ·
  subst hn
  refine given_zero.mono ?_
  rintro r w' ⟨rfl, hb⟩
  exact ⟨_, rfl, ⟨none, 0, by simp [tk], by simp [tk], fun q => absurd (by simp [tk]) q⟩, hb⟩
 ·
  obtain ⟨hsz, hbl, hgb⟩ := gvw_facts w cb mb kb vb n
  have hCA' : Kb.CA (gvw w cb mb kb vb n) cb room mv L nn oo ky vl := hCA.keep (fun j hj => hbl.block j (hCA.lt hj))
  have hBc' := (hbl.block Bc (Array.getElem?_eq_some_iff.1 hBc).1).trans hBc
  have hg1 : ∀ j, G1 j → j < w.heap.size := fun j hj => h1.lt hj
  have hg2 : ∀ j, G2 j → j < w.heap.size := fun j hj => h2.lt hj
  have hown : ∀ en, OwnFrom (gvw w cb mb kb vb n).heap.size (GI (L := L) w (gvw w cb mb kb vb n) (w.heap.size + 4) (w.heap.size + 3) (w.heap.size + 2) w.heap.size (w.heap.size + 1) cb mb kb vb n ky vl C D G1 G2 en) := fun en => GI.own (by omega) hg1 hg2
  have hcall := Kb.all1_88 hCA' (by omega) Bc hBc' (q0 := pt (w.heap.size + 4)) (q1 := pt (w.heap.size + 3)) (q2 := pt (w.heap.size + 2)) (q3 := pt w.heap.size) (q4 := pt (w.heap.size + 1))
   (fun pre W => GI w (gvw w cb mb kb vb n) (w.heap.size + 4) (w.heap.size + 3) (w.heap.size + 2) w.heap.size (w.heap.size + 1) cb mb kb vb n ky vl C D G1 G2 false pre W ∧ ¬ (0 < n ∧ n ≤ pre.length))
   (fun pre W => GI w (gvw w cb mb kb vb n) (w.heap.size + 4) (w.heap.size + 3) (w.heap.size + 2) w.heap.size (w.heap.size + 1) cb mb kb vb n ky vl C D G1 G2 true pre W ∧ (pre.length : Int) = n)
   (fun s A B row hs hg hr => ⟨hown false s A B row hs.1 hg hr, hs.2⟩) (fun s A B row hs hg hr => ⟨hown true s A B row hs.1 hg hr, hs.2⟩)
   ⟨⟨_, hgb, World.ownsRow_nil _ _ _ _, h1.keep (fun j hj => hbl.block j (hg1 j hj)), h2.keep (fun j hj => hbl.block j (hg2 j hj)), hbl, fun g hg => (by cases hg)⟩, by simp <;> omega⟩
   (fun pre x W hi hlt _ hs => ?_)
  ·
   refine given_walk hn (hcall.mono (fun r w' q => q)) _ (fun w1 hw1 => ?_)
   have fin : ∀ (en : Bool) (pre : List {b : Nat // b ∈ L}), GI w (gvw w cb mb kb vb n) (w.heap.size + 4) (w.heap.size + 3) (w.heap.size + 2) w.heap.size (w.heap.size + 1) cb mb kb vb n ky vl C D G1 G2 en pre w1 → nums ky vl C D pre = tk n (L.map (num ky vl C D)) → ∃ a m c, w1.cell? ⟨w.heap.size + 2, 0, none⟩ = some (.slice a m c) ∧ w1.cell? ⟨w.heap.size + 3, 0, none⟩ = some (.bool true) ∧ ∃ v, Ending.returned (.tuple #[.slice a m c, .bool true]) = .returned (.tuple #[v, .bool true]) ∧ ER w1.drew v (tk n (L.map (num ky vl C D))) ∧ Below w.heap.size w w1.drew := by
    rintro en pre ⟨v, g1, g2, _, _, g5, _⟩ he
    obtain ⟨a, c, rfl⟩ := own_shape g2
    rw [he] at g2 g1
    exact ⟨a, _, c, box_cells g1.o 0 _ rfl, box_cells g1.w 0 _ rfl, _, rfl, own_er (w := w1.drew) g2, Below.drew g5⟩
   rcases hw1 with ⟨g, hno⟩ | ⟨k, hk, g, he⟩
   ·
    refine fin false _ g ?_
    have e1 := nums_all L ky vl C D L.length
    rw [List.take_of_length_le (by simp), List.take_of_length_le (by simp)] at e1
    rw [e1]
    simp only [List.length_attach] at hno
    unfold tk
    split
    ·
     rfl
    ·
     rw [List.take_of_length_le]
     simp
     omega
   ·
    refine fin true _ g ?_
    rw [nums_all]
    have hkl : (L.attach.take k).length = k := by simp; omega
    rw [hkl] at he
    unfold tk
    rw [if_neg (by omega), show n.toNat = k by omega]
  ·
   refine (GI.yield hCA hC hD hg1 hg2 hlC hlD hL (by omega) ⟨by omega, by omega⟩ ⟨by omega, by omega⟩ pre x hi.1 hlt hs).mono ?_
   rintro r W' ⟨q1, q2, b, rfl, q3, q4⟩
   refine ⟨q1, q2, b, rfl, fun hb => ⟨(q3 hb).1, ?_⟩, fun hb => ⟨(q4 hb).1, ?_⟩⟩
   ·
    have := (q3 hb).2
    have := hi.2
    simp
    omega
   ·
    have := (q4 hb).2
    simpa using this
end Go.Proofs.YtdhinpmjbcohaaaGreat.Jb
