import Derived.Test.YtdhinpmjbcohaaaGreatJwk
import Derived.OpenShut
namespace Go.Proofs.YtdhinpmjbcohaaaGreat
open Go Go.RowKit Go.Shelf
set_option linter.unusedSimpArgs false
set_option linter.unusedVariables false
set_option maxRecDepth 100000
set_option maxHeartbeats 4000000

theorem cell_low {w W : World} (h : Below w.heap.size w W) {g k : Nat} {v : Value} (hv : w.cell? ⟨g, k, none⟩ = some v) : W.cell? ⟨g, k, none⟩ = some v := (Ja.cell_same (h.block g (Rf.cell_lt'' hv))).trans hv
structure F4 (w W : World) (most : Int) (T : Nat → Nat → Prop) : Prop where
 ap : ∀ i j x, i ≠ j → T i x → ¬ T j x
 lt : ∀ i x, T i x → x < W.heap.size
 b1 : W.heap[w.heap.size + 20]? = some (.cells #[.pointer (some ⟨w.heap.size + 1, 0, none⟩), .pointer (some ⟨w.heap.size + 1 + 1, 0, none⟩), .pointer (some ⟨w.heap.size + 1 + 1 + 1, 0, none⟩), .pointer (some ⟨w.heap.size + 1 + 1 + 1 + 1, 0, none⟩)] 28 (0, 0))
 b2 : W.heap[w.heap.size + 20 + 1]? = some (.cells #[.pointer (some ⟨w.heap.size + 5 + 1, 0, none⟩), .pointer (some ⟨w.heap.size + 5 + 1 + 1, 0, none⟩), .pointer (some ⟨w.heap.size + 5 + 1 + 1 + 1, 0, none⟩), .pointer (some ⟨w.heap.size + 5 + 1 + 1 + 1 + 1, 0, none⟩)] 35 (0, 0))
 b3 : W.heap[w.heap.size + 20 + 2]? = some (.cells #[.pointer (some ⟨w.heap.size + 10 + 1, 0, none⟩), .pointer (some ⟨w.heap.size + 10 + 1 + 1, 0, none⟩), .pointer (some ⟨w.heap.size + 10 + 1 + 1 + 1, 0, none⟩), .pointer (some ⟨w.heap.size + 10 + 1 + 1 + 1 + 1, 0, none⟩)] 41 (0, 0))
 b4 : W.heap[w.heap.size + 20 + 3]? = some (.cells #[.pointer (some ⟨w.heap.size + 15 + 1, 0, none⟩), .pointer (some ⟨w.heap.size + 15 + 1 + 1, 0, none⟩), .pointer (some ⟨w.heap.size + 15 + 1 + 1 + 1, 0, none⟩), .pointer (some ⟨w.heap.size + 15 + 1 + 1 + 1 + 1, 0, none⟩)] 47 (0, 0))
 n : ∀ i x, T i x → (x < w.heap.size + 20 ∨ w.heap.size + 20 + 4 ≤ x) ∧ w.heap.size ≤ x
 be : Below w.heap.size w W
theorem F4.step {w W W' : World} {most : Int} {T : Nat → Nat → Prop} {T' : Nat → Prop} (h : F4 w W most T) (q : Nat) (hn : ∀ j, T' j → T q j ∨ W.heap.size ≤ j) (hl : ∀ j, T' j → j < W'.heap.size) (hc : Ch (T q) W W') : F4 w W' most (upd T q T') := by
 have hsz := h.be.size
 have k4 := (Array.getElem?_eq_some_iff.1 h.b4).1
 have kb : ∀ j, w.heap.size + 20 ≤ j → j < w.heap.size + 20 + 4 → W'.heap[j]? = W.heap[j]? := fun j h1 h2 => hc.block j (by omega) (fun x => by have := (h.n q j x).1; omega)
 refine ⟨fun i j x hij hi hj => ?_, fun i x hi => ?_, (kb _ (by omega) (by omega)).trans h.b1, (kb _ (by omega) (by omega)).trans h.b2, (kb _ (by omega) (by omega)).trans h.b3, (kb _ (by omega) (by omega)).trans h.b4, fun i x hi => ?_, ?_⟩
 ·
  by_cases e : i = q
  ·
   subst e
   rw [upd_same] at hi
   rw [upd_ne _ _ (by omega)] at hj
   rcases hn x hi with z | z
   ·
    exact h.ap i j x hij z hj
   ·
    have := h.lt j x hj
    omega
  ·
   rw [upd_ne _ _ e] at hi
   by_cases e' : j = q
   ·
    subst e'
    rw [upd_same] at hj
    rcases hn x hj with z | z
    ·
     exact h.ap i j x hij hi z
    ·
     have := h.lt i x hi
     omega
   ·
    rw [upd_ne _ _ e'] at hj
    exact h.ap i j x hij hi hj
 ·
  by_cases e : i = q
  ·
   subst e
   rw [upd_same] at hi
   exact hl x hi
  ·
   rw [upd_ne _ _ e] at hi
   exact Nat.lt_of_lt_of_le (h.lt i x hi) hc.size
 ·
  by_cases e : i = q
  ·
   subst e
   rw [upd_same] at hi
   rcases hn x hi with z | z
   ·
    exact h.n i x z
   ·
    exact ⟨.inr (by omega), by omega⟩
  ·
   rw [upd_ne _ _ e] at hi
   exact h.n i x hi
 ·
  exact ⟨hc.os.trans h.be.os, hc.tape.trans h.be.tape, hc.output.trans h.be.output, Nat.le_trans hsz hc.size, fun j hj => (hc.block j (by omega) (fun x => by have := (h.n q j x).2; omega)).trans (h.be.block j hj)⟩
theorem F4.below {w W W' : World} {most : Int} {T : Nat → Nat → Prop} (h : F4 w W most T) (hb : Below W.heap.size W W') : F4 w W' most T := by
 have k4 := (Array.getElem?_eq_some_iff.1 h.b4).1
 exact ⟨h.ap, fun i x hi => Nat.lt_of_lt_of_le (h.lt i x hi) hb.size, (hb.block _ (by omega)).trans h.b1, (hb.block _ (by omega)).trans h.b2, (hb.block _ (by omega)).trans h.b3, (hb.block _ (by omega)).trans h.b4, h.n, h.be.trans (hb.mono h.be.size)⟩
theorem F4.bx {w W : World} {most : Int} {T : Nat → Nat → Prop} (h : F4 w W most T) : B4 W (w.heap.size + 20) (w.heap.size + 1) (w.heap.size + 1 + 1) (w.heap.size + 1 + 1 + 1) (w.heap.size + 1 + 1 + 1 + 1) (w.heap.size + 5 + 1) (w.heap.size + 5 + 1 + 1) (w.heap.size + 5 + 1 + 1 + 1) (w.heap.size + 5 + 1 + 1 + 1 + 1) (w.heap.size + 10 + 1) (w.heap.size + 10 + 1 + 1) (w.heap.size + 10 + 1 + 1 + 1) (w.heap.size + 10 + 1 + 1 + 1 + 1) (w.heap.size + 15 + 1) (w.heap.size + 15 + 1 + 1) (w.heap.size + 15 + 1 + 1 + 1) (w.heap.size + 15 + 1 + 1 + 1 + 1) :=
 ⟨box_cells h.b1 0 _ rfl, box_cells h.b1 1 _ rfl, box_cells h.b1 2 _ rfl, box_cells h.b1 3 _ rfl, box_cells h.b2 0 _ rfl, box_cells h.b2 1 _ rfl, box_cells h.b2 2 _ rfl, box_cells h.b2 3 _ rfl, box_cells h.b3 0 _ rfl, box_cells h.b3 1 _ rfl, box_cells h.b3 2 _ rfl, box_cells h.b3 3 _ rfl, box_cells h.b4 0 _ rfl, box_cells h.b4 1 _ rfl, box_cells h.b4 2 _ rfl, box_cells h.b4 3 _ rfl⟩
def W4 (w W : World) (most : Int) (N1 N2 N3 N4 : Nat) (T : Nat → Nat → Prop) : Prop := F4 w W most T ∧ Ja.PT W (w.heap.size + 1) (w.heap.size + 1 + 1) (w.heap.size + 1 + 1 + 1) (w.heap.size + 1 + 1 + 1 + 1) (Ka.rm most) N1 (T 1) ∧ Jb.PT W (w.heap.size + 5 + 1) (w.heap.size + 5 + 1 + 1) (w.heap.size + 5 + 1 + 1 + 1) (w.heap.size + 5 + 1 + 1 + 1 + 1) (Kb.rm most) N2 (T 2) ∧ Jc.PT W (w.heap.size + 10 + 1) (w.heap.size + 10 + 1 + 1) (w.heap.size + 10 + 1 + 1 + 1) (w.heap.size + 10 + 1 + 1 + 1 + 1) (Kc.rm most) N3 (T 3) ∧ Jd.PT W (w.heap.size + 15 + 1) (w.heap.size + 15 + 1 + 1) (w.heap.size + 15 + 1 + 1 + 1) (w.heap.size + 15 + 1 + 1 + 1 + 1) (Kd.rm most) N4 (T 4)
theorem W4.below {w W W' : World} {most : Int} {N1 N2 N3 N4 : Nat} {T : Nat → Nat → Prop} (h : W4 w W most N1 N2 N3 N4 T) (hb : Below W.heap.size W W') : W4 w W' most N1 N2 N3 N4 T := by
 obtain ⟨h0, h1, h2, h3, h4⟩ := h
 exact ⟨h0.below hb, h1.keep (fun j hj => hb.block j (h1.lt hj)), h2.keep (fun j hj => hb.block j (h2.lt hj)), h3.keep (fun j hj => hb.block j (h3.lt hj)), h4.keep (fun j hj => hb.block j (h4.lt hj))⟩
theorem W4.does1 {w W : World} {most : Int} {N1 N2 N3 N4 : Nat} {T : Nat → Nat → Prop} (h : W4 w W most N1 N2 N3 N4 T) (hN : N1 ≤ 3000) (kind : Int) {k : Ka.Ky} (hk : Ka.okK k) (v : Ka.Vt) (stop : Int) :
  Calls Tryz.prog 8 #[.agg #[.pointer (some ⟨w.heap.size + 1, 0, none⟩), .pointer (some ⟨w.heap.size + 1 + 1, 0, none⟩), .pointer (some ⟨w.heap.size + 1 + 1 + 1, 0, none⟩), .pointer (some ⟨w.heap.size + 1 + 1 + 1 + 1, 0, none⟩)], .int .i64 kind, Ka.kc k, Ka.vc v, .int .i64 stop] W fun r w' => r = .returned (.bool true) ∧ ∃ T', W4 w w' most (N1 + 1) N2 N3 N4 T' ∧ Ch (T 1) W w' ∧ ∀ i x, T' i x → T i x ∨ W.heap.size ≤ x := by
 obtain ⟨h0, h1, h2, h3, h4⟩ := h
 refine (h1.does hN (Ja.srm_le most) kind hk v stop).mono ?_
 rintro r w' ⟨rfl, T', q1, q2, q3⟩
 have kp : ∀ i, i ≠ 1 → ∀ j, T i j → w'.heap[j]? = W.heap[j]? := fun i hi j hj => q3.block j (h0.lt i j hj) (fun x => h0.ap i 1 j hi hj x)
 refine ⟨rfl, upd T 1 T', ⟨h0.step 1 q2 (fun j hj => q1.lt hj) q3, by rw [upd_same]; exact q1, by rw [upd_ne _ _ (by decide)]; exact h2.keep (kp 2 (by decide)), by rw [upd_ne _ _ (by decide)]; exact h3.keep (kp 3 (by decide)), by rw [upd_ne _ _ (by decide)]; exact h4.keep (kp 4 (by decide))⟩, q3, fun i x hi => ?_⟩
 by_cases e : i = 1
 ·
  subst e
  rw [upd_same] at hi
  exact q2 x hi
 ·
  rw [upd_ne _ _ e] at hi
  exact .inl hi
theorem W4.all1 {w W : World} {most : Int} {N1 N2 N3 N4 : Nat} {T : Nat → Nat → Prop} (h : W4 w W most N1 N2 N3 N4 T) (hN : N1 ≤ 3000) :
  Calls Tryz.prog 12 #[.agg #[.pointer (some ⟨w.heap.size + 1, 0, none⟩), .pointer (some ⟨w.heap.size + 1 + 1, 0, none⟩), .pointer (some ⟨w.heap.size + 1 + 1 + 1, 0, none⟩), .pointer (some ⟨w.heap.size + 1 + 1 + 1 + 1, 0, none⟩)], .int .i64 (-1)] W fun r w' => r = .returned (.bool true) ∧ W4 w w' most N1 N2 N3 N4 T := by
 refine (h.2.1.all hN (-1)).mono ?_
 rintro r w' ⟨rfl, hb⟩
 exact ⟨rfl, h.below hb⟩
theorem W4.does2 {w W : World} {most : Int} {N1 N2 N3 N4 : Nat} {T : Nat → Nat → Prop} (h : W4 w W most N1 N2 N3 N4 T) (hN : N2 ≤ 3000) (kind : Int) {k : Kb.Ky} (hk : Kb.okK k) (v : Kb.Vt) (stop : Int) :
  Calls Tryz.prog 9 #[.agg #[.pointer (some ⟨w.heap.size + 5 + 1, 0, none⟩), .pointer (some ⟨w.heap.size + 5 + 1 + 1, 0, none⟩), .pointer (some ⟨w.heap.size + 5 + 1 + 1 + 1, 0, none⟩), .pointer (some ⟨w.heap.size + 5 + 1 + 1 + 1 + 1, 0, none⟩)], .int .i64 kind, Kb.kc k, Kb.vc v, .int .i64 stop] W fun r w' => r = .returned (.bool true) ∧ ∃ T', W4 w w' most N1 (N2 + 1) N3 N4 T' ∧ Ch (T 2) W w' ∧ ∀ i x, T' i x → T i x ∨ W.heap.size ≤ x := by
 obtain ⟨h0, h1, h2, h3, h4⟩ := h
 refine (h2.does hN (Jb.srm_le most) kind hk v stop).mono ?_
 rintro r w' ⟨rfl, T', q1, q2, q3⟩
 have kp : ∀ i, i ≠ 2 → ∀ j, T i j → w'.heap[j]? = W.heap[j]? := fun i hi j hj => q3.block j (h0.lt i j hj) (fun x => h0.ap i 2 j hi hj x)
 refine ⟨rfl, upd T 2 T', ⟨h0.step 2 q2 (fun j hj => q1.lt hj) q3, by rw [upd_ne _ _ (by decide)]; exact h1.keep (kp 1 (by decide)), by rw [upd_same]; exact q1, by rw [upd_ne _ _ (by decide)]; exact h3.keep (kp 3 (by decide)), by rw [upd_ne _ _ (by decide)]; exact h4.keep (kp 4 (by decide))⟩, q3, fun i x hi => ?_⟩
 by_cases e : i = 2
 ·
  subst e
  rw [upd_same] at hi
  exact q2 x hi
 ·
  rw [upd_ne _ _ e] at hi
  exact .inl hi
theorem W4.all2 {w W : World} {most : Int} {N1 N2 N3 N4 : Nat} {T : Nat → Nat → Prop} (h : W4 w W most N1 N2 N3 N4 T) (hN : N2 ≤ 3000) :
  Calls Tryz.prog 13 #[.agg #[.pointer (some ⟨w.heap.size + 5 + 1, 0, none⟩), .pointer (some ⟨w.heap.size + 5 + 1 + 1, 0, none⟩), .pointer (some ⟨w.heap.size + 5 + 1 + 1 + 1, 0, none⟩), .pointer (some ⟨w.heap.size + 5 + 1 + 1 + 1 + 1, 0, none⟩)], .int .i64 (-1)] W fun r w' => r = .returned (.bool true) ∧ W4 w w' most N1 N2 N3 N4 T := by
 refine (h.2.2.1.all hN (-1)).mono ?_
 rintro r w' ⟨rfl, hb⟩
 exact ⟨rfl, h.below hb⟩
theorem W4.does3 {w W : World} {most : Int} {N1 N2 N3 N4 : Nat} {T : Nat → Nat → Prop} (h : W4 w W most N1 N2 N3 N4 T) (hN : N3 ≤ 3000) (kind : Int) {k : Kc.Ky} (hk : Kc.okK k) (v : Kc.Vt) (stop : Int) :
  Calls Tryz.prog 10 #[.agg #[.pointer (some ⟨w.heap.size + 10 + 1, 0, none⟩), .pointer (some ⟨w.heap.size + 10 + 1 + 1, 0, none⟩), .pointer (some ⟨w.heap.size + 10 + 1 + 1 + 1, 0, none⟩), .pointer (some ⟨w.heap.size + 10 + 1 + 1 + 1 + 1, 0, none⟩)], .int .i64 kind, Kc.kc k, Kc.vc v, .int .i64 stop] W fun r w' => r = .returned (.bool true) ∧ ∃ T', W4 w w' most N1 N2 (N3 + 1) N4 T' ∧ Ch (T 3) W w' ∧ ∀ i x, T' i x → T i x ∨ W.heap.size ≤ x := by
 obtain ⟨h0, h1, h2, h3, h4⟩ := h
 refine (h3.does hN (Jc.srm_le most) kind hk v stop).mono ?_
 rintro r w' ⟨rfl, T', q1, q2, q3⟩
 have kp : ∀ i, i ≠ 3 → ∀ j, T i j → w'.heap[j]? = W.heap[j]? := fun i hi j hj => q3.block j (h0.lt i j hj) (fun x => h0.ap i 3 j hi hj x)
 refine ⟨rfl, upd T 3 T', ⟨h0.step 3 q2 (fun j hj => q1.lt hj) q3, by rw [upd_ne _ _ (by decide)]; exact h1.keep (kp 1 (by decide)), by rw [upd_ne _ _ (by decide)]; exact h2.keep (kp 2 (by decide)), by rw [upd_same]; exact q1, by rw [upd_ne _ _ (by decide)]; exact h4.keep (kp 4 (by decide))⟩, q3, fun i x hi => ?_⟩
 by_cases e : i = 3
 ·
  subst e
  rw [upd_same] at hi
  exact q2 x hi
 ·
  rw [upd_ne _ _ e] at hi
  exact .inl hi
theorem W4.all3 {w W : World} {most : Int} {N1 N2 N3 N4 : Nat} {T : Nat → Nat → Prop} (h : W4 w W most N1 N2 N3 N4 T) (hN : N3 ≤ 3000) :
  Calls Tryz.prog 14 #[.agg #[.pointer (some ⟨w.heap.size + 10 + 1, 0, none⟩), .pointer (some ⟨w.heap.size + 10 + 1 + 1, 0, none⟩), .pointer (some ⟨w.heap.size + 10 + 1 + 1 + 1, 0, none⟩), .pointer (some ⟨w.heap.size + 10 + 1 + 1 + 1 + 1, 0, none⟩)], .int .i64 (-1)] W fun r w' => r = .returned (.bool true) ∧ W4 w w' most N1 N2 N3 N4 T := by
 refine (h.2.2.2.1.all hN (-1)).mono ?_
 rintro r w' ⟨rfl, hb⟩
 exact ⟨rfl, h.below hb⟩
theorem W4.does4 {w W : World} {most : Int} {N1 N2 N3 N4 : Nat} {T : Nat → Nat → Prop} (h : W4 w W most N1 N2 N3 N4 T) (hN : N4 ≤ 3000) (kind : Int) {k : Kd.Ky} (hk : Kd.okK k) (v : Kd.Vt) (stop : Int) :
  Calls Tryz.prog 11 #[.agg #[.pointer (some ⟨w.heap.size + 15 + 1, 0, none⟩), .pointer (some ⟨w.heap.size + 15 + 1 + 1, 0, none⟩), .pointer (some ⟨w.heap.size + 15 + 1 + 1 + 1, 0, none⟩), .pointer (some ⟨w.heap.size + 15 + 1 + 1 + 1 + 1, 0, none⟩)], .int .i64 kind, Kd.kc k, Kd.vc v, .int .i64 stop] W fun r w' => r = .returned (.bool true) ∧ ∃ T', W4 w w' most N1 N2 N3 (N4 + 1) T' ∧ Ch (T 4) W w' ∧ ∀ i x, T' i x → T i x ∨ W.heap.size ≤ x := by
 obtain ⟨h0, h1, h2, h3, h4⟩ := h
 refine (h4.does hN (Jd.srm_le most) kind hk v stop).mono ?_
 rintro r w' ⟨rfl, T', q1, q2, q3⟩
 have kp : ∀ i, i ≠ 4 → ∀ j, T i j → w'.heap[j]? = W.heap[j]? := fun i hi j hj => q3.block j (h0.lt i j hj) (fun x => h0.ap i 4 j hi hj x)
 refine ⟨rfl, upd T 4 T', ⟨h0.step 4 q2 (fun j hj => q1.lt hj) q3, by rw [upd_ne _ _ (by decide)]; exact h1.keep (kp 1 (by decide)), by rw [upd_ne _ _ (by decide)]; exact h2.keep (kp 2 (by decide)), by rw [upd_ne _ _ (by decide)]; exact h3.keep (kp 3 (by decide)), by rw [upd_same]; exact q1⟩, q3, fun i x hi => ?_⟩
 by_cases e : i = 4
 ·
  subst e
  rw [upd_same] at hi
  exact q2 x hi
 ·
  rw [upd_ne _ _ e] at hi
  exact .inl hi
theorem W4.all4 {w W : World} {most : Int} {N1 N2 N3 N4 : Nat} {T : Nat → Nat → Prop} (h : W4 w W most N1 N2 N3 N4 T) (hN : N4 ≤ 3000) :
  Calls Tryz.prog 15 #[.agg #[.pointer (some ⟨w.heap.size + 15 + 1, 0, none⟩), .pointer (some ⟨w.heap.size + 15 + 1 + 1, 0, none⟩), .pointer (some ⟨w.heap.size + 15 + 1 + 1 + 1, 0, none⟩), .pointer (some ⟨w.heap.size + 15 + 1 + 1 + 1 + 1, 0, none⟩)], .int .i64 (-1)] W fun r w' => r = .returned (.bool true) ∧ W4 w w' most N1 N2 N3 N4 T := by
 refine (h.2.2.2.2.all hN (-1)).mono ?_
 rintro r w' ⟨rfl, hb⟩
 exact ⟨rfl, h.below hb⟩
theorem kinds_any {a : Option Addr} {c : Nat} (n : Nat) (ops : List Op8) (most : Int) (w : World) (hn : n = ops.length) (hc : n ≤ c) (hS : ScR w a ops) (hok : ∀ p ∈ ops, okOp p) :
  Calls Tryz.prog 3 #[.int .i64 most, .slice a n c] w fun r w' => r = .returned (.bool true) ∧ Below w.heap.size w w' := by
 refine kinds_walk n ops most w hn hc (s := w.heap.size + 20) (c1 := w.heap.size + 1) (m1 := w.heap.size + 1 + 1) (k1 := w.heap.size + 1 + 1 + 1) (v1 := w.heap.size + 1 + 1 + 1 + 1) (c2 := w.heap.size + 5 + 1) (m2 := w.heap.size + 5 + 1 + 1) (k2 := w.heap.size + 5 + 1 + 1 + 1) (v2 := w.heap.size + 5 + 1 + 1 + 1 + 1) (c3 := w.heap.size + 10 + 1) (m3 := w.heap.size + 10 + 1 + 1) (k3 := w.heap.size + 10 + 1 + 1 + 1) (v3 := w.heap.size + 10 + 1 + 1 + 1 + 1) (c4 := w.heap.size + 15 + 1) (m4 := w.heap.size + 15 + 1 + 1) (k4 := w.heap.size + 15 + 1 + 1 + 1) (v4 := w.heap.size + 15 + 1 + 1 + 1 + 1)
  (K1 := fun W => W.heap.size = w.heap.size + 5 ∧ Below w.heap.size w W ∧ ∃ T : Nat → Nat → Prop, (∀ i x, T i x → 1 ≤ i ∧ i ≤ 1 ∧ w.heap.size + 5 * i ≤ x + 5 ∧ x < w.heap.size + 5 * i) ∧ Ja.PT W (w.heap.size + 1) (w.heap.size + 1 + 1) (w.heap.size + 1 + 1 + 1) (w.heap.size + 1 + 1 + 1 + 1) (Ka.rm most) 0 (T 1))
  (K2 := fun W => W.heap.size = w.heap.size + 10 ∧ Below w.heap.size w W ∧ ∃ T : Nat → Nat → Prop, (∀ i x, T i x → 1 ≤ i ∧ i ≤ 2 ∧ w.heap.size + 5 * i ≤ x + 5 ∧ x < w.heap.size + 5 * i) ∧ Ja.PT W (w.heap.size + 1) (w.heap.size + 1 + 1) (w.heap.size + 1 + 1 + 1) (w.heap.size + 1 + 1 + 1 + 1) (Ka.rm most) 0 (T 1) ∧ Jb.PT W (w.heap.size + 5 + 1) (w.heap.size + 5 + 1 + 1) (w.heap.size + 5 + 1 + 1 + 1) (w.heap.size + 5 + 1 + 1 + 1 + 1) (Kb.rm most) 0 (T 2))
  (K3 := fun W => W.heap.size = w.heap.size + 15 ∧ Below w.heap.size w W ∧ ∃ T : Nat → Nat → Prop, (∀ i x, T i x → 1 ≤ i ∧ i ≤ 3 ∧ w.heap.size + 5 * i ≤ x + 5 ∧ x < w.heap.size + 5 * i) ∧ Ja.PT W (w.heap.size + 1) (w.heap.size + 1 + 1) (w.heap.size + 1 + 1 + 1) (w.heap.size + 1 + 1 + 1 + 1) (Ka.rm most) 0 (T 1) ∧ Jb.PT W (w.heap.size + 5 + 1) (w.heap.size + 5 + 1 + 1) (w.heap.size + 5 + 1 + 1 + 1) (w.heap.size + 5 + 1 + 1 + 1 + 1) (Kb.rm most) 0 (T 2) ∧ Jc.PT W (w.heap.size + 10 + 1) (w.heap.size + 10 + 1 + 1) (w.heap.size + 10 + 1 + 1 + 1) (w.heap.size + 10 + 1 + 1 + 1 + 1) (Kc.rm most) 0 (T 3))
  (K4 := fun W => W.heap.size = w.heap.size + 20 ∧ Below w.heap.size w W ∧ ∃ T : Nat → Nat → Prop, (∀ i x, T i x → 1 ≤ i ∧ i ≤ 4 ∧ w.heap.size + 5 * i ≤ x + 5 ∧ x < w.heap.size + 5 * i) ∧ Ja.PT W (w.heap.size + 1) (w.heap.size + 1 + 1) (w.heap.size + 1 + 1 + 1) (w.heap.size + 1 + 1 + 1 + 1) (Ka.rm most) 0 (T 1) ∧ Jb.PT W (w.heap.size + 5 + 1) (w.heap.size + 5 + 1 + 1) (w.heap.size + 5 + 1 + 1 + 1) (w.heap.size + 5 + 1 + 1 + 1 + 1) (Kb.rm most) 0 (T 2) ∧ Jc.PT W (w.heap.size + 10 + 1) (w.heap.size + 10 + 1 + 1) (w.heap.size + 10 + 1 + 1 + 1) (w.heap.size + 10 + 1 + 1 + 1 + 1) (Kc.rm most) 0 (T 3) ∧ Jd.PT W (w.heap.size + 15 + 1) (w.heap.size + 15 + 1 + 1) (w.heap.size + 15 + 1 + 1 + 1) (w.heap.size + 15 + 1 + 1 + 1 + 1) (Kd.rm most) 0 (T 4))
  (F1 := fun W => ∃ T, W4 w W most n n n n T ∧ n ≤ 200) (F2 := fun W => ∃ T, W4 w W most n n n n T ∧ n ≤ 200) (F3 := fun W => ∃ T, W4 w W most n n n n T ∧ n ≤ 200)
  (fun i W => ∃ T, W4 w W most i i i i T ∧ n ≤ 200)
  (fun i bx op W => (∃ T, W4 w W most (i + 1) i i i T ∧ ∀ q x, T q x → x ≠ bx) ∧ W.heap[bx]? = some (.cells #[.int .i64 op.kind, .bool op.second, .string op.k.1, .int .i64 op.k.2, .int .i64 op.v, .int .i64 op.stop] 50 (0, 0)) ∧ w.heap.size + 20 + 4 ≤ bx ∧ i < n ∧ n ≤ 200 ∧ ops[i]? = some op)
  (fun i bx op W => (∃ T, W4 w W most (i + 1) (i + 1) i i T ∧ ∀ q x, T q x → x ≠ bx) ∧ W.heap[bx]? = some (.cells #[.int .i64 op.kind, .bool op.second, .string op.k.1, .int .i64 op.k.2, .int .i64 op.v, .int .i64 op.stop] 50 (0, 0)) ∧ w.heap.size + 20 + 4 ≤ bx ∧ i < n ∧ n ≤ 200 ∧ ops[i]? = some op)
  (fun i bx op W => (∃ T, W4 w W most (i + 1) (i + 1) (i + 1) i T ∧ ∀ q x, T q x → x ≠ bx) ∧ W.heap[bx]? = some (.cells #[.int .i64 op.kind, .bool op.second, .string op.k.1, .int .i64 op.k.2, .int .i64 op.v, .int .i64 op.stop] 50 (0, 0)) ∧ w.heap.size + 20 + 4 ≤ bx ∧ i < n ∧ n ≤ 200 ∧ ops[i]? = some op)
  _ ⟨rfl, Below.refl _ _⟩ ?_ ?_ ?_ ?_ ?_ ?_ ?_ ?_ ?_ ?_ ?_ ?_ ?_ ?_ ?_
 ·
  refine (Ja.begin_pt w most).mono ?_
  rintro r w' ⟨rfl, q1, q2, T', q3, q4⟩
  refine ⟨rfl, by omega, q2, upd (fun _ _ => False) 1 T', fun i x hi => ?_, by rw [upd_same]; exact q3⟩
  by_cases e : i = 1
  ·
   subst e
   rw [upd_same] at hi
   have := q3.lt hi
   have := q4 x hi
   exact ⟨by omega, by omega, by omega, by omega⟩
  ·
   rw [upd_ne _ _ e] at hi
   exact hi.elim
 ·
  rintro W ⟨hz, hb, T, hr, h1⟩
  have q0 := Jb.begin_pt W most
  rw [hz] at q0
  refine q0.mono ?_
  rintro r w' ⟨rfl, q1, q2, T', q3, q4⟩
  refine ⟨rfl, by omega, hb.trans (q2.mono (by omega)), upd T 2 T', fun i x hi => ?_, by rw [upd_ne _ _ (by decide)]; exact h1.keep (fun j hj => q2.block j (by have := h1.lt hj; omega)), by rw [upd_same]; exact q3⟩
  by_cases e : i = 2
  ·
   subst e
   rw [upd_same] at hi
   have := q3.lt hi
   have := q4 x hi
   exact ⟨by omega, by omega, by omega, by omega⟩
  ·
   rw [upd_ne _ _ e] at hi
   have := hr i x hi
   exact ⟨by omega, by omega, by omega, by omega⟩
 ·
  rintro W ⟨hz, hb, T, hr, h1, h2⟩
  have q0 := Jc.begin_pt W most
  rw [hz] at q0
  refine q0.mono ?_
  rintro r w' ⟨rfl, q1, q2, T', q3, q4⟩
  refine ⟨rfl, by omega, hb.trans (q2.mono (by omega)), upd T 3 T', fun i x hi => ?_, by rw [upd_ne _ _ (by decide)]; exact h1.keep (fun j hj => q2.block j (by have := h1.lt hj; omega)), by rw [upd_ne _ _ (by decide)]; exact h2.keep (fun j hj => q2.block j (by have := h2.lt hj; omega)), by rw [upd_same]; exact q3⟩
  by_cases e : i = 3
  ·
   subst e
   rw [upd_same] at hi
   have := q3.lt hi
   have := q4 x hi
   exact ⟨by omega, by omega, by omega, by omega⟩
  ·
   rw [upd_ne _ _ e] at hi
   have := hr i x hi
   exact ⟨by omega, by omega, by omega, by omega⟩
 ·
  rintro W ⟨hz, hb, T, hr, h1, h2, h3⟩
  have q0 := Jd.begin_pt W most
  rw [hz] at q0
  refine q0.mono ?_
  rintro r w' ⟨rfl, q1, q2, T', q3, q4⟩
  refine ⟨rfl, by omega, by omega, hb.trans (q2.mono (by omega)), upd T 4 T', fun i x hi => ?_, by rw [upd_ne _ _ (by decide)]; exact h1.keep (fun j hj => q2.block j (by have := h1.lt hj; omega)), by rw [upd_ne _ _ (by decide)]; exact h2.keep (fun j hj => q2.block j (by have := h2.lt hj; omega)), by rw [upd_ne _ _ (by decide)]; exact h3.keep (fun j hj => q2.block j (by have := h3.lt hj; omega)), by rw [upd_same]; exact q3⟩
  by_cases e : i = 4
  ·
   subst e
   rw [upd_same] at hi
   have := q3.lt hi
   have := q4 x hi
   exact ⟨by omega, by omega, by omega, by omega⟩
  ·
   rw [upd_ne _ _ e] at hi
   have := hr i x hi
   exact ⟨by omega, by omega, by omega, by omega⟩
 ·
  rintro W hlen ⟨hz, hb, T, hr, h1, h2, h3, h4⟩
  have hb4 : Below W.heap.size W ((((W.alloc (.cells #[.pointer (some ⟨w.heap.size + 1, 0, none⟩), .pointer (some ⟨w.heap.size + 1 + 1, 0, none⟩), .pointer (some ⟨w.heap.size + 1 + 1 + 1, 0, none⟩), .pointer (some ⟨w.heap.size + 1 + 1 + 1 + 1, 0, none⟩)] 28)).alloc (.cells #[.pointer (some ⟨w.heap.size + 5 + 1, 0, none⟩), .pointer (some ⟨w.heap.size + 5 + 1 + 1, 0, none⟩), .pointer (some ⟨w.heap.size + 5 + 1 + 1 + 1, 0, none⟩), .pointer (some ⟨w.heap.size + 5 + 1 + 1 + 1 + 1, 0, none⟩)] 35)).alloc (.cells #[.pointer (some ⟨w.heap.size + 10 + 1, 0, none⟩), .pointer (some ⟨w.heap.size + 10 + 1 + 1, 0, none⟩), .pointer (some ⟨w.heap.size + 10 + 1 + 1 + 1, 0, none⟩), .pointer (some ⟨w.heap.size + 10 + 1 + 1 + 1 + 1, 0, none⟩)] 41)).alloc (.cells #[.pointer (some ⟨w.heap.size + 15 + 1, 0, none⟩), .pointer (some ⟨w.heap.size + 15 + 1 + 1, 0, none⟩), .pointer (some ⟨w.heap.size + 15 + 1 + 1 + 1, 0, none⟩), .pointer (some ⟨w.heap.size + 15 + 1 + 1 + 1 + 1, 0, none⟩)] 47)) := ((((Below.refl _ _).alloc (Nat.le_refl _) _).alloc (by simp) _).alloc (by simp <;> omega) _).alloc (by simp <;> omega) _
  have old : ∀ (A : World) (o : Obj) (j : Nat), j < A.heap.size → (A.alloc o).heap[j]? = A.heap[j]? := fun A o j hj => (World.grownBy_alloc A o none).block j hj (by simp)
  have new : ∀ (A : World) (o : Obj) (j : Nat), j = A.heap.size → (A.alloc o).heap[j]? = some o := fun A o j hj => by
   rw [hj]
   exact (MapKept.heap_alloc A o).1
  refine ⟨T, ⟨⟨fun i j x hij hi hj => ?_, fun i x hi => ?_, ?_, ?_, ?_, ?_, fun i x hi => ?_, hb.trans (hb4.mono (by omega))⟩, h1.keep (fun j hj => hb4.block j (h1.lt hj)), h2.keep (fun j hj => hb4.block j (h2.lt hj)), h3.keep (fun j hj => hb4.block j (h3.lt hj)), h4.keep (fun j hj => hb4.block j (h4.lt hj))⟩, hlen⟩
  ·
   have := hr i x hi
   have := hr j x hj
   omega
  ·
   have := hr i x hi
   have := hb4.size
   omega
  ·
   rw [old _ _ _ (by simp; omega), old _ _ _ (by simp; omega), old _ _ _ (by simp; omega)]
   exact new _ _ _ (by omega)
  ·
   rw [old _ _ _ (by simp; omega), old _ _ _ (by simp; omega)]
   exact new _ _ _ (by simp; omega)
  ·
   rw [old _ _ _ (by simp; omega)]
   exact new _ _ _ (by simp; omega)
  ·
   exact new _ _ _ (by simp; omega)
  ·
   have := hr i x hi
   exact ⟨.inl (by omega), by omega⟩
 ·
  rintro i W ⟨T, h, _⟩
  exact h.1.bx
 ·
  rintro i W op ⟨T, h, _⟩ hop
  obtain ⟨g, o, z1, z2⟩ := hS (by intro e; rw [e] at hop; simp at hop)
  exact ⟨g, o, z1, fun q u hu => cell_low h.1.be (z2 i op hop q u hu)⟩
 ·
  intro i W op hst hop
  obtain ⟨T, h, hlen⟩ := hst
  have hi : i < ops.length := (List.getElem?_eq_some_iff.1 hop).1
  have hokk := (hok _ (List.mem_of_getElem? hop)).1
  obtain ⟨W', hW'⟩ : ∃ W', W' = W.alloc (.cells #[.int .i64 op.kind, .bool op.second, .string op.k.1, .int .i64 op.k.2, .int .i64 op.v, .int .i64 op.stop] 50) := ⟨_, rfl⟩
  rw [← hW']
  have hbW : Below W.heap.size W W' := by rw [hW']; exact (Below.refl _ _).alloc (Nat.le_refl _) _
  have hnew : W'.heap[W.heap.size]? = some (.cells #[.int .i64 op.kind, .bool op.second, .string op.k.1, .int .i64 op.k.2, .int .i64 op.v, .int .i64 op.stop] 50 (0, 0)) := by rw [hW']; exact (MapKept.heap_alloc _ _).1
  have h' := h.below hbW
  have hbx : w.heap.size + 20 + 4 ≤ W.heap.size := by have := (Array.getElem?_eq_some_iff.1 h.1.b4).1; omega
  refine (h'.does1 (by omega) op.kind hokk op.k.1 op.stop).mono ?_
  rintro r w' ⟨rfl, T', q1, q2, q3⟩
  have hk : w'.heap[W.heap.size]? = some (.cells #[.int .i64 op.kind, .bool op.second, .string op.k.1, .int .i64 op.k.2, .int .i64 op.v, .int .i64 op.stop] 50 (0, 0)) := (q2.block _ (Array.getElem?_eq_some_iff.1 hnew).1 (fun x => by have := h.1.lt 1 _ x; omega)).trans hnew
  refine ⟨rfl, q1.1.bx, ⟨box_cells hk 0 _ rfl, box_cells hk 1 _ rfl, box_cells hk 2 _ rfl, box_cells hk 3 _ rfl, box_cells hk 4 _ rfl, box_cells hk 5 _ rfl⟩, ⟨T', q1, fun q x hx e => ?_⟩, hk, hbx, by omega, hlen, hop⟩
  have hWs : W'.heap.size = W.heap.size + 1 := by rw [hW']; simp
  rcases q3 q x hx with z | z
  ·
   have := h.1.lt q x z
   omega
  ·
   omega
 ·
  rintro i bx op W ⟨⟨T, h, hnb⟩, hbo, hbx, hi, hlen, hop⟩
  have hokk := (hok _ (List.mem_of_getElem? hop)).1
  refine (h.does2 (by omega) op.kind (k := op.k.2) hokk.2 (⟨#[]⟩, op.v) op.stop).mono ?_
  rintro r w' ⟨rfl, T', q1, q2, q3⟩
  have hl := (Array.getElem?_eq_some_iff.1 hbo).1
  have hk : w'.heap[bx]? = some (.cells #[.int .i64 op.kind, .bool op.second, .string op.k.1, .int .i64 op.k.2, .int .i64 op.v, .int .i64 op.stop] 50 (0, 0)) := (q2.block _ hl (fun x => hnb 2 _ x rfl)).trans hbo
  refine ⟨rfl, q1.1.bx, ⟨box_cells hk 0 _ rfl, box_cells hk 1 _ rfl, box_cells hk 2 _ rfl, box_cells hk 3 _ rfl, box_cells hk 4 _ rfl, box_cells hk 5 _ rfl⟩, ⟨T', q1, fun q x hx e => ?_⟩, hk, hbx, hi, hlen, hop⟩
  rcases q3 q x hx with z | z
  ·
   exact hnb q x z e
  ·
   omega
 ·
  rintro i bx op W ⟨⟨T, h, hnb⟩, hbo, hbx, hi, hlen, hop⟩
  have hokk := (hok _ (List.mem_of_getElem? hop)).1
  refine (h.does3 (by omega) op.kind (k := (IntKind.u8.wrap op.k.2, IntKind.u8.wrap op.k.1.size)) ⟨wf_wrap _ _, wf_wrap _ _⟩ (decide (0 < op.v)) op.stop).mono ?_
  rintro r w' ⟨rfl, T', q1, q2, q3⟩
  have hl := (Array.getElem?_eq_some_iff.1 hbo).1
  have hk : w'.heap[bx]? = some (.cells #[.int .i64 op.kind, .bool op.second, .string op.k.1, .int .i64 op.k.2, .int .i64 op.v, .int .i64 op.stop] 50 (0, 0)) := (q2.block _ hl (fun x => hnb 3 _ x rfl)).trans hbo
  refine ⟨rfl, q1.1.bx, ⟨box_cells hk 0 _ rfl, box_cells hk 1 _ rfl, box_cells hk 2 _ rfl, box_cells hk 3 _ rfl, box_cells hk 4 _ rfl, box_cells hk 5 _ rfl⟩, ⟨T', q1, fun q x hx e => ?_⟩, hk, hbx, hi, hlen, hop⟩
  rcases q3 q x hx with z | z
  ·
   exact hnb q x z e
  ·
   omega
 ·
  rintro i bx op W ⟨⟨T, h, hnb⟩, hbo, hbx, hi, hlen, hop⟩
  refine (h.does4 (by omega) op.kind (k := (decide (3 < op.k.2))) trivial (IntKind.u8.wrap op.v) op.stop).mono ?_
  rintro r w' ⟨rfl, T', q1, q2, q3⟩
  exact ⟨rfl, T', q1, hlen⟩
 ·
  rintro W ⟨T, h, hlen⟩
  refine (h.all1 (by omega)).mono ?_
  rintro r w' ⟨rfl, h'⟩
  exact ⟨rfl, h'.1.bx, T, h', hlen⟩
 ·
  rintro W ⟨T, h, hlen⟩
  refine (h.all2 (by omega)).mono ?_
  rintro r w' ⟨rfl, h'⟩
  exact ⟨rfl, h'.1.bx, T, h', hlen⟩
 ·
  rintro W ⟨T, h, hlen⟩
  refine (h.all3 (by omega)).mono ?_
  rintro r w' ⟨rfl, h'⟩
  exact ⟨rfl, h'.1.bx, T, h', hlen⟩
 ·
  rintro W ⟨T, h, hlen⟩
  refine (h.all4 (by omega)).mono ?_
  rintro r w' ⟨rfl, h'⟩
  exact ⟨rfl, rfl, h'.1.be⟩
end Go.Proofs.YtdhinpmjbcohaaaGreat
