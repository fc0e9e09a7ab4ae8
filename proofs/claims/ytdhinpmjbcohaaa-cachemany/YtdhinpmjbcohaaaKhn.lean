import Derived.Test.YtdhinpmjbcohaaaKhm
namespace Go.Proofs.Ytdhinpmjbcohaaa.Kp
open Go Go.RowKit Go.Shelf
set_option linter.unusedSimpArgs false
set_option linter.unusedVariables false
open Rf (own_shape own_keep own_blk)

/-- Some pairs, each in order, in a row; T: the blocks of each. -/
structure MS (w0 W : World) (N : Nat) (ps : List Pc) (T : Nat → Nat → Prop) (lv : Value) : Prop where
  own : W.ownsRow 0 41 4 lv ps.length (e4 ps)
  each : ∀ i p, ps[i]? = some p → ∃ room, room ≤ 1048576 ∧ PT W p.1 p.2.1 p.2.2.1 p.2.2.2 room N (T i)
  ap : ∀ i j x, i < ps.length → j < ps.length → i ≠ j → T i x → ¬ T j x
  row : ∀ i x, i < ps.length → T i x → lv.ownBlock ≠ some x
  new : ∀ i x, i < ps.length → T i x → w0.heap.size ≤ x
  rnew : ∀ x, lv.ownBlock = some x → w0.heap.size ≤ x
  be : Below w0.heap.size w0 W
theorem MS.lt {w0 W : World} {N : Nat} {ps : List Pc} {T : Nat → Nat → Prop} {lv : Value} (h : MS w0 W N ps T lv) {i x : Nat} (hi : i < ps.length) (hx : T i x) : x < W.heap.size := by
  obtain ⟨room, _, hp⟩ := h.each i _ (List.getElem?_eq_getElem hi)
  exact hp.lt hx
theorem MS.rlt {w0 W : World} {N : Nat} {ps : List Pc} {T : Nat → Nat → Prop} {lv : Value} (h : MS w0 W N ps T lv) {x : Nat} (hx : lv.ownBlock = some x) : x < W.heap.size := by
  obtain ⟨c, hc⟩ := own_blk h.own hx
  exact (Array.getElem?_eq_some_iff.1 hc).1
theorem MS.below {w0 W W' : World} {N : Nat} {ps : List Pc} {T : Nat → Nat → Prop} {lv : Value} (h : MS w0 W N ps T lv) (hb : Below W.heap.size W W') : MS w0 W' N ps T lv := by
  refine ⟨own_keep h.own (fun k hk => hb.block k (h.rlt hk)), fun i p hp => ?_, h.ap, h.row, h.new, h.rnew, h.be.trans (hb.mono h.be.size)⟩
  obtain ⟨room, h1, h2⟩ := h.each i p hp
  exact ⟨room, h1, h2.keep (fun j hj => hb.block j (h2.lt hj))⟩
theorem MS.mono {w0 W : World} {N : Nat} {ps : List Pc} {T : Nat → Nat → Prop} {lv : Value} (h : MS w0 W N ps T lv) : MS w0 W (N + 1) ps T lv := by
  refine ⟨h.own, fun i p hp => ?_, h.ap, h.row, h.new, h.rnew, h.be⟩
  obtain ⟨room, h1, h2⟩ := h.each i p hp
  exact ⟨room, h1, h2.mono⟩
theorem MS.does {w0 W W' : World} {N t room : Nat} {ps : List Pc} {T : Nat → Nat → Prop} {T' : Nat → Prop} {lv : Value} {p : Pc} (h : MS w0 W N ps T lv) (hp : ps[t]? = some p) (hr : room ≤ 1048576) (hq : PT W' p.1 p.2.1 p.2.2.1 p.2.2.2 room (N + 1) T') (hn : ∀ j, T' j → T t j ∨ W.heap.size ≤ j) (hc : Ch (T t) W W') : MS w0 W' (N + 1) ps (fun i => if i = t then T' else T i) lv := by
  have htl := (List.getElem?_eq_some_iff.1 hp).1
  have hsz := h.be.size
  refine ⟨own_keep h.own (fun k hk => hc.block k (h.rlt hk) (fun q => h.row t k htl q hk)), fun i q hi => ?_, fun i j x hi hj hne hx hy => ?_, fun i x hi hx q => ?_, fun i x hi hx => ?_, h.rnew, ?_⟩
  · by_cases e : i = t
    · subst e
      rw [hp] at hi
      cases hi
      simp only [if_pos]
      exact ⟨room, hr, hq⟩
    · obtain ⟨rm, h1, h2⟩ := h.each i q hi
      have hil := (List.getElem?_eq_some_iff.1 hi).1
      rw [if_neg e]
      exact ⟨rm, h1, h2.mono.keep (fun j hj => hc.block j (h2.lt hj) (fun x => h.ap i t j hil htl e hj x))⟩
  · by_cases e : i = t
    · rw [if_pos e] at hx
      by_cases e' : j = t
      · omega
      · rw [if_neg e'] at hy
        rcases hn x hx with z | z
        · exact h.ap t j x htl hj (by omega) z hy
        · have := h.lt hj hy
          omega
    · rw [if_neg e] at hx
      by_cases e' : j = t
      · rw [if_pos e'] at hy
        rcases hn x hy with z | z
        · exact h.ap i t x hi htl e hx z
        · have := h.lt hi hx
          omega
      · rw [if_neg e'] at hy
        exact h.ap i j x hi hj hne hx hy
  · by_cases e : i = t
    · rw [if_pos e] at hx
      rcases hn x hx with z | z
      · exact h.row t x htl z q
      · have := h.rlt q
        omega
    · rw [if_neg e] at hx
      exact h.row i x hi hx q
  · by_cases e : i = t
    · rw [if_pos e] at hx
      rcases hn x hx with z | z
      · exact h.new t x htl z
      · omega
    · rw [if_neg e] at hx
      exact h.new i x hi hx
  · exact ⟨hc.os.trans h.be.os, hc.tape.trans h.be.tape, hc.output.trans h.be.output, Nat.le_trans hsz hc.size, fun j hj => (hc.block j (by omega) (fun q => by have := h.new t j htl q; omega)).trans (h.be.block j hj)⟩
/-- One more pair in the row. -/
theorem MS.more {w0 W w2 : World} {N room : Nat} {ps : List Pc} {T : Nat → Nat → Prop} {T' : Nat → Prop} {lv v' : Value} {p : Pc} {b : Nat} (h : MS w0 W N ps T lv) (hr : room ≤ 1048576) (hq : PT W p.1 p.2.1 p.2.2.1 p.2.2.2 room N T') (hT : ∀ j, T' j → w0.heap.size ≤ j) (hA : ∀ i x, i < ps.length → T i x → ¬ T' x) (hR : ∀ x, T' x → lv.ownBlock ≠ some x)
    (ho : w2.ownsRow 0 41 4 v' (ps ++ [p]).length (e4 (ps ++ [p]))) (hc : Ch (fun j => lv.ownBlock = some j) W w2) (hb : v'.ownBlock = lv.ownBlock ∨ v'.ownBlock = some W.heap.size) : MS w0 w2 N (ps ++ [p]) (fun i => if i = ps.length then T' else T i) v' := by
  have hsz := h.be.size
  have hll : (ps ++ [p]).length = ps.length + 1 := by simp
  refine ⟨ho, fun i q hi => ?_, fun i j x hi hj hne hx hy => ?_, fun i x hi hx q => ?_, fun i x hi hx => ?_, fun x q => ?_, ?_⟩
  · by_cases e : i = ps.length
    · subst e
      rw [List.getElem?_append_right (Nat.le_refl _)] at hi
      simp at hi
      subst hi
      simp only [if_pos]
      exact ⟨room, hr, hq.keep (fun j hj => hc.block j (hq.lt hj) (hR j hj))⟩
    · have hil := (List.getElem?_eq_some_iff.1 hi).1
      rw [hll] at hil
      rw [List.getElem?_append_left (by omega)] at hi
      obtain ⟨rm, h1, h2⟩ := h.each i q hi
      rw [if_neg e]
      exact ⟨rm, h1, h2.keep (fun j hj => hc.block j (h2.lt hj) (h.row i j (by omega) hj))⟩
  · rw [hll] at hi hj
    by_cases e : i = ps.length
    · rw [if_pos e] at hx
      rw [if_neg (by omega)] at hy
      exact hA j x (by omega) hy hx
    · rw [if_neg e] at hx
      by_cases e' : j = ps.length
      · rw [if_pos e'] at hy
        exact hA i x (by omega) hx hy
      · rw [if_neg e'] at hy
        exact h.ap i j x (by omega) (by omega) hne hx hy
  · rw [hll] at hi
    by_cases e : i = ps.length
    · rw [if_pos e] at hx
      rcases hb with z | z
      · exact hR x hx (z ▸ q)
      · rw [z] at q
        have := hq.lt hx
        simp at q
        omega
    · rw [if_neg e] at hx
      rcases hb with z | z
      · exact h.row i x (by omega) hx (z ▸ q)
      · rw [z] at q
        have := h.lt (by omega) hx
        simp at q
        omega
  · rw [hll] at hi
    by_cases e : i = ps.length
    · rw [if_pos e] at hx
      exact hT x hx
    · rw [if_neg e] at hx
      exact h.new i x (by omega) hx
  · rcases hb with z | z
    · exact h.rnew x (z ▸ q)
    · rw [z] at q
      simp at q
      omega
  · exact ⟨hc.os.trans h.be.os, hc.tape.trans h.be.tape, hc.output.trans h.be.output, Nat.le_trans hsz hc.size, fun j hj => (hc.block j (by omega) (fun q => by have := h.rnew j q; omega)).trans (h.be.block j hj)⟩
theorem MS.start (w : World) : MS w w 0 [] (fun _ _ => False) (.slice none 0 0) :=
  ⟨World.ownsRow_nil _ _ _ _, fun i p h => by simp at h, fun i j x h => by simp at h, fun i x h => by simp at h, fun i x h => by simp at h, fun x h => by simp [Value.ownBlock] at h, Below.refl _ _⟩
theorem MS.cells {w0 W : World} {N g n c t : Nat} {ps : List Pc} {T : Nat → Nat → Prop} {p : Pc} (h : MS w0 W N ps T (.slice (some ⟨g, 0, none⟩) n c)) (ht : ps[t]? = some p) : W.cell? ⟨g, t * 4, none⟩ = some (.pointer (some ⟨p.1, 0, none⟩)) ∧ W.cell? ⟨g, t * 4 + 1, none⟩ = some (.pointer (some ⟨p.2.1, 0, none⟩)) ∧ W.cell? ⟨g, t * 4 + 2, none⟩ = some (.pointer (some ⟨p.2.2.1, 0, none⟩)) ∧ W.cell? ⟨g, t * 4 + 3, none⟩ = some (.pointer (some ⟨p.2.2.2, 0, none⟩)) := by
  obtain ⟨g', e, _, _, hc⟩ := row_cells h.own ht
  simp at e
  subst e
  exact ⟨hc 0 _ rfl, hc 1 _ rfl, hc 2 _ rfl, hc 3 _ rfl⟩
set_option maxHeartbeats 1000000 in
/-- CACHEMANY, WHOLE. -/
theorem many_any {a : Option Addr} {c : Nat} (n : Nat) (ops : List Op8) (most z : Int) (w : World) (hn : n = ops.length) (hc : n ≤ c) (hS : ScR w a ops) (hok : ∀ p ∈ ops, okOp p) :
    Calls Try.prog 4 #[.int .i64 most, .int .i64 z, .slice a n c] w fun r w' => r = .returned (.bool true) ∧ Below w.heap.size w w' := by
  by_cases hz : 100 < n ∨ z < 2 ∨ 20 < z
  · refine (many_refuse hz).mono ?_
    rintro r w' ⟨rfl, rfl⟩
    exact ⟨rfl, Below.refl _ _⟩
  obtain ⟨k, rfl⟩ : ∃ k : Nat, z = (k : Int) := ⟨z.toNat, by omega⟩
  refine many_walk n k ops most w hn hc (by omega) (by omega) (by omega)
    (fun i la lc W => ∃ ps T, MS w W 0 ps T (.slice la i lc) ∧ ps.length = i)
    (fun N g lc W => ∃ ps T, MS w W N ps T (.slice (some ⟨g, 0, none⟩) k lc) ∧ ps.length = k) _ ?_ ?_ ?_ ?_ ?_ ?_ ?_
  · exact ⟨[], _, MS.start w, rfl⟩
  · rintro i la lc W zz hi ⟨ps, T, h, hl⟩
    refine (begin_pt W zz).mono ?_
    rintro r w1 ⟨rfl, q1, q2, T', q3, q4⟩
    refine ⟨_, _, _, _, rfl, ?_⟩
    generalize hp : ((W.heap.size + 1, W.heap.size + 1 + 1, W.heap.size + 1 + 1 + 1, W.heap.size + 1 + 1 + 1 + 1) : Pc) = p
    have hb1 : Below w1.heap.size w1 ((w1.alloc (.cells (pc4 p).toArray 41)).alloc (.cells (pc4 p).toArray 41)) := ((Below.refl _ _).alloc (Nat.le_refl _) _).alloc (by simp) _
    have hM := (h.below q2).below hb1
    have hnew : ((w1.alloc (.cells (pc4 p).toArray 41)).alloc (.cells (pc4 p).toArray 41)).heap[w1.heap.size + 1]? = some (.cells (pc4 p).toArray 41 (0, 0)) := by
      have e : w1.heap.size + 1 = (w1.alloc (.cells (pc4 p).toArray 41)).heap.size := by simp
      rw [e]
      exact (MapKept.heap_alloc _ _).1
    obtain ⟨v', w2, hr, h2, h3, h4⟩ := app_pair (p := p) hM.own (w1.heap.size + 1) 1 (fun q u hu => box_cells hnew q u (by simpa using hu)) (by omega)
    obtain ⟨va, ca, rfl⟩ := own_shape h2
    have hsz : ((w1.alloc (.cells (pc4 p).toArray 41)).alloc (.cells (pc4 p).toArray 41)).heap.size = w1.heap.size + 2 := by simp
    have hll : (ps ++ [p]).length = i + 1 := by simp [hl]
    rw [hll] at hr
    refine ⟨va, ca, w2, ?_, ps ++ [p], (fun j => if j = ps.length then T' else T j), ?_, hll⟩
    · rw [← hp] at hr
      exact hr
    · have hm := hM.more (p := p) (room := Ki.rm zz) (T' := T') (b := 0) (srm_le zz) (by subst hp; exact q3.keep (fun j hj => hb1.block j (q3.lt hj))) (fun j hj => by have := q4 j hj; have := h.be.size; omega) (fun j x hj hx hy => by have := h.lt hj hx; have := q4 x hy; omega) (fun x hx q => by have := h.rlt q; have := q4 x hx; omega) h2 h3 h4
      rw [hll] at hm
      exact hm
  · rintro la lc W ⟨ps, T, h, hl⟩
    have h0 : ps[0]? = some (ps[0]'(by omega)) := List.getElem?_eq_getElem (by omega)
    obtain ⟨g, rfl, _, e, _⟩ := row_cells h.own h0
    exact ⟨g, rfl, by omega, ps, T, h, hl⟩
  · rintro N g lc W t ⟨ps, T, h, hl⟩ ht hN
    have h0 : ps[t]? = some (ps[t]'(by omega)) := List.getElem?_eq_getElem (by omega)
    generalize ps[t]'(by omega) = p at h0
    obtain ⟨cb, mb, kb, vb⟩ := p
    refine ⟨cb, mb, kb, vb, h.cells h0, fun i op v hop => ?_, ?_⟩
    · have hd := h.below (W' := W.drew) (Below.drew (Below.refl _ _))
      obtain ⟨room, hr, hp⟩ := hd.each t _ h0
      refine (hp.does (by omega) hr op.kind (hok _ (List.mem_of_getElem? hop)).1 v op.stop).mono ?_
      rintro r w' ⟨rfl, T', y1, y2, y3⟩
      have hm := hd.does h0 hr y1 y2 y3
      exact ⟨rfl, hm.cells h0, ps, _, hm, hl⟩
    · obtain ⟨room, hr, hp⟩ := h.each t _ h0
      refine (hp.all (by omega) (-1)).mono ?_
      rintro r w' ⟨rfl, hb⟩
      exact ⟨rfl, ps, T, h.below hb, hl⟩
  · rintro N g lc W ⟨ps, T, h, hl⟩
    exact ⟨ps, T, h.mono, hl⟩
  · intro i p hp
    obtain ⟨g, o, h1, h2⟩ := hS (by intro e; rw [e] at hp; simp at hp)
    refine ⟨g, o, h1, ?_⟩
    rintro N g' lc W ⟨ps, T, h, hl⟩
    have hx := fun q u hu => cell_below h.be (cell_lt' (h2 i p hp q u hu)) (h2 i p hp q u hu)
    exact ⟨hx 0 _ rfl, hx 2 _ rfl, hx 3 _ rfl, hx 4 _ rfl, hx 5 _ rfl⟩
  · rintro N g lc W ⟨ps, T, h, hl⟩
    exact ⟨rfl, h.be⟩
end Go.Proofs.Ytdhinpmjbcohaaa.Kp
