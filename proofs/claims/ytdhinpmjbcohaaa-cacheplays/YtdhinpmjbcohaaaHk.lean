import Derived.Test.YtdhinpmjbcohaaaHj
namespace Go.Proofs.Ytdhinpmjbcohaaa
open Go Go.RowKit Go.Shelf
set_option linter.unusedSimpArgs false
set_option linter.unusedVariables false
open Rf (RS AftR)

theorem Rel.mono {l : List (Si.Ky × Si.Vt)} {M : List (Int × Int)} {C : List Si.Ky} {D : List Si.Vt} {N : Nat} (h : Rel l M C D N) : Rel l M C D (N + 1) :=
  ⟨h.m, h.hC, h.hD, h.iC, h.iD, by have := h.nl; omega, by have := h.nC; omega, by have := h.nD; omega⟩
/-- A pair that holds the same on both sides; T: its blocks. -/
def PT (W : World) (cb mb kb vb room N : Nat) (T : Nat → Prop) : Prop := ∃ l M C D F G1 G2 G3, PR W cb mb kb vb room l M C D F G1 G2 G3 ∧ Rel l M C D N ∧ ∀ j, T j ↔ F j ∨ G1 j ∨ G2 j ∨ G3 j
theorem PT.lt {W : World} {cb mb kb vb room N : Nat} {T : Nat → Prop} (h : PT W cb mb kb vb room N T) {j : Nat} (hj : T j) : j < W.heap.size := by
  obtain ⟨l, M, C, D, F, G1, G2, G3, h1, h2, h3⟩ := h
  exact h1.lt ((h3 j).1 hj)
theorem PT.keep {W W' : World} {cb mb kb vb room N : Nat} {T : Nat → Prop} (h : PT W cb mb kb vb room N T) (hk : ∀ j, T j → W'.heap[j]? = W.heap[j]?) : PT W' cb mb kb vb room N T := by
  obtain ⟨l, M, C, D, F, G1, G2, G3, h1, h2, h3⟩ := h
  exact ⟨l, M, C, D, F, G1, G2, G3, h1.heap (fun j hj => hk j ((h3 j).2 hj)), h2, h3⟩
theorem PT.mono {W : World} {cb mb kb vb room N : Nat} {T : Nat → Prop} (h : PT W cb mb kb vb room N T) : PT W cb mb kb vb room (N + 1) T := by
  obtain ⟨l, M, C, D, F, G1, G2, G3, h1, h2, h3⟩ := h
  exact ⟨l, M, C, D, F, G1, G2, G3, h1, h2.mono, h3⟩
theorem PT.does {W : World} {cb mb kb vb room N : Nat} {T : Nat → Prop} (h : PT W cb mb kb vb room N T) (hN : N ≤ 1000) (hroom : room ≤ 1048576) (kind : Int) {k : Si.Ky} (hk : Si.okK k) (v : Si.Vt) (stop : Int) :
    Calls Try.prog 8 #[.agg #[pt cb, pt mb, pt kb, pt vb], .int .i64 kind, Si.kc k, Si.vc v, .int .i64 stop] W fun r w' => r = .returned (.bool true) ∧ ∃ T', PT w' cb mb kb vb room (N + 1) T' ∧ (∀ j, T' j → T j ∨ W.heap.size ≤ j) ∧ Ch T W w' := by
  obtain ⟨l, M, C, D, F, G1, G2, G3, h1, h2, h3⟩ := h
  refine (does_any kind k v stop h1 h2 hN hroom hk).mono ?_
  rintro r w' ⟨rfl, l', M', C', D', ⟨F', G1', G2', G3', q1, q2, q3⟩, q4⟩
  refine ⟨rfl, _, ⟨l', M', C', D', F', G1', G2', G3', q1, q4, fun j => Iff.rfl⟩, fun j hj => ?_, q3.mono (fun j _ q => (h3 j).2 q)⟩
  rcases q2 j hj with q | q
  · exact .inl ((h3 j).2 q)
  · exact .inr q
theorem PT.all {W : World} {cb mb kb vb room N : Nat} {T : Nat → Prop} (h : PT W cb mb kb vb room N T) (hN : N ≤ 1000) (stop : Int) :
    Calls Try.prog 9 #[.agg #[pt cb, pt mb, pt kb, pt vb], .int .i64 stop] W fun r w' => r = .returned (.bool true) ∧ Below W.heap.size W w' := by
  obtain ⟨l, M, C, D, F, G1, G2, G3, h1, h2, h3⟩ := h
  obtain ⟨mv, L, n, o, ky, vl, hca, e, hF, hr⟩ := h1.c
  have e2 : l.map (nu C D) = L.map (num ky vl C D) := by
    rw [e, List.map_map]
    rfl
  have hm := h1.m
  rw [h2.m, e2] at hm
  have hl := h2.nl
  have b1 := h2.nC
  have b2 := h2.nD
  exact all_any hca (by rw [e] at hl; simp at hl; omega) h1.k h1.v (fun b hb => h2.iC _ (by rw [e]; exact List.mem_map.2 ⟨b, hb, rfl⟩)) (fun b hb => h2.iD _ (by rw [e]; exact List.mem_map.2 ⟨b, hb, rfl⟩)) (by omega) (by omega) hm stop
theorem begin_pt (w : World) (most : Int) : Calls Try.prog 7 #[.int .i64 most] w fun r w' => r = .returned (.agg #[pt (w.heap.size + 1), pt (w.heap.size + 1 + 1), pt (w.heap.size + 1 + 1 + 1), pt (w.heap.size + 1 + 1 + 1 + 1)]) ∧ w'.heap.size = w.heap.size + 5 ∧ Below w.heap.size w w' ∧
    ∃ T, PT w' (w.heap.size + 1) (w.heap.size + 1 + 1) (w.heap.size + 1 + 1 + 1) (w.heap.size + 1 + 1 + 1 + 1) (Si.rm most) 0 T ∧ ∀ j, T j → w.heap.size ≤ j := by
  refine (begin_any w most).mono ?_
  rintro r w' ⟨rfl, h1, h2, F, G1, G2, G3, h3, h4⟩
  exact ⟨rfl, h1, h2, _, ⟨[], [], [], [], F, G1, G2, G3, h3, ⟨rfl, .inl rfl, .inl rfl, by simp, by simp, by simp, by simp, by simp⟩, fun j => Iff.rfl⟩, h4⟩
/-- The two pairs of CachePlays, in their boxes. -/
structure TP (w : World) (s i r1 c1 m1 k1 v1 r2 c2 m2 k2 v2 : Nat) (T1 T2 : Nat → Prop) (W : World) : Prop where
  p1 : PT W c1 m1 k1 v1 r1 i T1
  p2 : PT W c2 m2 k2 v2 r2 i T2
  ap : ∀ j, T1 j → ¬ T2 j
  b1 : W.heap[s]? = some (.cells #[pt c1, pt m1, pt k1, pt v1] 28 (0, 0))
  b2 : W.heap[s + 1]? = some (.cells #[pt c2, pt m2, pt k2, pt v2] 28 (0, 0))
  n1 : ∀ j, T1 j ∨ T2 j → j ≠ s ∧ j ≠ s + 1 ∧ w.heap.size ≤ j
  sl : w.heap.size ≤ s
  be : Below w.heap.size w W
theorem TP.below {w W W' : World} {s i r1 c1 m1 k1 v1 r2 c2 m2 k2 v2 : Nat} {T1 T2 : Nat → Prop} (h : TP w s i r1 c1 m1 k1 v1 r2 c2 m2 k2 v2 T1 T2 W) (hb : Below W.heap.size W W') : TP w s i r1 c1 m1 k1 v1 r2 c2 m2 k2 v2 T1 T2 W' :=
  ⟨h.p1.keep (fun j hj => hb.block j (h.p1.lt hj)), h.p2.keep (fun j hj => hb.block j (h.p2.lt hj)), h.ap, (hb.block _ (Array.getElem?_eq_some_iff.1 h.b1).1).trans h.b1, (hb.block _ (Array.getElem?_eq_some_iff.1 h.b2).1).trans h.b2, h.n1, h.sl, h.be.trans (hb.mono h.be.size)⟩
theorem TP.first {w W W' : World} {s i r1 c1 m1 k1 v1 r2 c2 m2 k2 v2 : Nat} {T1 T2 T' : Nat → Prop} (h : TP w s i r1 c1 m1 k1 v1 r2 c2 m2 k2 v2 T1 T2 W) (hp : PT W' c1 m1 k1 v1 r1 (i + 1) T') (hn : ∀ j, T' j → T1 j ∨ W.heap.size ≤ j) (hc : Ch T1 W W') : TP w s (i + 1) r1 c1 m1 k1 v1 r2 c2 m2 k2 v2 T' T2 W' := by
  have hs1 := (Array.getElem?_eq_some_iff.1 h.b1).1
  have hs2 := (Array.getElem?_eq_some_iff.1 h.b2).1
  have hsz := h.be.size
  refine ⟨hp, h.p2.mono.keep (fun j hj => hc.block j (h.p2.lt hj) (fun q => h.ap j q hj)), fun j hj q => ?_, (hc.block _ hs1 (fun q => (h.n1 s (.inl q)).1 rfl)).trans h.b1, (hc.block _ hs2 (fun q => (h.n1 _ (.inl q)).2.1 rfl)).trans h.b2, fun j hj => ?_, h.sl, ?_⟩
  · rcases hn j hj with x | x
    · exact h.ap j x q
    · have := h.p2.lt q
      omega
  · rcases hj with x | x
    · rcases hn j x with x | x
      · exact h.n1 j (.inl x)
      · exact ⟨by omega, by omega, by omega⟩
    · exact h.n1 j (.inr x)
  · exact ⟨hc.os.trans h.be.os, hc.tape.trans h.be.tape, hc.output.trans h.be.output, Nat.le_trans hsz hc.size, fun j hj => (hc.block j (by omega) (fun q => by have := (h.n1 j (.inl q)).2.2; omega)).trans (h.be.block j hj)⟩
theorem TP.second {w W W' : World} {s i r1 c1 m1 k1 v1 r2 c2 m2 k2 v2 : Nat} {T1 T2 T' : Nat → Prop} (h : TP w s i r1 c1 m1 k1 v1 r2 c2 m2 k2 v2 T1 T2 W) (hp : PT W' c2 m2 k2 v2 r2 (i + 1) T') (hn : ∀ j, T' j → T2 j ∨ W.heap.size ≤ j) (hc : Ch T2 W W') : TP w s (i + 1) r1 c1 m1 k1 v1 r2 c2 m2 k2 v2 T1 T' W' := by
  have hs1 := (Array.getElem?_eq_some_iff.1 h.b1).1
  have hs2 := (Array.getElem?_eq_some_iff.1 h.b2).1
  have hsz := h.be.size
  refine ⟨h.p1.mono.keep (fun j hj => hc.block j (h.p1.lt hj) (fun q => h.ap j hj q)), hp, fun j hj q => ?_, (hc.block _ hs1 (fun q => (h.n1 s (.inr q)).1 rfl)).trans h.b1, (hc.block _ hs2 (fun q => (h.n1 _ (.inr q)).2.1 rfl)).trans h.b2, fun j hj => ?_, h.sl, ?_⟩
  · rcases hn j q with x | x
    · exact h.ap j hj x
    · have := h.p1.lt hj
      omega
  · rcases hj with x | x
    · exact h.n1 j (.inl x)
    · rcases hn j x with x | x
      · exact h.n1 j (.inr x)
      · exact ⟨by omega, by omega, by omega⟩
  · exact ⟨hc.os.trans h.be.os, hc.tape.trans h.be.tape, hc.output.trans h.be.output, Nat.le_trans hsz hc.size, fun j hj => (hc.block j (by omega) (fun q => by have := (h.n1 j (.inr q)).2.2; omega)).trans (h.be.block j hj)⟩
theorem TP.bq {w W : World} {s i r1 c1 m1 k1 v1 r2 c2 m2 k2 v2 : Nat} {T1 T2 : Nat → Prop} (h : TP w s i r1 c1 m1 k1 v1 r2 c2 m2 k2 v2 T1 T2 W) : BQ W c1 m1 k1 v1 s ∧ BQ W c2 m2 k2 v2 (s + 1) :=
  ⟨⟨box_cells h.b1 0 _ rfl, box_cells h.b1 1 _ rfl, box_cells h.b1 2 _ rfl, box_cells h.b1 3 _ rfl⟩, ⟨box_cells h.b2 0 _ rfl, box_cells h.b2 1 _ rfl, box_cells h.b2 2 _ rfl, box_cells h.b2 3 _ rfl⟩⟩
theorem srm_le (most : Int) : Si.rm most ≤ 1048576 := by
  have := Si.rm_eq most
  omega
theorem two_allocs (W : World) (o p : Obj) : Below W.heap.size W ((W.alloc o).alloc p) := ((Below.refl _ _).alloc (Nat.le_refl _) _).alloc (by simp) _
set_option maxHeartbeats 1000000 in
/-- CACHEPLAYS, WHOLE. -/
theorem plays_any {a : Option Addr} {c : Nat} (n : Nat) (ops : List Op8) (one two : Int) (w : World) (hn : n = ops.length) (hc : n ≤ c) (hS : ScR w a ops) (hok : ∀ p ∈ ops, okOp p) :
    Calls Try.prog 3 #[.int .i64 one, .int .i64 two, .slice a n c] w fun r w' => r = .returned (.bool true) ∧ Below w.heap.size w w' := by
  refine plays_walk n ops one two w hn hc (s := w.heap.size + 10) (c1 := w.heap.size + 1) (m1 := w.heap.size + 1 + 1) (k1 := w.heap.size + 1 + 1 + 1) (v1 := w.heap.size + 1 + 1 + 1 + 1) (c2 := w.heap.size + 5 + 1) (m2 := w.heap.size + 5 + 1 + 1) (k2 := w.heap.size + 5 + 1 + 1 + 1) (v2 := w.heap.size + 5 + 1 + 1 + 1 + 1)
    (K1 := fun W => W.heap.size = w.heap.size + 5 ∧ Below w.heap.size w W ∧ ∃ T, PT W (w.heap.size + 1) (w.heap.size + 1 + 1) (w.heap.size + 1 + 1 + 1) (w.heap.size + 1 + 1 + 1 + 1) (Si.rm one) 0 T ∧ ∀ j, T j → w.heap.size ≤ j)
    (K2 := fun W => W.heap.size = w.heap.size + 10 ∧ Below w.heap.size w W ∧ ∃ T1 T2, PT W (w.heap.size + 1) (w.heap.size + 1 + 1) (w.heap.size + 1 + 1 + 1) (w.heap.size + 1 + 1 + 1 + 1) (Si.rm one) 0 T1 ∧ PT W (w.heap.size + 5 + 1) (w.heap.size + 5 + 1 + 1) (w.heap.size + 5 + 1 + 1 + 1) (w.heap.size + 5 + 1 + 1 + 1 + 1) (Si.rm two) 0 T2 ∧ (∀ j, T1 j → w.heap.size ≤ j ∧ j < w.heap.size + 5) ∧ ∀ j, T2 j → w.heap.size + 5 ≤ j)
    (K3 := fun W => ∃ T1 T2, TP w (w.heap.size + 10) n (Si.rm one) (w.heap.size + 1) (w.heap.size + 1 + 1) (w.heap.size + 1 + 1 + 1) (w.heap.size + 1 + 1 + 1 + 1) (Si.rm two) (w.heap.size + 5 + 1) (w.heap.size + 5 + 1 + 1) (w.heap.size + 5 + 1 + 1 + 1) (w.heap.size + 5 + 1 + 1 + 1 + 1) T1 T2 W ∧ n ≤ 600)
    (fun i W => ∃ T1 T2, TP w (w.heap.size + 10) i (Si.rm one) (w.heap.size + 1) (w.heap.size + 1 + 1) (w.heap.size + 1 + 1 + 1) (w.heap.size + 1 + 1 + 1 + 1) (Si.rm two) (w.heap.size + 5 + 1) (w.heap.size + 5 + 1 + 1) (w.heap.size + 5 + 1 + 1 + 1) (w.heap.size + 5 + 1 + 1 + 1 + 1) T1 T2 W ∧ n ≤ 600)
    _ ⟨rfl, Below.refl _ _⟩ ?_ ?_ ?_ ?_ ?_ ?_ ?_ ?_ ?_
  · refine (begin_pt w one).mono ?_
    rintro r w' ⟨rfl, h⟩
    exact ⟨rfl, h⟩
  · rintro W ⟨h1, h2, T, h3, h4⟩
    have q := begin_pt W two
    rw [h1] at q
    refine q.mono ?_
    rintro r w' ⟨rfl, q1, q2, T', q3, q4⟩
    refine ⟨rfl, by omega, by omega, h2.trans (q2.mono (by omega)), T, T', h3.keep (fun j hj => q2.block j (by have := h3.lt hj; omega)), q3, fun j hj => ⟨h4 j hj, by have := h3.lt hj; omega⟩, q4⟩
  · rintro W hlen ⟨h1, h2, T1, T2, p1, p2, l1, l2⟩
    have hb := two_allocs W (.cells #[.pointer (some ⟨w.heap.size + 1, 0, none⟩), .pointer (some ⟨w.heap.size + 1 + 1, 0, none⟩), .pointer (some ⟨w.heap.size + 1 + 1 + 1, 0, none⟩), .pointer (some ⟨w.heap.size + 1 + 1 + 1 + 1, 0, none⟩)] 28) (.cells #[.pointer (some ⟨w.heap.size + 5 + 1, 0, none⟩), .pointer (some ⟨w.heap.size + 5 + 1 + 1, 0, none⟩), .pointer (some ⟨w.heap.size + 5 + 1 + 1 + 1, 0, none⟩), .pointer (some ⟨w.heap.size + 5 + 1 + 1 + 1 + 1, 0, none⟩)] 28)
    refine ⟨T1, T2, ⟨p1.keep (fun j hj => hb.block j (p1.lt hj)), p2.keep (fun j hj => hb.block j (p2.lt hj)), fun j a b => ?_, ?_, ?_, fun j hj => ?_, by omega, h2.trans (hb.mono (by omega))⟩, hlen⟩
    · have := l1 j a
      have := l2 j b
      omega
    · rw [← h1, (World.grownBy_alloc _ _ none).block _ (by simp) (by simp)]
      exact (MapKept.heap_alloc _ _).1
    · have e : w.heap.size + 10 + 1 = (W.alloc (.cells #[.pointer (some ⟨w.heap.size + 1, 0, none⟩), .pointer (some ⟨w.heap.size + 1 + 1, 0, none⟩), .pointer (some ⟨w.heap.size + 1 + 1 + 1, 0, none⟩), .pointer (some ⟨w.heap.size + 1 + 1 + 1 + 1, 0, none⟩)] 28)).heap.size := by simp [h1]
      rw [e]
      exact (MapKept.heap_alloc _ _).1
    · rcases hj with q | q
      · have := l1 j q
        exact ⟨by omega, by omega, by omega⟩
      · have := l2 j q
        have := p2.lt q
        exact ⟨by omega, by omega, by omega⟩
  · rintro i W ⟨T1, T2, h, _⟩
    exact h.bq
  · rintro i W op ⟨T1, T2, h, _⟩ hop
    have hne : ops ≠ [] := by intro e; rw [e] at hop; simp at hop
    obtain ⟨g, o, h1, h2⟩ := hS hne
    exact ⟨g, o, h1, fun q u hu => cell_below h.be (cell_lt' (h2 i op hop q u hu)) (h2 i op hop q u hu)⟩
  · intro i W kind ka ki v st hst hop
    obtain ⟨T1, T2, h, hlen⟩ := hst
    generalize hW' : (World.alloc (World.alloc W _) _) = W'
    have hi : i < ops.length := (List.getElem?_eq_some_iff.1 hop).1
    have hkk := (hok _ (List.mem_of_getElem? hop)).1.1
    have h' := h.below (W' := W') (by rw [← hW']; exact two_allocs W _ _)
    refine (h'.p1.does (by omega) (srm_le one) kind hkk v st).mono ?_
    rintro r w' ⟨rfl, T', q1, q2, q3⟩
    exact ⟨rfl, T', T2, h'.first q1 q2 q3, hlen⟩
  · intro i W kind ka ki v st hst hop
    obtain ⟨T1, T2, h, hlen⟩ := hst
    generalize hW' : (World.alloc (World.alloc W _) _) = W'
    have hi : i < ops.length := (List.getElem?_eq_some_iff.1 hop).1
    have hkk := (hok _ (List.mem_of_getElem? hop)).1.1
    have h' := h.below (W' := W') (by rw [← hW']; exact two_allocs W _ _)
    refine (h'.p2.does (by omega) (srm_le two) kind hkk v st).mono ?_
    rintro r w' ⟨rfl, T', q1, q2, q3⟩
    exact ⟨rfl, T1, T', h'.second q1 q2 q3, hlen⟩
  · rintro W ⟨T1, T2, h, hlen⟩
    refine (h.p1.all (by omega) (-1)).mono ?_
    rintro r w' ⟨rfl, hb⟩
    exact ⟨rfl, (h.below hb).bq.2, T1, T2, h.below hb, hlen⟩
  · rintro W ⟨T1, T2, h, hlen⟩
    refine (h.p2.all (by omega) (-1)).mono ?_
    rintro r w' ⟨rfl, hb⟩
    exact ⟨rfl, rfl, (h.below hb).be⟩
end Go.Proofs.Ytdhinpmjbcohaaa
