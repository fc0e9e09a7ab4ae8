import Derived.Test.YtbjhblnagmpnfaaDoorPa
namespace Go.Proofs.YtbjhblnagmpnfaaDoor
open Go Go.RowKit Go.Shelf Go.Maps Go.Sort
set_option linter.unusedSimpArgs false
set_option linter.unusedVariables false
/-! ### What an image of a window keeps to, purely -/
structure Fine (p : Pw) : Prop where
  ft : ∀ f ∈ p.fl, f.m.t.size ≤ 1000000
  wt : ∀ m ∈ p.wt, m.t.size ≤ 1000000
theorem Fine.fillL : ∀ (wt : List Mp) (p : Pw), (∀ f ∈ p.fl, f.m.t.size ≤ 1000000) → (∀ m ∈ wt, m.t.size ≤ 1000000) → Fine (pFillL wt p).1
  | [], p, h, _ => ⟨h, by intro m hm; cases hm⟩
  | m :: wt, p, h, hw => by
    simp only [pFillL]
    split
    · refine Fine.fillL wt _ ?_ (fun x hx => hw x (List.mem_cons_of_mem _ hx))
      intro f hf
      simp only [pLaunch, List.mem_append, List.mem_singleton] at hf
      rcases hf with q | rfl
      · exact h f q
      · exact hw m List.mem_cons_self
    · exact ⟨h, hw⟩
theorem Fine.fill {p : Pw} (h : Fine p) : Fine (pFill p).1 := Fine.fillL p.wt p h.ft h.wt
theorem Fine.send {p : Pw} (h : Fine p) (m : Mp) (hm : m.t.size ≤ 1000000) : Fine (pSend p m).1 := by
  unfold pSend
  split
  · split
    · refine ⟨?_, h.wt⟩
      intro f hf
      simp only [pLaunch, List.mem_append, List.mem_singleton] at hf
      rcases hf with q | rfl
      · exact h.ft f q
      · exact hm
    · split
      · refine ⟨h.ft, ?_⟩
        intro x hx
        rcases List.mem_append.1 hx with q | q
        · exact h.wt x q
        · simp only [List.mem_singleton] at q
          subst q
          exact hm
      · exact h
  · exact h
theorem Fine.ack {p : Pw} (h : Fine p) (k id : Int) : Fine (pAck p k id).1 := by
  unfold pAck
  split
  · exact h
  · unfold pAckF
    split
    · exact h
    · split
      · refine ⟨?_, h.wt⟩
        intro f hf
        obtain ⟨g, hg, rfl⟩ := List.mem_map.1 hf
        unfold relP
        split
        · simp [zMp, ByteArray.size]
        · exact h.ft g hg
      · split
        · exact Fine.fill ⟨fun f hf => h.ft f (List.mem_filter.1 hf).1, h.wt⟩
        · exact h
theorem Fine.play {p : Pw} (h : Fine p) (k : Int) (m : Mp) (a n : Int) (hm : m.t.size ≤ 1000000) : Fine (pPlay p k m a n).1 := by
  unfold pPlay
  split
  · exact h.send m hm
  · split
    · exact h.ack a n
    · split
      · exact Fine.fill ⟨h.ft, h.wt⟩
      · split
        · exact ⟨h.ft, h.wt⟩
        · split
          · unfold pReserve
            split
            · exact h
            · exact ⟨h.ft, h.wt⟩
          · split
            · unfold pFree
              split
              · exact ⟨h.ft, h.wt⟩
              · exact h
            · split
              · unfold pNine
                split
                · exact h.ack _ _
                · exact h
              · exact h
/-- Nothing is reserved. -/
theorem none_play {p : Pw} (h : p.R = []) (k : Int) (m : Mp) (a n : Int) (hk : k ≠ 5) : (pPlay p k m a n).1.R = [] ∧ (pPlay p k m a n).1.most = p.most ∧ (pPlay p k m a n).1.queue = p.queue := by
  have hf : ∀ p : Pw, p.R = [] → (pFill p).1.R = [] ∧ (pFill p).1.most = p.most ∧ (pFill p).1.queue = p.queue := fun p h => by
    have := (fillL_ok p.wt p).1
    exact ⟨this.r.trans h, this.m, this.q⟩
  have ha : ∀ k id, (pAck p k id).1.R = [] ∧ (pAck p k id).1.most = p.most ∧ (pAck p k id).1.queue = p.queue := fun k id => by
    unfold pAck
    split
    · exact ⟨h, rfl, rfl⟩
    · unfold pAckF
      split
      · exact ⟨h, rfl, rfl⟩
      · split
        · exact ⟨h, rfl, rfl⟩
        · split
          · exact hf _ h
          · exact ⟨h, rfl, rfl⟩
  unfold pPlay
  split
  · unfold pSend
    split
    · split
      · exact ⟨h, rfl, rfl⟩
      · split
        · exact ⟨h, rfl, rfl⟩
        · exact ⟨h, rfl, rfl⟩
    · exact ⟨h, rfl, rfl⟩
  · split
    · exact ha a n
    · split
      · exact hf _ h
      · split
        · exact ⟨h, rfl, rfl⟩
        · split
          · unfold pFree
            split
            · rename_i q
              rw [h] at q
              exact absurd q.2 (by simp)
            · exact ⟨h, rfl, rfl⟩
          · split
            · unfold pNine
              split
              · exact ha a _
              · exact ⟨h, rfl, rfl⟩
            · exact ⟨h, rfl, rfl⟩
/-- What an image is right by. -/
structure ImOk (p : Pw) : Prop where
  fi : Fine p
  nd : (p.fl.map (·.id)).Nodup
  rg : ∀ f ∈ p.fl, 1 ≤ f.id ∧ f.id ≤ 65535
  sf : ∀ f ∈ p.fl, (f.rel = true → f.m = zMp) ∧ (f.rel = false → Sn f.m.q)
  sl : ∀ m ∈ p.wt, Sn m.q
  lf : p.fl.length ≤ p.most
  lw : p.wt.length ≤ p.queue
  ls : p.last ≤ 65535
  lt : p.wt.length + p.fl.length ≤ 100000
theorem KS.imok {F : Nat → Prop} {W : World} {wb : Nat} {p : Pw} {c : Nat} (h : KS F W wb p c) (hf : Fine p) (hc : c ≤ 10000) : ImOk p := by
  have hfa := h.facts
  obtain ⟨i, hw, rfl, hF⟩ := h.ex
  have hbc := hw.bc
  have hfl : i.fs.length ≤ i.la := by
    have hn : ∀ (l : List Fm) (b : Nat), l.Pairwise (fun a b => a.tn < b.tn) → (∀ f ∈ l, b ≤ f.tn ∧ f.tn < i.la) → b ≤ i.la → b + l.length ≤ i.la := by
      intro l
      induction l with
      | nil => intro b _ _ hb; simpa using hb
      | cons x l ih =>
        intro b hp hx hb
        have hx0 := hx x List.mem_cons_self
        have := ih (x.tn + 1) (List.pairwise_cons.1 hp).2 (fun f hf => ⟨(List.pairwise_cons.1 hp).1 f hf, (hx f (List.mem_cons_of_mem _ hf)).2⟩) (by omega)
        simp only [List.length_cons]
        omega
    have := hn i.fs 0 hw.srt (fun f hf => ⟨Nat.zero_le _, hw.tns f hf⟩) (Nat.zero_le _)
    omega
  refine ⟨hf, (List.nodup_append.1 hfa.1).1, ?_, ?_, ?_, hfa.2.2.1, hfa.2.2.2.1, hw.bs, ?_⟩
  · intro f hfm
    exact hfa.2.1 f.id (List.mem_append.2 (.inl (List.mem_map.2 ⟨f, hfm, rfl⟩)))
  · intro f hfm
    obtain ⟨g, hg, rfl⟩ := List.mem_map.1 hfm
    refine ⟨fun hr => ?_, (hw.snf g hg).2⟩
    obtain ⟨z1, z2, z3, z4⟩ := (hw.snf g hg).1 hr
    show g.m.p = zMp
    unfold Ms.p zMp
    rw [z1, z2, z3, z4]
  · intro m hm
    obtain ⟨g, hg, rfl⟩ := List.mem_map.1 hm
    exact hw.snl g hg
  · show (i.L.map Ms.p).length + (i.fs.map Fm.p).length ≤ 100000
    rw [List.length_map, List.length_map]
    omega
/-! ### Two windows -/
/-- Blocks of other kinds stay. -/
def KO (W W' : World) : Prop := ∀ (j : Nat) (o : Obj), W.heap[j]? = some o → Other o → W'.heap[j]? = some o
theorem KO.refl (W : World) : KO W W := fun _ _ h _ => h
theorem KO.trans {a b c : World} (h : KO a b) (k : KO b c) : KO a c := fun j o q z => k j o (h j o q z) z
theorem KO.kb {W W' : World} (h : KO W W') : Kb W W' := fun b cs fz q => h b _ q ⟨cs, 5, fz, rfl, by decide, by decide, by decide⟩
theorem KO.below {W W' : World} (h : Below W.heap.size W W') : KO W W' := fun j o q _ => later_at q h
theorem KO.lst {W W' : World} (h : KO W W') {v : Value} {X : List Pp} (l : Lst W v X) : Lst W' v X := by
  obtain ⟨S, h1, h2, h3⟩ := l
  refine ⟨S, ?_, fun p hp => (h2 p hp).keep h.kb, h3⟩
  refine ⟨h1.1, ?_⟩
  rcases h1.2 with q | ⟨g, cap, cur, a, b, cc, d⟩
  · exact .inl q
  · exact .inr ⟨g, cap, cur, a, b, h g _ cc ⟨cur, 51, _, rfl, by decide, by decide, by decide⟩, d⟩
structure K2 (w0 W : World) (wb xb : Nat) (p p' : Pw) (c c' : Nat) : Prop where
  ex : ∃ i i', WS W wb i c ∧ i.p = p ∧ WS W xb i' c' ∧ i'.p = p' ∧ (∀ j, i.U wb j → w0.heap.size ≤ j) ∧ (∀ j, i'.U xb j → w0.heap.size ≤ j) ∧ ∀ j, i.U wb j → ¬ i'.U xb j
  gd : Gd W
  bel : Below w0.heap.size w0 W
theorem K2.swap {w0 W : World} {wb xb : Nat} {p p' : Pw} {c c' : Nat} (h : K2 w0 W wb xb p p' c c') : K2 w0 W xb wb p' p c' c := by
  obtain ⟨i, i', h1, h2, h3, h4, h5, h6, h7⟩ := h.ex
  exact ⟨⟨i', i, h3, h4, h1, h2, h6, h5, fun j a b => h7 j b a⟩, h.gd, h.bel⟩
theorem K2.below {w0 W W' : World} {wb xb : Nat} {p p' : Pw} {c c' : Nat} (h : K2 w0 W wb xb p p' c c') (hb : Below W.heap.size W W') : K2 w0 W' wb xb p p' c c' := by
  obtain ⟨i, i', h1, h2, h3, h4, h5, h6, h7⟩ := h.ex
  exact ⟨⟨i, i', h1.below hb, h2, h3.below hb, h4, h5, h6, h7⟩, h.gd.below hb, h.bel.trans (hb.mono h.bel.size)⟩
/-- What stays while the first one is called. -/
def F2 (w0 W : World) (xb : Nat) (i' : WI) (j : Nat) : Prop := j < w0.heap.size ∨ i'.U xb j ∨ ∃ o, W.heap[j]? = some o ∧ Other o
theorem K2.one {w0 W : World} {wb xb : Nat} {p p' : Pw} {c c' : Nat} (h : K2 w0 W wb xb p p' c c') : ∃ F : Nat → Prop, KS F W wb p c ∧ ∀ {W' : World} {q : Pw} {d : Nat}, KS F W' wb q d → Fr F W W' → K2 w0 W' wb xb q p' d c' ∧ KO W W' := by
  obtain ⟨i, i', h1, h2, h3, h4, h5, h6, h7⟩ := h.ex
  refine ⟨F2 w0 W xb i', ⟨⟨i, h1, h2, ?_⟩, h.gd⟩, ?_⟩
  · rintro j (z | z | ⟨o, z, zo⟩)
    · exact ⟨Nat.lt_of_lt_of_le z h.bel.size, fun y => by have := h5 j y; omega⟩
    · exact ⟨h3.lt z, fun y => h7 j y z⟩
    · exact ⟨(Array.getElem?_eq_some_iff.1 z).1, h1.other z zo⟩
  · intro W' q d k r
    obtain ⟨i1, k1, k2, k3⟩ := k.ex
    have ko : KO W W' := fun j o z zo => (r.at (.inr (.inr ⟨o, z, zo⟩)) (Array.getElem?_eq_some_iff.1 z).1).trans z
    refine ⟨⟨⟨i1, i', k1, k2, h3.keep r (fun j hj z => z (.inr (.inl hj))) ko.kb, h4, ?_, h6, ?_⟩, k.gd, ?_⟩, ko⟩
    · intro j hj
      refine Classical.byContradiction fun hn => ?_
      exact (k3 j (.inl (by omega))).2 hj
    · intro j hj z
      exact (k3 j (.inr (.inl z))).2 hj
    · exact ⟨r.os.trans h.bel.os, r.tape.trans h.bel.tape, r.output.trans h.bel.output, Nat.le_trans h.bel.size r.size, fun j hj => (r.at (.inl hj) (Nat.lt_of_lt_of_le hj h.bel.size)).trans (h.bel.block j hj)⟩
section
variable {w0 W : World} {wb xb : Nat} {p p' : Pw} {c c' : Nat}
theorem k2_play (h : K2 w0 W wb xb p p' c c') (hc : c + 1 ≤ 200000) (o : Ov) (hp : PBi W o.m.v o.m.xs) (ht : o.m.t.size ≤ 1000000) (ha : okI o.a) (hn : okI o.n) : Calls Tryd.prog 11 #[.pointer (some ⟨wb, 0, none⟩), .agg o.cs] W fun e w' => ∃ v', e = .returned v' ∧ K2 w0 w' wb xb (pPlay p o.k o.m.p o.a o.n).1 p' (c + 1) c' ∧ Lst w' v' (pPlay p o.k o.m.p o.a o.n).2 ∧ KO W w' := by
  obtain ⟨F, hk, hr⟩ := h.one
  refine (ks_play hk hc o hp ht ha hn).mono ?_
  rintro e w' ⟨v', rfl, k, r, l⟩
  obtain ⟨a1, a2⟩ := hr k r
  exact ⟨v', rfl, a1, l, a2⟩
theorem k2_down (h : K2 w0 W wb xb p p' c c') : Calls Tryd.prog 23 #[.pointer (some ⟨wb, 0, none⟩)] W fun e w' => e = .returned (.tuple #[]) ∧ K2 w0 w' wb xb { p with on := false } p' c c' ∧ KO W w' := by
  obtain ⟨F, hk, hr⟩ := h.one
  refine (ks_down hk).mono ?_
  rintro e w' ⟨rfl, k, r⟩
  exact ⟨rfl, hr k r⟩
theorem k2_online (h : K2 w0 W wb xb p p' c c') : Calls Tryd.prog 15 #[.pointer (some ⟨wb, 0, none⟩)] W fun e w' => e = .returned (.bool p.on) ∧ w' = W := by
  obtain ⟨F, hk, hr⟩ := h.one
  exact ks_online hk
theorem k2_flying (h : K2 w0 W wb xb p p' c c') : Calls Tryd.prog 13 #[.pointer (some ⟨wb, 0, none⟩)] W fun e w' => e = .returned (.int .i64 (p.fl.length : Int)) ∧ w' = W := by
  obtain ⟨F, hk, hr⟩ := h.one
  exact ks_flying hk
theorem k2_waiting (h : K2 w0 W wb xb p p' c c') (hc : c ≤ 200000) : Calls Tryd.prog 14 #[.pointer (some ⟨wb, 0, none⟩)] W fun e w' => e = .returned (.int .i64 (p.wt.length : Int)) ∧ Below W.heap.size W w' := by
  obtain ⟨F, hk, hr⟩ := h.one
  exact ks_waiting hk hc
theorem k2_image (h : K2 w0 W wb xb p p' c c') (hc : c ≤ 200000) : Calls Tryd.prog 12 #[.pointer (some ⟨wb, 0, none⟩)] W fun e w' => ∃ vf vq, e = .returned (.agg #[.int .i64 (p.last : Int), vf, vq]) ∧ ImP W w' p vf vq ∧ Below W.heap.size W w' := by
  obtain ⟨F, hk, hr⟩ := h.one
  exact ks_image hk hc
end
end Go.Proofs.YtbjhblnagmpnfaaDoor
