import Derived.Test.YtbjhblnagmpnfaaDoorOi
namespace Go.Proofs.YtbjhblnagmpnfaaDoor
open Go Go.RowKit Go.Shelf Go.Maps Go.Sort
set_option linter.unusedSimpArgs false
set_option linter.unusedVariables false
/-! ### land -/
set_option maxRecDepth 100000 in
set_option maxHeartbeats 1000000 in
theorem land_walk {w w2 : World} {wb mb id n : Nat} {cs : Array Value} (hB : w.heap[wb]? = some (.cells cs 75 (0, 0))) (h5 : cs[5]? = some (.map (some mb)))
    (hd : (Builtin.delete_ #[68, 3] 0 #[.map (some mb), .int .i64 (id : Int)]).run Tryd.prog w = .ok (.tuple #[]) w2) (hB2 : w2.heap[wb]? = some (.cells cs 75 (0, 0)))
    (hn : (Builtin.len_ #[68] 3 #[.map (some mb)]).run Tryd.prog w2 = .ok (.int .i64 n) w2) {R : World → Prop}
    (H1 : n = 0 → Calls Tryd.prog 32 #[.pointer (some ⟨wb, 8, none⟩), .int .i64 (id : Int)] (w2.setCell ⟨wb, 5, none⟩ (.map none)) fun e w' => e = .returned (.tuple #[]) ∧ R w')
    (H2 : n ≠ 0 → Calls Tryd.prog 32 #[.pointer (some ⟨wb, 8, none⟩), .int .i64 (id : Int)] w2 fun e w' => e = .returned (.tuple #[]) ∧ R w') :
    Calls Tryd.prog 42 #[.pointer (some ⟨wb, 0, none⟩), .int .i64 (id : Int)] w fun e w' => e = .returned (.tuple #[]) ∧ R w' := by
  have c5 := box_cells hB 5 _ h5
  have d5 := box_cells hB2 5 _ h5
  have f5 := box_frozen hB2 5
  obtain ⟨bN, hbN⟩ : ∃ bN, ((n : Int) == 0) = bN := ⟨_, rfl⟩
  clear hB hB2 h5
  cases bN
  · have H := hidi (H2 (fun q => by subst q; simp at hbN))
    clear H1 H2
    go_enter Tryd.func42, Tryd.ntmps42
    go_wp2_with (go_at_call 32; refine H.out.mono ?_; rintro e w' ⟨rfl, hr⟩; have HR := hidi hr; clear hr)
    go_end0
    exact ⟨rfl, HR.out⟩
  · have H := hidi (H1 (by simpa using hbN))
    clear H1 H2
    go_enter Tryd.func42, Tryd.ntmps42
    go_wp2_with (go_at_call 32; refine H.out.mono ?_; rintro e w' ⟨rfl, hr⟩; have HR := hidi hr; clear hr)
    go_end0
    exact ⟨rfl, HR.out⟩
theorem filter_len {fs : List Fm} {id : Nat} (hn : (fs.map (·.id)).Nodup) (hm : id ∈ fs.map (·.id)) : (fs.filter (fun f => f.id != id)).length + 1 = fs.length := by
  induction fs with
  | nil => simp at hm
  | cons g fs ih =>
    simp only [List.map_cons, List.nodup_cons] at hn
    by_cases e : g.id = id
    · have : fs.filter (fun f => f.id != id) = fs := by
        rw [List.filter_eq_self]
        intro f hf
        simp only [bne_iff_ne, ne_eq]
        intro q
        exact hn.1 (by rw [e, ← q]; exact List.mem_map.2 ⟨f, hf, rfl⟩)
      simp [e, this]
    · have h2 : id ∈ fs.map (·.id) := by
        rcases List.mem_cons.1 hm with q | q
        · exact absurd q.symm e
        · exact q
      have := ih hn.2 h2
      simp [e, this]
theorem lookF_filter (fs : List Fm) (id : Nat) (k : Int) : (lookF (fs.filter (fun f => f.id != id)) k).map pt = setF (fun k => (lookF fs k).map pt) (id : Int) none k := by
  unfold setF
  by_cases e : k = (id : Int)
  · rw [if_pos e]
    rw [lookF_none (fun f hf q => ?_)]
    · rfl
    · have := (List.mem_filter.1 hf).2
      simp only [bne_iff_ne, ne_eq] at this
      omega
  · rw [if_neg e]
    congr 1
    unfold lookF
    rw [List.find?_filter]
    congr 2
    funext f
    by_cases q : (f.id : Int) = k
    · have : f.id ≠ id := fun z => e (by rw [← q, z])
      simp [q, this]
    · simp [q]
def WI.land (i : WI) (id : Nat) (mu mt : Value) : WI := { i with fs := i.fs.filter (fun f => f.id != id), mu := mu, mt := mt }
theorem land_ws {w : World} {wb : Nat} {i : WI} {c : Nat} (h : WS w wb i c) (hc : c ≤ 200000) {id : Nat} (hid : id ∈ i.ids) :
    Calls Tryd.prog 42 #[.pointer (some ⟨wb, 0, none⟩), .int .i64 (id : Int)] w fun e w' => e = .returned (.tuple #[]) ∧ ∃ mu mt, St w w' wb i (i.land id mu mt) c := by
  have hwl : wb < w.heap.size := h.lt (.inl rfl)
  have hrng := h.rng id (List.mem_append.2 (.inl hid))
  have hok : okI (id : Int) := okI_nat id (by omega)
  have hnd : (i.fs.map (·.id)).Nodup := (List.nodup_append.1 h.nd).1
  have hlen := filter_len hnd hid
  have hbc := h.bc
  have hpos : 0 < i.fs.length := by omega
  obtain ⟨f, hf, hfe⟩ := List.mem_map.1 hid
  have hlk : lookF i.fs (id : Int) = some f.b := by rw [← hfe]; exact lookF_mem hnd hf
  rcases h.und.mk with hmu | ⟨mb, hmu⟩
  · exfalso
    rcases h.und with ⟨-, q, -⟩ | ⟨mb, D, q, -⟩
    · omega
    · rw [hmu] at q; cases q
  have hM := h.und
  rw [hmu] at hM
  obtain ⟨w2, hrun, hM2, hch2⟩ := hM.del Tryd.underlying68 hok 0
  have hmw : wb ≠ mb := fun e => by obtain ⟨es, cl, q⟩ := hM.block rfl; rw [← e, h.blk] at q; cases q
  have hM2' : MI w2 (.map (some mb)) (i.fs.filter (fun f => f.id != id)).length (fun k => (lookF (i.fs.filter (fun f => f.id != id)) k).map pt) := by
    have e1 : i.fs.length - (if ((fun k => (lookF i.fs k).map pt) (id : Int)).isSome then 1 else 0) = (i.fs.filter (fun f => f.id != id)).length := by
      simp only [hlk, Option.map_some, Option.isSome_some, if_true]
      omega
    rw [← e1]
    exact hM2.congr (fun k hk => lookF_filter i.fs id k)
  have hb2 : w2.heap[wb]? = some (.cells i.cs 75 (0, 0)) := (hch2.block wb hwl hmw).trans h.blk
  have hT : i.T id = true := by unfold WI.T; rw [decide_eq_true hid]; rfl
  have hmtl : ∀ j, i.mt = .map (some j) → j < w.heap.size ∧ j ≠ wb ∧ j ≠ mb := fun j hj => by
    obtain ⟨es, cl, e⟩ := h.tkn.block hj
    refine ⟨(Array.getElem?_eq_some_iff.1 e).1, fun q => ?_, fun q => ?_⟩
    · rw [q, h.blk] at e; cases e
    · exact h.apt mb hmu (by rw [hj, q])
  -- what drop leaves
  have core : ∀ (w3 : World) (mu : Value), (mu = .map (some mb) ∨ mu = .map none ∧ (i.fs.filter (fun f => f.id != id)).length = 0) → Ch (fun j => j = wb) w2 w3 → w3.heap[wb]? = some (.cells (i.cs.setIfInBounds 5 mu) 75 (0, 0)) → Calls Tryd.prog 32 #[.pointer (some ⟨wb, 8, none⟩), .int .i64 (id : Int)] w3 fun e w' => e = .returned (.tuple #[]) ∧ ∃ mu mt, St w w' wb i (i.land id mu mt) c := by
    intro w3 mu hmu3 hch3 hb3
    have hst : Ch (fun j => j = wb ∨ j = mb) w w3 := (hch2.mono (fun j _ q => .inr q)).trans hch3 (fun j _ q => .inl q)
    have hN3 : NT w3 i.mt i.T i.N := h.tkn.keep (fun j hj => by
      obtain ⟨l1, l2, l3⟩ := hmtl j hj
      exact hst.block j l1 (fun q => q.elim l2 l3))
    refine (drop_any hN3 (nb := wb) (i := 8) (t := 75) hb3 rfl id hrng.2 hT (by omega)).mono ?_
    rintro e W ⟨rfl, mt', hmt', hN4, hb4, hch4⟩
    refine ⟨rfl, mu, mt', ?_⟩
    have hchW : Ch (fun j => j = wb ∨ j = mb ∨ i.mt = .map (some j)) w W := (hst.mono (fun j _ q => q.elim .inl (fun e => .inr (.inl e)))).trans hch4 (fun j _ q => q.elim .inl (fun e => .inr (.inr e)))
    have hchU : Ch (i.U wb) w W := hchW.mono (fun j hj q => by
      rcases q with q | q | q
      · exact .inl q
      · exact .inr (.inl (by rw [hmu, q]))
      · exact .inr (.inr (.inl q)))
    have hkb := h.kb hchU
    have hoth : ∀ (j : Nat) (cs : Array Value) (t : Nat) (fz : Nat × Nat), w.heap[j]? = some (Obj.cells cs t fz) → t ≠ 75 → W.heap[j]? = w.heap[j]? := fun j cs t fz hj ht => by
      refine hchW.block j (Array.getElem?_eq_some_iff.1 hj).1 (fun q => ?_)
      rcases q with q | q | q
      · rw [q, h.blk] at hj; simp at hj; exact ht hj.2.1.symm
      · obtain ⟨es, cl, e⟩ := hM.block rfl; rw [q, e] at hj; cases hj
      · obtain ⟨es, cl, e⟩ := h.tkn.block q; rw [e] at hj; cases hj
    have hmem : ∀ x, x ∈ i.fs.filter (fun f => f.id != id) → x ∈ i.fs := fun x hx => (List.mem_filter.1 hx).1
    have hmt2 : ∀ j, mt' = .map (some j) → i.mt = .map (some j) := fun j hj => by
      rcases hmt' with q | q
      · rw [← q]; exact hj
      · rw [q] at hj; cases hj
    have hids : ∀ j, j ∈ (i.land id mu mt').ids → j ∈ i.ids ∧ j ≠ id := fun j hj => by
      obtain ⟨x, hx, rfl⟩ := List.mem_map.1 hj
      have hx' : x ∈ i.fs.filter (fun f => f.id != id) := hx
      refine ⟨List.mem_map.2 ⟨x, hmem x hx', rfl⟩, ?_⟩
      simpa using (List.mem_filter.1 hx').2
    have hTl : (i.land id mu mt').T = setT i.T id false := by
      funext j
      unfold setT
      by_cases e : j = id
      · rw [if_pos e]
        subst e
        unfold WI.T
        rw [decide_eq_false (fun q => (hids j q).2 rfl), decide_eq_false (fun q => ?_)]
        · rfl
        · exact (List.nodup_append.1 h.nd).2.2 j hid j q rfl
      · rw [if_neg e]
        have hd : decide (j ∈ (i.land id mu mt').ids) = decide (j ∈ i.ids) := by
          rw [Bool.eq_iff_iff, decide_eq_true_iff, decide_eq_true_iff]
          refine ⟨fun q => (hids j q).1, fun q => ?_⟩
          obtain ⟨x, hx, rfl⟩ := List.mem_map.1 q
          exact List.mem_map.2 ⟨x, List.mem_filter.2 ⟨hx, by simpa using e⟩, rfl⟩
        unfold WI.T
        rw [hd]
        rfl
    refine ⟨{ h with blk := ?_, und := ?_, fls := ?_, tkn := ?_, row := ?_, pay := fun x hx => (h.pay x hx).keep hkb, apt := ?_, nd := ?_, rng := ?_, srt := ?_, tns := fun x hx => h.tns x (hmem x hx), snf := fun x hx => h.snf x (hmem x hx), bf := ?_ }, hchU, ?_⟩
    · rw [hb4]; rfl
    · show MI W mu _ _
      rcases hmu3 with rfl | ⟨rfl, hz⟩
      · refine hM2'.keep (fun j hj => ?_)
        cases hj
        have hchx : Ch (fun j => j = wb ∨ i.mt = .map (some j)) w2 W := (hch3.mono (fun j _ q => .inl q)).trans hch4 (fun j _ q => q)
        exact hchx.block mb (hM2'.lt rfl) (fun q => q.elim (fun e => hmw e.symm) (fun e => (hmtl mb e).2.2 rfl))
      · rw [show (i.land id (.map none) mt').fs = i.fs.filter (fun f => f.id != id) from rfl, List.length_eq_zero_iff.1 hz]
        exact (MI.nil W).congr (fun k _ => rfl)
    · intro x hx
      have hx' := hmem x hx
      exact ⟨(hoth x.b _ 90 _ (h.fls x hx').blk (by decide)).trans (h.fls x hx').blk, (h.fls x hx').pay.keep hkb⟩
    · rw [hTl]; exact hN4
    · refine own_ch h.row hchW (fun g hg q => ?_)
      obtain ⟨cur, e⟩ := own_lt h.row hg
      rcases q with q | q | q
      · rw [q, h.blk] at e; simp at e
      · obtain ⟨es, cl, e'⟩ := hM.block rfl; rw [q, e'] at e; cases e
      · obtain ⟨es, cl, e'⟩ := h.tkn.block q; rw [e'] at e; cases e
    · intro j hj q
      have q2 := hmt2 j q
      rcases hmu3 with e | ⟨e, -⟩
      · have hj' : mu = .map (some j) := hj
        rw [e] at hj'
        cases hj'
        exact (hmtl mb q2).2.2 rfl
      · have hj' : mu = .map (some j) := hj
        rw [e] at hj'
        cases hj'
    · refine List.Nodup.sublist (List.Sublist.append (List.Sublist.map _ List.filter_sublist) (List.Sublist.refl _)) h.nd
    · intro j hj
      rcases List.mem_append.1 hj with q | q
      · exact h.rng j (List.mem_append.2 (.inl (hids j q).1))
      · exact h.rng j (List.mem_append.2 (.inr q))
    · exact h.srt.sublist List.filter_sublist
    · have := h.bf
      show (i.fs.filter (fun f => f.id != id)).length ≤ i.most
      omega
    · rintro j (q | q | q | q | ⟨x, hx, rfl⟩)
      · exact .inl (.inl q)
      · rcases hmu3 with e | ⟨e, -⟩
        · have q' : mu = .map (some j) := q
          rw [e, ← hmu] at q'
          exact .inl (.inr (.inl q'))
        · have q' : mu = .map (some j) := q
          rw [e] at q'
          cases q'
      · exact .inl (.inr (.inr (.inl (hmt2 j q))))
      · exact .inl (.inr (.inr (.inr (.inl q))))
      · exact .inl (.inr (.inr (.inr (.inr ⟨x, hmem x hx, rfl⟩))))
  have h5 : i.cs[5]? = some (.map (some mb)) := by rw [← hmu]; rfl
  refine land_walk h.blk h5 hrun hb2 (hM2'.len Tryd.underlying68 3) (fun hz => ?_) (fun hz => ?_)
  · exact core _ (.map none) (.inr ⟨rfl, hz⟩) (ch_set wb 5 _) (heap_set hb2 _)
  · exact core w2 (.map (some mb)) (.inl rfl) (Ch.refl _ _) (by rw [hi_same h5]; exact hb2)
end Go.Proofs.YtbjhblnagmpnfaaDoor
