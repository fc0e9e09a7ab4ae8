import Derived.Test.YtmihpmmkkklpfaaGreatDoorBOh
namespace Go.Proofs.YtmihpmmkkklpfaaGreatDoor
open Go Go.RowKit Go.Shelf Go.Maps Go.Sort
set_option linter.unusedSimpArgs false
set_option linter.unusedVariables false
/-! ### The first one that waits -/
def zMs : Ms := ⟨⟨#[]⟩, .slice none 0 0, 0, false, []⟩
theorem mrow_app (A B : List Ms) : mrow (A ++ B) = mrow A ++ mrow B := by simp [mrow]
theorem set_app (A B : List Value) (k : Nat) (x : Value) : (A ++ B).set (A.length + k) x = A ++ B.set k x := by
  induction A with
  | nil => simp
  | cons a A ih =>
    simp only [List.cons_append, List.length_cons]
    rw [show A.length + 1 + k = (A.length + k) + 1 by omega, List.set_cons_succ, ih]
theorem mrow_zap (Z : List Ms) (m : Ms) (L : List Ms) : ((((mrow (Z ++ m :: L)).set (Z.length * 4) (.string ⟨#[]⟩)).set (Z.length * 4 + 1) (.slice none 0 0)).set (Z.length * 4 + 2) (.int .i64 0)).set (Z.length * 4 + 3) (.bool false) = mrow ((Z ++ [zMs]) ++ L) := by
  have e : mrow (m :: L) = .string m.t :: m.v :: .int .i64 m.q :: .bool m.r :: mrow L := rfl
  have e2 : mrow (Z ++ [zMs] ++ L) = mrow Z ++ (.string ⟨#[]⟩ :: .slice none 0 0 :: .int .i64 0 :: .bool false :: mrow L) := by
    rw [mrow_app, mrow_app, List.append_assoc]
    rfl
  rw [e2, mrow_app, e, ← mrow_len Z]
  generalize mrow Z = A
  have h0 := set_app A (.string m.t :: m.v :: .int .i64 m.q :: .bool m.r :: mrow L) 0 (.string ⟨#[]⟩)
  simp only [Nat.add_zero] at h0
  rw [h0, set_app, set_app, set_app]
  simp
theorem zap_take (cur : Array Value) (k p : Nat) : (zap cur p).toList.take k = ((((cur.toList.take k).set p (.string ⟨#[]⟩)).set (p + 1) (.slice none 0 0)).set (p + 2) (.int .i64 0)).set (p + 3) (.bool false) := by
  unfold zap
  simp [List.take_set]
theorem next_ws {w : World} {wb : Nat} {i : WI} {c : Nat} (h : WS w wb i c) (hc : c ≤ 200000) {m : Ms} {L' : List Ms} (hL : i.L = m :: L') :
    Calls Tryz.prog 76 #[.pointer (some ⟨wb, 6, none⟩)] w fun e w' => e = .returned (mg m.t m.v m.q m.r) ∧ ∃ lv Z, St w w' wb i { i with lv := lv, Z := Z, L := L' } c := by
  have hrow := h.row
  have hbc := h.bc
  obtain ⟨n, hn⟩ : ∃ n, n = L'.length := ⟨_, rfl⟩
  have hlen : i.L.length = n + 1 := by rw [hL, hn]; rfl
  have hhalf := h.half
  have hkl : i.Z.length + i.L.length ≤ 1000000 := by
    rcases hhalf with q | q
    · omega
    · rw [q]; simp; omega
  obtain ⟨g, cap, e1, e2, e3, cur, e4, e5⟩ := mrow_cell hrow (j := 0) (by omega)
  have hZL : i.Z.length < (i.Z ++ i.L).length := by simp; omega
  have eg : (i.Z ++ i.L)[i.Z.length] = m := by
    rw [List.getElem_append_right (Nat.le_refl _)]
    simp [hL]
  have hx : ∀ x, x < 4 → cur[i.Z.length * 4 + x]? = m.cs[x]? := fun x hx => by
    have := e5 i.Z.length (by omega) hZL x hx
    rw [eg] at this
    exact this
  have hpm : PB w m.v m.xs := h.pay m (by rw [hL]; simp)
  obtain ⟨pa, pn, pc, hv⟩ := hpm.sl
  have hwg : wb ≠ g := fun q => by rw [← q, h.blk] at e4; simp at e4
  have h6 : i.cs[6]? = some (.slice (some ⟨g, 0, none⟩) (i.Z.length + i.L.length) cap) := by rw [← e1]; rfl
  have hgU : i.lv.ownBlock = some g := by rw [e1]; rfl
  -- what is common to both ends
  have fin : ∀ (w6 : World) (lv : Value) (Z : List Ms), Ch (fun j => j = g ∨ j = wb) w w6 → w6.heap[wb]? = some (.cells (WI.cs { i with lv := lv, Z := Z, L := L' }) 101 (0, 0)) → w6.ownsRow 0 45 4 lv (Z.length + L'.length) (mrow (Z ++ L')) → (Z.length < L'.length ∨ Z = []) → (∀ j, lv.ownBlock = some j → i.lv.ownBlock = some j ∨ w.heap.size ≤ j) → St w w6 wb i { i with lv := lv, Z := Z, L := L' } c := by
    intro w6 lv Z hch hblk hown hhf hnb
    have hchU : Ch (i.U wb) w w6 := hch.mono (fun j _ q => by
      rcases q with q | q
      · exact .inr (.inr (.inr (.inl (by rw [q]; exact hgU))))
      · exact .inl q)
    have hkb := h.kb hchU
    have hoth : ∀ j o, w.heap[j]? = some o → (∀ cs t, o = Obj.cells cs t (0, 0) → t ≠ 45 ∧ t ≠ 101) → w6.heap[j]? = w.heap[j]? := fun j o hj ho => by
      refine hch.block j (Array.getElem?_eq_some_iff.1 hj).1 (fun q => ?_)
      rcases q with q | q
      · rw [q, e4] at hj; cases hj; exact (ho _ _ rfl).1 rfl
      · rw [q, h.blk] at hj; cases hj; exact (ho _ _ rfl).2 rfl
    refine ⟨{ h with blk := hblk, und := ?_, fls := ?_, tkn := ?_, row := hown, pay := ?_, half := hhf, snl := ?_, bl := ?_, bc := ?_ }, hchU, ?_⟩
    · refine h.und.keep (fun b hb => ?_)
      obtain ⟨es, cl, e⟩ := h.und.block hb
      exact hoth b _ e (fun cs t q => by cases q)
    · intro f hf
      exact ⟨(hoth f.b _ (h.fls f hf).blk (fun cs t q => by cases q; exact ⟨by decide, by decide⟩)).trans (h.fls f hf).blk, (h.fls f hf).pay.keep hkb⟩
    · refine h.tkn.keep (fun b hb => ?_)
      obtain ⟨es, cl, e⟩ := h.tkn.block hb
      exact hoth b _ e (fun cs t q => by cases q)
    · exact fun x hx => (h.pay x (by rw [hL]; exact List.mem_cons_of_mem _ hx)).keep hkb
    · exact fun x hx => h.snl x (by rw [hL]; exact List.mem_cons_of_mem _ hx)
    · have := h.bl
      show L'.length ≤ i.queue
      omega
    · show i.la + L'.length ≤ c ∧ i.N + L'.length ≤ c
      omega
    · rintro j (q | q | q | q | q)
      · exact .inl (.inl q)
      · exact .inl (.inr (.inl q))
      · exact .inl (.inr (.inr (.inl q)))
      · exact (hnb j q).elim (fun e => .inl (.inr (.inr (.inr (.inl e))))) .inr
      · exact .inl (.inr (.inr (.inr (.inr q))))
  have h7 : ∀ k, cur.toList.take ((i.Z.length + i.L.length) * 4) = k → k = mrow (i.Z ++ i.L) := fun k q => by
    rcases hrow.2 with ⟨_, z⟩ | ⟨g', cap', cur', a1, a2, a3, a4, a5, a6, a7⟩
    · omega
    · rw [e1] at a1
      simp only [Value.slice.injEq, Option.some.injEq, Addr.mk.injEq] at a1
      obtain ⟨⟨rfl, -⟩, -⟩ := a1
      rw [e4] at a3
      cases a3
      rw [← q, a7]
  refine (next_walk (R := fun w' => ∃ lv Z, St w w' wb i { i with lv := lv, Z := Z, L := L' } c) (gone := i.Z.length) (t := m.t) (a := pa) (n := pn) (c := pc) (q := m.q) (r := m.r) h.blk h6 rfl hkl (by omega) e2 hwg e4 (hx 0 (by omega)) (by rw [hx 1 (by omega), ← hv]; rfl) (hx 2 (by omega)) (hx 3 (by omega)) ?_ ?_).mono ?_
  · intro hle w4 hch4 hb4 hg4 hs4 ad had
    obtain ⟨i0, hi, hz0, hz1, hz2⟩ := info_parts info30
    have hkm : i.Z.length + i.L.length - (i.Z.length + 1) = n := by omega
    rw [hkm]
    obtain ⟨v', w5, hr, ho5, hg5, -, hv5⟩ := run_append_own_at (P := Tryz.prog) w4 w4.heap.size 29 29 45 i0 _ 4 56 Tryz.underlying29 hi hz0 hz1 hz2 rfl (by omega) (.slice none 0 0) 0 [] (World.ownsRow_nil _ _ _ _) ad n (cap - (i.Z.length + 1)) (mrow L') (by rw [mrow_len, hn]) (fun j u hu => by
      have hj : j < L'.length * 4 := by have := (List.getElem?_eq_some_iff.1 hu).1; rw [mrow_len] at this; exact this
      have hne : ¬ cap = i.Z.length + 1 := by omega
      obtain ⟨-, rfl⟩ := had.resolve_left (fun q => hne q.1)
      have e6 : (⟨g, (i.Z.length + 1) * 4, none⟩ : Addr).add j = ⟨g, (i.Z.length + 1) * 4 + j, none⟩ := by unfold Addr.add; split <;> simp_all
      rw [e6]
      refine box_cells hg4 _ _ ?_
      unfold zap
      rw [Array.getElem?_setIfInBounds_ne (by omega), Array.getElem?_setIfInBounds_ne (by omega), Array.getElem?_setIfInBounds_ne (by omega), Array.getElem?_setIfInBounds_ne (by omega)]
      have q1 := h7 _ rfl
      have q2 := congrArg (fun l => l[(i.Z.length + 1) * 4 + j]?) q1
      simp only [List.getElem?_take] at q2
      rw [if_pos (by omega)] at q2
      rw [← hu]
      have q3 : (mrow (i.Z ++ i.L))[(i.Z.length + 1) * 4 + j]? = (mrow L')[j]? := by
        rw [hL, show i.Z ++ m :: L' = (i.Z ++ [m]) ++ L' by simp, mrow_app, List.getElem?_append_right (by rw [mrow_len, List.length_append, List.length_singleton]; omega), mrow_len, List.length_append, List.length_singleton, Nat.add_sub_cancel_left]
      rw [← q3, ← q2]
      simp) (fun u hu => by
      obtain ⟨x, hx', hu'⟩ := List.mem_flatMap.1 hu
      have hpx := h.pay x (by rw [hL]; exact List.mem_cons_of_mem _ hx')
      obtain ⟨xa, xn, xc, hxv⟩ := hpx.sl
      unfold Ms.cs at hu'
      rw [hxv] at hu'
      simp at hu'
      rcases hu' with rfl | rfl | rfl | rfl <;> rfl) (by unfold maxLen; omega) (by omega) (Nat.le_refl _)
    simp only [Nat.zero_add, List.nil_append] at ho5
    have hb5 : Below w4.heap.size w4 w5 := ⟨hg5.os, hg5.tape, hg5.output, hg5.size, fun k hk => hg5.block k hk (fun q => by simp [Value.ownBlock] at q)⟩
    refine ⟨v', w5, hr, ?_, hb5, fun w6 hch6 hb6 => ?_⟩
    · obtain ⟨a, c, q⟩ := own_sl ho5
      exact ⟨_, _, _, q⟩
    have hvl : ∀ j, v'.ownBlock = some j → w4.heap.size ≤ j := fun j hj => by
      rcases ho5.2 with ⟨q, _⟩ | ⟨g', cap', cur', q, q1, _⟩
      · rw [q] at hj; simp [Value.ownBlock] at hj
      · rw [q] at hj; simp [Value.ownBlock] at hj; omega
    refine ⟨v', [], fin w6 v' [] ?_ ?_ ?_ (.inr rfl) (fun j hj => .inr (by have := hvl j hj; omega))⟩
    · exact (hch4.trans (Below.ch (S := fun j => j = g ∨ j = wb) hb5) (fun j _ q => q)).trans hch6 (fun j hj q => q.elim .inr (fun e => absurd hj (by omega)))
    · rw [hb6]; rfl
    · have := own_ch (own0 ho5) hch6 (fun j hj q => by
        have := hvl j hj
        have hwl := h.lt (j := wb) (.inl rfl)
        have := hch4.size
        rcases q with q | q <;> omega)
      simpa [hn] using this
  · intro hlt w6 hch6 hb6 hg6
    refine ⟨i.lv, i.Z ++ [zMs], fin w6 i.lv (i.Z ++ [zMs]) hch6 ?_ ?_ (.inl (by simp; omega)) (fun j hj => .inl hj)⟩
    · rw [hb6]
      unfold WI.cs
      simp
    · have hk : (i.Z ++ [zMs]).length + L'.length = i.Z.length + i.L.length := by simp; omega
      rw [hk]
      rcases hrow.2 with ⟨_, z⟩ | ⟨g', cap', cur', a1, a2, a3, a4, a5, a6, a7⟩
      · omega
      · have a1' := a1
        rw [e1] at a1'
        simp only [Value.slice.injEq, Option.some.injEq, Addr.mk.injEq] at a1'
        obtain ⟨⟨rfl, -⟩, -⟩ := a1'
        rw [e4] at a3
        cases a3
        refine ⟨by rw [mrow_len]; simp; omega, .inr ⟨g, cap', zap cur (i.Z.length * 4), a1, a2, hg6, a4, a5, by simpa [zap] using a6, ?_⟩⟩
        rw [zap_take, a7, hL, mrow_zap]
  · rintro e w' ⟨rfl, hR⟩
    exact ⟨by rw [hv], hR⟩
end Go.Proofs.YtmihpmmkkklpfaaGreatDoor
namespace Go.Proofs.YtmihpmmkkklpfaaGreatDoor
open Go Go.RowKit Go.Shelf Go.Maps Go.Sort
set_option linter.unusedSimpArgs false
set_option linter.unusedVariables false
/-! ### land -/
set_option maxRecDepth 100000 in
set_option maxHeartbeats 1000000 in
theorem land_walk {w w2 : World} {wb mb id n : Nat} {cs : Array Value} (hB : w.heap[wb]? = some (.cells cs 101 (0, 0))) (h5 : cs[5]? = some (.map (some mb)))
    (hd : (Builtin.delete_ #[94, 3] 0 #[.map (some mb), .int .i64 (id : Int)]).run Tryz.prog w = .ok (.tuple #[]) w2) (hB2 : w2.heap[wb]? = some (.cells cs 101 (0, 0)))
    (hn : (Builtin.len_ #[94] 3 #[.map (some mb)]).run Tryz.prog w2 = .ok (.int .i64 n) w2) {R : World → Prop}
    (H1 : n = 0 → Calls Tryz.prog 82 #[.pointer (some ⟨wb, 8, none⟩), .int .i64 (id : Int)] (w2.setCell ⟨wb, 5, none⟩ (.map none)) fun e w' => e = .returned (.tuple #[]) ∧ R w')
    (H2 : n ≠ 0 → Calls Tryz.prog 82 #[.pointer (some ⟨wb, 8, none⟩), .int .i64 (id : Int)] w2 fun e w' => e = .returned (.tuple #[]) ∧ R w') :
    Calls Tryz.prog 51 #[.pointer (some ⟨wb, 0, none⟩), .int .i64 (id : Int)] w fun e w' => e = .returned (.tuple #[]) ∧ R w' := by
  have c5 := box_cells hB 5 _ h5
  have d5 := box_cells hB2 5 _ h5
  have f5 := box_frozen hB2 5
  obtain ⟨bN, hbN⟩ : ∃ bN, ((n : Int) == 0) = bN := ⟨_, rfl⟩
  clear hB hB2 h5
  cases bN
  · have H := hidi (H2 (fun q => by subst q; simp at hbN))
    clear H1 H2
    go_enter Tryz.func51, Tryz.ntmps51
    go_wp2_with (go_at_call 82; refine H.out.mono ?_; rintro e w' ⟨rfl, hr⟩; have HR := hidi hr; clear hr)
    go_end0
    exact ⟨rfl, HR.out⟩
  · have H := hidi (H1 (by simpa using hbN))
    clear H1 H2
    go_enter Tryz.func51, Tryz.ntmps51
    go_wp2_with (go_at_call 82; refine H.out.mono ?_; rintro e w' ⟨rfl, hr⟩; have HR := hidi hr; clear hr)
    go_end0
    exact ⟨rfl, HR.out⟩
theorem filter_len {fs : List Fm} {id : Nat} (hn : (fs.map (·.id)).Nodup) (hm : id ∈ fs.map (·.id)) : (fs.filter (fun f => f.id != id)).length + 1 = fs.length := by
  induction fs with
  | nil => simp at hm
  | cons g fs ih =>
    simp only [List.map_cons, List.nodup_cons] at hn
    by_cases e : g.id = id
    · have : fs.filter (fun f => f.id != id) = fs := by
        rw [List.filter_eq_self]
        intro f hf
        simp only [bne_iff_ne, ne_eq]
        intro q
        exact hn.1 (by rw [e, ← q]; exact List.mem_map.2 ⟨f, hf, rfl⟩)
      simp [e, this]
    · have h2 : id ∈ fs.map (·.id) := by
        rcases List.mem_cons.1 hm with q | q
        · exact absurd q.symm e
        · exact q
      have := ih hn.2 h2
      simp [e, this]
theorem lookF_filter (fs : List Fm) (id : Nat) (k : Int) : (lookF (fs.filter (fun f => f.id != id)) k).map pt = setF (fun k => (lookF fs k).map pt) (id : Int) none k := by
  unfold setF
  by_cases e : k = (id : Int)
  · rw [if_pos e]
    rw [lookF_none (fun f hf q => ?_)]
    · rfl
    · have := (List.mem_filter.1 hf).2
      simp only [bne_iff_ne, ne_eq] at this
      omega
  · rw [if_neg e]
    congr 1
    unfold lookF
    rw [List.find?_filter]
    congr 2
    funext f
    by_cases q : (f.id : Int) = k
    · have : f.id ≠ id := fun z => e (by rw [← q, z])
      simp [q, this]
    · simp [q]
def WI.land (i : WI) (id : Nat) (mu mt : Value) : WI := { i with fs := i.fs.filter (fun f => f.id != id), mu := mu, mt := mt }
theorem land_ws {w : World} {wb : Nat} {i : WI} {c : Nat} (h : WS w wb i c) (hc : c ≤ 200000) {id : Nat} (hid : id ∈ i.ids) :
    Calls Tryz.prog 51 #[.pointer (some ⟨wb, 0, none⟩), .int .i64 (id : Int)] w fun e w' => e = .returned (.tuple #[]) ∧ ∃ mu mt, St w w' wb i (i.land id mu mt) c := by
  have hwl : wb < w.heap.size := h.lt (.inl rfl)
  have hrng := h.rng id (List.mem_append.2 (.inl hid))
  have hok : okI (id : Int) := okI_nat id (by omega)
  have hnd : (i.fs.map (·.id)).Nodup := (List.nodup_append.1 h.nd).1
  have hlen := filter_len hnd hid
  have hbc := h.bc
  have hpos : 0 < i.fs.length := by omega
  obtain ⟨f, hf, hfe⟩ := List.mem_map.1 hid
  have hlk : lookF i.fs (id : Int) = some f.b := by rw [← hfe]; exact lookF_mem hnd hf
  rcases h.und.mk with hmu | ⟨mb, hmu⟩
  · exfalso
    rcases h.und with ⟨-, q, -⟩ | ⟨mb, D, q, -⟩
    · omega
    · rw [hmu] at q; cases q
  have hM := h.und
  rw [hmu] at hM
  obtain ⟨w2, hrun, hM2, hch2⟩ := hM.del Tryz.underlying94 hok 0
  have hmw : wb ≠ mb := fun e => by obtain ⟨es, cl, q⟩ := hM.block rfl; rw [← e, h.blk] at q; cases q
  have hM2' : MI w2 (.map (some mb)) (i.fs.filter (fun f => f.id != id)).length (fun k => (lookF (i.fs.filter (fun f => f.id != id)) k).map pt) := by
    have e1 : i.fs.length - (if ((fun k => (lookF i.fs k).map pt) (id : Int)).isSome then 1 else 0) = (i.fs.filter (fun f => f.id != id)).length := by
      simp only [hlk, Option.map_some, Option.isSome_some, if_true]
      omega
    rw [← e1]
    exact hM2.congr (fun k hk => lookF_filter i.fs id k)
  have hb2 : w2.heap[wb]? = some (.cells i.cs 101 (0, 0)) := (hch2.block wb hwl hmw).trans h.blk
  have hT : i.T id = true := by unfold WI.T; rw [decide_eq_true hid]; rfl
  have hmtl : ∀ j, i.mt = .map (some j) → j < w.heap.size ∧ j ≠ wb ∧ j ≠ mb := fun j hj => by
    obtain ⟨es, cl, e⟩ := h.tkn.block hj
    refine ⟨(Array.getElem?_eq_some_iff.1 e).1, fun q => ?_, fun q => ?_⟩
    · rw [q, h.blk] at e; cases e
    · exact h.apt mb hmu (by rw [hj, q])
  -- what drop leaves
  have core : ∀ (w3 : World) (mu : Value), (mu = .map (some mb) ∨ mu = .map none ∧ (i.fs.filter (fun f => f.id != id)).length = 0) → Ch (fun j => j = wb) w2 w3 → w3.heap[wb]? = some (.cells (i.cs.setIfInBounds 5 mu) 101 (0, 0)) → Calls Tryz.prog 82 #[.pointer (some ⟨wb, 8, none⟩), .int .i64 (id : Int)] w3 fun e w' => e = .returned (.tuple #[]) ∧ ∃ mu mt, St w w' wb i (i.land id mu mt) c := by
    intro w3 mu hmu3 hch3 hb3
    have hst : Ch (fun j => j = wb ∨ j = mb) w w3 := (hch2.mono (fun j _ q => .inr q)).trans hch3 (fun j _ q => .inl q)
    have hN3 : NT w3 i.mt i.T i.N := h.tkn.keep (fun j hj => by
      obtain ⟨l1, l2, l3⟩ := hmtl j hj
      exact hst.block j l1 (fun q => q.elim l2 l3))
    refine (drop_any hN3 (nb := wb) (i := 8) (t := 101) hb3 rfl id hrng.2 hT (by omega)).mono ?_
    rintro e W ⟨rfl, mt', hmt', hN4, hb4, hch4⟩
    refine ⟨rfl, mu, mt', ?_⟩
    have hchW : Ch (fun j => j = wb ∨ j = mb ∨ i.mt = .map (some j)) w W := (hst.mono (fun j _ q => q.elim .inl (fun e => .inr (.inl e)))).trans hch4 (fun j _ q => q.elim .inl (fun e => .inr (.inr e)))
    have hchU : Ch (i.U wb) w W := hchW.mono (fun j hj q => by
      rcases q with q | q | q
      · exact .inl q
      · exact .inr (.inl (by rw [hmu, q]))
      · exact .inr (.inr (.inl q)))
    have hkb := h.kb hchU
    have hoth : ∀ (j : Nat) (cs : Array Value) (t : Nat) (fz : Nat × Nat), w.heap[j]? = some (Obj.cells cs t fz) → t ≠ 101 → W.heap[j]? = w.heap[j]? := fun j cs t fz hj ht => by
      refine hchW.block j (Array.getElem?_eq_some_iff.1 hj).1 (fun q => ?_)
      rcases q with q | q | q
      · rw [q, h.blk] at hj; simp at hj; exact ht hj.2.1.symm
      · obtain ⟨es, cl, e⟩ := hM.block rfl; rw [q, e] at hj; cases hj
      · obtain ⟨es, cl, e⟩ := h.tkn.block q; rw [e] at hj; cases hj
    have hmem : ∀ x, x ∈ i.fs.filter (fun f => f.id != id) → x ∈ i.fs := fun x hx => (List.mem_filter.1 hx).1
    have hmt2 : ∀ j, mt' = .map (some j) → i.mt = .map (some j) := fun j hj => by
      rcases hmt' with q | q
      · rw [← q]; exact hj
      · rw [q] at hj; cases hj
    have hids : ∀ j, j ∈ (i.land id mu mt').ids → j ∈ i.ids ∧ j ≠ id := fun j hj => by
      obtain ⟨x, hx, rfl⟩ := List.mem_map.1 hj
      have hx' : x ∈ i.fs.filter (fun f => f.id != id) := hx
      refine ⟨List.mem_map.2 ⟨x, hmem x hx', rfl⟩, ?_⟩
      simpa using (List.mem_filter.1 hx').2
    have hTl : (i.land id mu mt').T = setT i.T id false := by
      funext j
      unfold setT
      by_cases e : j = id
      · rw [if_pos e]
        subst e
        unfold WI.T
        rw [decide_eq_false (fun q => (hids j q).2 rfl), decide_eq_false (fun q => ?_)]
        · rfl
        · exact (List.nodup_append.1 h.nd).2.2 j hid j q rfl
      · rw [if_neg e]
        have hd : decide (j ∈ (i.land id mu mt').ids) = decide (j ∈ i.ids) := by
          rw [Bool.eq_iff_iff, decide_eq_true_iff, decide_eq_true_iff]
          refine ⟨fun q => (hids j q).1, fun q => ?_⟩
          obtain ⟨x, hx, rfl⟩ := List.mem_map.1 q
          exact List.mem_map.2 ⟨x, List.mem_filter.2 ⟨hx, by simpa using e⟩, rfl⟩
        unfold WI.T
        rw [hd]
        rfl
    refine ⟨{ h with blk := ?_, und := ?_, fls := ?_, tkn := ?_, row := ?_, pay := fun x hx => (h.pay x hx).keep hkb, apt := ?_, nd := ?_, rng := ?_, srt := ?_, tns := fun x hx => h.tns x (hmem x hx), snf := fun x hx => h.snf x (hmem x hx), bf := ?_ }, hchU, ?_⟩
    · rw [hb4]; rfl
    · show MI W mu _ _
      rcases hmu3 with rfl | ⟨rfl, hz⟩
      · refine hM2'.keep (fun j hj => ?_)
        cases hj
        have hchx : Ch (fun j => j = wb ∨ i.mt = .map (some j)) w2 W := (hch3.mono (fun j _ q => .inl q)).trans hch4 (fun j _ q => q)
        exact hchx.block mb (hM2'.lt rfl) (fun q => q.elim (fun e => hmw e.symm) (fun e => (hmtl mb e).2.2 rfl))
      · rw [show (i.land id (.map none) mt').fs = i.fs.filter (fun f => f.id != id) from rfl, List.length_eq_zero_iff.1 hz]
        exact (MI.nil W).congr (fun k _ => rfl)
    · intro x hx
      have hx' := hmem x hx
      exact ⟨(hoth x.b _ 119 _ (h.fls x hx').blk (by decide)).trans (h.fls x hx').blk, (h.fls x hx').pay.keep hkb⟩
    · rw [hTl]; exact hN4
    · refine own_ch h.row hchW (fun g hg q => ?_)
      obtain ⟨cur, e⟩ := own_lt h.row hg
      rcases q with q | q | q
      · rw [q, h.blk] at e; simp at e
      · obtain ⟨es, cl, e'⟩ := hM.block rfl; rw [q, e'] at e; cases e
      · obtain ⟨es, cl, e'⟩ := h.tkn.block q; rw [e'] at e; cases e
    · intro j hj q
      have q2 := hmt2 j q
      rcases hmu3 with e | ⟨e, -⟩
      · have hj' : mu = .map (some j) := hj
        rw [e] at hj'
        cases hj'
        exact (hmtl mb q2).2.2 rfl
      · have hj' : mu = .map (some j) := hj
        rw [e] at hj'
        cases hj'
    · refine List.Nodup.sublist (List.Sublist.append (List.Sublist.map _ List.filter_sublist) (List.Sublist.refl _)) h.nd
    · intro j hj
      rcases List.mem_append.1 hj with q | q
      · exact h.rng j (List.mem_append.2 (.inl (hids j q).1))
      · exact h.rng j (List.mem_append.2 (.inr q))
    · exact h.srt.sublist List.filter_sublist
    · have := h.bf
      show (i.fs.filter (fun f => f.id != id)).length ≤ i.most
      omega
    · rintro j (q | q | q | q | ⟨x, hx, rfl⟩)
      · exact .inl (.inl q)
      · rcases hmu3 with e | ⟨e, -⟩
        · have q' : mu = .map (some j) := q
          rw [e, ← hmu] at q'
          exact .inl (.inr (.inl q'))
        · have q' : mu = .map (some j) := q
          rw [e] at q'
          cases q'
      · exact .inl (.inr (.inr (.inl (hmt2 j q))))
      · exact .inl (.inr (.inr (.inr (.inl q))))
      · exact .inl (.inr (.inr (.inr (.inr ⟨x, hmem x hx, rfl⟩))))
  have h5 : i.cs[5]? = some (.map (some mb)) := by rw [← hmu]; rfl
  refine land_walk h.blk h5 hrun hb2 (hM2'.len Tryz.underlying94 3) (fun hz => ?_) (fun hz => ?_)
  · exact core _ (.map none) (.inr ⟨rfl, hz⟩) (ch_set wb 5 _) (heap_set hb2 _)
  · exact core w2 (.map (some mb)) (.inl rfl) (Ch.refl _ _) (by rw [hi_same h5]; exact hb2)
end Go.Proofs.YtmihpmmkkklpfaaGreatDoor
namespace Go.Proofs.YtmihpmmkkklpfaaGreatDoor
open Go Go.RowKit Go.Shelf Go.Maps Go.Sort
set_option linter.unusedSimpArgs false
set_option linter.unusedVariables false
/-! ### The window purely -/
open Classical in
noncomputable def abvF (T : Nat → Bool) (last : Nat) : Nat := if h : ∃ id, Abv T last id then Classical.choose h else 0
theorem abvF_is {T : Nat → Bool} {last id : Nat} (hl : last ≤ 65535) (h : Abv T last id) : abvF T last = id := by
  unfold abvF
  rw [dif_pos ⟨id, h⟩]
  exact Abv.uniq hl (Classical.choose_spec (⟨id, h⟩ : ∃ id, Abv T last id)) h
structure Pw where
  most : Nat
  queue : Nat
  on : Bool
  last : Nat
  fl : List Fp
  wt : List Mp
  R : List Nat
structure Pp where
  k : Int
  d : Bool
  id : Int
  m : Mp
def WI.p (i : WI) : Pw := ⟨i.most, i.queue, i.on, i.last, i.fs.map Fm.p, i.L.map Ms.p, i.R⟩
def Pw.T (p : Pw) (j : Nat) : Bool := decide (j ∈ p.fl.map (·.id)) || decide (j ∈ p.R)
theorem WI.T_p (i : WI) : i.p.T = i.T := by
  funext j
  unfold Pw.T WI.T WI.ids WI.p
  have : (i.fs.map Fm.p).map (·.id) = i.fs.map (·.id) := by simp [Function.comp_def, Fm.p]
  rw [this]
noncomputable def pLaunch (p : Pw) (m : Mp) : Pw × Pp := ({ p with last := abvF p.T p.last, fl := p.fl ++ [⟨abvF p.T p.last, false, m⟩] }, ⟨3, false, abvF p.T p.last, m⟩)
noncomputable def pFillL : List Mp → Pw → Pw × List Pp
  | [], p => ({ p with wt := [] }, [])
  | m :: wt, p => if p.on = true ∧ p.fl.length < p.most then ((pFillL wt (pLaunch { p with wt := wt } m).1).1, (pLaunch { p with wt := wt } m).2 :: (pFillL wt (pLaunch { p with wt := wt } m).1).2) else ({ p with wt := m :: wt }, [])
noncomputable def pFill (p : Pw) : Pw × List Pp := pFillL p.wt p
theorem pFill_stop {p : Pw} (h : p.on = false ∨ p.most ≤ p.fl.length ∨ p.wt = []) : pFill p = (p, []) := by
  obtain ⟨m, q, on, last, fl, wt, R⟩ := p
  unfold pFill
  cases wt with
  | nil => rfl
  | cons x wt =>
    simp only at h
    simp only [pFillL]
    rw [if_neg]
    rintro ⟨h1, h2⟩
    rcases h with h | h | h
    · rw [h1] at h; cases h
    · omega
    · cases h
theorem pFill_go {p : Pw} {m : Mp} {wt : List Mp} (h1 : p.on = true) (h2 : p.fl.length < p.most) (h3 : p.wt = m :: wt) : pFill p = ((pFill (pLaunch { p with wt := wt } m).1).1, (pLaunch { p with wt := wt } m).2 :: (pFill (pLaunch { p with wt := wt } m).1).2) := by
  unfold pFill
  rw [h3]
  simp only [pFillL]
  rw [if_pos ⟨h1, h2⟩]
  rfl
theorem launched_p {w w' : World} {wb : Nat} {i : WI} {c' : Nat} {m : Ms} {id b : Nat} {mu mt : Value} (hs : i.last ≤ 65535) (hA : Abv i.T i.last id) : (({ i with last := id } : WI).put b id false m mu mt).p = (pLaunch i.p m.p).1 ∧ (pLaunch i.p m.p).2 = ⟨3, false, id, m.p⟩ := by
  have e : abvF i.p.T i.p.last = id := by
    rw [WI.T_p]
    exact abvF_is hs hA
  unfold pLaunch
  rw [e]
  refine ⟨?_, rfl⟩
  unfold WI.put WI.p
  simp [Fm.p]
/-! ### Packets in a row -/
structure Pq where
  k : Int
  d : Bool
  id : Int
  m : Ms
def Pq.cs (p : Pq) : Array Value := pkc p.k p.d p.m.t p.m.v p.m.q p.m.r p.id
def Pq.p (p : Pq) : Pp := ⟨p.k, p.d, p.id, p.m.p⟩
def prow (L : List Pq) : List Value := L.flatMap (fun p => p.cs.toList)
theorem prow_app (A B : List Pq) : prow (A ++ B) = prow A ++ prow B := by simp [prow]
theorem info51 : (Tryz.prog.info? 66).map (fun i => (i.zero, i.size, i.bytes)) = some (some (.agg (pkc 0 false ⟨#[]⟩ (.slice none 0 0) 0 false 0)), 25, 328) := by kernel_rfl
theorem app_pk {w : World} {B n : Nat} {v : Value} {S : List Pq} (ho : w.ownsRow B 66 25 v n (prow S)) (p : Pq) (hv : ∃ a k c, p.m.v = .slice a k c) (hn : n ≤ 1000000) :
    ∃ g' cap' w', (Builtin.append_ #[38, 38] 38 #[v, .slice (some ⟨w.heap.size, 0, none⟩) 1 1]).run Tryz.prog (w.alloc (.cells p.cs 66)) = .ok (.slice (some ⟨g', 0, none⟩) (n + 1) cap') w' ∧ w'.ownsRow 0 66 25 (.slice (some ⟨g', 0, none⟩) (n + 1) cap') (n + 1) (prow (S ++ [p])) ∧ Ch (fun j => v.ownBlock = some j) w w' ∧ (v.ownBlock = some g' ∨ w.heap.size ≤ g') ∧ Kb w w' := by
  obtain ⟨a, k, c, hv⟩ := hv
  obtain ⟨g', cap', w', h1, h2, h3, h4⟩ := app_gen (st := 38) (e := 66) (cs := p.cs) Tryz.underlying38 info51 rfl (by omega) (by omega) (own0 ho) rfl (by
    intro u hu
    have := pkc_one p.k p.d p.m.t a k c p.m.q p.m.r p.id
    rw [← hv] at this
    exact Array.all_eq_true_iff_forall_mem.1 this u (by simpa [Pq.cs] using hu)) hn
  refine ⟨g', cap', w', h1, by rw [prow_app]; simpa [prow] using h2, h3, h4, Kb.ch h3 (fun j hj cs fz q => ?_)⟩
  obtain ⟨cur, e⟩ := own_lt ho hj
  rw [e] at q
  simp at q
end Go.Proofs.YtmihpmmkkklpfaaGreatDoor
namespace Go.Proofs.YtmihpmmkkklpfaaGreatDoor
open Go Go.RowKit Go.Shelf Go.Maps Go.Sort
set_option linter.unusedSimpArgs false
set_option linter.unusedVariables false
/-! ### fill -/
structure FlI (w wr : World) (wb : Nat) (i ir : WI) (c B : Nat) (sv lv : Value) (n : Nat) (S0 S : List Pq) : Prop where
  ws : WS wr wb ir c
  gd : Gd wr
  ch : Ch (fun j => i.U wb j ∨ sv.ownBlock = some j) w wr
  bl : ∀ j, ir.U wb j → i.U wb j ∨ w.heap.size ≤ j
  own : wr.ownsRow 0 66 25 lv (n + S.length) (prow (S0 ++ S))
  nb : ∀ j, lv.ownBlock = some j → sv.ownBlock = some j ∨ w.heap.size ≤ j
  pay : ∀ p ∈ S0 ++ S, PB wr p.m.v p.m.xs
  len : S.length + ir.L.length = i.L.length
  f1 : (pFill i.p).1 = (pFill ir.p).1
  f2 : (pFill i.p).2 = S.map Pq.p ++ (pFill ir.p).2
def FillOut (w w' : World) (wb : Nat) (i : WI) (c B : Nat) (sv : Value) (n : Nat) (S0 : List Pq) (v : Value) : Prop := ∃ ir S, FlI w w' wb i ir c B sv v n S0 S ∧ ir.p = (pFill i.p).1 ∧ S.map Pq.p = (pFill i.p).2
theorem FlI.drewN {w wr : World} {wb : Nat} {i ir : WI} {c B : Nat} {sv lv : Value} {n : Nat} {S0 S : List Pq} (h : FlI w wr wb i ir c B sv lv n S0 S) (m : Nat) : FlI w (wr.drewN m) wb i ir c B sv lv n S0 S :=
  have hb : Below wr.heap.size wr (wr.drewN m) := below_drewN (Below.refl _ _)
  { h with ws := h.ws.below hb, gd := h.gd.below hb, ch := h.ch.trans (ch_drewN (fun _ => False) wr m) (fun j _ q => q.elim), own := own_below h.own hb, pay := fun p hp => (h.pay p hp).keep (Kb.below hb) }
theorem FlI.stop {w wr : World} {wb : Nat} {i ir : WI} {c B : Nat} {sv lv : Value} {n : Nat} {S0 S : List Pq} (h : FlI w wr wb i ir c B sv lv n S0 S) (hs : ir.on = false ∨ ir.most ≤ ir.fs.length ∨ ir.L = []) : FillOut w wr wb i c B sv n S0 lv := by
  have e := pFill_stop (p := ir.p) (by
    rcases hs with q | q | q
    · exact .inl q
    · exact .inr (.inl (by simpa [WI.p] using q))
    · exact .inr (.inr (by simp [WI.p, q])))
  refine ⟨ir, S, h, ?_, ?_⟩
  · rw [h.f1, e]
  · rw [h.f2, e]; simp
/-- One round: what next and launch leave, and the append behind them. -/
theorem FlI.step {w wr w2 w3 : World} {wb : Nat} {i ir : WI} {c B : Nat} {sv lv : Value} {n : Nat} {S0 S : List Pq} (h : FlI w wr wb i ir c B sv lv n S0 S) (hon : ir.on = true) (hf : ir.fs.length < ir.most) {m : Ms} {L' : List Ms} (hL : ir.L = m :: L') {lv2 : Value} {Z2 : List Ms} (s2 : St wr w2 wb ir { ir with lv := lv2, Z := Z2, L := L' } c) {x : Value} (hl : Launched w2 w3 wb { ir with lv := lv2, Z := Z2, L := L' } c m x) (hn : n + S.length ≤ 1000000) :
    ∃ p : Pq, x = .agg p.cs ∧ ∃ g' cap' w4, (Builtin.append_ #[38, 38] 38 #[lv, .slice (some ⟨w3.heap.size, 0, none⟩) 1 1]).run Tryz.prog (w3.alloc (.cells p.cs 66)) = .ok (.slice (some ⟨g', 0, none⟩) (n + S.length + 1) cap') w4 ∧ ∃ ir', FlI w w4 wb i ir' c B sv (.slice (some ⟨g', 0, none⟩) (n + S.length + 1) cap') n S0 (S ++ [p]) ∧ ir'.L.length + 1 = ir.L.length := by
  obtain ⟨id, b, mu, mt, v', hA, rfl, hp', s3⟩ := hl
  have st := s2.trans s3
  have LP := launched_p (w := w) (w' := w) (wb := wb) (c' := c) (i := { ir with lv := lv2, Z := Z2, L := L' }) (m := m) (b := b) (mu := mu) (mt := mt) h.ws.bs hA
  have hown3 : w3.ownsRow 0 66 25 lv (n + S.length) (prow (S0 ++ S)) := own_ch h.own st.ch (fun g hg u => by
    obtain ⟨cur, e⟩ := own_lt h.own hg
    exact h.ws.other e ⟨_, 66, _, rfl, by decide, by decide, by decide⟩ u)
  refine ⟨⟨3, false, id, ⟨m.t, v', m.q, m.r, m.xs⟩⟩, rfl, ?_⟩
  obtain ⟨g', cap', w4, k1, k2, k3, k4, k5⟩ := app_pk hown3 ⟨3, false, id, ⟨m.t, v', m.q, m.r, m.xs⟩⟩ hp'.sl hn
  have hnU : ∀ j, lv.ownBlock = some j → ∀ (i' : WI), WS w3 wb i' c → ¬ i'.U wb j := fun j hj i' hw u => by
    obtain ⟨cur, e⟩ := own_lt hown3 hj
    exact hw.other e ⟨_, 66, _, rfl, by decide, by decide, by decide⟩ u
  have hkb : Kb wr w4 := (h.ws.kb st.ch).trans k5
  refine ⟨g', cap', w4, k1, _, ⟨st.ws.keep k3 (fun j hj q => hnU j q _ st.ws hj) k5, ?_, ?_, ?_, ?_, ?_, ?_, ?_, ?_, ?_⟩, ?_⟩
  · have g3 := h.gd.ch h.ws st.ch
    obtain ⟨o, ho, hO⟩ := g3.oth
    have he : w4.heap[0]? = w3.heap[0]? := k3.block 0 (Array.getElem?_eq_some_iff.1 ho).1 (fun q => ?_)
    · exact ⟨fun j hj => (cell_heap (by exact he)).trans (g3.tab j hj), o, he.trans ho, hO⟩
    · obtain ⟨cur, e⟩ := own_lt hown3 q
      obtain ⟨cs, t, fz, rfl, -, -, -, h51, -⟩ := hO
      rw [e] at ho
      cases ho
      exact h51 rfl
  · refine (h.ch.trans st.ch (fun j hj u => ?_)).trans k3 (fun j hj q => ?_)
    · exact (h.bl j u).elim .inl (fun e => absurd hj (by omega))
    · exact (h.nb j q).elim .inr (fun e => absurd hj (by omega))
  · exact fun j hj => (st.bl j hj).elim (h.bl j) (fun e => .inr (Nat.le_trans h.ch.size e))
  · rw [← List.append_assoc, List.length_append, List.length_singleton, ← Nat.add_assoc]
    exact k2
  · intro j hj
    simp [Value.ownBlock] at hj
    subst hj
    rcases k4 with q | q
    · exact h.nb _ q
    · exact .inr (Nat.le_trans h.ch.size (Nat.le_trans st.ch.size q))
  · intro p hp
    rw [← List.append_assoc] at hp
    rcases List.mem_append.1 hp with q | q
    · exact (h.pay p q).keep hkb
    · simp only [List.mem_singleton] at q
      subst q
      exact hp'.keep k5
  · have := h.len
    rw [hL] at this
    simp at this ⊢
    show S.length + 1 + L'.length = i.L.length
    omega
  · rw [h.f1, pFill_go (p := ir.p) (m := m.p) (wt := L'.map Ms.p) hon (by simpa [WI.p] using hf) (by simp [WI.p, hL])]
    show _ = (pFill (WI.p _)).1
    rw [LP.1]
    rfl
  · rw [h.f2, pFill_go (p := ir.p) (m := m.p) (wt := L'.map Ms.p) hon (by simpa [WI.p] using hf) (by simp [WI.p, hL])]
    show _ = _ ++ (pFill (WI.p _)).2
    rw [LP.1, List.map_append, List.append_assoc]
    show _ ++ ((pLaunch (WI.p { ir with lv := lv2, Z := Z2, L := L' }) m.p).2 :: _) = _
    rw [LP.2]
    rfl
  · rw [hL]; rfl
set_option maxRecDepth 100000 in
set_option maxHeartbeats 4000000 in
theorem fill_ws {w : World} {wb : Nat} {i : WI} {c : Nat} (h : WS w wb i c) (g : Gd w) (hc : c ≤ 200000) {B n : Nat} {sv : Value} {S0 : List Pq} (ho : w.ownsRow B 66 25 sv n (prow S0)) (hn : n ≤ 100000) (hp : ∀ p ∈ S0, PB w p.m.v p.m.xs) :
    Calls Tryz.prog 48 #[.pointer (some ⟨wb, 0, none⟩), sv] w fun e w' => ∃ v, e = .returned v ∧ FillOut w w' wb i c B sv n S0 v := by
  have F0 := hidi (show FlI w w wb i i c B sv sv n S0 [] from { ws := h, gd := g, ch := Ch.refl _ _, bl := fun j hj => .inl hj, own := by simpa using own0 ho, nb := fun j hj => .inl hj, pay := by simpa using hp, len := by simp, f1 := rfl, f2 := by simp })
  have HC := hidi (And.intro hc (And.intro hn h.bc))
  obtain ⟨nL, hnL⟩ : ∃ nL, nL = i.L.length + 1 := ⟨_, rfl⟩
  have HNL := hidi hnL
  clear h g hc ho hn hp hnL
  go_enter Tryz.func48, Tryz.ntmps48
  go_wp2_with fail
  go_loopg [1] nL (fun gk s1 wx => ∃ (ir : WI) (S : List Pq) (lv : Value), ir.L.length + 1 = gk ∧ lv = s1 ∧ Hid (FlI w wx wb i ir c B sv lv n S0 S))
  case atStart => exact ⟨i, [], _, HNL.out.symm, rfl, F0.out⟩
  case round =>
    obtain ⟨ir, S, lv, hgk, rfl, HI⟩ := hrel
    have hw := HI.out.ws
    have c2 : wr.cell? ⟨wb, 2, none⟩ = some (.bool ir.on) := box_cells hw.blk 2 _ rfl
    have c5 : wr.cell? ⟨wb, 5, none⟩ = some ir.mu := box_cells hw.blk 5 _ rfl
    have c0 : wr.cell? ⟨wb, 0, none⟩ = some (.int .i64 (ir.most : Int)) := box_cells hw.blk 0 _ rfl
    have hlen : ∀ m, (Builtin.len_ #[94] 3 #[ir.mu]).run Tryz.prog (wr.drewN m) = .ok (.int .i64 (ir.fs.length : Int)) (wr.drewN m) := fun m => ((hw.below (below_drewN (Below.refl _ _))).und).len Tryz.underlying94 3
    obtain ⟨la, lc, hlv⟩ := own_sl hw.row
    have hbc := hw.bc
    have hhf := hw.half
    have hcc := HC.out
    have hk : ir.Z.length + ir.L.length ≤ 1000000 := by
      rcases hhf with q | q
      · omega
      · rw [q]; simp; omega
    have H35 := hidi (fun m => length_any (w := wr.drewN m) (wb := wb) (k := ir.Z.length + ir.L.length) (gone := ir.Z.length) (la := la) (lc := lc) (by rw [← hlv]; exact box_cells (hw.below (below_drewN (Below.refl _ _))).blk 6 _ rfl) (box_cells (hw.below (below_drewN (Below.refl _ _))).blk 7 _ rfl) hk (by omega))
    have e1 : ir.Z.length + ir.L.length - ir.Z.length = ir.L.length := by omega
    rw [e1] at H35
    obtain ⟨on, hon⟩ : ∃ on, on = ir.on := ⟨_, rfl⟩
    obtain ⟨mu, hmu⟩ : ∃ mu, mu = ir.mu := ⟨_, rfl⟩
    obtain ⟨mo, hmo⟩ : ∃ mo, mo = ir.most := ⟨_, rfl⟩
    obtain ⟨nf, hnf⟩ : ∃ nf, nf = ir.fs.length := ⟨_, rfl⟩
    obtain ⟨nw, hnw⟩ : ∃ nw, nw = ir.L.length := ⟨_, rfl⟩
    have HE := hidi (And.intro hon (And.intro hmo (And.intro hnf hnw)))
    rw [← hon] at c2
    rw [← hmu] at c5 hlen
    rw [← hmo] at c0
    rw [← hnf] at hlen
    rw [← hnw] at H35
    have STOP := hidi (fun (m : Nat) (hs : ir.on = false ∨ ir.most ≤ ir.fs.length ∨ ir.L = []) => (HI.out.drewN m).stop hs)
    clear hon hmo hnf hnw hmu hlv e1 hk hhf hbc hcc hw
    cases on
    · have Z := hidi (fun m => STOP.out m (.inl HE.out.1.symm))
      clear hlen
      go_wp2_with fail
      go_quiet (fail)
      go_wp2_with fail
      go_ret
      exact ⟨lv, rfl, Z.out _⟩
    · by_cases hf : nf < mo
      · have hf1 : (nf : Int) < (mo : Int) := by omega
        by_cases hw0 : nw = 0
        · have Z := hidi (fun m => STOP.out m (.inr (.inr (List.length_eq_zero_iff.1 (by rw [← HE.out.2.2.2]; exact hw0)))))
          subst hw0
          have g0 : ¬ ((0 : Nat) : Int) > 0 := by omega
          go_wp2_with fail
          go_quiet (first | (go_at_call 74; exact Calls.quiet_of (H35.out _)))
          go_wp2_with fail
          go_ret
          exact ⟨lv, rfl, Z.out _⟩
        · have g0 : (nw : Int) > 0 := by omega
          have g1 : (0 : Int) < (nw : Int) := by omega
          go_wp2_with fail
          go_quiet (first | (go_at_call 74; exact Calls.quiet_of (H35.out _)))
          go_wp2_with fail
          obtain ⟨m, L', hL⟩ : ∃ m L', ir.L = m :: L' := by
            cases e : ir.L with
            | nil => exact absurd (by rw [HE.out.2.2.2, e]; rfl) hw0
            | cons m L' => exact ⟨m, L', rfl⟩
          have hI := HI.out.drewN nq
          obtain ⟨wn, hwn⟩ : ∃ wn, wn = wr.drewN nq := ⟨_, rfl⟩
          rw [← hwn] at hI ⊢
          have hff : ir.fs.length < ir.most := by rw [← HE.out.2.1, ← HE.out.2.2.1]; exact hf
          have HI2 := hidi (And.intro hI (And.intro hL (And.intro hff HE.out.1.symm)))
          have HK := hidi (show ir.L.length < gk by omega)
          clear hI hwn c2 c5 c0 hlen STOP H35 g0 g1 hf1 hff hw0 hf
          refine (next_ws HI2.out.1.ws HC.out.1 HI2.out.2.1).mono ?_
          rintro e w2 ⟨rfl, lv2, Z2, s2⟩
          have hb := HI2.out.1.ws.bc
          have hlL : ir.L.length = L'.length + 1 := by rw [HI2.out.2.1]; rfl
          have LN := hidi (launch_ws (w := w2) (wb := wb) (i := { ir with lv := lv2, Z := Z2, L := L' }) (c := c) (c' := c) (m := m) s2.ws (HI2.out.1.gd.ch HI2.out.1.ws s2.ch) (Nat.le_refl c) (by show ir.la + 1 + L'.length ≤ c ∧ ir.N + 1 + L'.length ≤ c; omega) HC.out.1 HI2.out.2.2.1 ((HI2.out.1.ws.pay m (by rw [HI2.out.2.1]; simp)).keep (HI2.out.1.ws.kb s2.ch)) (HI2.out.1.ws.snl m (by rw [HI2.out.2.1]; simp)))
          have S2 := hidi s2
          clear s2 hb hlL
          unfold mg
          go_wp2_with fail
          go_must (go_at_call 75)
          refine LN.out.mono ?_
          clear LN
          rintro e w3 ⟨x, rfl, hl⟩
          obtain ⟨p, hx, g', cap', w4, hr, ir', hF, hle⟩ := HI2.out.1.step HI2.out.2.2.2 HI2.out.2.2.1 HI2.out.2.1 S2.out hl (by have := HC.out; have := HI2.out.1.len; omega)
          have HR := hidi hr
          have HF := hidi (And.intro hF hle)
          clear hr hF hle hl hL
          subst hx
          simp only [Pq.cs, pkc]
          go_wp2_with (at_builtin; refine Lib.wpList_append_run _ rfl _ _ 38 38 rfl _ _ rfl rfl _ _ HR.out ?_)
          go_roundg (ir'.L.length + 1)
          case measure => have := HF.out.2; have := HK.out; omega
          case rel => exact ⟨ir', S ++ [p], _, rfl, rfl, HF.out.1⟩
      · have hf1 : ¬ (nf : Int) < (mo : Int) := by omega
        have Z := hidi (fun m => STOP.out m (.inr (.inl (by rw [← HE.out.2.1, ← HE.out.2.2.1]; omega))))
        go_wp2_with fail
        go_quiet (fail)
        go_wp2_with fail
        go_ret
        exact ⟨lv, rfl, Z.out _⟩
end Go.Proofs.YtmihpmmkkklpfaaGreatDoor
