import Derived.Test.YtbjhblnagmpnfaaDoorOh
namespace Go.Proofs.YtbjhblnagmpnfaaDoor
open Go Go.RowKit Go.Shelf Go.Maps Go.Sort
set_option linter.unusedSimpArgs false
set_option linter.unusedVariables false
/-! ### The first one that waits -/
def zMs : Ms := ⟨⟨#[]⟩, .slice none 0 0, 0, false, []⟩
theorem mrow_app (A B : List Ms) : mrow (A ++ B) = mrow A ++ mrow B := by simp [mrow]
theorem set_app (A B : List Value) (k : Nat) (x : Value) : (A ++ B).set (A.length + k) x = A ++ B.set k x := by
  induction A with
  | nil => simp
  | cons a A ih =>
    simp only [List.cons_append, List.length_cons]
    rw [show A.length + 1 + k = (A.length + k) + 1 by omega, List.set_cons_succ, ih]
theorem mrow_zap (Z : List Ms) (m : Ms) (L : List Ms) : ((((mrow (Z ++ m :: L)).set (Z.length * 4) (.string ⟨#[]⟩)).set (Z.length * 4 + 1) (.slice none 0 0)).set (Z.length * 4 + 2) (.int .i64 0)).set (Z.length * 4 + 3) (.bool false) = mrow ((Z ++ [zMs]) ++ L) := by
  have e : mrow (m :: L) = .string m.t :: m.v :: .int .i64 m.q :: .bool m.r :: mrow L := rfl
  have e2 : mrow (Z ++ [zMs] ++ L) = mrow Z ++ (.string ⟨#[]⟩ :: .slice none 0 0 :: .int .i64 0 :: .bool false :: mrow L) := by
    rw [mrow_app, mrow_app, List.append_assoc]
    rfl
  rw [e2, mrow_app, e, ← mrow_len Z]
  generalize mrow Z = A
  have h0 := set_app A (.string m.t :: m.v :: .int .i64 m.q :: .bool m.r :: mrow L) 0 (.string ⟨#[]⟩)
  simp only [Nat.add_zero] at h0
  rw [h0, set_app, set_app, set_app]
  simp
theorem zap_take (cur : Array Value) (k p : Nat) : (zap cur p).toList.take k = ((((cur.toList.take k).set p (.string ⟨#[]⟩)).set (p + 1) (.slice none 0 0)).set (p + 2) (.int .i64 0)).set (p + 3) (.bool false) := by
  unfold zap
  simp [List.take_set]
theorem next_ws {w : World} {wb : Nat} {i : WI} {c : Nat} (h : WS w wb i c) (hc : c ≤ 200000) {m : Ms} {L' : List Ms} (hL : i.L = m :: L') :
    Calls Tryd.prog 57 #[.pointer (some ⟨wb, 6, none⟩)] w fun e w' => e = .returned (mg m.t m.v m.q m.r) ∧ ∃ lv Z, St w w' wb i { i with lv := lv, Z := Z, L := L' } c := by
  have hrow := h.row
  have hbc := h.bc
  obtain ⟨n, hn⟩ : ∃ n, n = L'.length := ⟨_, rfl⟩
  have hlen : i.L.length = n + 1 := by rw [hL, hn]; rfl
  have hhalf := h.half
  have hkl : i.Z.length + i.L.length ≤ 1000000 := by
    rcases hhalf with q | q
    · omega
    · rw [q]; simp; omega
  obtain ⟨g, cap, e1, e2, e3, cur, e4, e5⟩ := mrow_cell hrow (j := 0) (by omega)
  have hZL : i.Z.length < (i.Z ++ i.L).length := by simp; omega
  have eg : (i.Z ++ i.L)[i.Z.length] = m := by
    rw [List.getElem_append_right (Nat.le_refl _)]
    simp [hL]
  have hx : ∀ x, x < 4 → cur[i.Z.length * 4 + x]? = m.cs[x]? := fun x hx => by
    have := e5 i.Z.length (by omega) hZL x hx
    rw [eg] at this
    exact this
  have hpm : PB w m.v m.xs := h.pay m (by rw [hL]; simp)
  obtain ⟨pa, pn, pc, hv⟩ := hpm.sl
  have hwg : wb ≠ g := fun q => by rw [← q, h.blk] at e4; simp at e4
  have h6 : i.cs[6]? = some (.slice (some ⟨g, 0, none⟩) (i.Z.length + i.L.length) cap) := by rw [← e1]; rfl
  have hgU : i.lv.ownBlock = some g := by rw [e1]; rfl
  -- what is common to both ends
  have fin : ∀ (w6 : World) (lv : Value) (Z : List Ms), Ch (fun j => j = g ∨ j = wb) w w6 → w6.heap[wb]? = some (.cells (WI.cs { i with lv := lv, Z := Z, L := L' }) 75 (0, 0)) → w6.ownsRow 0 30 4 lv (Z.length + L'.length) (mrow (Z ++ L')) → (Z.length < L'.length ∨ Z = []) → (∀ j, lv.ownBlock = some j → i.lv.ownBlock = some j ∨ w.heap.size ≤ j) → St w w6 wb i { i with lv := lv, Z := Z, L := L' } c := by
    intro w6 lv Z hch hblk hown hhf hnb
    have hchU : Ch (i.U wb) w w6 := hch.mono (fun j _ q => by
      rcases q with q | q
      · exact .inr (.inr (.inr (.inl (by rw [q]; exact hgU))))
      · exact .inl q)
    have hkb := h.kb hchU
    have hoth : ∀ j o, w.heap[j]? = some o → (∀ cs t, o = Obj.cells cs t (0, 0) → t ≠ 30 ∧ t ≠ 75) → w6.heap[j]? = w.heap[j]? := fun j o hj ho => by
      refine hch.block j (Array.getElem?_eq_some_iff.1 hj).1 (fun q => ?_)
      rcases q with q | q
      · rw [q, e4] at hj; cases hj; exact (ho _ _ rfl).1 rfl
      · rw [q, h.blk] at hj; cases hj; exact (ho _ _ rfl).2 rfl
    refine ⟨{ h with blk := hblk, und := ?_, fls := ?_, tkn := ?_, row := hown, pay := ?_, half := hhf, snl := ?_, bl := ?_, bc := ?_ }, hchU, ?_⟩
    · refine h.und.keep (fun b hb => ?_)
      obtain ⟨es, cl, e⟩ := h.und.block hb
      exact hoth b _ e (fun cs t q => by cases q)
    · intro f hf
      exact ⟨(hoth f.b _ (h.fls f hf).blk (fun cs t q => by cases q; exact ⟨by decide, by decide⟩)).trans (h.fls f hf).blk, (h.fls f hf).pay.keep hkb⟩
    · refine h.tkn.keep (fun b hb => ?_)
      obtain ⟨es, cl, e⟩ := h.tkn.block hb
      exact hoth b _ e (fun cs t q => by cases q)
    · exact fun x hx => (h.pay x (by rw [hL]; exact List.mem_cons_of_mem _ hx)).keep hkb
    · exact fun x hx => h.snl x (by rw [hL]; exact List.mem_cons_of_mem _ hx)
    · have := h.bl
      show L'.length ≤ i.queue
      omega
    · show i.la + L'.length ≤ c ∧ i.N + L'.length ≤ c
      omega
    · rintro j (q | q | q | q | q)
      · exact .inl (.inl q)
      · exact .inl (.inr (.inl q))
      · exact .inl (.inr (.inr (.inl q)))
      · exact (hnb j q).elim (fun e => .inl (.inr (.inr (.inr (.inl e))))) .inr
      · exact .inl (.inr (.inr (.inr (.inr q))))
  have h7 : ∀ k, cur.toList.take ((i.Z.length + i.L.length) * 4) = k → k = mrow (i.Z ++ i.L) := fun k q => by
    rcases hrow.2 with ⟨_, z⟩ | ⟨g', cap', cur', a1, a2, a3, a4, a5, a6, a7⟩
    · omega
    · rw [e1] at a1
      simp only [Value.slice.injEq, Option.some.injEq, Addr.mk.injEq] at a1
      obtain ⟨⟨rfl, -⟩, -⟩ := a1
      rw [e4] at a3
      cases a3
      rw [← q, a7]
  refine (next_walk (R := fun w' => ∃ lv Z, St w w' wb i { i with lv := lv, Z := Z, L := L' } c) (gone := i.Z.length) (t := m.t) (a := pa) (n := pn) (c := pc) (q := m.q) (r := m.r) h.blk h6 rfl hkl (by omega) e2 hwg e4 (hx 0 (by omega)) (by rw [hx 1 (by omega), ← hv]; rfl) (hx 2 (by omega)) (hx 3 (by omega)) ?_ ?_).mono ?_
  · intro hle w4 hch4 hb4 hg4 hs4 ad had
    obtain ⟨i0, hi, hz0, hz1, hz2⟩ := info_parts info30
    have hkm : i.Z.length + i.L.length - (i.Z.length + 1) = n := by omega
    rw [hkm]
    obtain ⟨v', w5, hr, ho5, hg5, -, hv5⟩ := run_append_own_at (P := Tryd.prog) w4 w4.heap.size 39 39 30 i0 _ 4 56 Tryd.underlying39 hi hz0 hz1 hz2 rfl (by omega) (.slice none 0 0) 0 [] (World.ownsRow_nil _ _ _ _) ad n (cap - (i.Z.length + 1)) (mrow L') (by rw [mrow_len, hn]) (fun j u hu => by
      have hj : j < L'.length * 4 := by have := (List.getElem?_eq_some_iff.1 hu).1; rw [mrow_len] at this; exact this
      have hne : ¬ cap = i.Z.length + 1 := by omega
      obtain ⟨-, rfl⟩ := had.resolve_left (fun q => hne q.1)
      have e6 : (⟨g, (i.Z.length + 1) * 4, none⟩ : Addr).add j = ⟨g, (i.Z.length + 1) * 4 + j, none⟩ := by unfold Addr.add; split <;> simp_all
      rw [e6]
      refine box_cells hg4 _ _ ?_
      unfold zap
      rw [Array.getElem?_setIfInBounds_ne (by omega), Array.getElem?_setIfInBounds_ne (by omega), Array.getElem?_setIfInBounds_ne (by omega), Array.getElem?_setIfInBounds_ne (by omega)]
      have q1 := h7 _ rfl
      have q2 := congrArg (fun l => l[(i.Z.length + 1) * 4 + j]?) q1
      simp only [List.getElem?_take] at q2
      rw [if_pos (by omega)] at q2
      rw [← hu]
      have q3 : (mrow (i.Z ++ i.L))[(i.Z.length + 1) * 4 + j]? = (mrow L')[j]? := by
        rw [hL, show i.Z ++ m :: L' = (i.Z ++ [m]) ++ L' by simp, mrow_app, List.getElem?_append_right (by rw [mrow_len, List.length_append, List.length_singleton]; omega), mrow_len, List.length_append, List.length_singleton, Nat.add_sub_cancel_left]
      rw [← q3, ← q2]
      simp) (fun u hu => by
      obtain ⟨x, hx', hu'⟩ := List.mem_flatMap.1 hu
      have hpx := h.pay x (by rw [hL]; exact List.mem_cons_of_mem _ hx')
      obtain ⟨xa, xn, xc, hxv⟩ := hpx.sl
      unfold Ms.cs at hu'
      rw [hxv] at hu'
      simp at hu'
      rcases hu' with rfl | rfl | rfl | rfl <;> rfl) (by unfold maxLen; omega) (by omega) (Nat.le_refl _)
    simp only [Nat.zero_add, List.nil_append] at ho5
    have hb5 : Below w4.heap.size w4 w5 := ⟨hg5.os, hg5.tape, hg5.output, hg5.size, fun k hk => hg5.block k hk (fun q => by simp [Value.ownBlock] at q)⟩
    refine ⟨v', w5, hr, ?_, hb5, fun w6 hch6 hb6 => ?_⟩
    · obtain ⟨a, c, q⟩ := own_sl ho5
      exact ⟨_, _, _, q⟩
    have hvl : ∀ j, v'.ownBlock = some j → w4.heap.size ≤ j := fun j hj => by
      rcases ho5.2 with ⟨q, _⟩ | ⟨g', cap', cur', q, q1, _⟩
      · rw [q] at hj; simp [Value.ownBlock] at hj
      · rw [q] at hj; simp [Value.ownBlock] at hj; omega
    refine ⟨v', [], fin w6 v' [] ?_ ?_ ?_ (.inr rfl) (fun j hj => .inr (by have := hvl j hj; omega))⟩
    · exact (hch4.trans (Below.ch (S := fun j => j = g ∨ j = wb) hb5) (fun j _ q => q)).trans hch6 (fun j hj q => q.elim .inr (fun e => absurd hj (by omega)))
    · rw [hb6]; rfl
    · have := own_ch (own0 ho5) hch6 (fun j hj q => by
        have := hvl j hj
        have hwl := h.lt (j := wb) (.inl rfl)
        have := hch4.size
        rcases q with q | q <;> omega)
      simpa [hn] using this
  · intro hlt w6 hch6 hb6 hg6
    refine ⟨i.lv, i.Z ++ [zMs], fin w6 i.lv (i.Z ++ [zMs]) hch6 ?_ ?_ (.inl (by simp; omega)) (fun j hj => .inl hj)⟩
    · rw [hb6]
      unfold WI.cs
      simp
    · have hk : (i.Z ++ [zMs]).length + L'.length = i.Z.length + i.L.length := by simp; omega
      rw [hk]
      rcases hrow.2 with ⟨_, z⟩ | ⟨g', cap', cur', a1, a2, a3, a4, a5, a6, a7⟩
      · omega
      · have a1' := a1
        rw [e1] at a1'
        simp only [Value.slice.injEq, Option.some.injEq, Addr.mk.injEq] at a1'
        obtain ⟨⟨rfl, -⟩, -⟩ := a1'
        rw [e4] at a3
        cases a3
        refine ⟨by rw [mrow_len]; simp; omega, .inr ⟨g, cap', zap cur (i.Z.length * 4), a1, a2, hg6, a4, a5, by simpa [zap] using a6, ?_⟩⟩
        rw [zap_take, a7, hL, mrow_zap]
  · rintro e w' ⟨rfl, hR⟩
    exact ⟨by rw [hv], hR⟩
end Go.Proofs.YtbjhblnagmpnfaaDoor
