import Derived.Test.YtmihpmmkkklpfaaGreatDoorBOe
import Derived.Laws.Tables
namespace Go.Proofs.YtmihpmmkkklpfaaGreatDoor
open Go Go.RowKit Go.Shelf Go.Maps Go.Sort
set_option linter.unusedSimpArgs false
set_option linter.unusedVariables false
/-! ### Window.put, by the state -/
theorem lookF_app (fs : List Fm) (f : Fm) (hn : ∀ g ∈ fs, g.id ≠ f.id) (k : Int) : (lookF (fs ++ [f]) k).map pt = setF (fun k => (lookF fs k).map pt) (f.id : Int) (some (pt f.b)) k := by
  unfold setF
  by_cases e : k = (f.id : Int)
  · rw [if_pos e]
    subst e
    have h0 : fs.find? (fun g => decide ((g.id : Int) = (f.id : Int))) = none := by
      rw [List.find?_eq_none]
      intro g hg
      have := hn g hg
      simp
      omega
    unfold lookF
    rw [List.find?_append, h0]
    simp
  · rw [if_neg e]
    unfold lookF
    rw [List.find?_append]
    have : ([f].find? (fun g => decide ((g.id : Int) = k))) = none := by
      simp only [List.find?_cons]
      rw [decide_eq_false (fun q => e q.symm)]
      rfl
    rw [this]
    simp
/-- What put lays down. -/
def WI.put (i : WI) (b id : Nat) (rel : Bool) (m : Ms) (mu mt : Value) : WI := { i with la := i.la + 1, fs := i.fs ++ [⟨b, i.la, id, rel, m⟩], mu := mu, mt := mt, N := i.N + 1 }
theorem WI.T_put (i : WI) (b id : Nat) (rel : Bool) (m : Ms) (mu mt : Value) : (i.put b id rel m mu mt).T = setT i.T id true := by
  funext j
  unfold WI.T setT WI.put WI.ids
  by_cases e : j = id
  · subst e; simp
  · simp [e]
theorem put_core {w wA : World} {wb : Nat} {i : WI} {c c' : Nat} (h : WS w wb i c) (hc : i.la + 1 + i.L.length ≤ c' ∧ i.N + 1 + i.L.length ≤ c') (hc' : c' ≤ 200000) (hf : i.fs.length < i.most) {b id mb : Nat} {rel : Bool} {m : Ms} (hid : 1 ≤ id ∧ id ≤ 65535) (hT : i.T id = false) (hp : PB w m.v m.xs) (hs : (rel = true → m.zero) ∧ (rel = false → Sn m.q))
    (hch : Ch (fun j => j = wb) w wA) (hwb : wA.heap[wb]? = some (.cells (i.cs.setIfInBounds 5 (.map (some mb))) 101 (0, 0))) {bx : Array Value} (hbox : wA.heap[w.heap.size]? = some (.cells bx 108 (0, 0))) (hfl : wA.heap[b]? = some (.cells (Fm.cs ⟨b, i.la, id, rel, m⟩) 119 (0, 0))) (hb : w.heap.size ≤ b)
    (hM : MI wA (.map (some mb)) i.fs.length (fun k => (lookF i.fs k).map pt)) (hmb : i.mu = .map (some mb) ∨ (i.mu = .map none ∧ mb = w.heap.size + 1)) :
    ∃ w3, (Instr.mapUpdate 94 (.map (some mb)) (.int .i64 (id : Int)) (.pointer (some ⟨b, 0, none⟩))).run Tryz.prog wA = .ok () w3 ∧ w3.heap[wb]? = some (.cells (i.cs.setIfInBounds 5 (.map (some mb))) 101 (0, 0)) ∧ w3.heap[w.heap.size]? = some (.cells bx 108 (0, 0)) ∧ Calls Tryz.prog 92 #[.pointer (some ⟨wb, 8, none⟩), .int .i64 (id : Int)] w3.drew (fun e w4 => e = .returned (.tuple #[]) ∧ w4.cell? ⟨wb, 4, none⟩ = some (.int .i64 (i.la : Int)) ∧ w4.frozen? ⟨wb, 4, none⟩ = false ∧ ∃ b mu mt, St w (w4.setCell ⟨wb, 4, none⟩ (.int .i64 ((i.la + 1 : Nat) : Int))) wb i (i.put b id rel m mu mt) c') := by
  have hwl : wb < w.heap.size := h.lt (.inl rfl)
  have hnew : ∀ f ∈ i.fs, f.id ≠ id := fun f hf e => by
    have : i.T id = true := by unfold WI.T WI.ids; rw [decide_eq_true (List.mem_map.2 ⟨f, hf, e⟩)]; rfl
    rw [hT] at this; cases this
  have hnR : id ∉ i.R := fun e => by
    have : i.T id = true := by unfold WI.T; rw [decide_eq_true e]; simp
    rw [hT] at this; cases this
  have hok : okI (id : Int) := okI_nat id (by omega)
  have hbm := h.bm
  obtain ⟨w3, hrun, hM3, hch3⟩ := hM.put Tryz.underlying94 hok (.pointer (some ⟨b, 0, none⟩)) (by unfold maxLen; omega)
  have hszA : w.heap.size ≤ wA.heap.size := hch.size
  have hmbo : ∃ es cl, wA.heap[mb]? = some (.map es cl) := hM.block rfl
  have hmw : wb ≠ mb := fun e => by obtain ⟨es, cl, q⟩ := hmbo; rw [← e, hwb] at q; cases q
  have hmx : w.heap.size ≠ mb := fun e => by obtain ⟨es, cl, q⟩ := hmbo; rw [← e, hbox] at q; cases q
  have hmf : b ≠ mb := fun e => by obtain ⟨es, cl, q⟩ := hmbo; rw [← e, hfl] at q; cases q
  have hwb3 : w3.heap[wb]? = some (.cells (i.cs.setIfInBounds 5 (.map (some mb))) 101 (0, 0)) := (hch3.block wb (by omega) hmw).trans hwb
  have hbox3 : w3.heap[w.heap.size]? = some (.cells bx 108 (0, 0)) := (hch3.block _ (Array.getElem?_eq_some_iff.1 hbox).1 hmx).trans hbox
  have hfl3 : w3.heap[b]? = some (.cells (Fm.cs ⟨b, i.la, id, rel, m⟩) 119 (0, 0)) := (hch3.block _ (Array.getElem?_eq_some_iff.1 hfl).1 hmf).trans hfl
  have hcs8 : (i.cs.setIfInBounds 5 (.map (some mb)))[8]? = some i.mt := rfl
  have hmtl : ∀ j, i.mt = .map (some j) → j < w.heap.size ∧ j ≠ wb ∧ j ≠ mb := fun j hj => by
    obtain ⟨es, cl, e⟩ := h.tkn.block hj
    refine ⟨(Array.getElem?_eq_some_iff.1 e).1, fun q => ?_, fun q => ?_⟩
    · rw [q, h.blk] at e; cases e
    · rcases hmb with q1 | ⟨-, q1⟩
      · exact h.apt mb q1 (by rw [hj, q])
      · have := (Array.getElem?_eq_some_iff.1 e).1; omega
  have hst : Ch (fun j => j = wb ∨ j = mb) w w3 := (hch.mono (fun j _ q => .inl q)).trans hch3 (fun j _ q => .inr q)
  have hN3 : NT w3.drew i.mt i.T i.N := h.tkn.keep (fun j hj => by
    obtain ⟨l1, l2, l3⟩ := hmtl j hj
    exact hst.block j l1 (fun q => q.elim l2 l3))
  refine ⟨w3, hrun, hwb3, hbox3, ?_⟩
  have hbc := h.bc
  refine (put_any hN3 (nb := wb) (i := 8) (t := 101) hwb3 hcs8 id hid.2 (by omega)).mono ?_
  rintro e w4 ⟨rfl, mb2, hmb2, hN4, hwb4, hch4⟩
  refine ⟨rfl, box_cells hwb4 4 _ rfl, box_frozen hwb4 4, b, .map (some mb), .map (some mb2), ?_⟩
  obtain ⟨W, hW⟩ : ∃ W, W = w4.setCell ⟨wb, 4, none⟩ (.int .i64 ((i.la + 1 : Nat) : Int)) := ⟨_, rfl⟩
  rw [← hW]
  have hchW : Ch (fun j => j = wb ∨ j = mb ∨ i.mt = .map (some j)) w W := by
    rw [hW]
    refine ((hst.mono (fun j _ q => q.elim .inl (fun e => .inr (.inl e)))).trans (ch_drew (fun _ => False) w3 |>.mono (fun _ _ q => q.elim)) (fun j _ q => q)).trans ?_ (fun j _ q => q)
    refine (hch4.mono (fun j _ q => q.elim .inl (fun e => .inr (.inr e)))).trans (ch_set wb 4 _) (fun j _ q => .inl q)
  have hch3W : Ch (fun j => j = wb ∨ i.mt = .map (some j)) w3 W := by
    rw [hW]
    exact ((ch_drew (fun _ => False) w3 |>.mono (fun _ _ q => q.elim)).trans (hch4.mono (fun j _ q => q.elim .inl .inr)) (fun j _ q => q)).trans (ch_set wb 4 _) (fun j _ q => .inl q)
  have hWb : W.heap[wb]? = some (.cells (i.put b id rel m (.map (some mb)) (.map (some mb2))).cs 101 (0, 0)) := by
    rw [hW, heap_set hwb4]
    rfl
  have hmbl : ∀ j, j < w.heap.size → j = mb → i.mu = .map (some j) := fun j hj q => by
    rcases hmb with q1 | ⟨-, q1⟩
    · rw [q1, q]
    · omega
  have hchU : Ch (i.U wb) w W := hchW.mono (fun j hj q => by
    rcases q with q | q | q
    · exact .inl q
    · exact .inr (.inl (hmbl j hj q))
    · exact .inr (.inr (.inl q)))
  have hkb : Kb w W := h.kb hchU
  have hoth : ∀ (j : Nat) (cs : Array Value) (t : Nat) (fz : Nat × Nat), w.heap[j]? = some (Obj.cells cs t fz) → t ≠ 101 → W.heap[j]? = w.heap[j]? := fun j cs t fz hj ht => by
    have hl := (Array.getElem?_eq_some_iff.1 hj).1
    refine hchW.block j hl (fun q => ?_)
    rcases q with q | q | q
    · rw [q, h.blk] at hj; simp at hj; exact ht hj.2.1.symm
    · obtain ⟨es, cl, e⟩ := h.und.block (hmbl j hl q); rw [e] at hj; cases hj
    · obtain ⟨es, cl, e⟩ := h.tkn.block q; rw [e] at hj; cases hj
  have hmb2l : ∀ j, (Value.map (some mb2)) = .map (some j) → i.mt = .map (some j) ∨ (w3.heap.size ≤ j) := fun j e => by
    cases e
    rcases hmb2 with q | ⟨q, q2⟩
    · exact .inl q
    · exact .inr (by rw [q2]; exact Nat.le_refl _)
  refine ⟨?_, hchU, ?_⟩
  · refine { blk := hWb, und := ?_, fls := ?_, tkn := ?_, row := ?_, pay := fun x hx => (h.pay x hx).keep hkb, half := h.half, apt := ?_, nd := ?_, rng := ?_, srt := ?_, tns := ?_, snf := ?_, snl := h.snl, bm := h.bm, bq := h.bq, bf := ?_, bl := h.bl, br := h.br, bs := h.bs, bc := ?_ }
    · have hM4 := hM3.congr (g := fun k => (lookF (i.fs ++ [⟨b, i.la, id, rel, m⟩]) k).map pt) (fun k hk => lookF_app i.fs ⟨b, i.la, id, rel, m⟩ hnew k)
      have e1 : szF (fun k => (lookF i.fs k).map pt) (id : Int) i.fs.length = i.fs.length + 1 := by
        have e0 : lookF i.fs (id : Int) = none := lookF_none (fun f hf q => hnew f hf (by omega))
        unfold szF
        simp [e0]
      rw [e1] at hM4
      show MI W (.map (some mb)) (i.fs ++ [_]).length _
      rw [List.length_append]
      refine hM4.keep (fun j hj => ?_)
      cases hj
      exact hch3W.block mb (hM3.lt rfl) (fun q => q.elim (fun e => hmw e.symm) (fun e => (hmtl mb e).2.2 rfl))
    · intro f hf'
      rcases List.mem_append.1 hf' with q | q
      · have hb0 := (h.fls f q).blk
        exact ⟨(hoth f.b _ 119 _ hb0 (by decide)).trans hb0, (h.fls f q).pay.keep hkb⟩
      · simp only [List.mem_singleton] at q
        subst q
        refine ⟨(hch3W.block b (Array.getElem?_eq_some_iff.1 hfl3).1 (fun q => ?_)).trans hfl3, hp.keep hkb⟩
        rcases q with q | q
        · have q' : b = wb := q; omega
        · have := (hmtl b q).1; omega
    · rw [WI.T_put]
      refine hN4.keep (fun j hj => ?_)
      rw [hW]
      refine heap_set_ne _ (fun q => ?_)
      obtain ⟨es, cl, e⟩ := hN4.block hj
      rw [q, hwb4] at e
      cases e
    · refine own_ch h.row hchW (fun g hg q => ?_)
      obtain ⟨cur, e⟩ := own_lt h.row hg
      rcases q with q | q | q
      · rw [q, h.blk] at e; simp at e
      · obtain ⟨es, cl, e'⟩ := h.und.block (hmbl g (Array.getElem?_eq_some_iff.1 e).1 q); rw [e'] at e; cases e
      · obtain ⟨es, cl, e'⟩ := h.tkn.block q; rw [e'] at e; cases e
    · intro j hj q
      cases hj
      rcases hmb2l mb q with q1 | q1
      · exact (hmtl mb q1).2.2 rfl
      · have := hM3.lt (b := mb) rfl; omega
    · have hp' : ((i.put b id rel m (.map (some mb)) (.map (some mb2))).ids ++ i.R).Perm (id :: (i.ids ++ i.R)) := by
        show (((i.fs ++ [(⟨b, i.la, id, rel, m⟩ : Fm)]).map Fm.id) ++ i.R).Perm _
        rw [List.map_append, List.append_assoc]
        exact List.perm_middle
      refine (hp'.nodup_iff).2 (List.nodup_cons.2 ⟨fun q => ?_, h.nd⟩)
      rcases List.mem_append.1 q with q | q
      · obtain ⟨f, hf, e⟩ := List.mem_map.1 q
        exact hnew f hf e
      · exact hnR q
    · intro j hj
      rcases List.mem_append.1 hj with q | q
      · obtain ⟨f, hf', rfl⟩ := List.mem_map.1 q
        rcases List.mem_append.1 hf' with q | q
        · exact h.rng _ (List.mem_append.2 (.inl (List.mem_map.2 ⟨f, q, rfl⟩)))
        · simp only [List.mem_singleton] at q
          subst q
          exact hid
      · exact h.rng _ (List.mem_append.2 (.inr q))
    · refine List.pairwise_append.2 ⟨h.srt, List.pairwise_singleton _ _, fun a ha x hx => ?_⟩
      simp only [List.mem_singleton] at hx
      subst hx
      exact h.tns a ha
    · intro f hf'
      rcases List.mem_append.1 hf' with q | q
      · exact Nat.lt_succ_of_lt (h.tns f q)
      · simp only [List.mem_singleton] at q
        subst q
        exact Nat.lt_succ_self _
    · intro f hf'
      rcases List.mem_append.1 hf' with q | q
      · exact h.snf f q
      · simp only [List.mem_singleton] at q
        subst q
        exact hs
    · show (i.fs ++ [_]).length ≤ i.most
      simp
      omega
    · exact hc
  · rintro j (q | q | q | q | ⟨f, hf', rfl⟩)
    · exact .inl (.inl q)
    · cases q
      rcases hmb with q1 | ⟨-, q1⟩
      · exact .inl (.inr (.inl q1))
      · exact .inr (by omega)
    · rcases hmb2l j q with q1 | q1
      · exact .inl (.inr (.inr (.inl q1)))
      · exact .inr (Nat.le_trans hst.size q1)
    · exact .inl (.inr (.inr (.inr (.inl q))))
    · rcases List.mem_append.1 hf' with q | q
      · exact .inl (.inr (.inr (.inr (.inr ⟨f, q, rfl⟩))))
      · simp only [List.mem_singleton] at q
        subst q
        exact .inr hb
theorem ws_put {w : World} {wb : Nat} {i : WI} {c c' : Nat} (h : WS w wb i c) (hc : i.la + 1 + i.L.length ≤ c' ∧ i.N + 1 + i.L.length ≤ c') (hc' : c' ≤ 200000) (hf : i.fs.length < i.most) {id : Nat} {rel : Bool} {m : Ms} (hid : 1 ≤ id ∧ id ≤ 65535) (hT : i.T id = false) (hp : PB w m.v m.xs) (hs : (rel = true → m.zero) ∧ (rel = false → Sn m.q)) :
    Calls Tryz.prog 66 #[.pointer (some ⟨wb, 0, none⟩), .agg #[.int .i64 (id : Int), .string m.t, m.v, .int .i64 m.q, .bool m.r, .bool rel]] w fun e w' => e = .returned (.tuple #[]) ∧ ∃ b mu mt, St w w' wb i (i.put b id rel m mu mt) c' := by
  obtain ⟨t, v, q, r, xs⟩ := m
  obtain ⟨pa, pn, pc, hv⟩ := hp.sl
  simp only at hv
  subst hv
  have hwl : wb < w.heap.size := h.lt (.inl rfl)
  have hbc := h.bc
  have h4 : i.cs[4]? = some (.int .i64 (i.la : Int)) := rfl
  rcases h.und.mk with hmu | ⟨mb, hmu⟩
  · have h5 : i.cs[5]? = some (.map none) := by rw [← hmu]; rfl
    have hn0 : i.fs.length = 0 := by
      rcases h.und with ⟨-, q, -⟩ | ⟨mb, D, q, -⟩
      · exact q
      · rw [hmu] at q; cases q
    refine put44_nil (R := fun w' => ∃ b mu mt, St w w' wb i (i.put b id rel ⟨t, .slice pa pn pc, q, r, xs⟩ mu mt) c') (by omega) h.blk h5 h4 (fun w1 w2 hch h1 h2 h3 hb => ?_)
    have hl1 : w.heap.size + 1 < w1.heap.size := (Array.getElem?_eq_some_iff.1 h3).1
    have hbA : Below w1.heap.size w1 (w2.alloc (.cells (Fm.cs ⟨w2.heap.size, i.la, id, rel, ⟨t, .slice pa pn pc, q, r, xs⟩⟩) 119)) := hb.alloc hb.size _
    obtain ⟨w3, k1, k2, k3, k4⟩ := put_core (wA := w2.alloc (.cells (Fm.cs ⟨w2.heap.size, i.la, id, rel, ⟨t, .slice pa pn pc, q, r, xs⟩⟩) 119)) (b := w2.heap.size) (mb := w.heap.size + 1) h hc hc' hf hid hT hp hs (hch.trans (Below.ch (S := fun j => j = wb) hbA) (fun j _ q => q)) (later_at h1 hbA) (later_at h2 hbA) (heap_alloc_new w2 _) (by have := hb.size; omega)
      (by
        have hm := MI.made (w.alloc (.cells #[] 0))
        have hsz : (w.alloc (.cells #[] 0)).heap.size = w.heap.size + 1 := by simp
        rw [hsz] at hm
        rw [hn0]
        refine (hm.keep (w' := w2.alloc (.cells (Fm.cs ⟨w2.heap.size, i.la, id, rel, ⟨t, .slice pa pn pc, q, r, xs⟩⟩) 119)) (fun j hj => ?_)).congr (fun k hk => ?_)
        · cases hj
          rw [later_at h3 hbA]
          have := heap_alloc_new (w.alloc (.cells #[] 0)) (.map #[] 0)
          rw [hsz] at this
          exact this.symm
        · have := List.length_eq_zero_iff.1 hn0
          rw [this]
          rfl)
      (.inr ⟨hmu, rfl⟩)
    exact ⟨w3, k1, ⟨box_cells k2 5 _ rfl, box_cells k2 4 _ rfl, box_cells k3 0 _ rfl, box_cells k3 1 _ rfl, box_cells k3 2 _ rfl, box_cells k3 3 _ rfl, box_cells k3 4 _ rfl, box_cells k3 5 _ rfl⟩, k4⟩
  · have h5 : i.cs[5]? = some (.map (some mb)) := by rw [← hmu]; rfl
    have hcs : i.cs.setIfInBounds 5 (.map (some mb)) = i.cs := hi_same h5
    refine put44_some (R := fun w' => ∃ b mu mt, St w w' wb i (i.put b id rel ⟨t, .slice pa pn pc, q, r, xs⟩ mu mt) c') (by omega) h.blk h5 h4 (fun w1 w2 hch h1 h2 hb => ?_)
    have hbA : Below w1.heap.size w1 (w2.alloc (.cells (Fm.cs ⟨w2.heap.size, i.la, id, rel, ⟨t, .slice pa pn pc, q, r, xs⟩⟩) 119)) := hb.alloc hb.size _
    have hchA : Ch (fun j => j = wb) w (w2.alloc (.cells (Fm.cs ⟨w2.heap.size, i.la, id, rel, ⟨t, .slice pa pn pc, q, r, xs⟩⟩) 119)) := hch.trans (Below.ch (S := fun j => j = wb) hbA) (fun j _ q => q)
    obtain ⟨w3, k1, k2, k3, k4⟩ := put_core (wA := w2.alloc (.cells (Fm.cs ⟨w2.heap.size, i.la, id, rel, ⟨t, .slice pa pn pc, q, r, xs⟩⟩) 119)) (b := w2.heap.size) (mb := mb) h hc hc' hf hid hT hp hs hchA (by rw [hcs]; exact later_at h1 hbA) (later_at h2 hbA) (heap_alloc_new w2 _) (by have := hb.size; have := hch.size; omega)
      (by
        have hm := h.und
        rw [hmu] at hm
        refine hm.keep (fun j hj => hchA.block j (hm.lt hj) (fun q => ?_))
        obtain ⟨es, cl, e⟩ := hm.block hj
        rw [q, h.blk] at e
        cases e)
      (.inl hmu)
    exact ⟨w3, k1, ⟨box_cells k2 5 _ rfl, box_cells k2 4 _ rfl, box_cells k3 0 _ rfl, box_cells k3 1 _ rfl, box_cells k3 2 _ rfl, box_cells k3 3 _ rfl, box_cells k3 4 _ rfl, box_cells k3 5 _ rfl⟩, k4⟩
end Go.Proofs.YtmihpmmkkklpfaaGreatDoor
namespace Go.Proofs.YtmihpmmkkklpfaaGreatDoor
open Go Go.RowKit Go.Shelf Go.Maps Go.Sort
set_option linter.unusedSimpArgs false
set_option linter.unusedVariables false
/-! ### Packets that are sent -/
def pkc (k : Int) (d : Bool) (t : ByteArray) (v : Value) (q : Int) (r : Bool) (id : Int) : Array Value := #[.int .i64 k, .int .i64 0, .bool false, .int .i64 0, .string ⟨#[]⟩, .bool false, .string ⟨#[]⟩, .slice none 0 0, .int .i64 0, .bool false, .bool false, .string ⟨#[]⟩, .bool false, .slice none 0 0, .bool false, .int .i64 0, .bool d, .string t, v, .int .i64 q, .bool r, .int .i64 id, .slice none 0 0, .slice none 0 0, .slice none 0 0]
theorem pkc_info : (Tryz.prog.info? 66).map (·.size) = some 25 := by kernel_rfl
theorem pkc_one (k : Int) (d : Bool) (t : ByteArray) (a : Option Addr) (n c : Nat) (q : Int) (r : Bool) (id : Int) : (pkc k d t (.slice a n c) q r id).all (·.oneCell') = true := by simp [pkc, Value.oneCell']
theorem wpList_build_to {ops : Array Oper} {rest : List Oper} {o : Oper} {a : Act} {w : World} {Q : Exit → Act → World → Prop} (hg : o.guard = none) (t : TypeId) (parts : Array (Nat × Operand)) (ho : o.op = .build t parts) (cells : Array Value)
    (hf : Tryz.prog.built t (parts.map fun (i, x) => (i, a.eval x)).toList = some cells) (h : wpList Tryz.prog ops Q rest (a.put o.dst (.agg cells)) w) : wpList Tryz.prog ops Q (o :: rest) a w :=
  wpList_build hg t parts ho (by rw [hf]; rfl) (by rw [hf]; exact h)
theorem built_rel (id : Int) : Tryz.prog.built 66 [(0, .int .i64 6), (15, .int .i64 id)] = some (pkc 6 false ⟨#[]⟩ (.slice none 0 0) 0 false id) := by kernel_rfl
theorem built_dup (t : ByteArray) (a : Option Addr) (n c : Nat) (q : Int) (r : Bool) (id : Int) : Tryz.prog.built 66 [(0, .int .i64 3), (13, .bool true), (14, .agg #[.string t, .slice a n c, .int .i64 q, .bool r]), (15, .int .i64 id)] = some (pkc 3 true t (.slice a n c) q r id) := by kernel_rfl
theorem setRow_at {w : World} {g t : Nat} {cs cells : Array Value} {fz : Nat × Nat} (h : w.heap[g]? = some (.cells cs t fz)) : (w.setRow g cells).heap[g]? = some (.cells cells t fz) := by
  simp [World.setRow, Array.getElem?_modify, h]
theorem setRow_ne {w : World} {g j : Nat} {cells : Array Value} (hn : j ≠ g) : (w.setRow g cells).heap[j]? = w.heap[j]? := by
  simp [World.setRow, Array.getElem?_modify, Ne.symm hn]
theorem ch_row {w : World} (g : Nat) (cells : Array Value) : Ch (fun k => k = g) w (w.setRow g cells) := ⟨rfl, rfl, rfl, by simp [World.setRow], fun k hk hn => setRow_ne hn⟩
theorem below_row {n : Nat} {a b : World} (h : Below n a b) {g : Nat} (hg : n ≤ g) (cells : Array Value) : Below n a (b.setRow g cells) := ⟨h.os, h.tape, h.output, by simpa [World.setRow] using h.size, fun k hk => (setRow_ne (by omega)).trans (h.block k hk)⟩
set_option maxRecDepth 100000 in
set_option maxHeartbeats 1000000 in
theorem pubrel_any (id : Int) (w : World) : Calls Tryz.prog 47 #[.int .i64 id] w fun e w' => e = .returned (.agg (pkc 6 false ⟨#[]⟩ (.slice none 0 0) 0 false id)) ∧ Below w.heap.size w w' := by
  obtain ⟨W1, hW1⟩ : ∃ W, W = w.alloc (.cells (pkc 0 false ⟨#[]⟩ (.slice none 0 0) 0 false 0) 66) := ⟨_, rfl⟩
  have B1 := hidi (show Below w.heap.size w W1 by rw [hW1]; exact (Below.refl _ _).alloc (Nat.le_refl _) _)
  have RZ := hidi (show W1.heap[w.heap.size]? = some (.cells (pkc 0 false ⟨#[]⟩ (.slice none 0 0) 0 false 0) 66 (0, 0)) by rw [hW1]; exact heap_alloc_new w _)
  go_enter Tryz.func47, Tryz.ntmps47
  go_upto_region 1 with fail
  have eW : w.alloc (.cells #[.int .i64 0, .int .i64 0, .bool false, .int .i64 0, .string ⟨#[]⟩, .bool false, .string ⟨#[]⟩, .slice none 0 0, .int .i64 0, .bool false, .bool false, .string ⟨#[]⟩, .bool false, .slice none 0 0, .bool false, .int .i64 0, .bool false, .string ⟨#[]⟩, .slice none 0 0, .int .i64 0, .bool false, .int .i64 0, .slice none 0 0, .slice none 0 0, .slice none 0 0] 66) = W1 := hW1.symm
  rw [eW]
  clear eW hW1
  go_wp2_with (first | (refine wpList_build_to rfl 66 _ rfl (pkc 6 false ⟨#[]⟩ (.slice none 0 0) 0 false id) (built_rel id) ?_) | (refine wpList_store_row rfl 66 _ _ rfl w.heap.size (pkc 6 false ⟨#[]⟩ (.slice none 0 0) 0 false id) rfl rfl 66 _ RZ.out pkc_info rfl (pkc_one _ _ _ _ _ _ _ _ _) ?_))
  refine bodyPost_ret (results_cell_row rfl _ _ _ _ _ _ _ rfl (setRow_at RZ.out) Tryz.underlying66 rfl (by kernel_rfl)) rfl ⟨rfl, below_row B1.out (Nat.le_refl _) _⟩
/-! ### Cells of the window's own block -/
theorem WS.set {w : World} {wb : Nat} {i i' : WI} {c c' : Nat} (h : WS w wb i c) (k : Nat) (v : Value) (hcs : i'.cs = i.cs.setIfInBounds k v) (hfs : i'.fs = i.fs) (hmu : i'.mu = i.mu) (hmt : i'.mt = i.mt) (hlv : i'.lv = i.lv) (hZ : i'.Z = i.Z) (hL : i'.L = i.L) (hR : i'.R = i.R) (hN : i'.N = i.N) (hla : i'.la = i.la) (hm : i'.most = i.most) (hq : i'.queue = i.queue) (hlast : i'.last ≤ 65535) (hc : c ≤ c') : WS (w.setCell ⟨wb, k, none⟩ v) wb i' c' ∧ St w (w.setCell ⟨wb, k, none⟩ v) wb i i' c' := by
  have hne : ∀ j, i.U wb j → j ≠ wb → (w.setCell ⟨wb, k, none⟩ v).heap[j]? = w.heap[j]? := fun j _ hj => heap_set_ne _ hj
  have hch : Ch (fun j => j = wb) w (w.setCell ⟨wb, k, none⟩ v) := ch_set wb k v
  have hkb : Kb w (w.setCell ⟨wb, k, none⟩ v) := h.kb (hch.mono (fun j _ q => .inl q))
  have hids : i'.ids = i.ids := by unfold WI.ids; rw [hfs]
  have hT : i'.T = i.T := by unfold WI.T; rw [hids, hR]
  have hws : WS (w.setCell ⟨wb, k, none⟩ v) wb i' c' := by
    refine { blk := ?_, und := ?_, fls := ?_, tkn := ?_, row := ?_, pay := ?_, half := by rw [hZ, hL]; exact h.half, apt := by rw [hmu, hmt]; exact h.apt, nd := by rw [hids, hR]; exact h.nd, rng := by rw [hids, hR]; exact h.rng, srt := by rw [hfs]; exact h.srt, tns := by rw [hfs, hla]; exact h.tns, snf := by rw [hfs]; exact h.snf, snl := by rw [hL]; exact h.snl, bm := by rw [hm]; exact h.bm, bq := by rw [hq]; exact h.bq, bf := by rw [hfs, hm]; exact h.bf, bl := by rw [hL, hq]; exact h.bl, br := by rw [hR, hm]; exact h.br, bs := hlast, bc := by rw [hla, hL, hN]; exact ⟨Nat.le_trans h.bc.1 hc, Nat.le_trans h.bc.2 hc⟩ }
    · rw [hcs]; exact heap_set h.blk v
    · rw [hmu, hfs]
      exact h.und.keep (fun b hb => hne b (.inr (.inl hb)) (fun q => by obtain ⟨es, cl, e⟩ := h.und.block hb; rw [q, h.blk] at e; cases e))
    · rw [hfs]
      intro f hf
      refine ⟨(heap_set_ne _ (fun q => ?_)).trans (h.fls f hf).blk, (h.fls f hf).pay.keep hkb⟩
      have := (h.fls f hf).blk
      rw [q, h.blk] at this
      simp at this
    · rw [hmt, hT, hN]
      exact h.tkn.keep (fun b hb => hne b (.inr (.inr (.inl hb))) (fun q => by obtain ⟨es, cl, e⟩ := h.tkn.block hb; rw [q, h.blk] at e; cases e))
    · rw [hlv, hZ, hL]
      refine own_ch h.row hch (fun g hg q => ?_)
      obtain ⟨cur, e⟩ := own_lt h.row hg
      rw [q, h.blk] at e
      simp at e
    · rw [hL]
      exact fun m hm => (h.pay m hm).keep hkb
  refine ⟨hws, hws, hch.mono (fun j _ q => .inl q), fun j hj => .inl ?_⟩
  unfold WI.U at hj ⊢
  rw [hmu, hmt, hlv, hfs] at hj
  exact hj
end Go.Proofs.YtmihpmmkkklpfaaGreatDoor
namespace Go.Proofs.YtmihpmmkkklpfaaGreatDoor
open Go Go.RowKit Go.Shelf Go.Maps Go.Sort
set_option linter.unusedSimpArgs false
set_option linter.unusedVariables false
theorem build_run {a : Act} {o : Oper} {t : TypeId} {parts : Array (Nat × Operand)} (ho : o.op = .build t parts) {cells : Array Value} (hf : Tryz.prog.built t (parts.map fun (i, x) => (i, a.eval x)).toList = some cells) (w : World) : (execOp a.eval o).run Tryz.prog w = .ok (.value (.agg cells)) w := by
  unfold execOp
  simp only [ho, Sem.run_bind, run_build w t _ cells hf, Result.andThen_ok]
  rfl
/-! ### launch -/
def Launched (w w' : World) (wb : Nat) (i : WI) (c' : Nat) (m : Ms) (x : Value) : Prop := ∃ (id b : Nat) (mu mt v' : Value), Abv i.T i.last id ∧ x = .agg (pkc 3 false m.t v' m.q m.r id) ∧ PB w' v' m.xs ∧ St w w' wb i (({ i with last := id } : WI).put b id false m mu mt) c'
set_option maxRecDepth 100000 in
set_option maxHeartbeats 4000000 in
theorem launch_ws {w : World} {wb : Nat} {i : WI} {c c' : Nat} (h : WS w wb i c) (g : Gd w) (hcc : c ≤ c') (hc : i.la + 1 + i.L.length ≤ c' ∧ i.N + 1 + i.L.length ≤ c') (hc' : c' ≤ 200000) (hf : i.fs.length < i.most) {m : Ms} (hp : PB w m.v m.xs) (hs : Sn m.q) :
    Calls Tryz.prog 75 #[.pointer (some ⟨wb, 0, none⟩), .agg #[.string m.t, m.v, .int .i64 m.q, .bool m.r]] w fun e w' => ∃ x, e = .returned x ∧ Launched w w' wb i c' m x := by
  obtain ⟨t, v, q, r, xs⟩ := m
  obtain ⟨pa, pn, pc, hv⟩ := hp.sl
  simp only at hv
  subst hv
  have hwl : wb < w.heap.size := h.lt (.inl rfl)
  obtain ⟨w1, hw1⟩ : ∃ w1, w1 = ((w.alloc (.cells #[.string t, .slice pa pn pc, .int .i64 q, .bool r] 45)).alloc (.cells (pkc 0 false ⟨#[]⟩ (.slice none 0 0) 0 false 0) 66)) := ⟨_, rfl⟩
  obtain ⟨a1, a2, a3⟩ := two_alloc w (.cells #[.string t, .slice pa pn pc, .int .i64 q, .bool r] 45) (.cells (pkc 0 false ⟨#[]⟩ (.slice none 0 0) 0 false 0) 66)
  have b1 := two_below w (.cells #[.string t, .slice pa pn pc, .int .i64 q, .bool r] 45) (.cells (pkc 0 false ⟨#[]⟩ (.slice none 0 0) 0 false 0) 66)
  rw [← hw1] at a1 a2 a3 b1
  have b1d : Below w.heap.size w w1.drew := b1.drew
  have h1 : WS w1.drew wb i c := h.below b1d
  have HA1 := hidi (And.intro a1 (And.intro a2 (And.intro a3 b1)))
  have H1 := hidi h1
  have AB := hidi (above_any (w := w1.drew) (nb := wb) (i := 8) h1.tkn (box_cells h1.blk 8 _ rfl) i.last h1.bs (tzOk (g.below b1d).tab) (h1.freeN (by have := h.br; have := h.bm; omega)))
  have hbrm := h.br
  have HH := hidi (And.intro h (And.intro g (And.intro hcc (And.intro hc (And.intro hc' (And.intro hf (And.intro hp hs)))))))
  have c3 : w1.cell? ⟨wb, 3, none⟩ = some (.int .i64 (i.last : Int)) := box_cells h1.blk 3 _ rfl
  have f3 : w1.frozen? ⟨wb, 3, none⟩ = false := box_frozen h1.blk 3
  clear a1 a2 a3 b1 b1d h1 h g hcc hc hc' hf hp hs hbrm
  go_enter Tryz.func75, Tryz.ntmps75
  go_upto_region 1 with fail
  have eW : ((w.alloc (.cells #[.string t, .slice pa pn pc, .int .i64 q, .bool r] 45)).alloc (.cells #[.int .i64 0, .int .i64 0, .bool false, .int .i64 0, .string ⟨#[]⟩, .bool false, .string ⟨#[]⟩, .slice none 0 0, .int .i64 0, .bool false, .bool false, .string ⟨#[]⟩, .bool false, .slice none 0 0, .bool false, .int .i64 0, .bool false, .string ⟨#[]⟩, .slice none 0 0, .int .i64 0, .bool false, .int .i64 0, .slice none 0 0, .slice none 0 0, .slice none 0 0] 66)) = w1 := hw1.symm
  rw [eW]
  clear eW hw1
  go_region_with (go_at_call 101; refine AB.out.mono ?_; clear AB; rintro e w' ⟨⟨id, rfl, hAb⟩, rfl⟩; have HAb := hidi hAb; clear hAb)
  all_goals go_wp2_with fail
  obtain ⟨hH, g, hcc, hc, hc', hf, hp, hs⟩ := HH.out
  obtain ⟨a1, a2, a3, b1⟩ := HA1.out
  obtain ⟨p1, p2, p3, p4⟩ := HAb.out
  obtain ⟨w2, hw2⟩ : ∃ w2, w2 = (w1.setCell ⟨wb, 3, none⟩ (.int .i64 (id : Int))).drew := ⟨_, rfl⟩
  rw [← hw2]
  have hS1 := (hH.below b1).set (i' := { i with last := id }) 3 (.int .i64 (id : Int)) rfl rfl rfl rfl rfl rfl rfl rfl rfl rfl rfl rfl p2 (Nat.le_refl c)
  have hS2 : St w w2 wb i { i with last := id } c := by
    rw [hw2]
    exact ((St.below hH b1).trans hS1.2).trans (St.below hS1.1 (Below.refl _ _).drew)
  have d1 : w2.heap[w.heap.size]? = some (.cells #[.string t, .slice pa pn pc, .int .i64 q, .bool r] 45 (0, 0)) := by rw [hw2]; exact (heap_set_ne _ (by omega)).trans a1
  have d2 : w2.heap[w.heap.size + 1]? = some (.cells (pkc 0 false ⟨#[]⟩ (.slice none 0 0) 0 false 0) 66 (0, 0)) := by rw [hw2]; exact (heap_set_ne _ (by omega)).trans a2
  have hkb : Kb w w2 := hH.kb hS2.ch
  have hb2d : Below w2.heap.size w2 w2.drew := (Below.refl _ _).drew
  have PT := hidi (ws_put (w := w2.drew) (c := c) (c' := c') (id := id) (rel := false) (m := ⟨t, .slice pa pn pc, q, r, xs⟩) (hS2.ws.below hb2d) hc hc' hf ⟨p1, p2⟩ p3 (hp.keep hkb) ⟨nofun, fun _ => hs⟩)
  have HU := hidi (fun j (hj : (({ i with last := id } : WI)).U wb j) => hH.lt hj)
  have HS2 := hidi hS2
  have HD := hidi (And.intro d1 d2)
  have HKB := hidi hkb
  have s3 : w2.cell? ⟨wb, 3, none⟩ = some (.int .i64 (id : Int)) := box_cells hS2.ws.blk 3 _ rfl
  have s0 := box_cells d1 0 _ rfl
  have s1 := box_cells d1 1 _ rfl
  have s2 := box_cells d1 2 _ rfl
  have s4 := box_cells d1 3 _ rfl
  clear hw2 hS1 hS2 hH g hcc hc hc' hf hp hs a1 a2 a3 b1 d1 d2 hkb hb2d c3 f3 p1 p2 p3 p4 H1 HA1
  go_region_held_law (fun w' => w'.cell? ⟨wb, 3, none⟩ = some (.int .i64 (id : Int)) ∧ w'.cell? ⟨w.heap.size, 0, none⟩ = some (.string t) ∧ w'.cell? ⟨w.heap.size, 1, none⟩ = some (.slice pa pn pc) ∧ w'.cell? ⟨w.heap.size, 2, none⟩ = some (.int .i64 q) ∧ w'.cell? ⟨w.heap.size, 3, none⟩ = some (.bool r)) (first | exact ⟨s3, s0, s1, s2, s4⟩ | go_keep) (first
    | (go_at_call 66; refine PT.out.mono ?_; clear PT; rintro e w3 ⟨rfl, b, mu, mt, hst⟩; have HST := hidi hst; have e1 : w3.heap[w.heap.size]? = some (.cells #[.string t, .slice pa pn pc, .int .i64 q, .bool r] 45 (0, 0)) := (hst.ch.block _ (by exact (Array.getElem?_eq_some_iff.1 HD.out.1).1) (fun u => Nat.lt_irrefl _ (HU.out _ u))).trans HD.out.1; have e2 : w3.heap[w.heap.size + 1]? = some (.cells (pkc 0 false ⟨#[]⟩ (.slice none 0 0) 0 false 0) 66 (0, 0)) := (hst.ch.block _ (by exact (Array.getElem?_eq_some_iff.1 HD.out.2).1) (fun u => absurd (HU.out _ u) (by omega))).trans HD.out.2; have HE := hidi (And.intro e1 e2); clear s3 s0 s1 s2 s4; have s3 : w3.cell? ⟨wb, 3, none⟩ = some (.int .i64 (id : Int)) := box_cells hst.ws.blk 3 _ rfl; have s0 := box_cells e1 0 _ rfl; have s1 := box_cells e1 1 _ rfl; have s2 := box_cells e1 2 _ rfl; have s4 := box_cells e1 3 _ rfl; clear e1 e2 hst))
  go_wp2_with fail
  have hkb3 : Kb w2 w3 := (show Kb w2 w2.drew from fun _ _ _ h => h).trans ((HS2.out.ws.below (Below.refl _ _).drew).kb HST.out.ch)
  have AP := hidi (apart_any (w := w3.drew) t q r (HH.out.2.2.2.2.2.2.1.keep (HKB.out.trans (hkb3.trans (show Kb w3 w3.drew from fun _ _ _ h => h)))))
  clear hkb3
  unfold mg at AP
  refine wp_region_held_drew (S := fun w' => w'.cell? ⟨wb, 3, none⟩ = some (.int .i64 (id : Int)) ∧ w'.cell? ⟨w.heap.size, 0, none⟩ = some (.string t) ∧ w'.cell? ⟨w.heap.size, 1, none⟩ = some (.slice pa pn pc) ∧ w'.cell? ⟨w.heap.size, 2, none⟩ = some (.int .i64 q) ∧ w'.cell? ⟨w.heap.size, 3, none⟩ = some (.bool r)) (by kernel_rfl) ⟨s3, s0, s1, s2, s4⟩ (fun hHeld => ?_)
  change wpAnyH _ _ _ _ _ 8 #[false, false, false, false, false, false, false, false] _ (World.drew _)
  refine wpAnyH_take (i := 0) (oi := { dst := some 24, op := Go.Op.load 45 (Go.Operand.tmp 3), type := 45, pos := "window.go:156", after := #[], guard := none }) (v := .agg #[.string t, .slice pa pn pc, .int .i64 q, .bool r]) rfl (by kernel_rfl) (by kernel_rfl) (by kernel_rfl) (fun _ _ _ h => h) (Or.inl ⟨by kernel_rfl, by intro wq hSw; (try dsimp only at hSw); clear hHeld; go_simp⟩) hHeld ?_
  simp only [Act.put, List.setIfInBounds_toArray, List.set_cons_zero, List.set_cons_succ]
  refine wpAnyH_take (i := 2) (oi := { dst := some 26, op := Go.Op.move (Go.Operand.tmp 0), type := 52, pos := "window.go:156", after := #[], guard := none }) (v := .pointer (some ⟨wb, 0, none⟩)) rfl (by kernel_rfl) (by kernel_rfl) (by kernel_rfl) (fun _ _ _ h => h) (Or.inl ⟨by kernel_rfl, by intro wq hSw; (try dsimp only at hSw); clear hHeld; go_simp⟩) hHeld ?_
  simp only [Act.put, List.setIfInBounds_toArray, List.set_cons_zero, List.set_cons_succ]
  refine wpAnyH_take (i := 3) (oi := { dst := some 27, op := Go.Op.nilCheck (Go.Operand.tmp 26), type := 0, pos := "window.go:156", after := #[{ on := 2, ground := Go.Ground.data }], guard := none }) (v := .pointer (some ⟨wb, 0, none⟩)) rfl (by kernel_rfl) (by kernel_rfl) (by kernel_rfl) (fun _ _ _ h => h) (Or.inl ⟨by kernel_rfl, by intro wq hSw; (try dsimp only at hSw); clear hHeld; go_simp⟩) hHeld ?_
  simp only [Act.put, List.setIfInBounds_toArray, List.set_cons_zero, List.set_cons_succ]
  refine wpAnyH_take (i := 4) (oi := { dst := some 28, op := Go.Op.fieldAddr 101 (Go.Operand.tmp 27) 3, type := 0, pos := "window.go:156", after := #[{ on := 3, ground := Go.Ground.data }], guard := none }) (v := .pointer (some ⟨wb, 3, none⟩)) rfl (by kernel_rfl) (by kernel_rfl) (by kernel_rfl) (fun _ _ _ h => h) (Or.inl ⟨by kernel_rfl, by intro wq hSw; (try dsimp only at hSw); clear hHeld; go_simp⟩) hHeld ?_
  simp only [Act.put, List.setIfInBounds_toArray, List.set_cons_zero, List.set_cons_succ]
  refine wpAnyH_take (i := 5) (oi := { dst := some 29, op := Go.Op.load 3 (Go.Operand.tmp 28), type := 3, pos := "window.go:156", after := #[{ on := 4, ground := Go.Ground.data }], guard := none }) (v := .int .i64 (id : Int)) rfl (by kernel_rfl) (by kernel_rfl) (by kernel_rfl) (fun _ _ _ h => h) (Or.inl ⟨by kernel_rfl, by intro wq hSw; (try dsimp only at hSw); clear hHeld; go_simp⟩) hHeld ?_
  simp only [Act.put, List.setIfInBounds_toArray, List.set_cons_zero, List.set_cons_succ]
  refine wpAnyH_ready (rs := [1]) (by kernel_rfl) (by simp) ?_
  refine AllReadyH.cons (o := { dst := some 25, op := Go.Op.call { callee := Go.Callee.value (Go.Operand.func 73), args := #[Go.Operand.tmp 24], argTypes := #[45] }, type := 45, pos := "window.go:156", after := #[{ on := 0, ground := Go.Ground.data }], guard := none }) (by rfl) (fun K hK => ?_) AllReadyH.nil
  go_simp
  go_wp2_with (go_at_call 73; refine (AP.out).mono ?_; rintro e w4 ⟨v1, rfl, hp, hb⟩)
  obtain ⟨n1, n2, n3, rfl⟩ := hp.sl
  have HP := hidi hp
  have HB := hidi hb
  have f1 : w4.heap[w.heap.size]? = some (.cells #[.string t, .slice pa pn pc, .int .i64 q, .bool r] 45 (0, 0)) := later_at (w := w3.drew) HE.out.1 hb
  have f2 : w4.heap[wb]? = _ := later_at (w := w3.drew) HST.out.ws.blk hb
  clear s3 s0 s1 s2 s4
  have s3 : w4.cell? ⟨wb, 3, none⟩ = some (.int .i64 (id : Int)) := box_cells f2 3 _ rfl
  have s0 := box_cells f1 0 _ rfl
  have s1 := box_cells f1 1 _ rfl
  have s2 := box_cells f1 2 _ rfl
  have s4 := box_cells f1 3 _ rfl
  clear f1 f2 hp hb
  (try unfold mg)
  refine hK.out _ _ ⟨s3, s0, s1, s2, s4⟩ (fun hHeld => ?_)
  clear hK K
  (try simp only [Act.put, List.setIfInBounds_toArray, List.set_cons_zero, List.set_cons_succ])
  refine wpAnyH_take (i := 6) (oi := { dst := some 30, op := Go.Op.build 66 #[(0, Go.Operand.const (Go.Value.int Go.IntKind.i64 3)), (14, Go.Operand.tmp 25), (15, Go.Operand.tmp 29)], type := 66, pos := "window.go:156", after := #[{ on := 1, ground := Go.Ground.data }, { on := 5, ground := Go.Ground.data }], guard := none }) (v := .agg (pkc 3 false t (.slice n1 n2 n3) q r (id : Int))) rfl (by kernel_rfl) (by kernel_rfl) (by kernel_rfl) (fun _ _ _ h => h) (Or.inl ⟨by kernel_rfl, fun wq _ => build_run rfl (by kernel_rfl) wq⟩) hHeld ?_
  simp only [Act.put, List.setIfInBounds_toArray, List.set_cons_zero, List.set_cons_succ]
  refine wpAnyH_ready (rs := [7]) (by kernel_rfl) (by simp) ?_
  refine AllReadyH.cons (o := { dst := none, op := Go.Op.store 66 (Go.Operand.tmp 4) (Go.Operand.tmp 30), type := 0, pos := "window.go:156", after := #[{ on := 6, ground := Go.Ground.data }, { on := 1, ground := Go.Ground.chain }, { on := 0, ground := Go.Ground.phase }, { on := 1, ground := Go.Ground.phase }, { on := 2, ground := Go.Ground.phase }, { on := 3, ground := Go.Ground.phase }, { on := 4, ground := Go.Ground.phase }, { on := 5, ground := Go.Ground.phase }, { on := 6, ground := Go.Ground.phase }], guard := none }) (by rfl) (fun K hK => ?_) AllReadyH.nil
  rw [if_pos (by rfl)]
  have f3 : w4.heap[w.heap.size + 1]? = some (.cells (pkc 0 false ⟨#[]⟩ (.slice none 0 0) 0 false 0) 66 (0, 0)) := later_at (w := w3.drew) HE.out.2 HB.out
  refine wp_store_row 66 _ _ rfl (w.heap.size + 1) (pkc 3 false t (.slice n1 n2 n3) q r (id : Int)) rfl rfl 66 _ f3 (by kernel_rfl) rfl (pkc_one _ _ _ _ _ _ _ _ _) ?_
  have hne : wb ≠ w.heap.size + 1 := by omega
  have f4 : (w4.setRow (w.heap.size + 1) (pkc 3 false t (.slice n1 n2 n3) q r (id : Int))).heap[w.heap.size]? = some (.cells #[.string t, .slice pa pn pc, .int .i64 q, .bool r] 45 (0, 0)) := (setRow_ne (by omega)).trans (later_at (w := w3.drew) HE.out.1 HB.out)
  have f5 := (setRow_ne (w := w4) (cells := pkc 3 false t (.slice n1 n2 n3) q r (id : Int)) hne).trans (later_at (w := w3.drew) HST.out.ws.blk HB.out)
  refine hK.out _ _ ⟨box_cells f5 3 _ rfl, box_cells f4 0 _ rfl, box_cells f4 1 _ rfl, box_cells f4 2 _ rfl, box_cells f4 3 _ rfl⟩ (fun hHeld => ?_)
  clear hK K hHeld
  refine wpAnyH_done (by kernel_rfl) ?_ _
  have F3 := hidi f3
  clear f3 f4 f5 s3 s0 s1 s2 s4
  go_wp2_with fail
  refine bodyPost_ret (results_cell_row rfl _ _ _ _ _ _ _ rfl (setRow_at F3.out) Tryz.underlying66 rfl (by kernel_rfl)) rfl ⟨_, rfl, ?_⟩
  refine ⟨id, b, mu, mt, .slice n1 n2 n3, HAb.out, rfl, ?_, ?_⟩
  · refine HP.out.keep (fun bb cs fz hq => (setRow_ne (fun e => ?_)).trans hq)
    rw [e, F3.out] at hq
    simp at hq
  · have hst := (HS2.out.trans (St.below HS2.out.ws (Below.refl _ _).drew)).trans HST.out
    have hst4 := hst.trans (St.below hst.ws ((Below.refl w3.heap.size w3).drew.trans HB.out))
    have hnU : ∀ j, (((({ i with last := id } : WI)).put b id false ⟨t, .slice pa pn pc, q, r, xs⟩ mu mt)).U wb j → j ≠ w.heap.size + 1 := fun j hj e => by
      subst e
      exact hst4.ws.other F3.out ⟨_, 66, _, rfl, by decide, by decide, by decide⟩ hj
    have hchR : Ch (fun j => j = w.heap.size + 1) w4 _ := ch_row (w.heap.size + 1) (pkc 3 false t (.slice n1 n2 n3) q r (id : Int))
    refine ⟨hst4.ws.keep hchR (fun j hj e => hnU j hj e) (fun bb cs fz hq => (setRow_ne (fun e => ?_)).trans hq), hst4.ch.trans hchR (fun j hj e => absurd hj (by omega)), hst4.bl⟩
    rw [e, F3.out] at hq
    simp at hq
end Go.Proofs.YtmihpmmkkklpfaaGreatDoor
