import Derived.Test.YtbjhblnagmpnfaaDoorOv
namespace Go.Proofs.YtbjhblnagmpnfaaDoor
open Go Go.RowKit Go.Shelf Go.Maps Go.Sort
set_option linter.unusedSimpArgs false
set_option linter.unusedVariables false
set_option maxRecDepth 100000 in
set_option maxHeartbeats 4000000 in
theorem play_nine {w : World} {wb : Nat} {i : WI} {c : Nat} {s : Bool} {t : ByteArray} {pa : Option Addr} {pn pc : Nat} {q : Int} {r : Bool} {xs : List Int} {a n : Int} (h : WS w wb i c) (g : Gd w) (hc : c + 1 ≤ 200000) (hp : PBi w (.slice pa pn pc) xs) (ht : t.size ≤ 1000000) (ha : okI a) (hn : okI n) :
    Calls Tryd.prog 11 #[.pointer (some ⟨wb, 0, none⟩), .agg #[.int .i64 9, .bool s, .string t, .slice pa pn pc, .int .i64 q, .bool r, .int .i64 a, .int .i64 n]] w fun e w' => ∃ v, e = .returned v ∧ Out w w' wb i (c + 1) (pPlay i.p 9 ⟨t, q, r, xs⟩ a n).1 (pPlay i.p 9 ⟨t, q, r, xs⟩ a n).2 v := by
  have hP : pPlay i.p 9 ⟨t, q, r, xs⟩ a n = pNine i.p a n := by
    unfold pPlay
    simp only [show ¬ (9 : Int) = 1 by decide, show ¬ (9 : Int) = 2 by decide, show ¬ (9 : Int) = 3 by decide, show ¬ (9 : Int) = 4 by decide, show ¬ (9 : Int) = 5 by decide, show ¬ (9 : Int) = 6 by decide, if_false, if_true]
  obtain ⟨P, hPP⟩ : ∃ P, P = pPlay i.p 9 ⟨t, q, r, xs⟩ a n := ⟨_, rfl⟩
  rw [← hPP]
  have HP := hidi (hPP.trans hP)
  clear hP hPP
  obtain ⟨w1, hw1⟩ : ∃ w1, w1 = w.alloc (.cells #[.int .i64 9, .bool s, .string t, .slice pa pn pc, .int .i64 q, .bool r, .int .i64 a, .int .i64 n] 32) := ⟨_, rfl⟩
  have a1 := heap_alloc_new w (.cells #[.int .i64 9, .bool s, .string t, .slice pa pn pc, .int .i64 q, .bool r, .int .i64 a, .int .i64 n] 32)
  have b1 : Below w.heap.size w (w.alloc (.cells #[.int .i64 9, .bool s, .string t, .slice pa pn pc, .int .i64 q, .bool r, .int .i64 a, .int .i64 n] 32)) := (Below.refl _ _).alloc (Nat.le_refl _) _
  rw [← hw1] at a1 b1
  have HX := hidi (And.intro a1 b1)
  have H := hidi (And.intro h (And.intro g (And.intro hc (And.intro hp (And.intro ht (And.intro ha hn))))))
  have S1 := hidi (St.below h b1)
  have e0 := box_cells a1 0 _ rfl
  have e2 := box_cells a1 2 _ rfl
  have e3 := box_cells a1 3 _ rfl
  have e4 := box_cells a1 4 _ rfl
  have e5 := box_cells a1 5 _ rfl
  have e6 := box_cells a1 6 _ rfl
  have e7 := box_cells a1 7 _ rfl
  clear h g hc hp ht ha hn a1 b1
  go_enter Tryd.func11, Tryd.ntmps11
  go_upto_region 1 with fail
  rw [← hw1]
  clear hw1
  have IM := hidi (image_ws S1.out.ws (Nat.le_trans (Nat.le_succ c) H.out.2.2.1))
  go_wp2_with fail
  go_must (go_at_call 12)
  refine IM.out.mono ?_
  clear IM
  rintro e w2 ⟨vf, vq, rfl, hIm, hb2⟩
  obtain ⟨L, f1, f2, f3⟩ := hIm.fl
  obtain ⟨qa, qc, hvq⟩ := own_sl hIm.qu.choose_spec.1
  subst hvq
  obtain ⟨fa, fc, hvf⟩ := own_sl f1
  subst hvf
  have HB2 := hidi hb2
  have a2 := later_at HX.out.1 hb2
  have S2 := hidi (S1.out.trans (St.below S1.out.ws hb2))
  have HFL := hidi (And.intro f1 f2)
  obtain ⟨N, hN⟩ : ∃ N, N = i.fs.length := ⟨_, rfl⟩
  have HN := hidi hN
  rw [← hN]
  have hNb : N ≤ 65535 := by have := H.out.1.bf; have := H.out.1.bm; omega
  clear e0 e2 e3 e4 e5 e6 e7 hIm f1 f2 f3 hb2 hN
  have e6 := box_cells a2 6 _ rfl
  have e7 := box_cells a2 7 _ rfl
  have HX2 := hidi a2
  clear a2
  obtain ⟨ls, hls⟩ : ∃ ls : Int, ls = (i.last : Int) := ⟨_, rfl⟩
  obtain ⟨qn, hqn⟩ : ∃ qn, qn = i.L.length := ⟨_, rfl⟩
  rw [← hls, ← hqn]
  have hfd : ∀ W : World, (Instr.field 41 (.agg #[.int .i64 ls, .slice fa N fc, .slice qa qn qc]) 1).run Tryd.prog W = .ok (.slice fa N fc) W := fun W => by kernel_rfl
  clear hls hqn
  by_cases hN0 : N = 0
  · subst hN0
    go_wp2_with fail
    go_ret
    have e := HP.out
    have hz : i.p.fl = [] := by show i.fs.map Fm.p = []; rw [List.length_eq_zero_iff.1 HN.out.symm]; rfl
    unfold pNine at e
    rw [hz] at e
    simp at e
    subst e
    exact ⟨_, rfl, (S2.out.more (Nat.le_succ c)).out (S2.out.gd H.out.1 H.out.2.1) rfl⟩
  · have g0 : (N : Int) > 0 := by omega
    have g1 : (N : Int) ≠ 0 := by omega
    obtain ⟨x, hx⟩ : ∃ x, x = Int.tmod n N := ⟨_, rfl⟩
    have hx1 : -(N : Int) < x ∧ x < N := by
      rw [hx]
      have h1 := Int.lt_tmod_of_pos n (b := (N : Int)) (by omega)
      have h2 := Int.tmod_lt_of_pos n (b := (N : Int)) (by omega)
      omega
    have hw1 : IntKind.i64.wrap (x + (N : Int)) = x + (N : Int) := by rw [IntKind.wrap_i64]; omega
    obtain ⟨y, hy⟩ : ∃ y : Nat, (y : Int) = Int.tmod (x + N) N := ⟨(Int.tmod (x + N) N).toNat, by
      have h1 : 0 ≤ Int.tmod (x + N) N := Int.tmod_nonneg _ (by omega)
      omega⟩
    have hy1 : y < N := by
      have h2 := Int.tmod_lt_of_pos (x + N) (b := (N : Int)) (by omega)
      omega
    have hyi : ixN n N = y := by unfold ixN; rw [← hx, ← hy]; rfl
    have hx' := hx.symm
    have hy' := hy.symm
    have HY := hidi (And.intro hyi hy1)
    clear hx hy hyi
    have hLl : L.length = N := by
      have := congrArg List.length HFL.out.2
      simp at this
      rw [this, HN.out]
    have hyL : y < L.length := by omega
    obtain ⟨gb, cb, hv, hcell⟩ := frow_cell HFL.out.1 (j := y) (by rw [← HN.out]; exact hy1) hyL
    have hfa : fa = some ⟨gb, 0, none⟩ := by injection hv
    subst hfa
    obtain ⟨id, hid⟩ : ∃ id, id = L[y].id := ⟨_, rfl⟩
    have k0 : w2.cell? ⟨gb, y * 6, none⟩ = some (.int .i64 (id : Int)) := by rw [hid]; exact hcell 0 (by omega)
    have hfe : i.p.fl[y]? = some ⟨id, L[y].rel, L[y].m.p⟩ := by
      show (i.fs.map Fm.p)[y]? = _
      rw [← HFL.out.2, List.getElem?_map, List.getElem?_eq_getElem hyL, hid]
      rfl
    have HE := hidi (show P = pAck i.p a (id : Int) from by
      rw [HP.out]
      unfold pNine
      rw [show i.p.fl.length = N by show (i.fs.map Fm.p).length = N; rw [List.length_map, HN.out], HY.out.1, hfe])
    have hidb : id ≤ 65535 := by
      have hm : id ∈ i.fs.map (·.id) := by
        have := List.getElem?_map (f := Fp.id) (l := i.p.fl) (i := y)
        rw [hfe] at this
        have h2 : (i.p.fl.map Fp.id) = i.fs.map (·.id) := by show (i.fs.map Fm.p).map Fp.id = _; rw [List.map_map]; rfl
        rw [h2] at this
        exact List.mem_of_getElem? this
      exact (H.out.1.rng id (List.mem_append.2 (.inl hm))).2
    have AK := hidi (ack_ws (w := w2.drew) (c := c) (S2.out.ws.below (Below.refl _ _).drew) ((S2.out.gd H.out.1 H.out.2.1).below (Below.refl _ _).drew) (Nat.le_trans (Nat.le_succ c) H.out.2.2.1) a (id : Int) (okI_nat id (by omega)))
    have hy0 : (0 : Int) ≤ (y : Int) := by omega
    have hyN : (y : Int) < (N : Int) := by omega
    clear hcell hv hLl hyL hid hfe hidb hNb
    go_wp2_with fail
    go_region_with (go_at_call 20; refine AK.out.mono ?_; clear AK; rintro e w3 ⟨v, rfl, hz⟩; have Z := hidi hz; clear hz)
    all_goals go_wp2_with fail
    all_goals go_ret
    all_goals (have e := HE.out; subst e; exact ⟨v, rfl, (Z.out.after (S2.out.trans (St.below S2.out.ws (Below.refl _ _).drew))).more (Nat.le_succ c)⟩)
end Go.Proofs.YtbjhblnagmpnfaaDoor
