import Derived.Test.YtmihpmmkkklpfaaGreatDoorBTq
import Derived.Deep.LoopGhost
namespace Go.Proofs.YtmihpmmkkklpfaaGreatDoor
open Go Go.RowKit Go.Shelf Go.Maps Go.Sort
set_option linter.unusedSimpArgs false
set_option linter.unusedVariables false
/-! ### SessionBack, walked -/
theorem Scs.at {w wx : World} {sa : Option Addr} {n cap : Nat} {ops : List Ow} (h : Scs w sa n cap ops) (hf : FewS ops) (hb : Below w.heap.size w wx) {j : Nat} (hj : j < n) (hjl : j < ops.length) : ∃ g o pa pn pc, sa = some ⟨g, o, none⟩ ∧ ops[j].m.v = .slice pa pn pc ∧ (∀ x, x < 10 → wx.cell? ⟨g, o + j * 10 + x, none⟩ = ops[j].cs[x]?) ∧ PBi wx ops[j].m.v ops[j].m.xs ∧ ops[j].fl.size ≤ 1000000 ∧ ops[j].m.t.size ≤ 1000000 ∧ okI ops[j].id := by
  have hk := h.keep (fun b hl => hb.block b hl)
  obtain ⟨g, o, hs, hc⟩ := hk.cell (by omega)
  have hm := List.getElem_mem hjl
  have hq := hf.2 _ hm
  have hp := (hk.pay _ hm).i (by omega)
  obtain ⟨pa, pn, pc, hv⟩ := hp.sl
  exact ⟨g, o, pa, pn, pc, hs, hv, fun x hx => hc j hjl x hx, hp, by omega, by omega, hk.wf _ hm⟩
set_option maxRecDepth 100000 in
set_option maxHeartbeats 16000000 in
theorem back_any {w : World} (g : Gd w) (l0 : Bool) (c1 nn qq s c5 c6 c7 c8 : Int) (ua : Option Addr) (un uc : Nat) (key : ByteArray) (hkey : key.size ≤ maxLen) {sa ta : Option Addr} {M cap M' cap' : Nat} {ops ops' : List Ow} (hS : Scs w sa M cap ops) (hT : Scs w ta M' cap' ops') :
    Calls Tryz.prog 3 #[.agg #[.bool l0, .int .i64 c1, .int .i64 nn, .int .i64 qq, .int .i64 s, .int .i64 c5, .int .i64 c6, .int .i64 c7, .int .i64 c8, .slice ua un uc], .string key, .slice sa M cap, .slice ta M' cap'] w fun e w' => e = .returned (.bool true) ∧ Below w.heap.size w w' := by
  obtain ⟨w1, hw1⟩ : ∃ w1, w1 = w.alloc (.cells #[.bool l0, .int .i64 c1, .int .i64 nn, .int .i64 qq, .int .i64 s, .int .i64 c5, .int .i64 c6, .int .i64 c7, .int .i64 c8, .slice ua un uc] 24) := ⟨_, rfl⟩
  have x1 := heap_alloc_new w (.cells #[.bool l0, .int .i64 c1, .int .i64 nn, .int .i64 qq, .int .i64 s, .int .i64 c5, .int .i64 c6, .int .i64 c7, .int .i64 c8, .slice ua un uc] 24)
  have b1 : Below w.heap.size w (w.alloc (.cells #[.bool l0, .int .i64 c1, .int .i64 nn, .int .i64 qq, .int .i64 s, .int .i64 c5, .int .i64 c6, .int .i64 c7, .int .i64 c8, .slice ua un uc] 24)) := (Below.refl _ _).alloc (Nat.le_refl _) _
  rw [← hw1] at x1 b1
  have H := hidi (And.intro hS (And.intro hT (And.intro g hkey)))
  have X1 := hidi (And.intro x1 b1)
  have F1 := hidi (few_any (hS.keep (fun b hb => b1.block b hb)) key hkey)
  clear hS hT g hkey x1 b1
  go_enter Tryz.func3, Tryz.ntmps3
  go_upto_region 1 with fail
  rw [← hw1]
  clear hw1
  go_wp2_with (refine wpList_build_to rfl 34 _ rfl (imK key) (built_key _) ?_)
  go_must (go_at_call 5)
  refine F1.out.mono ?_
  clear F1
  rintro e w2 ⟨xa, rfl, hxa, hb2⟩
  have B2 := hidi (X1.out.2.trans (hb2.mono X1.out.2.size))
  have Y2 := hidi (later_at X1.out.1 hb2)
  clear hb2
  cases xa
  · go_wp2_with fail
    go_ret
    exact ⟨rfl, B2.out⟩
  have HX := hidi (hxa rfl)
  clear hxa
  have F2 := hidi (few_any (H.out.2.1.keep (fun b hb => B2.out.block b hb)) ⟨#[]⟩ (by unfold maxLen; decide))
  go_wp2_with (refine wpList_build_to rfl 34 _ rfl (imK ⟨#[]⟩) built_none ?_)
  go_must (go_at_call 5)
  refine F2.out.mono ?_
  clear F2
  rintro e w3 ⟨xb, rfl, hxb, hb3⟩
  have B3 := hidi (B2.out.trans (hb3.mono B2.out.size))
  have Y3 := hidi (later_at Y2.out hb3)
  clear hb3
  cases xb
  · go_wp2_with fail
    go_ret
    exact ⟨rfl, B3.out⟩
  have HX' := hidi (hxb rfl)
  clear hxb
  have KN := hidi (sknown_any w3 (H.out.2.2.1.below B3.out))
  go_wp2_with fail
  go_must (go_at_call 6)
  refine KN.out.mono ?_
  clear KN
  rintro e w4 ⟨rfl, hb4⟩
  have B4 := hidi (B3.out.trans (hb4.mono B3.out.size))
  have Y4 := hidi (later_at Y3.out hb4)
  clear hb4
  have NW := hidi (snew_sz (H.out.2.2.1.below B4.out) key l0 c1 nn qq s c5 c6 c7 c8 ua un uc (by have := HX.out.1; omega))
  obtain ⟨mo, hmo⟩ : ∃ mo, mo = min (max s 0) 65536 := ⟨_, rfl⟩
  rw [← hmo] at NW
  have HMO := hidi hmo
  clear hmo
  have d0 := box_cells Y4.out 0 _ rfl
  have d1 := box_cells Y4.out 1 _ rfl
  have d2 := box_cells Y4.out 2 _ rfl
  have d3 := box_cells Y4.out 3 _ rfl
  have d4 := box_cells Y4.out 4 _ rfl
  have d5 := box_cells Y4.out 5 _ rfl
  have d6 := box_cells Y4.out 6 _ rfl
  have d7 := box_cells Y4.out 7 _ rfl
  have d8 := box_cells Y4.out 8 _ rfl
  have d9 := box_cells Y4.out 9 _ rfl
  go_wp2_with fail
  go_must (go_at_call 7)
  refine NW.out.mono ?_
  clear NW
  rintro e w5 ⟨sb, wb, rfl, hs5, hb5⟩
  have L5 := hidi (show L1z w4 w5 sb wb key mo (mostOf nn) (queueOf qq) _ _ _ 0 from ⟨hs5, Zok.start (by have := HMO.out; omega), hb5⟩)
  clear hs5 hb5 d0 d1 d2 d3 d4 d5 d6 d7 d8 d9
  go_wp2_with fail
  go_loopg [10, 11] M (fun gk s10 s11 wx => ∃ j : Nat, j + gk = M ∧ s10 = .int .i64 j ∧ Hid (∃ z sv nv, L1z w4 wx sb wb key mo (mostOf nn) (queueOf qq) z sv nv j))
  case atStart => exact ⟨0, by omega, rfl, _, _, _, L5.out⟩
  case round =>
    clear L5
    obtain ⟨j, hj, rfl, HI⟩ := hrel
    by_cases hjn : j < M
    · have hjl : j < ops.length := by rw [H.out.1.len]; exact hjn
      have hj150 : j ≤ 150 := by have := HX.out.2.1; rw [H.out.1.len] at this; omega
      obtain ⟨z, sv, nv, hL⟩ := HI.out
      obtain ⟨g', o, pa, pn, pc, hsa, hv, hcell, hp, hf, ht, hid⟩ := H.out.1.at HX.out.2 (B4.out.trans (hL.bel.mono B4.out.size)) hjn hjl
      subst hsa
      have DO := hidi (l1_does hL (by have := HMO.out; omega) (by omega) ops[j] hp hf ht hid)
      clear hL hp hf ht hid HI
      obtain ⟨oo, hoo⟩ : ∃ oo, oo = ops[j] := ⟨_, rfl⟩
      rw [← hoo] at hv hcell DO
      clear hoo
      obtain ⟨kd, wh, n', id, fl, q, ⟨t, v, mq, r, xs⟩⟩ := oo
      simp only at hv
      subst hv
      have hlt : (j : Int) < (M : Int) := by omega
      have hge : (0 : Int) ≤ (j : Int) := by omega
      have hw1 : IntKind.i64.wrap ((j : Int) + 1) = (j : Int) + 1 := by rw [IntKind.wrap_i64]; omega
      have k0 : wr.cell? ⟨g', o + j * 10, none⟩ = some (.int .i64 kd) := hcell 0 (by omega)
      have k1 : wr.cell? ⟨g', o + j * 10 + 1, none⟩ = some (.int .i64 wh) := hcell 1 (by omega)
      have k2 : wr.cell? ⟨g', o + j * 10 + 2, none⟩ = some (.int .i64 n') := hcell 2 (by omega)
      have k3 : wr.cell? ⟨g', o + j * 10 + 3, none⟩ = some (.int .i64 id) := hcell 3 (by omega)
      have k4 : wr.cell? ⟨g', o + j * 10 + 4, none⟩ = some (.string fl) := hcell 4 (by omega)
      have k5 : wr.cell? ⟨g', o + j * 10 + 5, none⟩ = some (.int .i64 q) := hcell 5 (by omega)
      have k6 : wr.cell? ⟨g', o + j * 10 + 6, none⟩ = some (.string t) := hcell 6 (by omega)
      have k7 : wr.cell? ⟨g', o + j * 10 + 7, none⟩ = some (.slice pa pn pc) := hcell 7 (by omega)
      have k8 : wr.cell? ⟨g', o + j * 10 + 8, none⟩ = some (.int .i64 mq) := hcell 8 (by omega)
      have k9 : wr.cell? ⟨g', o + j * 10 + 9, none⟩ = some (.bool r) := hcell 9 (by omega)
      unfold Ow.cs at DO
      simp only at DO
      clear hcell
      go_wp2_with fail
      go_must (go_at_call 8)
      refine DO.out.mono ?_
      clear DO
      rintro e w6 ⟨vv, rfl, ⟨sv2, nv2, hL⟩, _⟩
      have IM := hidi (l1_image hL (by have := HMO.out; omega) (by omega))
      have HL6 := hidi hL
      clear hL k0 k1 k2 k3 k4 k5 k6 k7 k8 k9
      go_wp2_with fail
      go_must (go_at_call 9)
      refine IM.out.mono ?_
      clear IM
      rintro e w7 ⟨v1, vf, vq, vi, LS, LI, Lf, Lm, rfl, h1, _, h3, h4, _, hb7, hbd, _⟩
      obtain ⟨a1, e1, rfl⟩ := own_sl h1
      obtain ⟨a2, e2, rfl⟩ := own_sl h3.fl
      obtain ⟨a3, e3, he3⟩ := own_sl h3.qu
      subst he3
      obtain ⟨a4, e4, rfl⟩ := own_sl h4
      obtain ⟨ls, hls⟩ : ∃ ls : Int, ls = ((pDo mo z (Ow.c ⟨kd, wh, n', id, fl, q, ⟨t, .slice pa pn pc, mq, r, xs⟩⟩)).z.p.last : Int) := ⟨_, rfl⟩
      rw [← hls]
      clear hls h1 h3 h4
      obtain ⟨nS, hnS⟩ : ∃ nS, nS = LS.length := ⟨_, rfl⟩
      obtain ⟨n2, hn2⟩ : ∃ n2, n2 = Lf.length := ⟨_, rfl⟩
      obtain ⟨n3, hn3⟩ : ∃ n3, n3 = Lm.length := ⟨_, rfl⟩
      obtain ⟨n4, hn4⟩ : ∃ n4, n4 = LI.length := ⟨_, rfl⟩
      rw [← hnS, ← hn2, ← hn3, ← hn4] at hbd ⊢
      have c1' : ¬ (nS : Int) > min (max s 0) 65536 := by have := hbd.1; have := HMO.out; omega
      have c2' : ¬ (n2 : Int) > min (max nn 1) 65535 := by have := hbd.2.1; have := (mostOf_is nn).2.2; omega
      have c3' : ¬ (n3 : Int) > min (max qq 0) 65536 := by have := hbd.2.2.1; have := (queueOf_is qq).2; omega
      have f1' : ¬ min (max s 0) 65536 < (nS : Int) := by omega
      have f2' : ¬ min (max nn 1) 65535 < (n2 : Int) := by omega
      have f3' : ¬ min (max qq 0) 65536 < (n3 : Int) := by omega
      obtain ⟨w8, hw8⟩ : ∃ w8, w8 = w7.alloc (.cells #[.string key, .slice a1 nS e1, .int .i64 ls, .slice a2 n2 e2, .slice a3 n3 e3, .slice a4 n4 e4] 34) := ⟨_, rfl⟩
      have x8 : w8.heap[w7.heap.size]? = some (.cells #[.string key, .slice a1 nS e1, .int .i64 ls, .slice a2 n2 e2, .slice a3 n3 e3, .slice a4 n4 e4] 34 (0, 0)) := by rw [hw8]; exact heap_alloc_new w7 _
      have b8 : Below w6.heap.size w6 w8 := by rw [hw8]; exact hb7.alloc hb7.size _
      have L8 := hidi (HL6.out.below b8)
      have y8 := later_at Y4.out L8.out.bel
      have d2 := box_cells y8 2 _ rfl
      have d3 := box_cells y8 3 _ rfl
      have d4 := box_cells y8 4 _ rfl
      have i1 := box_cells x8 1 _ rfl
      have i3 := box_cells x8 3 _ rfl
      have i4 := box_cells x8 4 _ rfl
      clear hbd hnS hn2 hn3 hn4 hb7 b8 x8 y8 HL6
      go_upto_region 13 with fail
      rw [← hw8]
      clear hw8
      go_wp2_with fail
      go_roundg (M - (j + 1))
      case measure => omega
      case rel => exact ⟨j + 1, by omega, by first | rfl | simp, _, _, _, L8.out⟩
    · have hlt : ¬ (j : Int) < (M : Int) := by omega
      have hj150 : j ≤ 150 := by have := HX.out.2.1; rw [H.out.1.len] at this; omega
      obtain ⟨z, sv, nv, hL⟩ := HI.out
      have KC := hidi (show ∀ w', Below w4.heap.size w4 w' → w'.cell? ⟨w.heap.size, 0, none⟩ = some (.bool l0) ∧ w'.cell? ⟨w.heap.size, 1, none⟩ = some (.int .i64 c1) ∧ w'.cell? ⟨w.heap.size, 2, none⟩ = some (.int .i64 nn) ∧ w'.cell? ⟨w.heap.size, 3, none⟩ = some (.int .i64 qq) ∧ w'.cell? ⟨w.heap.size, 4, none⟩ = some (.int .i64 s) ∧ w'.cell? ⟨w.heap.size, 5, none⟩ = some (.int .i64 c5) ∧ w'.cell? ⟨w.heap.size, 6, none⟩ = some (.int .i64 c6) ∧ w'.cell? ⟨w.heap.size, 7, none⟩ = some (.int .i64 c7) ∧ w'.cell? ⟨w.heap.size, 8, none⟩ = some (.int .i64 c8) ∧ w'.cell? ⟨w.heap.size, 9, none⟩ = some (.slice ua un uc) from fun w' hb => by have y := later_at Y4.out hb; exact ⟨box_cells y 0 _ rfl, box_cells y 1 _ rfl, box_cells y 2 _ rfl, box_cells y 3 _ rfl, box_cells y 4 _ rfl, box_cells y 5 _ rfl, box_cells y 6 _ rfl, box_cells y 7 _ rfl, box_cells y 8 _ rfl, box_cells y 9 _ rfl⟩)
      obtain ⟨d0, d1, d2, d3, d4, d5, d6, d7, d8, d9⟩ := KC.out wr hL.bel
      have LD := hidi (hL.below (Below.refl wr.heap.size wr).drew)
      have IM := hidi (l1_image LD.out (by have := HMO.out; omega) (by omega))
      clear hL HI
      go_upto_region 15 with fail
      refine wp_region_held_drew (S := fun w' => w'.cell? ⟨w.heap.size, 0, none⟩ = some (.bool l0) ∧ w'.cell? ⟨w.heap.size, 1, none⟩ = some (.int .i64 c1) ∧ w'.cell? ⟨w.heap.size, 2, none⟩ = some (.int .i64 nn) ∧ w'.cell? ⟨w.heap.size, 3, none⟩ = some (.int .i64 qq) ∧ w'.cell? ⟨w.heap.size, 4, none⟩ = some (.int .i64 s) ∧ w'.cell? ⟨w.heap.size, 5, none⟩ = some (.int .i64 c5) ∧ w'.cell? ⟨w.heap.size, 6, none⟩ = some (.int .i64 c6) ∧ w'.cell? ⟨w.heap.size, 7, none⟩ = some (.int .i64 c7) ∧ w'.cell? ⟨w.heap.size, 8, none⟩ = some (.int .i64 c8) ∧ w'.cell? ⟨w.heap.size, 9, none⟩ = some (.slice ua un uc)) (by kernel_rfl) ⟨d0, d1, d2, d3, d4, d5, d6, d7, d8, d9⟩ (fun hHeld => ?_)
      change wpAnyH _ _ _ _ _ 9 #[false, false, false, false, false, false, false, false, false] _ (World.drew _)
      refine wpAnyH_take (i := 0) (oi := { dst := some 84, op := Go.Op.move (Go.Operand.tmp 9), type := 36, pos := "outright.go:79", after := #[], guard := none }) (v := .pointer (some ⟨sb, 0, none⟩)) rfl (by kernel_rfl) (by kernel_rfl) (by kernel_rfl) (fun _ _ _ h => h) (Or.inl ⟨by kernel_rfl, by intro wq hSw; (try dsimp only at hSw); clear hHeld; go_simp⟩) hHeld ?_
      simp only [Act.put, List.setIfInBounds_toArray, List.set_cons_zero, List.set_cons_succ]
      refine wpAnyH_take (i := 2) (oi := { dst := some 86, op := Go.Op.load 24 (Go.Operand.tmp 4), type := 24, pos := "outright.go:79", after := #[], guard := none }) (v := .agg #[.bool l0, .int .i64 c1, .int .i64 nn, .int .i64 qq, .int .i64 s, .int .i64 c5, .int .i64 c6, .int .i64 c7, .int .i64 c8, .slice ua un uc]) rfl (by kernel_rfl) (by kernel_rfl) (by kernel_rfl) (fun _ _ _ h => h) (Or.inl ⟨by kernel_rfl, by intro wq hSw; (try dsimp only at hSw); clear hHeld; go_simp⟩) hHeld ?_
      simp only [Act.put, List.setIfInBounds_toArray, List.set_cons_zero, List.set_cons_succ]
      refine wpAnyH_ready (rs := [1]) (by kernel_rfl) (by simp) ?_
      refine AllReadyH.cons (o := { dst := some 85, op := Go.Op.call { callee := Go.Callee.value (Go.Operand.func 9), args := #[Go.Operand.tmp 84], argTypes := #[36] }, type := 34, pos := "outright.go:79", after := #[{ on := 0, ground := Go.Ground.data }], guard := none }) (by rfl) (fun K hK => ?_) AllReadyH.nil
      go_simp
      go_wp2_with (go_at_call 9; refine (IM.out).mono ?_; rintro e w7 ⟨v1, vf, vq, vi, LS, LI, Lf, Lm, rfl, h1, hS, h3, h4, hI, hb7, hbd, hok⟩)
      have L7 := hidi (LD.out.below hb7)
      have hw4 : 0 < w4.heap.size := Nat.lt_of_lt_of_le (Nat.lt_of_le_of_lt (Nat.zero_le _) (Array.getElem?_eq_some_iff.1 Y4.out).1) (Nat.le_refl _)
      have FR := hidi (l1_from L7.out hw4 (by have := HX.out.1; omega) h1 hS h3 hok h4 hI l0 c1 nn qq s c5 c6 c7 c8 ua un uc rfl rfl HMO.out (by omega))
      obtain ⟨a1, e1, rfl⟩ := own_sl h1
      obtain ⟨a2, e2, rfl⟩ := own_sl h3.fl
      obtain ⟨a3, e3, he3⟩ := own_sl h3.qu
      subst he3
      obtain ⟨a4, e4, rfl⟩ := own_sl h4
      obtain ⟨ls, hls⟩ : ∃ ls : Int, ls = (z.p.last : Int) := ⟨_, rfl⟩
      rw [← hls] at FR ⊢
      obtain ⟨nS, hnS⟩ : ∃ nS, nS = LS.length := ⟨_, rfl⟩
      obtain ⟨n2, hn2⟩ : ∃ n2, n2 = Lf.length := ⟨_, rfl⟩
      obtain ⟨n3, hn3⟩ : ∃ n3, n3 = Lm.length := ⟨_, rfl⟩
      obtain ⟨n4, hn4⟩ : ∃ n4, n4 = LI.length := ⟨_, rfl⟩
      rw [← hnS, ← hn2, ← hn3, ← hn4] at FR ⊢
      clear d0 d1 d2 d3 d4 d5 d6 d7 d8 d9 hHeld h1 hS h3 h4 hI hb7 hbd hok hls hnS hn2 hn3 hn4 hw4
      obtain ⟨d0, d1, d2, d3, d4, d5, d6, d7, d8, d9⟩ := KC.out _ L7.out.bel
      refine hK.out _ _ ⟨d0, d1, d2, d3, d4, d5, d6, d7, d8, d9⟩ (fun hHeld => ?_)
      clear hK K
      (try simp only [Act.put, List.setIfInBounds_toArray, List.set_cons_zero, List.set_cons_succ])
      refine wpAnyH_ready (rs := [3]) (by kernel_rfl) (by simp) ?_
      refine AllReadyH.cons (o := { dst := some 87, op := Go.Op.call { callee := Go.Callee.value (Go.Operand.func 10), args := #[Go.Operand.tmp 85, Go.Operand.tmp 86], argTypes := #[34, 24] }, type := 50, pos := "outright.go:79", after := #[{ on := 1, ground := Go.Ground.data }, { on := 2, ground := Go.Ground.data }, { on := 1, ground := Go.Ground.chain }], guard := none }) (by rfl) (fun K hK => ?_) AllReadyH.nil
      go_simp
      go_wp2_with (go_at_call 10; refine (FR.out).mono ?_; rintro e w8 ⟨tb, xb, sv', nv', rfl, hz2, hb8⟩)
      have HZ := hidi (And.intro hz2 (L7.out.bel.trans (hb8.mono L7.out.bel.size)))
      clear d0 d1 d2 d3 d4 d5 d6 d7 d8 d9 hHeld hz2 hb8
      obtain ⟨d0, d1, d2, d3, d4, d5, d6, d7, d8, d9⟩ := KC.out _ HZ.out.2
      refine hK.out _ _ ⟨d0, d1, d2, d3, d4, d5, d6, d7, d8, d9⟩ (fun hHeld => ?_)
      clear hK K
      (try simp only [Act.put, List.setIfInBounds_toArray, List.set_cons_zero, List.set_cons_succ])
      refine wpAnyH_take (i := 4) (oi := { dst := some 83, op := Go.Op.move (Go.Operand.tmp 87), type := 50, pos := "outright.go:79", after := #[{ on := 3, ground := Go.Ground.data }], guard := none }) (v := .tuple #[.pointer (some ⟨tb, 0, none⟩), .int .i64 0]) rfl (by kernel_rfl) (by kernel_rfl) (by kernel_rfl) (fun _ _ _ h => h) (Or.inl ⟨by kernel_rfl, by intro wq hSw; (try dsimp only at hSw); clear hHeld; go_simp⟩) hHeld ?_
      simp only [Act.put, List.setIfInBounds_toArray, List.set_cons_zero, List.set_cons_succ]
      refine wpAnyH_take (i := 5) (oi := { dst := some 88, op := Go.Op.extract (Go.Operand.tmp 83) 0, type := 36, pos := "outright.go:79", after := #[{ on := 4, ground := Go.Ground.data }], guard := none }) (v := .pointer (some ⟨tb, 0, none⟩)) rfl (by kernel_rfl) (by kernel_rfl) (by kernel_rfl) (fun _ _ _ h => h) (Or.inl ⟨by kernel_rfl, by intro wq hSw; (try dsimp only at hSw); clear hHeld; go_simp⟩) hHeld ?_
      simp only [Act.put, List.setIfInBounds_toArray, List.set_cons_zero, List.set_cons_succ]
      refine wpAnyH_take (i := 6) (oi := { dst := some 89, op := Go.Op.extract (Go.Operand.tmp 83) 1, type := 49, pos := "outright.go:79", after := #[{ on := 4, ground := Go.Ground.data }, { on := 7, ground := Go.Ground.gcOnly Go.Departure.lateStores }], guard := none }) (v := .int .i64 0) rfl (by kernel_rfl) (by kernel_rfl) (by kernel_rfl) (fun _ _ _ h => h) (Or.inl ⟨by kernel_rfl, by intro wq hSw; (try dsimp only at hSw); clear hHeld; go_simp⟩) hHeld ?_
      simp only [Act.put, List.setIfInBounds_toArray, List.set_cons_zero, List.set_cons_succ]
      refine wpAnyH_take (i := 7) (oi := { dst := some 12, op := Go.Op.assign (Go.Operand.tmp 88), type := 36, pos := "outright.go:79", after := #[{ on := 5, ground := Go.Ground.data }, { on := 3, ground := Go.Ground.chain }, { on := 0, ground := Go.Ground.phase }, { on := 1, ground := Go.Ground.phase }, { on := 2, ground := Go.Ground.phase }, { on := 3, ground := Go.Ground.phase }, { on := 4, ground := Go.Ground.phase }, { on := 5, ground := Go.Ground.phase }, { on := 6, ground := Go.Ground.textOnly Go.Departure.lateStores }], guard := none }) (v := .pointer (some ⟨tb, 0, none⟩)) rfl (by kernel_rfl) (by kernel_rfl) (by kernel_rfl) (fun _ _ _ h => h) (Or.inl ⟨by kernel_rfl, by intro wq hSw; (try dsimp only at hSw); clear hHeld; go_simp⟩) hHeld ?_
      simp only [Act.put, List.setIfInBounds_toArray, List.set_cons_zero, List.set_cons_succ]
      refine wpAnyH_take (i := 8) (oi := { dst := some 13, op := Go.Op.assign (Go.Operand.tmp 89), type := 49, pos := "outright.go:79", after := #[{ on := 6, ground := Go.Ground.data }, { on := 7, ground := Go.Ground.chain }, { on := 0, ground := Go.Ground.phase }, { on := 1, ground := Go.Ground.phase }, { on := 2, ground := Go.Ground.phase }, { on := 3, ground := Go.Ground.phase }, { on := 4, ground := Go.Ground.phase }, { on := 5, ground := Go.Ground.phase }, { on := 6, ground := Go.Ground.phase }, { on := 7, ground := Go.Ground.phase }], guard := none }) (v := .int .i64 0) rfl (by kernel_rfl) (by kernel_rfl) (by kernel_rfl) (fun _ _ _ h => h) (Or.inl ⟨by kernel_rfl, by intro wq hSw; (try dsimp only at hSw); clear hHeld; go_simp⟩) hHeld ?_
      simp only [Act.put, List.setIfInBounds_toArray, List.set_cons_zero, List.set_cons_succ]
      refine wpAnyH_done (by kernel_rfl) ?_ _
      clear hHeld FR IM
      have OKZ := hidi LD.out.ok
      have a0 : w8.cell? ⟨sb, 0, none⟩ = some (.pointer (some ⟨wb, 0, none⟩)) := box_cells HZ.out.1.a1 0 _ rfl
      have DN := hidi (z2_down HZ.out.1)
      clear d0 d1 d2 d3 d4 d5 d6 d7 d8 d9
      go_wp2_with fail
      go_must (go_at_call 11)
      refine DN.out.mono ?_
      clear DN
      rintro e w9 ⟨rfl, sv9, nv9, hz9⟩
      rw [OKZ.out.down] at hz9
      have T9 := hidi (show T2 w4 w9 sb wb tb xb key mo (mostOf nn) (queueOf qq) _ j 0 from ⟨_, _, _, _, OKZ.out.downZ, hz9⟩)
      obtain ⟨y9, hy9⟩ : ∃ y9, y9 = ({ z with p := ⟨z.p.most, z.p.queue, false, z.p.last, z.p.fl, z.p.wt, []⟩ } : Pz) := ⟨_, rfl⟩
      rw [← hy9] at T9
      clear hz9 hy9 a0 HZ OKZ L7 LD KC
      have HM := hidi (show mo ≤ 65536 from by have := HMO.out; omega)
      have HJ := hidi hj150
      have HM2 := hidi (show M' ≤ 150 from by have := HX'.out.2.1; rw [H.out.2.1.len] at this; exact this)
      go_wp2_with fail
      go_loopg [14, 15, 16, 17, 18, 19, 20] M' (fun gk2 s14 s15 s16 s17 s18 s19 s20 wx => ∃ i : Nat, i + gk2 = M' ∧ s14 = .int .i64 i ∧ Hid (∃ y, T2 w4 wx sb wb tb xb key mo (mostOf nn) (queueOf qq) y j i))
      case atStart => exact ⟨0, by omega, rfl, y9, T9.out⟩
      case round =>
        clear T9
        obtain ⟨i, hi, rfl, HI2⟩ := hrel
        by_cases hin : i < M'
        · have hil : i < ops'.length := by rw [H.out.2.1.len]; exact hin
          have hi150 : i ≤ 150 := by have := HM2.out; omega
          obtain ⟨y, hT⟩ := HI2.out
          obtain ⟨g', o, pa, pn, pc, hta, hv, hcell, hp, hf, ht, hid⟩ := H.out.2.1.at HX'.out.2 (B4.out.trans (hT.bel.mono B4.out.size)) hin hil
          have AT := hidi (fun (wx : World) (hb : Below w4.heap.size w4 wx) => H.out.2.1.at HX'.out.2 (B4.out.trans (hb.mono B4.out.size)) hin hil)
          subst hta
          have D1 := hidi (t2_first hT HM.out (by have := HJ.out; omega) ops'[i] hp hf ht hid)
          clear hT hp HI2
          have D2 := hidi (fun (v : Value) (wx : World) (hh : T2h w4 wx sb wb tb xb key mo (mostOf nn) (queueOf qq) y ops'[i].c j i v) => (show (∀ x, x < 10 → wx.cell? ⟨g', o + i * 10 + x, none⟩ = ops'[i].cs[x]?) ∧ _ from by
            obtain ⟨g2, o2, pa2, pn2, pc2, e1, e2, hcell2, hp2, _, _, _⟩ := AT.out wx hh.bel
            simp only [Option.some.injEq, Addr.mk.injEq, and_true] at e1
            obtain ⟨rfl, rfl⟩ := e1
            exact ⟨hcell2, t2_second ops'[i] hh HM.out (by have := HJ.out; omega) hp2 hf ht hid⟩))
          clear AT hf ht hid
          obtain ⟨oo, hoo⟩ : ∃ oo, oo = ops'[i] := ⟨_, rfl⟩
          rw [← hoo] at hv hcell D1 D2
          clear hoo
          obtain ⟨kd, wh, n', id, fl, q, ⟨t, v, mq, r, xs⟩⟩ := oo
          simp only at hv
          subst hv
          obtain ⟨oc, hoc⟩ : ∃ oc, oc = Ow.c ⟨kd, wh, n', id, fl, q, ⟨t, .slice pa pn pc, mq, r, xs⟩⟩ := ⟨_, rfl⟩
          rw [← hoc] at D1 D2
          clear hoc
          obtain ⟨dn, hdn⟩ : ∃ dn, dn = pDo mo y oc := ⟨_, rfl⟩
          have HDN := hidi hdn
          rw [← hdn] at D1 D2
          clear hdn
          obtain ⟨y', X, ok, nn'⟩ := dn
          simp only at D1 D2
          have hlt : (i : Int) < (M' : Int) := by omega
          have hge : (0 : Int) ≤ (i : Int) := by omega
          have hw1 : IntKind.i64.wrap ((i : Int) + 1) = (i : Int) + 1 := by rw [IntKind.wrap_i64]; omega
          have k0 : wr.cell? ⟨g', o + i * 10, none⟩ = some (.int .i64 kd) := hcell 0 (by omega)
          have k1 : wr.cell? ⟨g', o + i * 10 + 1, none⟩ = some (.int .i64 wh) := hcell 1 (by omega)
          have k2 : wr.cell? ⟨g', o + i * 10 + 2, none⟩ = some (.int .i64 n') := hcell 2 (by omega)
          have k3 : wr.cell? ⟨g', o + i * 10 + 3, none⟩ = some (.int .i64 id) := hcell 3 (by omega)
          have k4 : wr.cell? ⟨g', o + i * 10 + 4, none⟩ = some (.string fl) := hcell 4 (by omega)
          have k5 : wr.cell? ⟨g', o + i * 10 + 5, none⟩ = some (.int .i64 q) := hcell 5 (by omega)
          have k6 : wr.cell? ⟨g', o + i * 10 + 6, none⟩ = some (.string t) := hcell 6 (by omega)
          have k7 : wr.cell? ⟨g', o + i * 10 + 7, none⟩ = some (.slice pa pn pc) := hcell 7 (by omega)
          have k8 : wr.cell? ⟨g', o + i * 10 + 8, none⟩ = some (.int .i64 mq) := hcell 8 (by omega)
          have k9 : wr.cell? ⟨g', o + i * 10 + 9, none⟩ = some (.bool r) := hcell 9 (by omega)
          unfold Ow.cs at D1 D2
          simp only at D1 D2
          clear hcell
          go_wp2_with fail
          go_must (go_at_call 8)
          refine D1.out.mono ?_
          clear D1 k0 k1 k2 k3 k4 k5 k6 k7 k8 k9
          rintro e w6 ⟨va, rfl, hh⟩
          obtain ⟨hcell, D3⟩ := D2.out va w6 hh
          have D4 := hidi D3
          clear D2 D3 hh
          have k0 : w6.cell? ⟨g', o + i * 10, none⟩ = some (.int .i64 kd) := hcell 0 (by omega)
          have k1 : w6.cell? ⟨g', o + i * 10 + 1, none⟩ = some (.int .i64 wh) := hcell 1 (by omega)
          have k2 : w6.cell? ⟨g', o + i * 10 + 2, none⟩ = some (.int .i64 n') := hcell 2 (by omega)
          have k3 : w6.cell? ⟨g', o + i * 10 + 3, none⟩ = some (.int .i64 id) := hcell 3 (by omega)
          have k4 : w6.cell? ⟨g', o + i * 10 + 4, none⟩ = some (.string fl) := hcell 4 (by omega)
          have k5 : w6.cell? ⟨g', o + i * 10 + 5, none⟩ = some (.int .i64 q) := hcell 5 (by omega)
          have k6 : w6.cell? ⟨g', o + i * 10 + 6, none⟩ = some (.string t) := hcell 6 (by omega)
          have k7 : w6.cell? ⟨g', o + i * 10 + 7, none⟩ = some (.slice pa pn pc) := hcell 7 (by omega)
          have k8 : w6.cell? ⟨g', o + i * 10 + 8, none⟩ = some (.int .i64 mq) := hcell 8 (by omega)
          have k9 : w6.cell? ⟨g', o + i * 10 + 9, none⟩ = some (.bool r) := hcell 9 (by omega)
          clear hcell
          go_wp2_with fail
          go_must (go_at_call 8)
          refine D4.out.mono ?_
          clear D4 k0 k1 k2 k3 k4 k5 k6 k7 k8 k9
          rintro e w7 ⟨vb, rfl, hT2, hl1, hl2, hlx⟩
          have SP := hidi (samePk_any hl1 hl2 (by omega))
          have HT2 := hidi hT2
          obtain ⟨aa, ca, rfl⟩ := hl1.sl
          obtain ⟨ab, cb, rfl⟩ := hl2.sl
          obtain ⟨nx, hnx⟩ : ∃ nx, nx = X.length := ⟨_, rfl⟩
          rw [← hnx] at SP ⊢
          clear hT2 hl1 hl2 hlx hnx
          have q1 : (ok != ok) = false := by cases ok <;> rfl
          have q2 : (nn' != nn') = false := by simp
          go_wp2_with (go_at_call 12; refine SP.out.mono ?_; clear SP; rintro e w8 ⟨rfl, hb8⟩; have HT8 := hidi (HT2.out.below hb8); clear HT2 hb8)
          go_roundg (M' - (i + 1))
          case measure => omega
          case rel => exact ⟨i + 1, by omega, by first | rfl | simp, _, HT8.out⟩
        · have hlt : ¬ (i : Int) < (M' : Int) := by omega
          obtain ⟨y, hT⟩ := HI2.out
          have HT := hidi (hT.below (Below.refl wr.heap.size wr).drew)
          have hc12 : j + i ≤ 1000 := by have := HJ.out; have := HM2.out; omega
          have IM1 := hidi (t2_image1 HT.out HM.out hc12)
          obtain ⟨ls, hls⟩ : ∃ ls : Int, ls = (y.p.last : Int) := ⟨_, rfl⟩
          obtain ⟨on, hon⟩ : ∃ on : Bool, on = y.p.on := ⟨_, rfl⟩
          have HLS := hidi hls
          have HON := hidi hon
          rw [← hls] at IM1
          have k12 := hT.c1
          clear hT HI2 hls hon
          go_upto_region 26 with fail
          refine wp_region_held_drew (S := fun w' => w'.cell? ⟨sb, 0, none⟩ = some (.pointer (some ⟨wb, 0, none⟩)) ∧ w'.cell? ⟨tb, 0, none⟩ = some (.pointer (some ⟨xb, 0, none⟩))) (by kernel_rfl) k12 (fun hHeld => ?_)
          change wpAnyH _ _ _ _ _ 19 #[false, false, false, false, false, false, false, false, false, false, false, false, false, false, false, false, false, false, false] _ (World.drew _)
          refine wpAnyH_take (i := 0) (oi := { dst := some 141, op := Go.Op.move (Go.Operand.tmp 9), type := 36, pos := "outright.go:91", after := #[], guard := none }) (v := .pointer (some ⟨sb, 0, none⟩)) rfl (by kernel_rfl) (by kernel_rfl) (by kernel_rfl) (fun _ _ _ h => h) (Or.inl ⟨by kernel_rfl, by intro wq hSw; (try dsimp only at hSw); clear hHeld; go_simp⟩) hHeld ?_
          simp only [Act.put, List.setIfInBounds_toArray, List.set_cons_zero, List.set_cons_succ]
          refine wpAnyH_take (i := 2) (oi := { dst := some 143, op := Go.Op.move (Go.Operand.tmp 12), type := 36, pos := "outright.go:91", after := #[], guard := none }) (v := .pointer (some ⟨tb, 0, none⟩)) rfl (by kernel_rfl) (by kernel_rfl) (by kernel_rfl) (fun _ _ _ h => h) (Or.inl ⟨by kernel_rfl, by intro wq hSw; (try dsimp only at hSw); clear hHeld; go_simp⟩) hHeld ?_
          simp only [Act.put, List.setIfInBounds_toArray, List.set_cons_zero, List.set_cons_succ]
          refine wpAnyH_ready (rs := [1]) (by kernel_rfl) (by simp) ?_
          refine AllReadyH.cons (o := { dst := some 142, op := Go.Op.call { callee := Go.Callee.value (Go.Operand.func 9), args := #[Go.Operand.tmp 141], argTypes := #[36] }, type := 34, pos := "outright.go:91", after := #[{ on := 0, ground := Go.Ground.data }], guard := none }) (by rfl) (fun K hK => ?_) AllReadyH.nil
          go_simp
          go_wp2_with (go_at_call 9; refine (IM1.out).mono ?_; rintro e w10 ⟨v1, vf, vq, vi, rfl, hi1, hb10⟩)
          have T10 := hidi (HT.out.below hb10)
          have IM2 := hidi (t2_image2 T10.out HM.out hc12)
          rw [← HLS.out] at IM2
          have HI1 := hidi hi1
          clear IM1 HT hHeld hi1 hb10 k12
          refine hK.out _ _ T10.out.c1 (fun hHeld => ?_)
          clear hK K
          (try simp only [Act.put, List.setIfInBounds_toArray, List.set_cons_zero, List.set_cons_succ])
          refine wpAnyH_ready (rs := [3]) (by kernel_rfl) (by simp) ?_
          refine AllReadyH.cons (o := { dst := some 144, op := Go.Op.call { callee := Go.Callee.value (Go.Operand.func 9), args := #[Go.Operand.tmp 143], argTypes := #[36] }, type := 34, pos := "outright.go:91", after := #[{ on := 2, ground := Go.Ground.data }, { on := 1, ground := Go.Ground.chain }], guard := none }) (by rfl) (fun K hK => ?_) AllReadyH.nil
          go_simp
          go_wp2_with (go_at_call 9; refine (IM2.out).mono ?_; rintro e w11 ⟨u1, uf, uq, ui, rfl, hi2, hb11⟩)
          have T11 := hidi (T10.out.below hb11)
          have SS := hidi (t2_same T11.out HM.out hc12 (HI1.out.below hb11) hi2)
          rw [← HLS.out] at SS
          clear IM2 T10 HI1 hHeld hi2 hb11
          refine hK.out _ _ T11.out.c1 (fun hHeld => ?_)
          clear hK K
          (try simp only [Act.put, List.setIfInBounds_toArray, List.set_cons_zero, List.set_cons_succ])
          refine wpAnyH_ready (rs := [4]) (by kernel_rfl) (by simp) ?_
          refine AllReadyH.cons (o := { dst := some 145, op := Go.Op.call { callee := Go.Callee.value (Go.Operand.func 13), args := #[Go.Operand.tmp 142, Go.Operand.tmp 144], argTypes := #[34, 34] }, type := 4, pos := "outright.go:91", after := #[{ on := 1, ground := Go.Ground.data }, { on := 3, ground := Go.Ground.data }, { on := 3, ground := Go.Ground.chain }], guard := none }) (by rfl) (fun K hK => ?_) AllReadyH.nil
          go_simp
          go_wp2_with (go_at_call 13; refine (SS.out).mono ?_; rintro e w12 ⟨rfl, hb12⟩)
          have T12 := hidi (T11.out.below hb12)
          have ON1 := hidi (t2_online1 T12.out)
          have ON2 := hidi (t2_online2 T12.out)
          rw [← HON.out] at ON1 ON2
          clear SS T11 hHeld hb12
          refine hK.out _ _ T12.out.c1 (fun hHeld => ?_)
          clear hK K
          (try simp only [Act.put, List.setIfInBounds_toArray, List.set_cons_zero, List.set_cons_succ])
          refine wpAnyH_take (i := 5) (oi := { dst := some 146, op := Go.Op.move (Go.Operand.tmp 145), type := 4, pos := "outright.go:91", after := #[{ on := 4, ground := Go.Ground.data }, { on := 4, ground := Go.Ground.chain }], guard := none }) (v := .bool true) rfl (by kernel_rfl) (by kernel_rfl) (by kernel_rfl) (fun _ _ _ h => h) (Or.inl ⟨by kernel_rfl, by intro wq hSw; (try dsimp only at hSw); clear hHeld; go_simp⟩) hHeld ?_
          simp only [Act.put, List.setIfInBounds_toArray, List.set_cons_zero, List.set_cons_succ]
          refine wpAnyH_take (i := 6) (oi := { dst := some 147, op := Go.Op.move (Go.Operand.tmp 9), type := 36, pos := "outright.go:91", after := #[{ on := 5, ground := Go.Ground.guard }], guard := some (5, true) }) (v := .pointer (some ⟨sb, 0, none⟩)) rfl (by kernel_rfl) (by kernel_rfl) (by kernel_rfl) (fun _ _ _ h => h) (Or.inl ⟨by kernel_rfl, by intro wq hSw; (try dsimp only at hSw); clear hHeld; go_simp⟩) hHeld ?_
          simp only [Act.put, List.setIfInBounds_toArray, List.set_cons_zero, List.set_cons_succ]
          refine wpAnyH_take (i := 7) (oi := { dst := some 148, op := Go.Op.nilCheck (Go.Operand.tmp 147), type := 0, pos := "outright.go:91", after := #[{ on := 6, ground := Go.Ground.data }, { on := 5, ground := Go.Ground.guard }], guard := some (5, true) }) (v := .pointer (some ⟨sb, 0, none⟩)) rfl (by kernel_rfl) (by kernel_rfl) (by kernel_rfl) (fun _ _ _ h => h) (Or.inl ⟨by kernel_rfl, by intro wq hSw; (try dsimp only at hSw); clear hHeld; go_simp⟩) hHeld ?_
          simp only [Act.put, List.setIfInBounds_toArray, List.set_cons_zero, List.set_cons_succ]
          refine wpAnyH_take (i := 8) (oi := { dst := some 149, op := Go.Op.fieldAddr 56 (Go.Operand.tmp 148) 0, type := 0, pos := "outright.go:91", after := #[{ on := 7, ground := Go.Ground.data }, { on := 5, ground := Go.Ground.guard }], guard := some (5, true) }) (v := .pointer (some ⟨sb, 0, none⟩)) rfl (by kernel_rfl) (by kernel_rfl) (by kernel_rfl) (fun _ _ _ h => h) (Or.inl ⟨by kernel_rfl, by intro wq hSw; (try dsimp only at hSw); clear hHeld; go_simp⟩) hHeld ?_
          simp only [Act.put, List.setIfInBounds_toArray, List.set_cons_zero, List.set_cons_succ]
          refine wpAnyH_take (i := 9) (oi := { dst := some 150, op := Go.Op.load 52 (Go.Operand.tmp 149), type := 52, pos := "outright.go:91", after := #[{ on := 8, ground := Go.Ground.data }, { on := 5, ground := Go.Ground.guard }], guard := some (5, true) }) (v := .pointer (some ⟨wb, 0, none⟩)) rfl (by kernel_rfl) (by kernel_rfl) (by kernel_rfl) (fun _ _ _ h => h) (Or.inl ⟨by kernel_rfl, by intro wq hSw; have hq := hSw.1; clear hSw hHeld; go_simp⟩) hHeld ?_
          simp only [Act.put, List.setIfInBounds_toArray, List.set_cons_zero, List.set_cons_succ]
          refine wpAnyH_take (i := 11) (oi := { dst := some 152, op := Go.Op.move (Go.Operand.tmp 12), type := 36, pos := "outright.go:91", after := #[{ on := 5, ground := Go.Ground.guard }], guard := some (5, true) }) (v := .pointer (some ⟨tb, 0, none⟩)) rfl (by kernel_rfl) (by kernel_rfl) (by kernel_rfl) (fun _ _ _ h => h) (Or.inl ⟨by kernel_rfl, by intro wq hSw; (try dsimp only at hSw); clear hHeld; go_simp⟩) hHeld ?_
          simp only [Act.put, List.setIfInBounds_toArray, List.set_cons_zero, List.set_cons_succ]
          refine wpAnyH_take (i := 12) (oi := { dst := some 153, op := Go.Op.nilCheck (Go.Operand.tmp 152), type := 0, pos := "outright.go:91", after := #[{ on := 11, ground := Go.Ground.data }, { on := 5, ground := Go.Ground.guard }], guard := some (5, true) }) (v := .pointer (some ⟨tb, 0, none⟩)) rfl (by kernel_rfl) (by kernel_rfl) (by kernel_rfl) (fun _ _ _ h => h) (Or.inl ⟨by kernel_rfl, by intro wq hSw; (try dsimp only at hSw); clear hHeld; go_simp⟩) hHeld ?_
          simp only [Act.put, List.setIfInBounds_toArray, List.set_cons_zero, List.set_cons_succ]
          refine wpAnyH_take (i := 13) (oi := { dst := some 154, op := Go.Op.fieldAddr 56 (Go.Operand.tmp 153) 0, type := 0, pos := "outright.go:91", after := #[{ on := 12, ground := Go.Ground.data }, { on := 5, ground := Go.Ground.guard }], guard := some (5, true) }) (v := .pointer (some ⟨tb, 0, none⟩)) rfl (by kernel_rfl) (by kernel_rfl) (by kernel_rfl) (fun _ _ _ h => h) (Or.inl ⟨by kernel_rfl, by intro wq hSw; (try dsimp only at hSw); clear hHeld; go_simp⟩) hHeld ?_
          simp only [Act.put, List.setIfInBounds_toArray, List.set_cons_zero, List.set_cons_succ]
          refine wpAnyH_take (i := 14) (oi := { dst := some 155, op := Go.Op.load 52 (Go.Operand.tmp 154), type := 52, pos := "outright.go:91", after := #[{ on := 13, ground := Go.Ground.data }, { on := 5, ground := Go.Ground.guard }], guard := some (5, true) }) (v := .pointer (some ⟨xb, 0, none⟩)) rfl (by kernel_rfl) (by kernel_rfl) (by kernel_rfl) (fun _ _ _ h => h) (Or.inl ⟨by kernel_rfl, by intro wq hSw; have hq := hSw.2; clear hSw hHeld; go_simp⟩) hHeld ?_
          simp only [Act.put, List.setIfInBounds_toArray, List.set_cons_zero, List.set_cons_succ]
          refine wpAnyH_ready (rs := [10]) (by kernel_rfl) (by simp) ?_
          refine AllReadyH.cons (o := { dst := some 151, op := Go.Op.call { callee := Go.Callee.value (Go.Operand.func 14), args := #[Go.Operand.tmp 150], argTypes := #[52] }, type := 4, pos := "outright.go:91", after := #[{ on := 9, ground := Go.Ground.data }, { on := 5, ground := Go.Ground.chain }, { on := 5, ground := Go.Ground.guard }], guard := some (5, true) }) (by rfl) (fun K hK => ?_) AllReadyH.nil
          go_simp
          go_wp2_with (go_at_call 14; refine (ON1.out).mono ?_; rintro e w13 ⟨rfl, rfl⟩)
          clear ON1 hHeld
          refine hK.out _ _ T12.out.c1 (fun hHeld => ?_)
          clear hK K
          (try simp only [Act.put, List.setIfInBounds_toArray, List.set_cons_zero, List.set_cons_succ])
          refine wpAnyH_ready (rs := [15]) (by kernel_rfl) (by simp) ?_
          refine AllReadyH.cons (o := { dst := some 156, op := Go.Op.call { callee := Go.Callee.value (Go.Operand.func 14), args := #[Go.Operand.tmp 155], argTypes := #[52] }, type := 4, pos := "outright.go:91", after := #[{ on := 14, ground := Go.Ground.data }, { on := 10, ground := Go.Ground.chain }, { on := 5, ground := Go.Ground.guard }], guard := some (5, true) }) (by rfl) (fun K hK => ?_) AllReadyH.nil
          go_simp
          go_wp2_with (go_at_call 14; refine (ON2.out).mono ?_; rintro e w13 ⟨rfl, rfl⟩)
          clear ON2 hHeld
          refine hK.out _ _ T12.out.c1 (fun hHeld => ?_)
          clear hK K
          (try simp only [Act.put, List.setIfInBounds_toArray, List.set_cons_zero, List.set_cons_succ])
          have hoo : (on == on) = true := by simp
          refine wpAnyH_take (i := 16) (oi := { dst := some 157, op := Go.Op.binOp Go.BinOp.eql 4 (Go.Operand.tmp 151) (Go.Operand.tmp 156) 4, type := 4, pos := "outright.go:91", after := #[{ on := 10, ground := Go.Ground.data }, { on := 15, ground := Go.Ground.data }, { on := 5, ground := Go.Ground.guard }], guard := some (5, true) }) (v := .bool true) rfl (by kernel_rfl) (by kernel_rfl) (by kernel_rfl) (fun _ _ _ h => h) (Or.inl ⟨by kernel_rfl, by intro wq hSw; (try dsimp only at hSw); clear hHeld; go_simp⟩) hHeld ?_
          simp only [Act.put, List.setIfInBounds_toArray, List.set_cons_zero, List.set_cons_succ]
          refine wpAnyH_take (i := 17) (oi := { dst := some 158, op := Go.Op.pick (Go.Operand.tmp 146) (Go.Operand.tmp 157) (Go.Operand.const (Go.Value.bool false)), type := 4, pos := "outright.go:91", after := #[{ on := 5, ground := Go.Ground.data }, { on := 16, ground := Go.Ground.data }], guard := none }) (v := .bool true) rfl (by kernel_rfl) (by kernel_rfl) (by kernel_rfl) (fun _ _ _ h => h) (Or.inl ⟨by kernel_rfl, by intro wq hSw; (try dsimp only at hSw); clear hHeld; go_simp⟩) hHeld ?_
          simp only [Act.put, List.setIfInBounds_toArray, List.set_cons_zero, List.set_cons_succ]
          refine wpAnyH_take (i := 18) (oi := { dst := some 8, op := Go.Op.assign (Go.Operand.tmp 158), type := 4, pos := "outright.go:91", after := #[{ on := 17, ground := Go.Ground.data }, { on := 15, ground := Go.Ground.chain }, { on := 0, ground := Go.Ground.phase }, { on := 1, ground := Go.Ground.phase }, { on := 2, ground := Go.Ground.phase }, { on := 3, ground := Go.Ground.phase }, { on := 4, ground := Go.Ground.phase }, { on := 5, ground := Go.Ground.phase }, { on := 6, ground := Go.Ground.phase }, { on := 7, ground := Go.Ground.phase }, { on := 8, ground := Go.Ground.phase }, { on := 9, ground := Go.Ground.phase }, { on := 10, ground := Go.Ground.phase }, { on := 11, ground := Go.Ground.phase }, { on := 12, ground := Go.Ground.phase }, { on := 13, ground := Go.Ground.phase }, { on := 14, ground := Go.Ground.phase }, { on := 15, ground := Go.Ground.phase }, { on := 16, ground := Go.Ground.phase }, { on := 17, ground := Go.Ground.phase }], guard := none }) (v := .bool true) rfl (by kernel_rfl) (by kernel_rfl) (by kernel_rfl) (fun _ _ _ h => h) (Or.inl ⟨by kernel_rfl, by intro wq hSw; (try dsimp only at hSw); clear hHeld; go_simp⟩) hHeld ?_
          simp only [Act.put, List.setIfInBounds_toArray, List.set_cons_zero, List.set_cons_succ]
          refine wpAnyH_done (by kernel_rfl) ?_ _
          clear hHeld
          go_wp2_with fail
          go_ret
          exact ⟨rfl, B4.out.trans (T12.out.bel.mono B4.out.size)⟩
end Go.Proofs.YtmihpmmkkklpfaaGreatDoor
