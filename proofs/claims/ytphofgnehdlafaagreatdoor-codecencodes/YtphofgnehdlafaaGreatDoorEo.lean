import Derived.Test.YtphofgnehdlafaaGreatDoorEj
import Derived.Test.YtphofgnehdlafaaGreatDoorEa
import Derived.Test.YtphofgnehdlafaaGreatDoorPUi
import Derived.Test.YtphofgnehdlafaaGreatDoorPRt
import Derived.Test.YtphofgnehdlafaaGreatDoorBye0
import Derived.Test.YtphofgnehdlafaaGreatDoorFdz
namespace Go.Proofs.YtphofgnehdlafaaGreatDoor
open Go Go.RowKit
open Pkt (Pk Cn Sl In By Is Ss As pkCells Gd box_below Right TT sumN sz fg Small ck wpList_load_wanted mkI)
set_option linter.unusedSimpArgs false
set_option linter.unusedVariables false
set_option maxRecDepth 100000
set_option maxHeartbeats 4000000
theorem flags3_any (p : Pk) (c : Cn) (w : World) (r : Right TT p c) : Calls Tryz.prog 100 #[.agg (pkCells p)] w fun e w' => e = .returned (.int .i64 (fg p)) ∧ Below w.heap.size w w' := by
 by_cases k3 : p.kind = 3
 ·
  have hq := r.q2
  have e1 : fg p = mkU p.dup 8 + 2 * p.mQ + mkU p.mR 1 := by
   rw [Pkt.fg_pub r k3]
   show 2 * p.mQ + mkU p.dup 8 + mkU p.mR 1 = _
   omega
  rw [e1]
  clear r e1
  obtain ⟨kind, level, clean, keep, client, hasWill, wT, ⟨wa, wn, wc⟩, wQ, wR, hasUser, user, hasPass, ⟨pa, pn, pc⟩, present, code, dup, mT, ⟨ma, mn, mc⟩, mQ, mR, id, ⟨aa, an, ac⟩, ⟨ca, cn, cc⟩, ⟨fa, fn, fc⟩⟩ := p
  simp only at k3 hq
  subst k3
  exact flags3_pub level clean keep client hasWill wT wa wn wc wQ wR hasUser user hasPass pa pn pc present code dup mT ma mn mc mQ mR id aa an ac ca cn cc fa fn fc w hq
 ·
  have e1 := Pkt.fg_not r k3
  rw [e1]
  clear r e1
  obtain ⟨kind, level, clean, keep, client, hasWill, wT, ⟨wa, wn, wc⟩, wQ, wR, hasUser, user, hasPass, ⟨pa, pn, pc⟩, present, code, dup, mT, ⟨ma, mn, mc⟩, mQ, mR, id, ⟨aa, an, ac⟩, ⟨ca, cn, cc⟩, ⟨fa, fn, fc⟩⟩ := p
  simp only at k3 ⊢
  by_cases h6 : kind = 6
  ·
   subst h6
   exact flags3_6 level clean keep client hasWill wT wa wn wc wQ wR hasUser user hasPass pa pn pc present code dup mT ma mn mc mQ mR id aa an ac ca cn cc fa fn fc w
  by_cases h8 : kind = 8
  ·
   subst h8
   exact flags3_8 level clean keep client hasWill wT wa wn wc wQ wR hasUser user hasPass pa pn pc present code dup mT ma mn mc mQ mR id aa an ac ca cn cc fa fn fc w
  by_cases h10 : kind = 10
  ·
   subst h10
   exact flags3_10 level clean keep client hasWill wT wa wn wc wQ wR hasUser user hasPass pa pn pc present code dup mT ma mn mc mQ mR id aa an ac ca cn cc fa fn fc w
  rw [if_neg (by omega)]
  exact flags3_no kind level clean keep client hasWill wT wa wn wc wQ wR hasUser user hasPass pa pn pc present code dup mT ma mn mc mQ mR id aa an ac ca cn cc fa fn fc w k3 h6 h8 h10
theorem own_byb {w : World} {B n cp : Nat} {a : Option Addr} {xs : List Value} (h : w.ownsRow B 5 1 (.slice a n cp) n xs) (hb : Byts xs) : By w ⟨a, n, cp⟩ (byteAt xs) ∧ xs = cellsOf (byteAt xs) n := by
 have hl : xs.length = n := by have := h.1; omega
 have hx := byteAt_cells hb
 rw [hl] at hx
 refine ⟨?_, hx⟩
 rcases h.2 with ⟨q, h0⟩ | ⟨g, cap, cur, q, _, hg, hnc, _⟩
 ·
  injection q with q1 q2 q3
  subst h0 q3
  exact ⟨Nat.le_refl _, byteAt_bd hb, .inl rfl⟩
 ·
  injection q with q1 q2 q3
  subst q1 q3
  refine ⟨hnc, byteAt_bd hb, .inr ⟨g, 0, rfl, fun i hi => ?_⟩⟩
  have hc := h.cellAt i (by simp only at hi; omega)
  rw [Nat.zero_add, hc]
  have e : xs[i]? = (cellsOf (byteAt xs) n)[i]? := congrArg (fun l : List Value => l[i]?) hx
  rw [e]
  simp only at hi
  simp [cellsOf, List.getElem?_map, List.getElem?_range hi]
theorem own_built (w : World) (b : Int) : (w.alloc (.cells #[.int .u8 b] 5)).ownsRow w.heap.size 5 1 (.slice (some ⟨w.heap.size, 0, none⟩) 1 1) 1 [.int .u8 b] :=
 ⟨rfl, .inr ⟨w.heap.size, 1, #[.int .u8 b], rfl, Nat.le_refl _, heap_alloc_new w _, Nat.le_refl _, by unfold maxLen; omega, rfl, rfl⟩⟩
theorem byts_f3 {p : Pk} {c : Cn} (r : Right TT p c) {w : World} (hin : In w p c) : Byts (fieldsL p c) ∧ (fieldsL p c).length = sz p c := by
 have h1 := byts_enc r hin.wP.2.1 hin.pass.2.1 hin.mP.2.1
 have h2 := enc_len r
 unfold encL at h1 h2
 refine ⟨fun v hv => h1 v (List.mem_append.2 (.inr hv)), ?_⟩
 simp only [List.length_append, cellsOf_length] at h2
 omega
theorem encode3_wrong (p : Pk) (c : Cn) (w : World) (hin : In w p c) (hs : Small p c) (h0 : ck TT p c ≠ 0) :
    Calls Tryz.prog 25 #[.agg (pkCells p)] w fun e w' => e = .returned (.tuple #[.slice none 0 0, .int .i64 (ck TT p c)]) ∧ Below w.heap.size w w' := by
  obtain ⟨W, hW⟩ : ∃ W, W = w.alloc (.cells (pkCells p) 29) := ⟨_, rfl⟩
  have b0 : Hid (Below w.heap.size w W) := box_below hW
  have g0 : Hid (W.heap[w.heap.size]? = some (.cells (pkCells p) 29)) := by show _ = _; rw [hW]; exact heap_alloc_new w _
  have C1 := hidx (show Calls Tryz.prog 98 #[.agg (pkCells p)] W fun e w'' => e = .returned (.int .i64 (ck TT p c)) ∧ Below W.heap.size W w'' from Pkt.rcheck2_any p c W (hin.below b0.out) hs)
  obtain ⟨E, hE⟩ : ∃ E : Nat, E = ck TT p c := ⟨_, rfl⟩
  rw [← hE] at C1 h0 ⊢
  have hne : ¬ (E : Int) = 0 := by omega
  have hne' : ((E : Int) != 0) = true := by simp; omega
  obtain ⟨cs, hcs⟩ : ∃ cs, cs = pkCells p := ⟨_, rfl⟩
  have hsz : Hid (cs.size = 25) := by show _ = _; rw [hcs]; rfl
  rw [← hcs] at g0 C1 hW ⊢
  clear hcs hin hs h0 hE
  go_enter Tryz.func25, Tryz.ntmps25
  go_upto_region 1 with fail
  rw [← hW]
  clear hW
  go_wp2_with (first | (refine wpList_load_wanted rfl _ rfl w.heap.size rfl _ (0, 0) g0.out hsz.out ?_) | fail)
  go_must (go_at_call 98)
  refine C1.out.mono ?_
  rintro e w1 ⟨rfl, hb⟩
  have B1 := hidx (b0.out.trans (hb.mono b0.out.size))
  clear hb C1
  go_wp2_with fail
  go_ret2
  exact ⟨rfl, B1.out⟩
theorem encode3_right (p : Pk) (c : Cn) (w : World) (hin : In w p c) (hn : Pkt.Nils p) (hs : Small p c) (r : Right TT p c) (hN : sz p c ≤ 1299990) :
    Calls Tryz.prog 25 #[.agg (pkCells p)] w fun e w' => ∃ v, e = .returned (.tuple #[v, .int .i64 0]) ∧ w'.ownsRow w.heap.size 5 1 v (1 + kn (sz p c) + sz p c) (encL p c) ∧ v ≠ .slice none 0 0 ∧ Below w.heap.size w w' := by
  obtain ⟨W, hW⟩ : ∃ W, W = w.alloc (.cells (pkCells p) 29) := ⟨_, rfl⟩
  have b0 : Hid (Below w.heap.size w W) := box_below hW
  have g0 : Hid (W.heap[w.heap.size]? = some (.cells (pkCells p) 29)) := by show _ = _; rw [hW]; exact heap_alloc_new w _
  have C1 := hidx (show Calls Tryz.prog 98 #[.agg (pkCells p)] W fun e w'' => e = .returned (.int .i64 0) ∧ Below W.heap.size W w'' from by
    have := Pkt.rcheck2_any p c W (hin.below b0.out) hs
    rw [(Pkt.ck_right TT p c).2 r] at this
    exact this)
  have C2 := hidx (fun (w' : World) (hb : Below W.heap.size W w') => fields3_any p c w' (hin.below (b0.out.trans (hb.mono b0.out.size))) hn r hN)
  have C3 := hidx (fun (w' : World) => flags3_any p c w' r)
  have FB := hidx (byts_f3 r hin)
  have EL := hidx (show encL p c = cellsOf (oneZ (16 * p.kind + fg p)) 1 ++ cellsOf (glZ (sz p c)) (kn (sz p c)) ++ fieldsL p c from rfl)
  have hfb := fg_bd r
  have k1 := r.k1
  have k2 := r.k2
  obtain ⟨Ki, hKi⟩ : ∃ Ki, Ki = p.kind := ⟨_, rfl⟩
  obtain ⟨G, hG⟩ : ∃ G, G = fg p := ⟨_, rfl⟩
  obtain ⟨N, hNN⟩ : ∃ N, N = sz p c := ⟨_, rfl⟩
  obtain ⟨L, hL⟩ : ∃ L, L = fieldsL p c := ⟨_, rfl⟩
  obtain ⟨EN, hEN⟩ : ∃ L, L = encL p c := ⟨_, rfl⟩
  obtain ⟨cs, hcs⟩ : ∃ cs, cs = pkCells p := ⟨_, rfl⟩
  have hsz : Hid (cs.size = 25) := by show _ = _; rw [hcs]; rfl
  have a0 : Hid (cs[0]? = some (.int .i64 Ki)) := by show _ = _; rw [hcs, hKi]; rfl
  rw [← hcs] at g0 C1 hW ⊢
  rw [← hcs, ← hL] at C2
  rw [← hcs, ← hG] at C3
  rw [← hL, ← hNN] at FB
  rw [← hEN, ← hKi, ← hG, ← hNN, ← hL] at EL
  rw [← hG] at hfb
  rw [← hKi] at k1 k2
  rw [← hNN] at hN
  rw [← hNN, ← hEN]
  have HK := hidx (And.intro k1 (And.intro k2 (And.intro hfb hN)))
  have hw1 : IntKind.i64.wrap (16 * Ki) = 16 * Ki := by rw [IntKind.wrap_i64]; omega
  have hw2 : IntKind.i64.wrap (16 * Ki + G) = 16 * Ki + G := by rw [IntKind.wrap_i64]; omega
  have hw3 : IntKind.u8.wrap (16 * Ki + G) = 16 * Ki + G := by rw [IntKind.wrap_u8]; omega
  clear hcs hin hs r hN hn hfb k1 k2 hKi hG hNN hL hEN
  go_enter Tryz.func25, Tryz.ntmps25
  go_upto_region 1 with fail
  rw [← hW]
  clear hW
  go_wp2_with (first | (refine wpList_load_wanted rfl _ rfl w.heap.size rfl _ (0, 0) g0.out hsz.out ?_) | fail)
  go_must (go_at_call 98)
  refine C1.out.mono ?_
  rintro e w1 ⟨rfl, hb⟩
  have B1 := hidx hb
  have g1 := hidx (later_e g0.out hb)
  clear hb C1
  go_wp2_with (first | (refine wpList_load_wanted rfl _ rfl w.heap.size rfl _ (0, 0) g1.out hsz.out ?_) | fail)
  go_must (go_at_call 99)
  refine (C2.out w1 B1.out).mono ?_
  clear C2
  rintro e w2 ⟨fa, fn, fc, rfl, hfo, hfb⟩
  have B2 := hidx (B1.out.trans (hfb.mono B1.out.size))
  have g2 := hidx (later_e g0.out B2.out)
  have FO := hidx (And.intro hfo (show fn = N from by have := hfo.1; have := FB.out.2; omega))
  have S2 := hidx (show w1.heap.size ≤ w2.heap.size from hfb.size)
  clear hfo hfb g1
  go_wp2_with fail
  refine wp_region_held_drew (S := fun w' => Hid (w'.heap[w.heap.size]? = some (.cells cs 29))) (by kernel_rfl) (show Hid _ from g2.out) (fun hHeld => ?_)
  refine wpAnyH_take (i := 0) (oi := { dst := Option.some 14, op := Go.Op.fieldAddr 29 (Go.Operand.tmp 1) 0, type := 0, pos := "crierref3.go:104", after := #[], guard := Option.none }) (v := .pointer (some ⟨w.heap.size, 0, none⟩)) rfl (by kernel_rfl) (by kernel_rfl) (by kernel_rfl) (fun _ _ _ h => h) (Or.inl ⟨by kernel_rfl, by intro wq hSw; clear hSw hHeld; go_simp⟩) hHeld ?_
  simp only [Act.put, List.setIfInBounds_toArray, List.set_cons_zero, List.set_cons_succ]
  refine wpAnyH_take (i := 1) (oi := { dst := Option.some 15, op := Go.Op.load 3 (Go.Operand.tmp 14), type := 3, pos := "crierref3.go:104", after := #[{ on := 0, ground := Go.Ground.data }], guard := Option.none }) (v := .int .i64 Ki) rfl (by kernel_rfl) (by kernel_rfl) (by kernel_rfl) (fun _ _ _ h => h) (Or.inl ⟨by kernel_rfl, by intro wq hSw; have hk := box_cells (Hid.out hSw) 0 _ a0.out; clear hSw hHeld; go_simp⟩) hHeld ?_
  simp only [Act.put, List.setIfInBounds_toArray, List.set_cons_zero, List.set_cons_succ]
  refine wpAnyH_take (i := 2) (oi := { dst := Option.some 16, op := Go.Op.binOp Go.BinOp.mul 3 (Go.Operand.const (Go.Value.int Go.IntKind.i64 16)) (Go.Operand.tmp 15) 3, type := 3, pos := "crierref3.go:104", after := #[{ on := 1, ground := Go.Ground.data }], guard := Option.none }) (v := .int .i64 (16 * Ki)) rfl (by kernel_rfl) (by kernel_rfl) (by kernel_rfl) (fun _ _ _ h => h) (Or.inl ⟨by kernel_rfl, by intro wq hSw; clear hSw hHeld; go_simp⟩) hHeld ?_
  simp only [Act.put, List.setIfInBounds_toArray, List.set_cons_zero, List.set_cons_succ]
  refine wpAnyH_take (i := 3) (oi := { dst := Option.some 17, op := Go.Op.load 29 (Go.Operand.tmp 1), type := 29, pos := "crierref3.go:104", after := #[], guard := Option.none }) (v := .agg cs) rfl (by kernel_rfl) (by kernel_rfl) (by kernel_rfl) (fun _ _ _ h => h) (Or.inl ⟨by kernel_rfl, fun wq hSw => yields_load29 rfl (by rfl) (Hid.out hSw) hsz.out⟩) hHeld ?_
  simp only [Act.put, List.setIfInBounds_toArray, List.set_cons_zero, List.set_cons_succ]
  refine wpAnyH_ready (rs := [4]) (by kernel_rfl) (by simp) ?_
  refine AllReadyH.cons (o := { dst := Option.some 18, op := Go.Op.call { callee := Go.Callee.value (Go.Operand.func 100), args := #[Go.Operand.tmp 17], argTypes := #[29] }, type := 3, pos := "crierref3.go:104", after := #[{ on := 3, ground := Go.Ground.data }], guard := Option.none }) (by rfl) (fun K hK => ?_) AllReadyH.nil
  refine held_call (by kernel_rfl) 100 #[.agg cs] (by clear hHeld hK; go_simp) (R := fun x w' => x = .int .i64 G ∧ Below w2.heap.size w2 w') ((C3.out w2.drew).mono fun e w' ⟨h1, h2⟩ => ⟨_, h1, rfl, (Below.refl w2.heap.size w2).drew.trans h2⟩) ?_
  rintro _ w3 ⟨rfl, hb3⟩
  have B3 := hidx (B2.out.trans (hb3.mono B2.out.size))
  have g3 := hidx (later_e g0.out B3.out)
  have FO3 := hidx (own_below FO.out.1 hb3)
  refine hK.out _ _ (show Hid _ from g3.out) (fun hHeld => ?_)
  clear hK hb3
  (try simp only [Act.put, List.setIfInBounds_toArray, List.set_cons_zero, List.set_cons_succ])
  refine wpAnyH_take (i := 5) (oi := { dst := Option.some 19, op := Go.Op.binOp Go.BinOp.add 3 (Go.Operand.tmp 16) (Go.Operand.tmp 18) 3, type := 3, pos := "crierref3.go:104", after := #[{ on := 2, ground := Go.Ground.data }, { on := 4, ground := Go.Ground.data }], guard := Option.none }) (v := .int .i64 (16 * Ki + G)) rfl (by kernel_rfl) (by kernel_rfl) (by kernel_rfl) (fun _ _ _ h => h) (Or.inl ⟨by kernel_rfl, by intro wq hSw; clear hSw hHeld; go_simp⟩) hHeld ?_
  simp only [Act.put, List.setIfInBounds_toArray, List.set_cons_zero, List.set_cons_succ]
  refine wpAnyH_take (i := 6) (oi := { dst := Option.some 20, op := Go.Op.convert 3 5 (Go.Operand.tmp 19), type := 5, pos := "crierref3.go:104", after := #[{ on := 5, ground := Go.Ground.data }], guard := Option.none }) (v := .int .u8 (16 * Ki + G)) rfl (by kernel_rfl) (by kernel_rfl) (by kernel_rfl) (fun _ _ _ h => h) (Or.inl ⟨by kernel_rfl, by intro wq hSw; clear hSw hHeld; go_simp⟩) hHeld ?_
  simp only [Act.put, List.setIfInBounds_toArray, List.set_cons_zero, List.set_cons_succ]
  refine wpAnyH_ready (rs := [7]) (by kernel_rfl) (by simp) ?_
  refine AllReadyH.cons (o := { dst := Option.some 21, op := Go.Op.buildSlice 22 1 #[(0, Go.Operand.tmp 20)], type := 22, pos := "crierref3.go:104", after := #[{ on := 6, ground := Go.Ground.data }], guard := Option.none }) (by rfl) (fun K hK => ?_) AllReadyH.nil
  go_simp
  have BN := hidx (show Below w3.heap.size w3 (w3.alloc (.cells #[.int .u8 (16 * Ki + G)] 5)) from (Below.refl _ _).alloc (Nat.le_refl _) _)
  have g4 := hidx (later_e g3.out BN.out)
  refine hK.out _ _ (show Hid _ from g4.out) (fun hHeld => ?_)
  clear hK
  (try simp only [Act.put, List.setIfInBounds_toArray, List.set_cons_zero, List.set_cons_succ])
  refine wpAnyH_take (i := 8) (oi := { dst := Option.some 6, op := Go.Op.assign (Go.Operand.tmp 21), type := 22, pos := "crierref3.go:104", after := #[{ on := 7, ground := Go.Ground.data }, { on := 4, ground := Go.Ground.chain }, { on := 0, ground := Go.Ground.phase }, { on := 1, ground := Go.Ground.phase }, { on := 2, ground := Go.Ground.phase }, { on := 3, ground := Go.Ground.phase }, { on := 4, ground := Go.Ground.phase }, { on := 5, ground := Go.Ground.phase }, { on := 6, ground := Go.Ground.phase }, { on := 7, ground := Go.Ground.phase }], guard := Option.none }) (v := .slice (some ⟨w3.heap.size, 0, none⟩) 1 1) rfl (by kernel_rfl) (by kernel_rfl) (by kernel_rfl) (fun _ _ _ h => h) (Or.inl ⟨by kernel_rfl, by intro wq hSw; clear hSw hHeld; go_simp⟩) hHeld ?_
  simp only [Act.put, List.setIfInBounds_toArray, List.set_cons_zero, List.set_cons_succ]
  refine wpAnyH_done (by kernel_rfl) ?_ _
  clear hHeld
  obtain ⟨w4, hw4⟩ : ∃ w4, w4 = w3.alloc (.cells #[.int .u8 (16 * Ki + G)] 5) := ⟨_, rfl⟩
  have OW := hidx (show w4.ownsRow w3.heap.size 5 1 (.slice (some ⟨w3.heap.size, 0, none⟩) 1 1) 1 [.int .u8 (16 * Ki + G)] from by rw [hw4]; exact own_built w3 _)
  have BE := hidx (show Below w3.heap.size w3 w4 from by rw [hw4]; exact BN.out)
  rw [← hw4]
  clear hw4 BN g4 g3 g2
  have hfn := FO.out.2
  subst hfn
  have GR := hidx (Bk.rz_groups (fn : Int) w4)
  have HKN := hidx (show ∀ m : Int, 0 < kn m ∧ kn m ≤ 4 from fun m => by unfold kn; split <;> (try split) <;> (try split) <;> omega)
  go_upto_region 7 with (first
    | (go_at_call 101; refine GR.out.mono ?_; rintro e w5 ⟨v5, rfl, hm⟩; obtain ⟨g5, c5, rfl, _⟩ := hm.sl; have OW5 := hidx (own_below OW.out hm.bel); have BE5 := hidx (BE.out.trans (hm.bel.mono BE.out.size)); have YY := hidx (came_by hm.came); clear hm GR)
    | (at_builtin; refine wpList_otE rfl _ _ rfl _ _ _ _ rfl OW5.out ⟨some ⟨g5, 0, none⟩, kn (Bk.cl (fn : Int)), c5⟩ _ (.inr (HKN.out _).1) rfl YY.out (by omega) (Nat.le_trans (HKN.out _).2 (by omega)) BE5.out.size ?_; intro v6 w6 m6 y6 hm6 hy6 ho6 hv6 hb6; have O6 := hidx ho6; have V6 := hidx hv6; have B6 := hidx (BE5.out.trans hb6); have E6 := hidx (And.intro hm6 hy6); clear hm6 hy6 ho6 hv6 hb6 YY))
  have YF := hidx (own_byb (own_below FO3.out B6.out) FB.out.1).1
  have BD := hidx (show m6 ≤ 1400000 ∧ fn ≤ 1400000 from by have h1 := E6.out.1; have h2 := HKN.out (Bk.cl (fn : Int)); have h3 := HK.out.2.2.2; (try simp only at h1); omega)
  go_wp2_with (at_builtin; refine wpList_otE rfl _ _ rfl _ _ _ _ rfl O6.out ⟨fa, fn, fc⟩ (byteAt L) (.inl V6.out) rfl YF.out BD.out.1 BD.out.2 B6.out.size ?_; intro v7 w7 m7 y7 hm7 hy7 ho7 hv7 hb7; have O7 := hidx ho7; have V7 := hidx hv7; have B7 := hidx (B6.out.trans hb7); have E7 := hidx (And.intro hm7 hy7); clear hm7 hy7 ho7 hv7 hb7)
  go_ret2
  refine ⟨v7, rfl, ?_, V7.out, b0.out.trans ((B3.out.trans (B7.out.mono B3.out.size)).mono b0.out.size)⟩
  have hcl : Bk.cl (fn : Int) = (fn : Int) := by have := HK.out.2.2.2; unfold Bk.cl; rw [if_neg (by omega), if_neg (by omega)]
  have e7 : m7 = 1 + kn (fn : Int) + fn := by rw [E7.out.1, E6.out.1, hcl]
  have f7 : y7 = EN := by
    rw [E7.out.2, E6.out.2, hcl, EL.out]
    have hx := (own_byb FO3.out FB.out.1).2
    (try simp only)
    rw [← hx]
    simp [cellsOf, oneZ]
  rw [← e7, ← f7]
  exact own_less O7.out (Nat.le_trans b0.out.size B3.out.size)
def encX (p : Pk) (c : Cn) : List Value := if ck TT p c = 0 then encL p c else []
theorem encX_bytes {p : Pk} {c : Cn} {w : World} (hin : In w p c) : Byts (encX p c) := by
 unfold encX
 split
 ·
  rename_i h
  exact byts_enc ((Pkt.ck_right TT p c).1 h) hin.wP.2.1 hin.pass.2.1 hin.mP.2.1
 ·
  intro v hv
  cases hv
theorem encX_len {p : Pk} {c : Cn} (hN : sz p c ≤ 1299990) : (encX p c).length ≤ 1300000 := by
 unfold encX
 split
 ·
  rename_i h
  rw [enc_len ((Pkt.ck_right TT p c).1 h)]
  have : kn (sz p c : Int) ≤ 4 := by unfold kn; split <;> (try split) <;> (try split) <;> omega
  omega
 ·
  exact Nat.zero_le _
structure Xr (w w' : World) (a : Option Addr) (cp : Nat) (xs : List Value) : Prop where
 own : w'.ownsRow w.heap.size 5 1 (.slice a xs.length cp) xs.length xs
 bel : Below w.heap.size w w'
theorem Xr.came {w w' : World} {a : Option Addr} {cp : Nat} {xs : List Value} (h : Xr w w' a cp xs) (hb : Byts xs) : Came w' a xs.length cp (byteAt xs) := by
 have q := own_byb h.own hb
 refine by_cm q.1 (fun e => ?_)
 simp only at e
 rcases h.own.2 with ⟨r, h0⟩ | ⟨g, cap, cur, r, _⟩
 ·
  injection r with r1 r2 r3
  exact ⟨r2, r3⟩
 ·
  injection r with r1 r2 r3
  rw [e] at r1
  cases r1
theorem xr_nil (w w' : World) (hb : Below w.heap.size w w') : Xr w w' none 0 [] := ⟨⟨rfl, .inl ⟨rfl, rfl⟩⟩, hb⟩
theorem xr_of {w w' : World} {v : Value} {n : Nat} {xs : List Value} (ho : w'.ownsRow w.heap.size 5 1 v n xs) (hv : v ≠ .slice none 0 0) (hb : Below w.heap.size w w') : ∃ a cp, v = .slice a xs.length cp ∧ Xr w w' a cp xs := by
 obtain ⟨g, cap, cur, rfl, _⟩ := own_somb ho hv
 have hl : xs.length = n := by have := ho.1; omega
 subst hl
 exact ⟨_, cap, rfl, ho, hb⟩
theorem enc_prog (p : Pk) (c : Cn) (w : World) (hg : Gd w) (hin : In w p c) (hs : Small p c) (hN : sz p c ≤ 1299990) :
    Calls Tryz.prog 90 #[.agg (pkCells p)] w fun e w' => ∃ a cp, e = .returned (.tuple #[.slice a (encX p c).length cp, .int .i64 (ck TT p c : Nat)]) ∧ Xr w w' a cp (encX p c) := by
  by_cases h0 : ck TT p c = 0
  · have e1 : encX p c = encL p c := by unfold encX; rw [if_pos h0]
    rw [e1, h0]
    refine (encode_right p c w hg hin hs ((Pkt.ck_right TT p c).1 h0) hN).mono ?_
    rintro e w' ⟨v, rfl, ho, hv, hb⟩
    obtain ⟨a, cp, rfl, hx⟩ := xr_of ho hv hb
    exact ⟨a, cp, rfl, hx⟩
  · have e1 : encX p c = [] := by unfold encX; rw [if_neg h0]
    rw [e1]
    refine (encode_wrong p c w hg hin hs h0).mono ?_
    rintro e w' ⟨rfl, hb⟩
    exact ⟨none, 0, rfl, xr_nil w w' hb⟩
theorem enc_ref (p : Pk) (c : Cn) (w : World) (hin : In w p c) (hn : Pkt.Nils p) (hs : Small p c) (hN : sz p c ≤ 1299990) :
    Calls Tryz.prog 25 #[.agg (pkCells p)] w fun e w' => ∃ a cp, e = .returned (.tuple #[.slice a (encX p c).length cp, .int .i64 (ck TT p c : Nat)]) ∧ Xr w w' a cp (encX p c) := by
  by_cases h0 : ck TT p c = 0
  · have e1 : encX p c = encL p c := by unfold encX; rw [if_pos h0]
    rw [e1, h0]
    refine (encode3_right p c w hin hn hs ((Pkt.ck_right TT p c).1 h0) hN).mono ?_
    rintro e w' ⟨v, rfl, ho, hv, hb⟩
    obtain ⟨a, cp, rfl, hx⟩ := xr_of ho hv hb
    exact ⟨a, cp, rfl, hx⟩
  · have e1 : encX p c = [] := by unfold encX; rw [if_neg h0]
    rw [e1]
    refine (encode3_wrong p c w hin hs h0).mono ?_
    rintro e w' ⟨rfl, hb⟩
    exact ⟨none, 0, rfl, xr_nil w w' hb⟩
theorem size_x (p : Pk) (c : Cn) (w : World) (hg : Gd w) (hin : In w p c) (hs : Small p c) :
    Calls Tryz.prog 93 #[.agg (pkCells p)] w fun e w' => e = .returned (.int .i64 ((encX p c).length : Nat)) ∧ Below w.heap.size w w' := by
  by_cases h0 : ck TT p c = 0
  · have e1 : encX p c = encL p c := by unfold encX; rw [if_pos h0]
    rw [e1, enc_len ((Pkt.ck_right TT p c).1 h0)]
    exact size_right p c w hg hin hs ((Pkt.ck_right TT p c).1 h0)
  · have e1 : encX p c = [] := by unfold encX; rw [if_neg h0]
    rw [e1]
    exact size_wrong p c w hg hin hs h0
section
variable {p : Pk} {c : Cn} {s1 s2 s3 s4 s5 s6 : Sl}
theorem encX_re (n1 : s1.n = p.wP.n) (n2 : s2.n = p.pass.n) (n3 : s3.n = p.mP.n) (n4 : s4.n = p.asks.n) (n5 : s5.n = p.codes.n) (n6 : s6.n = p.filters.n) : encX (p.re s1 s2 s3 s4 s5 s6) c = encX p c := by
 have e0 : ck TT (p.re s1 s2 s3 s4 s5 s6) c = ck TT p c := Pkt.ck_re n1 n2 n3 n4 n5 n6
 have e1 : sz (p.re s1 s2 s3 s4 s5 s6) c = sz p c := Pkt.sz_re n1 n2 n3 n4 n5 n6
 have e2 : fg (p.re s1 s2 s3 s4 s5 s6) = fg p := rfl
 unfold encX
 rw [e0]
 split
 ·
  unfold encL
  rw [e1, e2]
  have e3 : fieldsL (p.re s1 s2 s3 s4 s5 s6) c = fieldsL p c := by
   unfold fieldsL Pkt.Pk.re connL pubL marksV
   simp only [n1, n2, n3, n4, n5, n6]
  rw [e3]
  rfl
 ·
  rfl
end
theorem two_boxes (w : World) (a b : Array Value) : ((w.alloc (.cells a 29)).alloc (.cells b 29)).heap[w.heap.size]? = some (.cells a 29) ∧ ((w.alloc (.cells a 29)).alloc (.cells b 29)).heap[w.heap.size + 1]? = some (.cells b 29) ∧ Below w.heap.size w ((w.alloc (.cells a 29)).alloc (.cells b 29)) := by
 have hz : (w.alloc (.cells a 29)).heap.size = w.heap.size + 1 := by simp
 have h1 := heap_alloc_new w (.cells a 29)
 have h2 := heap_alloc_new (w.alloc (.cells a 29)) (.cells b 29)
 have hb : Below (w.alloc (.cells a 29)).heap.size (w.alloc (.cells a 29)) ((w.alloc (.cells a 29)).alloc (.cells b 29)) := (Below.refl _ _).alloc (Nat.le_refl _) _
 have ha : Below w.heap.size w (w.alloc (.cells a 29)) := (Below.refl _ _).alloc (Nat.le_refl _) _
 exact ⟨(hb.block _ (by omega)).trans h1, hz ▸ h2, ha.trans (hb.mono ha.size)⟩
theorem encodes_any {w : World} {bb N : Nat} {U : Nat → Prop} (hk : Bk.Bk w bb N U) (hNN : N ≤ 1000) (p : Pk) (c : Cn) (s1 s2 s3 s4 s5 s6 : Sl) (hp : In w p c) (hq : In w (p.re s1 s2 s3 s4 s5 s6) c) (n1 : s1.n = p.wP.n) (n2 : s2.n = p.pass.n) (n3 : s3.n = p.mP.n) (n4 : s4.n = p.asks.n) (n5 : s5.n = p.codes.n) (n6 : s6.n = p.filters.n) (hnl : Pkt.Nils p) (hs : Small p c) (hg : Gd w) (hZ : sz p c ≤ 1299990) (mark : Int) :
    Calls Tryz.prog 21 #[.pointer (some ⟨bb, 0, none⟩), .agg (pkCells (p.re s1 s2 s3 s4 s5 s6)), .agg (pkCells p), .int .i64 mark] w fun e w' => e = .returned (.bool true) ∧ ∃ U', Bk.Bk w' bb (N + 1) U' ∧ Bk.Ch U w w' ∧ ∀ k, U' k → U k ∨ w.heap.size ≤ k := by
  have hsq : Small (p.re s1 s2 s3 s4 s5 s6) c := Pkt.small_re n1 n2 n3 n4 n5 n6 hs
  have hzq : sz (p.re s1 s2 s3 s4 s5 s6) c ≤ 1299990 := by rw [Pkt.sz_re n1 n2 n3 n4 n5 n6]; exact hZ
  have e0 : ck TT (p.re s1 s2 s3 s4 s5 s6) c = ck TT p c := Pkt.ck_re n1 n2 n3 n4 n5 n6
  have ex : encX (p.re s1 s2 s3 s4 s5 s6) c = encX p c := encX_re n1 n2 n3 n4 n5 n6
  have HX := hidx (And.intro (encX_bytes hp) (encX_len hZ))
  obtain ⟨W, hW⟩ : ∃ W, W = (w.alloc (.cells (pkCells (p.re s1 s2 s3 s4 s5 s6)) 29)).alloc (.cells (pkCells p) 29) := ⟨_, rfl⟩
  obtain ⟨q1, q2, q3⟩ := two_boxes w (pkCells (p.re s1 s2 s3 s4 s5 s6)) (pkCells p)
  rw [← hW] at q1 q2 q3
  have g5 := hidx q1
  have g6 := hidx q2
  have b0 := hidx q3
  have C25 := hidx (enc_ref p c W (hp.below q3) hnl hs hZ)
  have C90 := hidx (fun (w' : World) (hb : Below w.heap.size w w') => enc_prog (p.re s1 s2 s3 s4 s5 s6) c w' (hg.below hb) (hq.below hb) hsq hzq)
  have C93 := hidx (fun (w' : World) (hb : Below w.heap.size w w') => size_x (p.re s1 s2 s3 s4 s5 s6) c w' (hg.below hb) (hq.below hb) hsq)
  have C12 := hidx (fun (w' : World) (hb : Below w.heap.size w w') => (show Calls Tryz.prog 12 #[.agg (pkCells (p.re s1 s2 s3 s4 s5 s6)), .agg (pkCells p)] w' fun e w'' => e = .returned (.bool true) ∧ Below w'.heap.size w' w'' from Pkt.rsame_eq p c s1 s2 s3 s4 s5 s6 w' (hp.below hb) (hq.below hb) n1 n2 n3 n4 n5 n6 hs))
  rw [e0, ex] at C90
  rw [ex] at C93
  obtain ⟨E, hE⟩ : ∃ E : Nat, E = ck TT p c := ⟨_, rfl⟩
  obtain ⟨X, hX⟩ : ∃ X, X = encX p c := ⟨_, rfl⟩
  obtain ⟨n, hn⟩ : ∃ n, n = X.length := ⟨_, rfl⟩
  rw [← hE, ← hX, ← hn] at C25 C90
  rw [← hX, ← hn] at C93
  rw [← hX] at HX
  obtain ⟨cs, hcs⟩ : ∃ cs, cs = pkCells (p.re s1 s2 s3 s4 s5 s6) := ⟨_, rfl⟩
  obtain ⟨ds, hds⟩ : ∃ ds, ds = pkCells p := ⟨_, rfl⟩
  have z5 : Hid (cs.size = 25) := by show _ = _; rw [hcs]; rfl
  have z6 : Hid (ds.size = 25) := by show _ = _; rw [hds]; rfl
  rw [← hcs, ← hds] at hW C12
  rw [← hcs] at g5 C90 C93
  rw [← hds] at g6 C25
  rw [← hcs, ← hds]
  have HN := hidx hn
  have HK := hidx hk
  have hne : ((E : Int) != (E : Int)) = false := by simp
  have hnn : ((n : Int) != (n : Int)) = false := by simp
  have HNN := hidx hNN
  clear hcs hds hX hn hE e0 ex hsq hzq hp hq n1 n2 n3 n4 n5 n6 hnl hs hg hZ hk q1 q2 q3 hNN
  go_enter Tryz.func21, Tryz.ntmps21
  go_upto_region 1 with fail
  rw [← hW]
  clear hW
  go_wp2_with (refine wpList_load_wanted rfl _ rfl (w.heap.size + 1) rfl _ (0, 0) g6.out z6.out ?_)
  go_must (go_at_call 25)
  refine C25.out.mono ?_
  rintro e w1 ⟨a1, c1, rfl, h1⟩
  have X1 := hidx h1
  have B1 := hidx (b0.out.trans (h1.bel.mono b0.out.size))
  have g51 := hidx (later_e g5.out h1.bel)
  clear h1 C25
  go_wp2_with (refine wpList_load_wanted rfl _ rfl w.heap.size rfl _ (0, 0) g51.out z5.out ?_)
  go_must (go_at_call 90)
  refine (C90.out w1 B1.out).mono ?_
  clear C90
  rintro e w2 ⟨a2, c2, rfl, h2⟩
  have X2 := hidx h2
  have B2 := hidx (B1.out.trans (h2.bel.mono B1.out.size))
  have K1 := hidx (show Came w2 a1 n c1 (byteAt X) from by rw [HN.out]; exact came_below (B := 0) (X1.out.came HX.out.1) h2.bel)
  have K2 := hidx (show Came w2 a2 n c2 (byteAt X) from by rw [HN.out]; exact X2.out.came HX.out.1)
  have g52 := hidx (later_e g51.out h2.bel)
  have g62 := hidx (later_e (later_e g6.out X1.out.bel) h2.bel)
  have S93 := hidx (C93.out w2 B2.out)
  clear h2 C93
  go_wp2_with (first
    | (go_at_call 91; refine (lnum_any _ _).mono ?_; rintro e wn ⟨rfl, hwn⟩; subst hwn)
    | (go_at_call 92; refine (lsame_eq a2 a1 n c2 c1 (byteAt X) _ K2.out K1.out).mono ?_; rintro e wn ⟨rfl, hwn⟩; subst hwn)
    | (refine wpList_load_wanted rfl _ rfl w.heap.size rfl _ (0, 0) g52.out z5.out ?_)
    | (go_at_call 93; refine S93.out.mono ?_; clear S93; rintro e w3 ⟨rfl, hb3⟩; have B3 := hidx (B2.out.trans (hb3.mono B2.out.size)); have V3 := hidx hb3; have g53 := hidx (later_e g52.out hb3); have g63 := hidx (later_e g62.out hb3); have S12 := hidx (C12.out w3 B3.out); clear hb3 C12)
    | (refine wpList_load_wanted rfl _ rfl w.heap.size rfl _ (0, 0) g53.out z5.out ?_)
    | (refine wpList_load_wanted rfl _ rfl (w.heap.size + 1) rfl _ (0, 0) g63.out z6.out ?_)
    | (go_at_call 12; refine S12.out.mono ?_; clear S12; rintro e w4 ⟨rfl, hb4⟩; have V4 := hidx (V3.out.trans (hb4.mono V3.out.size)); have B4 := hidx (B3.out.trans (hb4.mono B3.out.size)); clear hb4)
    | fail)
  go_must (go_at_call 53)
  have S53 := hidx (Bk.bk_step (HK.out.keep (fun k hk' => B4.out.block k (HK.out.lt hk'))) (by have := HNN.out; omega) a2 n c2 X mark (by have h := own_less (own_below X2.out.own V4.out) (Nat.zero_le _); rw [← HN.out] at h; exact h) HX.out.1 (by have := HX.out.2; have := HN.out; omega) (fun g e hU => by
    have h1 := HK.out.lt hU
    have h2 := (X2.out.own.lt g (by rw [← HN.out]; exact e)).1
    have := B1.out.size
    omega))
  refine S53.out.mono ?_
  clear S53
  rintro e w5 ⟨rfl, U', h5, hc5, hu5⟩
  have R5 := hidx (show ∃ U', Bk.Bk w5 bb (N + 1) U' ∧ Bk.Ch U w w5 ∧ ∀ k, U' k → U k ∨ w.heap.size ≤ k from by
    have hlow : ∀ g, (Value.slice a2 n c2).ownBlock = some g → w.heap.size ≤ g := fun g e => Nat.le_trans B1.out.size (X2.out.own.lt g (by rw [← HN.out]; exact e)).1
    refine ⟨U', h5, Bk.Ch.trans (Bk.Below.ch B4.out) hc5 (fun j hj q => ?_), fun k q => ?_⟩
    · rcases q with q | q
      · exact q
      · have := hlow j q; omega
    · rcases hu5 k q with (q | q) | q
      · exact .inl q
      · exact .inr (hlow k q)
      · exact .inr (Nat.le_trans B4.out.size q))
  clear h5 hc5 hu5
  go_wp2_with fail
  go_ret
  exact ⟨rfl, R5.out⟩
theorem run_none_none {P : Program} {w : World} (t ty e : TypeId) (i : TypeInfo) (ht : P.underlying t = some (.slice e)) (hi : P.info? e = some i) (a : Option Addr) (c : Nat) :
    (Builtin.append_ #[t, t] ty #[.slice none 0 0, .slice a 0 c]).run P w = .ok (.slice none 0 0) w := by
  cases a with
  | none => simp [Builtin.append_, run_underlying ht, sizeOf, typeInfo, hi, Builtin.lenOf, Builtin.firstCells, storeCells]
  | some a =>
    have hf := run_firstCells_some (P := P) w i.size 0 a 0 c [] (by simp) (by intro j v h; simp at h)
    simp [Builtin.append_, run_underlying ht, sizeOf, typeInfo, hi, Builtin.lenOf, hf, storeCells]
def Cl (w : World) (s : Sl) (xs : List Value) : Prop := s.n = 0 ∨ ∃ b off, s.a = some ⟨b, off, none⟩ ∧ ∀ (j : Nat) u, xs[j]? = some u → w.cell? ⟨b, off + j, none⟩ = some u
theorem wpList_cpy {w : World} {ops : Array Oper} {rest : List Oper} {o : Oper} {a : Act} {Q : Exit → Act → World → Prop} (hgd : o.guard = none) (s x : Operand) (t e : TypeId)
    (ho : o.op = .call { callee := .builtin .append, args := #[s, x], argTypes := #[t, t] }) (z : Value) (size bytes : Nat) (ht : Tryz.prog.underlying t = some (.slice e)) (hinf : (Tryz.prog.info? e).map (fun i => (i.zero, i.size, i.bytes)) = some (some z, size, bytes)) (hzs : z.cells.size = size) (hsz : 0 < size) (hby : bytes ≤ 100)
    (hs : a.eval s = .slice none 0 0) (l : Sl) (xs : List Value) (hx : a.eval x = .slice l.a l.n l.c) (hl : xs.length = l.n * size) (hc : Cl w l xs) (h1 : ∀ u ∈ xs, u.oneCell' = true) (hn : l.n ≤ 1000000)
    (h : ∀ (l' : Sl) w', w'.ownsRow w.heap.size e size (.slice l'.a l'.n l'.c) l'.n xs → l'.n = l.n → Pkt.Nil l' → Below w.heap.size w w' → wpList Tryz.prog ops Q rest (a.put o.dst (.slice l'.a l'.n l'.c)) w') : wpList Tryz.prog ops Q (o :: rest) a w := by
  obtain ⟨i0, hi, hz0, hz1, hz2⟩ := info_parts hinf
  by_cases h0 : l.n = 0
  · refine wpList_plain hgd fun K hK => ?_
    have hrun := run_none_none (P := Tryz.prog) (w := w) t o.type e i0 ht hi l.a l.c
    rw [h0] at hx
    have hxs : xs = [] := List.eq_nil_of_length_eq_zero (by rw [hl, h0, Nat.zero_mul])
    unfold Oper.wp
    simp [execOp, ho, resolve, invoke, builtin, hs, hx, hrun, Result.andThen]
    exact hK _ _ (h ⟨none, 0, 0⟩ w (by rw [hxs]; exact ⟨by simp, .inl ⟨rfl, rfl⟩⟩) h0.symm (fun _ => ⟨rfl, rfl⟩) (Below.refl _ _))
  · obtain ⟨b, off, ha, hcell⟩ := hc.resolve_left h0
    rw [ha] at hx
    refine wpList_push hgd s x t ho w.heap.size e i0 z size bytes ht hi hz0 hz1 hz2 hzs hsz (.slice none 0 0) 0 [] hs ⟨by simp, .inl ⟨rfl, rfl⟩⟩ ⟨b, off, none⟩ l.n l.c xs hx (by omega) hl (fun j u hu => by rw [plain_add]; exact hcell j u hu) h1 (by unfold maxLen; omega) (by rw [Nat.zero_add]; exact Nat.le_trans (Nat.mul_le_mul hn hby) (by decide)) (Nat.le_refl _) ?_
    intro v' w' o1 g1 n1 _
    rw [Nat.zero_add, List.nil_append] at o1
    have hb : Below w.heap.size w w' := ⟨g1.os, g1.tape, g1.output, g1.size, fun k hk => g1.block k hk (by simp [Value.ownBlock])⟩
    rcases o1.2 with ⟨q, _⟩ | ⟨g, cap, cur, q, _⟩
    · exact absurd q n1
    · subst q
      exact h ⟨some ⟨g, 0, none⟩, l.n, cap⟩ w' o1 rfl (fun q => by cases q) hb
theorem by_cl {w : World} {s : Sl} {z : Nat → Int} (h : By w s z) : Cl w s (Pkt.cB z s.n) := by
 rcases h.2.2 with q | ⟨b, off, e, hc⟩
 ·
  exact .inl q
 ·
  refine .inr ⟨b, off, e, fun j u hu => ?_⟩
  obtain ⟨hj, rfl⟩ := Pkt.map_get _ _ _ _ hu
  exact hc j hj
theorem is_cl {w : World} {s : Sl} {z : Nat → Int} (h : Is w s z) : Cl w s (Pkt.cI z s.n) := by
 rcases h.2 with q | ⟨b, off, e, hc⟩
 ·
  exact .inl q
 ·
  refine .inr ⟨b, off, e, fun j u hu => ?_⟩
  obtain ⟨hj, rfl⟩ := Pkt.map_get _ _ _ _ hu
  exact hc j hj
theorem ss_cl {w : World} {s : Sl} {z : Nat → ByteArray} (h : Ss w s z) : Cl w s (Pkt.cS z s.n) := by
 rcases h.2 with q | ⟨b, off, e, hc⟩
 ·
  exact .inl q
 ·
  refine .inr ⟨b, off, e, fun j u hu => ?_⟩
  obtain ⟨hj, rfl⟩ := Pkt.map_get _ _ _ _ hu
  exact hc j hj
theorem as_cl {w : World} {s : Sl} {f : Nat → ByteArray} {q : Nat → Int} (h : As w s f q) : Cl w s (Pkt.cA f q s.n) := by
 rcases h.2 with q | ⟨b, off, e, hc⟩
 ·
  exact .inl q
 ·
  refine .inr ⟨b, off, e, fun j u hu => ?_⟩
  obtain ⟨i, hi, ⟨rfl, rfl⟩ | ⟨rfl, rfl⟩⟩ := Pkt.pair_get _ _ _ _ _ hu
  ·
   exact (hc i hi).1
  ·
   exact (hc i hi).2
theorem own_cap {w : World} {B e size n : Nat} {a : Option Addr} {cp : Nat} {xs : List Value} (h : w.ownsRow B e size (.slice a n cp) n xs) (hs : 0 < size) : n ≤ cp ∧ (n = 0 ∨ ∃ g, a = some ⟨g, 0, none⟩ ∧ ∀ j, j < n * size → w.cell? ⟨g, j, none⟩ = xs[j]?) := by
 rcases h.2 with ⟨q, h0⟩ | ⟨g, cap, cur, q, _, hg, hnc, _⟩
 ·
  injection q with q1 q2 q3
  exact ⟨by omega, .inl h0⟩
 ·
  injection q with q1 q2 q3
  subst q1 q3
  exact ⟨hnc, .inr ⟨g, rfl, fun j hj => h.cellAt j hj⟩⟩
theorem own_keep3 {w w' : World} {B e s n : Nat} {v : Value} {xs : List Value} (h : w.ownsRow B e s v n xs) (hk : ∀ k, v.ownBlock = some k → w'.heap[k]? = w.heap[k]?) : w'.ownsRow B e s v n xs := by
 refine ⟨h.1, ?_⟩
 rcases h.2 with h0 | ⟨g, cap, cur, rfl, h1, hg, h2⟩
 ·
  exact .inl h0
 ·
  exact .inr ⟨g, cap, cur, rfl, h1, (hk g rfl).trans hg, h2⟩
theorem own_by3 {w : World} {B : Nat} {s : Sl} {z : Nat → Int} (h : w.ownsRow B 5 1 (.slice s.a s.n s.c) s.n (Pkt.cB z s.n)) (hz : ∀ i, 0 ≤ z i ∧ z i ≤ 255) : By w s z := by
 obtain ⟨h1, h2⟩ := own_cap h (by decide)
 refine ⟨h1, hz, ?_⟩
 rcases h2 with q | ⟨g, e, hc⟩
 ·
  exact .inl q
 ·
  refine .inr ⟨g, 0, e, fun i hi => ?_⟩
  rw [Nat.zero_add, hc i (by omega)]
  exact Pkt.map_at _ _ _ hi
theorem own_is3 {w : World} {B : Nat} {s : Sl} {z : Nat → Int} (h : w.ownsRow B 3 1 (.slice s.a s.n s.c) s.n (Pkt.cI z s.n)) : Is w s z := by
 obtain ⟨h1, h2⟩ := own_cap h (by decide)
 refine ⟨h1, ?_⟩
 rcases h2 with q | ⟨g, e, hc⟩
 ·
  exact .inl q
 ·
  refine .inr ⟨g, 0, e, fun i hi => ?_⟩
  rw [Nat.zero_add, hc i (by omega)]
  exact Pkt.map_at _ _ _ hi
theorem own_ss3 {w : World} {B : Nat} {s : Sl} {z : Nat → ByteArray} (h : w.ownsRow B 9 1 (.slice s.a s.n s.c) s.n (Pkt.cS z s.n)) : Ss w s z := by
 obtain ⟨h1, h2⟩ := own_cap h (by decide)
 refine ⟨h1, ?_⟩
 rcases h2 with q | ⟨g, e, hc⟩
 ·
  exact .inl q
 ·
  refine .inr ⟨g, 0, e, fun i hi => ?_⟩
  rw [Nat.zero_add, hc i (by omega)]
  exact Pkt.map_at _ _ _ hi
theorem own_as3 {w : World} {B : Nat} {s : Sl} {f : Nat → ByteArray} {q : Nat → Int} (h : w.ownsRow B 98 2 (.slice s.a s.n s.c) s.n (Pkt.cA f q s.n)) : As w s f q := by
 obtain ⟨h1, h2⟩ := own_cap h (by decide)
 refine ⟨h1, ?_⟩
 rcases h2 with r | ⟨g, e, hc⟩
 ·
  exact .inl r
 ·
  refine .inr ⟨g, 0, e, fun i hi => ?_⟩
  have hp := Pkt.pair_at (fun i => Value.string (f i)) (fun i => Value.int .i64 (q i)) s.n i hi
  rw [Nat.zero_add]
  exact ⟨by rw [hc (i * 2) (by omega)]; exact hp.1, by rw [hc (i * 2 + 1) (by omega)]; exact hp.2⟩
open Pkt (Pk Cn Sl In By Is Ss As pkCells Gd box_below Right TT sumN sz fg Small ck wpList_load_wanted mkI heap_set)
set_option maxHeartbeats 1000000
theorem cmsg_any (t : ByteArray) (s : Sl) (q : Int) (r : Bool) (z : Nat → Int) (w : World) (h : By w s z) (hm : s.n ≤ 1000000) :
    Calls Tryz.prog 48 #[.agg #[.string t, .slice s.a s.n s.c, .int .i64 q, .bool r]] w fun e w' => ∃ s' : Sl, e = .returned (.agg #[.string t, .slice s'.a s'.n s'.c, .int .i64 q, .bool r]) ∧ w'.ownsRow w.heap.size 5 1 (.slice s'.a s'.n s'.c) s'.n (Pkt.cB z s'.n) ∧ s'.n = s.n ∧ Pkt.Nil s' ∧ Below w.heap.size w w' := by
  have HM := hidx hm
  obtain ⟨W, hW⟩ : ∃ W, W = (w.alloc (.cells #[.string t, .slice s.a s.n s.c, .int .i64 q, .bool r] 24)).alloc (.cells #[.string ⟨#[]⟩, .slice none 0 0, .int .i64 0, .bool false] 24) := ⟨_, rfl⟩
  have b0 : Hid (Below w.heap.size w W) := by rw [hW]; exact Pkt.below2 _ _ _
  have x0 : Hid (W.heap[w.heap.size]? = some (.cells #[.string t, .slice s.a s.n s.c, .int .i64 q, .bool r] 24)) := by show _ = _; rw [hW]; exact heap_alloc2_old w _ _
  have x1 : Hid (W.heap[w.heap.size + 1]? = some (.cells #[.string ⟨#[]⟩, .slice none 0 0, .int .i64 0, .bool false] 24)) := by show _ = _; rw [hW]; exact heap_alloc2_new w _ _
  have c1 : W.cell? ⟨w.heap.size, 1, none⟩ = some (.slice s.a s.n s.c) := box_cells x0.out 1 _ rfl
  have HY := hidx (h.below b0.out)
  clear h hm
  go_enter Tryz.func48, Tryz.ntmps48
  go_upto_region 1 with fail
  rw [← hW]
  clear hW
  go_wp2_with (at_builtin; refine wpList_cpy rfl _ _ 22 5 rfl (.int .u8 0) 1 1 Tryz.underlying22 Tryz.info5 rfl (by decide) (by decide) rfl s (Pkt.cB z s.n) rfl (Pkt.cB_len z s.n) (by_cl HY.out) (Pkt.cB_one z s.n) HM.out ?_; intro l V ho hn hnil hb; have HO := hidx (And.intro ho (And.intro hn (And.intro hnil hb))); have y0 := later_e x0.out hb; have y1 := later_e x1.out hb; have Y1 := hidx y1; have Y0 := hidx y0; have e0 := box_cells y0 0 _ rfl; have e1 := box_cells y0 1 _ rfl; have e2 := box_cells y0 2 _ rfl; have e3 := box_cells y0 3 _ rfl; have f1 : V.frozen? ⟨w.heap.size, 1, none⟩ = false := (by simp [World.frozen?, y0]); have d0 := box_cells y1 0 _ rfl; have d1 := box_cells y1 1 _ rfl; have d2 := box_cells y1 2 _ rfl; have d3 := box_cells y1 3 _ rfl; have z0 : V.frozen? ⟨w.heap.size + 1, 0, none⟩ = false := (by simp [World.frozen?, y1]); have z1 : V.frozen? ⟨w.heap.size + 1, 1, none⟩ = false := (by simp [World.frozen?, y1]); have z2 : V.frozen? ⟨w.heap.size + 1, 2, none⟩ = false := (by simp [World.frozen?, y1]); have z3 : V.frozen? ⟨w.heap.size + 1, 3, none⟩ = false := (by simp [World.frozen?, y1]); clear ho hn hnil hb y0 y1 c1)
  have r1 : (V.setCell ⟨w.heap.size, 1, none⟩ (.slice l.a l.n l.c)).heap[w.heap.size + 1]? = some (.cells #[.string ⟨#[]⟩, .slice none 0 0, .int .i64 0, .bool false] 24) := (Below.heap_setCell V _ _ _ (by simp)).trans Y1.out
  have r2 := heap_set (i := 0) r1 (.string t)
  have r3 := heap_set (i := 1) r2 (.slice l.a l.n l.c)
  have r4 := heap_set (i := 2) r3 (.int .i64 q)
  have r5 := heap_set (i := 3) r4 (.bool r)
  have HR5 := hidx r5
  clear r1 r2 r3 r4 r5
  refine bodyPost_ret (results_cell_row rfl _ _ _ _ _ _ _ rfl HR5.out Tryz.underlying24 rfl (by kernel_rfl)) rfl ⟨l, rfl, ?_, HO.out.2.1, HO.out.2.2.1, ?_⟩
  · have hW0 : w.heap.size + 1 < W.heap.size := (Array.getElem?_eq_some_iff.1 x1.out).1
    have hfar : ∀ k, W.heap.size ≤ k → (((((V.setCell ⟨w.heap.size, 1, none⟩ (.slice l.a l.n l.c)).setCell ⟨w.heap.size + 1, 0, none⟩ (.string t)).setCell ⟨w.heap.size + 1, 1, none⟩ (.slice l.a l.n l.c)).setCell ⟨w.heap.size + 1, 2, none⟩ (.int .i64 q)).setCell ⟨w.heap.size + 1, 3, none⟩ (.bool r)).heap[k]? = V.heap[k]? := fun k hk => by
      have q1 : k ≠ w.heap.size + 1 := by omega
      have q0 : k ≠ w.heap.size := by omega
      rw [Below.heap_setCell _ _ _ _ q1, Below.heap_setCell _ _ _ _ q1, Below.heap_setCell _ _ _ _ q1, Below.heap_setCell _ _ _ _ q1, Below.heap_setCell _ _ _ _ q0]
    have ho := HO.out.1
    rw [← HO.out.2.1] at ho
    refine own_keep3 (own_less ho b0.out.size) (fun k e => hfar k (ho.lt k e).1)
  · have hb := b0.out.trans (HO.out.2.2.2.mono b0.out.size)
    have q1 : w.heap.size ≤ w.heap.size + 1 := by omega
    exact ((((hb.setCell (p := ⟨w.heap.size, 1, none⟩) (Nat.le_refl _) _).setCell (p := ⟨w.heap.size + 1, 0, none⟩) q1 _).setCell (p := ⟨w.heap.size + 1, 1, none⟩) q1 _).setCell (p := ⟨w.heap.size + 1, 2, none⟩) q1 _).setCell (p := ⟨w.heap.size + 1, 3, none⟩) q1 _
end Go.Proofs.YtphofgnehdlafaaGreatDoor
