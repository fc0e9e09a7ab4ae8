import Derived.Test.YtmfbkfgggdkfmaaGreatDoorCqd
import Derived.Test.YtmfbkfgggdkfmaaGreatDoorFdz
import Derived.Deep.DeepCutAuto
import Derived.Deep.RegionHeld
import Derived.Deep.MidRow
import Derived.Deep.CutRange
import Derived.Shelf.Small.Utf8
import Derived.Shelf.Small.Strs
import Derived.Shelf.Utf8.RuneCount
import Derived.Shelf.Strings.Search1
import Derived.Shelf.Strings.Search2
import Derived.Shelf.Strings.Search3
import Derived.Shelf.Strings.Count
import Derived.Shelf.LaysM
import Derived.Shelf.Strings.Shaped
import Derived.Shelf.Strings.Prefix
import Derived.Shelf.Strings.Split
import Derived.Shelf.Strings.Runes
import Derived.Shelf.Strings.RuneCount
import Derived.Shelf.Strings.IndexAny
import Derived.Shelf.Strings.AsciiSet
import Derived.Shelf.Strings.IndexAnyAll
import Derived.Test.YtmfbkfgggdkfmaaGreatDoorProg
namespace Go.Proofs.YtmfbkfgggdkfmaaGreatDoor.Co
open Go Go.RowKit
open Pkt (Pk Cn Sl In By Is Ss As pkCells Gd KindsAt Small box_below)
set_option linter.unusedSimpArgs false
set_option linter.unusedVariables false
/-! ### sameInput -/
theorem wpList_mid38 {ops : Array Oper} {Q : Exit → Act → World → Prop} {a : Act} {w : World} {o : Oper} {rest : List Oper} (hw : Region.wanted o (yielded ops a.tmps) = true) (x : Operand) (ho : o.op = .load 38 x) (g off : Nat)
    (hx : a.eval x = .pointer (some ⟨g, off, none⟩)) (cs : Array Value) (hg : w.rangeAt g off cs.toList) (hs : cs.size = 25) (h : wpList Tryz.prog ops Q rest (a.put o.dst (.agg cs)) w) : wpList Tryz.prog ops Q (o :: rest) a w :=
  wpList_step fun K hK => by
    rw [if_pos hw]
    unfold Oper.wp
    rw [yields_mid29 ho hx ⟨hg, hs⟩]
    exact hK _ _ h
theorem in_mid {w : World} {g : Nat} {A C E : Int} {q : Pk} (h : w.heap[g]? = some (.cells (inC A q C E) 41 (0, 0))) : w.rangeAt g 1 (pkCells q).toList := fun i u hu => by
  refine box_cells h (1 + i) u ?_
  have hi : i < 25 := by have := (List.getElem?_eq_some_iff.1 hu).1; simpa [pkCells] using this
  simp only [Array.getElem?_toList] at hu
  rw [← hu]
  match i, hi with
  | 0, _ => rfl
  | 1, _ => rfl
  | 2, _ => rfl
  | 3, _ => rfl
  | 4, _ => rfl
  | 5, _ => rfl
  | 6, _ => rfl
  | 7, _ => rfl
  | 8, _ => rfl
  | 9, _ => rfl
  | 10, _ => rfl
  | 11, _ => rfl
  | 12, _ => rfl
  | 13, _ => rfl
  | 14, _ => rfl
  | 15, _ => rfl
  | 16, _ => rfl
  | 17, _ => rfl
  | 18, _ => rfl
  | 19, _ => rfl
  | 20, _ => rfl
  | 21, _ => rfl
  | 22, _ => rfl
  | 23, _ => rfl
  | 24, _ => rfl
set_option maxRecDepth 100000 in
set_option maxHeartbeats 2000000 in
theorem sameIn_any (A C E : Int) (p q q' : Pk) (c : Cn) (w : World) (h : Alike q p) (h' : Alike q' p) (hi : In w q c) (hi' : In w q' c) (hs : Small p c) : Calls Tryz.prog 16 #[.agg (inC A q C E), .agg (inC A q' C E)] w fun e w' => e = .returned (.bool true) ∧ Below w.heap.size w w' := by
  obtain ⟨P, hP⟩ : ∃ P, P = inC A q C E := ⟨_, rfl⟩
  obtain ⟨Q, hQ⟩ : ∃ Q, Q = inC A q' C E := ⟨_, rfl⟩
  rw [← hP, ← hQ]
  obtain ⟨V, hV⟩ : ∃ V, V = w.alloc (.cells P 41) := ⟨_, rfl⟩
  obtain ⟨W, hW⟩ : ∃ W, W = V.alloc (.cells Q 41) := ⟨_, rfl⟩
  obtain ⟨g, hg⟩ : ∃ g, g = w.heap.size + 1 := ⟨_, rfl⟩
  obtain ⟨g0, hg0⟩ : ∃ g, g = w.heap.size := ⟨_, rfl⟩
  have hgV : g = V.heap.size := by rw [hg, hV]; simp
  have bV : Below w.heap.size w V := by rw [hV]; exact (Below.refl _ _).alloc (Nat.le_refl _) _
  have bW : Below V.heap.size V W := by rw [hW]; exact (Below.refl _ _).alloc (Nat.le_refl _) _
  have b0 : Below w.heap.size w W := bV.trans (bW.mono bV.size)
  have x1 : W.heap[g0]? = some (.cells (inC A q C E) 41 (0, 0)) := by rw [hg0, bW.block _ (by rw [hV]; simp), hV, hP]; exact heap_alloc_new w _
  have x2 : W.heap[g]? = some (.cells (inC A q' C E) 41 (0, 0)) := by rw [hgV, hW, hQ]; exact heap_alloc_new V _
  have SM := hidi (same_alike p q q' c W h h' (In.congr hi (fun b hb => b0.block b (In.lt hi hb))) (In.congr hi' (fun b hb => b0.block b (In.lt hi' hb))) hs)
  have M1 := hidi (in_mid x1)
  have M2 := hidi (in_mid x2)
  have c0 : W.cell? ⟨g0, 0, none⟩ = some (.int .i64 A) := box_cells x1 0 _ rfl
  have d0 : W.cell? ⟨g, 0, none⟩ = some (.int .i64 A) := box_cells x2 0 _ rfl
  have c1 : W.cell? ⟨g0, 26, none⟩ = some (.int .i64 C) := box_cells x1 26 _ rfl
  have d1 : W.cell? ⟨g, 26, none⟩ = some (.int .i64 C) := box_cells x2 26 _ rfl
  have c2 : W.cell? ⟨g0, 27, none⟩ = some (.int .i64 E) := box_cells x1 27 _ rfl
  have d2 : W.cell? ⟨g, 27, none⟩ = some (.int .i64 E) := box_cells x2 27 _ rfl
  have B0 := hidi b0
  clear h h' hi hi' hs hP hQ bV bW b0 x1 x2 hgV
  go_enter Tryz.func16, Tryz.ntmps16
  go_upto_region 1 with fail
  rw [← hV, ← hg, ← hg0, ← hW]
  clear hV hW hg hg0
  go_wp2_with (first | (refine wpList_mid38 rfl (.tmp 25) rfl g0 1 rfl (pkCells q) M1.out rfl ?_) | (refine wpList_mid38 rfl (.tmp 27) rfl g 1 rfl (pkCells q') M2.out rfl ?_) | (go_at_call 24; refine SM.out.mono ?_; rintro e w2 ⟨rfl, hb2⟩; have HB2 := hidi hb2; clear hb2))
  go_ret
  exact ⟨rfl, B0.out.trans (HB2.out.mono B0.out.size)⟩
/-! ### sameInputs -/
theorem held_call {P : Program} {ops : Array Oper} {Q : Exit → Act → World → Prop} {o : Oper} {a : Act} {w : World} {K : Act → World → Prop} {E : Prop} (hw : Region.wanted o (yielded ops a.tmps) = true) (f : FuncId) (args : Array Value)
    (hr : (execOp a.eval o).run P w = .ok (.enter f args) w) {R : Value → World → Prop} (hc : Calls P f args w fun e w' => ∃ v, e = .returned v ∧ R v w') (hK : ∀ v w', R v w' → K (a.put o.dst v) w') :
    if Region.wanted o (yielded ops a.tmps) = true then Oper.wp P o a w K Q else E := by
  rw [if_pos hw]
  unfold Oper.wp
  rw [hr]
  simp only [Oper.upon]
  exact hc.mono fun e w' ⟨v, he, hv⟩ => by subst he; exact hK v w' hv
/-- What two rows of the same things hold at a place. -/
theorem inr_same {w : World} {n0 n1 : Nat} {r0 r1 : Option Nat} {v v' : Value} {L L' : List (Itm × Pk)} (h : InR w n0 r0 v L) (h' : InR w n1 r1 v' L') (he : L.map Prod.fst = L'.map Prod.fst) (hs : ∀ x ∈ L, Small x.1.p x.1.c) {j : Nat} (hj : j < L.length) : ∃ (ga gb ca cb : Nat) (P1 P2 : Array Value), v = .slice (some ⟨ga, 0, none⟩) L.length ca ∧ v' = .slice (some ⟨gb, 0, none⟩) L.length cb ∧ L.length ≤ ca ∧ L.length ≤ cb ∧ ((∀ wq, Below w.heap.size w wq → wq.rangeAt ga (j * 28) P1.toList) ∧ P1.size = 28) ∧ ((∀ wq, Below w.heap.size w wq → wq.rangeAt gb (j * 28) P2.toList) ∧ P2.size = 28) ∧ ∀ wq, Below w.heap.size w wq → Calls Tryz.prog 16 #[.agg P1, .agg P2] wq fun e w' => e = .returned (.bool true) ∧ Hid (Below w.heap.size w w') := by
  have hl : L.length = L'.length := by have := congrArg List.length he; simpa using this
  have hj' : j < L'.length := by omega
  have e1 : L[j]? = some L[j] := List.getElem?_eq_getElem hj
  have e2 : L'[j]? = some L'[j] := List.getElem?_eq_getElem hj'
  obtain ⟨ga, ca, a1, a2, a3, a4⟩ := inr_at h.row e1
  obtain ⟨gb, cb, b1, b2, b3, b4⟩ := inr_at h'.row e2
  have heq : L[j].1 = L'[j].1 := by
    have z1 : (L.map Prod.fst)[j]? = some L[j].1 := by rw [List.getElem?_map, e1]; rfl
    have z2 : (L'.map Prod.fst)[j]? = some L'[j].1 := by rw [List.getElem?_map, e2]; rfl
    rw [he, z2] at z1
    exact (Option.some.inj z1).symm
  obtain ⟨i1, i2, -⟩ := h.its L[j] (List.getElem_mem hj)
  obtain ⟨k1, k2, -⟩ := h'.its L'[j] (List.getElem_mem hj')
  have sm := hs L[j] (List.getElem_mem hj)
  refine ⟨ga, gb, ca, cb, iC L[j], iC L'[j], a1, by rw [hl]; exact b1, a2, by omega, ⟨fun wq hb => range_below a4 hb a3, rfl⟩, ⟨fun wq hb => range_below b4 hb b3, rfl⟩, fun wq hb => ?_⟩
  rw [← heq] at k1 k2
  have hc2 : iC L'[j] = inC L[j].1.a.1 L'[j].2 L[j].1.a.2.1 L[j].1.a.2.2 := by unfold iC; rw [← heq]
  rw [hc2]
  refine (sameIn_any L[j].1.a.1 L[j].1.a.2.1 L[j].1.a.2.2 L[j].1.p L[j].2 L'[j].2 L[j].1.c wq i1 k1 (In.congr i2 (fun b hu => hb.block b (In.lt i2 hu))) (In.congr k2 (fun b hu => hb.block b (In.lt k2 hu))) sm).mono ?_
  rintro e w' ⟨he', hb'⟩
  exact ⟨he', hb.trans (hb'.mono hb.size)⟩
theorem inr_sl {w : World} {n0 : Nat} {r0 : Option Nat} {v : Value} {L : List (Itm × Pk)} (h : InR w n0 r0 v L) : ∃ a c, v = .slice a L.length c := by
  rcases h.row.2 with ⟨q1, q2⟩ | ⟨g, cap, cur, q1, _⟩
  · exact ⟨none, 0, by rw [q1, q2]⟩
  · exact ⟨_, _, q1⟩
set_option maxRecDepth 100000 in
set_option maxHeartbeats 4000000 in
theorem sameIns_any {w : World} {n0 n1 : Nat} {r0 r1 : Option Nat} {v v' : Value} {L L' : List (Itm × Pk)} (h : InR w n0 r0 v L) (h' : InR w n1 r1 v' L') (he : L.map Prod.fst = L'.map Prod.fst) (hs : ∀ x ∈ L, Small x.1.p x.1.c) (hm : L.length ≤ 1000000) : Calls Tryz.prog 10 #[v, v'] w fun e w' => e = .returned (.bool true) ∧ Below w.heap.size w w' := by
  obtain ⟨va, vc, hv⟩ := inr_sl h
  obtain ⟨va', vc', hv'⟩ := inr_sl h'
  have hl : L.length = L'.length := by have := congrArg List.length he; simpa using this
  rw [← hl] at hv'
  have AT := hidi (fun j (hj : j < L.length) => inr_same h h' he hs hj)
  obtain ⟨n, hn⟩ : ∃ n, n = L.length := ⟨_, rfl⟩
  rw [← hn] at hv hv' hm AT
  clear h h' he hs hl hn
  subst hv hv'
  go_enter Tryz.func10, Tryz.ntmps10
  go_wp2_with fail
  go_loopg [5] n (fun gk s5 wx => ∃ i : Nat, i + gk = n ∧ s5 = .int .i64 i ∧ Hid (Below w.heap.size w wx))
  case atStart => exact ⟨0, by omega, rfl, Below.refl _ _⟩
  case round =>
    obtain ⟨i, hi, rfl, BX⟩ := hrel
    by_cases hin : i < n
    · have hlt : (i : Int) < (n : Int) := by omega
      have hge : (0 : Int) ≤ (i : Int) := by omega
      have hw1 : IntKind.i64.wrap ((i : Int) + 1) = (i : Int) + 1 := by rw [IntKind.wrap_i64]; omega
      obtain ⟨ga, gb, ca, cb, P1, P2, q1, q2, hca, hcb, hr1, hr2, hsm⟩ := AT.out i hin
      simp only [Value.slice.injEq, true_and] at q1 q2
      obtain ⟨rfl, rfl⟩ := q1
      obtain ⟨rfl, rfl⟩ := q2
      have RX := hidi hr1
      have RY := hidi hr2
      have SAME := hidi hsm
      clear hr1 hr2 hsm AT
      go_wp2_with fail
      refine wp_region_held_drew (S := fun w' => Hid (Below w.heap.size w w')) (by kernel_rfl) (show Hid _ from BX.out.drew) (fun hHeld => ?_)
      refine wpAnyH_take (i := 0) (oi := { dst := Option.some 17, op := Go.Op.move (Go.Operand.tmp 0), type := 28, pos := "whatfor.go:26", after := #[], guard := Option.none }) (v := .slice (some ⟨ga, 0, none⟩) n vc) rfl (by kernel_rfl) (by kernel_rfl) (by kernel_rfl) (fun _ _ _ h => h) (Or.inl ⟨by kernel_rfl, fun wq _ => pureVal_run (by kernel_rfl) wq⟩) hHeld ?_
      simp only [Act.put, List.setIfInBounds_toArray, List.set_cons_zero, List.set_cons_succ]
      refine wpAnyH_take (i := 1) (oi := { dst := Option.some 18, op := Go.Op.move (Go.Operand.tmp 5), type := 3, pos := "whatfor.go:26", after := #[], guard := Option.none }) (v := .int .i64 (i : Int)) rfl (by kernel_rfl) (by kernel_rfl) (by kernel_rfl) (fun _ _ _ h => h) (Or.inl ⟨by kernel_rfl, fun wq _ => pureVal_run (by kernel_rfl) wq⟩) hHeld ?_
      simp only [Act.put, List.setIfInBounds_toArray, List.set_cons_zero, List.set_cons_succ]
      refine wpAnyH_take (i := 2) (oi := { dst := Option.some 19, op := Go.Op.indexAddr 28 (Go.Operand.tmp 17) (Go.Operand.tmp 18), type := 0, pos := "whatfor.go:26", after := #[{ on := 0, ground := Go.Ground.data }, { on := 1, ground := Go.Ground.data }], guard := Option.none }) (v := .pointer (some ⟨ga, i * 28, none⟩)) rfl (by kernel_rfl) (by kernel_rfl) (by kernel_rfl) (fun _ _ _ h => h) (Or.inl ⟨by kernel_rfl, by intro wq hSw; clear hSw hHeld; go_simp⟩) hHeld ?_
      simp only [Act.put, List.setIfInBounds_toArray, List.set_cons_zero, List.set_cons_succ]
      refine wpAnyH_take (i := 3) (oi := { dst := Option.some 20, op := Go.Op.load 41 (Go.Operand.tmp 19), type := 41, pos := "whatfor.go:26", after := #[{ on := 2, ground := Go.Ground.data }], guard := Option.none }) (v := .agg P1) rfl (by kernel_rfl) (by kernel_rfl) (by kernel_rfl) (fun _ _ _ h => h) (Or.inl ⟨by kernel_rfl, fun wq hSw => yields_mid41 rfl (by rfl) (RX.out.1 wq (Hid.out hSw)) RX.out.2⟩) hHeld ?_
      simp only [Act.put, List.setIfInBounds_toArray, List.set_cons_zero, List.set_cons_succ]
      refine wpAnyH_take (i := 4) (oi := { dst := Option.some 21, op := Go.Op.move (Go.Operand.tmp 1), type := 28, pos := "whatfor.go:26", after := #[], guard := Option.none }) (v := .slice (some ⟨gb, 0, none⟩) n vc') rfl (by kernel_rfl) (by kernel_rfl) (by kernel_rfl) (fun _ _ _ h => h) (Or.inl ⟨by kernel_rfl, fun wq _ => pureVal_run (by kernel_rfl) wq⟩) hHeld ?_
      simp only [Act.put, List.setIfInBounds_toArray, List.set_cons_zero, List.set_cons_succ]
      refine wpAnyH_take (i := 5) (oi := { dst := Option.some 22, op := Go.Op.move (Go.Operand.tmp 5), type := 3, pos := "whatfor.go:26", after := #[], guard := Option.none }) (v := .int .i64 (i : Int)) rfl (by kernel_rfl) (by kernel_rfl) (by kernel_rfl) (fun _ _ _ h => h) (Or.inl ⟨by kernel_rfl, fun wq _ => pureVal_run (by kernel_rfl) wq⟩) hHeld ?_
      simp only [Act.put, List.setIfInBounds_toArray, List.set_cons_zero, List.set_cons_succ]
      refine wpAnyH_take (i := 6) (oi := { dst := Option.some 23, op := Go.Op.indexAddr 28 (Go.Operand.tmp 21) (Go.Operand.tmp 22), type := 0, pos := "whatfor.go:26", after := #[{ on := 4, ground := Go.Ground.data }, { on := 5, ground := Go.Ground.data }], guard := Option.none }) (v := .pointer (some ⟨gb, i * 28, none⟩)) rfl (by kernel_rfl) (by kernel_rfl) (by kernel_rfl) (fun _ _ _ h => h) (Or.inl ⟨by kernel_rfl, by intro wq hSw; clear hSw hHeld; go_simp⟩) hHeld ?_
      simp only [Act.put, List.setIfInBounds_toArray, List.set_cons_zero, List.set_cons_succ]
      refine wpAnyH_take (i := 7) (oi := { dst := Option.some 24, op := Go.Op.load 41 (Go.Operand.tmp 23), type := 41, pos := "whatfor.go:26", after := #[{ on := 6, ground := Go.Ground.data }], guard := Option.none }) (v := .agg P2) rfl (by kernel_rfl) (by kernel_rfl) (by kernel_rfl) (fun _ _ _ h => h) (Or.inl ⟨by kernel_rfl, fun wq hSw => yields_mid41 rfl (by rfl) (RY.out.1 wq (Hid.out hSw)) RY.out.2⟩) hHeld ?_
      simp only [Act.put, List.setIfInBounds_toArray, List.set_cons_zero, List.set_cons_succ]
      refine wpAnyH_ready (rs := [8]) (by kernel_rfl) (by simp) ?_
      refine AllReadyH.cons (o := { dst := Option.some 25, op := Go.Op.call { callee := Go.Callee.value (Go.Operand.func 16), args := #[Go.Operand.tmp 20, Go.Operand.tmp 24], argTypes := #[41, 41] }, type := 4, pos := "whatfor.go:26", after := #[{ on := 3, ground := Go.Ground.data }, { on := 7, ground := Go.Ground.data }], guard := Option.none }) (by rfl) (fun K hK => ?_) AllReadyH.nil
      refine held_call (by kernel_rfl) 16 #[.agg P1, .agg P2] (by clear hHeld hK; go_simp) (R := fun x w' => x = .bool true ∧ Hid (Below w.heap.size w w')) ((SAME.out _ hHeld.out).mono fun e w' ⟨h1, h2⟩ => ⟨_, h1, rfl, h2⟩) ?_
      rintro _ w8 ⟨rfl, hb8⟩
      refine hK.out _ _ hb8 (fun hHeld => ?_)
      clear hK K
      simp only [Act.put, List.setIfInBounds_toArray, List.set_cons_zero, List.set_cons_succ]
      refine wpAnyH_take (i := 9) (oi := { dst := Option.some 26, op := Go.Op.unOp Go.UnOp.not 4 (Go.Operand.tmp 25), type := 4, pos := "whatfor.go:26", after := #[{ on := 8, ground := Go.Ground.data }], guard := Option.none }) (v := .bool false) rfl (by kernel_rfl) (by kernel_rfl) (by kernel_rfl) (fun _ _ _ h => h) (Or.inl ⟨by kernel_rfl, by intro wq hSw; clear hSw hHeld; go_simp⟩) hHeld ?_
      simp only [Act.put, List.setIfInBounds_toArray, List.set_cons_zero, List.set_cons_succ]
      refine wpAnyH_done (by kernel_rfl) ?_ _
      clear hHeld
      have HK8 := hidi hb8
      clear hb8
      go_wp2_with fail
      go_roundg (n - (i + 1))
      case measure => omega
      case rel => exact ⟨i + 1, by omega, by first | rfl | simp, HK8.out⟩
    · have hlt : ¬ (i : Int) < (n : Int) := by omega
      go_wp2_with fail
      go_ret
      exact ⟨rfl, BX.out⟩
end Go.Proofs.YtmfbkfgggdkfmaaGreatDoor.Co
namespace Go.Proofs.YtmfbkfgggdkfmaaGreatDoor.Co
open Go Go.RowKit
open Pkt (Pk Cn Sl In By Is Ss As pkCells Gd KindsAt Small)
set_option linter.unusedSimpArgs false
set_option linter.unusedVariables false
/-! ### What holds of all that is told, by the decoder -/
structure Fcs (s : Cst) : Prop where
  cnt : s.L.length ≤ s.P + (if s.ov = true then 1 else 0)
  sm : ∀ x ∈ s.L, Small x.p x.c
theorem Fcs.step {Z : Nat → Int} {T : Nat} {most : Int} (hZ : ∀ i, 0 ≤ Z i ∧ Z i ≤ 255) (hT : T ≤ 400000) {s : Cst} (h : Fcs s) : Fcs (cstep (dAt Z T most) s) := by
  unfold cstep
  split
  · exact h
  rename_i hov
  have hc := h.cnt
  rw [if_neg hov] at hc
  split
  · exact h
  · refine ⟨?_, fun x hx => ?_⟩
    · simp only [List.length_append, List.length_singleton, if_true]
      omega
    · rcases List.mem_append.1 hx with q | q
      · exact h.sm x q
      · simp only [List.mem_singleton] at q; subst q; exact small_blank 0 _
  · rename_i p c k e
    have hd := dec_ok most (sh_bd hZ s.P) (show T - s.P ≤ 700000 by omega) (show decP (sh Z s.P) (T - s.P) most = .ok p c k from e)
    refine ⟨?_, fun x hx => ?_⟩
    · simp only [List.length_append, List.length_singleton]
      omega
    · rcases List.mem_append.1 hx with q | q
      · exact h.sm x q
      · simp only [List.mem_singleton] at q
        subst q
        unfold itm
        simp only
        split
        · exact hd.2.2
        · exact small_blank 0 _
theorem CRn.fcs {Z : Nat → Int} {T : Nat} {most : Int} (hZ : ∀ i, 0 ≤ Z i ∧ Z i ≤ 255) (hT : T ≤ 400000) {s : Cst} (h : CRn (dAt Z T most) s) : Fcs s := by
  obtain ⟨j, rfl⟩ := h
  induction j with
  | zero => exact ⟨Nat.le_refl _, fun x hx => by cases hx⟩
  | succ j ih => exact ih.step hZ hT
theorem Stp.stays {most : Int} {Z : Nat → Int} {T : Nat} {s : Cst} (h : Stp most Z T s) : cstep (dAt Z T most) s = s := by
  unfold cstep
  split
  · rfl
  rename_i q
  have : dAt Z T most s.P = .more := h.resolve_left q
  rw [this]
/-! ### A row behind a row -/
theorem irow_append (L L' : List (Itm × Pk)) : irow (L ++ L') = irow L ++ irow L' := by simp [irow]
theorem irow_length : ∀ L : List (Itm × Pk), (irow L).length = L.length * 28
  | [] => rfl
  | x :: L => by
    show ((iC x).toList ++ irow L).length = _
    rw [List.length_append, irow_length L, List.length_cons, show (iC x).toList.length = 28 from rfl]
    omega
theorem irow_one {L : List (Itm × Pk)} {u : Value} (h : u ∈ irow L) : u.oneCell' = true := by
  unfold irow at h
  obtain ⟨x, _, hx⟩ := List.mem_flatMap.1 h
  exact (Array.all_eq_true_iff_forall_mem.1 (in_one _ _ _ _)) u (by simpa [iC] using hx)
theorem InR.app {W : World} {n0 n1 : Nat} {rf : Option Nat} {got v2 : Value} {LQ LQ2 : List (Itm × Pk)} (h : InR W n0 rf got LQ) (h2 : InR W n1 rf v2 LQ2) (hn : n0 ≤ n1) (hg : ∀ g, got.ownBlock = some g → g < n1) (hlen : LQ.length + LQ2.length ≤ 1000000) (hw : n0 ≤ W.heap.size) :
    ∃ v3 w3, (Builtin.append_ #[28, 28] 28 #[got, v2]).run Tryz.prog W = .ok v3 w3 ∧ InR w3 n0 rf v3 (LQ ++ LQ2) ∧ Ch (fun j => got.ownBlock = some j) W w3 := by
  obtain ⟨i0, hi0, hzz⟩ := Option.map_eq_some_iff.1 info41
  simp only [Prod.mk.injEq] at hzz
  by_cases h0 : LQ2.length = 0
  · obtain ⟨a, c, rfl⟩ := inr_sl h2
    obtain rfl : LQ2 = [] := List.length_eq_zero_iff.1 h0
    refine ⟨got, W, run_append_empty' (P := Tryz.prog) n0 28 28 41 i0 28 Tryz.underlying28 hi0 got _ _ h.row a c, by rw [List.append_nil]; exact h, Ch.refl _ _⟩
  · rcases h2.row.2 with ⟨_, q⟩ | ⟨g2, c2, cur, rfl, _, hgg, hnc, _⟩
    · exact absurd q h0
    have hcell := h2.row.cells (g := g2) rfl
    obtain ⟨v', w', hr, k2, k3, k4, k5⟩ := run_append_own_at (P := Tryz.prog) W 0 28 28 41 i0 _ 28 352 Tryz.underlying28 hi0 hzz.1 hzz.2.1 hzz.2.2 rfl (by omega) got LQ.length (irow LQ) (own_base2 h.row (fun _ _ => Nat.zero_le _)) ⟨g2, 0, none⟩ LQ2.length c2 (irow LQ2) (irow_length _) (fun j u hu => hcell j u hu) (fun u hu => irow_one hu) (by unfold maxLen; omega) (Nat.le_trans (Nat.mul_le_mul hlen (show 352 ≤ 400 by omega)) (by omega)) (by omega)
    have hch : Ch (fun j => got.ownBlock = some j) W w' := (ch_grown k3).mono (fun j _ q => q)
    have hnew : ∀ g, v'.ownBlock = some g → got.ownBlock = some g ∨ W.heap.size ≤ g := fun g e => by
      rcases k5 with q | q
      · exact .inl (by rw [← q]; exact e)
      · rw [q] at e; cases e; exact .inr (Nat.le_refl _)
    refine ⟨v', w', hr, ⟨?_, fun y hy => ?_⟩, hch⟩
    · rw [List.length_append, irow_append]
      exact own_base2 k2 (fun g e => by
        rcases hnew g e with q | q
        · exact own_ge h.row q
        · omega)
    · have hall : (Alike y.2 y.1.p ∧ In W y.2 y.1.c) ∧ ∀ b, Uses y.2 b → n0 ≤ b ∧ b < W.heap.size ∧ rf ≠ some b ∧ got.ownBlock ≠ some b := by
        rcases List.mem_append.1 hy with q | q
        · obtain ⟨z1, z2, z3⟩ := h.its y q
          exact ⟨⟨z1, z2⟩, z3⟩
        · obtain ⟨z1, z2, z3⟩ := h2.its y q
          refine ⟨⟨z1, z2⟩, fun b hb => ?_⟩
          obtain ⟨b1, b2, b3, b4⟩ := z3 b hb
          exact ⟨by omega, b2, b3, fun e => by have := hg b e; omega⟩
      refine ⟨hall.1.1, In.congr hall.1.2 (fun b hb => hch.block b (hall.2 b hb).2.1 (hall.2 b hb).2.2.2), fun b hb => ?_⟩
      obtain ⟨b1, b2, b3, b4⟩ := hall.2 b hb
      refine ⟨b1, Nat.lt_of_lt_of_le b2 hch.size, b3, fun e => ?_⟩
      rcases hnew b e with q | q
      · exact b4 q
      · omega
/-! ### More bytes -/
theorem cm_push {w W : World} {cb fb : Nat} {most : Int} {Z : Nat → Int} {N : Nat} {s : Cst} {rf : Option Nat} (h : CM w W cb fb most Z N s rf) (l : Sl) (hl : By W l (sh Z N)) (hN : N + l.n ≤ 400000) :
    Calls Tryz.prog 8 #[.pointer (some ⟨cb, 0, none⟩), .slice l.a l.n l.c] W fun e w' => e = .returned (.tuple #[]) ∧ ∃ rf', CM w w' cb fb most Z (N + l.n) s rf' ∧ Nw W.heap.size rf rf' ∧ Ch (fun k => k = fb ∨ (rf = some k ∧ ∃ c, W.heap[k]? = some (.cells c 5 (0, 0)))) W w' := by
  by_cases q : s.ov = true
  · have h' := h
    unfold CM at h'
    rw [if_pos q] at h'
    obtain ⟨⟨⟨fp, si, bd, hc⟩, _, _⟩, _⟩ := h'
    refine (push_over hc l.a l.n l.c).mono ?_
    rintro e w' ⟨rfl, rfl⟩
    refine ⟨rfl, rf, ?_, .inl rfl, Ch.refl _ _⟩
    unfold CM at h ⊢
    rw [if_pos q] at h ⊢
    exact h
  · have h' := h
    unfold CM at h'
    rw [if_neg q] at h'
    obtain ⟨⟨si, bd, hk⟩, hP⟩ := h'
    refine (kl_push hk l (sh Z N) (sh Z s.P) hl (by omega) (by omega) (fun _ _ => rfl) (fun i hi => by show Z (s.P + (N - s.P + i)) = Z (N + i); congr 1; omega)).mono ?_
    rintro e w' ⟨rfl, rf', k', c', n'⟩
    refine ⟨rfl, rf', ?_, n', c'.mono (fun k _ z => ?_)⟩
    · unfold CM
      rw [if_neg q]
      refine ⟨⟨si, bd, ?_⟩, by omega⟩
      rw [show N + l.n - s.P = N - s.P + l.n by omega]
      exact k'
    · rcases z with z | z
      · exact .inl z
      · exact .inr ⟨z, (hk.lv.fs.blk.2 k z).2⟩
end Go.Proofs.YtmfbkfgggdkfmaaGreatDoor.Co
namespace Go.Proofs.YtmfbkfgggdkfmaaGreatDoor.Co
open Go Go.RowKit
open Pkt (Pk Cn Sl In By Is Ss As pkCells Gd KindsAt Small)
set_option linter.unusedSimpArgs false
set_option linter.unusedVariables false
/-! ### A conn that hears bytes in pieces, beside older things -/
structure CtS (w W5 wx : World) (cb fb : Nat) (most : Int) (Z : Nat → Int) (T N : Nat) (s : Cst) (rf : Option Nat) (v : Value) (LQ : List (Itm × Pk)) : Prop where
  cm : CM w wx cb fb most Z N s rf
  rn : CRn (dAt Z T most) s
  inr : InR wx W5.heap.size rf v LQ
  eq : LQ.map Prod.fst = s.L
  pl : s.P ≤ N
  nw : rf = none ∨ ∃ j, rf = some j ∧ W5.heap.size ≤ j
  ch : Ch (fun k => k = cb ∨ k = fb ∨ W5.heap.size ≤ k) W5 wx
  cl : cb < W5.heap.size ∧ fb < W5.heap.size ∧ w.heap.size ≤ W5.heap.size
section
variable {w W5 wx : World} {cb fb : Nat} {most : Int} {Z : Nat → Int} {T N : Nat} {s : Cst} {rf : Option Nat} {v : Value} {LQ : List (Itm × Pk)}
theorem nw_none {n m : Nat} {rf rf' : Option Nat} (h : rf = none ∨ ∃ j, rf = some j ∧ n ≤ j) (k : Nw m rf rf') (hm : n ≤ m) : rf' = none ∨ ∃ j, rf' = some j ∧ n ≤ j := by
  rcases k with q | q | ⟨j, q, q2⟩
  · rw [q]; exact h
  · exact .inl q
  · exact .inr ⟨j, q, by omega⟩
theorem CtS.below {wy : World} (h : CtS w W5 wx cb fb most Z T N s rf v LQ) (hb : Below wx.heap.size wx wy) : CtS w W5 wy cb fb most Z T N s rf v LQ :=
  ⟨h.cm.below hb, h.rn, h.inr.below hb, h.eq, h.pl, h.nw, h.ch.trans (Below.ch (S := fun _ => False) hb) (fun _ _ q => q.elim), h.cl⟩
theorem cts_push (h : CtS w W5 wx cb fb most Z T N s rf v LQ) (l : Sl) (hl : By wx l (sh Z N)) (hN : N + l.n ≤ 400000) :
    Calls Tryz.prog 8 #[.pointer (some ⟨cb, 0, none⟩), .slice l.a l.n l.c] wx fun e w' => e = .returned (.tuple #[]) ∧ ∃ rf', CtS w W5 w' cb fb most Z T (N + l.n) s rf' v LQ := by
  refine (cm_push h.cm l hl hN).mono ?_
  rintro e w' ⟨rfl, rf', c1, c2, c3⟩
  have hcl := h.cl
  refine ⟨rfl, rf', c1, h.rn, ?_, h.eq, by have := h.pl; omega, nw_none h.nw c2 h.ch.size, ?_, hcl⟩
  · refine h.inr.keep c3 ?_ ?_ c2
    · rintro g c hg hge (q | ⟨q, c', hc'⟩)
      · omega
      · exact blk_ne hg hc' (by decide) rfl
    · rintro b b1 b2 b3 b4 (q | ⟨q, _⟩)
      · omega
      · exact b3 q
  · refine h.ch.trans c3 ?_
    rintro j hj (q | ⟨q, _⟩)
    · exact .inr (.inl q)
    · rcases h.nw with z | ⟨j', z, z2⟩
      · rw [z] at q; cases q
      · rw [z] at q; cases q; exact .inr (.inr z2)
theorem cts_all (h : CtS w W5 wx cb fb most Z T N s rf v LQ) (hZ : ∀ i, 0 ≤ Z i ∧ Z i ≤ 255) (hN : N ≤ T) (hT : T ≤ 300000) :
    Calls Tryz.prog 9 #[.pointer (some ⟨cb, 0, none⟩), .int .i64 ((T : Int) + 1)] wx fun e w' => ∃ v2 v3 w3 s' rf' LQ', e = .returned (.tuple #[v2, .bool true]) ∧ Stp most Z N s' ∧ (Builtin.append_ #[28, 28] 28 #[v, v2]).run Tryz.prog w' = .ok v3 w3 ∧ CtS w W5 w3 cb fb most Z T N s' rf' v3 LQ' := by
  refine (all_any h.cm hZ hN hT h.rn h.pl).mono ?_
  rintro e w' ⟨v2, s', rf', LQ2, rfl, hs, al⟩
  have hcl := h.cl
  have hsz := h.ch.size
  have hi : InR w' W5.heap.size rf' v LQ := by
    refine h.inr.keep al.ch ?_ ?_ al.nw
    · rintro g c hg hge (q | q) <;> omega
    · rintro b b1 b2 b3 b4 (q | q) <;> omega
  have heq : (LQ ++ LQ2).map Prod.fst = s'.L := by rw [List.map_append, h.eq, al.eq]
  have hlen : LQ.length + LQ2.length ≤ 1000000 := by
    have h1 := (al.rn.fcs hZ (by omega)).cnt
    have h2 := al.pl
    have h3 := congrArg List.length heq
    rw [List.length_map, List.length_append] at h3
    split at h1 <;> omega
  obtain ⟨v3, w3, hr, hi3, hc3⟩ := hi.app al.inr hsz (fun g e => (h.inr.row.lt g e).2) hlen (Nat.le_trans hsz al.ch.size)
  refine ⟨v2, v3, w3, s', rf', LQ ++ LQ2, rfl, hs, hr, al.cm.row hc3 (fun k hk => ⟨Nat.le_trans hcl.2.2 (own_ge hi.row hk), own_lt hi.row hk⟩), al.rn, hi3, heq, al.pl, nw_none h.nw al.nw hsz, ?_, hcl⟩
  refine (h.ch.trans al.ch ?_).trans hc3 (fun j hj q => .inr (.inr (own_ge hi.row q)))
  rintro j hj (q | q)
  · exact .inl q
  · exact .inr (.inl q)
/-- What is as old as W5 and no block of the conn's stays. -/
theorem CtS.want (h : CtS w W5 wx cb fb most Z T N s rf v LQ) {n0 : Nat} {r0 : Option Nat} {v0 : Value} {L0 : List (Itm × Pk)} (hi : InR W5 n0 r0 v0 L0) (h1 : cb < n0) (h2 : fb < n0) : InR wx n0 r0 v0 L0 := by
  refine hi.keep h.ch ?_ ?_ (.inl rfl)
  · rintro g c hg hge q
    have := (Array.getElem?_eq_some_iff.1 hg).1
    omega
  · rintro b b1 b2 b3 b4 q
    omega
/-- Over, of a conn that is not touched. -/
theorem CM.ov {w W : World} {cb fb : Nat} {most : Int} {Z : Nat → Int} {N : Nat} {s : Cst} {rf : Option Nat} (h : CM w W cb fb most Z N s rf) : ∃ st fp si bd, CnAt W cb st fp si bd ∧ (st == 2) = s.ov := by
  unfold CM at h
  by_cases q : s.ov = true
  · rw [if_pos q] at h
    obtain ⟨⟨⟨fp, si, bd, hc⟩, _, _⟩, _⟩ := h
    exact ⟨2, fp, si, bd, hc, by rw [q]; rfl⟩
  · rw [if_neg q] at h
    obtain ⟨⟨si, bd, hk⟩, -⟩ := h
    refine ⟨s.st, _, si, bd, hk.lv.cn, ?_⟩
    rw [show s.ov = false by simpa using q]
    rcases hk.s01 with z | z <;> rw [z] <;> rfl
end
end Go.Proofs.YtmfbkfgggdkfmaaGreatDoor.Co
namespace Go.Proofs.YtmfbkfgggdkfmaaGreatDoor.Co
open Go Go.RowKit
open Pkt (Pk Cn Sl In By Is Ss As pkCells Gd KindsAt Small)
set_option linter.unusedSimpArgs false
set_option linter.unusedVariables false
/-! ### ConnOrder -/
theorem below_gn {w w' : World} (h : w.grownBy w' none) : Below w.heap.size w w' := ⟨h.os, h.tape, h.output, h.size, fun k hk => h.block k hk (by intro e; cases e)⟩
end Go.Proofs.YtmfbkfgggdkfmaaGreatDoor.Co
namespace Go.Proofs.YtmfbkfgggdkfmaaGreatDoor.Co
open Go Go.RowKit
open Pkt (Pk Cn Sl In By Is Ss As pkCells Gd KindsAt Small)
set_option linter.unusedSimpArgs false
set_option linter.unusedVariables false
/-! ### ConnCuts -/
theorem cut_is_cell {w w' : World} {s : Sl} {z : Nat → Int} (h : Is w s z) (hb : Below w.heap.size w w') (j : Nat) (hj : j < s.n) : ∃ b off, s.a = some ⟨b, off, none⟩ ∧ s.n ≤ s.c ∧ w'.cell? ⟨b, off + j, none⟩ = some (.int .i64 (z j)) := by
  obtain ⟨b, off, e, hc⟩ := h.2.resolve_left (by omega)
  exact ⟨b, off, e, h.1, (hb.cell (p := ⟨b, off + j, none⟩) (lt_of_cell (hc j hj))).trans (hc j hj)⟩
set_option maxRecDepth 100000 in
set_option maxHeartbeats 4000000 in
theorem cuts_any (most : Int) (l cs : Sl) (zb zc : Nat → Int) (w : World) (hl : By w l zb) (hnil : l.a = none → l.n = 0 ∧ l.c = 0) (hpl : ∀ x, l.a = some x → ∃ g off, x = ⟨g, off, none⟩) (hcs : Is w cs zc) (hg : Gw w) (hm : l.n ≤ 9223372036854775807) (hm2 : cs.n ≤ 9223372036854775807) : Calls Tryz.prog 3 #[.int .i64 most, .slice l.a l.n l.c, .slice cs.a cs.n cs.c] w fun e w' => e = .returned (.bool true) ∧ Below w.heap.size w w' := by
  obtain ⟨la, ln, lc⟩ := l
  obtain ⟨ka, kn, kc⟩ := cs
  have HL := hidi hl
  have HC := hidi hcs
  have G := hidi hg
  have KN := hidi (cknown_any w hg)
  have HLb : ∀ W, Below w.heap.size w W → By W ⟨la, ln, lc⟩ zb := fun W hb => Pkt.By.below hl hb
  have HLB := hidi HLb
  have HNP := hidi (And.intro hnil hpl)
  simp only at hm hm2
  clear hl hg hcs HLb hnil hpl
  by_cases h1 : 65536 < ln
  · have e1 : decide ((65536 : Int) < (ln : Int)) = true := decide_eq_true (by omega)
    have e1' : (65536 : Int) < (ln : Int) := by omega
    go_enter Tryz.func3, Tryz.ntmps3
    go_wp2_with (first | (go_at_call 6; refine KN.out.mono ?_; clear KN; rintro e w1 ⟨rfl, hb1⟩; have HB1 := hidi hb1; clear hb1))
    go_ret
    exact ⟨rfl, HB1.out⟩
  have e1 : decide ((65536 : Int) < (ln : Int)) = false := decide_eq_false (by omega)
  have e1' : ¬ (65536 : Int) < (ln : Int) := by omega
  by_cases h2 : 300 < kn
  · have e2 : decide ((300 : Int) < (kn : Int)) = true := decide_eq_true (by omega)
    have e2' : (300 : Int) < (kn : Int) := by omega
    go_enter Tryz.func3, Tryz.ntmps3
    go_wp2_with (first | (go_at_call 6; refine KN.out.mono ?_; clear KN; rintro e w1 ⟨rfl, hb1⟩; have HB1 := hidi hb1; clear hb1))
    go_ret
    exact ⟨rfl, HB1.out⟩
  have e2 : decide ((300 : Int) < (kn : Int)) = false := decide_eq_false (by omega)
  have e2' : ¬ (300 : Int) < (kn : Int) := by omega
  have HN := hidi (show ln ≤ 65536 ∧ kn ≤ 300 by omega)
  have hw0 : IntKind.i64.wrap ((ln : Int) + 1) = (ln : Int) + 1 := by rw [IntKind.wrap_i64]; omega
  clear hm hm2 h1 h2
  go_enter Tryz.func3, Tryz.ntmps3
  go_wp2_with (first
    | (go_at_call 6; refine KN.out.mono ?_; clear KN; rintro e w1 ⟨rfl, hb1⟩; have HB1 := hidi hb1; clear hb1))
  go_must (go_at_call 7)
  refine (kl_new most 0 zb G.out HB1.out).mono ?_
  rintro e W1 ⟨rfl, k1, b1⟩
  obtain ⟨cc, hcc⟩ : ∃ cb, cb = w1.heap.size + 1 := ⟨_, rfl⟩
  obtain ⟨fc, hfc⟩ : ∃ fb, fb = w1.heap.size := ⟨_, rfl⟩
  rw [← hcc, show KL w W1 cc w1.heap.size = KL w W1 cc fc by rw [hfc]] at k1
  rw [← hcc]
  have K1 := hidi k1
  have NE := hidi (show cc ≠ fc by omega)
  clear hcc hfc HB1 b1 k1 e1 e1' e2 e2'
  go_wp2_with fail
  go_must (go_at_call 7)
  refine (kl_new most 0 zb G.out K1.out.bel).mono ?_
  rintro e W2 ⟨rfl, k2, b2⟩
  obtain ⟨cb, hcb⟩ : ∃ cb, cb = W1.heap.size + 1 := ⟨_, rfl⟩
  obtain ⟨fb, hfb⟩ : ∃ fb, fb = W1.heap.size := ⟨_, rfl⟩
  rw [← hcb, show KL w W2 cb W1.heap.size = KL w W2 cb fb by rw [hfb]] at k2
  rw [← hcb]
  have K2 := hidi (And.intro (K1.out.below b2) k2)
  have LT := hidi (show cc < W1.heap.size ∧ fc < W1.heap.size ∧ W1.heap.size ≤ fb ∧ W1.heap.size ≤ cb from ⟨K1.out.lv.cn.lt, K1.out.lv.fs.lt.1, by omega, by omega⟩)
  clear hcb hfb b2 k2 K1
  go_wp2_with (first
    | (refine wpList_push_any rfl _ _ rfl W2.heap.size 0 (.slice none 0 0) [] rfl (World.ownsRow_nil _ _ _ _) ⟨la, ln, lc⟩ zb rfl (HLB.out W2 K2.out.1.bel) (Nat.zero_le _) (by have := HN.out; show ln ≤ 400000; omega) (Nat.le_refl _) ?_; rintro v3 W3 ho3 hg3 -))
  rw [Nat.zero_add, List.nil_append] at ho3
  obtain ⟨l3, rfl, hn3, hb3⟩ := own_by ho3 HL.out.2.1
  have K3 := hidi (And.intro (K2.out.1.below (below_gn hg3)) (K2.out.2.below (below_gn hg3)))
  have HB3 := hidi (And.intro hn3 hb3)
  clear ho3 hg3 hn3 hb3 K2
  refine (kl_push K3.out.1 l3 zb zb HB3.out.2 (by decide) (by rw [HB3.out.1]; have := HN.out; omega) (by intro i hi; omega) (fun i _ => by rw [Nat.zero_add])).mono ?_
  rintro e W4 ⟨rfl, rf4, k4, c4, -⟩
  rw [HB3.out.1] at k4
  have D4 := hidi (K3.out.2.keep c4 (by rintro (q | q); (have := LT.out; omega); cases q) (by rintro (q | q); (have := LT.out; omega); cases q) (fun k e => by cases e) (by rintro k (q | q); (rw [q]; exact K3.out.1.fbl); cases q))
  have K4 := hidi (CM.start k4)
  clear k4 c4 K3 HB3
  have AL := hidi (all_any (T := ln) K4.out HL.out.2.1 (Nat.le_refl _) (by have := HN.out; omega) (CRn.zero _) (Nat.zero_le _))
  clear K4
  go_wp2_with fail
  go_must (go_at_call 9)
  refine AL.out.mono ?_
  rintro e W5 ⟨vw, sw, rf5, LW, rfl, hst5, al⟩
  have D5 := hidi (D4.out.keep al.ch (by rintro (q | q) <;> (have := LT.out; omega)) (by rintro (q | q) <;> (have := LT.out; omega)) (fun k e => by cases e) (fun k q => q.elim (fun q => q ▸ al.cm.lt.2.2.1) (fun q => q ▸ al.cm.lt.2.2.2.1)))
  have A5 := hidi (And.intro hst5 al)
  have LD := hidi (show cb < W4.heap.size ∧ fb < W4.heap.size from ⟨D4.out.lv.cn.lt, D4.out.lv.fs.lt.1⟩)
  have C0 := hidi (show CtS w W5 W5 cb fb most zb ln 0 ⟨0, 0, false, []⟩ none (.slice none 0 0) [] from ⟨CM.start (N := 0) D5.out, CRn.zero _, InR.nil _ _ _, rfl, Nat.zero_le _, .inl rfl, Ch.refl _ _, ⟨Nat.lt_of_lt_of_le LD.out.1 al.ch.size, Nat.lt_of_lt_of_le LD.out.2 al.ch.size, D5.out.bel.size⟩⟩)
  clear al AL D4 D5 hst5
  go_wp2_with fail
  go_loopg [11, 12, 13, 14, 15, 16] (kn + 1) (fun gk s11 s12 s13 s14 s15 s16 wx => ∃ (i N : Nat) (s : Cst) (rf : Option Nat) (v : Value) (LQ : List (Itm × Pk)), i + gk = kn + 1 ∧ v = s11 ∧ s12 = .int .i64 N ∧ s13 = .int .i64 i ∧ N ≤ ln ∧ Hid (CtS w W5 wx cb fb most zb ln N s rf v LQ ∧ (i = kn + 1 → N = ln ∧ Stp most zb ln s)))
  case atStart => exact ⟨0, 0, _, _, _, _, by omega, rfl, rfl, rfl, Nat.zero_le _, C0.out, fun q => by omega⟩
  case round =>
    obtain ⟨i, N, s, rf, v, LQ, hi, rfl, rfl, rfl, hNl, CX⟩ := hrel
    clear C0
    by_cases hin : i ≤ kn
    · have hle : (i : Int) ≤ (kn : Int) := by omega
      have hw1 : IntKind.i64.wrap ((i : Int) + 1) = (i : Int) + 1 := by rw [IntKind.wrap_i64]; have := HN.out; omega
      go_upto_if 62 with fail
      go_cut [14] from 59 to 73 (fun s14 wx => ∃ tt : Nat, s14 = .int .i64 tt ∧ N ≤ tt ∧ tt ≤ ln ∧ Hid (wx = wr) ∧ Hid (i = kn → tt = ln))
      case first =>
        by_cases hik : i < kn
        · have hlt : (i : Int) < (kn : Int) := by omega
          have hge : (0 : Int) ≤ (i : Int) := by omega
          obtain ⟨gb, go, ea, hkc, hc⟩ := cut_is_cell HC.out (CX.out.1.cm.lt.2.2.2.2) i hik
          simp only at ea hkc
          obtain ⟨x, hx⟩ : ∃ x, x = zc i := ⟨_, rfl⟩
          rw [← hx] at hc
          obtain ⟨M, hM⟩ : ∃ M : Nat, max x 0 = (M : Int) := ⟨(max x 0).toNat, by omega⟩
          obtain ⟨m, hm⟩ : ∃ m : Nat, m = M % 65537 := ⟨_, rfl⟩
          have tm : Int.tmod (M : Int) 65537 = (m : Int) := by rw [hm]; rfl
          have hm2 : m < 65537 := by rw [hm]; exact Nat.mod_lt _ (by omega)
          have wm : IntKind.i64.wrap (m : Int) = (m : Int) := by rw [IntKind.wrap_i64]; omega
          have wn : IntKind.i64.wrap ((N : Int) + (m : Int)) = (N : Int) + (m : Int) := by rw [IntKind.wrap_i64]; have := HN.out; omega
          obtain ⟨tt, hto⟩ : ∃ tt : Nat, min ((N : Int) + (m : Int)) (ln : Int) = (tt : Int) := ⟨(min ((N : Int) + (m : Int)) (ln : Int)).toNat, by omega⟩
          have HTo := hidi (show N ≤ tt ∧ tt ≤ ln by omega)
          clear hx hm
          rw [ea]
          go_wp2_with fail
          rw [← ea]
          go_meet
          case rel => exact ⟨tt, rfl, HTo.out.1, HTo.out.2, rfl, fun q => absurd q (by omega)⟩
        · have hlt : ¬ (i : Int) < (kn : Int) := by omega
          go_wp2_with fail
          go_meet
          case rel => exact ⟨ln, rfl, hNl, Nat.le_refl _, rfl, fun _ => rfl⟩
      case rest =>
        obtain ⟨tt, hs14, hN1, hN2, hwc, HTo⟩ := hcut
        have hwc' := Hid.out hwc
        clear hwc
        subst hs14
        subst hwc'
        have BW := hidi CX.out.1.cm.lt.2.2.2.2
        have HBw := hidi (HLB.out _ BW.out)
        have i1 : (N : Int) ≤ (tt : Int) := by omega
        have i2 : (tt : Int) ≤ (lc : Int) := by have := HBw.out.1; simp only at this; omega
        have i3 : (0 : Int) ≤ (N : Int) := by omega
        have i4 : (0 : Int) ≤ (tt : Int) := by omega
        have i5 : (tt : Int) ≤ (ln : Int) := by omega
        rcases (show la = none ∨ ∃ x, la = some x by cases la; exact .inl rfl; exact .inr ⟨_, rfl⟩) with hla | ⟨ad, hla⟩
        · obtain ⟨hz1, hz2⟩ := HNP.out.1 hla
          subst hla hz1 hz2
          obtain rfl : tt = 0 := by omega
          obtain rfl : N = 0 := by omega
          go_wp2_with (first | (refine wpList_push_any rfl _ _ rfl wc.heap.size 0 (.slice none 0 0) [] rfl (World.ownsRow_nil _ _ _ _) ⟨none, 0, 0⟩ (sh zb 0) rfl ⟨Nat.le_refl _, sh_bd HL.out.2.1 0, .inl rfl⟩ (Nat.zero_le _) (by have := HN.out; show 0 ≤ 400000; omega) (Nat.le_refl _) ?_; rintro v6 W6 ho6 hg6 -))
          rw [Nat.zero_add, List.nil_append] at ho6
          obtain ⟨l6, rfl, hn6, hb6⟩ := own_by ho6 (sh_bd HL.out.2.1 0)
          have C6 := hidi (CX.out.1.below (below_gn hg6))
          have HB6 := hidi (And.intro hn6 hb6)
          have PU := hidi (cts_push C6.out l6 HB6.out.2 (by have := HB6.out.1; have := HN.out; omega))
          clear ho6 hg6 hn6 hb6 CX C6
          refine PU.out.mono ?_
          rintro e W7 ⟨rfl, rf7, c7⟩
          rw [HB6.out.1, show 0 + 0 = 0 by omega] at c7
          have AL := hidi (cts_all c7 HL.out.2.1 (by omega) (by have := HN.out; omega))
          clear c7 PU HB6
          go_wp2_with fail
          go_must (go_at_call 9)
          refine AL.out.mono ?_
          rintro e W8 ⟨v2, v3, W9, s9, rf9, LQ9, rfl, hst9, hr9, c9⟩
          have HR := hidi hr9
          have C9 := hidi (And.intro hst9 c9)
          clear hr9 hst9 c9 AL
          go_wp2_with (at_builtin; refine Lib.wpList_append_run _ rfl (.tmp 92) (.tmp 93) 28 28 rfl _ _ rfl rfl _ W9 HR.out ?_)
          go_roundg (kn + 1 - (i + 1))
          case measure => omega
          case rel => exact ⟨i + 1, 0, s9, rf9, v3, LQ9, by omega, rfl, rfl, by first | rfl | simp, by omega, C9.out.2, fun q => ⟨rfl, C9.out.1⟩⟩
        · obtain ⟨gb, off, rfl⟩ := HNP.out.2 ad hla
          subst hla
          have HSB := hidi (show By wc ⟨(if lc = N then some ⟨gb, off, none⟩ else some ⟨gb, off + N, none⟩), tt - N, lc - N⟩ (sh zb N) from ⟨by show tt - N ≤ lc - N; omega, sh_bd HL.out.2.1 N, by
            by_cases h0 : ln = 0 ∨ lc = N
            · exact .inl (by show tt - N = 0; omega)
            · obtain ⟨b', off', ea, hcl⟩ := HBw.out.2.2.resolve_left (fun q => h0 (.inl q))
              simp only [Option.some.injEq, Addr.mk.injEq, and_true] at ea
              obtain ⟨rfl, rfl⟩ := ea
              exact .inr ⟨gb, off + N, if_neg (fun q => h0 (.inr q)), fun i hi => by
                have hi' : i < tt - N := hi
                have := hcl (N + i) (show N + i < ln by omega)
                rw [Nat.add_assoc]
                exact this⟩⟩)
          go_wp2_with (first | (refine wpList_push_any rfl _ _ rfl wc.heap.size 0 (.slice none 0 0) [] rfl (World.ownsRow_nil _ _ _ _) ⟨(if lc = N then some ⟨gb, off, none⟩ else some ⟨gb, off + N, none⟩), tt - N, lc - N⟩ (sh zb N) rfl HSB.out (Nat.zero_le _) (by have := HN.out; show tt - N ≤ 400000; omega) (Nat.le_refl _) ?_; rintro v6 W6 ho6 hg6 -; generalize (if lc = N then some (⟨gb, off, none⟩ : Addr) else some ⟨gb, off + N, none⟩) = AO))
          rw [Nat.zero_add, List.nil_append] at ho6
          obtain ⟨l6, rfl, hn6, hb6⟩ := own_by ho6 (sh_bd HL.out.2.1 N)
          have C6 := hidi (CX.out.1.below (below_gn hg6))
          have HB6 := hidi (And.intro hn6 hb6)
          have PU := hidi (cts_push C6.out l6 HB6.out.2 (by have := HB6.out.1; have := HN.out; omega))
          clear ho6 hg6 hn6 hb6 CX C6
          refine PU.out.mono ?_
          rintro e W7 ⟨rfl, rf7, c7⟩
          rw [HB6.out.1, show N + (tt - N) = tt by omega] at c7
          have AL := hidi (cts_all c7 HL.out.2.1 (by omega) (by have := HN.out; omega))
          clear c7 PU HB6
          go_wp2_with fail
          go_must (go_at_call 9)
          refine AL.out.mono ?_
          rintro e W8 ⟨v2, v3, W9, s9, rf9, LQ9, rfl, hst9, hr9, c9⟩
          have HR := hidi hr9
          have C9 := hidi (And.intro hst9 c9)
          clear hr9 hst9 c9 AL
          go_wp2_with (at_builtin; refine Lib.wpList_append_run _ rfl (.tmp 92) (.tmp 93) 28 28 rfl _ _ rfl rfl _ W9 HR.out ?_)
          go_roundg (kn + 1 - (i + 1))
          case measure => omega
          case rel => exact ⟨i + 1, tt, s9, rf9, v3, LQ9, by omega, rfl, rfl, by first | rfl | simp, by omega, C9.out.2, fun q => by have := HTo.out (by omega); exact ⟨this, this ▸ C9.out.1⟩⟩
    · have hle : ¬ (i : Int) ≤ (kn : Int) := by omega
      obtain ⟨hNT, hst⟩ := CX.out.2 (by omega)
      subst hNT
      have HU := hidi (CRn.uniq CX.out.1.rn A5.out.2.rn hst.stays A5.out.1.stays)
      have HE := hidi (show LQ.map Prod.fst = LW.map Prod.fst by rw [CX.out.1.eq, HU.out, ← A5.out.2.eq]; rfl)
      have FC := hidi (CX.out.1.rn.fcs HL.out.2.1 (by have := HN.out; omega))
      have SI := hidi (sameIns_any CX.out.1.inr (CX.out.1.want A5.out.2.inr LD.out.1 LD.out.2) HE.out (fun x hx => FC.out.sm x.1 (by rw [← CX.out.1.eq]; exact List.mem_map_of_mem hx)) (by
        have h1 := FC.out.cnt
        have h2 := CX.out.1.pl
        have h3 := congrArg List.length CX.out.1.eq
        rw [List.length_map] at h3
        have h4 := HN.out
        split at h1 <;> omega))
      obtain ⟨bv, hbv⟩ : ∃ b, b = s.ov := ⟨_, rfl⟩
      have OC := hidi (fun w2 (hb : Below wr.heap.size wr w2) => (show Calls Tryz.prog 11 #[.pointer (some ⟨cc, 0, none⟩)] w2 fun e w' => e = .returned (.bool bv) ∧ w' = w2 by
        obtain ⟨st, fp, si, bd, hc, he⟩ := A5.out.2.cm.ov
        have hcl : wr.heap[cc]? = W5.heap[cc]? := CX.out.1.ch.block cc hc.lt (by
          rintro (q | q | q)
          · have := LT.out; omega
          · have := LT.out; omega
          · have := hc.lt; omega)
        have hc2 : CnAt w2 cc st fp si bd := hc.keep ((hb.block cc (by have := hc.lt; have := CX.out.1.ch.size; omega)).trans hcl)
        rw [hbv, HU.out, ← he]
        exact over_any hc2))
      have OD := hidi (fun w2 (hb : Below wr.heap.size wr w2) => (show Calls Tryz.prog 11 #[.pointer (some ⟨cb, 0, none⟩)] w2 fun e w' => e = .returned (.bool bv) ∧ w' = w2 by
        rw [hbv]
        exact cm_over (CX.out.1.cm.below hb)))
      have BW := hidi CX.out.1.cm.lt.2.2.2.2
      clear hbv CX HU HE FC hst A5
      go_wp2_with fail
      go_must (go_at_call 10)
      refine SI.out.mono ?_
      rintro e w2 ⟨rfl, hb2⟩
      have B2 := hidi hb2
      clear hb2 SI
      go_wp2_with fail
      go_must (go_at_call 11)
      refine (OC.out w2 B2.out).mono ?_
      rintro e w3 ⟨rfl, rfl⟩
      go_wp2_with fail
      go_must (go_at_call 11)
      refine (OD.out w3 B2.out).mono ?_
      rintro e w4 ⟨rfl, rfl⟩
      cases bv
      · go_wp2_with fail
        go_ret
        exact ⟨rfl, BW.out.trans (B2.out.mono BW.out.size)⟩
      · go_wp2_with fail
        go_ret
        exact ⟨rfl, BW.out.trans (B2.out.mono BW.out.size)⟩
end Go.Proofs.YtmfbkfgggdkfmaaGreatDoor.Co
namespace Go.Proofs
open Go.Shelf
def Tryz.laysM138_ren : Go.Shelf.Ren := ⟨fun | 138 => 106 | 195 => 111 | 218 => 112 | 143 => 113 | 219 => 118 | 217 => 119 | 225 => 117 | 224 => 116 | 267 => 120 | 266 => 121 | 314 => 122 | n => n, fun | 9 => 9 | 3 => 3 | 4 => 4 | 5 => 5 | 0 => 0 | 46 => 126 | 146 => 164 | 51 => 163 | n => n, fun | 1 => 2 | n => n⟩
theorem Tryz.laysM138 : Go.Proofs.LaysM.n138 Tryz.prog Tryz.laysM138_ren := {
  mixed := by kernel_rfl
  f138 := Tryz.func106.trans (congrArg some (by kernel_rfl))
  f143 := Tryz.func113.trans (congrArg some (by kernel_rfl))
  f195 := Tryz.func111.trans (congrArg some (by kernel_rfl))
  f217 := Tryz.func119.trans (congrArg some (by kernel_rfl))
  f218 := Tryz.func112.trans (congrArg some (by kernel_rfl))
  f219 := Tryz.func118.trans (congrArg some (by kernel_rfl))
  f224 := Tryz.func116.trans (congrArg some (by kernel_rfl))
  f225 := Tryz.func117.trans (congrArg some (by kernel_rfl))
  f266 := Tryz.func121.trans (congrArg some (by kernel_rfl))
  f267 := Tryz.func120.trans (congrArg some (by kernel_rfl))
  f314 := Tryz.func122.trans (congrArg some (by kernel_rfl))
  t0 := Tryz.underlying0
  a0 := Tryz.isAgg0
  z0 := Tryz.sizeOf0
  v0 := Tryz.zeroValue0
  t3 := Tryz.underlying3
  a3 := Tryz.isAgg3
  z3 := Tryz.sizeOf3
  v3 := Tryz.zeroValue3
  t4 := Tryz.underlying4
  a4 := Tryz.isAgg4
  z4 := Tryz.sizeOf4
  v4 := Tryz.zeroValue4
  t5 := Tryz.underlying5
  a5 := Tryz.isAgg5
  z5 := Tryz.sizeOf5
  v5 := Tryz.zeroValue5
  t9 := Tryz.underlying9
  a9 := Tryz.isAgg9
  z9 := Tryz.sizeOf9
  v9 := Tryz.zeroValue9
  t46 := Tryz.underlying126
  a46 := Tryz.isAgg126
  z46 := Tryz.sizeOf126
  v46 := Tryz.zeroValue126
  t51 := Tryz.underlying163
  a51 := Tryz.isAgg163
  z51 := Tryz.sizeOf163
  v51 := Tryz.zeroValue163
  t146 := Tryz.underlying164
  a146 := Tryz.isAgg164
  z146 := Tryz.sizeOf164
  v146 := Tryz.zeroValue164
  g1 := by kernel_rfl
  i0 := by kernel_rfl
  i3 := by kernel_rfl
  i4 := by kernel_rfl
  i5 := by kernel_rfl
  i9 := by kernel_rfl
  i46 := by kernel_rfl
  i51 := by kernel_rfl
  i146 := by kernel_rfl
  m1 := by kernel_rfl
  s1_3 := fun w h => Go.Proofs.cell_of_shapedOpen_int (zero := #[.int .i64 0]) (t := 3) h (of_decide_eq_true (by kernel_rfl)) (by kernel_rfl) rfl (by kernel_rfl) (by kernel_rfl) Tryz.underlying3 }
end Go.Proofs
