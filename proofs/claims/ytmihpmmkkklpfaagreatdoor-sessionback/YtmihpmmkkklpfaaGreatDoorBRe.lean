import Derived.Test.YtmihpmmkkklpfaaGreatDoorBRg
import Derived.Test.YtmihpmmkkklpfaaGreatDoorBSv
import Derived.Test.YtmihpmmkkklpfaaGreatDoorBRb
import Derived.Test.YtmihpmmkkklpfaaGreatDoorBRc
namespace Go.Proofs.YtmihpmmkkklpfaaGreatDoor
open Go Go.RowKit Go.Shelf Go.Maps Go.Sort
set_option linter.unusedSimpArgs false
set_option linter.unusedVariables false
/-! ### The same packets -/
set_option maxRecDepth 100000 in
set_option maxHeartbeats 4000000 in
theorem samePk_any {w : World} {v v' : Value} {X : List Pp} (h : Lst w v X) (h' : Lst w v' X) (hx : X.length ≤ 1000000) : Calls Tryz.prog 12 #[v, v'] w fun e w' => e = .returned (.bool true) ∧ Below w.heap.size w w' := by
  obtain ⟨a, ca, rfl⟩ := h.sl
  obtain ⟨b, cb, rfl⟩ := h'.sl
  obtain ⟨nx, hnx⟩ : ∃ nx, nx = X.length := ⟨_, rfl⟩
  have LL := hidi (And.intro h (And.intro h' (And.intro hnx hx)))
  rw [← hnx]
  have hne : ((nx : Int) != (nx : Int)) = false := by simp
  clear h h' hx hnx
  go_enter Tryz.func12, Tryz.ntmps12
  go_wp2_with fail
  go_loopg [5] nx (fun gk s5 wx => ∃ j : Nat, j + gk = nx ∧ s5 = .int .i64 j ∧ Hid (Below w.heap.size w wx))
  case atStart => exact ⟨0, by omega, rfl, Below.refl _ _⟩
  case round =>
    obtain ⟨j, hj, rfl, HK⟩ := hrel
    by_cases hin : j < nx
    · have hlt2 : (j : Int) < (nx : Int) := by omega
      have hge2 : (0 : Int) ≤ (j : Int) := by omega
      have hw2 : IntKind.i64.wrap ((j : Int) + 1) = (j : Int) + 1 := by rw [IntKind.wrap_i64]; have := LL.out.2.2; omega
      obtain ⟨ga, gb, ca', cb', P1, P2, ha, hb, hr1, hr2, hsm⟩ := lst_same LL.out.1 LL.out.2.1 (j := j) (by rw [← LL.out.2.2.1]; exact hin)
      rw [← LL.out.2.2.1] at ha hb
      simp only [Value.slice.injEq, true_and] at ha hb
      obtain ⟨rfl, rfl⟩ := ha
      obtain ⟨rfl, rfl⟩ := hb
      have RX := hidi hr1
      have RY := hidi hr2
      have SAME := hidi hsm
      clear hr1 hr2 hsm
      go_wp2_with fail
      refine wp_region_held_drew (S := fun w' => Hid (Below w.heap.size w w')) (by kernel_rfl) (show Hid _ from HK.out.drew) (fun hHeld => ?_)
      refine wpAnyH_take (i := 0) (oi := { dst := some 17, op := Go.Op.move (Go.Operand.tmp 0), type := 38, pos := "exact.go:59", after := #[], guard := none }) (v := .slice (some ⟨ga, 0, none⟩) nx ca) rfl (by kernel_rfl) (by kernel_rfl) (by kernel_rfl) (fun _ _ _ h => h) (Or.inl ⟨by kernel_rfl, fun wq _ => pureVal_run (by kernel_rfl) wq⟩) hHeld ?_
      simp only [Act.put, List.setIfInBounds_toArray, List.set_cons_zero, List.set_cons_succ]
      refine wpAnyH_take (i := 1) (oi := { dst := some 18, op := Go.Op.move (Go.Operand.tmp 5), type := 3, pos := "exact.go:59", after := #[], guard := none }) (v := .int .i64 (j : Int)) rfl (by kernel_rfl) (by kernel_rfl) (by kernel_rfl) (fun _ _ _ h => h) (Or.inl ⟨by kernel_rfl, fun wq _ => pureVal_run (by kernel_rfl) wq⟩) hHeld ?_
      simp only [Act.put, List.setIfInBounds_toArray, List.set_cons_zero, List.set_cons_succ]
      refine wpAnyH_take (i := 2) (oi := { dst := some 19, op := Go.Op.indexAddr 38 (Go.Operand.tmp 17) (Go.Operand.tmp 18), type := 0, pos := "exact.go:59", after := #[{ on := 0, ground := Go.Ground.data }, { on := 1, ground := Go.Ground.data }], guard := none }) (v := .pointer (some ⟨ga, j * 25, none⟩)) rfl (by kernel_rfl) (by kernel_rfl) (by kernel_rfl) (fun _ _ _ h => h) (Or.inl ⟨by kernel_rfl, by intro wq hSw; clear hSw hHeld; go_simp⟩) hHeld ?_
      simp only [Act.put, List.setIfInBounds_toArray, List.set_cons_zero, List.set_cons_succ]
      refine wpAnyH_take (i := 3) (oi := { dst := some 20, op := Go.Op.load 66 (Go.Operand.tmp 19), type := 66, pos := "exact.go:59", after := #[{ on := 2, ground := Go.Ground.data }], guard := none }) (v := .agg P1) rfl (by kernel_rfl) (by kernel_rfl) (by kernel_rfl) (fun _ _ _ h => h) (Or.inl ⟨by kernel_rfl, fun wq hSw => yields_mid51 rfl (by rfl) (RX.out wq (Hid.out hSw))⟩) hHeld ?_
      simp only [Act.put, List.setIfInBounds_toArray, List.set_cons_zero, List.set_cons_succ]
      refine wpAnyH_take (i := 4) (oi := { dst := some 21, op := Go.Op.move (Go.Operand.tmp 1), type := 38, pos := "exact.go:59", after := #[], guard := none }) (v := .slice (some ⟨gb, 0, none⟩) nx cb) rfl (by kernel_rfl) (by kernel_rfl) (by kernel_rfl) (fun _ _ _ h => h) (Or.inl ⟨by kernel_rfl, fun wq _ => pureVal_run (by kernel_rfl) wq⟩) hHeld ?_
      simp only [Act.put, List.setIfInBounds_toArray, List.set_cons_zero, List.set_cons_succ]
      refine wpAnyH_take (i := 5) (oi := { dst := some 22, op := Go.Op.move (Go.Operand.tmp 5), type := 3, pos := "exact.go:59", after := #[], guard := none }) (v := .int .i64 (j : Int)) rfl (by kernel_rfl) (by kernel_rfl) (by kernel_rfl) (fun _ _ _ h => h) (Or.inl ⟨by kernel_rfl, fun wq _ => pureVal_run (by kernel_rfl) wq⟩) hHeld ?_
      simp only [Act.put, List.setIfInBounds_toArray, List.set_cons_zero, List.set_cons_succ]
      refine wpAnyH_take (i := 6) (oi := { dst := some 23, op := Go.Op.indexAddr 38 (Go.Operand.tmp 21) (Go.Operand.tmp 22), type := 0, pos := "exact.go:59", after := #[{ on := 4, ground := Go.Ground.data }, { on := 5, ground := Go.Ground.data }], guard := none }) (v := .pointer (some ⟨gb, j * 25, none⟩)) rfl (by kernel_rfl) (by kernel_rfl) (by kernel_rfl) (fun _ _ _ h => h) (Or.inl ⟨by kernel_rfl, by intro wq hSw; clear hSw hHeld; go_simp⟩) hHeld ?_
      simp only [Act.put, List.setIfInBounds_toArray, List.set_cons_zero, List.set_cons_succ]
      refine wpAnyH_take (i := 7) (oi := { dst := some 24, op := Go.Op.load 66 (Go.Operand.tmp 23), type := 66, pos := "exact.go:59", after := #[{ on := 6, ground := Go.Ground.data }], guard := none }) (v := .agg P2) rfl (by kernel_rfl) (by kernel_rfl) (by kernel_rfl) (fun _ _ _ h => h) (Or.inl ⟨by kernel_rfl, fun wq hSw => yields_mid51 rfl (by rfl) (RY.out wq (Hid.out hSw))⟩) hHeld ?_
      simp only [Act.put, List.setIfInBounds_toArray, List.set_cons_zero, List.set_cons_succ]
      refine wpAnyH_ready (rs := [8]) (by kernel_rfl) (by simp) ?_
      refine AllReadyH.cons (o := { dst := some 25, op := Go.Op.call { callee := Go.Callee.value (Go.Operand.func 42), args := #[Go.Operand.tmp 20, Go.Operand.tmp 24], argTypes := #[66, 66] }, type := 4, pos := "exact.go:59", after := #[{ on := 3, ground := Go.Ground.data }, { on := 7, ground := Go.Ground.data }], guard := none }) (by rfl) (fun K hK => ?_) AllReadyH.nil
      refine held_call (by kernel_rfl) 42 #[.agg P1, .agg P2] (by clear hHeld hK; go_simp) (R := fun x w' => x = .bool true ∧ Hid (Below w.heap.size w w')) ((SAME.out _ hHeld.out).mono fun e w' ⟨h1, h2⟩ => ⟨_, h1, rfl, h2⟩) ?_
      rintro _ w8 ⟨rfl, hb8⟩
      refine hK.out _ _ hb8 (fun hHeld => ?_)
      clear hK K
      simp only [Act.put, List.setIfInBounds_toArray, List.set_cons_zero, List.set_cons_succ]
      refine wpAnyH_take (i := 9) (oi := { dst := some 26, op := Go.Op.unOp Go.UnOp.not 4 (Go.Operand.tmp 25), type := 4, pos := "exact.go:59", after := #[{ on := 8, ground := Go.Ground.data }], guard := none }) (v := .bool false) rfl (by kernel_rfl) (by kernel_rfl) (by kernel_rfl) (fun _ _ _ h => h) (Or.inl ⟨by kernel_rfl, by intro wq hSw; clear hSw hHeld; go_simp⟩) hHeld ?_
      simp only [Act.put, List.setIfInBounds_toArray, List.set_cons_zero, List.set_cons_succ]
      refine wpAnyH_done (by kernel_rfl) ?_ _
      clear hHeld
      have HK8 := hidi hb8
      clear hb8
      go_wp2_with fail
      go_roundg (nx - (j + 1))
      case measure => omega
      case rel => exact ⟨j + 1, by omega, by first | rfl | simp, HK8.out.out⟩
    · have hlt2 : ¬ (j : Int) < (nx : Int) := by omega
      go_wp2_with fail
      go_ret
      exact ⟨rfl, HK.out⟩
/-! ### The same numbers, the same asks -/
set_option maxRecDepth 100000 in
set_option maxHeartbeats 4000000 in
theorem sameI_any {w : World} {B B' : Nat} {v v' : Value} {L : List Int} (h : w.ownsRow B 3 1 v L.length (L.map (Value.int .i64))) (h' : w.ownsRow B' 3 1 v' L.length (L.map (Value.int .i64))) (hm : L.length ≤ 1000000) :
    Calls Tryz.prog 44 #[v, v'] w fun e w' => e = .returned (.bool true) ∧ Below w.heap.size w w' := by
  obtain ⟨a, c, rfl⟩ := own_sl h
  obtain ⟨a', c', rfl⟩ := own_sl h'
  have H := hidi (And.intro h (And.intro h' hm))
  obtain ⟨n, hn⟩ : ∃ n, n = L.length := ⟨_, rfl⟩
  rw [← hn]
  have HN := hidi hn
  have hne : ((n : Int) != (n : Int)) = false := by simp
  clear h h' hm hn
  go_enter Tryz.func44, Tryz.ntmps44
  go_wp2_with fail
  go_loopg [5] n (fun gk s5 wx => ∃ j : Nat, j + gk = n ∧ s5 = .int .i64 j ∧ Hid (Below w.heap.size w wx))
  case atStart => exact ⟨0, by omega, rfl, Below.refl _ _⟩
  case round =>
    obtain ⟨j, hj, rfl, HI⟩ := hrel
    by_cases hjn : j < n
    · have hlt : (j : Int) < (n : Int) := by omega
      have hge : (0 : Int) ≤ (j : Int) := by omega
      have hw1 : IntKind.i64.wrap ((j : Int) + 1) = (j : Int) + 1 := by rw [IntKind.wrap_i64]; have := H.out.2.2; have := HN.out; omega
      have hjl : j < L.length := by rw [← HN.out]; exact hjn
      obtain ⟨g, c2, hv, hle, hcell⟩ := irow_cell (own_below H.out.1 HI.out) hjl
      obtain ⟨g', c3, hv', hle', hcell'⟩ := irow_cell (own_below H.out.2.1 HI.out) hjl
      rw [← HN.out] at hv hv'
      simp only [Value.slice.injEq, true_and] at hv hv'
      obtain ⟨rfl, rfl⟩ := hv
      obtain ⟨rfl, rfl⟩ := hv'
      obtain ⟨y, hy⟩ : ∃ y, y = L[j] := ⟨_, rfl⟩
      rw [← hy] at hcell hcell'
      have hyy : (y != y) = false := by simp
      clear hy hle hle'
      go_wp2
      go_quiet (fail)
      have HB1 := hidi (below_drewN HI.out (m := nq))
      go_wp2
      go_roundg (n - (j + 1))
      case measure => omega
      case rel => exact ⟨j + 1, by omega, by first | rfl | simp, HB1.out⟩
    · have hlt : ¬ (j : Int) < (n : Int) := by omega
      go_wp2_with fail
      go_ret
      exact ⟨rfl, HI.out⟩
set_option maxRecDepth 100000 in
set_option maxHeartbeats 4000000 in
theorem sameA_any {w : World} {B B' : Nat} {v v' : Value} {L : List Sb} (h : w.ownsRow B 42 2 v L.length (arow L)) (h' : w.ownsRow B' 42 2 v' L.length (arow L)) (hm : L.length ≤ 1000000) :
    Calls Tryz.prog 43 #[v, v'] w fun e w' => e = .returned (.bool true) ∧ Below w.heap.size w w' := by
  obtain ⟨a, c, rfl⟩ := own_sl h
  obtain ⟨a', c', rfl⟩ := own_sl h'
  have H := hidi (And.intro h (And.intro h' hm))
  obtain ⟨n, hn⟩ : ∃ n, n = L.length := ⟨_, rfl⟩
  rw [← hn]
  have HN := hidi hn
  have hne : ((n : Int) != (n : Int)) = false := by simp
  clear h h' hm hn
  go_enter Tryz.func43, Tryz.ntmps43
  go_wp2_with fail
  go_loopg [5] n (fun gk s5 wx => ∃ j : Nat, j + gk = n ∧ s5 = .int .i64 j ∧ Hid (Below w.heap.size w wx))
  case atStart => exact ⟨0, by omega, rfl, Below.refl _ _⟩
  case round =>
    obtain ⟨j, hj, rfl, HI⟩ := hrel
    by_cases hjn : j < n
    · have hlt : (j : Int) < (n : Int) := by omega
      have hge : (0 : Int) ≤ (j : Int) := by omega
      have hw1 : IntKind.i64.wrap ((j : Int) + 1) = (j : Int) + 1 := by rw [IntKind.wrap_i64]; have := H.out.2.2; have := HN.out; omega
      have hjl : j < L.length := by rw [← HN.out]; exact hjn
      obtain ⟨g, c2, hv, hle, hcell⟩ := arow_cell (own_below H.out.1 HI.out) hjl
      obtain ⟨g', c3, hv', hle', hcell'⟩ := arow_cell (own_below H.out.2.1 HI.out) hjl
      rw [← HN.out] at hv hv'
      simp only [Value.slice.injEq, true_and] at hv hv'
      obtain ⟨rfl, rfl⟩ := hv
      obtain ⟨rfl, rfl⟩ := hv'
      obtain ⟨y, hy⟩ : ∃ y, y = L[j] := ⟨_, rfl⟩
      obtain ⟨k0, k1⟩ := hcell j hjl
      obtain ⟨m0, m1⟩ := hcell' j hjl
      rw [← hy] at k0 k1 m0 m1
      obtain ⟨fy, qy⟩ := y
      simp only at k0 k1 m0 m1
      have hyy : (qy != qy) = false := by simp
      have hyy2 : (qy == qy) = true := by simp
      clear hy hle hle' hcell hcell'
      go_wp2
      go_quiet (fail)
      have HB1 := hidi (below_drewN HI.out (m := nq))
      go_wp2
      go_roundg (n - (j + 1))
      case measure => omega
      case rel => exact ⟨j + 1, by omega, by first | rfl | simp, HB1.out⟩
    · have hlt : ¬ (j : Int) < (n : Int) := by omega
      go_wp2_with fail
      go_ret
      exact ⟨rfl, HI.out⟩
end Go.Proofs.YtmihpmmkkklpfaaGreatDoor
namespace Go.Proofs.YtmihpmmkkklpfaaGreatDoor
open Go Go.RowKit Go.Shelf Go.Maps Go.Sort
set_option linter.unusedSimpArgs false
set_option linter.unusedVariables false
/-! ### sameWindow of two images of one state -/
theorem sameMsg_any {w : World} {v v' : Value} {xs : List Int} {t : ByteArray} {q : Int} {r : Bool} (h : PBi w v xs) (h' : PBi w v' xs) : Calls Tryz.prog 68 #[.agg #[.string t, v, .int .i64 q, .bool r], .agg #[.string t, v', .int .i64 q, .bool r]] w fun e w' => e = .returned (.bool true) ∧ Below w.heap.size w w' := sameMessage_eq t q r h h'
theorem bel_on {a b c : World} (h : Below a.heap.size a b) (k : Below b.heap.size b c) : Below a.heap.size a c := h.trans (k.mono h.size)
set_option maxRecDepth 100000 in
set_option maxHeartbeats 8000000 in
theorem sameWin_any {w : World} {p : Pw} {L M : List Fo} {L' M' : List Ms} {vf vq vg vr : Value} (h : Imo w p L L' vf vq) (k : Imo w p M M' vg vr) (hs : p.fl.length + p.wt.length ≤ 200000) : Calls Tryz.prog 45 #[.agg #[.int .i64 (p.last : Int), vf, vq], .agg #[.int .i64 (p.last : Int), vg, vr]] w fun e w' => e = .returned (.bool true) ∧ Below w.heap.size w w' := by
  have e1 : L.length = p.fl.length := by rw [← h.ef, List.length_map]
  have e2 : L'.length = p.wt.length := by rw [← h.eq, List.length_map]
  have e3 : M.length = p.fl.length := by rw [← k.ef, List.length_map]
  have e4 : M'.length = p.wt.length := by rw [← k.eq, List.length_map]
  obtain ⟨fa, fc, rfl⟩ := own_sl h.fl
  obtain ⟨qa, qc, hvq⟩ := own_sl h.qu
  obtain ⟨ga, gc, hvg⟩ := own_sl k.fl
  obtain ⟨ra, rc, hvr⟩ := own_sl k.qu
  subst hvq hvg hvr
  obtain ⟨ls, hls⟩ : ∃ ls : Int, ls = (p.last : Int) := ⟨_, rfl⟩
  obtain ⟨nf, hnf⟩ : ∃ n, n = p.fl.length := ⟨_, rfl⟩
  obtain ⟨nw, hnw⟩ : ∃ n, n = p.wt.length := ⟨_, rfl⟩
  rw [← hnf] at e1 e3 hs
  rw [← hnw] at e2 e4 hs
  have hFL := h.fl
  have hQU := h.qu
  have kFL := k.fl
  have kQU := k.qu
  rw [e1] at hFL
  rw [e2] at hQU
  rw [e3] at kFL
  rw [e4] at kQU
  have H := hidi (And.intro hFL (And.intro hQU (And.intro kFL (And.intro kQU (And.intro h (And.intro k (And.intro e1 (And.intro e2 (And.intro e3 e4)))))))))
  rw [← hls, e1, e2, e3, e4]
  clear hFL hQU kFL kQU h k e1 e2 e3 e4 hls hnf hnw
  obtain ⟨w1, hw1⟩ : ∃ w1, w1 = w.alloc (.cells #[.int .i64 ls, .slice fa nf fc, .slice qa nw qc] 31) := ⟨_, rfl⟩
  obtain ⟨w2, hw2⟩ : ∃ w2, w2 = w1.alloc (.cells #[.int .i64 ls, .slice ga nf gc, .slice ra nw rc] 31) := ⟨_, rfl⟩
  obtain ⟨q1, q2, q3⟩ := two_alloc w (.cells #[.int .i64 ls, .slice fa nf fc, .slice qa nw qc] 31) (.cells #[.int .i64 ls, .slice ga nf gc, .slice ra nw rc] 31)
  have b2 := two_below w (.cells #[.int .i64 ls, .slice fa nf fc, .slice qa nw qc] 31) (.cells #[.int .i64 ls, .slice ga nf gc, .slice ra nw rc] 31)
  rw [← hw1, ← hw2] at q1 q2 q3 b2
  have hs1 : w1.heap.size = w.heap.size + 1 := by rw [hw1]; simp
  obtain ⟨xa, hxa⟩ : ∃ x, x = w.heap.size := ⟨_, rfl⟩
  obtain ⟨xc, hxc⟩ : ∃ x, x = w1.heap.size := ⟨_, rfl⟩
  rw [← hxa] at q1
  rw [show w.heap.size + 1 = xc by rw [hxc, hs1]] at q2
  have A2 := hidi (And.intro q1 (And.intro q2 b2))
  have c0 := box_cells q1 0 _ rfl
  have c1 := box_cells q1 1 _ rfl
  have c2 := box_cells q1 2 _ rfl
  have d0 := box_cells q2 0 _ rfl
  have d1 := box_cells q2 1 _ rfl
  have d2 := box_cells q2 2 _ rfl
  clear q1 q2 q3 b2
  go_enter Tryz.func45, Tryz.ntmps45
  go_upto_region 1 with fail
  rw [← hw1, ← hw2, ← hs1, ← hxc, ← hxa]
  clear hw1 hw2 hxa hxc hs1
  go_wp2_with fail
  clear c0 c1 c2 d0 d1 d2
  go_loopg [5] nf (fun gk s5 wx => ∃ j : Nat, j + gk = nf ∧ s5 = .int .i64 j ∧ Hid (Below w2.heap.size w2 wx))
  case atStart => exact ⟨0, by omega, rfl, Below.refl _ _⟩
  case round =>
    obtain ⟨j, hj, rfl, HI⟩ := hrel
    have c1 := box_cells (later_at A2.out.1 HI.out) 1 _ rfl
    have d1 := box_cells (later_at A2.out.2.1 HI.out) 1 _ rfl
    have hbw : Below w.heap.size w wr := A2.out.2.2.trans (HI.out.mono A2.out.2.2.size)
    by_cases hjn : j < nf
    · have hlt : (j : Int) < (nf : Int) := by omega
      have hge : (0 : Int) ≤ (j : Int) := by omega
      have hw1 : IntKind.i64.wrap ((j : Int) + 1) = (j : Int) + 1 := by rw [IntKind.wrap_i64]; omega
      have hjL : j < L.length := by rw [H.out.2.2.2.2.2.2.1]; exact hjn
      have hjM : j < M.length := by rw [H.out.2.2.2.2.2.2.2.2.1]; exact hjn
      obtain ⟨g, cg, hv, hcell⟩ := frow_cell (own_below H.out.1 hbw) hjn hjL
      obtain ⟨g', cg', hv', hcell'⟩ := frow_cell (own_below H.out.2.2.1 hbw) hjn hjM
      simp only [Value.slice.injEq, true_and] at hv hv'
      obtain ⟨rfl, rfl⟩ := hv
      obtain ⟨rfl, rfl⟩ := hv'
      have p1 := (H.out.2.2.2.2.1.fp _ (List.getElem_mem hjL)).keep (Kb.below hbw)
      have p2 := (H.out.2.2.2.2.2.1.fp _ (List.getElem_mem hjM)).keep (Kb.below hbw)
      have hpp : (L[j]).p = (M[j]).p := by
        have : (L.map Fo.p)[j]? = (M.map Fo.p)[j]? := by rw [H.out.2.2.2.2.1.ef, H.out.2.2.2.2.2.1.ef]
        rw [List.getElem?_map, List.getElem?_map, List.getElem?_eq_getElem hjL, List.getElem?_eq_getElem hjM] at this
        simpa using this
      obtain ⟨f, hf⟩ : ∃ f, f = L[j] := ⟨_, rfl⟩
      obtain ⟨f', hf'⟩ : ∃ f, f = M[j] := ⟨_, rfl⟩
      rw [← hf] at hcell p1 hpp
      rw [← hf'] at hcell' p2 hpp
      clear hf hf' hjL hjM
      obtain ⟨id, ⟨t, pv, q, r, xs⟩, rel⟩ := f
      obtain ⟨id', ⟨t', pv', q', r', xs'⟩, rel'⟩ := f'
      simp only [Fo.p, Ms.p, Fp.mk.injEq, Mp.mk.injEq] at hpp
      obtain ⟨rfl, rfl, rfl, rfl, rfl, rfl⟩ := hpp
      obtain ⟨pa, pn, pc, hpv⟩ := p1.sl
      obtain ⟨pa', pn', pc', hpv'⟩ := p2.sl
      simp only at hpv hpv'
      subst hpv hpv'
      have k0 : wr.cell? ⟨g, j * 6, none⟩ = some (.int .i64 (id : Int)) := hcell 0 (by omega)
      have k1 : wr.cell? ⟨g, j * 6 + 1, none⟩ = some (.string t) := hcell 1 (by omega)
      have k2 : wr.cell? ⟨g, j * 6 + 2, none⟩ = some (.slice pa pn pc) := hcell 2 (by omega)
      have k3 : wr.cell? ⟨g, j * 6 + 3, none⟩ = some (.int .i64 q) := hcell 3 (by omega)
      have k4 : wr.cell? ⟨g, j * 6 + 4, none⟩ = some (.bool r) := hcell 4 (by omega)
      have k5 : wr.cell? ⟨g, j * 6 + 5, none⟩ = some (.bool rel) := hcell 5 (by omega)
      have l0 : wr.cell? ⟨g', j * 6, none⟩ = some (.int .i64 (id : Int)) := hcell' 0 (by omega)
      have l1 : wr.cell? ⟨g', j * 6 + 1, none⟩ = some (.string t) := hcell' 1 (by omega)
      have l2 : wr.cell? ⟨g', j * 6 + 2, none⟩ = some (.slice pa' pn' pc') := hcell' 2 (by omega)
      have l3 : wr.cell? ⟨g', j * 6 + 3, none⟩ = some (.int .i64 q) := hcell' 3 (by omega)
      have l4 : wr.cell? ⟨g', j * 6 + 4, none⟩ = some (.bool r) := hcell' 4 (by omega)
      have l5 : wr.cell? ⟨g', j * 6 + 5, none⟩ = some (.bool rel) := hcell' 5 (by omega)
      have SM := hidi (fun (W : World) (hb : Below wr.heap.size wr W) => sameMsg_any (w := W) (t := t) (q := q) (r := r) (p1.i.below hb) (p2.i.below hb))
      have gl1 : g < wr.heap.size := World.block_lt_of_cell? _ _ k0
      have gl2 : g' < wr.heap.size := World.block_lt_of_cell? _ _ l0
      have gl3 : xa < wr.heap.size := World.block_lt_of_cell? _ _ c1
      have gl4 : xc < wr.heap.size := World.block_lt_of_cell? _ _ d1
      have n1 : g ≠ wr.heap.size := by omega
      have n2 : g' ≠ wr.heap.size := by omega
      have n3 : xa ≠ wr.heap.size := by omega
      have n4 : xc ≠ wr.heap.size := by omega
      have n5 : g ≠ wr.heap.size + 1 := by omega
      have n6 : g' ≠ wr.heap.size + 1 := by omega
      have n7 : xa ≠ wr.heap.size + 1 := by omega
      have n8 : xc ≠ wr.heap.size + 1 := by omega
      clear hcell hcell' p1 p2 hbw
      have HW := hidi (fun (W W' : World) (hb : Below wr.heap.size wr W) (hb' : Below W.heap.size W W') => bel_on HI.out (bel_on hb hb'))
      go_wp2_with fail
      go_region
      all_goals go_wp2_with fail
      all_goals go_must (go_at_call 68)
      all_goals refine (SM.out _ (two_below wr _ _).drew).mono ?_
      all_goals rintro e w4 ⟨rfl, hb4⟩
      all_goals have HB4 := hidi (HW.out _ _ (two_below wr _ _).drew hb4)
      all_goals clear hb4
      all_goals go_wp2_with fail
      all_goals go_roundg (nf - (j + 1))
      all_goals first | omega | exact ⟨j + 1, by omega, by first | rfl | simp, HB4.out⟩
    · have hlt : ¬ (j : Int) < (nf : Int) := by omega
      have HI2 := HI
      clear hbw hj hjn d1
      go_wp2_with fail
      clear c1
      go_loopg [8] nw (fun gk s8 wx => ∃ j : Nat, j + gk = nw ∧ s8 = .int .i64 j ∧ Hid (Below w2.heap.size w2 wx))
      case atStart => exact ⟨0, by omega, rfl, HI2.out⟩
      case round =>
        clear HI2 HI
        obtain ⟨j, hj, rfl, HI⟩ := hrel
        have c2 := box_cells (later_at A2.out.1 HI.out) 2 _ rfl
        have d2 := box_cells (later_at A2.out.2.1 HI.out) 2 _ rfl
        have hbw : Below w.heap.size w wr := bel_on A2.out.2.2 HI.out
        by_cases hjn : j < nw
        · have hlt : (j : Int) < (nw : Int) := by omega
          have hge : (0 : Int) ≤ (j : Int) := by omega
          have hw1 : IntKind.i64.wrap ((j : Int) + 1) = (j : Int) + 1 := by rw [IntKind.wrap_i64]; omega
          have hjL : j < L'.length := by rw [H.out.2.2.2.2.2.2.2.1]; exact hjn
          have hjM : j < M'.length := by rw [H.out.2.2.2.2.2.2.2.2.2]; exact hjn
          obtain ⟨g, cg, hv, -, hcell⟩ := mrow_cells (own_below H.out.2.1 hbw) hjn hjL
          obtain ⟨g', cg', hv', -, hcell'⟩ := mrow_cells (own_below H.out.2.2.2.1 hbw) hjn hjM
          simp only [Value.slice.injEq, true_and] at hv hv'
          obtain ⟨rfl, rfl⟩ := hv
          obtain ⟨rfl, rfl⟩ := hv'
          have p1 := (H.out.2.2.2.2.1.qp _ (List.getElem_mem hjL)).keep (Kb.below hbw)
          have p2 := (H.out.2.2.2.2.2.1.qp _ (List.getElem_mem hjM)).keep (Kb.below hbw)
          have hpp : (L'[j]).p = (M'[j]).p := by
            have : (L'.map Ms.p)[j]? = (M'.map Ms.p)[j]? := by rw [H.out.2.2.2.2.1.eq, H.out.2.2.2.2.2.1.eq]
            rw [List.getElem?_map, List.getElem?_map, List.getElem?_eq_getElem hjL, List.getElem?_eq_getElem hjM] at this
            simpa using this
          obtain ⟨f, hf⟩ : ∃ f, f = L'[j] := ⟨_, rfl⟩
          obtain ⟨f', hf'⟩ : ∃ f, f = M'[j] := ⟨_, rfl⟩
          rw [← hf] at hcell p1 hpp
          rw [← hf'] at hcell' p2 hpp
          clear hf hf' hjL hjM
          obtain ⟨t, pv, q, r, xs⟩ := f
          obtain ⟨t', pv', q', r', xs'⟩ := f'
          simp only [Ms.p, Mp.mk.injEq] at hpp
          obtain ⟨rfl, rfl, rfl, rfl⟩ := hpp
          obtain ⟨pa, pn, pc, hpv⟩ := p1.sl
          obtain ⟨pa', pn', pc', hpv'⟩ := p2.sl
          simp only at hpv hpv'
          subst hpv hpv'
          have k0 : wr.cell? ⟨g, j * 4, none⟩ = some (.string t) := hcell 0 (by omega)
          have k1 : wr.cell? ⟨g, j * 4 + 1, none⟩ = some (.slice pa pn pc) := hcell 1 (by omega)
          have k2 : wr.cell? ⟨g, j * 4 + 2, none⟩ = some (.int .i64 q) := hcell 2 (by omega)
          have k3 : wr.cell? ⟨g, j * 4 + 3, none⟩ = some (.bool r) := hcell 3 (by omega)
          have l0 : wr.cell? ⟨g', j * 4, none⟩ = some (.string t) := hcell' 0 (by omega)
          have l1 : wr.cell? ⟨g', j * 4 + 1, none⟩ = some (.slice pa' pn' pc') := hcell' 1 (by omega)
          have l2 : wr.cell? ⟨g', j * 4 + 2, none⟩ = some (.int .i64 q) := hcell' 2 (by omega)
          have l3 : wr.cell? ⟨g', j * 4 + 3, none⟩ = some (.bool r) := hcell' 3 (by omega)
          have SM := hidi (sameMsg_any (w := wr.drew) (t := t) (q := q) (r := r) (p1.i.below (Below.refl _ _).drew) (p2.i.below (Below.refl _ _).drew))
          have HW := hidi (fun (W : World) (hb : Below wr.drew.heap.size wr.drew W) => bel_on HI.out (bel_on (Below.refl wr.heap.size wr).drew hb))
          clear hcell hcell' p1 p2 hbw
          go_wp2_with fail
          go_region_law (go_simp; go_at_call 68; refine SM.out.mono ?_; clear SM; rintro e w4 ⟨rfl, hb4⟩; have HB4 := hidi (HW.out _ hb4); clear hb4 HW)
          all_goals go_wp2_with fail
          all_goals go_roundg (nw - (j + 1))
          all_goals first | omega | exact ⟨j + 1, by omega, by first | rfl | simp, HB4.out⟩
        · have hlt : ¬ (j : Int) < (nw : Int) := by omega
          have HF := hidi hbw
          clear hbw
          go_wp2_with fail
          go_ret
          exact ⟨rfl, HF.out⟩
end Go.Proofs.YtmihpmmkkklpfaaGreatDoor
