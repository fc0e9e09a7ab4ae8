import Derived.Test.YtphofgnehdlafaaGreatDoorEc
import Derived.Deep.LoopGhost
namespace Go.Proofs.YtphofgnehdlafaaGreatDoor
open Go Go.RowKit
open Pkt (Pk Cn Sl In By Is Ss As pkCells Gd box_below Right TT sumN)
set_option linter.unusedSimpArgs false
set_option linter.unusedVariables false
set_option maxRecDepth 100000
set_option maxHeartbeats 4000000
theorem fields_1 (hw hu hp : Bool) (level : Int) (clean : Bool) (keep : Int) (client : ByteArray) (wT : ByteArray) (wa : Option Addr) (wn wc : Nat) (wQ : Int) (wR : Bool) (user : ByteArray) (pa : Option Addr) (pn pc : Nat) (present : Bool) (code : Int) (dup : Bool) (mT : ByteArray) (ma : Option Addr) (mn mc : Nat) (mQ : Int) (mR : Bool) (id : Int) (aa : Option Addr) (an ac : Nat) (ca : Option Addr) (cn cc : Nat) (fa : Option Addr) (fn fc : Nat) (c : Cn) (w : World) (hin : In w (⟨1, level, clean, keep, client, hw, wT, ⟨wa, wn, wc⟩, wQ, wR, hu, user, hp, ⟨pa, pn, pc⟩, present, code, dup, mT, ⟨ma, mn, mc⟩, mQ, mR, id, ⟨aa, an, ac⟩, ⟨ca, cn, cc⟩, ⟨fa, fn, fc⟩⟩ : Pk) c) (hC : client.size ≤ 65535 ∧ (chk client).2 = 0) (hZ : client.size ≤ 65535 ∧ wT.size ≤ 65535 ∧ user.size ≤ 65535 ∧ wn ≤ 65535 ∧ pn ≤ 65535) (hQ : wQ = 0 ∨ wQ = 1 ∨ wQ = 2) (hT : hw = true → wT.size ≤ 65535 ∧ (chk wT).2 = 0) (nW : Pkt.Nil ⟨wa, wn, wc⟩) (hU : user.size ≤ 65535 ∧ (chk user).2 = 0) (nP : Pkt.Nil ⟨pa, pn, pc⟩) :
    Calls Tryz.prog 99 #[.agg #[.int .i64 1, .int .i64 level, .bool clean, .int .i64 keep, .string client, .bool hw, .string wT, .slice wa wn wc, .int .i64 wQ, .bool wR, .bool hu, .string user, .bool hp, .slice pa pn pc, .bool present, .int .i64 code, .bool dup, .string mT, .slice ma mn mc, .int .i64 mQ, .bool mR, .int .i64 id, .slice aa an ac, .slice ca cn cc, .slice fa fn fc]] w fun e w' => Fd3 w w' e (connL ⟨1, level, clean, keep, client, hw, wT, ⟨wa, wn, wc⟩, wQ, wR, hu, user, hp, ⟨pa, pn, pc⟩, present, code, dup, mT, ⟨ma, mn, mc⟩, mQ, mR, id, ⟨aa, an, ac⟩, ⟨ca, cn, cc⟩, ⟨fa, fn, fc⟩⟩ c.wz c.pz) := by
  obtain ⟨W, hW⟩ : ∃ W, W = w.alloc (.cells #[.int .i64 1, .int .i64 level, .bool clean, .int .i64 keep, .string client, .bool hw, .string wT, .slice wa wn wc, .int .i64 wQ, .bool wR, .bool hu, .string user, .bool hp, .slice pa pn pc, .bool present, .int .i64 code, .bool dup, .string mT, .slice ma mn mc, .int .i64 mQ, .bool mR, .int .i64 id, .slice aa an ac, .slice ca cn cc, .slice fa fn fc] 29) := ⟨_, rfl⟩
  have b0 : Hid (Below w.heap.size w W) := box_below hW
  have g0 : Hid (W.heap[w.heap.size]? = some (.cells #[.int .i64 1, .int .i64 level, .bool clean, .int .i64 keep, .string client, .bool hw, .string wT, .slice wa wn wc, .int .i64 wQ, .bool wR, .bool hu, .string user, .bool hp, .slice pa pn pc, .bool present, .int .i64 code, .bool dup, .string mT, .slice ma mn mc, .int .i64 mQ, .bool mR, .int .i64 id, .slice aa an ac, .slice ca cn cc, .slice fa fn fc] 29)) := by show _ = _; rw [hW]; exact heap_alloc_new w _
  have KC := hidx (show ∀ w', Below W.heap.size W w' → w'.cell? ⟨w.heap.size, 0, none⟩ = some (.int .i64 1) ∧ w'.cell? ⟨w.heap.size, 1, none⟩ = some (.int .i64 level) ∧ w'.cell? ⟨w.heap.size, 2, none⟩ = some (.bool clean) ∧ w'.cell? ⟨w.heap.size, 3, none⟩ = some (.int .i64 keep) ∧ w'.cell? ⟨w.heap.size, 4, none⟩ = some (.string client) ∧ w'.cell? ⟨w.heap.size, 5, none⟩ = some (.bool hw) ∧ w'.cell? ⟨w.heap.size, 6, none⟩ = some (.string wT) ∧ w'.cell? ⟨w.heap.size, 7, none⟩ = some (.slice wa wn wc) ∧ w'.cell? ⟨w.heap.size, 8, none⟩ = some (.int .i64 wQ) ∧ w'.cell? ⟨w.heap.size, 9, none⟩ = some (.bool wR) ∧ w'.cell? ⟨w.heap.size, 10, none⟩ = some (.bool hu) ∧ w'.cell? ⟨w.heap.size, 11, none⟩ = some (.string user) ∧ w'.cell? ⟨w.heap.size, 12, none⟩ = some (.bool hp) ∧ w'.cell? ⟨w.heap.size, 13, none⟩ = some (.slice pa pn pc) from fun w' hb => by have y := later_e g0.out hb; exact ⟨box_cells y 0 _ rfl, box_cells y 1 _ rfl, box_cells y 2 _ rfl, box_cells y 3 _ rfl, box_cells y 4 _ rfl, box_cells y 5 _ rfl, box_cells y 6 _ rfl, box_cells y 7 _ rfl, box_cells y 8 _ rfl, box_cells y 9 _ rfl, box_cells y 10 _ rfl, box_cells y 11 _ rfl, box_cells y 12 _ rfl, box_cells y 13 _ rfl⟩)
  have IN := hidx (fun (w' : World) (hb : Below W.heap.size W w') => hin.below (b0.out.trans (hb.mono b0.out.size)))
  have BE := hidx (Below.refl W.heap.size W)
  obtain ⟨n0, x0, hn0, hx0⟩ : ∃ (n0 : Nat) (x0 : List Value), n0 = 0 ∧ x0 = [] := ⟨_, _, rfl, rfl⟩
  have OW := hidx (show W.ownsRow W.heap.size 5 1 (.slice none 0 0) n0 x0 from by rw [hn0, hx0]; exact ⟨rfl, .inl ⟨rfl, rfl⟩⟩)
  have NE := hidx hn0
  have EQ := hidx hx0
  clear hn0 hx0
  obtain ⟨k0, k1, k2, k3, k4, k5, k6, k7, k8, k9, k10, k11, k12, k13⟩ := KC.out _ BE.out
  have VN := hidx True.intro
  have HC := hidx hC
  have SZ := hidx (And.intro (show mq.size ≤ 65535 from by decide) hZ)
  have HQ := hidx hQ
  have HT := hidx hT
  have HWN := hidx hZ.2.2.2.1
  have NW := hidx nW
  have HU := hidx hU
  have HPN := hidx hZ.2.2.2.2
  have NP := hidx nP
  have HMQ := hidx (And.intro (show mq.size ≤ 65535 from by decide) mq_ok)
  obtain ⟨m1, hm1⟩ : ∃ x : Int, x = mkU hu 128 := ⟨_, rfl⟩
  have bm1 := mkU_bd hu 128 (by decide)
  rw [← hm1] at bm1
  have Hm1 := hidx hm1
  have Cm1 := hidx (fun w' => (show Calls Tryz.prog 162 #[.bool hu, .int .i64 128] w' fun e w'' => e = .returned (.int .i64 m1) ∧ w'' = w' from by rw [hm1]; exact bit_any hu 128 w'))
  clear hm1
  obtain ⟨m2, hm2⟩ : ∃ x : Int, x = mkU hp 64 := ⟨_, rfl⟩
  have bm2 := mkU_bd hp 64 (by decide)
  rw [← hm2] at bm2
  have Hm2 := hidx hm2
  have Cm2 := hidx (fun w' => (show Calls Tryz.prog 162 #[.bool hp, .int .i64 64] w' fun e w'' => e = .returned (.int .i64 m2) ∧ w'' = w' from by rw [hm2]; exact bit_any hp 64 w'))
  clear hm2
  obtain ⟨m3, hm3⟩ : ∃ x : Int, x = mkU wR 32 := ⟨_, rfl⟩
  have bm3 := mkU_bd wR 32 (by decide)
  rw [← hm3] at bm3
  have Hm3 := hidx hm3
  have Cm3 := hidx (fun w' => (show Calls Tryz.prog 162 #[.bool wR, .int .i64 32] w' fun e w'' => e = .returned (.int .i64 m3) ∧ w'' = w' from by rw [hm3]; exact bit_any wR 32 w'))
  clear hm3
  obtain ⟨m4, hm4⟩ : ∃ x : Int, x = mkU hw 4 := ⟨_, rfl⟩
  have bm4 := mkU_bd hw 4 (by decide)
  rw [← hm4] at bm4
  have Hm4 := hidx hm4
  have Cm4 := hidx (fun w' => (show Calls Tryz.prog 162 #[.bool hw, .int .i64 4] w' fun e w'' => e = .returned (.int .i64 m4) ∧ w'' = w' from by rw [hm4]; exact bit_any hw 4 w'))
  clear hm4
  obtain ⟨m5, hm5⟩ : ∃ x : Int, x = mkU clean 2 := ⟨_, rfl⟩
  have bm5 := mkU_bd clean 2 (by decide)
  rw [← hm5] at bm5
  have Hm5 := hidx hm5
  have Cm5 := hidx (fun w' => (show Calls Tryz.prog 162 #[.bool clean, .int .i64 2] w' fun e w'' => e = .returned (.int .i64 m5) ∧ w'' = w' from by rw [hm5]; exact bit_any clean 2 w'))
  clear hm5
  have hw0 : IntKind.i64.wrap (m1 + m2) = m1 + m2 := by rw [IntKind.wrap_i64]; omega
  have hw1 : IntKind.i64.wrap (m1 + m2 + m3) = m1 + m2 + m3 := by rw [IntKind.wrap_i64]; omega
  have hw2 : IntKind.i64.wrap (m1 + m2 + m3 + 8 * wQ) = m1 + m2 + m3 + 8 * wQ := by rw [IntKind.wrap_i64]; omega
  have hw3 : IntKind.i64.wrap (m1 + m2 + m3 + 8 * wQ + m4) = m1 + m2 + m3 + 8 * wQ + m4 := by rw [IntKind.wrap_i64]; omega
  have hw4 : IntKind.i64.wrap (m1 + m2 + m3 + 8 * wQ + m4 + m5) = m1 + m2 + m3 + 8 * wQ + m4 + m5 := by rw [IntKind.wrap_i64]; omega
  have hw8 : IntKind.i64.wrap (8 * wQ) = 8 * wQ := by rw [IntKind.wrap_i64]; omega
  have hw9 : IntKind.u8.wrap (m1 + m2 + m3 + 8 * wQ + m4 + m5) = m1 + m2 + m3 + 8 * wQ + m4 + m5 := by rw [IntKind.wrap_u8]; omega
  have HBS := hidx (And.intro bm1 (And.intro bm2 (And.intro bm3 (And.intro bm4 bm5))))
  clear bm1 bm2 bm3 bm4 bm5
  clear hin hC hZ hQ hT nW hU nP
  go_enter Tryz.func99, Tryz.ntmps99
  go_upto_region 1 with fail
  rw [← hW]
  clear hW
  go_wp2_with (first | (go_at_call 161; refine (words3_any mq _ HMQ.out.1 HMQ.out.2).mono ?_; rintro e wq ⟨gq, cq, rfl, hyq, hbq⟩; replace OW := hidx (own_below OW.out hbq); replace BE := hidx (BE.out.trans (hbq.mono BE.out.size)); have YY := hidx hyq; clear hyq hbq k0 k1 k2 k3 k4 k5 k6 k7 k8 k9 k10 k11 k12 k13; obtain ⟨k0, k1, k2, k3, k4, k5, k6, k7, k8, k9, k10, k11, k12, k13⟩ := KC.out _ BE.out) | (at_builtin; refine wpList_otE rfl _ _ rfl _ _ _ _ rfl OW.out _ _ (.inr (by simp only; omega)) rfl YY.out (by have := SZ.out; have := NE.out; omega) (by have := SZ.out; simp only; omega) BE.out.size ?_; intro vq wq mq_ yq hm hy ho hv hb; replace NE := hidx (hm.trans (congrArg (· + _) NE.out)); replace EQ := hidx (hy.trans (congrArg (· ++ _) EQ.out)); (try dsimp only at NE EQ); replace OW := hidx ho; replace VN := hidx hv; replace BE := hidx (BE.out.trans hb); clear hm hy ho hv hb YY k0 k1 k2 k3 k4 k5 k6 k7 k8 k9 k10 k11 k12 k13; obtain ⟨k0, k1, k2, k3, k4, k5, k6, k7, k8, k9, k10, k11, k12, k13⟩ := KC.out _ BE.out))
  refine wp_region_held_drew (S := fun w' => w'.cell? ⟨w.heap.size, 1, none⟩ = some (.int .i64 level) ∧ w'.cell? ⟨w.heap.size, 2, none⟩ = some (.bool clean) ∧ w'.cell? ⟨w.heap.size, 5, none⟩ = some (.bool hw) ∧ w'.cell? ⟨w.heap.size, 8, none⟩ = some (.int .i64 wQ) ∧ w'.cell? ⟨w.heap.size, 9, none⟩ = some (.bool wR) ∧ w'.cell? ⟨w.heap.size, 10, none⟩ = some (.bool hu) ∧ w'.cell? ⟨w.heap.size, 12, none⟩ = some (.bool hp)) (by kernel_rfl) ⟨k1, k2, k5, k8, k9, k10, k12⟩ (fun hHeld => ?_)
  change wpAnyH _ _ _ _ _ 33 #[false, false, false, false, false, false, false, false, false, false, false, false, false, false, false, false, false, false, false, false, false, false, false, false, false, false, false, false, false, false, false, false, false] _ (World.drew _)
  refine wpAnyH_take (i := 0) (oi := { dst := Option.some 76, op := Go.Op.move (Go.Operand.tmp 3), type := 22, pos := "crierref3.go:59", after := #[], guard := Option.none }) (v := vq) rfl (by kernel_rfl) (by kernel_rfl) (by kernel_rfl) (fun _ _ _ h => h) (Or.inl ⟨by kernel_rfl, by intro wq hSw; clear hSw hHeld; go_simp⟩) hHeld ?_
  simp only [Act.put, List.setIfInBounds_toArray, List.set_cons_zero, List.set_cons_succ]
  refine wpAnyH_take (i := 1) (oi := { dst := Option.some 77, op := Go.Op.fieldAddr 29 (Go.Operand.tmp 1) 1, type := 0, pos := "crierref3.go:59", after := #[], guard := Option.none }) (v := .pointer (some ⟨w.heap.size, 1, none⟩)) rfl (by kernel_rfl) (by kernel_rfl) (by kernel_rfl) (fun _ _ _ h => h) (Or.inl ⟨by kernel_rfl, by intro wq hSw; clear hSw hHeld; go_simp⟩) hHeld ?_
  simp only [Act.put, List.setIfInBounds_toArray, List.set_cons_zero, List.set_cons_succ]
  refine wpAnyH_take (i := 2) (oi := { dst := Option.some 78, op := Go.Op.load 3 (Go.Operand.tmp 77), type := 3, pos := "crierref3.go:59", after := #[{ on := 1, ground := Go.Ground.data }], guard := Option.none }) (v := .int .i64 level) rfl (by kernel_rfl) (by kernel_rfl) (by kernel_rfl) (fun _ _ _ h => h) (Or.inl ⟨by kernel_rfl, by intro wq hSw; have hq := hSw.1; clear hSw hHeld; go_simp⟩) hHeld ?_
  simp only [Act.put, List.setIfInBounds_toArray, List.set_cons_zero, List.set_cons_succ]
  refine wpAnyH_take (i := 3) (oi := { dst := Option.some 79, op := Go.Op.convert 3 5 (Go.Operand.tmp 78), type := 5, pos := "crierref3.go:59", after := #[{ on := 2, ground := Go.Ground.data }], guard := Option.none }) (v := .int .u8 (IntKind.u8.wrap level)) rfl (by kernel_rfl) (by kernel_rfl) (by kernel_rfl) (fun _ _ _ h => h) (Or.inl ⟨by kernel_rfl, by intro wq hSw; clear hSw hHeld; go_simp⟩) hHeld ?_
  simp only [Act.put, List.setIfInBounds_toArray, List.set_cons_zero, List.set_cons_succ]
  refine wpAnyH_take (i := 4) (oi := { dst := Option.some 80, op := Go.Op.fieldAddr 29 (Go.Operand.tmp 1) 7, type := 0, pos := "crierref3.go:59", after := #[], guard := Option.none }) (v := .pointer (some ⟨w.heap.size, 10, none⟩)) rfl (by kernel_rfl) (by kernel_rfl) (by kernel_rfl) (fun _ _ _ h => h) (Or.inl ⟨by kernel_rfl, by intro wq hSw; clear hSw hHeld; go_simp⟩) hHeld ?_
  simp only [Act.put, List.setIfInBounds_toArray, List.set_cons_zero, List.set_cons_succ]
  refine wpAnyH_take (i := 5) (oi := { dst := Option.some 81, op := Go.Op.load 4 (Go.Operand.tmp 80), type := 4, pos := "crierref3.go:59", after := #[{ on := 4, ground := Go.Ground.data }], guard := Option.none }) (v := .bool hu) rfl (by kernel_rfl) (by kernel_rfl) (by kernel_rfl) (fun _ _ _ h => h) (Or.inl ⟨by kernel_rfl, by intro wq hSw; have hq := hSw.2.2.2.2.2.1; clear hSw hHeld; go_simp⟩) hHeld ?_
  simp only [Act.put, List.setIfInBounds_toArray, List.set_cons_zero, List.set_cons_succ]
  refine wpAnyH_take (i := 7) (oi := { dst := Option.some 83, op := Go.Op.fieldAddr 29 (Go.Operand.tmp 1) 9, type := 0, pos := "crierref3.go:59", after := #[], guard := Option.none }) (v := .pointer (some ⟨w.heap.size, 12, none⟩)) rfl (by kernel_rfl) (by kernel_rfl) (by kernel_rfl) (fun _ _ _ h => h) (Or.inl ⟨by kernel_rfl, by intro wq hSw; clear hSw hHeld; go_simp⟩) hHeld ?_
  simp only [Act.put, List.setIfInBounds_toArray, List.set_cons_zero, List.set_cons_succ]
  refine wpAnyH_take (i := 8) (oi := { dst := Option.some 84, op := Go.Op.load 4 (Go.Operand.tmp 83), type := 4, pos := "crierref3.go:59", after := #[{ on := 7, ground := Go.Ground.data }], guard := Option.none }) (v := .bool hp) rfl (by kernel_rfl) (by kernel_rfl) (by kernel_rfl) (fun _ _ _ h => h) (Or.inl ⟨by kernel_rfl, by intro wq hSw; have hq := hSw.2.2.2.2.2.2; clear hSw hHeld; go_simp⟩) hHeld ?_
  simp only [Act.put, List.setIfInBounds_toArray, List.set_cons_zero, List.set_cons_succ]
  refine wpAnyH_take (i := 11) (oi := { dst := Option.some 87, op := Go.Op.fieldAddr 29 (Go.Operand.tmp 1) 6, type := 0, pos := "crierref3.go:59", after := #[], guard := Option.none }) (v := .pointer (some ⟨w.heap.size, 6, none⟩)) rfl (by kernel_rfl) (by kernel_rfl) (by kernel_rfl) (fun _ _ _ h => h) (Or.inl ⟨by kernel_rfl, by intro wq hSw; clear hSw hHeld; go_simp⟩) hHeld ?_
  simp only [Act.put, List.setIfInBounds_toArray, List.set_cons_zero, List.set_cons_succ]
  refine wpAnyH_take (i := 12) (oi := { dst := Option.some 88, op := Go.Op.fieldAddr 24 (Go.Operand.tmp 87) 3, type := 0, pos := "crierref3.go:59", after := #[{ on := 11, ground := Go.Ground.data }], guard := Option.none }) (v := .pointer (some ⟨w.heap.size, 9, none⟩)) rfl (by kernel_rfl) (by kernel_rfl) (by kernel_rfl) (fun _ _ _ h => h) (Or.inl ⟨by kernel_rfl, by intro wq hSw; clear hSw hHeld; go_simp⟩) hHeld ?_
  simp only [Act.put, List.setIfInBounds_toArray, List.set_cons_zero, List.set_cons_succ]
  refine wpAnyH_take (i := 13) (oi := { dst := Option.some 89, op := Go.Op.load 4 (Go.Operand.tmp 88), type := 4, pos := "crierref3.go:59", after := #[{ on := 12, ground := Go.Ground.data }], guard := Option.none }) (v := .bool wR) rfl (by kernel_rfl) (by kernel_rfl) (by kernel_rfl) (fun _ _ _ h => h) (Or.inl ⟨by kernel_rfl, by intro wq hSw; have hq := hSw.2.2.2.2.1; clear hSw hHeld; go_simp⟩) hHeld ?_
  simp only [Act.put, List.setIfInBounds_toArray, List.set_cons_zero, List.set_cons_succ]
  refine wpAnyH_take (i := 16) (oi := { dst := Option.some 92, op := Go.Op.fieldAddr 29 (Go.Operand.tmp 1) 6, type := 0, pos := "crierref3.go:59", after := #[], guard := Option.none }) (v := .pointer (some ⟨w.heap.size, 6, none⟩)) rfl (by kernel_rfl) (by kernel_rfl) (by kernel_rfl) (fun _ _ _ h => h) (Or.inl ⟨by kernel_rfl, by intro wq hSw; clear hSw hHeld; go_simp⟩) hHeld ?_
  simp only [Act.put, List.setIfInBounds_toArray, List.set_cons_zero, List.set_cons_succ]
  refine wpAnyH_take (i := 17) (oi := { dst := Option.some 93, op := Go.Op.fieldAddr 24 (Go.Operand.tmp 92) 2, type := 0, pos := "crierref3.go:59", after := #[{ on := 16, ground := Go.Ground.data }], guard := Option.none }) (v := .pointer (some ⟨w.heap.size, 8, none⟩)) rfl (by kernel_rfl) (by kernel_rfl) (by kernel_rfl) (fun _ _ _ h => h) (Or.inl ⟨by kernel_rfl, by intro wq hSw; clear hSw hHeld; go_simp⟩) hHeld ?_
  simp only [Act.put, List.setIfInBounds_toArray, List.set_cons_zero, List.set_cons_succ]
  refine wpAnyH_take (i := 18) (oi := { dst := Option.some 94, op := Go.Op.load 3 (Go.Operand.tmp 93), type := 3, pos := "crierref3.go:59", after := #[{ on := 17, ground := Go.Ground.data }], guard := Option.none }) (v := .int .i64 wQ) rfl (by kernel_rfl) (by kernel_rfl) (by kernel_rfl) (fun _ _ _ h => h) (Or.inl ⟨by kernel_rfl, by intro wq hSw; have hq := hSw.2.2.2.1; clear hSw hHeld; go_simp⟩) hHeld ?_
  simp only [Act.put, List.setIfInBounds_toArray, List.set_cons_zero, List.set_cons_succ]
  refine wpAnyH_take (i := 19) (oi := { dst := Option.some 95, op := Go.Op.binOp Go.BinOp.mul 3 (Go.Operand.const (Go.Value.int Go.IntKind.i64 8)) (Go.Operand.tmp 94) 3, type := 3, pos := "crierref3.go:59", after := #[{ on := 18, ground := Go.Ground.data }], guard := Option.none }) (v := .int .i64 (8 * wQ)) rfl (by kernel_rfl) (by kernel_rfl) (by kernel_rfl) (fun _ _ _ h => h) (Or.inl ⟨by kernel_rfl, by intro wq hSw; clear hSw hHeld; go_simp⟩) hHeld ?_
  simp only [Act.put, List.setIfInBounds_toArray, List.set_cons_zero, List.set_cons_succ]
  refine wpAnyH_take (i := 21) (oi := { dst := Option.some 97, op := Go.Op.fieldAddr 29 (Go.Operand.tmp 1) 5, type := 0, pos := "crierref3.go:59", after := #[], guard := Option.none }) (v := .pointer (some ⟨w.heap.size, 5, none⟩)) rfl (by kernel_rfl) (by kernel_rfl) (by kernel_rfl) (fun _ _ _ h => h) (Or.inl ⟨by kernel_rfl, by intro wq hSw; clear hSw hHeld; go_simp⟩) hHeld ?_
  simp only [Act.put, List.setIfInBounds_toArray, List.set_cons_zero, List.set_cons_succ]
  refine wpAnyH_take (i := 22) (oi := { dst := Option.some 98, op := Go.Op.load 4 (Go.Operand.tmp 97), type := 4, pos := "crierref3.go:59", after := #[{ on := 21, ground := Go.Ground.data }], guard := Option.none }) (v := .bool hw) rfl (by kernel_rfl) (by kernel_rfl) (by kernel_rfl) (fun _ _ _ h => h) (Or.inl ⟨by kernel_rfl, by intro wq hSw; have hq := hSw.2.2.1; clear hSw hHeld; go_simp⟩) hHeld ?_
  simp only [Act.put, List.setIfInBounds_toArray, List.set_cons_zero, List.set_cons_succ]
  refine wpAnyH_take (i := 25) (oi := { dst := Option.some 101, op := Go.Op.fieldAddr 29 (Go.Operand.tmp 1) 2, type := 0, pos := "crierref3.go:59", after := #[], guard := Option.none }) (v := .pointer (some ⟨w.heap.size, 2, none⟩)) rfl (by kernel_rfl) (by kernel_rfl) (by kernel_rfl) (fun _ _ _ h => h) (Or.inl ⟨by kernel_rfl, by intro wq hSw; clear hSw hHeld; go_simp⟩) hHeld ?_
  simp only [Act.put, List.setIfInBounds_toArray, List.set_cons_zero, List.set_cons_succ]
  refine wpAnyH_take (i := 26) (oi := { dst := Option.some 102, op := Go.Op.load 4 (Go.Operand.tmp 101), type := 4, pos := "crierref3.go:59", after := #[{ on := 25, ground := Go.Ground.data }], guard := Option.none }) (v := .bool clean) rfl (by kernel_rfl) (by kernel_rfl) (by kernel_rfl) (fun _ _ _ h => h) (Or.inl ⟨by kernel_rfl, by intro wq hSw; have hq := hSw.2.1; clear hSw hHeld; go_simp⟩) hHeld ?_
  simp only [Act.put, List.setIfInBounds_toArray, List.set_cons_zero, List.set_cons_succ]
  refine wpAnyH_ready (rs := [6]) (by kernel_rfl) (by simp) ?_
  refine AllReadyH.cons (o := { dst := Option.some 82, op := Go.Op.call { callee := Go.Callee.value (Go.Operand.func 162), args := #[Go.Operand.tmp 81, Go.Operand.const (Go.Value.int Go.IntKind.i64 128)], argTypes := #[4, 3] }, type := 3, pos := "crierref3.go:59", after := #[{ on := 5, ground := Go.Ground.data }], guard := Option.none }) (by rfl) (fun K hK => ?_) AllReadyH.nil
  go_simp
  go_wp2_with (go_at_call 162; refine (Cm1.out _).mono ?_; rintro e wq2 ⟨rfl, hq⟩; subst hq)
  refine hK.out _ _ ⟨k1, k2, k5, k8, k9, k10, k12⟩ (fun hHeld => ?_)
  clear hK K
  (try simp only [Act.put, List.setIfInBounds_toArray, List.set_cons_zero, List.set_cons_succ])
  refine wpAnyH_ready (rs := [9]) (by kernel_rfl) (by simp) ?_
  refine AllReadyH.cons (o := { dst := Option.some 85, op := Go.Op.call { callee := Go.Callee.value (Go.Operand.func 162), args := #[Go.Operand.tmp 84, Go.Operand.const (Go.Value.int Go.IntKind.i64 64)], argTypes := #[4, 3] }, type := 3, pos := "crierref3.go:59", after := #[{ on := 8, ground := Go.Ground.data }, { on := 6, ground := Go.Ground.chain }], guard := Option.none }) (by rfl) (fun K hK => ?_) AllReadyH.nil
  go_simp
  go_wp2_with (go_at_call 162; refine (Cm2.out _).mono ?_; rintro e wq2 ⟨rfl, hq⟩; subst hq)
  refine hK.out _ _ ⟨k1, k2, k5, k8, k9, k10, k12⟩ (fun hHeld => ?_)
  clear hK K
  (try simp only [Act.put, List.setIfInBounds_toArray, List.set_cons_zero, List.set_cons_succ])
  refine wpAnyH_take (i := 10) (oi := { dst := Option.some 86, op := Go.Op.binOp Go.BinOp.add 3 (Go.Operand.tmp 82) (Go.Operand.tmp 85) 3, type := 3, pos := "crierref3.go:59", after := #[{ on := 6, ground := Go.Ground.data }, { on := 9, ground := Go.Ground.data }], guard := Option.none }) (v := .int .i64 (m1 + m2)) rfl (by kernel_rfl) (by kernel_rfl) (by kernel_rfl) (fun _ _ _ h => h) (Or.inl ⟨by kernel_rfl, by intro wq hSw; clear hSw hHeld; go_simp⟩) hHeld ?_
  simp only [Act.put, List.setIfInBounds_toArray, List.set_cons_zero, List.set_cons_succ]
  refine wpAnyH_ready (rs := [14]) (by kernel_rfl) (by simp) ?_
  refine AllReadyH.cons (o := { dst := Option.some 90, op := Go.Op.call { callee := Go.Callee.value (Go.Operand.func 162), args := #[Go.Operand.tmp 89, Go.Operand.const (Go.Value.int Go.IntKind.i64 32)], argTypes := #[4, 3] }, type := 3, pos := "crierref3.go:59", after := #[{ on := 13, ground := Go.Ground.data }, { on := 9, ground := Go.Ground.chain }], guard := Option.none }) (by rfl) (fun K hK => ?_) AllReadyH.nil
  go_simp
  go_wp2_with (go_at_call 162; refine (Cm3.out _).mono ?_; rintro e wq2 ⟨rfl, hq⟩; subst hq)
  refine hK.out _ _ ⟨k1, k2, k5, k8, k9, k10, k12⟩ (fun hHeld => ?_)
  clear hK K
  (try simp only [Act.put, List.setIfInBounds_toArray, List.set_cons_zero, List.set_cons_succ])
  refine wpAnyH_take (i := 15) (oi := { dst := Option.some 91, op := Go.Op.binOp Go.BinOp.add 3 (Go.Operand.tmp 86) (Go.Operand.tmp 90) 3, type := 3, pos := "crierref3.go:59", after := #[{ on := 10, ground := Go.Ground.data }, { on := 14, ground := Go.Ground.data }], guard := Option.none }) (v := .int .i64 (m1 + m2 + m3)) rfl (by kernel_rfl) (by kernel_rfl) (by kernel_rfl) (fun _ _ _ h => h) (Or.inl ⟨by kernel_rfl, by intro wq hSw; clear hSw hHeld; go_simp⟩) hHeld ?_
  simp only [Act.put, List.setIfInBounds_toArray, List.set_cons_zero, List.set_cons_succ]
  refine wpAnyH_take (i := 20) (oi := { dst := Option.some 96, op := Go.Op.binOp Go.BinOp.add 3 (Go.Operand.tmp 91) (Go.Operand.tmp 95) 3, type := 3, pos := "crierref3.go:59", after := #[{ on := 15, ground := Go.Ground.data }, { on := 19, ground := Go.Ground.data }], guard := Option.none }) (v := .int .i64 (m1 + m2 + m3 + 8 * wQ)) rfl (by kernel_rfl) (by kernel_rfl) (by kernel_rfl) (fun _ _ _ h => h) (Or.inl ⟨by kernel_rfl, by intro wq hSw; clear hSw hHeld; go_simp⟩) hHeld ?_
  simp only [Act.put, List.setIfInBounds_toArray, List.set_cons_zero, List.set_cons_succ]
  refine wpAnyH_ready (rs := [23]) (by kernel_rfl) (by simp) ?_
  refine AllReadyH.cons (o := { dst := Option.some 99, op := Go.Op.call { callee := Go.Callee.value (Go.Operand.func 162), args := #[Go.Operand.tmp 98, Go.Operand.const (Go.Value.int Go.IntKind.i64 4)], argTypes := #[4, 3] }, type := 3, pos := "crierref3.go:59", after := #[{ on := 22, ground := Go.Ground.data }, { on := 14, ground := Go.Ground.chain }], guard := Option.none }) (by rfl) (fun K hK => ?_) AllReadyH.nil
  go_simp
  go_wp2_with (go_at_call 162; refine (Cm4.out _).mono ?_; rintro e wq2 ⟨rfl, hq⟩; subst hq)
  refine hK.out _ _ ⟨k1, k2, k5, k8, k9, k10, k12⟩ (fun hHeld => ?_)
  clear hK K
  (try simp only [Act.put, List.setIfInBounds_toArray, List.set_cons_zero, List.set_cons_succ])
  refine wpAnyH_take (i := 24) (oi := { dst := Option.some 100, op := Go.Op.binOp Go.BinOp.add 3 (Go.Operand.tmp 96) (Go.Operand.tmp 99) 3, type := 3, pos := "crierref3.go:59", after := #[{ on := 20, ground := Go.Ground.data }, { on := 23, ground := Go.Ground.data }], guard := Option.none }) (v := .int .i64 (m1 + m2 + m3 + 8 * wQ + m4)) rfl (by kernel_rfl) (by kernel_rfl) (by kernel_rfl) (fun _ _ _ h => h) (Or.inl ⟨by kernel_rfl, by intro wq hSw; clear hSw hHeld; go_simp⟩) hHeld ?_
  simp only [Act.put, List.setIfInBounds_toArray, List.set_cons_zero, List.set_cons_succ]
  refine wpAnyH_ready (rs := [27]) (by kernel_rfl) (by simp) ?_
  refine AllReadyH.cons (o := { dst := Option.some 103, op := Go.Op.call { callee := Go.Callee.value (Go.Operand.func 162), args := #[Go.Operand.tmp 102, Go.Operand.const (Go.Value.int Go.IntKind.i64 2)], argTypes := #[4, 3] }, type := 3, pos := "crierref3.go:59", after := #[{ on := 26, ground := Go.Ground.data }, { on := 23, ground := Go.Ground.chain }], guard := Option.none }) (by rfl) (fun K hK => ?_) AllReadyH.nil
  go_simp
  go_wp2_with (go_at_call 162; refine (Cm5.out _).mono ?_; rintro e wq2 ⟨rfl, hq⟩; subst hq)
  refine hK.out _ _ ⟨k1, k2, k5, k8, k9, k10, k12⟩ (fun hHeld => ?_)
  clear hK K
  (try simp only [Act.put, List.setIfInBounds_toArray, List.set_cons_zero, List.set_cons_succ])
  refine wpAnyH_take (i := 28) (oi := { dst := Option.some 104, op := Go.Op.binOp Go.BinOp.add 3 (Go.Operand.tmp 100) (Go.Operand.tmp 103) 3, type := 3, pos := "crierref3.go:59", after := #[{ on := 24, ground := Go.Ground.data }, { on := 27, ground := Go.Ground.data }], guard := Option.none }) (v := .int .i64 (m1 + m2 + m3 + 8 * wQ + m4 + m5)) rfl (by kernel_rfl) (by kernel_rfl) (by kernel_rfl) (fun _ _ _ h => h) (Or.inl ⟨by kernel_rfl, by intro wq hSw; clear hSw hHeld; go_simp⟩) hHeld ?_
  simp only [Act.put, List.setIfInBounds_toArray, List.set_cons_zero, List.set_cons_succ]
  refine wpAnyH_take (i := 29) (oi := { dst := Option.some 105, op := Go.Op.convert 3 5 (Go.Operand.tmp 104), type := 5, pos := "crierref3.go:59", after := #[{ on := 28, ground := Go.Ground.data }], guard := Option.none }) (v := .int .u8 (m1 + m2 + m3 + 8 * wQ + m4 + m5)) rfl (by kernel_rfl) (by kernel_rfl) (by kernel_rfl) (fun _ _ _ h => h) (Or.inl ⟨by kernel_rfl, by intro wq hSw; clear hSw hHeld; go_simp⟩) hHeld ?_
  simp only [Act.put, List.setIfInBounds_toArray, List.set_cons_zero, List.set_cons_succ]
  refine wpAnyH_ready (rs := [30]) (by kernel_rfl) (by simp) ?_
  refine AllReadyH.cons (o := { dst := Option.some 106, op := Go.Op.buildSlice 22 2 #[(0, Go.Operand.tmp 79), (1, Go.Operand.tmp 105)], type := 22, pos := "crierref3.go:59", after := #[{ on := 3, ground := Go.Ground.data }, { on := 29, ground := Go.Ground.data }], guard := Option.none }) (by rfl) (fun K hK => ?_) AllReadyH.nil
  go_simp
  have KN := hidx (show (wq.alloc (.cells #[.int .u8 (level % 256), .int .u8 (m1 + m2 + m3 + 8 * wQ + m4 + m5)] 5)).drew.cell? ⟨w.heap.size, 1, none⟩ = some (.int .i64 level) ∧ (wq.alloc (.cells #[.int .u8 (level % 256), .int .u8 (m1 + m2 + m3 + 8 * wQ + m4 + m5)] 5)).drew.cell? ⟨w.heap.size, 2, none⟩ = some (.bool clean) ∧ (wq.alloc (.cells #[.int .u8 (level % 256), .int .u8 (m1 + m2 + m3 + 8 * wQ + m4 + m5)] 5)).drew.cell? ⟨w.heap.size, 5, none⟩ = some (.bool hw) ∧ (wq.alloc (.cells #[.int .u8 (level % 256), .int .u8 (m1 + m2 + m3 + 8 * wQ + m4 + m5)] 5)).drew.cell? ⟨w.heap.size, 8, none⟩ = some (.int .i64 wQ) ∧ (wq.alloc (.cells #[.int .u8 (level % 256), .int .u8 (m1 + m2 + m3 + 8 * wQ + m4 + m5)] 5)).drew.cell? ⟨w.heap.size, 9, none⟩ = some (.bool wR) ∧ (wq.alloc (.cells #[.int .u8 (level % 256), .int .u8 (m1 + m2 + m3 + 8 * wQ + m4 + m5)] 5)).drew.cell? ⟨w.heap.size, 10, none⟩ = some (.bool hu) ∧ (wq.alloc (.cells #[.int .u8 (level % 256), .int .u8 (m1 + m2 + m3 + 8 * wQ + m4 + m5)] 5)).drew.cell? ⟨w.heap.size, 12, none⟩ = some (.bool hp) from by obtain ⟨k0, k1, k2, k3, k4, k5, k6, k7, k8, k9, k10, k11, k12, k13⟩ := KC.out _ (BE.out.trans (((Below.refl _ _).alloc (Nat.le_refl _) _).drew.mono BE.out.size)); exact ⟨k1, k2, k5, k8, k9, k10, k12⟩)
  refine hK.out _ _ KN.out (fun hHeld => ?_)
  clear hK K
  (try simp only [Act.put, List.setIfInBounds_toArray, List.set_cons_zero, List.set_cons_succ])
  refine wpAnyH_ready (rs := [31]) (by kernel_rfl) (by simp) ?_
  refine AllReadyH.cons (o := { dst := Option.some 107, op := Go.Op.call { callee := Go.Callee.builtin Go.Builtin.append, args := #[Go.Operand.tmp 76, Go.Operand.tmp 106], argTypes := #[22, 22] }, type := 22, pos := "crierref3.go:59", after := #[{ on := 0, ground := Go.Ground.data }, { on := 30, ground := Go.Ground.data }, { on := 27, ground := Go.Ground.chain }], guard := Option.none }) (by rfl) (fun K hK => ?_) AllReadyH.nil
  refine step_ot2E rfl (.tmp 76) (.tmp 106) rfl _ _ vq _ (level % 256) (m1 + m2 + m3 + 8 * wQ + m4 + m5) rfl OW.out rfl (by have := SZ.out; have := NE.out; omega) BE.out.size ?_
  intro v2 w2 mm yy hm hy ho hv hb
  replace NE := hidx (hm.trans (congrArg (· + _) NE.out))
  replace EQ := hidx (hy.trans (congrArg (· ++ _) EQ.out))
  (try dsimp only at NE EQ)
  clear hm hy
  replace OW := hidx ho
  replace VN := hidx hv
  replace BE := hidx (BE.out.trans hb)
  refine hK.out _ _ (by obtain ⟨k0, k1, k2, k3, k4, k5, k6, k7, k8, k9, k10, k11, k12, k13⟩ := KC.out _ BE.out; exact ⟨k1, k2, k5, k8, k9, k10, k12⟩) (fun hHeld => ?_)
  clear hK K ho hv hb KN k0 k1 k2 k3 k4 k5 k6 k7 k8 k9 k10 k11 k12 k13
  (try simp only [Act.put, List.setIfInBounds_toArray, List.set_cons_zero, List.set_cons_succ])
  refine wpAnyH_take (i := 32) (oi := { dst := Option.some 3, op := Go.Op.assign (Go.Operand.tmp 107), type := 22, pos := "crierref3.go:59", after := #[{ on := 31, ground := Go.Ground.data }, { on := 31, ground := Go.Ground.chain }, { on := 0, ground := Go.Ground.phase }, { on := 1, ground := Go.Ground.phase }, { on := 2, ground := Go.Ground.phase }, { on := 3, ground := Go.Ground.phase }, { on := 4, ground := Go.Ground.phase }, { on := 5, ground := Go.Ground.phase }, { on := 6, ground := Go.Ground.phase }, { on := 7, ground := Go.Ground.phase }, { on := 8, ground := Go.Ground.phase }, { on := 9, ground := Go.Ground.phase }, { on := 10, ground := Go.Ground.phase }, { on := 11, ground := Go.Ground.phase }, { on := 12, ground := Go.Ground.phase }, { on := 13, ground := Go.Ground.phase }, { on := 14, ground := Go.Ground.phase }, { on := 15, ground := Go.Ground.phase }, { on := 16, ground := Go.Ground.phase }, { on := 17, ground := Go.Ground.phase }, { on := 18, ground := Go.Ground.phase }, { on := 19, ground := Go.Ground.phase }, { on := 20, ground := Go.Ground.phase }, { on := 21, ground := Go.Ground.phase }, { on := 22, ground := Go.Ground.phase }, { on := 23, ground := Go.Ground.phase }, { on := 24, ground := Go.Ground.phase }, { on := 25, ground := Go.Ground.phase }, { on := 26, ground := Go.Ground.phase }, { on := 27, ground := Go.Ground.phase }, { on := 28, ground := Go.Ground.phase }, { on := 29, ground := Go.Ground.phase }, { on := 30, ground := Go.Ground.phase }, { on := 31, ground := Go.Ground.phase }], guard := Option.none }) (v := v2) rfl (by kernel_rfl) (by kernel_rfl) (by kernel_rfl) (fun _ _ _ h => h) (Or.inl ⟨by kernel_rfl, by intro wq hSw; clear hSw hHeld; go_simp⟩) hHeld ?_
  simp only [Act.put, List.setIfInBounds_toArray, List.set_cons_zero, List.set_cons_succ]
  refine wpAnyH_done (by kernel_rfl) ?_ _
  clear hHeld hw0 hw1 hw2 hw3 hw4 hw8 hw9 Cm1 Cm2 Cm3 Cm4 Cm5
  rcases hw with _ | _ <;> rcases hu with _ | _ <;> rcases hp with _ | _
  all_goals
    (try replace HT := hidx (HT.out rfl))
    obtain ⟨k0, k1, k2, k3, k4, k5, k6, k7, k8, k9, k10, k11, k12, k13⟩ := KC.out _ BE.out
    go_wp2_with (first | (go_at_call 163; refine (number3_any _ _).mono ?_; rintro e wq ⟨gq, cq, rfl, hyq, hbq⟩; replace OW := hidx (own_below OW.out hbq); replace BE := hidx (BE.out.trans (hbq.mono BE.out.size)); have YY := hidx hyq; clear hyq hbq k0 k1 k2 k3 k4 k5 k6 k7 k8 k9 k10 k11 k12 k13; obtain ⟨k0, k1, k2, k3, k4, k5, k6, k7, k8, k9, k10, k11, k12, k13⟩ := KC.out _ BE.out) | (go_at_call 161; with_reducible refine (words3_any client _ HC.out.1 HC.out.2).mono ?_; rintro e wq ⟨gq, cq, rfl, hyq, hbq⟩; replace OW := hidx (own_below OW.out hbq); replace BE := hidx (BE.out.trans (hbq.mono BE.out.size)); have YY := hidx hyq; clear hyq hbq k0 k1 k2 k3 k4 k5 k6 k7 k8 k9 k10 k11 k12 k13; obtain ⟨k0, k1, k2, k3, k4, k5, k6, k7, k8, k9, k10, k11, k12, k13⟩ := KC.out _ BE.out) | (go_at_call 161; with_reducible refine (words3_any wT _ HT.out.1 HT.out.2).mono ?_; rintro e wq ⟨gq, cq, rfl, hyq, hbq⟩; replace OW := hidx (own_below OW.out hbq); replace BE := hidx (BE.out.trans (hbq.mono BE.out.size)); have YY := hidx hyq; clear hyq hbq k0 k1 k2 k3 k4 k5 k6 k7 k8 k9 k10 k11 k12 k13; obtain ⟨k0, k1, k2, k3, k4, k5, k6, k7, k8, k9, k10, k11, k12, k13⟩ := KC.out _ BE.out) | (go_at_call 164; with_reducible refine (data3_any wa wn wc _ _ (by_cm (IN.out _ BE.out).wP NW.out) HWN.out).mono ?_; rintro e wq ⟨gq, cq, rfl, hyq, hbq⟩; replace OW := hidx (own_below OW.out hbq); replace BE := hidx (BE.out.trans (hbq.mono BE.out.size)); have YY := hidx hyq; clear hyq hbq k0 k1 k2 k3 k4 k5 k6 k7 k8 k9 k10 k11 k12 k13; obtain ⟨k0, k1, k2, k3, k4, k5, k6, k7, k8, k9, k10, k11, k12, k13⟩ := KC.out _ BE.out) | (go_at_call 161; with_reducible refine (words3_any user _ HU.out.1 HU.out.2).mono ?_; rintro e wq ⟨gq, cq, rfl, hyq, hbq⟩; replace OW := hidx (own_below OW.out hbq); replace BE := hidx (BE.out.trans (hbq.mono BE.out.size)); have YY := hidx hyq; clear hyq hbq k0 k1 k2 k3 k4 k5 k6 k7 k8 k9 k10 k11 k12 k13; obtain ⟨k0, k1, k2, k3, k4, k5, k6, k7, k8, k9, k10, k11, k12, k13⟩ := KC.out _ BE.out) | (go_at_call 164; with_reducible refine (data3_any pa pn pc _ _ (by_cm (IN.out _ BE.out).pass NP.out) HPN.out).mono ?_; rintro e wq ⟨gq, cq, rfl, hyq, hbq⟩; replace OW := hidx (own_below OW.out hbq); replace BE := hidx (BE.out.trans (hbq.mono BE.out.size)); have YY := hidx hyq; clear hyq hbq k0 k1 k2 k3 k4 k5 k6 k7 k8 k9 k10 k11 k12 k13; obtain ⟨k0, k1, k2, k3, k4, k5, k6, k7, k8, k9, k10, k11, k12, k13⟩ := KC.out _ BE.out) | (at_builtin; refine wpList_otE rfl _ _ rfl _ _ _ _ rfl OW.out _ _ (.inr (by simp only; omega)) rfl YY.out (by have := SZ.out; have := NE.out; omega) (by have := SZ.out; simp only; omega) BE.out.size ?_; intro vq wq mq_ yq hm hy ho hv hb; replace NE := hidx (hm.trans (congrArg (· + _) NE.out)); replace EQ := hidx (hy.trans (congrArg (· ++ _) EQ.out)); (try dsimp only at NE EQ); replace OW := hidx ho; replace VN := hidx hv; replace BE := hidx (BE.out.trans hb); clear hm hy ho hv hb YY k0 k1 k2 k3 k4 k5 k6 k7 k8 k9 k10 k11 k12 k13; obtain ⟨k0, k1, k2, k3, k4, k5, k6, k7, k8, k9, k10, k11, k12, k13⟩ := KC.out _ BE.out))
    obtain ⟨a9, n9, c9, rfl, h9⟩ := fd_end b0.out BE.out OW.out VN.out EQ.out
    have H9 := hidx h9
    clear h9 k0 k1 k2 k3 k4 k5 k6 k7 k8 k9 k10 k11 k12 k13
    go_wp2_with fail
    go_ret
    refine ⟨a9, n9, c9, rfl, ?_, H9.out.2⟩
    have t9 := H9.out.1
    rw [Hm1.out, Hm2.out, Hm3.out, Hm4.out, Hm5.out] at t9
    simpa [connL, marksV, tx_cells, dt_cells, List.append_assoc] using t9
end Go.Proofs.YtphofgnehdlafaaGreatDoor
