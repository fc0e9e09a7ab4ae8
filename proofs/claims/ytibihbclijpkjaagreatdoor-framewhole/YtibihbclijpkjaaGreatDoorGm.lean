import Derived.Test.YtibihbclijpkjaaGreatDoorFrn
import Derived.Test.YtibihbclijpkjaaGreatDoorFdz
import Derived.Test.YtibihbclijpkjaaGreatDoorGj
namespace Go.Proofs.YtibihbclijpkjaaGreatDoor
open Go Go.RowKit
open Pkt (Pk Cn Sl In By Is Ss As pkCells Gd KindsAt Small)
set_option linter.unusedSimpArgs false
set_option linter.unusedVariables false

theorem pkRow_at : ∀ (qs : List Pk) (j i : Nat) (q : Pk), qs[j]? = some q → i < 25 → (pkRow qs)[j * 25 + i]? = (pkCells q).toList[i]?
  | [], j, i, q, h, _ => by simp at h
  | q' :: qs, 0, i, q, h, hi => by
    simp at h; subst h
    show ((pkCells q').toList ++ pkRow qs)[0 * 25 + i]? = _
    rw [Nat.zero_mul, Nat.zero_add]
    exact List.getElem?_append_left (by have := pk_size q'; simp; omega)
  | q' :: qs, j + 1, i, q, h, hi => by
    show ((pkCells q').toList ++ pkRow qs)[(j + 1) * 25 + i]? = _
    have hs : (pkCells q').toList.length = 25 := by have := pk_size q'; simpa using this
    rw [List.getElem?_append_right (by rw [hs]; omega), hs, show (j + 1) * 25 + i - 25 = j * 25 + i by omega]
    exact pkRow_at qs j i q (by simpa using h) hi
theorem yields_mid29 {o : Oper} {a : Act} {x : Operand} {g off : Nat} {cs : Array Value} {w : World} (ho : o.op = .load 29 x) (hx : a.eval x = .pointer (some ⟨g, off, none⟩)) (hg : w.rangeAt g off cs.toList ∧ cs.size = 25) :
    (execOp a.eval o).run Tryz.prog w = .ok (.value (.agg cs)) w := by
  have hl : (loadVar 29 ⟨g, off, none⟩).run Tryz.prog w = .ok (.agg cs.toList.toArray) w := run_loadVar_mid w g off 29 cs.toList _ hg.1 Tryz.underlying29 rfl (by rw [Array.length_toList, hg.2]; kernel_rfl)
  rw [Array.toArray_toList] at hl
  unfold execOp
  simp only [ho, hx, Instr.loadAt, Instr.sureAddr, Sem.run_bind, Sem.run_pure, Result.andThen_ok, hl]
theorem neq45 (a b : Int) (w : World) : (binOp .neq 45 (.agg #[.int .i64 a, .int .i64 b]) (.agg #[.int .i64 a, .int .i64 b])).run Tryz.prog w = .ok (.bool false) w := by
  have hu : Tryz.prog.underlying 45 = some (.struct (Tryz.prog.fieldsOf 45)) := by kernel_rfl
  have hp : Tryz.prog.stoodInHeld 45 = false := by kernel_rfl
  rw [run_neq_struct, run_equalIn_agg w 9999 45 _ _ hu hp]
  clear hu hp
  simp only [Program.fieldsOf, Tryz.underlying45]
  go_simp
/-- A row of packets, one of them. -/
theorem row_at {w : World} {B : Nat} {v : Value} {qs : List Pk} {j : Nat} {q : Pk} (h : w.ownsRow B 29 25 v qs.length (pkRow qs)) (hj : qs[j]? = some q) : ∃ g cap, v = .slice (some ⟨g, 0, none⟩) qs.length cap ∧ w.rangeAt g (j * 25) (pkCells q).toList := by
  have hjl : j < qs.length := (List.getElem?_eq_some_iff.1 hj).1
  rcases h.2 with ⟨_, h0⟩ | ⟨g, cap, cur, rfl, _, hg, hnc, _, hcs, ht⟩
  · omega
  · refine ⟨g, cap, rfl, fun i u hu => ?_⟩
    have hi : i < 25 := by have := (List.getElem?_eq_some_iff.1 hu).1; have := pk_size q; simp at *; omega
    have h1 := pkRow_at qs j i q hj hi
    rw [hu, ← ht, List.getElem?_take_of_lt (by have : j * 25 + 25 ≤ qs.length * 25 := by omega
                                               omega)] at h1
    rw [cell_of_row w g (j * 25 + i) cur 29 (0, 0) hg]
    simpa using h1
set_option maxRecDepth 100000 in
set_option maxHeartbeats 4000000 in
theorem same_any {w : World} {xb yb B1 B2 : Nat} {rx ry : Option Nat} {nx ny : Nat → Prop} {L : List (Pk × Cn)} {la le : Int} (hx : HS w xb B1 rx nx L la le) (hy : HS w yb B2 ry ny L la le) (hs : ∀ x ∈ L, Small x.1 x.2) (hL : L.length ≤ 100000) :
    Calls Tryz.prog 25 #[.pointer (some ⟨xb, 0, none⟩), .pointer (some ⟨yb, 0, none⟩)] w fun e w' => e = .returned (.bool true) ∧ Below w.heap.size w w' := by
  obtain ⟨vx, qsx, hax, hox, _, hpx⟩ := hx
  obtain ⟨vy, qsy, hay, hoy, _, hpy⟩ := hy
  have lx := hpx.len
  have ly := hpy.len
  obtain ⟨ax, cx, hvx⟩ : ∃ a c, vx = .slice a L.length c := by
    rcases hox.2 with ⟨h1, h0⟩ | ⟨g, cp, _, h1, _⟩
    · exact ⟨none, 0, by rw [h1, ← lx, h0]⟩
    · exact ⟨_, _, by rw [← lx]; exact h1⟩
  obtain ⟨ay, cy, hvy⟩ : ∃ a c, vy = .slice a L.length c := by
    rcases hoy.2 with ⟨h1, h0⟩ | ⟨g, cp, _, h1, _⟩
    · exact ⟨none, 0, by rw [h1, ← ly, h0]⟩
    · exact ⟨_, _, by rw [← ly]; exact h1⟩
  have AX : Hid (∀ wq, Below w.heap.size w wq → HdAt wq xb vx la le) := fun wq hb => hax.keep (hb.block _ hax.lt)
  have AY : Hid (∀ wq, Below w.heap.size w wq → HdAt wq yb vy la le) := fun wq hb => hay.keep (hb.block _ hay.lt)
  have EL : Hid (∀ j, j < L.length → ∃ (gx gy : Nat) (qx qy : Pk), vx = .slice (some ⟨gx, 0, none⟩) L.length cx ∧ vy = .slice (some ⟨gy, 0, none⟩) L.length cy ∧ (∀ wq, Below w.heap.size w wq → wq.rangeAt gx (j * 25) (pkCells qx).toList ∧ (pkCells qx).size = 25) ∧ (∀ wq, Below w.heap.size w wq → wq.rangeAt gy (j * 25) (pkCells qy).toList ∧ (pkCells qy).size = 25) ∧ ∀ wq, Below w.heap.size w wq → Calls Tryz.prog 19 #[.agg (pkCells qx), .agg (pkCells qy)] wq fun e w' => e = .returned (.bool true) ∧ Hid (Below w.heap.size w w')) := by
    intro j hj
    obtain ⟨qx, hqx⟩ : ∃ q, qsx[j]? = some q := ⟨_, List.getElem?_eq_getElem (by omega)⟩
    obtain ⟨qy, hqy⟩ : ∃ q, qsy[j]? = some q := ⟨_, List.getElem?_eq_getElem (by omega)⟩
    have hl : L[j]? = some L[j] := List.getElem?_eq_getElem hj
    obtain ⟨gx, kx, e1, _⟩ := row_at hox hqx
    obtain ⟨gy, ky, e2, _⟩ := row_at hoy hqy
    have a1 := hpx.at j _ _ hqx hl
    have a2 := hpy.at j _ _ hqy hl
    have bk : ∀ wq, Below w.heap.size w wq → wq.ownsRow B1 29 25 vx qsx.length (pkRow qsx) := fun wq hb => own_keep hox (fun k e => hb.block k (hox.lt k e).2)
    have bk2 : ∀ wq, Below w.heap.size w wq → wq.ownsRow B2 29 25 vy qsy.length (pkRow qsy) := fun wq hb => own_keep hoy (fun k e => hb.block k (hoy.lt k e).2)
    refine ⟨gx, gy, qx, qy, ?_, ?_, fun wq hb => ⟨?_, pk_size _⟩, fun wq hb => ⟨?_, pk_size _⟩, fun wq hb => ?_⟩
    · rw [hvx] at e1 ⊢; injection e1 with q1 q2 q3; rw [q1]
    · rw [hvy] at e2 ⊢; injection e2 with q1 q2 q3; rw [q1]
    · obtain ⟨g, _, e3, hr⟩ := row_at (bk wq hb) hqx
      rw [e3] at e1; injection e1 with q1 q2 q3; injection q1 with q1; injection q1 with q1; subst q1; exact hr
    · obtain ⟨g, _, e3, hr⟩ := row_at (bk2 wq hb) hqy
      rw [e3] at e2; injection e2 with q1 q2 q3; injection q1 with q1; injection q1 with q1; subst q1; exact hr
    · refine (same_alike L[j].1 _ _ L[j].2 wq a1.1 a2.1 (a1.2.below hb) (a2.2.below hb) (hs _ (List.getElem_mem hj))).mono fun e w' ⟨h1, h2⟩ => ⟨h1, below_on hb h2⟩
  have HL : Hid (L.length ≤ 100000) := hL
  subst hvx hvy
  clear hax hay hox hoy hpx hpy lx ly hs hL
  have x0 : w.cell? ⟨xb, 0, none⟩ = some (.slice ax L.length cx) := (AX.out w (Below.refl _ _)).cell 0 _ rfl
  have x1 : w.cell? ⟨xb, 1, none⟩ = some (.int .i64 la) := (AX.out w (Below.refl _ _)).cell 1 _ rfl
  have x2 : w.cell? ⟨xb, 2, none⟩ = some (.int .i64 le) := (AX.out w (Below.refl _ _)).cell 2 _ rfl
  have x3 : w.cell? ⟨xb, 3, none⟩ = some (.bool false) := (AX.out w (Below.refl _ _)).cell 3 _ rfl
  have y0 : w.cell? ⟨yb, 0, none⟩ = some (.slice ay L.length cy) := (AY.out w (Below.refl _ _)).cell 0 _ rfl
  have y1 : w.cell? ⟨yb, 1, none⟩ = some (.int .i64 la) := (AY.out w (Below.refl _ _)).cell 1 _ rfl
  have y2 : w.cell? ⟨yb, 2, none⟩ = some (.int .i64 le) := (AY.out w (Below.refl _ _)).cell 2 _ rfl
  have y3 : w.cell? ⟨yb, 3, none⟩ = some (.bool false) := (AY.out w (Below.refl _ _)).cell 3 _ rfl
  have n45 := neq45 la le
  go_enter Tryz.func25, Tryz.ntmps25
  go_wp2_with fail
  go_quiet (fail)
  have B0 : Hid (Below w.heap.size w (w.drewN nq)) := below_drewN (Below.refl _ _) nq
  clear x0 x1 x2 x3 y0 y1 y2 y3 n45
  go_wp2_with fail
  go_loopg [5] L.length (fun gg s5 wx => ∃ j : Nat, s5 = .int .i64 j ∧ j + gg = L.length ∧ Hid (Below w.heap.size w wx))
  case atStart => exact ⟨0, rfl, by omega, B0⟩
  case round =>
    obtain ⟨j, hs5, hj, BW⟩ := hrel
    subst hs5
    have x0 : wr.cell? ⟨xb, 0, none⟩ = some (.slice ax L.length cx) := (AX.out wr BW.out).cell 0 _ rfl
    by_cases hlt : j < L.length
    · have p0 : (j : Int) < (L.length : Int) := by omega
      go_wp2_with fail
      clear x0
      obtain ⟨gx, gy, qx, qy, ex, ey, hrx, hry, hsm⟩ := EL.out j hlt
      injection ex with ex1 _ _
      injection ey with ey1 _ _
      subst ex1 ey1
      have RX : Hid (∀ wq, Below w.heap.size w wq → wq.rangeAt gx (j * 25) (pkCells qx).toList ∧ (pkCells qx).size = 25) := hrx
      have RY : Hid (∀ wq, Below w.heap.size w wq → wq.rangeAt gy (j * 25) (pkCells qy).toList ∧ (pkCells qy).size = 25) := hry
      have SAME : Hid (∀ wq, Below w.heap.size w wq → Calls Tryz.prog 19 #[.agg (pkCells qx), .agg (pkCells qy)] wq fun e w' => e = .returned (.bool true) ∧ Hid (Below w.heap.size w w')) := hsm
      have CX : Hid (∀ wq, Below w.heap.size w wq → wq.cell? ⟨xb, 0, none⟩ = some (.slice (some ⟨gx, 0, none⟩) L.length cx)) := fun wq hb => (AX.out wq hb).cell 0 _ rfl
      have CY : Hid (∀ wq, Below w.heap.size w wq → wq.cell? ⟨yb, 0, none⟩ = some (.slice (some ⟨gy, 0, none⟩) L.length cy)) := fun wq hb => (AY.out wq hb).cell 0 _ rfl
      clear hrx hry hsm
      have hwj : IntKind.i64.wrap ((j : Int) + 1) = ((j + 1 : Nat) : Int) := by rw [IntKind.wrap_i64]; have := HL.out; omega
      refine wp_region_held_drew (S := fun w' => Hid (Below w.heap.size w w')) (by kernel_rfl) (show Hid _ from BW.out.drew) (fun hHeld => ?_)
      refine wpAnyH_take (i := 0) (oi := { dst := Option.some 49, op := Go.Op.move (Go.Operand.tmp 0), type := 54, pos := "whatfor.go:64", after := #[], guard := Option.none }) (v := .pointer (some ⟨xb, 0, none⟩)) rfl (by kernel_rfl) (by kernel_rfl) (by kernel_rfl) (fun _ _ _ h => h) (Or.inl ⟨by kernel_rfl, fun wq _ => pureVal_run (by kernel_rfl) wq⟩) hHeld ?_
      simp only [Act.put, List.setIfInBounds_toArray, List.set_cons_zero, List.set_cons_succ]
      refine wpAnyH_take (i := 1) (oi := { dst := Option.some 50, op := Go.Op.nilCheck (Go.Operand.tmp 49), type := 0, pos := "whatfor.go:64", after := #[{ on := 0, ground := Go.Ground.data }], guard := Option.none }) (v := .pointer (some ⟨xb, 0, none⟩)) rfl (by kernel_rfl) (by kernel_rfl) (by kernel_rfl) (fun _ _ _ h => h) (Or.inl ⟨by kernel_rfl, by intro wq hSw; clear hSw hHeld; go_simp⟩) hHeld ?_
      simp only [Act.put, List.setIfInBounds_toArray, List.set_cons_zero, List.set_cons_succ]
      refine wpAnyH_take (i := 2) (oi := { dst := Option.some 51, op := Go.Op.fieldAddr 57 (Go.Operand.tmp 50) 0, type := 0, pos := "whatfor.go:64", after := #[{ on := 1, ground := Go.Ground.data }], guard := Option.none }) (v := .pointer (some ⟨xb, 0, none⟩)) rfl (by kernel_rfl) (by kernel_rfl) (by kernel_rfl) (fun _ _ _ h => h) (Or.inl ⟨by kernel_rfl, by intro wq hSw; clear hSw hHeld; go_simp⟩) hHeld ?_
      simp only [Act.put, List.setIfInBounds_toArray, List.set_cons_zero, List.set_cons_succ]
      refine wpAnyH_take (i := 3) (oi := { dst := Option.some 52, op := Go.Op.load 55 (Go.Operand.tmp 51), type := 55, pos := "whatfor.go:64", after := #[{ on := 2, ground := Go.Ground.data }], guard := Option.none }) (v := .slice (some ⟨gx, 0, none⟩) L.length cx) rfl (by kernel_rfl) (by kernel_rfl) (by kernel_rfl) (fun _ _ _ h => h) (Or.inl ⟨by kernel_rfl, by intro wq hSw; have hk := CX.out wq (Hid.out hSw); clear hSw hHeld; go_simp⟩) hHeld ?_
      simp only [Act.put, List.setIfInBounds_toArray, List.set_cons_zero, List.set_cons_succ]
      refine wpAnyH_take (i := 4) (oi := { dst := Option.some 53, op := Go.Op.move (Go.Operand.tmp 5), type := 3, pos := "whatfor.go:64", after := #[], guard := Option.none }) (v := .int .i64 (j : Int)) rfl (by kernel_rfl) (by kernel_rfl) (by kernel_rfl) (fun _ _ _ h => h) (Or.inl ⟨by kernel_rfl, fun wq _ => pureVal_run (by kernel_rfl) wq⟩) hHeld ?_
      simp only [Act.put, List.setIfInBounds_toArray, List.set_cons_zero, List.set_cons_succ]
      refine wpAnyH_take (i := 5) (oi := { dst := Option.some 54, op := Go.Op.indexAddr 55 (Go.Operand.tmp 52) (Go.Operand.tmp 53), type := 0, pos := "whatfor.go:64", after := #[{ on := 3, ground := Go.Ground.data }, { on := 4, ground := Go.Ground.data }], guard := Option.none }) (v := .pointer (some ⟨gx, j * 25, none⟩)) rfl (by kernel_rfl) (by kernel_rfl) (by kernel_rfl) (fun _ _ _ h => h) (Or.inl ⟨by kernel_rfl, by intro wq hSw; clear hSw hHeld; go_simp⟩) hHeld ?_
      simp only [Act.put, List.setIfInBounds_toArray, List.set_cons_zero, List.set_cons_succ]
      refine wpAnyH_take (i := 6) (oi := { dst := Option.some 55, op := Go.Op.load 29 (Go.Operand.tmp 54), type := 29, pos := "whatfor.go:64", after := #[{ on := 5, ground := Go.Ground.data }], guard := Option.none }) (v := .agg (pkCells qx)) rfl (by kernel_rfl) (by kernel_rfl) (by kernel_rfl) (fun _ _ _ h => h) (Or.inl ⟨by kernel_rfl, fun wq hSw => yields_mid29 rfl (by rfl) (RX.out wq (Hid.out hSw))⟩) hHeld ?_
      simp only [Act.put, List.setIfInBounds_toArray, List.set_cons_zero, List.set_cons_succ]
      refine wpAnyH_take (i := 7) (oi := { dst := Option.some 56, op := Go.Op.move (Go.Operand.tmp 1), type := 54, pos := "whatfor.go:64", after := #[], guard := Option.none }) (v := .pointer (some ⟨yb, 0, none⟩)) rfl (by kernel_rfl) (by kernel_rfl) (by kernel_rfl) (fun _ _ _ h => h) (Or.inl ⟨by kernel_rfl, fun wq _ => pureVal_run (by kernel_rfl) wq⟩) hHeld ?_
      simp only [Act.put, List.setIfInBounds_toArray, List.set_cons_zero, List.set_cons_succ]
      refine wpAnyH_take (i := 8) (oi := { dst := Option.some 57, op := Go.Op.nilCheck (Go.Operand.tmp 56), type := 0, pos := "whatfor.go:64", after := #[{ on := 7, ground := Go.Ground.data }], guard := Option.none }) (v := .pointer (some ⟨yb, 0, none⟩)) rfl (by kernel_rfl) (by kernel_rfl) (by kernel_rfl) (fun _ _ _ h => h) (Or.inl ⟨by kernel_rfl, by intro wq hSw; clear hSw hHeld; go_simp⟩) hHeld ?_
      simp only [Act.put, List.setIfInBounds_toArray, List.set_cons_zero, List.set_cons_succ]
      refine wpAnyH_take (i := 9) (oi := { dst := Option.some 58, op := Go.Op.fieldAddr 57 (Go.Operand.tmp 57) 0, type := 0, pos := "whatfor.go:64", after := #[{ on := 8, ground := Go.Ground.data }], guard := Option.none }) (v := .pointer (some ⟨yb, 0, none⟩)) rfl (by kernel_rfl) (by kernel_rfl) (by kernel_rfl) (fun _ _ _ h => h) (Or.inl ⟨by kernel_rfl, by intro wq hSw; clear hSw hHeld; go_simp⟩) hHeld ?_
      simp only [Act.put, List.setIfInBounds_toArray, List.set_cons_zero, List.set_cons_succ]
      refine wpAnyH_take (i := 10) (oi := { dst := Option.some 59, op := Go.Op.load 55 (Go.Operand.tmp 58), type := 55, pos := "whatfor.go:64", after := #[{ on := 9, ground := Go.Ground.data }], guard := Option.none }) (v := .slice (some ⟨gy, 0, none⟩) L.length cy) rfl (by kernel_rfl) (by kernel_rfl) (by kernel_rfl) (fun _ _ _ h => h) (Or.inl ⟨by kernel_rfl, by intro wq hSw; have hk := CY.out wq (Hid.out hSw); clear hSw hHeld; go_simp⟩) hHeld ?_
      simp only [Act.put, List.setIfInBounds_toArray, List.set_cons_zero, List.set_cons_succ]
      refine wpAnyH_take (i := 11) (oi := { dst := Option.some 60, op := Go.Op.move (Go.Operand.tmp 5), type := 3, pos := "whatfor.go:64", after := #[], guard := Option.none }) (v := .int .i64 (j : Int)) rfl (by kernel_rfl) (by kernel_rfl) (by kernel_rfl) (fun _ _ _ h => h) (Or.inl ⟨by kernel_rfl, fun wq _ => pureVal_run (by kernel_rfl) wq⟩) hHeld ?_
      simp only [Act.put, List.setIfInBounds_toArray, List.set_cons_zero, List.set_cons_succ]
      refine wpAnyH_take (i := 12) (oi := { dst := Option.some 61, op := Go.Op.indexAddr 55 (Go.Operand.tmp 59) (Go.Operand.tmp 60), type := 0, pos := "whatfor.go:64", after := #[{ on := 10, ground := Go.Ground.data }, { on := 11, ground := Go.Ground.data }], guard := Option.none }) (v := .pointer (some ⟨gy, j * 25, none⟩)) rfl (by kernel_rfl) (by kernel_rfl) (by kernel_rfl) (fun _ _ _ h => h) (Or.inl ⟨by kernel_rfl, by intro wq hSw; clear hSw hHeld; go_simp⟩) hHeld ?_
      simp only [Act.put, List.setIfInBounds_toArray, List.set_cons_zero, List.set_cons_succ]
      refine wpAnyH_take (i := 13) (oi := { dst := Option.some 62, op := Go.Op.load 29 (Go.Operand.tmp 61), type := 29, pos := "whatfor.go:64", after := #[{ on := 12, ground := Go.Ground.data }], guard := Option.none }) (v := .agg (pkCells qy)) rfl (by kernel_rfl) (by kernel_rfl) (by kernel_rfl) (fun _ _ _ h => h) (Or.inl ⟨by kernel_rfl, fun wq hSw => yields_mid29 rfl (by rfl) (RY.out wq (Hid.out hSw))⟩) hHeld ?_
      simp only [Act.put, List.setIfInBounds_toArray, List.set_cons_zero, List.set_cons_succ]
      refine wpAnyH_ready (rs := [14]) (by kernel_rfl) (by simp) ?_
      refine AllReadyH.cons (o := { dst := Option.some 63, op := Go.Op.call { callee := Go.Callee.value (Go.Operand.func 19), args := #[Go.Operand.tmp 55, Go.Operand.tmp 62], argTypes := #[29, 29] }, type := 4, pos := "whatfor.go:64", after := #[{ on := 6, ground := Go.Ground.data }, { on := 13, ground := Go.Ground.data }], guard := Option.none }) (by rfl) (fun K hK => ?_) AllReadyH.nil
      refine held_call (by kernel_rfl) 19 #[.agg (pkCells qx), .agg (pkCells qy)] (by clear hHeld hK; go_simp) (R := fun x w' => x = .bool true ∧ Hid (Below w.heap.size w w')) ((SAME.out _ hHeld.out).mono fun e w' ⟨h1, h2⟩ => ⟨_, h1, rfl, h2⟩) ?_
      rintro _ w2 ⟨rfl, hb2⟩
      refine hK.out _ _ hb2 (fun hHeld => ?_)
      clear hK K
      simp only [Act.put, List.setIfInBounds_toArray, List.set_cons_zero, List.set_cons_succ]
      refine wpAnyH_take (i := 15) (oi := { dst := Option.some 64, op := Go.Op.unOp Go.UnOp.not 4 (Go.Operand.tmp 63), type := 4, pos := "whatfor.go:64", after := #[{ on := 14, ground := Go.Ground.data }], guard := Option.none }) (v := .bool false) rfl (by kernel_rfl) (by kernel_rfl) (by kernel_rfl) (fun _ _ _ h => h) (Or.inl ⟨by kernel_rfl, by intro wq hSw; clear hSw hHeld; go_simp⟩) hHeld ?_
      simp only [Act.put, List.setIfInBounds_toArray, List.set_cons_zero, List.set_cons_succ]
      refine wpAnyH_done (by kernel_rfl) ?_ _
      clear hHeld
      go_wp2_with fail
      go_roundg (gk - 1)
      all_goals first | omega | exact ⟨j + 1, rfl, by omega, hb2⟩ | exact ⟨j + 1, by simp, by omega, hb2⟩
    · have p0 : ¬ (j : Int) < (L.length : Int) := by omega
      go_wp2_with fail
      go_ret
      exact ⟨rfl, BW.out⟩
end Go.Proofs.YtibihbclijpkjaaGreatDoor
namespace Go.Proofs.YtibihbclijpkjaaGreatDoor
open Go Go.RowKit
open Pkt (Pk Cn Sl In By Is Ss As pkCells Gd KindsAt Small ck TT)
set_option linter.unusedSimpArgs false
set_option linter.unusedVariables false

theorem fs_new (w : World) (most : Int) (B : Nat) (z : Nat → Int) : FS (w.alloc (.cells (frCells most (.slice none 0 0) 0 0 0 0) 88)) w.heap.size most B none 0 z 0 :=
  ⟨.slice none 0 0, 0, fun _ => 0, 0, 0, 0, ⟨heap_alloc_new w _, World.ownsRow_nil _ _ _ _, Nat.le_refl _⟩, rfl, rfl, rfl, fun i hi => by omega, fun i => by simp, Int.le_refl _⟩
theorem fs_put {w : World} {fb : Nat} {most : Int} {B : Nat} {rf : Option Nat} {P : Nat} {z : Nat → Int} {H : Nat} (h : FS w fb most B rf P z H) (l : Sl) (zb z' : Nat → Int) (hl : By w l zb) (hn : P + H ≤ 400000) (hln : l.n ≤ 400000) (hB : B ≤ w.heap.size) (h1 : ∀ i, i < H → z' i = z i) (h2 : ∀ i, i < l.n → z' (H + i) = zb i) :
    Calls Tryz.prog 22 #[.pointer (some ⟨fb, 0, none⟩), .slice l.a l.n l.c] w fun e w' => e = .returned (.tuple #[]) ∧ ∃ rf', Hid (FS w' fb most B rf' P z' (H + l.n)) ∧ Hid (Ch (fun k => k = fb ∨ rf = some k) w w') ∧ Hid (Nw w.heap.size rf rf') := by
  obtain ⟨v, n, z0, d, gone, fa, hf, hr, hP, hH, hzz, hz0, hgo⟩ := h
  have hd := hf.dn
  refine (put_any hf l zb hl (by omega) hln hB).mono ?_
  rintro e w' ⟨rfl, v', hf', hk, hv⟩
  refine ⟨rfl, v'.ownBlock, ⟨v', _, _, d, gone, fa, hf', rfl, hP, by omega, fun i hi => ?_, cat_bd hz0 hl.2.1, hgo⟩, ?_, ?_⟩
  · unfold cat
    by_cases q : i < H
    · rw [if_pos (by omega), hzz i q, h1 i q]
    · rw [if_neg (by omega), show d + i - n = i - H by omega]
      have := h2 (i - H) (by omega)
      rw [show H + (i - H) = i by omega] at this
      exact this.symm
  · rw [← hr]; exact Kq.ch hk
  · rcases hv with q | q
    · exact .inl (q.trans hr)
    · exact .inr (.inr ⟨_, q, Nat.le_refl _⟩)
theorem fs_held {w : World} {fb : Nat} {most : Int} {B : Nat} {rf : Option Nat} {P : Nat} {z : Nat → Int} {H : Nat} (h : FS w fb most B rf P z H) : Calls Tryz.prog 24 #[.pointer (some ⟨fb, 0, none⟩)] w fun e w' => e = .returned (.int .i64 (H : Int)) ∧ Below w.heap.size w w' := by
  obtain ⟨v, n, z0, d, gone, fa, hf, hr, hP, hH, hzz, hz0, hgo⟩ := h
  refine (heldNq_any hf).mono ?_
  rintro e w' ⟨⟨q, rfl⟩, rfl⟩
  rw [hH]
  exact ⟨rfl, below_drewN (Below.refl _ _) q⟩
theorem fd_held {w : World} {fb : Nat} {most a e' : Int} (h : FD w fb most a e') : Calls Tryz.prog 24 #[.pointer (some ⟨fb, 0, none⟩)] w fun e w' => e = .returned (.int .i64 0) ∧ Below w.heap.size w w' := by
  obtain ⟨gone, hf⟩ := h
  refine (heldNq_any (n := 0) (d := 0) (z := fun _ => 0) (B := 0) ⟨hf, World.ownsRow_nil _ _ _ _, Nat.le_refl _⟩).mono ?_
  rintro e w' ⟨⟨q, rfl⟩, rfl⟩
  exact ⟨rfl, below_drewN (Below.refl _ _) q⟩
theorem fd_put {w : World} {fb : Nat} {most a e' : Int} (h : FD w fb most a e') (he : e' ≠ 0) (b : Value) : Calls Tryz.prog 22 #[.pointer (some ⟨fb, 0, none⟩), b] w fun e w' => e = .returned (.tuple #[]) ∧ w' = w := by
  obtain ⟨gone, hf⟩ := h
  exact put_dead hf he b
/-! ### The example's bytes -/
def exZ : Nat → Int := listZ [192, 0, 192, 0, 224, 1, 7]
theorem exZ_bd : ∀ i, 0 ≤ exZ i ∧ exZ i ≤ 255 := listZ_bd _ (by decide)
theorem ex_one : decP exZ 1 100 = .more := by rw [decP, show headP exZ 1 (clampM 100) = (0, 0, none) by kernel_rfl]; rfl
theorem ex_two : decP exZ 5 100 = .ok (blank 12) noCn 2 := by
  rw [decP, show headP exZ 5 (clampM 100) = (2, 0, none) by kernel_rfl]
  show (match packP exZ 2 2 with | .error x => DecR.fault x | .ok y => DecR.ok y.1 y.2 2) = _
  have e : packP exZ 2 2 = .ok (blank 12, noCn) := by
    unfold packP
    rw [show intoP exZ 2 ⟨2, 0, 0⟩ (exZ 0 / 16) noCn (exZ 0 % 16) = .ok (⟨2, 0, 0⟩, blank 12, noCn) by kernel_rfl]
    simp only [ck_ping, if_true]
  rw [e]
theorem ex_three : decP (sh exZ 2) 3 100 = .ok (blank 12) noCn 2 := by
  rw [decP, show headP (sh exZ 2) 3 (clampM 100) = (2, 0, none) by kernel_rfl]
  show (match packP (sh exZ 2) 2 2 with | .error x => DecR.fault x | .ok y => DecR.ok y.1 y.2 2) = _
  have e : packP (sh exZ 2) 2 2 = .ok (blank 12, noCn) := by
    unfold packP
    rw [show intoP (sh exZ 2) 2 ⟨2, 0, 0⟩ (sh exZ 2 0 / 16) noCn (sh exZ 2 0 % 16) = .ok (⟨2, 0, 0⟩, blank 12, noCn) by kernel_rfl]
    simp only [ck_ping, if_true]
  rw [e]
theorem ex_four : decP (sh exZ 4) 3 100 = .fault (2, 15) := by
  rw [decP, show headP (sh exZ 4) 3 (clampM 100) = (2, 1, none) by kernel_rfl]
  show (match packP (sh exZ 4) 3 2 with | .error x => DecR.fault x | .ok y => DecR.ok y.1 y.2 3) = _
  have e : packP (sh exZ 4) 3 2 = .error (2, 15) := by
    unfold packP
    rw [show intoP (sh exZ 4) 3 ⟨2, 0, 0⟩ (sh exZ 4 0 / 16) noCn (sh exZ 4 0 % 16) = .error (2, 15) by kernel_rfl]
  rw [e]
theorem by_new {w : World} (L : List Int) (cs : Array Value) (hcs : ∀ i, i < L.length → cs[i]? = some (.int .u8 (listZ L i))) (hb : ∀ i, 0 ≤ listZ L i ∧ listZ L i ≤ 255) : By (w.alloc (.cells cs 5)) ⟨some ⟨w.heap.size, 0, none⟩, L.length, L.length⟩ (listZ L) := by
  refine ⟨Nat.le_refl _, hb, .inr ⟨_, _, rfl, fun i hi => ?_⟩⟩
  rw [Nat.zero_add]
  exact box_cells (heap_alloc_new w _) i _ (hcs i hi)
theorem below_ch {w W W' : World} {S : Nat → Prop} (hb : Below w.heap.size w W) (hc : Ch S W W') (hs : ∀ k, S k → w.heap.size ≤ k) : Below w.heap.size w W' :=
  ⟨hc.os.trans hb.os, hc.tape.trans hb.tape, hc.output.trans hb.output, Nat.le_trans hb.size hc.size, fun k hk => (hc.block k (by have := hb.size; omega) (fun q => by have := hs k q; omega)).trans (hb.block k hk)⟩
theorem kput {w W : World} {rf : Option Nat} {P : Nat} {z : Nat → Int} {H : Nat} (h : FS W w.heap.size 100 w.heap.size rf P z H) (hb : Below w.heap.size w W) (l : Sl) (zb z' : Nat → Int) (hl : By W l zb) (hn : P + H ≤ 400000) (hln : l.n ≤ 400000) (h1 : ∀ i, i < H → z' i = z i) (h2 : ∀ i, i < l.n → z' (H + i) = zb i) :
    Calls Tryz.prog 22 #[.pointer (some ⟨w.heap.size, 0, none⟩), .slice l.a l.n l.c] W fun e w' => e = .returned (.tuple #[]) ∧ ∃ rf', Hid (FS w' w.heap.size 100 w.heap.size rf' P z' (H + l.n)) ∧ Hid (Below w.heap.size w w') ∧ Hid (∀ (k : Nat) (c : Array Value), W.heap[k]? = some (.cells c 29 (0, 0)) → w'.heap[k]? = some (.cells c 29 (0, 0))) := by
  have hk := h.blk
  refine (fs_put h l zb z' hl hn hln hb.size h1 h2).mono ?_
  rintro e w' ⟨rfl, rf', hf, hc, hw⟩
  refine ⟨rfl, rf', hf, below_ch hb hc.out (fun k q => q.elim (fun q => by omega) (fun q => (hk.2 k q).1)), fun k c hkc => ?_⟩
  refine (hc.out.block k (lt_of_block hkc) (fun q => ?_)).trans hkc
  rcases q with q | q
  · obtain ⟨c', hc'⟩ := hk.1; exact blk_ne hkc hc' (by decide) q
  · obtain ⟨c', hc'⟩ := (hk.2 k q).2; exact blk_ne hkc hc' (by decide) rfl
theorem knext {w W : World} {rf : Option Nat} {P : Nat} {z : Nat → Int} {H : Nat} (h : FS W w.heap.size 100 w.heap.size rf P z H) (hb : Below w.heap.size w W) (hg : Gw w) (hz : ∀ i, 0 ≤ z i ∧ z i ≤ 255) (hn : P + H ≤ 400000) (R : DecR) (hR : decP z H 100 = R) :
    Calls Tryz.prog 48 #[.pointer (some ⟨w.heap.size, 0, none⟩)] W fun e w' => NextIs W w' e w.heap.size 100 w.heap.size rf P z H R ∧ Hid (Below w.heap.size w w') ∧ Hid (∀ (k : Nat) (c : Array Value), W.heap[k]? = some (.cells c 29 (0, 0)) → w'.heap[k]? = some (.cells c 29 (0, 0))) := by
  have hk := h.blk
  have hg' : Gw W := hg.below hb
  refine (next_any h hz hg' hn hb.size).mono fun e w' ⟨h1, h2⟩ => ?_
  rw [hR] at h1
  refine ⟨h1, below_ch hb (Kq.ch h2) (fun k q => q.elim (fun q => by omega) (fun q => by cases q)), fun k c hkc => ?_⟩
  refine (h2.block k (lt_of_block hkc) (fun q => ?_) (fun q => by cases q)).trans hkc
  obtain ⟨c', hc'⟩ := hk.1; exact blk_ne hkc hc' (by decide) q
set_option maxRecDepth 100000 in
set_option maxHeartbeats 4000000 in
theorem fknown_any (w : World) (hg : Gw w) : Calls Tryz.prog 20 #[] w fun e w' => e = .returned (.bool true) ∧ Below w.heap.size w w' := by
  have HG : Hid (Gw w) := hg
  clear hg
  go_enter Tryz.func20, Tryz.ntmps20
  go_wp2_with fail
  go_must (go_at_call 21)
  refine (new_any 100 w).mono ?_
  rintro e w1 ⟨rfl, hw1⟩
  have F1 : Hid (FS w1 w.heap.size 100 w.heap.size none 0 exZ 0) := by show FS _ _ _ _ _ _ _ _; rw [hw1]; exact fs_new w 100 _ _
  have B1 : Hid (Below w.heap.size w w1) := by show Below _ _ _; rw [hw1]; exact (Below.refl _ _).alloc (Nat.le_refl _) _
  clear hw1
  go_wp2_with fail
  go_must (go_at_call 22)
  refine (kput (F1.out.below ((Below.refl _ _).alloc (Nat.le_refl _) (.cells #[.int .u8 192] 5))) (below_on B1.out ((Below.refl _ _).alloc (Nat.le_refl _) _)) ⟨some ⟨w1.heap.size, 0, none⟩, 1, 1⟩ (listZ [192]) (exZ) (by_new [192] #[.int .u8 192] (fun i hi => by have hi2 : i < 1 := hi; have h3 : i = 0 := (by omega); subst h3; rfl) (listZ_bd _ (by decide))) (by decide) (show 1 ≤ 400000 by decide) (fun i hi => rfl) (fun i hi => by have hi2 : i < 1 := hi; have h3 : i = 0 := (by omega); subst h3; rfl)).mono ?_
  rintro e w2 ⟨rfl, rw2, F2, B2, Kw2⟩
  go_wp2_with fail
  go_must (go_at_call 48)
  refine (knext F2.out B2.out HG.out exZ_bd (by decide) _ ex_one).mono ?_
  rintro e w3 ⟨⟨r3, rfl, f3, _⟩, BNw3, Kw3⟩
  obtain ⟨W4, hW4⟩ : ∃ W, W = (w3.alloc (.cells (pkCells (blank 0)) 29)).setRow w3.heap.size (pkCells (blank 0)) := ⟨_, rfl⟩
  have BBW4 : Hid (Below w3.heap.size w3 W4) := by show Below _ _ _; rw [hW4]; exact (below_setRow ((Below.refl _ _).alloc (Nat.le_refl _) _) (Nat.le_refl _)).out
  have ZW4 : Hid (W4.heap[w3.heap.size]? = some (.cells (pkCells (blank 0)) 29 (0, 0))) := by show _ = _; rw [hW4]; exact setRow_at (heap_alloc_new w3 _)
  have BW4 : Hid (Below w.heap.size w W4) := below_on BNw3.out BBW4.out
  go_upto_region 6 with (first | (refine wpList_store_row rfl 29 _ _ rfl w3.heap.size (pkCells (blank 0)) rfl rfl 29 _ (heap_alloc_new w3 _) pk_info rfl (pk_one _) ?_) | fail)
  have eW : (w3.alloc (.cells #[.int .i64 0, .int .i64 0, .bool false, .int .i64 0, .string ⟨#[]⟩, .bool false, .string ⟨#[]⟩, .slice none 0 0, .int .i64 0, .bool false, .bool false, .string ⟨#[]⟩, .bool false, .slice none 0 0, .bool false, .int .i64 0, .bool false, .string ⟨#[]⟩, .slice none 0 0, .int .i64 0, .bool false, .int .i64 0, .slice none 0 0, .slice none 0 0, .slice none 0 0] 29)).setRow w3.heap.size (pkCells (blank 0)) = W4 := hW4.symm
  rw [eW]
  clear eW hW4
  have F4 : Hid (FS W4 w.heap.size 100 w.heap.size r3 0 exZ 1) := FS.below f3 BBW4.out
  clear f3
  go_wp2_with fail
  go_must (go_at_call 22)
  refine (kput (F4.out.below ((Below.refl _ _).alloc (Nat.le_refl _) (.cells #[.int .u8 0, .int .u8 192, .int .u8 0, .int .u8 224] 5))) (below_on BW4.out ((Below.refl _ _).alloc (Nat.le_refl _) _)) ⟨some ⟨W4.heap.size, 0, none⟩, 4, 4⟩ (listZ [0, 192, 0, 224]) (exZ) (by_new [0, 192, 0, 224] #[.int .u8 0, .int .u8 192, .int .u8 0, .int .u8 224] (fun i hi => by have hi2 : i < 4 := hi; have h3 : i = 0 ∨ i = 1 ∨ i = 2 ∨ i = 3 := (by omega); rcases h3 with rfl | rfl | rfl | rfl <;> rfl) (listZ_bd _ (by decide))) (by decide) (show 4 ≤ 400000 by decide) (fun i hi => rfl) (fun i hi => by have hi2 : i < 4 := hi; have h3 : i = 0 ∨ i = 1 ∨ i = 2 ∨ i = 3 := (by omega); rcases h3 with rfl | rfl | rfl | rfl <;> rfl)).mono ?_
  rintro e w5 ⟨rfl, rw5, F5, B5, Kw5⟩
  go_wp2_with fail
  go_must (go_at_call 48)
  refine (knext F5.out B5.out HG.out exZ_bd (by decide) _ ex_two).mono ?_
  rintro e w6 ⟨⟨q7, r6, rfl, f6, i6, a6, _⟩, BNw6, Kw6⟩
  obtain ⟨W7, hW7⟩ : ∃ W, W = (w6.alloc (.cells (pkCells (blank 0)) 29)).setRow w6.heap.size (pkCells q7) := ⟨_, rfl⟩
  have BBW7 : Hid (Below w6.heap.size w6 W7) := by show Below _ _ _; rw [hW7]; exact (below_setRow ((Below.refl _ _).alloc (Nat.le_refl _) _) (Nat.le_refl _)).out
  have ZW7 : Hid (W7.heap[w6.heap.size]? = some (.cells (pkCells q7) 29 (0, 0))) := by show _ = _; rw [hW7]; exact setRow_at (heap_alloc_new w6 _)
  have BW7 : Hid (Below w.heap.size w W7) := below_on BNw6.out BBW7.out
  go_upto_region 8 with (first | (refine wpList_store_row rfl 29 _ _ rfl w6.heap.size (pkCells q7) rfl rfl 29 _ (heap_alloc_new w6 _) pk_info rfl (pk_one _) ?_) | fail)
  have eW : (w6.alloc (.cells #[.int .i64 0, .int .i64 0, .bool false, .int .i64 0, .string ⟨#[]⟩, .bool false, .string ⟨#[]⟩, .slice none 0 0, .int .i64 0, .bool false, .bool false, .string ⟨#[]⟩, .bool false, .slice none 0 0, .bool false, .int .i64 0, .bool false, .string ⟨#[]⟩, .slice none 0 0, .int .i64 0, .bool false, .int .i64 0, .slice none 0 0, .slice none 0 0, .slice none 0 0] 29)).setRow w6.heap.size (pkCells q7) = W7 := hW7.symm
  rw [eW]
  clear eW hW7
  have F7 : Hid (FS W7 w.heap.size 100 w.heap.size r6 2 (sh exZ 2) 3) := FS.below f6 BBW7.out
  have K7 : Hid (q7.kind = 12) := by obtain ⟨_, _, _, _, _, _, rfl, _⟩ := a6; rfl
  clear f6 i6 a6
  go_wp2_with fail
  go_must (go_at_call 48)
  refine (knext F7.out BW7.out HG.out (sh_bd exZ_bd 2) (by decide) _ ex_three).mono ?_
  rintro e w8 ⟨⟨q9, r8, rfl, f8, i8, a8, _⟩, BNw8, Kw8⟩
  obtain ⟨W9, hW9⟩ : ∃ W, W = (w8.alloc (.cells (pkCells (blank 0)) 29)).setRow w8.heap.size (pkCells q9) := ⟨_, rfl⟩
  have BBW9 : Hid (Below w8.heap.size w8 W9) := by show Below _ _ _; rw [hW9]; exact (below_setRow ((Below.refl _ _).alloc (Nat.le_refl _) _) (Nat.le_refl _)).out
  have ZW9 : Hid (W9.heap[w8.heap.size]? = some (.cells (pkCells q9) 29 (0, 0))) := by show _ = _; rw [hW9]; exact setRow_at (heap_alloc_new w8 _)
  have BW9 : Hid (Below w.heap.size w W9) := below_on BNw8.out BBW9.out
  go_upto_region 9 with (first | (refine wpList_store_row rfl 29 _ _ rfl w8.heap.size (pkCells q9) rfl rfl 29 _ (heap_alloc_new w8 _) pk_info rfl (pk_one _) ?_) | fail)
  have eW : (w8.alloc (.cells #[.int .i64 0, .int .i64 0, .bool false, .int .i64 0, .string ⟨#[]⟩, .bool false, .string ⟨#[]⟩, .slice none 0 0, .int .i64 0, .bool false, .bool false, .string ⟨#[]⟩, .bool false, .slice none 0 0, .bool false, .int .i64 0, .bool false, .string ⟨#[]⟩, .slice none 0 0, .int .i64 0, .bool false, .int .i64 0, .slice none 0 0, .slice none 0 0, .slice none 0 0] 29)).setRow w8.heap.size (pkCells q9) = W9 := hW9.symm
  rw [eW]
  clear eW hW9
  have F9 : Hid (FS W9 w.heap.size 100 w.heap.size r8 4 (sh exZ 4) 1) := by have := FS.below f8 BBW9.out; rw [sh_sh] at this; exact this
  have P9 : Hid (W9.heap[w6.heap.size]? = some (.cells (pkCells q7) 29 (0, 0))) := (BBW9.out.block _ (lt_of_block (Kw8.out _ _ ZW7.out))).trans (Kw8.out _ _ ZW7.out)
  clear f8 i8 a8
  have c9 : W9.cell? ⟨w6.heap.size, 0, none⟩ = some (.int .i64 12) := by have := box_cells P9.out 0 (.int .i64 q7.kind) rfl; rw [K7.out] at this; exact this
  go_wp2_with fail
  go_must (go_at_call 24)
  refine (fs_held F9.out).mono ?_
  rintro e w10 ⟨rfl, hb10⟩
  have B10 : Hid (Below w.heap.size w w10) := below_on BW9.out hb10
  have F10 : Hid (FS w10 w.heap.size 100 w.heap.size r8 4 (sh exZ 4) 1) := F9.out.below hb10
  clear hb10 c9
  go_wp2_with fail
  go_must (go_at_call 22)
  refine (kput (F10.out.below ((Below.refl _ _).alloc (Nat.le_refl _) (.cells #[.int .u8 1, .int .u8 7] 5))) (below_on B10.out ((Below.refl _ _).alloc (Nat.le_refl _) _)) ⟨some ⟨w10.heap.size, 0, none⟩, 2, 2⟩ (listZ [1, 7]) (sh exZ 4) (by_new [1, 7] #[.int .u8 1, .int .u8 7] (fun i hi => by have hi2 : i < 2 := hi; have h3 : i = 0 ∨ i = 1 := (by omega); rcases h3 with rfl | rfl <;> rfl) (listZ_bd _ (by decide))) (by decide) (show 2 ≤ 400000 by decide) (fun i hi => rfl) (fun i hi => by have hi2 : i < 2 := hi; have h3 : i = 0 ∨ i = 1 := (by omega); rcases h3 with rfl | rfl <;> rfl)).mono ?_
  rintro e w11 ⟨rfl, rw11, F11, B11, Kw11⟩
  go_wp2_with fail
  go_must (go_at_call 48)
  refine (knext F11.out B11.out HG.out (sh_bd exZ_bd 4) (by decide) _ ex_four).mono ?_
  rintro e w12 ⟨⟨gg, rfl, hgg, f12⟩, BNw12, Kw12⟩
  obtain ⟨W13, hW13⟩ : ∃ W, W = (w12.alloc (.cells (pkCells (blank 0)) 29)).setRow w12.heap.size (pkCells (blank 0)) := ⟨_, rfl⟩
  have BBW13 : Hid (Below w12.heap.size w12 W13) := by show Below _ _ _; rw [hW13]; exact (below_setRow ((Below.refl _ _).alloc (Nat.le_refl _) _) (Nat.le_refl _)).out
  have ZW13 : Hid (W13.heap[w12.heap.size]? = some (.cells (pkCells (blank 0)) 29 (0, 0))) := by show _ = _; rw [hW13]; exact setRow_at (heap_alloc_new w12 _)
  have BW13 : Hid (Below w.heap.size w W13) := below_on BNw12.out BBW13.out
  go_upto_region 13 with (first | (refine wpList_store_row rfl 29 _ _ rfl w12.heap.size (pkCells (blank 0)) rfl rfl 29 _ (heap_alloc_new w12 _) pk_info rfl (pk_one _) ?_) | fail)
  have eW : (w12.alloc (.cells #[.int .i64 0, .int .i64 0, .bool false, .int .i64 0, .string ⟨#[]⟩, .bool false, .string ⟨#[]⟩, .slice none 0 0, .int .i64 0, .bool false, .bool false, .string ⟨#[]⟩, .bool false, .slice none 0 0, .bool false, .int .i64 0, .bool false, .string ⟨#[]⟩, .slice none 0 0, .int .i64 0, .bool false, .int .i64 0, .slice none 0 0, .slice none 0 0, .slice none 0 0] 29)).setRow w12.heap.size (pkCells (blank 0)) = W13 := hW13.symm
  rw [eW]
  clear eW hW13
  have w6e : wrap64 (((4 : Nat) : Int) + 2) = 6 := by unfold wrap64; decide
  rw [w6e] at f12 hgg
  have F13 : Hid (FD W13 w.heap.size 100 6 15) := by
    have h1 : FD w12 w.heap.size 100 6 15 := f12
    obtain ⟨g, hf⟩ := h1
    exact ⟨g, hf.keep (BBW13.out.block _ (FrAt.lt hf))⟩
  have G13 : Hid (W13.heap[gg]? = some (.cells #[.int .i64 6, .int .i64 15] 81 (0, 0))) := (BBW13.out.block _ (lt_of_block hgg)).trans hgg
  clear hgg f12
  go_wp2_with fail
  go_must (go_at_call 49)
  refine (ftold_fault gg 6 15 W13 G13.out (by decide)).mono ?_
  rintro e w14 ⟨rfl, hb14⟩
  obtain ⟨W15, hW15⟩ : ∃ W, W = w14.alloc (.cells #[.int .i64 6, .int .i64 15] 45) := ⟨_, rfl⟩
  have BB15 : Hid (Below W13.heap.size W13 W15) := by show Below _ _ _; rw [hW15]; exact below_on hb14 ((Below.refl _ _).alloc (Nat.le_refl _) _)
  have Z15 : Hid (W15.heap[w14.heap.size]? = some (.cells #[.int .i64 6, .int .i64 15] 45 (0, 0))) := by show _ = _; rw [hW15]; exact heap_alloc_new w14 _
  have B15 : Hid (Below w.heap.size w W15) := below_on BW13.out BB15.out
  have F15 : Hid (FD W15 w.heap.size 100 6 15) := by have q := F13.out; obtain ⟨g, hf⟩ := q; exact ⟨g, hf.keep (BB15.out.block _ (FrAt.lt hf))⟩
  clear hb14
  go_upto_region 14 with (first | (refine wpList_store_row rfl 45 _ _ rfl w14.heap.size #[.int .i64 6, .int .i64 15] rfl rfl 45 _ (heap_alloc_new w14 _) f45_info rfl rfl ?_) | fail)
  rw [← hW15]
  clear hW15
  go_wp2_with fail
  go_must (go_at_call 22)
  obtain ⟨W16, hW16⟩ : ∃ W, W = W15.alloc (.cells #[.int .u8 192, .int .u8 0] 5) := ⟨_, rfl⟩
  have BB16 : Hid (Below W15.heap.size W15 W16) := by show Below _ _ _; rw [hW16]; exact (Below.refl _ _).alloc (Nat.le_refl _) _
  have F16 : Hid (FD W16 w.heap.size 100 6 15) := by have q := F15.out; obtain ⟨g, hf⟩ := q; exact ⟨g, hf.keep (BB16.out.block _ (FrAt.lt hf))⟩
  rw [← hW16]
  clear hW16
  refine (fd_put F16.out (by decide) _).mono ?_
  rintro e w17 ⟨rfl, hw17⟩
  have hw18 := hw17.symm
  clear hw17
  subst hw18
  have Z16 : Hid (W16.heap[w14.heap.size]? = some (.cells #[.int .i64 6, .int .i64 15] 45 (0, 0))) := (BB16.out.block _ (lt_of_block Z15.out)).trans Z15.out
  have d0 : W16.cell? ⟨w14.heap.size, 0, none⟩ = some (.int .i64 6) := box_cells Z16.out 0 _ rfl
  have d1 : W16.cell? ⟨w14.heap.size, 1, none⟩ = some (.int .i64 15) := box_cells Z16.out 1 _ rfl
  go_wp2_with fail
  go_must (go_at_call 24)
  refine (fd_held F16.out).mono ?_
  rintro e w19 ⟨rfl, hb19⟩
  have B19 : Hid (Below w.heap.size w w19) := below_on (below_on B15.out BB16.out) hb19
  clear hb19
  go_wp2_with fail
  go_ret
  exact ⟨rfl, B19.out⟩
end Go.Proofs.YtibihbclijpkjaaGreatDoor
namespace Go.Proofs.YtibihbclijpkjaaGreatDoor
open Go Go.RowKit
open Pkt (Pk Cn Sl In By Is Ss As pkCells Gd KindsAt Small)
set_option linter.unusedSimpArgs false
set_option linter.unusedVariables false

/-- A frame and what was heard of it: of all bytes so many are put, so many are gone. -/
structure YC (w : World) (gb yb B : Nat) (top : Int) (Z : Nat → Int) (T N : Nat) (fin : Bool) (P : Nat) (L : List (Pk × Cn)) (la le : Int) : Prop where
  pn : P ≤ N
  run : Rn (dAt Z T top) P L
  ex : ∃ rg ry, HS w yb B ry (No (fun b => b < B) gb yb rg ry) L la le ∧ ((FS w gb top B rg P (sh Z P) (N - P) ∧ (fin = true → decP (sh Z P) (N - P) top = .more ∧ la = 0 ∧ le = 0)) ∨ (rg = none ∧ ∃ x, dAt Z T top P = .fault x ∧ x.2 ≠ 0 ∧ FD w gb top (wrap64 (P + x.1)) x.2 ∧ (fin = true → la = wrap64 (P + x.1) ∧ le = x.2)))
theorem HS.blk {w : World} {hb B : Nat} {rh : Option Nat} {no : Nat → Prop} {L : List (Pk × Cn)} {la le : Int} (h : HS w hb B rh no L la le) : (∃ c, w.heap[hb]? = some (.cells c 57 (0, 0))) ∧ ∀ k, rh = some k → B ≤ k ∧ ∃ c, w.heap[k]? = some (.cells c 29 (0, 0)) := by
  obtain ⟨v, qs, ha, ho, hr, hp⟩ := h
  exact ⟨⟨_, ha⟩, fun k e => ⟨(ho.lt k (hr.trans e)).1, own_blk ho (hr.trans e)⟩⟩
theorem FD.blk {w : World} {fb : Nat} {most a e : Int} (h : FD w fb most a e) : ∃ c, w.heap[fb]? = some (.cells c 88 (0, 0)) := by
  obtain ⟨g, hg⟩ := h; exact ⟨_, hg⟩
section
variable {w w' : World} {gb yb B : Nat} {top : Int} {Z : Nat → Int} {T N : Nat} {fin : Bool} {P : Nat} {L : List (Pk × Cn)} {la le : Int}
theorem YC.keep (h : YC w gb yb B top Z T N fin P L la le) {S : Nat → Prop} (hc : Ch S w w') (hs : ∀ k, S k → k < B ∧ k ≠ gb ∧ k ≠ yb) : YC w' gb yb B top Z T N fin P L la le := by
  obtain ⟨rg, ry, hH, hst⟩ := h.ex
  refine ⟨h.pn, h.run, rg, ry, ?_, ?_⟩
  · exact hH.below S hc (fun q => (hs _ q).2.2 rfl) (fun k e q => by have := (hs _ q).1; have := (hH.blk.2 k e).1; omega) (fun b _ q => .inl (hs b q).1) (fun b _ q => q)
  · rcases hst with ⟨hF, hx⟩ | ⟨h0, x, hd, hx0, hF, hx⟩
    · refine .inl ⟨hF.keep (hc.block _ hF.lt.1 (fun q => (hs _ q).2.1 rfl)) (fun k e => hc.block _ (hF.lt.2 k e) (fun q => ?_)), hx⟩
      have := (hs _ q).1
      have := (hF.blk.2 k e).1
      omega
    · obtain ⟨c, hcc⟩ := hF.blk
      exact .inr ⟨h0, x, hd, hx0, hF.keep (hc.block _ (lt_of_block hcc) (fun q => (hs _ q).2.1 rfl)), hx⟩
theorem YC.below (h : YC w gb yb B top Z T N fin P L la le) (hb : Below w.heap.size w w') : YC w' gb yb B top Z T N fin P L la le := h.keep (S := fun _ => False) (Below.ch hb) (fun _ q => q.elim)
theorem YC.ne (h : YC w gb yb B top Z T N fin P L la le) : yb ≠ gb := by
  obtain ⟨rg, ry, hH, hst⟩ := h.ex
  obtain ⟨c, hc⟩ := hH.blk.1
  rcases hst with ⟨hF, _⟩ | ⟨_, _, _, _, hF, _⟩
  · obtain ⟨c', hc'⟩ := hF.blk.1; exact blk_ne hc hc' (by decide)
  · obtain ⟨c', hc'⟩ := hF.blk; exact blk_ne hc hc' (by decide)
/-- How many bytes are held, when all was asked. -/
def hv (Z : Nat → Int) (T : Nat) (top : Int) (P : Nat) : Nat := match dAt Z T top P with
  | .fault _ => 0
  | _ => T - P
end
end Go.Proofs.YtibihbclijpkjaaGreatDoor
namespace Go.Proofs.YtibihbclijpkjaaGreatDoor
open Go Go.RowKit
open Pkt (Pk Cn Sl In By Is Ss As pkCells Gd wpList_load_wanted box_below)
set_option linter.unusedSimpArgs false
set_option linter.unusedVariables false

/-- A text's cells, and a data's. -/
def tx (s : ByteArray) : List Value := cellsOf (numZ s.size) 2 ++ Lib.strCells s
def dt (z : Nat → Int) (n : Nat) : List Value := cellsOf (numZ n) 2 ++ cellsOf z n
def mq : ByteArray := { data := #[77, 81, 84, 84] }
/-- A Connect's cells. -/
def connL (p : Pk) (zw zp : Nat → Int) : List Value :=
  tx mq ++ [.int .u8 (p.level % 256), .int .u8 (marksV p)] ++ cellsOf (numZ p.keep) 2 ++ tx p.client ++ (if p.hasWill then tx p.wT ++ dt zw p.wP.n else []) ++ (if p.hasUser then tx p.user else []) ++ (if p.hasPass then dt zp p.pass.n else [])
def connN (p : Pk) : Nat :=
  12 + p.client.size + (if p.hasWill then 4 + p.wT.size + p.wP.n else 0) + (if p.hasUser then 2 + p.user.size else 0) + (if p.hasPass then 2 + p.pass.n else 0)
/-- What a Connect must keep to be written. -/
structure ConnOk (w0 : World) (p : Pk) (zw zp : Nat → Int) : Prop where
  cl : p.client.size ≤ 65535 ∧ (chk p.client).2 = 0
  wt : p.hasWill = true → p.wT.size ≤ 65535 ∧ (chk p.wT).2 = 0
  wp : p.hasWill = true → p.wP.n ≤ 65535
  us : p.hasUser = true → p.user.size ≤ 65535 ∧ (chk p.user).2 = 0
  ps : p.hasPass = true → p.pass.n ≤ 65535
  q : p.wQ = 0 ∨ p.wQ = 1 ∨ p.wQ = 2
  bw : By w0 p.wP zw
  bp : By w0 p.pass zp
theorem Lay.cast {B : Nat} {v0 v : Value} {W w : World} {n m : Nat} {xs ys : List Value} (h : Lay B v0 W w v n xs) (hn : n = m) (hx : xs = ys) : Lay B v0 W w v m ys := hn ▸ hx ▸ h

set_option maxRecDepth 100000 in
theorem mq_ok : (chk mq).2 = 0 := by decide +kernel

set_option maxRecDepth 100000 in
set_option maxHeartbeats 8000000 in
theorem wConnect_any (w0 w : World) (p : Pk) (zw zp : Nat → Int) (v : Value) (n : Nat) (xs : List Value) (h : w.ownsRow w0.heap.size 5 1 v n xs) (hv : v ≠ .slice none 0 0) (hb0 : Below w0.heap.size w0 w) (ok : ConnOk w0 p zw zp) (hn : n ≤ 10) :
    Calls Tryz.prog 66 #[v, .agg (pkCells p)] w fun e w' => Adds w0.heap.size v w w' e (n + connN p) (xs ++ connL p zw zp) := by
  obtain ⟨i0, hi, hz0, hz1, hz2⟩ := info_parts Tryz.info5
  obtain ⟨W, hW⟩ : ∃ W, W = w.alloc (.cells (pkCells p) 29) := ⟨_, rfl⟩
  have b0 : Hid (Below w.heap.size w W) := box_below hW
  have g0 : Hid (W.heap[w.heap.size]? = some (.cells (pkCells p) 29)) := by show _ = _; rw [hW]; exact heap_alloc_new w _
  have HV : Hid (v.ownBlock ≠ some w.heap.size) := fun e => by have := (h.lt _ e).2; omega
  have HOB : Hid (∀ k, v.ownBlock = some k → w0.heap.size ≤ k) := fun k e => (h.lt k e).1
  have L0 : Hid (Lay w0.heap.size v W W v n xs) := Lay.start (own_below h b0.out) hv
  have HB : Hid (w0.heap.size ≤ W.heap.size) := Nat.le_trans hb0.size b0.out.size
  have BW : Hid (Below w0.heap.size w0 W) := hb0.trans (b0.out.mono hb0.size)
  have HN : Hid (n ≤ 10) := hn
  have OK : Hid (ConnOk w0 p zw zp) := ok
  have HM : Hid (∀ u, Calls Tryz.prog 89 #[.agg (pkCells p)] u fun e w' => e = .returned (.int .u8 (marksV p)) ∧ Below u.heap.size u w') := fun u => marksOf_any p u ok.q
  obtain ⟨cs, hcs⟩ : ∃ cs, cs = pkCells p := ⟨_, rfl⟩
  have hsz : Hid (cs.size = 25) := by show _ = _; rw [hcs]; rfl
  have k1 : Hid (cs[1]? = some (.int .i64 p.level)) := by show _ = _; rw [hcs]; rfl
  have k3 : Hid (cs[3]? = some (.int .i64 p.keep)) := by show _ = _; rw [hcs]; rfl
  have k4 : Hid (cs[4]? = some (.string p.client)) := by show _ = _; rw [hcs]; rfl
  have k5 : Hid (cs[5]? = some (.bool p.hasWill)) := by show _ = _; rw [hcs]; rfl
  have k6 : Hid (cs[6]? = some (.string p.wT)) := by show _ = _; rw [hcs]; rfl
  have k7 : Hid (cs[7]? = some (.slice p.wP.a p.wP.n p.wP.c)) := by show _ = _; rw [hcs]; rfl
  have k10 : Hid (cs[10]? = some (.bool p.hasUser)) := by show _ = _; rw [hcs]; rfl
  have k11 : Hid (cs[11]? = some (.string p.user)) := by show _ = _; rw [hcs]; rfl
  have k12 : Hid (cs[12]? = some (.bool p.hasPass)) := by show _ = _; rw [hcs]; rfl
  have k13 : Hid (cs[13]? = some (.slice p.pass.a p.pass.n p.pass.c)) := by show _ = _; rw [hcs]; rfl
  rw [← hcs] at g0 HM ⊢
  rw [← hcs] at hW
  clear hcs h hv hb0 ok hn
  go_enter Tryz.func66, Tryz.ntmps66
  go_upto_region 1 with fail
  rw [← hW]
  clear hW
  go_wp2_with fail
  go_must (go_at_call 88)
  refine (wText_any w0.heap.size _ v _ mq W L0.out.own (Nat.le_trans HB.out L0.out.size) (by have := HN.out; have := OK.out.cl.1; omega) (by decide) mq_ok).mono ?_
  rintro e w1 ⟨v1, rfl, r1⟩
  have L1 : Hid (Lay w0.heap.size v W w1 v1 _ _) := L0.out.add ⟨v1, rfl, r1⟩
  have g1 : Hid (w1.heap[w.heap.size]? = some (.cells cs 29)) := L1.out.block g0.out HV.out
  clear r1
  go_wp2_with fail
  refine wp_region_held_drew (S := fun w' => Hid (w'.heap[w.heap.size]? = some (.cells cs 29))) (by kernel_rfl) g1.out (fun hHeld => ?_)
  refine wpAnyH_take (i := 0) (oi := { dst := Option.some 7, op := Go.Op.move (Go.Operand.tmp 0), type := 22, pos := "write.go:25", after := #[], guard := Option.none }) (v := v1) rfl (by kernel_rfl) (by kernel_rfl) (by kernel_rfl) (fun _ _ _ h => h) (Or.inl ⟨by kernel_rfl, fun wq _ => pureVal_run (by kernel_rfl) wq⟩) hHeld ?_
  simp only [Act.put, List.setIfInBounds_toArray, List.set_cons_zero, List.set_cons_succ]
  refine wpAnyH_take (i := 1) (oi := { dst := Option.some 8, op := Go.Op.fieldAddr 29 (Go.Operand.tmp 3) 1, type := 0, pos := "write.go:25", after := #[], guard := Option.none }) (v := .pointer (some ⟨w.heap.size, 1, none⟩)) rfl (by kernel_rfl) (by kernel_rfl) (by kernel_rfl) (fun _ _ _ h => h) (Or.inl ⟨by kernel_rfl, by intro wq hSw; clear hSw hHeld; go_simp⟩) hHeld ?_
  simp only [Act.put, List.setIfInBounds_toArray, List.set_cons_zero, List.set_cons_succ]
  refine wpAnyH_take (i := 2) (oi := { dst := Option.some 9, op := Go.Op.load 3 (Go.Operand.tmp 8), type := 3, pos := "write.go:25", after := #[{ on := 1, ground := Go.Ground.data }], guard := Option.none }) (v := .int .i64 p.level) rfl (by kernel_rfl) (by kernel_rfl) (by kernel_rfl) (fun _ _ _ h => h) (Or.inl ⟨by kernel_rfl, by intro wq hSw; have hk := box_cells (Hid.out hSw) 1 _ k1.out; clear hSw hHeld; go_simp⟩) hHeld ?_
  simp only [Act.put, List.setIfInBounds_toArray, List.set_cons_zero, List.set_cons_succ]
  refine wpAnyH_take (i := 3) (oi := { dst := Option.some 10, op := Go.Op.convert 3 5 (Go.Operand.tmp 9), type := 5, pos := "write.go:25", after := #[{ on := 2, ground := Go.Ground.data }], guard := Option.none }) (v := .int .u8 (IntKind.u8.wrap p.level)) rfl (by kernel_rfl) (by kernel_rfl) (by kernel_rfl) (fun _ _ _ h => h) (Or.inl ⟨by kernel_rfl, by intro wq hSw; clear hSw hHeld; go_simp⟩) hHeld ?_
  simp only [Act.put, List.setIfInBounds_toArray, List.set_cons_zero, List.set_cons_succ]
  refine wpAnyH_take (i := 4) (oi := { dst := Option.some 11, op := Go.Op.load 29 (Go.Operand.tmp 3), type := 29, pos := "write.go:25", after := #[], guard := Option.none }) (v := .agg cs) rfl (by kernel_rfl) (by kernel_rfl) (by kernel_rfl) (fun _ _ _ h => h) (Or.inl ⟨by kernel_rfl, fun wq hSw => yields_load29 rfl (by rfl) (Hid.out hSw) hsz.out⟩) hHeld ?_
  simp only [Act.put, List.setIfInBounds_toArray, List.set_cons_zero, List.set_cons_succ]
  refine wpAnyH_ready (rs := [5]) (by kernel_rfl) (by simp) ?_
  refine AllReadyH.cons (o := { dst := Option.some 12, op := Go.Op.call { callee := Go.Callee.value (Go.Operand.func 89), args := #[Go.Operand.tmp 11], argTypes := #[29] }, type := 5, pos := "write.go:25", after := #[{ on := 4, ground := Go.Ground.data }], guard := Option.none }) (by rfl) (fun K hK => ?_) AllReadyH.nil
  refine held_call (by kernel_rfl) 89 #[.agg cs] (by clear hHeld hK; go_simp) (R := fun x w' => x = .int .u8 (marksV p) ∧ Below w1.heap.size w1 w') ((HM.out w1.drew).mono fun e w' ⟨h1, h2⟩ => ⟨_, h1, rfl, (Below.refl _ _).drew.trans h2⟩) ?_
  rintro _ w2 ⟨rfl, hb2⟩
  have L2 : Hid (Lay w0.heap.size v W w2 v1 _ _) := L1.out.below hb2
  have g2 : Hid (w2.heap[w.heap.size]? = some (.cells cs 29)) := L2.out.block g0.out HV.out
  refine hK.out _ _ g2 (fun hHeld => ?_)
  clear hK K hb2
  simp only [Act.put, List.setIfInBounds_toArray, List.set_cons_zero, List.set_cons_succ]
  refine wpAnyH_ready (rs := [6]) (by kernel_rfl) (by simp) ?_
  refine AllReadyH.cons (o := { dst := Option.some 13, op := Go.Op.buildSlice 22 2 #[(0, Go.Operand.tmp 10), (1, Go.Operand.tmp 12)], type := 22, pos := "write.go:25", after := #[{ on := 3, ground := Go.Ground.data }, { on := 5, ground := Go.Ground.data }], guard := Option.none }) (by rfl) (fun K hK => ?_) AllReadyH.nil
  go_simp
  have L2b : Hid (Lay w0.heap.size v W (w2.alloc (.cells #[.int .u8 (p.level % 256), .int .u8 (marksV p)] 5)) v1 _ _) := L2.out.below ((Below.refl _ _).alloc (Nat.le_refl _) _)
  have gA : Hid ((w2.alloc (.cells #[.int .u8 (p.level % 256), .int .u8 (marksV p)] 5)).heap[w.heap.size]? = some (.cells cs 29)) := L2b.out.block g0.out HV.out
  refine hK.out _ _ gA (fun hHeld => ?_)
  clear hK K
  refine wpAnyH_ready (rs := [7]) (by kernel_rfl) (by simp) ?_
  refine AllReadyH.cons (o := { dst := Option.some 14, op := Go.Op.call { callee := Go.Callee.builtin Go.Builtin.append, args := #[Go.Operand.tmp 7, Go.Operand.tmp 13], argTypes := #[22, 22] }, type := 22, pos := "write.go:25", after := #[{ on := 0, ground := Go.Ground.data }, { on := 6, ground := Go.Ground.data }, { on := 5, ground := Go.Ground.chain }], guard := Option.none }) (by rfl) (fun K hK => ?_) AllReadyH.nil
  refine step_push rfl (.tmp 7) (.tmp 13) 22 rfl w0.heap.size 5 i0 (.int .u8 0) 1 1 Tryz.underlying22 hi hz0 hz1 hz2 rfl (by decide) v1 _ _ rfl L2b.out.own ⟨w2.heap.size, 0, none⟩ 2 2 [.int .u8 (p.level % 256), .int .u8 (marksV p)] rfl (by decide) rfl ?_ ?_ ?_ ?_ ?_ ?_
  · intro j u hu
    rw [plain_add, Nat.zero_add]
    show (w2.alloc (.cells #[.int .u8 (p.level % 256), .int .u8 (marksV p)] 5)).cell? _ = _
    rw [World.cell?_alloc_at _ _ _ _ rfl]
    simpa using hu
  · intro u hu; simp at hu; rcases hu with rfl | rfl <;> rfl
  · have := HN.out; have e : mq.size = 4 := rfl; unfold maxLen; omega
  · have := HN.out; have e : mq.size = 4 := rfl; omega
  · have := (Nat.le_trans HB.out L2.out.size); simp; omega
  intro v3 w3 o3 gb3 n3 wh3
  have L3 : Hid (Lay w0.heap.size v W w3 v3 (n + (2 + mq.size) + 2) (xs ++ (cellsOf (numZ mq.size) 2 ++ Lib.strCells mq) ++ [.int .u8 (p.level % 256), .int .u8 (marksV p)])) := L2b.out.add ⟨v3, rfl, o3, n3, gb3, fun k e => by
    rcases wh3 with h | h
    · exact .inl (h ▸ e)
    · rw [h] at e; cases e; exact .inr (Nat.le_refl _)⟩
  have g3 : Hid (w3.heap[w.heap.size]? = some (.cells cs 29)) := L3.out.block g0.out HV.out
  refine hK.out _ _ g3 (fun hHeld => ?_)
  clear hK K o3 gb3 n3 wh3 L2 L2b gA g2
  simp only [Act.put, List.setIfInBounds_toArray, List.set_cons_zero, List.set_cons_succ]
  refine wpAnyH_take (i := 8) (oi := { dst := Option.some 0, op := Go.Op.assign (Go.Operand.tmp 14), type := 22, pos := "write.go:25", after := #[{ on := 7, ground := Go.Ground.data }, { on := 7, ground := Go.Ground.chain }, { on := 0, ground := Go.Ground.phase }, { on := 1, ground := Go.Ground.phase }, { on := 2, ground := Go.Ground.phase }, { on := 3, ground := Go.Ground.phase }, { on := 4, ground := Go.Ground.phase }, { on := 5, ground := Go.Ground.phase }, { on := 6, ground := Go.Ground.phase }, { on := 7, ground := Go.Ground.phase }], guard := Option.none }) (v := v3) rfl (by kernel_rfl) (by kernel_rfl) (by kernel_rfl) (fun _ _ _ h => h) (Or.inl ⟨by kernel_rfl, fun wq _ => pureVal_run (by kernel_rfl) wq⟩) hHeld ?_
  simp only [Act.put, List.setIfInBounds_toArray, List.set_cons_zero, List.set_cons_succ]
  refine wpAnyH_done (by kernel_rfl) ?_ _
  have c3 := box_cells g3.out 3 _ k3.out
  clear hHeld
  go_wp2_with fail
  go_must (go_at_call 70)
  refine (wNumber_any w0.heap.size _ v3 _ p.keep w3 L3.out.own (Nat.le_trans HB.out L3.out.size) (by have := HN.out; have e : mq.size = 4 := rfl; omega)).mono ?_
  rintro e w4 ⟨v4, rfl, r4⟩
  have L4 : Hid (Lay w0.heap.size v W w4 v4 _ _) := L3.out.add ⟨v4, rfl, r4⟩
  have g4 : Hid (w4.heap[w.heap.size]? = some (.cells cs 29)) := L4.out.block g0.out HV.out
  clear r4 c3
  have c4 := box_cells g4.out 4 _ k4.out
  go_wp2_with fail
  go_must (go_at_call 88)
  refine (wText_any w0.heap.size _ v4 _ p.client w4 L4.out.own (Nat.le_trans HB.out L4.out.size) (by have := HN.out; have := OK.out.cl.1; have e : mq.size = 4 := rfl; omega) OK.out.cl.1 OK.out.cl.2).mono ?_
  rintro e w5 ⟨v5, rfl, r5⟩
  have L5 : Hid (Lay w0.heap.size v W w5 v5 _ _) := L4.out.add ⟨v5, rfl, r5⟩
  have g5 : Hid (w5.heap[w.heap.size]? = some (.cells cs 29)) := L5.out.block g0.out HV.out
  clear r5
  clear c4
  rcases Bool.eq_false_or_eq_true p.hasWill with hw | hw
  · have c5 := box_cells g5.out 5 _ k5.out
    rw [hw] at c5
    go_upto_region 6 with fail
    refine wp_region_held_drew (S := fun w' => Hid (w'.heap[w.heap.size]? = some (.cells cs 29))) (by kernel_rfl) g5.out (fun hHeld => ?_)
    refine wpAnyH_take (i := 0) (oi := { dst := Option.some 25, op := Go.Op.move (Go.Operand.tmp 0), type := 22, pos := "write.go:29", after := #[], guard := Option.none }) (v := v5) rfl (by kernel_rfl) (by kernel_rfl) (by kernel_rfl) (fun _ _ _ h => h) (Or.inl ⟨by kernel_rfl, fun wq _ => pureVal_run (by kernel_rfl) wq⟩) hHeld ?_
    simp only [Act.put, List.setIfInBounds_toArray, List.set_cons_zero, List.set_cons_succ]
    refine wpAnyH_take (i := 1) (oi := { dst := Option.some 26, op := Go.Op.fieldAddr 29 (Go.Operand.tmp 3) 6, type := 0, pos := "write.go:29", after := #[], guard := Option.none }) (v := .pointer (some ⟨w.heap.size, 6, none⟩)) rfl (by kernel_rfl) (by kernel_rfl) (by kernel_rfl) (fun _ _ _ h => h) (Or.inl ⟨by kernel_rfl, by intro wq hSw; clear hSw hHeld; go_simp⟩) hHeld ?_
    simp only [Act.put, List.setIfInBounds_toArray, List.set_cons_zero, List.set_cons_succ]
    refine wpAnyH_take (i := 2) (oi := { dst := Option.some 27, op := Go.Op.fieldAddr 24 (Go.Operand.tmp 26) 0, type := 0, pos := "write.go:29", after := #[{ on := 1, ground := Go.Ground.data }], guard := Option.none }) (v := .pointer (some ⟨w.heap.size, 6, none⟩)) rfl (by kernel_rfl) (by kernel_rfl) (by kernel_rfl) (fun _ _ _ h => h) (Or.inl ⟨by kernel_rfl, by intro wq hSw; clear hSw hHeld; go_simp⟩) hHeld ?_
    simp only [Act.put, List.setIfInBounds_toArray, List.set_cons_zero, List.set_cons_succ]
    refine wpAnyH_take (i := 3) (oi := { dst := Option.some 28, op := Go.Op.load 9 (Go.Operand.tmp 27), type := 9, pos := "write.go:29", after := #[{ on := 2, ground := Go.Ground.data }], guard := Option.none }) (v := .string p.wT) rfl (by kernel_rfl) (by kernel_rfl) (by kernel_rfl) (fun _ _ _ h => h) (Or.inl ⟨by kernel_rfl, by intro wq hSw; have hk := box_cells (Hid.out hSw) 6 _ k6.out; clear hSw hHeld; go_simp⟩) hHeld ?_
    simp only [Act.put, List.setIfInBounds_toArray, List.set_cons_zero, List.set_cons_succ]
    refine wpAnyH_take (i := 5) (oi := { dst := Option.some 30, op := Go.Op.fieldAddr 29 (Go.Operand.tmp 3) 6, type := 0, pos := "write.go:29", after := #[], guard := Option.none }) (v := .pointer (some ⟨w.heap.size, 6, none⟩)) rfl (by kernel_rfl) (by kernel_rfl) (by kernel_rfl) (fun _ _ _ h => h) (Or.inl ⟨by kernel_rfl, by intro wq hSw; clear hSw hHeld; go_simp⟩) hHeld ?_
    simp only [Act.put, List.setIfInBounds_toArray, List.set_cons_zero, List.set_cons_succ]
    refine wpAnyH_take (i := 6) (oi := { dst := Option.some 31, op := Go.Op.fieldAddr 24 (Go.Operand.tmp 30) 1, type := 0, pos := "write.go:29", after := #[{ on := 5, ground := Go.Ground.data }], guard := Option.none }) (v := .pointer (some ⟨w.heap.size, 7, none⟩)) rfl (by kernel_rfl) (by kernel_rfl) (by kernel_rfl) (fun _ _ _ h => h) (Or.inl ⟨by kernel_rfl, by intro wq hSw; clear hSw hHeld; go_simp⟩) hHeld ?_
    simp only [Act.put, List.setIfInBounds_toArray, List.set_cons_zero, List.set_cons_succ]
    refine wpAnyH_take (i := 7) (oi := { dst := Option.some 32, op := Go.Op.load 22 (Go.Operand.tmp 31), type := 22, pos := "write.go:29", after := #[{ on := 6, ground := Go.Ground.data }], guard := Option.none }) (v := .slice p.wP.a p.wP.n p.wP.c) rfl (by kernel_rfl) (by kernel_rfl) (by kernel_rfl) (fun _ _ _ h => h) (Or.inl ⟨by kernel_rfl, by intro wq hSw; have hk := box_cells (Hid.out hSw) 7 _ k7.out; clear hSw hHeld; go_simp⟩) hHeld ?_
    simp only [Act.put, List.setIfInBounds_toArray, List.set_cons_zero, List.set_cons_succ]
    refine wpAnyH_ready (rs := [4]) (by kernel_rfl) (by simp) ?_
    refine AllReadyH.cons (o := { dst := Option.some 29, op := Go.Op.call { callee := Go.Callee.value (Go.Operand.func 88), args := #[Go.Operand.tmp 25, Go.Operand.tmp 28], argTypes := #[22, 9] }, type := 22, pos := "write.go:29", after := #[{ on := 0, ground := Go.Ground.data }, { on := 3, ground := Go.Ground.data }], guard := Option.none }) (by rfl) (fun K hK => ?_) AllReadyH.nil
    have L5d : Hid (Lay w0.heap.size v W w5.drew v5 _ _) := L5.out.below (Below.refl _ _).drew
    refine held_call (by kernel_rfl) 88 #[v5, .string p.wT] (by clear hHeld hK; go_simp) (R := fun x w' => Adds w0.heap.size v5 w5.drew w' (.returned x) _ _) ((wText_any w0.heap.size _ v5 _ p.wT w5.drew L5d.out.own (Nat.le_trans HB.out L5.out.size) (by have := HN.out; have := OK.out.cl.1; have e : mq.size = 4 := rfl; omega) (OK.out.wt hw).1 (OK.out.wt hw).2).mono fun e w' ha => ⟨ha.choose, ha.choose_spec.1, ⟨ha.choose, rfl, ha.choose_spec.2⟩⟩) ?_
    intro v6 w6 r6
    have L6 : Hid (Lay w0.heap.size v W w6 v6 _ _) := L5d.out.add r6
    have g6 : Hid (w6.heap[w.heap.size]? = some (.cells cs 29)) := L6.out.block g0.out HV.out
    refine hK.out _ _ g6 (fun hHeld => ?_)
    clear hK K r6
    simp only [Act.put, List.setIfInBounds_toArray, List.set_cons_zero, List.set_cons_succ]
    refine wpAnyH_ready (rs := [8]) (by kernel_rfl) (by simp) ?_
    refine AllReadyH.cons (o := { dst := Option.some 33, op := Go.Op.call { callee := Go.Callee.value (Go.Operand.func 90), args := #[Go.Operand.tmp 29, Go.Operand.tmp 32], argTypes := #[22, 22] }, type := 22, pos := "write.go:29", after := #[{ on := 4, ground := Go.Ground.data }, { on := 7, ground := Go.Ground.data }, { on := 4, ground := Go.Ground.chain }], guard := Option.none }) (by rfl) (fun K hK => ?_) AllReadyH.nil
    have B6 : Hid (Below w0.heap.size w0 w6) := BW.out.trans (L6.out.old HB.out HOB.out)
    refine held_call (by kernel_rfl) 90 #[v6, .slice p.wP.a p.wP.n p.wP.c] (by clear hHeld hK; go_simp) (R := fun x w' => Adds w0.heap.size v6 w6 w' (.returned x) _ _) ((wData_any w0.heap.size _ v6 _ p.wP zw w6 L6.out.own L6.out.ne (Nat.le_trans HB.out L6.out.size) (by have := HN.out; have := OK.out.cl.1; have := (OK.out.wt hw).1; have e : mq.size = 4 := rfl; omega) (OK.out.bw.below B6.out) (OK.out.wp hw)).mono fun e w' ha => ⟨ha.choose, ha.choose_spec.1, ⟨ha.choose, rfl, ha.choose_spec.2⟩⟩) ?_
    intro v7 w7 r7
    have L7 : Hid (Lay w0.heap.size v W w7 v7 _ _) := L6.out.add r7
    have g7 : Hid (w7.heap[w.heap.size]? = some (.cells cs 29)) := L7.out.block g0.out HV.out
    refine hK.out _ _ g7 (fun hHeld => ?_)
    clear hK K r7
    simp only [Act.put, List.setIfInBounds_toArray, List.set_cons_zero, List.set_cons_succ]
    refine wpAnyH_take (i := 9) (oi := { dst := Option.some 0, op := Go.Op.assign (Go.Operand.tmp 33), type := 22, pos := "write.go:29", after := #[{ on := 8, ground := Go.Ground.data }, { on := 8, ground := Go.Ground.chain }, { on := 0, ground := Go.Ground.phase }, { on := 1, ground := Go.Ground.phase }, { on := 2, ground := Go.Ground.phase }, { on := 3, ground := Go.Ground.phase }, { on := 4, ground := Go.Ground.phase }, { on := 5, ground := Go.Ground.phase }, { on := 6, ground := Go.Ground.phase }, { on := 7, ground := Go.Ground.phase }, { on := 8, ground := Go.Ground.phase }], guard := Option.none }) (v := v7) rfl (by kernel_rfl) (by kernel_rfl) (by kernel_rfl) (fun _ _ _ h => h) (Or.inl ⟨by kernel_rfl, fun wq _ => pureVal_run (by kernel_rfl) wq⟩) hHeld ?_
    simp only [Act.put, List.setIfInBounds_toArray, List.set_cons_zero, List.set_cons_succ]
    refine wpAnyH_done (by kernel_rfl) ?_ _
    clear hHeld c5
    rcases Bool.eq_false_or_eq_true p.hasUser with hu | hu
    · have c10 := box_cells g7.out 10 _ k10.out
      rw [hu] at c10
      have c11 := box_cells g7.out 11 _ k11.out
      go_wp2_with fail
      go_must (go_at_call 88)
      refine (wText_any w0.heap.size _ v7 _ p.user w7 L7.out.own (Nat.le_trans HB.out L7.out.size) (by have := HN.out; have := OK.out.cl.1; have := HN.out; have := HN.out; have := OK.out.cl.1; have e : mq.size = 4 := rfl; have := (OK.out.wt hw).1; have := OK.out.wp hw; omega) (OK.out.us hu).1 (OK.out.us hu).2).mono ?_
      rintro e w8 ⟨v8, rfl, r8⟩
      have L8 : Hid (Lay w0.heap.size v W w8 v8 _ _) := L7.out.add ⟨v8, rfl, r8⟩
      have g8 : Hid (w8.heap[w.heap.size]? = some (.cells cs 29)) := L8.out.block g0.out HV.out
      clear r8
      clear c10 c11
      rcases Bool.eq_false_or_eq_true p.hasPass with hp | hp
      · have c12 := box_cells g8.out 12 _ k12.out
        rw [hp] at c12
        have c13 := box_cells g8.out 13 _ k13.out
        go_wp2_with fail
        go_must (go_at_call 90)
        have B9 : Hid (Below w0.heap.size w0 w8) := BW.out.trans (L8.out.old HB.out HOB.out)
        refine (wData_any w0.heap.size _ v8 _ p.pass zp w8 L8.out.own L8.out.ne (Nat.le_trans HB.out L8.out.size) (by have := HN.out; have := OK.out.cl.1; have e : mq.size = 4 := rfl; have := (OK.out.wt hw).1; have := OK.out.wp hw; have := (OK.out.us hu).1; omega) (OK.out.bp.below B9.out) (OK.out.ps hp)).mono ?_
        rintro e w9 ⟨v9, rfl, r9⟩
        have L9 : Hid (Lay w0.heap.size v W w9 v9 _ _) := L8.out.add ⟨v9, rfl, r9⟩
        clear r9 c12 c13
        go_wp2_with fail
        go_ret
        exact Lay.done b0.out (L9.out.cast (by have e : mq.size = 4 := rfl; simp only [connN, hw, hu, hp, if_true, Bool.false_eq_true, if_false]; omega) (by simp only [connL, tx, dt, hw, hu, hp, if_true, Bool.false_eq_true, if_false, List.append_assoc, List.append_nil]))
      · have c12 := box_cells g8.out 12 _ k12.out
        rw [hp] at c12
        have c13 := box_cells g8.out 13 _ k13.out
        go_wp2_with fail
        go_ret
        exact Lay.done b0.out (L8.out.cast (by have e : mq.size = 4 := rfl; simp only [connN, hw, hu, hp, if_true, Bool.false_eq_true, if_false]; omega) (by simp only [connL, tx, dt, hw, hu, hp, if_true, Bool.false_eq_true, if_false, List.append_assoc, List.append_nil]))
    · have c10 := box_cells g7.out 10 _ k10.out
      rw [hu] at c10
      have c11 := box_cells g7.out 11 _ k11.out
      rcases Bool.eq_false_or_eq_true p.hasPass with hp | hp
      · have c12 := box_cells g7.out 12 _ k12.out
        rw [hp] at c12
        have c13 := box_cells g7.out 13 _ k13.out
        go_wp2_with fail
        go_must (go_at_call 90)
        have B9 : Hid (Below w0.heap.size w0 w7) := BW.out.trans (L7.out.old HB.out HOB.out)
        refine (wData_any w0.heap.size _ v7 _ p.pass zp w7 L7.out.own L7.out.ne (Nat.le_trans HB.out L7.out.size) (by have := HN.out; have := OK.out.cl.1; have e : mq.size = 4 := rfl; have := (OK.out.wt hw).1; have := OK.out.wp hw; omega) (OK.out.bp.below B9.out) (OK.out.ps hp)).mono ?_
        rintro e w9 ⟨v9, rfl, r9⟩
        have L9 : Hid (Lay w0.heap.size v W w9 v9 _ _) := L7.out.add ⟨v9, rfl, r9⟩
        clear r9 c12 c13
        go_wp2_with fail
        go_ret
        exact Lay.done b0.out (L9.out.cast (by have e : mq.size = 4 := rfl; simp only [connN, hw, hu, hp, if_true, Bool.false_eq_true, if_false]; omega) (by simp only [connL, tx, dt, hw, hu, hp, if_true, Bool.false_eq_true, if_false, List.append_assoc, List.append_nil]))
      · have c12 := box_cells g7.out 12 _ k12.out
        rw [hp] at c12
        have c13 := box_cells g7.out 13 _ k13.out
        go_wp2_with fail
        go_ret
        exact Lay.done b0.out (L7.out.cast (by have e : mq.size = 4 := rfl; simp only [connN, hw, hu, hp, if_true, Bool.false_eq_true, if_false]; omega) (by simp only [connL, tx, dt, hw, hu, hp, if_true, Bool.false_eq_true, if_false, List.append_assoc, List.append_nil]))
  · rcases Bool.eq_false_or_eq_true p.hasUser with hu | hu
    · have c10 := box_cells g5.out 10 _ k10.out
      rw [hu] at c10
      have c11 := box_cells g5.out 11 _ k11.out
      have c5 := box_cells g5.out 5 _ k5.out
      rw [hw] at c5
      go_wp2_with fail
      go_must (go_at_call 88)
      refine (wText_any w0.heap.size _ v5 _ p.user w5 L5.out.own (Nat.le_trans HB.out L5.out.size) (by have := HN.out; have := OK.out.cl.1; have := HN.out; have := HN.out; have := OK.out.cl.1; have e : mq.size = 4 := rfl; omega) (OK.out.us hu).1 (OK.out.us hu).2).mono ?_
      rintro e w8 ⟨v8, rfl, r8⟩
      have L8 : Hid (Lay w0.heap.size v W w8 v8 _ _) := L5.out.add ⟨v8, rfl, r8⟩
      have g8 : Hid (w8.heap[w.heap.size]? = some (.cells cs 29)) := L8.out.block g0.out HV.out
      clear r8
      clear c10 c11 c5
      rcases Bool.eq_false_or_eq_true p.hasPass with hp | hp
      · have c12 := box_cells g8.out 12 _ k12.out
        rw [hp] at c12
        have c13 := box_cells g8.out 13 _ k13.out
        go_wp2_with fail
        go_must (go_at_call 90)
        have B9 : Hid (Below w0.heap.size w0 w8) := BW.out.trans (L8.out.old HB.out HOB.out)
        refine (wData_any w0.heap.size _ v8 _ p.pass zp w8 L8.out.own L8.out.ne (Nat.le_trans HB.out L8.out.size) (by have := HN.out; have := OK.out.cl.1; have e : mq.size = 4 := rfl; have := (OK.out.us hu).1; omega) (OK.out.bp.below B9.out) (OK.out.ps hp)).mono ?_
        rintro e w9 ⟨v9, rfl, r9⟩
        have L9 : Hid (Lay w0.heap.size v W w9 v9 _ _) := L8.out.add ⟨v9, rfl, r9⟩
        clear r9 c12 c13
        go_wp2_with fail
        go_ret
        exact Lay.done b0.out (L9.out.cast (by have e : mq.size = 4 := rfl; simp only [connN, hw, hu, hp, if_true, Bool.false_eq_true, if_false]; omega) (by simp only [connL, tx, dt, hw, hu, hp, if_true, Bool.false_eq_true, if_false, List.append_assoc, List.append_nil]))
      · have c12 := box_cells g8.out 12 _ k12.out
        rw [hp] at c12
        have c13 := box_cells g8.out 13 _ k13.out
        go_wp2_with fail
        go_ret
        exact Lay.done b0.out (L8.out.cast (by have e : mq.size = 4 := rfl; simp only [connN, hw, hu, hp, if_true, Bool.false_eq_true, if_false]; omega) (by simp only [connL, tx, dt, hw, hu, hp, if_true, Bool.false_eq_true, if_false, List.append_assoc, List.append_nil]))
    · have c10 := box_cells g5.out 10 _ k10.out
      rw [hu] at c10
      have c11 := box_cells g5.out 11 _ k11.out
      have c5 := box_cells g5.out 5 _ k5.out
      rw [hw] at c5
      rcases Bool.eq_false_or_eq_true p.hasPass with hp | hp
      · have c12 := box_cells g5.out 12 _ k12.out
        rw [hp] at c12
        have c13 := box_cells g5.out 13 _ k13.out
        go_wp2_with fail
        go_must (go_at_call 90)
        have B9 : Hid (Below w0.heap.size w0 w5) := BW.out.trans (L5.out.old HB.out HOB.out)
        refine (wData_any w0.heap.size _ v5 _ p.pass zp w5 L5.out.own L5.out.ne (Nat.le_trans HB.out L5.out.size) (by have := HN.out; have := OK.out.cl.1; have e : mq.size = 4 := rfl; omega) (OK.out.bp.below B9.out) (OK.out.ps hp)).mono ?_
        rintro e w9 ⟨v9, rfl, r9⟩
        have L9 : Hid (Lay w0.heap.size v W w9 v9 _ _) := L5.out.add ⟨v9, rfl, r9⟩
        clear r9 c12 c13
        go_wp2_with fail
        go_ret
        exact Lay.done b0.out (L9.out.cast (by have e : mq.size = 4 := rfl; simp only [connN, hw, hu, hp, if_true, Bool.false_eq_true, if_false]; omega) (by simp only [connL, tx, dt, hw, hu, hp, if_true, Bool.false_eq_true, if_false, List.append_assoc, List.append_nil]))
      · have c12 := box_cells g5.out 12 _ k12.out
        rw [hp] at c12
        have c13 := box_cells g5.out 13 _ k13.out
        go_wp2_with fail
        go_ret
        exact Lay.done b0.out (L5.out.cast (by have e : mq.size = 4 := rfl; simp only [connN, hw, hu, hp, if_true, Bool.false_eq_true, if_false]; omega) (by simp only [connL, tx, dt, hw, hu, hp, if_true, Bool.false_eq_true, if_false, List.append_assoc, List.append_nil]))
end Go.Proofs.YtibihbclijpkjaaGreatDoor
namespace Go.Proofs.YtibihbclijpkjaaGreatDoor
open Go Go.RowKit
open Pkt (Pk Cn Sl In By Is Ss As pkCells Gd wpList_load_wanted box_below)
set_option linter.unusedSimpArgs false
set_option linter.unusedVariables false

set_option maxRecDepth 100000 in
set_option maxHeartbeats 4000000 in
theorem wFields_ack (B : Nat) (w : World) (p : Pk) (v : Value) (n : Nat) (xs : List Value) (hk : p.kind = 2) (h : w.ownsRow B 5 1 v n xs) (hv : v ≠ .slice none 0 0) (hB : B ≤ w.heap.size) (hn : n ≤ 100000) :
    Calls Tryz.prog 43 #[v, .agg (pkCells p)] w fun e w' => Adds B v w w' e (n + 2) (xs ++ [.int .u8 (mkU p.present 1), .int .u8 (p.code % 256)]) := by
  obtain ⟨i0, hi, hz0, hz1, hz2⟩ := info_parts Tryz.info5
  obtain ⟨W, hW⟩ : ∃ W, W = w.alloc (.cells (pkCells p) 29) := ⟨_, rfl⟩
  have b0 : Hid (Below w.heap.size w W) := box_below hW
  have g0 : Hid (W.heap[w.heap.size]? = some (.cells (pkCells p) 29)) := by show _ = _; rw [hW]; exact heap_alloc_new w _
  have k0 : W.cell? ⟨w.heap.size, 0, none⟩ = some (.int .i64 2) := box_cells g0.out 0 _ (by rw [← hk]; rfl)
  have HV : Hid (v.ownBlock ≠ some w.heap.size) := fun e => by have := (h.lt _ e).2; omega
  have HO : Hid (W.ownsRow B 5 1 v n xs) := own_below h b0.out
  have HVN : Hid (v ≠ .slice none 0 0) := hv
  have HN : Hid (n ≤ 100000 ∧ B ≤ W.heap.size) := ⟨hn, Nat.le_trans hB b0.out.size⟩
  obtain ⟨cs, hcs⟩ : ∃ cs, cs = pkCells p := ⟨_, rfl⟩
  have k14 : Hid (cs[14]? = some (.bool p.present)) := by show _ = _; rw [hcs]; rfl
  have k15 : Hid (cs[15]? = some (.int .i64 p.code)) := by show _ = _; rw [hcs]; rfl
  rw [← hcs] at g0 ⊢
  rw [← hcs] at hW
  clear hcs h hv hB hn hk
  go_enter Tryz.func43, Tryz.ntmps43
  go_upto_region 1 with fail
  rw [← hW]
  clear hW
  go_wp2_with fail
  refine wp_region_held_drew (S := fun w' => Hid (w'.heap[w.heap.size]? = some (.cells cs 29))) (by kernel_rfl) g0.out (fun hHeld => ?_)
  refine wpAnyH_take (i := 0) (oi := { dst := Option.some 14, op := Go.Op.move (Go.Operand.tmp 0), type := 22, pos := "write.go:14", after := #[], guard := Option.none }) (v := v) rfl (by kernel_rfl) (by kernel_rfl) (by kernel_rfl) (fun _ _ _ h => h) (Or.inl ⟨by kernel_rfl, fun wq _ => pureVal_run (by kernel_rfl) wq⟩) hHeld ?_
  simp only [Act.put, List.setIfInBounds_toArray, List.set_cons_zero, List.set_cons_succ]
  refine wpAnyH_take (i := 1) (oi := { dst := Option.some 15, op := Go.Op.fieldAddr 29 (Go.Operand.tmp 3) 11, type := 0, pos := "write.go:14", after := #[], guard := Option.none }) (v := .pointer (some ⟨w.heap.size, 14, none⟩)) rfl (by kernel_rfl) (by kernel_rfl) (by kernel_rfl) (fun _ _ _ h => h) (Or.inl ⟨by kernel_rfl, by intro wq hSw; clear hSw hHeld; go_simp⟩) hHeld ?_
  simp only [Act.put, List.setIfInBounds_toArray, List.set_cons_zero, List.set_cons_succ]
  refine wpAnyH_take (i := 2) (oi := { dst := Option.some 16, op := Go.Op.load 4 (Go.Operand.tmp 15), type := 4, pos := "write.go:14", after := #[{ on := 1, ground := Go.Ground.data }], guard := Option.none }) (v := .bool p.present) rfl (by kernel_rfl) (by kernel_rfl) (by kernel_rfl) (fun _ _ _ h => h) (Or.inl ⟨by kernel_rfl, by intro wq hSw; have hk := box_cells (Hid.out hSw) 14 _ k14.out; clear hSw hHeld; go_simp⟩) hHeld ?_
  simp only [Act.put, List.setIfInBounds_toArray, List.set_cons_zero, List.set_cons_succ]
  refine wpAnyH_take (i := 4) (oi := { dst := Option.some 18, op := Go.Op.fieldAddr 29 (Go.Operand.tmp 3) 12, type := 0, pos := "write.go:14", after := #[], guard := Option.none }) (v := .pointer (some ⟨w.heap.size, 15, none⟩)) rfl (by kernel_rfl) (by kernel_rfl) (by kernel_rfl) (fun _ _ _ h => h) (Or.inl ⟨by kernel_rfl, by intro wq hSw; clear hSw hHeld; go_simp⟩) hHeld ?_
  simp only [Act.put, List.setIfInBounds_toArray, List.set_cons_zero, List.set_cons_succ]
  refine wpAnyH_take (i := 5) (oi := { dst := Option.some 19, op := Go.Op.load 3 (Go.Operand.tmp 18), type := 3, pos := "write.go:14", after := #[{ on := 4, ground := Go.Ground.data }], guard := Option.none }) (v := .int .i64 p.code) rfl (by kernel_rfl) (by kernel_rfl) (by kernel_rfl) (fun _ _ _ h => h) (Or.inl ⟨by kernel_rfl, by intro wq hSw; have hk := box_cells (Hid.out hSw) 15 _ k15.out; clear hSw hHeld; go_simp⟩) hHeld ?_
  simp only [Act.put, List.setIfInBounds_toArray, List.set_cons_zero, List.set_cons_succ]
  refine wpAnyH_take (i := 6) (oi := { dst := Option.some 20, op := Go.Op.convert 3 5 (Go.Operand.tmp 19), type := 5, pos := "write.go:14", after := #[{ on := 5, ground := Go.Ground.data }], guard := Option.none }) (v := .int .u8 (IntKind.u8.wrap p.code)) rfl (by kernel_rfl) (by kernel_rfl) (by kernel_rfl) (fun _ _ _ h => h) (Or.inl ⟨by kernel_rfl, by intro wq hSw; clear hSw hHeld; go_simp⟩) hHeld ?_
  simp only [Act.put, List.setIfInBounds_toArray, List.set_cons_zero, List.set_cons_succ]
  refine wpAnyH_ready (rs := [3]) (by kernel_rfl) (by simp) ?_
  refine AllReadyH.cons (o := { dst := Option.some 17, op := Go.Op.call { callee := Go.Callee.value (Go.Operand.func 67), args := #[Go.Operand.tmp 16, Go.Operand.const (Go.Value.int Go.IntKind.u8 1)], argTypes := #[4, 5] }, type := 5, pos := "write.go:14", after := #[{ on := 2, ground := Go.Ground.data }], guard := Option.none }) (by rfl) (fun K hK => ?_) AllReadyH.nil
  refine held_call (by kernel_rfl) 67 #[.bool p.present, .int .u8 1] (by clear hHeld hK; go_simp) (R := fun x w' => x = .int .u8 (mkU p.present 1) ∧ w' = W.drew) ((mark_any p.present 1 W.drew).mono fun e w' ⟨h1, h2⟩ => ⟨_, h1, rfl, h2⟩) ?_
  rintro _ _ ⟨rfl, rfl⟩
  refine hK.out _ _ hHeld (fun hHeld => ?_)
  clear hK K
  simp only [Act.put, List.setIfInBounds_toArray, List.set_cons_zero, List.set_cons_succ]
  refine wpAnyH_ready (rs := [7]) (by kernel_rfl) (by simp) ?_
  refine AllReadyH.cons (o := { dst := Option.some 21, op := Go.Op.buildSlice 22 2 #[(0, Go.Operand.tmp 17), (1, Go.Operand.tmp 20)], type := 22, pos := "write.go:14", after := #[{ on := 3, ground := Go.Ground.data }, { on := 6, ground := Go.Ground.data }], guard := Option.none }) (by rfl) (fun K hK => ?_) AllReadyH.nil
  go_simp
  have gA : Hid ((W.alloc (.cells #[.int .u8 (mkU p.present 1), .int .u8 (p.code % 256)] 5)).drew.heap[w.heap.size]? = some (.cells cs 29)) := (((Below.refl _ _).alloc (Nat.le_refl _) _).drew.block _ (heap_in g0.out)).trans g0.out
  refine hK.out _ _ gA.out (fun hHeld => ?_)
  clear hK K
  refine wpAnyH_ready (rs := [8]) (by kernel_rfl) (by simp) ?_
  refine AllReadyH.cons (o := { dst := Option.some 22, op := Go.Op.call { callee := Go.Callee.builtin Go.Builtin.append, args := #[Go.Operand.tmp 14, Go.Operand.tmp 21], argTypes := #[22, 22] }, type := 22, pos := "write.go:14", after := #[{ on := 0, ground := Go.Ground.data }, { on := 7, ground := Go.Ground.data }, { on := 3, ground := Go.Ground.chain }], guard := Option.none }) (by rfl) (fun K hK => ?_) AllReadyH.nil
  have HO2 : Hid ((W.alloc (.cells #[.int .u8 (mkU p.present 1), .int .u8 (p.code % 256)] 5)).drew.ownsRow B 5 1 v n xs) := own_below HO.out ((Below.refl _ _).alloc (Nat.le_refl _) _).drew
  refine step_push rfl (.tmp 14) (.tmp 21) 22 rfl B 5 i0 (.int .u8 0) 1 1 Tryz.underlying22 hi hz0 hz1 hz2 rfl (by decide) v n xs rfl HO2.out ⟨W.heap.size, 0, none⟩ 2 2 [.int .u8 (mkU p.present 1), .int .u8 (p.code % 256)] rfl (by decide) rfl ?_ ?_ ?_ ?_ ?_ ?_
  · intro j u hu
    rw [plain_add, Nat.zero_add]
    show (W.alloc (.cells #[.int .u8 (mkU p.present 1), .int .u8 (p.code % 256)] 5)).cell? _ = _
    rw [World.cell?_alloc_at _ _ _ _ rfl]
    simpa using hu
  · intro u hu; simp at hu; rcases hu with rfl | rfl <;> rfl
  · have := HN.out; unfold maxLen; omega
  · have := HN.out; omega
  · have := HN.out; simp; omega
  intro v2 w2 o2 gb2 n2 wh2
  have A2 : Hid (Adds B v w w2 (.returned v2) (n + 2) (xs ++ [.int .u8 (mkU p.present 1), .int .u8 (p.code % 256)])) := by
    refine ⟨v2, rfl, o2, n2, grown_on (v1 := v) (below_gb (b0.out.trans (((Below.refl _ _).alloc (Nat.le_refl _) _).drew.mono b0.out.size))) (fun k e => .inl e) gb2, fun k e => ?_⟩
    have hs := b0.out.size
    rcases wh2 with h | h
    · exact .inl (h ▸ e)
    · rw [h] at e; cases e; exact .inr (by simp; omega)
  have g2 : Hid (w2.heap[w.heap.size]? = some (.cells cs 29)) := gb_block gb2 gA.out HV.out
  refine hK.out _ _ g2.out (fun hHeld => ?_)
  clear hK K o2 gb2 n2 wh2
  simp only [Act.put, List.setIfInBounds_toArray, List.set_cons_zero, List.set_cons_succ]
  refine wpAnyH_take (i := 9) (oi := { dst := Option.some 4, op := Go.Op.assign (Go.Operand.tmp 22), type := 22, pos := "write.go:14", after := #[{ on := 8, ground := Go.Ground.data }, { on := 8, ground := Go.Ground.chain }, { on := 0, ground := Go.Ground.phase }, { on := 1, ground := Go.Ground.phase }, { on := 2, ground := Go.Ground.phase }, { on := 3, ground := Go.Ground.phase }, { on := 4, ground := Go.Ground.phase }, { on := 5, ground := Go.Ground.phase }, { on := 6, ground := Go.Ground.phase }, { on := 7, ground := Go.Ground.phase }, { on := 8, ground := Go.Ground.phase }], guard := Option.none }) (v := v2) rfl (by kernel_rfl) (by kernel_rfl) (by kernel_rfl) (fun _ _ _ h => h) (Or.inl ⟨by kernel_rfl, fun wq _ => pureVal_run (by kernel_rfl) wq⟩) hHeld ?_
  simp only [Act.put, List.setIfInBounds_toArray, List.set_cons_zero, List.set_cons_succ]
  refine wpAnyH_done (by kernel_rfl) ?_ _
  go_wp2_with fail
  go_ret
  exact A2.out
end Go.Proofs.YtibihbclijpkjaaGreatDoor
namespace Go.Proofs.YtibihbclijpkjaaGreatDoor
open Go Go.RowKit
open Pkt (Pk Cn Sl In By Is Ss As pkCells Gd wpList_load_wanted box_below)
set_option linter.unusedSimpArgs false
set_option linter.unusedVariables false

/-- A Publish's cells. -/
def pubL (p : Pk) (z : Nat → Int) : List Value := tx p.mT ++ (if 0 < p.mQ then cellsOf (numZ p.id) 2 else []) ++ cellsOf z p.mP.n
def pubN (p : Pk) : Nat := 2 + p.mT.size + (if 0 < p.mQ then 2 else 0) + p.mP.n

set_option maxRecDepth 100000 in
set_option maxHeartbeats 2000000 in
theorem wPub_any (w0 w : World) (p : Pk) (z : Nat → Int) (v : Value) (n : Nat) (xs : List Value) (h : w.ownsRow w0.heap.size 5 1 v n xs) (hv : v ≠ .slice none 0 0) (hb0 : Below w0.heap.size w0 w) (hp : By w0 p.mP z) (hn : n ≤ 10) (hm : p.mP.n ≤ 300000) (hs : p.mT.size ≤ 65535) (hc : (chk p.mT).2 = 0) :
    Calls Tryz.prog 68 #[v, .agg (pkCells p)] w fun e w' => Adds w0.heap.size v w w' e (n + pubN p) (xs ++ pubL p z) := by
  obtain ⟨W, hW⟩ : ∃ W, W = w.alloc (.cells (pkCells p) 29) := ⟨_, rfl⟩
  have b0 : Hid (Below w.heap.size w W) := box_below hW
  have g0 : Hid (W.heap[w.heap.size]? = some (.cells (pkCells p) 29)) := by show _ = _; rw [hW]; exact heap_alloc_new w _
  have HV : Hid (v.ownBlock ≠ some w.heap.size) := fun e => by have := (h.lt _ e).2; omega
  have HOB : Hid (∀ k, v.ownBlock = some k → w0.heap.size ≤ k) := fun k e => (h.lt k e).1
  have L0 : Hid (Lay w0.heap.size v W W v n xs) := Lay.start (own_below h b0.out) hv
  have HB : Hid (w0.heap.size ≤ W.heap.size) := Nat.le_trans hb0.size b0.out.size
  have BW : Hid (Below w0.heap.size w0 W) := hb0.trans (b0.out.mono hb0.size)
  have HP : Hid (By w0 p.mP z) := hp
  have HN : Hid (n ≤ 10 ∧ p.mP.n ≤ 300000 ∧ p.mT.size ≤ 65535 ∧ (chk p.mT).2 = 0) := ⟨hn, hm, hs, hc⟩
  obtain ⟨cs, hcs⟩ : ∃ cs, cs = pkCells p := ⟨_, rfl⟩
  have k17 : Hid (cs[17]? = some (.string p.mT)) := by show _ = _; rw [hcs]; rfl
  have k18 : Hid (cs[18]? = some (.slice p.mP.a p.mP.n p.mP.c)) := by show _ = _; rw [hcs]; rfl
  have k19 : Hid (cs[19]? = some (.int .i64 p.mQ)) := by show _ = _; rw [hcs]; rfl
  have k21 : Hid (cs[21]? = some (.int .i64 p.id)) := by show _ = _; rw [hcs]; rfl
  rw [← hcs] at g0 ⊢
  rw [← hcs] at hW
  clear hcs h hb0 hp hn hm hs hc hv
  have c17 := box_cells g0.out 17 _ k17.out
  go_enter Tryz.func68, Tryz.ntmps68
  go_upto_region 1 with fail
  rw [← hW]
  clear hW
  go_wp2_with fail
  go_must (go_at_call 88)
  refine (wText_any w0.heap.size n v xs p.mT W L0.out.own HB.out (by have := HN.out; omega) HN.out.2.2.1 HN.out.2.2.2).mono ?_
  rintro e w1 ⟨v1, rfl, r1⟩
  have L1 : Hid (Lay w0.heap.size v W w1 v1 _ _) := L0.out.add ⟨v1, rfl, r1⟩
  have g1 : Hid (w1.heap[w.heap.size]? = some (.cells cs 29)) := L1.out.block g0.out HV.out
  have c19 := box_cells g1.out 19 _ k19.out
  have c21 := box_cells g1.out 21 _ k21.out
  clear r1 c17
  by_cases hq : 0 < p.mQ
  · go_wp2_with fail
    go_must (go_at_call 70)
    refine (wNumber_any w0.heap.size _ v1 _ p.id w1 L1.out.own (Nat.le_trans HB.out L1.out.size) (by have := HN.out; omega)).mono ?_
    rintro e w2 ⟨v2, rfl, r2⟩
    have L2 : Hid (Lay w0.heap.size v W w2 v2 _ _) := L1.out.add ⟨v2, rfl, r2⟩
    have g2 : Hid (w2.heap[w.heap.size]? = some (.cells cs 29)) := L2.out.block g0.out HV.out
    have Y2 : Hid (By w2 p.mP z) := HP.out.below (BW.out.trans (L2.out.old HB.out HOB.out))
    have c18 := box_cells g2.out 18 _ k18.out
    clear r2 c19 c21
    go_wp2_with (at_builtin; refine wpList_push_by rfl (.tmp 18) (.tmp 21) rfl w0.heap.size _ v2 _ rfl L2.out.own L2.out.ne p.mP z rfl Y2.out (by have := HN.out; omega) (by have := HN.out; omega) (Nat.le_trans HB.out L2.out.size) ?_)
    intro v3 w3 ad3
    have L3 : Hid (Lay w0.heap.size v W w3 v3 _ _) := L2.out.add ad3
    clear ad3 c18
    go_wp2_with fail
    go_ret
    exact Lay.done b0.out (L3.out.cast (by simp only [pubN, hq, if_true]; omega) (by simp only [pubL, tx, hq, if_true, List.append_assoc]))
  · have hq2 : Hid (¬ 0 < p.mQ) := hq
    have c18 := box_cells g1.out 18 _ k18.out
    have Y2 : Hid (By w1 p.mP z) := HP.out.below (BW.out.trans (L1.out.old HB.out HOB.out))
    go_wp2_with (at_builtin; refine wpList_push_by rfl (.tmp 18) (.tmp 21) rfl w0.heap.size _ v1 _ rfl L1.out.own L1.out.ne p.mP z rfl Y2.out (by have := HN.out; omega) (by have := HN.out; omega) (Nat.le_trans HB.out L1.out.size) ?_)
    intro v3 w3 ad3
    have L3 : Hid (Lay w0.heap.size v W w3 v3 _ _) := L1.out.add ad3
    clear ad3 c18
    go_wp2_with fail
    go_ret
    exact Lay.done b0.out (L3.out.cast (by simp only [pubN, if_neg (Int.not_lt.mpr hq2.out)]; omega) (by simp only [pubL, tx, if_neg (Int.not_lt.mpr hq2.out), List.append_assoc, List.nil_append, List.append_nil]))

theorem Adds.before {B : Nat} {v : Value} {w W w' : World} {e : Ending} {n : Nat} {xs : List Value} (hb : Below w.heap.size w W) (h : Adds B v W w' e n xs) : Adds B v w w' e n xs := by
  obtain ⟨u, he, o, ne, g, a⟩ := h
  exact ⟨u, he, o, ne, grown_on (v1 := v) (below_gb hb) (fun k e => .inl e) g, fun k e => (a k e).elim .inl (fun q => .inr (Nat.le_trans hb.size q))⟩

set_option maxRecDepth 100000 in
set_option maxHeartbeats 2000000 in
theorem wFields_one (w0 w : World) (p : Pk)  (v : Value) (n : Nat) (xs : List Value) (hk : p.kind = 1) (m : Nat) (R : List Value) (HC : ∀ W, Below w.heap.size w W → Calls Tryz.prog 66 #[v, .agg (pkCells p)] W fun e w' => Adds w0.heap.size v W w' e m R) :
    Calls Tryz.prog 43 #[v, .agg (pkCells p)] w fun e w' => Adds w0.heap.size v w w' e m R := by
  obtain ⟨W, hW⟩ : ∃ W, W = w.alloc (.cells (pkCells p) 29) := ⟨_, rfl⟩
  have b0 : Hid (Below w.heap.size w W) := box_below hW
  have g0 : Hid (W.heap[w.heap.size]? = some (.cells (pkCells p) 29)) := by show _ = _; rw [hW]; exact heap_alloc_new w _
  have k0 : W.cell? ⟨w.heap.size, 0, none⟩ = some (.int .i64 1) := box_cells g0.out 0 _ (by rw [← hk]; rfl)
  have HC : Hid (Calls Tryz.prog 66 #[v, .agg (pkCells p)] W fun e w' => Adds w0.heap.size v W w' e m R) := HC W b0.out
  obtain ⟨cs, hcs⟩ : ∃ cs, cs = pkCells p := ⟨_, rfl⟩
  have hsz : Hid (cs.size = 25) := by show _ = _; rw [hcs]; rfl
  rw [← hcs] at HC g0 ⊢
  rw [← hcs] at hW
  clear hcs hk
  go_enter Tryz.func43, Tryz.ntmps43
  go_upto_region 1 with fail
  rw [← hW]
  clear hW
  go_wp2_with (first | (refine wpList_load_wanted rfl _ rfl w.heap.size rfl _ (0, 0) g0.out hsz.out ?_) | fail)
  go_must (go_at_call 66)
  refine HC.out.mono ?_
  rintro e w1 ⟨v1, rfl, r1⟩
  have A1 : Hid (Adds w0.heap.size v w w1 (.returned v1) m R) := Adds.before b0.out ⟨v1, rfl, r1⟩
  clear r1 k0
  go_wp2_with fail
  go_ret
  exact A1.out

set_option maxRecDepth 100000 in
set_option maxHeartbeats 2000000 in
theorem wFields_three (w0 w : World) (p : Pk)  (v : Value) (n : Nat) (xs : List Value) (hk : p.kind = 3) (m : Nat) (R : List Value) (HC : ∀ W, Below w.heap.size w W → Calls Tryz.prog 68 #[v, .agg (pkCells p)] W fun e w' => Adds w0.heap.size v W w' e m R) :
    Calls Tryz.prog 43 #[v, .agg (pkCells p)] w fun e w' => Adds w0.heap.size v w w' e m R := by
  obtain ⟨W, hW⟩ : ∃ W, W = w.alloc (.cells (pkCells p) 29) := ⟨_, rfl⟩
  have b0 : Hid (Below w.heap.size w W) := box_below hW
  have g0 : Hid (W.heap[w.heap.size]? = some (.cells (pkCells p) 29)) := by show _ = _; rw [hW]; exact heap_alloc_new w _
  have k0 : W.cell? ⟨w.heap.size, 0, none⟩ = some (.int .i64 3) := box_cells g0.out 0 _ (by rw [← hk]; rfl)
  have HC : Hid (Calls Tryz.prog 68 #[v, .agg (pkCells p)] W fun e w' => Adds w0.heap.size v W w' e m R) := HC W b0.out
  obtain ⟨cs, hcs⟩ : ∃ cs, cs = pkCells p := ⟨_, rfl⟩
  have hsz : Hid (cs.size = 25) := by show _ = _; rw [hcs]; rfl
  rw [← hcs] at HC g0 ⊢
  rw [← hcs] at hW
  clear hcs hk
  go_enter Tryz.func43, Tryz.ntmps43
  go_upto_region 1 with fail
  rw [← hW]
  clear hW
  go_wp2_with (first | (refine wpList_load_wanted rfl _ rfl w.heap.size rfl _ (0, 0) g0.out hsz.out ?_) | fail)
  go_must (go_at_call 68)
  refine HC.out.mono ?_
  rintro e w1 ⟨v1, rfl, r1⟩
  have A1 : Hid (Adds w0.heap.size v w w1 (.returned v1) m R) := Adds.before b0.out ⟨v1, rfl, r1⟩
  clear r1 k0
  go_wp2_with fail
  go_ret
  exact A1.out

set_option maxRecDepth 100000 in
set_option maxHeartbeats 2000000 in
theorem wFields_no12 (B : Nat) (w : World) (p : Pk) (v : Value) (n : Nat) (xs : List Value) (hk : p.kind = 12) (h : w.ownsRow B 5 1 v n xs) (hv : v ≠ .slice none 0 0) :
    Calls Tryz.prog 43 #[v, .agg (pkCells p)] w fun e w' => Adds B v w w' e n xs := by
  obtain ⟨W, hW⟩ : ∃ W, W = w.alloc (.cells (pkCells p) 29) := ⟨_, rfl⟩
  have b0 : Hid (Below w.heap.size w W) := box_below hW
  have g0 : Hid (W.heap[w.heap.size]? = some (.cells (pkCells p) 29)) := by show _ = _; rw [hW]; exact heap_alloc_new w _
  have k0 : W.cell? ⟨w.heap.size, 0, none⟩ = some (.int .i64 12) := box_cells g0.out 0 _ (by rw [← hk]; rfl)
  have A1 : Hid (Adds B v w W (.returned v) n xs) := Adds.before b0.out ⟨v, rfl, own_below h b0.out, hv, World.grownBy.refl _ _, fun k e => .inl e⟩
  obtain ⟨cs, hcs⟩ : ∃ cs, cs = pkCells p := ⟨_, rfl⟩
  rw [← hcs] at g0 ⊢
  rw [← hcs] at hW
  clear hcs hk h hv
  go_enter Tryz.func43, Tryz.ntmps43
  go_upto_region 1 with fail
  rw [← hW]
  clear hW
  go_wp2_with fail
  go_ret
  exact A1.out

set_option maxRecDepth 100000 in
set_option maxHeartbeats 2000000 in
theorem wFields_no13 (B : Nat) (w : World) (p : Pk) (v : Value) (n : Nat) (xs : List Value) (hk : p.kind = 13) (h : w.ownsRow B 5 1 v n xs) (hv : v ≠ .slice none 0 0) :
    Calls Tryz.prog 43 #[v, .agg (pkCells p)] w fun e w' => Adds B v w w' e n xs := by
  obtain ⟨W, hW⟩ : ∃ W, W = w.alloc (.cells (pkCells p) 29) := ⟨_, rfl⟩
  have b0 : Hid (Below w.heap.size w W) := box_below hW
  have g0 : Hid (W.heap[w.heap.size]? = some (.cells (pkCells p) 29)) := by show _ = _; rw [hW]; exact heap_alloc_new w _
  have k0 : W.cell? ⟨w.heap.size, 0, none⟩ = some (.int .i64 13) := box_cells g0.out 0 _ (by rw [← hk]; rfl)
  have A1 : Hid (Adds B v w W (.returned v) n xs) := Adds.before b0.out ⟨v, rfl, own_below h b0.out, hv, World.grownBy.refl _ _, fun k e => .inl e⟩
  obtain ⟨cs, hcs⟩ : ∃ cs, cs = pkCells p := ⟨_, rfl⟩
  rw [← hcs] at g0 ⊢
  rw [← hcs] at hW
  clear hcs hk h hv
  go_enter Tryz.func43, Tryz.ntmps43
  go_upto_region 1 with fail
  rw [← hW]
  clear hW
  go_wp2_with fail
  go_ret
  exact A1.out

set_option maxRecDepth 100000 in
set_option maxHeartbeats 2000000 in
theorem wFields_no14 (B : Nat) (w : World) (p : Pk) (v : Value) (n : Nat) (xs : List Value) (hk : p.kind = 14) (h : w.ownsRow B 5 1 v n xs) (hv : v ≠ .slice none 0 0) :
    Calls Tryz.prog 43 #[v, .agg (pkCells p)] w fun e w' => Adds B v w w' e n xs := by
  obtain ⟨W, hW⟩ : ∃ W, W = w.alloc (.cells (pkCells p) 29) := ⟨_, rfl⟩
  have b0 : Hid (Below w.heap.size w W) := box_below hW
  have g0 : Hid (W.heap[w.heap.size]? = some (.cells (pkCells p) 29)) := by show _ = _; rw [hW]; exact heap_alloc_new w _
  have k0 : W.cell? ⟨w.heap.size, 0, none⟩ = some (.int .i64 14) := box_cells g0.out 0 _ (by rw [← hk]; rfl)
  have A1 : Hid (Adds B v w W (.returned v) n xs) := Adds.before b0.out ⟨v, rfl, own_below h b0.out, hv, World.grownBy.refl _ _, fun k e => .inl e⟩
  obtain ⟨cs, hcs⟩ : ∃ cs, cs = pkCells p := ⟨_, rfl⟩
  rw [← hcs] at g0 ⊢
  rw [← hcs] at hW
  clear hcs hk h hv
  go_enter Tryz.func43, Tryz.ntmps43
  go_upto_region 1 with fail
  rw [← hW]
  clear hW
  go_wp2_with fail
  go_ret
  exact A1.out

end Go.Proofs.YtibihbclijpkjaaGreatDoor
