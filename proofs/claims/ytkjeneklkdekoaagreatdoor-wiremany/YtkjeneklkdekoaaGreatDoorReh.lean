import Derived.Test.YtkjeneklkdekoaaGreatDoorRec
import Derived.Deep.RegionHeldLaw
namespace Go.Proofs.YtkjeneklkdekoaaGreatDoor
open Go Go.RowKit
set_option linter.unusedSimpArgs false
set_option linter.unusedVariables false

theorem row_at {w : World} {a : Option Addr} {n k : Nat} {Z : Nat → Int} (h : w.ownsRow 0 5 1 (.slice a n k) n (cellsOf Z n)) (hn : 0 < n) : ∃ g, a = some ⟨g, 0, none⟩ ∧ n ≤ k ∧ ∀ i, i < n → w.cell? ⟨g, i, none⟩ = some (.int .u8 (Z i)) := by
  have h0 := h
  rcases h.2 with ⟨q, h0⟩ | ⟨g, cap, cur, q, _, hg, hc, _⟩
  · omega
  · injection q with q1 q2 q3
    subst q1 q3
    refine ⟨g, rfl, ?_, fun i hi => ?_⟩
    · omega
    · have := h0.cells (g := g) rfl i (.int .u8 (Z i)) (by simp [cellsOf, hi])
      rw [Rm.plain_add, Nat.zero_add] at this
      exact this
/-- What comes of a number of bytes. -/
def rByte (z : Nat → Int) (l : Nat) (r : Rs) : Int × Rs := (if (rTake l r 1).1 then z r.at0 else 0, (rTake l r 1).2)
def rNum (z : Nat → Int) (l : Nat) (r : Rs) : Int × Rs := (if (rTake l r 2).1 then z r.at0 * 256 + z (r.at0 + 1) else 0, (rTake l r 2).2)
def rLong (z : Nat → Int) (l : Nat) (r : Rs) : Int × Rs := (if (rTake l r 4).1 then ((z r.at0 * 256 + z (r.at0 + 1)) * 256 + z (r.at0 + 2)) * 256 + z (r.at0 + 3) else 0, (rTake l r 4).2)
set_option maxRecDepth 100000 in
set_option maxHeartbeats 1000000 in
theorem refByte_any {w : World} {mb : Nat} {a : Option Addr} {l c : Nat} {z : Nat → Int} {r : Rs} (h : Rrd w mb a l c z r) : Calls Tryz.prog 66 #[.pointer (some ⟨mb, 0, none⟩)] w fun e w' => e = .returned (.int .u8 (rByte z l r).1) ∧ Rrd w' mb a l c z (rByte z l r).2 ∧ w.grownBy w' (some mb) := by
  have H := hidi (rtake_any h 1)
  unfold rByte
  obtain ⟨b, hb⟩ : ∃ b, (rTake l r 1).1 = b := ⟨_, rfl⟩
  rw [hb] at H ⊢
  obtain ⟨r2, hr2⟩ : ∃ r2, (rTake l r 1).2 = r2 := ⟨_, rfl⟩
  rw [hr2] at H ⊢
  clear hb hr2 h
  go_enter Tryz.func66, Tryz.ntmps66
  go_wp2_with fail
  go_must (go_at_call 109)
  refine (H.out).mono ?_
  rintro e w1 ⟨a', m, k, rfl, hm, q1, q2, q3, q4⟩
  have Z : Hid (Rrd w1 mb a l c z r2 ∧ w.grownBy w1 (some mb)) := ⟨q3, q4⟩
  cases b
  · obtain rfl : m = 0 := hm
    clear q1 q2 q3 q4
    go_wp2_with fail
    all_goals (try go_ret)
    all_goals exact ⟨rfl, Z.out⟩
  · obtain rfl : m = 1 := hm
    obtain ⟨g, rfl, hk, hc⟩ := row_at q1 (by omega)
    have d0 := hc 0 (by omega)
    clear q1 q2 q3 q4 hc
    go_wp2_with fail
    all_goals (try go_ret)
    all_goals exact ⟨rfl, Z.out⟩
set_option maxRecDepth 100000 in
set_option maxHeartbeats 1000000 in
theorem refNum_any {w : World} {mb : Nat} {a : Option Addr} {l c : Nat} {z : Nat → Int} {r : Rs} (h : Rrd w mb a l c z r) : Calls Tryz.prog 68 #[.pointer (some ⟨mb, 0, none⟩)] w fun e w' => e = .returned (.int .i64 (rNum z l r).1) ∧ Rrd w' mb a l c z (rNum z l r).2 ∧ w.grownBy w' (some mb) := by
  have H := hidi (rtake_any h 2)
  have z0 := h.cm.2.1 r.at0
  have z1 := h.cm.2.1 (r.at0 + 1)
  unfold rNum
  obtain ⟨b, hb⟩ : ∃ b, (rTake l r 2).1 = b := ⟨_, rfl⟩
  rw [hb] at H ⊢
  obtain ⟨r2, hr2⟩ : ∃ r2, (rTake l r 2).2 = r2 := ⟨_, rfl⟩
  rw [hr2] at H ⊢
  obtain ⟨x, hx⟩ : ∃ x, z r.at0 = x := ⟨_, rfl⟩
  obtain ⟨y, hy⟩ : ∃ y, z (r.at0 + 1) = y := ⟨_, rfl⟩
  rw [hx] at z0 ⊢
  rw [hy] at z1 ⊢
  have HX : Hid (∀ (w1 : World) (g : Nat), w1.cell? ⟨g, 0, none⟩ = some (.int .u8 (z (r.at0 + 0))) → w1.cell? ⟨g, 1, none⟩ = some (.int .u8 (z (r.at0 + 1))) → w1.cell? ⟨g, 0, none⟩ = some (.int .u8 x) ∧ w1.cell? ⟨g, 1, none⟩ = some (.int .u8 y)) := fun w1 g q1 q2 => ⟨by rw [q1, Nat.add_zero, hx], by rw [q2, hy]⟩
  have e1 : IntKind.i64.wrap x = x := by rw [IntKind.wrap_i64]; omega
  have e2 : IntKind.i64.wrap y = y := by rw [IntKind.wrap_i64]; omega
  have e3 : IntKind.i64.wrap (256 * x) = 256 * x := by rw [IntKind.wrap_i64]; omega
  have e4 : IntKind.i64.wrap (256 * x + y) = x * 256 + y := by rw [IntKind.wrap_i64]; omega
  have w1' : wrap64 (256 * x) = 256 * x := by unfold wrap64; omega
  have w2' : wrap64 (256 * x + y) = x * 256 + y := by unfold wrap64; omega
  clear hb hr2 h hx hy z0 z1
  go_enter Tryz.func68, Tryz.ntmps68
  go_wp2_with fail
  go_must (go_at_call 109)
  refine (H.out).mono ?_
  rintro e w1 ⟨a', m, k, rfl, hm, q1, q2, q3, q4⟩
  have Z : Hid (Rrd w1 mb a l c z r2 ∧ w.grownBy w1 (some mb)) := ⟨q3, q4⟩
  have Z' : Hid (Rrd w1.drew mb a l c z r2 ∧ w.grownBy w1.drew (some mb)) := ⟨q3.next (gb_bel (Below.drew (Below.refl _ _))) q3.rr q3.le, gb_two q4 (gb_bel (Below.drew (Below.refl _ _)))⟩
  cases b
  · obtain rfl : m = 0 := hm
    clear q1 q2 q3 q4
    go_wp2_with fail
    all_goals (try go_ret)
    all_goals exact ⟨rfl, Z.out⟩
  · obtain rfl : m = 2 := hm
    obtain ⟨g, rfl, hk, hc⟩ := row_at q1 (by omega)
    obtain ⟨d0, d1⟩ := HX.out w1 g (hc 0 (by omega)) (hc 1 (by omega))
    clear q1 q2 q3 q4 hc
    go_wp2_with fail
    go_region
    all_goals go_wp2_with fail
    all_goals (try go_ret)
    all_goals exact ⟨rfl, Z'.out⟩
end Go.Proofs.YtkjeneklkdekoaaGreatDoor
namespace Go.Proofs.YtkjeneklkdekoaaGreatDoor
open Go Go.RowKit
set_option linter.unusedSimpArgs false
set_option linter.unusedVariables false

theorem Rrd.drewd {w : World} {mb : Nat} {a : Option Addr} {l c : Nat} {z : Nat → Int} {r : Rs} (h : Rrd w mb a l c z r) : Rrd w.drew mb a l c z r := h.next (gb_bel (Below.drew (Below.refl _ _))) h.rr h.le
theorem gb_drew1 {a b : World} {k : Nat} (h : a.grownBy b (some k)) : a.grownBy b.drew (some k) := gb_two h (gb_bel (Below.drew (Below.refl _ _)))
set_option maxRecDepth 100000 in
set_option maxHeartbeats 2000000 in
theorem refLong_any {w : World} {mb : Nat} {a : Option Addr} {l c : Nat} {z : Nat → Int} {r : Rs} (h : Rrd w mb a l c z r) : Calls Tryz.prog 70 #[.pointer (some ⟨mb, 0, none⟩)] w fun e w' => e = .returned (.int .i64 (rLong z l r).1) ∧ Rrd w' mb a l c z (rLong z l r).2 ∧ w.grownBy w' (some mb) := by
  have H := hidi (rtake_any h 4)
  have z0 := h.cm.2.1 r.at0
  have z1 := h.cm.2.1 (r.at0 + 1)
  have z2 := h.cm.2.1 (r.at0 + 2)
  have z3 := h.cm.2.1 (r.at0 + 3)
  unfold rLong
  obtain ⟨b, hb⟩ : ∃ b, (rTake l r 4).1 = b := ⟨_, rfl⟩
  rw [hb] at H ⊢
  obtain ⟨r2, hr2⟩ : ∃ r2, (rTake l r 4).2 = r2 := ⟨_, rfl⟩
  rw [hr2] at H ⊢
  obtain ⟨x, hx⟩ : ∃ x, z r.at0 = x := ⟨_, rfl⟩
  obtain ⟨y, hy⟩ : ∃ y, z (r.at0 + 1) = y := ⟨_, rfl⟩
  obtain ⟨u, hu⟩ : ∃ u, z (r.at0 + 2) = u := ⟨_, rfl⟩
  obtain ⟨v, hv⟩ : ∃ v, z (r.at0 + 3) = v := ⟨_, rfl⟩
  rw [hx] at z0 ⊢
  rw [hy] at z1 ⊢
  rw [hu] at z2 ⊢
  rw [hv] at z3 ⊢
  have HX : Hid (∀ (w1 : World) (g : Nat), (∀ i, i < 4 → w1.cell? ⟨g, i, none⟩ = some (.int .u8 (z (r.at0 + i)))) → w1.cell? ⟨g, 0, none⟩ = some (.int .u8 x) ∧ w1.cell? ⟨g, 1, none⟩ = some (.int .u8 y) ∧ w1.cell? ⟨g, 2, none⟩ = some (.int .u8 u) ∧ w1.cell? ⟨g, 3, none⟩ = some (.int .u8 v)) := fun w1 g q => ⟨by rw [q 0 (by omega), Nat.add_zero, hx], by rw [q 1 (by omega), hy], by rw [q 2 (by omega), hu], by rw [q 3 (by omega), hv]⟩
  have e1 : IntKind.i64.wrap x = x := by rw [IntKind.wrap_i64]; omega
  have e2 : IntKind.i64.wrap y = y := by rw [IntKind.wrap_i64]; omega
  have e3 : IntKind.i64.wrap u = u := by rw [IntKind.wrap_i64]; omega
  have e4 : IntKind.i64.wrap v = v := by rw [IntKind.wrap_i64]; omega
  have e5 : IntKind.i64.wrap (x * 256) = x * 256 := by rw [IntKind.wrap_i64]; omega
  have e6 : IntKind.i64.wrap (x * 256 + y) = x * 256 + y := by rw [IntKind.wrap_i64]; omega
  have e7 : IntKind.i64.wrap ((x * 256 + y) * 256) = (x * 256 + y) * 256 := by rw [IntKind.wrap_i64]; omega
  have e8 : IntKind.i64.wrap ((x * 256 + y) * 256 + u) = (x * 256 + y) * 256 + u := by rw [IntKind.wrap_i64]; omega
  have e9 : IntKind.i64.wrap (((x * 256 + y) * 256 + u) * 256) = ((x * 256 + y) * 256 + u) * 256 := by rw [IntKind.wrap_i64]; omega
  have e10 : IntKind.i64.wrap (((x * 256 + y) * 256 + u) * 256 + v) = ((x * 256 + y) * 256 + u) * 256 + v := by rw [IntKind.wrap_i64]; omega
  have k5 : wrap64 (x * 256) = x * 256 := by unfold wrap64; omega
  have k6 : wrap64 (x * 256 + y) = x * 256 + y := by unfold wrap64; omega
  have k7 : wrap64 ((x * 256 + y) * 256) = (x * 256 + y) * 256 := by unfold wrap64; omega
  have k8 : wrap64 ((x * 256 + y) * 256 + u) = (x * 256 + y) * 256 + u := by unfold wrap64; omega
  have k9 : wrap64 (((x * 256 + y) * 256 + u) * 256) = ((x * 256 + y) * 256 + u) * 256 := by unfold wrap64; omega
  have k10 : wrap64 (((x * 256 + y) * 256 + u) * 256 + v) = ((x * 256 + y) * 256 + u) * 256 + v := by unfold wrap64; omega
  clear hb hr2 h hx hy hu hv z0 z1 z2 z3
  go_enter Tryz.func70, Tryz.ntmps70
  go_wp2_with fail
  go_must (go_at_call 109)
  refine (H.out).mono ?_
  rintro e w1 ⟨a', m, k, rfl, hm, q1, q2, q3, q4⟩
  have Z : Hid (Rrd w1 mb a l c z r2 ∧ w.grownBy w1 (some mb)) := ⟨q3, q4⟩
  have Z' : Hid (Rrd w1.drew mb a l c z r2 ∧ w.grownBy w1.drew (some mb)) := ⟨q3.drewd, gb_drew1 q4⟩
  cases b
  · obtain rfl : m = 0 := hm
    clear q1 q2 q3 q4
    go_wp2_with fail
    all_goals (try go_ret)
    all_goals exact ⟨rfl, Z.out⟩
  · obtain rfl : m = 4 := hm
    obtain ⟨g, rfl, hk, hc⟩ := row_at q1 (by omega)
    obtain ⟨d0, d1, d2, d3⟩ := HX.out w1 g hc
    clear q1 q2 q3 q4 hc
    go_wp2_with fail
    go_region
    all_goals go_wp2_with fail
    all_goals (try go_ret)
    all_goals exact ⟨rfl, Z'.out⟩
/-- The end. -/
def rEnd (l : Nat) (r : Rs) : Rs := if r.q ≠ 0 then r else if r.at0 < l then r.gaveUp r.at0 15 else r
set_option maxRecDepth 100000 in
set_option maxHeartbeats 1000000 in
theorem refEnd_any {w : World} {mb : Nat} {a : Option Addr} {l c : Nat} {z : Nat → Int} {r : Rs} (h : Rrd w mb a l c z r) : Calls Tryz.prog 80 #[.pointer (some ⟨mb, 0, none⟩)] w fun e w' => e = .returned (.tuple #[]) ∧ Rrd w' mb a l c z (rEnd l r) ∧ w.grownBy w' (some mb) := by
  obtain ⟨c0, c1, c2, c3, f⟩ := h.rr.facts
  have hle := h.le
  have Z0 : Hid (Rrd w.drew mb a l c z r ∧ w.grownBy w.drew (some mb)) := ⟨h.drewd, gb_drew1 (gb_refl _ _)⟩
  have F0 := hidi (rfail_any h.rr.drew (r.at0 : Int) 15)
  unfold rEnd
  by_cases hq : r.q ≠ 0
  · rw [if_pos hq]
    have e1 : (r.q == 0) = false := by simpa using hq
    clear h hq f
    go_enter Tryz.func80, Tryz.ntmps80
    go_wp2_with fail
    go_region
    all_goals go_wp2_with fail
    all_goals (try go_end0)
    all_goals exact ⟨rfl, Z0.out⟩
  rw [if_neg hq]
  have q0 : r.q = 0 := by simpa using hq
  have e1 : (r.q == 0) = true := by simpa using q0
  by_cases hk : r.at0 < l
  · rw [if_pos hk]
    have e2 : (r.at0 : Int) < (l : Int) := by omega
    have hg : w.grownBy ((w.drew.setCell ⟨mb, 2, none⟩ (.int .i64 15)).setCell ⟨mb, 3, none⟩ (.int .i64 r.at0)) (some mb) := gb_drew2 (gb_two (rr_gb1 _ _ _ _) (rr_gb1 _ _ _ _))
    have Z : Hid (Rrd ((w.drew.setCell ⟨mb, 2, none⟩ (.int .i64 15)).setCell ⟨mb, 3, none⟩ (.int .i64 r.at0)) mb a l c z (r.gaveUp r.at0 15) ∧ w.grownBy ((w.drew.setCell ⟨mb, 2, none⟩ (.int .i64 15)).setCell ⟨mb, 3, none⟩ (.int .i64 r.at0)) (some mb)) := ⟨h.next (r' := r.gaveUp r.at0 15) hg ((h.rr.drew.set2 15).set3 _) hle, hg⟩
    clear h hq f hg hk hle q0
    go_enter Tryz.func80, Tryz.ntmps80
    go_wp2_with fail
    go_region
    all_goals go_wp2_with fail
    all_goals go_must (go_at_call 118)
    all_goals refine (F0.out).mono ?_
    all_goals rintro e w' ⟨rfl, rfl⟩
    all_goals go_wp2_with fail
    all_goals (try go_end0)
    all_goals exact ⟨rfl, Z.out⟩
  · rw [if_neg hk]
    have e2 : ¬ (r.at0 : Int) < (l : Int) := by omega
    clear h hq f hk hle q0
    go_enter Tryz.func80, Tryz.ntmps80
    go_wp2_with fail
    go_region
    all_goals go_wp2_with fail
    all_goals (try go_end0)
    all_goals exact ⟨rfl, Z0.out⟩
end Go.Proofs.YtkjeneklkdekoaaGreatDoor
namespace Go.Proofs.YtkjeneklkdekoaaGreatDoor
open Go Go.RowKit
set_option linter.unusedSimpArgs false
set_option linter.unusedVariables false

theorem rNum_nat {z : Nat → Int} (hz : ∀ i, 0 ≤ z i ∧ z i ≤ 255) (l : Nat) (r : Rs) : ((rNum z l r).1.toNat : Int) = (rNum z l r).1 := by
  have h0 := hz r.at0
  have h1 := hz (r.at0 + 1)
  unfold rNum
  dsimp only
  split <;> omega
/-- Data: how many bytes, from where, and the reader behind it. -/
def rDat (z : Nat → Int) (l : Nat) (r : Rs) : (Nat × Nat) × Rs :=
  if (rTake l (rNum z l r).2 (rNum z l r).1.toNat).1 then (((rNum z l r).1.toNat, (rNum z l r).2.at0), (rTake l (rNum z l r).2 (rNum z l r).1.toNat).2)
  else ((0, (rNum z l r).2.at0), ⟨r.at0, (rTake l (rNum z l r).2 (rNum z l r).1.toNat).2.p, (rTake l (rNum z l r).2 (rNum z l r).1.toNat).2.q⟩)
set_option maxRecDepth 100000 in
set_option maxHeartbeats 1000000 in
theorem refData_any {w : World} {mb : Nat} {a : Option Addr} {l c : Nat} {z : Nat → Int} {r : Rs} (h : Rrd w mb a l c z r) : Calls Tryz.prog 76 #[.pointer (some ⟨mb, 0, none⟩)] w fun e w' => ∃ a' k, e = .returned (.slice a' (rDat z l r).1.1 k) ∧ w'.ownsRow 0 5 1 (.slice a' (rDat z l r).1.1 k) (rDat z l r).1.1 (cellsOf (fun i => z ((rDat z l r).1.2 + i)) (rDat z l r).1.1) ∧ (∀ g, a' = some ⟨g, 0, none⟩ → w.heap.size ≤ g) ∧ Rrd w' mb a l c z (rDat z l r).2 ∧ w.grownBy w' (some mb) := by
  have H := hidi (refNum_any h)
  have hn := rNum_nat h.cm.2.1 l r
  unfold rDat
  obtain ⟨n, en⟩ : ∃ n, (rNum z l r).1.toNat = n := ⟨_, rfl⟩
  obtain ⟨r1, er1⟩ : ∃ r1, (rNum z l r).2 = r1 := ⟨_, rfl⟩
  rw [en] at hn ⊢
  rw [← hn, er1] at H
  rw [er1]
  obtain ⟨b, eb⟩ : ∃ b, (rTake l r1 n).1 = b := ⟨_, rfl⟩
  obtain ⟨r2, er2⟩ : ∃ r2, (rTake l r1 n).2 = r2 := ⟨_, rfl⟩
  have HT : Hid (∀ w1, Rrd w1 mb a l c z r1 → Calls Tryz.prog 109 #[.pointer (some ⟨mb, 0, none⟩), .int .i64 (n : Int)] w1 fun e w' => ∃ a' m k, e = .returned (.tuple #[.slice a' m k, .bool b]) ∧ m = (if b then n else 0) ∧ w'.ownsRow 0 5 1 (.slice a' m k) m (cellsOf (fun i => z (r1.at0 + i)) m) ∧ (∀ g, a' = some ⟨g, 0, none⟩ → w1.heap.size ≤ g) ∧ Rrd w' mb a l c z r2 ∧ w1.grownBy w' (some mb)) := fun w1 h1 => by
    have := rtake_any h1 n
    rw [eb, er2] at this
    exact this
  rw [eb, er2]
  obtain ⟨c0, c1, c2, c3, f⟩ := h.rr.facts
  have hle := hidi h.le
  have hmb := hidi (lt_of_block h.rr)
  clear en er1 hn eb er2 f h
  go_enter Tryz.func76, Tryz.ntmps76
  go_wp2_with fail
  go_must (go_at_call 68)
  refine (H.out).mono ?_
  rintro e w1 ⟨rfl, q1, q2⟩
  have J := hidi (HT.out w1 q1)
  have G1 := hidi q2
  clear q1 q2
  go_wp2_with fail
  go_must (go_at_call 109)
  refine (J.out).mono ?_
  rintro e w2 ⟨a', m, k, rfl, hm, s1, s2, s3, s4⟩
  have hs1 := G1.out.size
  cases b
  · obtain rfl : m = 0 := hm
    obtain ⟨d0, d1, d2, d3, f2⟩ := s3.rr.facts
    have f21 := f2 1
    have hg : w.grownBy (w2.setCell ⟨mb, 1, none⟩ (.int .i64 r.at0)) (some mb) := gb_two (gb_two G1.out s4) (rr_gb1 _ _ _ _)
    have Z : Hid ((w2.setCell ⟨mb, 1, none⟩ (.int .i64 r.at0)).ownsRow 0 5 1 (.slice a' 0 k) 0 [] ∧ (∀ g, a' = some ⟨g, 0, none⟩ → w.heap.size ≤ g) ∧ Rrd (w2.setCell ⟨mb, 1, none⟩ (.int .i64 r.at0)) mb a l c z ⟨r.at0, r2.p, r2.q⟩ ∧ w.grownBy (w2.setCell ⟨mb, 1, none⟩ (.int .i64 r.at0)) (some mb)) := ⟨own_keep s1 (fun j e => Below.heap_setCell _ _ _ _ (fun q => by
      have q : j = mb := q
      obtain ⟨cc, hcc⟩ := own_blk s1 e
      have := s3.rr
      unfold Rr at this
      rw [← q, hcc] at this
      simp at this)), fun g e => Nat.le_trans hs1 (s2 g e), s3.next (r' := ⟨r.at0, r2.p, r2.q⟩) (rr_gb1 _ _ _ _) (s3.rr.set1 _) hle.out, hg⟩
    clear s1 s2 s3 s4 f2 hs1 hg
    go_wp2_with fail
    all_goals (try go_ret)
    all_goals exact ⟨a', k, rfl, Z.out⟩
  · obtain rfl : m = n := hm
    have Z : Hid (w2.ownsRow 0 5 1 (.slice a' m k) m (cellsOf (fun i => z (r1.at0 + i)) m) ∧ (∀ g, a' = some ⟨g, 0, none⟩ → w.heap.size ≤ g) ∧ Rrd w2 mb a l c z r2 ∧ w.grownBy w2 (some mb)) := ⟨s1, fun g e => Nat.le_trans hs1 (s2 g e), s3, gb_two G1.out s4⟩
    clear s1 s2 s3 s4 hs1
    go_wp2_with fail
    all_goals (try go_ret)
    all_goals exact ⟨a', k, rfl, Z.out⟩
end Go.Proofs.YtkjeneklkdekoaaGreatDoor
namespace Go.Proofs.YtkjeneklkdekoaaGreatDoor
open Go Go.RowKit
set_option linter.unusedSimpArgs false
set_option linter.unusedVariables false

theorem chkF_le (s : ByteArray) : ∀ b k, (chkF s b k).1 ≤ s.size
  | 0, k => by simp [chkF]
  | b + 1, k => by
    unfold chkF
    split
    · split
      · dsimp only
        omega
      · split
        · dsimp only
          omega
        · exact chkF_le s b _
    · simp
theorem chk_le (s : ByteArray) : (chk s).1 ≤ 65535 := by
  unfold chk
  split
  · simp
  · have := chkF_le s s.size 0
    omega
theorem own_came {w : World} {a : Option Addr} {n k : Nat} {Z : Nat → Int} (h : w.ownsRow 0 5 1 (.slice a n k) n (cellsOf Z n)) (hz : ∀ i, 0 ≤ Z i ∧ Z i ≤ 255) : Came w a n k Z := ownv_came h rfl hz
/-- Text. -/
def rTxtS (z : Nat → Int) (l : Nat) (r : Rs) : ByteArray := strZ (fun i => z ((rDat z l r).1.2 + i)) (rDat z l r).1.1
def rTxt (z : Nat → Int) (l : Nat) (r : Rs) : ByteArray × Rs :=
  if (rDat z l r).2.q ≠ 0 then (⟨#[]⟩, (rDat z l r).2) else if (chk (rTxtS z l r)).2 ≠ 0 then (⟨#[]⟩, ⟨r.at0, ((r.at0 + 2 + (chk (rTxtS z l r)).1 : Nat) : Int), ((chk (rTxtS z l r)).2 : Nat)⟩) else (rTxtS z l r, (rDat z l r).2)
set_option maxRecDepth 100000 in
set_option maxHeartbeats 1000000 in
theorem refText_any {w : World} {mb : Nat} {a : Option Addr} {l c : Nat} {z : Nat → Int} {r : Rs} (h : Rrd w mb a l c z r) : Calls Tryz.prog 74 #[.pointer (some ⟨mb, 0, none⟩)] w fun e w' => e = .returned (.string (rTxt z l r).1) ∧ Rrd w' mb a l c z (rTxt z l r).2 ∧ w.grownBy w' (some mb) := by
  have H := hidi (refData_any h)
  have hz := h.cm.2.1
  unfold rTxt
  have hS : rTxtS z l r = strZ (fun i => z ((rDat z l r).1.2 + i)) (rDat z l r).1.1 := rfl
  obtain ⟨s, es⟩ : ∃ s, rTxtS z l r = s := ⟨_, rfl⟩
  rw [es] at hS ⊢
  obtain ⟨m, em⟩ : ∃ m, (rDat z l r).1.1 = m := ⟨_, rfl⟩
  obtain ⟨o, eo⟩ : ∃ o, (rDat z l r).1.2 = o := ⟨_, rfl⟩
  obtain ⟨r2, er⟩ : ∃ r2, (rDat z l r).2 = r2 := ⟨_, rfl⟩
  rw [em, eo] at hS
  rw [em, eo, er] at H
  rw [er]
  obtain ⟨pl, q, hcq⟩ : ∃ pl q, chk s = (pl, q) := ⟨_, _, rfl⟩
  have hpl := chk_le s
  have HK : Hid (∀ w1 : World, Calls Tryz.prog 85 #[.string s] w1 fun e w' => e = .returned (.tuple #[.int .i64 (pl : Nat), .int .i64 (q : Nat)]) ∧ w' = w1) := fun w1 => by
    have := Rm.ref_any s w1
    rw [chk_rm, hcq] at this
    exact this
  rw [hcq] at hpl ⊢
  dsimp only at hpl ⊢
  have hle := h.le
  have hfw := h.few
  have e1 : IntKind.i64.wrap ((r.at0 : Int) + 2) = (r.at0 : Int) + 2 := by rw [IntKind.wrap_i64]; omega
  have e2 : IntKind.i64.wrap ((r.at0 : Int) + 2 + (pl : Int)) = ((r.at0 + 2 + pl : Nat) : Int) := by rw [IntKind.wrap_i64]; omega
  have e3 : wrap64 ((r.at0 : Int) + 2) = (r.at0 : Int) + 2 := by unfold wrap64; omega
  have e4 : wrap64 ((r.at0 : Int) + 2 + (pl : Int)) = ((r.at0 + 2 + pl : Nat) : Int) := by unfold wrap64; omega
  obtain ⟨c0, c1, c2, c3, f⟩ := h.rr.facts
  have HCV : Hid (∀ (w1 : World) (a' : Option Addr) (k : Nat), w1.ownsRow 0 5 1 (.slice a' m k) m (cellsOf (fun i => z (o + i)) m) → (convert 22 9 (.slice a' m k)).run Tryz.prog w1 = .ok (.string s) w1) := fun w1 a' k ho => by
    rw [hS]
    exact conv_any a' m k _ w1 (own_came ho (fun i => hz _))
  have HLE := hidi hle
  clear h f hS es em eo er hcq hpl hz hfw hle
  by_cases hq : r2.q ≠ 0
  · rw [if_pos hq]
    have g1 : (r2.q != 0) = true := by simpa using hq
    go_enter Tryz.func74, Tryz.ntmps74
    go_wp2_with fail
    go_must (go_at_call 76)
    refine (H.out).mono ?_
    rintro e w1 ⟨a', k, rfl, s1, s2, s3, s4⟩
    have cv := HCV.out w1 a' k s1
    obtain ⟨d0, d1, d2, d3, f1⟩ := s3.rr.facts
    have f11 := f1 1
    have Z : Hid (Rrd w1 mb a l c z r2 ∧ w.grownBy w1 (some mb)) := ⟨s3, s4⟩
    clear s1 s2 s3 s4 f1 hq
    go_wp2_with fail
    all_goals (try go_ret)
    all_goals exact ⟨rfl, Z.out⟩
  rw [if_neg hq]
  have g1 : (r2.q != 0) = false := by simpa using hq
  by_cases hk : q ≠ 0
  · rw [if_pos hk]
    have g2 : ((q : Int) != 0) = true := by simpa using hk
    go_enter Tryz.func74, Tryz.ntmps74
    go_wp2_with fail
    go_must (go_at_call 76)
    refine (H.out).mono ?_
    rintro e w1 ⟨a', k, rfl, s1, s2, s3, s4⟩
    have cv := HCV.out w1 a' k s1
    obtain ⟨d0, d1, d2, d3, f1⟩ := s3.rr.facts
    have f11 := f1 1
    have F0 := hidi (rfail_any (s3.rr.set1 (r.at0 : Int)) ((r.at0 + 2 + pl : Nat) : Int) (q : Int))
    have hg : w1.grownBy (((w1.setCell ⟨mb, 1, none⟩ (.int .i64 r.at0)).setCell ⟨mb, 2, none⟩ (.int .i64 (q : Int))).setCell ⟨mb, 3, none⟩ (.int .i64 ((r.at0 + 2 + pl : Nat) : Int))) (some mb) := gb_two (gb_two (rr_gb1 _ _ _ _) (rr_gb1 _ _ _ _)) (rr_gb1 _ _ _ _)
    have Z : Hid (Rrd (((w1.setCell ⟨mb, 1, none⟩ (.int .i64 r.at0)).setCell ⟨mb, 2, none⟩ (.int .i64 (q : Int))).setCell ⟨mb, 3, none⟩ (.int .i64 ((r.at0 + 2 + pl : Nat) : Int))) mb a l c z ⟨r.at0, ((r.at0 + 2 + pl : Nat) : Int), (q : Int)⟩ ∧ w.grownBy (((w1.setCell ⟨mb, 1, none⟩ (.int .i64 r.at0)).setCell ⟨mb, 2, none⟩ (.int .i64 (q : Int))).setCell ⟨mb, 3, none⟩ (.int .i64 ((r.at0 + 2 + pl : Nat) : Int))) (some mb)) := ⟨s3.next (r' := ⟨r.at0, ((r.at0 + 2 + pl : Nat) : Int), (q : Int)⟩) hg (((s3.rr.set1 _).set2 _).set3 _) HLE.out, gb_two s4 hg⟩
    clear s1 s2 s3 s4 f1 hq hk hg
    go_wp2_with fail
    go_must (go_at_call 85)
    refine (HK.out _).mono ?_
    rintro e w' ⟨rfl, he⟩
    obtain rfl := he.symm
    clear he
    go_wp2_with fail
    go_must (go_at_call 118)
    refine (F0.out).mono ?_
    rintro e w' ⟨rfl, rfl⟩
    go_wp2_with fail
    all_goals (try go_ret)
    all_goals exact ⟨rfl, Z.out⟩
  · rw [if_neg hk]
    have g2 : ((q : Int) != 0) = false := by simpa using hk
    go_enter Tryz.func74, Tryz.ntmps74
    go_wp2_with fail
    go_must (go_at_call 76)
    refine (H.out).mono ?_
    rintro e w1 ⟨a', k, rfl, s1, s2, s3, s4⟩
    have cv := HCV.out w1 a' k s1
    obtain ⟨d0, d1, d2, d3, f1⟩ := s3.rr.facts
    have f11 := f1 1
    have Z : Hid (Rrd w1 mb a l c z r2 ∧ w.grownBy w1 (some mb)) := ⟨s3, s4⟩
    clear s1 s2 s3 s4 f1 hq hk
    go_wp2_with fail
    go_must (go_at_call 85)
    refine (HK.out _).mono ?_
    rintro e w' ⟨rfl, he⟩
    obtain rfl := he.symm
    clear he
    go_wp2_with fail
    all_goals (try go_ret)
    all_goals exact ⟨rfl, Z.out⟩
end Go.Proofs.YtkjeneklkdekoaaGreatDoor
namespace Go.Proofs.YtkjeneklkdekoaaGreatDoor
open Go Go.RowKit
set_option linter.unusedSimpArgs false
set_option linter.unusedVariables false

/-- Rest: how many bytes, and the reader behind it. -/
def rRst (l : Nat) (r : Rs) : Nat × Rs := (if (rTake l r (l - r.at0)).1 then l - r.at0 else 0, (rTake l r (l - r.at0)).2)
set_option maxRecDepth 100000 in
set_option maxHeartbeats 2000000 in
theorem refRest_any {w : World} {mb : Nat} {a : Option Addr} {l c : Nat} {z : Nat → Int} {r : Rs} (h : Rrd w mb a l c z r) : Calls Tryz.prog 78 #[.pointer (some ⟨mb, 0, none⟩)] w fun e w' => ∃ a' k, e = .returned (.slice a' (rRst l r).1 k) ∧ w'.ownsRow 0 5 1 (.slice a' (rRst l r).1 k) (rRst l r).1 (cellsOf (fun i => z (r.at0 + i)) (rRst l r).1) ∧ (∀ g, a' = some ⟨g, 0, none⟩ → w.heap.size ≤ g) ∧ Rrd w' mb a l c z (rRst l r).2 ∧ w.grownBy w' (some mb) := by
  have H := hidi (rtake_any h.drewd (l - r.at0))
  have hle := h.le
  have hfw := h.few
  unfold rRst
  obtain ⟨b, eb⟩ : ∃ b, (rTake l r (l - r.at0)).1 = b := ⟨_, rfl⟩
  obtain ⟨r2, er⟩ : ∃ r2, (rTake l r (l - r.at0)).2 = r2 := ⟨_, rfl⟩
  rw [eb, er] at H ⊢
  dsimp only
  obtain ⟨m, em⟩ : ∃ m, (if b = true then l - r.at0 else 0) = m := ⟨_, rfl⟩
  have e1 : IntKind.i64.wrap ((l : Int) - (r.at0 : Int)) = ((l - r.at0 : Nat) : Int) := by rw [IntKind.wrap_i64]; omega
  have e2 : wrap64 ((l : Int) - (r.at0 : Int)) = ((l - r.at0 : Nat) : Int) := by unfold wrap64; omega
  rw [em]
  have HM : Hid (∀ k : Nat, k = (if b = true then l - r.at0 else 0) → k = m) := fun k q => q.trans em
  obtain ⟨c0, c1, c2, c3, f⟩ := h.rr.facts
  clear h hle hfw eb er em f
  go_enter Tryz.func78, Tryz.ntmps78
  go_wp2_with fail
  first | go_region_with (go_at_call 109; refine (H.out).mono ?_; rintro e w1 ⟨a', m', k, rfl, hm, s1, s2, s3, s4⟩; obtain rfl := HM.out m' hm; have Z : Hid (w1.ownsRow 0 5 1 (.slice a' m' k) m' (cellsOf (fun i => z (r.at0 + i)) m') ∧ (∀ g, a' = some ⟨g, 0, none⟩ → w.heap.size ≤ g) ∧ Rrd w1 mb a l c z r2 ∧ w.grownBy w1 (some mb)) := ⟨s1, s2, s3, gb_drew2 s4⟩; clear s1 s2 s3 s4 hm) | fail
  all_goals go_wp2_with fail
  all_goals (try go_ret)
  all_goals exact ⟨a', k, rfl, Z.out⟩
set_option maxRecDepth 100000 in
set_option maxHeartbeats 1000000 in
theorem refAt_any {w : World} {mb : Nat} {a : Option Addr} {l c : Nat} {z : Nat → Int} {r : Rs} (h : Rrd w mb a l c z r) : Calls Tryz.prog 64 #[.pointer (some ⟨mb, 0, none⟩)] w fun e w' => e = .returned (.int .i64 r.at0) ∧ w' = w := by
  obtain ⟨c0, c1, c2, c3, f⟩ := h.rr.facts
  clear h f
  go_enter Tryz.func64, Tryz.ntmps64
  go_wp2_with fail
  all_goals (try go_ret)
  all_goals exact ⟨rfl, rfl⟩
end Go.Proofs.YtkjeneklkdekoaaGreatDoor
