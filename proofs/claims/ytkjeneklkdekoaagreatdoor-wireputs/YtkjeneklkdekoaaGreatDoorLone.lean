import Derived.Test.YtkjeneklkdekoaaGreatDoorSone
import Derived.Deep.RegionWith
import Derived.Test.YtkjeneklkdekoaaGreatDoorProg
import Derived.WalkKit
import Derived.WalkSpells
import Derived.WalkLawsBesides
namespace Go.Proofs.YtkjeneklkdekoaaGreatDoor
open Go Go.RowKit
set_option linter.unusedSimpArgs false
set_option linter.unusedVariables false

/-- A region's last operation whose call ends the function: nothing of the region is left. -/
theorem aside {X : Prop} (P : Program) (a : Act) (w : World) (h : X) (_ : wpAny P .any #[] (fun _ _ _ => True) 0 #[] a w) : X := h

/-- How a read gives up. -/
abbrev gave (p q : Int) : Ending := .panicked [{ v := .iface 79 (.agg #[.int .i64 p, .int .i64 q]), recovered := false }]

set_option maxRecDepth 100000 in
set_option maxHeartbeats 400000 in
theorem give_any (p q : Int) (w : World) :
    Calls Tryz.prog 116 #[.int .i64 p, .int .i64 q] w fun e w' => e = gave p q ∧ w' = w := by
  go_enter Tryz.func116, Tryz.ntmps116
  go_wp2
  exact ⟨rfl, rfl, rfl⟩

set_option maxRecDepth 100000 in
set_option maxHeartbeats 400000 in
theorem left_bad (rb : Nat) (bv : Value) (at0 p0 q0 : Int) (w : World) (hR : RdAt w rb bv at0 p0 q0) (hq : ¬ q0 = 0) :
    Calls Tryz.prog 115 #[.pointer (some ⟨rb, 0, none⟩)] w fun e w' => e = gave p0 q0 ∧ Below w.heap.size w w' := by
  obtain ⟨hlt, c0, c1, c2, c3, f1, f2, f3⟩ := hR.facts
  clear hR
  have hq' : (q0 != 0) = true := by simpa using hq
  clear hq
  go_enter Tryz.func115, Tryz.ntmps115
  go_wp2
  go_region_with (go_at_call 116; refine (give_any _ _ _).mono ?_; rintro e w' ⟨rfl, rfl⟩; refine aside Tryz.prog { tmps := #[], defers := [] } w ⟨rfl, rfl, (Below.refl _ _).drew⟩ ?_)
  all_goals trivial

set_option maxRecDepth 100000 in
set_option maxHeartbeats 400000 in
theorem left_ok (rb g n cp at0 : Nat) (p0 : Int) (w : World) (hR : RdAt w rb (.slice (some ⟨g, 0, none⟩) n cp) at0 p0 0) (h1 : at0 ≤ n) (h2 : n ≤ cp) (h3 : n ≤ 1000000) :
    Calls Tryz.prog 115 #[.pointer (some ⟨rb, 0, none⟩)] w fun e w' => (∃ ad, e = .returned (.slice (some ad) (n - at0) (cp - at0)) ∧ (at0 < cp → ad = ⟨g, at0, none⟩)) ∧ w' = w.drew := by
  obtain ⟨hlt, c0, c1, c2, c3, f1, f2, f3⟩ := hR.facts
  clear hR
  go_enter Tryz.func115, Tryz.ntmps115
  go_wp2
  go_region
  all_goals (try go_wp2)
  all_goals go_ret
  · exact ⟨⟨_, rfl⟩, rfl⟩
  · exact ⟨⟨_, rfl, fun _ => rfl⟩, rfl⟩
end Go.Proofs.YtkjeneklkdekoaaGreatDoor
namespace Go.Proofs.YtkjeneklkdekoaaGreatDoor
open Go Go.RowKit
set_option linter.unusedSimpArgs false
set_option linter.unusedVariables false

theorem RdAt.kept {w w' : World} {rb : Nat} {bv : Value} {at0 p0 q0 : Int} (h : RdAt w rb bv at0 p0 q0) (hb : Below w.heap.size w w') : RdAt w' rb bv at0 p0 q0 := (hb.block rb (lt_of_block h)).trans h
theorem RdAt.moved {w : World} {rb : Nat} {bv : Value} {at0 p0 q0 : Int} (h : RdAt w rb bv at0 p0 q0) (f : Int) : RdAt (w.setCell ⟨rb, 1, none⟩ (.int .i64 f)) rb bv f p0 q0 := heap_set (i := 1) h (.int .i64 f)

set_option maxRecDepth 100000 in
set_option maxHeartbeats 400000 in
theorem take_bad (rb : Nat) (bv : Value) (at0 p0 q0 k : Int) (w : World) (hR : RdAt w rb bv at0 p0 q0) (hq : ¬ q0 = 0) :
    Calls Tryz.prog 108 #[.pointer (some ⟨rb, 0, none⟩), .int .i64 k] w fun e w' => e = gave p0 q0 ∧ Below w.heap.size w w' := by
  have HL : Hid (Calls Tryz.prog 115 #[.pointer (some ⟨rb, 0, none⟩)] w fun e w' => e = gave p0 q0 ∧ Below w.heap.size w w') := left_bad rb bv at0 p0 q0 w hR hq
  clear hR hq
  go_enter Tryz.func108, Tryz.ntmps108
  go_wp2_with (go_at_call 115; refine HL.out.mono ?_; rintro e w' ⟨rfl, hb⟩)
  exact ⟨rfl, rfl, hb⟩

set_option maxRecDepth 100000 in
set_option maxHeartbeats 400000 in
theorem take_short (rb g n cp at0 k : Nat) (p0 : Int) (w : World) (hR : RdAt w rb (.slice (some ⟨g, 0, none⟩) n cp) at0 p0 0) (h1 : at0 ≤ n) (h2 : n ≤ cp) (h3 : n ≤ 1000000) (hk : n < at0 + k) :
    Calls Tryz.prog 108 #[.pointer (some ⟨rb, 0, none⟩), .int .i64 k] w fun e w' => e = gave n 10 ∧ Below w.heap.size w w' := by
  have HL : Hid (Calls Tryz.prog 115 #[.pointer (some ⟨rb, 0, none⟩)] w fun e w' => (∃ ad, e = .returned (.slice (some ad) (n - at0) (cp - at0)) ∧ (at0 < cp → ad = ⟨g, at0, none⟩)) ∧ w' = w.drew) := left_ok rb g n cp at0 p0 w hR h1 h2 h3
  obtain ⟨hlt, c0, c1, c2, c3, f1, f2, f3⟩ := hR.facts
  clear hR
  have hx : (((n - at0 : Nat) : Int)) < (k : Int) := by omega
  go_enter Tryz.func108, Tryz.ntmps108
  go_wp2_with (first | (go_at_call 115; refine HL.out.mono ?_; rintro e w' ⟨⟨ad, rfl, _⟩, rfl⟩) | (go_at_call 116; refine (give_any _ _ _).mono ?_; rintro e w' ⟨rfl, rfl⟩))
  exact ⟨rfl, rfl, (Below.refl _ _).drew⟩

set_option maxRecDepth 100000 in
set_option maxHeartbeats 400000 in
theorem take_ok (rb g n cp at0 k : Nat) (p0 : Int) (w : World) (hR : RdAt w rb (.slice (some ⟨g, 0, none⟩) n cp) at0 p0 0) (h2 : n ≤ cp) (h3 : n ≤ 1000000) (hk : at0 + k ≤ n) :
    Calls Tryz.prog 108 #[.pointer (some ⟨rb, 0, none⟩), .int .i64 k] w fun e w' => (∃ ad, e = .returned (.slice (some ad) k (cp - at0)) ∧ (at0 < cp → ad = ⟨g, at0, none⟩)) ∧ RdAt w' rb (.slice (some ⟨g, 0, none⟩) n cp) ((at0 + k : Nat) : Int) p0 0 ∧ w.grownBy w' (some rb) := by
  have HL : Hid (Calls Tryz.prog 115 #[.pointer (some ⟨rb, 0, none⟩)] w fun e w' => (∃ ad, e = .returned (.slice (some ad) (n - at0) (cp - at0)) ∧ (at0 < cp → ad = ⟨g, at0, none⟩)) ∧ w' = w.drew) := left_ok rb g n cp at0 p0 w hR (by omega) h2 h3
  obtain ⟨hlt, c0, c1, c2, c3, f1, f2, f3⟩ := hR.facts
  have HR : Hid (RdAt w rb (.slice (some ⟨g, 0, none⟩) n cp) at0 p0 0) := hR
  clear hR
  have hx : ¬ (((n - at0 : Nat) : Int)) < (k : Int) := by omega
  have hy : k ≤ cp - at0 := by omega
  go_enter Tryz.func108, Tryz.ntmps108
  go_wp2_with (go_at_call 115; refine HL.out.mono ?_; rintro e w' ⟨⟨ad, rfl, had⟩, rfl⟩)
  go_ret
  exact ⟨⟨ad, rfl, had⟩, HR.out.moved _, gb_drew (gb_set (gb_refl _ _) _ _)⟩
end Go.Proofs.YtkjeneklkdekoaaGreatDoor
namespace Go.Proofs.YtkjeneklkdekoaaGreatDoor
open Go.RowKit
set_option linter.unusedSimpArgs false
set_option linter.unusedVariables false

/-- The length at the beginning of so many bytes, these being the first. -/
def lenX (len : Nat) (x0 x1 x2 x3 : Int) : Int × Int × Int :=
  if len = 0 then (0, 0, 10) else if x0 < 128 then (x0 % 128, 1, 0)
  else if len = 1 then (0, 0, 10) else if x1 < 128 then (x0 % 128 + x1 % 128 * 128, 2, 0)
  else if len = 2 then (0, 0, 10) else if x2 < 128 then (x0 % 128 + x1 % 128 * 128 + x2 % 128 * 16384, 3, 0)
  else if len = 3 then (0, 0, 10) else if x3 < 128 then (x0 % 128 + x1 % 128 * 128 + x2 % 128 * 16384 + x3 % 128 * 2097152, 4, 0) else (0, 0, 12)
theorem lenX_short0 {len : Nat} {x0 x1 x2 x3 : Int}  (h : len = 0) : lenX len x0 x1 x2 x3 = (0, 0, 10) := by simp [lenX, h]
theorem lenX_done0 {len : Nat} {x0 x1 x2 x3 : Int}  (a : ¬ len = 0) (h : x0 < 128) : lenX len x0 x1 x2 x3 = (x0 % 128, 1, 0) := by simp [lenX, a, h]
theorem lenX_short1 {len : Nat} {x0 x1 x2 x3 : Int} (a0 : ¬ len = 0) (b0 : ¬ x0 < 128) (h : len = 1) : lenX len x0 x1 x2 x3 = (0, 0, 10) := by simp [lenX, a0, b0, h]
theorem lenX_done1 {len : Nat} {x0 x1 x2 x3 : Int} (a0 : ¬ len = 0) (b0 : ¬ x0 < 128) (a : ¬ len = 1) (h : x1 < 128) : lenX len x0 x1 x2 x3 = (x0 % 128 + x1 % 128 * 128, 2, 0) := by simp [lenX, a0, b0, a, h]
theorem lenX_short2 {len : Nat} {x0 x1 x2 x3 : Int} (a0 : ¬ len = 0) (b0 : ¬ x0 < 128) (a1 : ¬ len = 1) (b1 : ¬ x1 < 128) (h : len = 2) : lenX len x0 x1 x2 x3 = (0, 0, 10) := by simp [lenX, a0, b0, a1, b1, h]
theorem lenX_done2 {len : Nat} {x0 x1 x2 x3 : Int} (a0 : ¬ len = 0) (b0 : ¬ x0 < 128) (a1 : ¬ len = 1) (b1 : ¬ x1 < 128) (a : ¬ len = 2) (h : x2 < 128) : lenX len x0 x1 x2 x3 = (x0 % 128 + x1 % 128 * 128 + x2 % 128 * 16384, 3, 0) := by simp [lenX, a0, b0, a1, b1, a, h]
theorem lenX_short3 {len : Nat} {x0 x1 x2 x3 : Int} (a0 : ¬ len = 0) (b0 : ¬ x0 < 128) (a1 : ¬ len = 1) (b1 : ¬ x1 < 128) (a2 : ¬ len = 2) (b2 : ¬ x2 < 128) (h : len = 3) : lenX len x0 x1 x2 x3 = (0, 0, 10) := by simp [lenX, a0, b0, a1, b1, a2, b2, h]
theorem lenX_done3 {len : Nat} {x0 x1 x2 x3 : Int} (a0 : ¬ len = 0) (b0 : ¬ x0 < 128) (a1 : ¬ len = 1) (b1 : ¬ x1 < 128) (a2 : ¬ len = 2) (b2 : ¬ x2 < 128) (a : ¬ len = 3) (h : x3 < 128) : lenX len x0 x1 x2 x3 = (x0 % 128 + x1 % 128 * 128 + x2 % 128 * 16384 + x3 % 128 * 2097152, 4, 0) := by simp [lenX, a0, b0, a1, b1, a2, b2, a, h]
theorem lenX_form {len : Nat} {x0 x1 x2 x3 : Int} (a0 : ¬ len = 0) (b0 : ¬ x0 < 128) (a1 : ¬ len = 1) (b1 : ¬ x1 < 128) (a2 : ¬ len = 2) (b2 : ¬ x2 < 128) (a3 : ¬ len = 3) (b3 : ¬ x3 < 128) : lenX len x0 x1 x2 x3 = (0, 0, 12) := by simp [lenX, a0, b0, a1, b1, a2, b2, a3, b3]
end Go.Proofs.YtkjeneklkdekoaaGreatDoor
