import Derived.Test.YtkjeneklkdekoaaGreatDoorSone
import Derived.Deep.RegionWith
import Derived.Test.YtkjeneklkdekoaaGreatDoorProg
import Derived.WalkKit
import Derived.WalkSpells
import Derived.WalkLawsBesides
import Derived.Laws.BitsAllLaws
namespace Go.Proofs.YtkjeneklkdekoaaGreatDoor
open Go Go.RowKit
set_option linter.unusedSimpArgs false
set_option linter.unusedVariables false

/-- A region's last operation whose call ends the function: nothing of the region is left. -/
theorem aside {X : Prop} (P : Program) (a : Act) (w : World) (h : X) (_ : wpAny P .any #[] (fun _ _ _ => True) 0 #[] a w) : X := h

/-- How a read gives up. -/
abbrev gave (p q : Int) : Ending := .panicked [{ v := .iface 79 (.agg #[.int .i64 p, .int .i64 q]), recovered := false }]

set_option maxRecDepth 100000 in
set_option maxHeartbeats 400000 in
theorem give_any (p q : Int) (w : World) :
    Calls Tryz.prog 116 #[.int .i64 p, .int .i64 q] w fun e w' => e = gave p q ∧ w' = w := by
  go_enter Tryz.func116, Tryz.ntmps116
  go_wp2
  exact ⟨rfl, rfl, rfl⟩

set_option maxRecDepth 100000 in
set_option maxHeartbeats 400000 in
theorem left_bad (rb : Nat) (bv : Value) (at0 p0 q0 : Int) (w : World) (hR : RdAt w rb bv at0 p0 q0) (hq : ¬ q0 = 0) :
    Calls Tryz.prog 115 #[.pointer (some ⟨rb, 0, none⟩)] w fun e w' => e = gave p0 q0 ∧ Below w.heap.size w w' := by
  obtain ⟨hlt, c0, c1, c2, c3, f1, f2, f3⟩ := hR.facts
  clear hR
  have hq' : (q0 != 0) = true := by simpa using hq
  clear hq
  go_enter Tryz.func115, Tryz.ntmps115
  go_wp2
  go_region_with (go_at_call 116; refine (give_any _ _ _).mono ?_; rintro e w' ⟨rfl, rfl⟩; refine aside Tryz.prog { tmps := #[], defers := [] } w ⟨rfl, rfl, (Below.refl _ _).drew⟩ ?_)
  all_goals trivial

set_option maxRecDepth 100000 in
set_option maxHeartbeats 400000 in
theorem left_ok (rb g n cp at0 : Nat) (p0 : Int) (w : World) (hR : RdAt w rb (.slice (some ⟨g, 0, none⟩) n cp) at0 p0 0) (h1 : at0 ≤ n) (h2 : n ≤ cp) (h3 : n ≤ 1000000) :
    Calls Tryz.prog 115 #[.pointer (some ⟨rb, 0, none⟩)] w fun e w' => (∃ ad, e = .returned (.slice (some ad) (n - at0) (cp - at0)) ∧ (at0 < cp → ad = ⟨g, at0, none⟩)) ∧ w' = w.drew := by
  obtain ⟨hlt, c0, c1, c2, c3, f1, f2, f3⟩ := hR.facts
  clear hR
  go_enter Tryz.func115, Tryz.ntmps115
  go_wp2
  go_region
  all_goals (try go_wp2)
  all_goals go_ret
  · exact ⟨⟨_, rfl⟩, rfl⟩
  · exact ⟨⟨_, rfl, fun _ => rfl⟩, rfl⟩
end Go.Proofs.YtkjeneklkdekoaaGreatDoor
namespace Go.Proofs.YtkjeneklkdekoaaGreatDoor
open Go Go.RowKit
set_option linter.unusedSimpArgs false
set_option linter.unusedVariables false

theorem RdAt.kept {w w' : World} {rb : Nat} {bv : Value} {at0 p0 q0 : Int} (h : RdAt w rb bv at0 p0 q0) (hb : Below w.heap.size w w') : RdAt w' rb bv at0 p0 q0 := (hb.block rb (lt_of_block h)).trans h
theorem RdAt.moved {w : World} {rb : Nat} {bv : Value} {at0 p0 q0 : Int} (h : RdAt w rb bv at0 p0 q0) (f : Int) : RdAt (w.setCell ⟨rb, 1, none⟩ (.int .i64 f)) rb bv f p0 q0 := heap_set (i := 1) h (.int .i64 f)

set_option maxRecDepth 100000 in
set_option maxHeartbeats 400000 in
theorem take_bad (rb : Nat) (bv : Value) (at0 p0 q0 k : Int) (w : World) (hR : RdAt w rb bv at0 p0 q0) (hq : ¬ q0 = 0) :
    Calls Tryz.prog 108 #[.pointer (some ⟨rb, 0, none⟩), .int .i64 k] w fun e w' => e = gave p0 q0 ∧ Below w.heap.size w w' := by
  have HL : Hid (Calls Tryz.prog 115 #[.pointer (some ⟨rb, 0, none⟩)] w fun e w' => e = gave p0 q0 ∧ Below w.heap.size w w') := left_bad rb bv at0 p0 q0 w hR hq
  clear hR hq
  go_enter Tryz.func108, Tryz.ntmps108
  go_wp2_with (go_at_call 115; refine HL.out.mono ?_; rintro e w' ⟨rfl, hb⟩)
  exact ⟨rfl, rfl, hb⟩

set_option maxRecDepth 100000 in
set_option maxHeartbeats 400000 in
theorem take_short (rb g n cp at0 k : Nat) (p0 : Int) (w : World) (hR : RdAt w rb (.slice (some ⟨g, 0, none⟩) n cp) at0 p0 0) (h1 : at0 ≤ n) (h2 : n ≤ cp) (h3 : n ≤ 1000000) (hk : n < at0 + k) :
    Calls Tryz.prog 108 #[.pointer (some ⟨rb, 0, none⟩), .int .i64 k] w fun e w' => e = gave n 10 ∧ Below w.heap.size w w' := by
  have HL : Hid (Calls Tryz.prog 115 #[.pointer (some ⟨rb, 0, none⟩)] w fun e w' => (∃ ad, e = .returned (.slice (some ad) (n - at0) (cp - at0)) ∧ (at0 < cp → ad = ⟨g, at0, none⟩)) ∧ w' = w.drew) := left_ok rb g n cp at0 p0 w hR h1 h2 h3
  obtain ⟨hlt, c0, c1, c2, c3, f1, f2, f3⟩ := hR.facts
  clear hR
  have hx : (((n - at0 : Nat) : Int)) < (k : Int) := by omega
  go_enter Tryz.func108, Tryz.ntmps108
  go_wp2_with (first | (go_at_call 115; refine HL.out.mono ?_; rintro e w' ⟨⟨ad, rfl, _⟩, rfl⟩) | (go_at_call 116; refine (give_any _ _ _).mono ?_; rintro e w' ⟨rfl, rfl⟩))
  exact ⟨rfl, rfl, (Below.refl _ _).drew⟩

set_option maxRecDepth 100000 in
set_option maxHeartbeats 400000 in
theorem take_ok (rb g n cp at0 k : Nat) (p0 : Int) (w : World) (hR : RdAt w rb (.slice (some ⟨g, 0, none⟩) n cp) at0 p0 0) (h2 : n ≤ cp) (h3 : n ≤ 1000000) (hk : at0 + k ≤ n) :
    Calls Tryz.prog 108 #[.pointer (some ⟨rb, 0, none⟩), .int .i64 k] w fun e w' => (∃ ad, e = .returned (.slice (some ad) k (cp - at0)) ∧ (at0 < cp → ad = ⟨g, at0, none⟩)) ∧ RdAt w' rb (.slice (some ⟨g, 0, none⟩) n cp) ((at0 + k : Nat) : Int) p0 0 ∧ w.grownBy w' (some rb) := by
  have HL : Hid (Calls Tryz.prog 115 #[.pointer (some ⟨rb, 0, none⟩)] w fun e w' => (∃ ad, e = .returned (.slice (some ad) (n - at0) (cp - at0)) ∧ (at0 < cp → ad = ⟨g, at0, none⟩)) ∧ w' = w.drew) := left_ok rb g n cp at0 p0 w hR (by omega) h2 h3
  obtain ⟨hlt, c0, c1, c2, c3, f1, f2, f3⟩ := hR.facts
  have HR : Hid (RdAt w rb (.slice (some ⟨g, 0, none⟩) n cp) at0 p0 0) := hR
  clear hR
  have hx : ¬ (((n - at0 : Nat) : Int)) < (k : Int) := by omega
  have hy : k ≤ cp - at0 := by omega
  go_enter Tryz.func108, Tryz.ntmps108
  go_wp2_with (go_at_call 115; refine HL.out.mono ?_; rintro e w' ⟨⟨ad, rfl, had⟩, rfl⟩)
  go_ret
  exact ⟨⟨ad, rfl, had⟩, HR.out.moved _, gb_drew (gb_set (gb_refl _ _) _ _)⟩
end Go.Proofs.YtkjeneklkdekoaaGreatDoor
namespace Go.Proofs.YtkjeneklkdekoaaGreatDoor
open Go.RowKit
set_option linter.unusedSimpArgs false
set_option linter.unusedVariables false

/-- The length at the beginning of so many bytes, these being the first. -/
def lenX (len : Nat) (x0 x1 x2 x3 : Int) : Int × Int × Int :=
  if len = 0 then (0, 0, 10) else if x0 < 128 then (x0 % 128, 1, 0)
  else if len = 1 then (0, 0, 10) else if x1 < 128 then (x0 % 128 + x1 % 128 * 128, 2, 0)
  else if len = 2 then (0, 0, 10) else if x2 < 128 then (x0 % 128 + x1 % 128 * 128 + x2 % 128 * 16384, 3, 0)
  else if len = 3 then (0, 0, 10) else if x3 < 128 then (x0 % 128 + x1 % 128 * 128 + x2 % 128 * 16384 + x3 % 128 * 2097152, 4, 0) else (0, 0, 12)
theorem lenX_short0 {len : Nat} {x0 x1 x2 x3 : Int}  (h : len = 0) : lenX len x0 x1 x2 x3 = (0, 0, 10) := by simp [lenX, h]
theorem lenX_done0 {len : Nat} {x0 x1 x2 x3 : Int}  (a : ¬ len = 0) (h : x0 < 128) : lenX len x0 x1 x2 x3 = (x0 % 128, 1, 0) := by simp [lenX, a, h]
theorem lenX_short1 {len : Nat} {x0 x1 x2 x3 : Int} (a0 : ¬ len = 0) (b0 : ¬ x0 < 128) (h : len = 1) : lenX len x0 x1 x2 x3 = (0, 0, 10) := by simp [lenX, a0, b0, h]
theorem lenX_done1 {len : Nat} {x0 x1 x2 x3 : Int} (a0 : ¬ len = 0) (b0 : ¬ x0 < 128) (a : ¬ len = 1) (h : x1 < 128) : lenX len x0 x1 x2 x3 = (x0 % 128 + x1 % 128 * 128, 2, 0) := by simp [lenX, a0, b0, a, h]
theorem lenX_short2 {len : Nat} {x0 x1 x2 x3 : Int} (a0 : ¬ len = 0) (b0 : ¬ x0 < 128) (a1 : ¬ len = 1) (b1 : ¬ x1 < 128) (h : len = 2) : lenX len x0 x1 x2 x3 = (0, 0, 10) := by simp [lenX, a0, b0, a1, b1, h]
theorem lenX_done2 {len : Nat} {x0 x1 x2 x3 : Int} (a0 : ¬ len = 0) (b0 : ¬ x0 < 128) (a1 : ¬ len = 1) (b1 : ¬ x1 < 128) (a : ¬ len = 2) (h : x2 < 128) : lenX len x0 x1 x2 x3 = (x0 % 128 + x1 % 128 * 128 + x2 % 128 * 16384, 3, 0) := by simp [lenX, a0, b0, a1, b1, a, h]
theorem lenX_short3 {len : Nat} {x0 x1 x2 x3 : Int} (a0 : ¬ len = 0) (b0 : ¬ x0 < 128) (a1 : ¬ len = 1) (b1 : ¬ x1 < 128) (a2 : ¬ len = 2) (b2 : ¬ x2 < 128) (h : len = 3) : lenX len x0 x1 x2 x3 = (0, 0, 10) := by simp [lenX, a0, b0, a1, b1, a2, b2, h]
theorem lenX_done3 {len : Nat} {x0 x1 x2 x3 : Int} (a0 : ¬ len = 0) (b0 : ¬ x0 < 128) (a1 : ¬ len = 1) (b1 : ¬ x1 < 128) (a2 : ¬ len = 2) (b2 : ¬ x2 < 128) (a : ¬ len = 3) (h : x3 < 128) : lenX len x0 x1 x2 x3 = (x0 % 128 + x1 % 128 * 128 + x2 % 128 * 16384 + x3 % 128 * 2097152, 4, 0) := by simp [lenX, a0, b0, a1, b1, a2, b2, a, h]
theorem lenX_form {len : Nat} {x0 x1 x2 x3 : Int} (a0 : ¬ len = 0) (b0 : ¬ x0 < 128) (a1 : ¬ len = 1) (b1 : ¬ x1 < 128) (a2 : ¬ len = 2) (b2 : ¬ x2 < 128) (a3 : ¬ len = 3) (b3 : ¬ x3 < 128) : lenX len x0 x1 x2 x3 = (0, 0, 12) := by simp [lenX, a0, b0, a1, b1, a2, b2, a3, b3]
end Go.Proofs.YtkjeneklkdekoaaGreatDoor
namespace Go.Proofs.YtkjeneklkdekoaaGreatDoor
open Go.RowKit
set_option linter.unusedSimpArgs false
set_option linter.unusedVariables false

theorem wraps_i64 (n : Int) (h₀ : 0 ≤ n) (h₁ : n < 2 ^ 62) : IntKind.i64.wrap n = n := by rw [IntKind.wrap_i64]; omega
theorem and127 (x : Int) (h : 0 ≤ x ∧ x ≤ 255) : bits .and .u8 x 127 = x % 128 := bits_mask .u8 8 (by decide) wraps_u8 7 (by decide) x h.1 (by omega)
set_option maxRecDepth 100000 in
theorem nat128 : ∀ n : Nat, n < 256 → ((n &&& 128 = 0) ↔ n < 128) := by decide
theorem and128 (x : Int) (h : 0 ≤ x ∧ x ≤ 255) : (bits .and .u8 x 128 == 0) = decide (x < 128) := by
  rw [u8_and x 128 h.1 (by omega) (by decide) (by decide)]
  have h1 := nat128 x.toNat (by omega)
  rw [Bool.eq_iff_iff]
  simp only [beq_iff_eq, decide_eq_true_eq]
  have e : (128 : Int).toNat = 128 := rfl
  rw [e]
  omega
theorem or_up (i : Nat) (hi : i ≤ 62) (x y : Int) (hx₀ : 0 ≤ x) (hx : x < 2 ^ i) (hx₁ : x < 2 ^ 62) (hy₀ : 0 ≤ y) (hy : y % 2 ^ i = 0) (hy₁ : y < 2 ^ 62) : bits .or .i64 x y = x + y := by
  have h : bits .or .i64 y x = y + x := bits_join .i64 62 (by decide) wraps_i64 i y x hy₀ hy hy₁ hx₀ hx hx₁
  have c : bits .or .i64 x y = bits .or .i64 y x := by
    obtain ⟨a, rfl⟩ := Int.eq_ofNat_of_zero_le hx₀
    obtain ⟨b, rfl⟩ := Int.eq_ofNat_of_zero_le hy₀
    have ha : a < 2 ^ 62 := by exact_mod_cast hx₁
    have hb : b < 2 ^ 62 := by exact_mod_cast hy₁
    rw [(bits_nat .i64 62 (by decide) wraps_i64 a b ha hb).2, (bits_nat .i64 62 (by decide) wraps_i64 b a hb ha).2, Nat.or_comm]
  rw [c, h]
  omega

set_option maxHeartbeats 1000000 in
theorem wlen0 (ao : Option Addr) (cap : Nat) (x0 x1 x2 x3 : Int) (w : World) (hcap : 0 ≤ cap)   :
    Calls Tryz.prog 114 #[.slice ao 0 cap] w fun e w' => e = .returned (.tuple #[.int .i64 (lenX 0 x0 x1 x2 x3).1, .int .i64 (lenX 0 x0 x1 x2 x3).2.1, .int .i64 (lenX 0 x0 x1 x2 x3).2.2]) ∧ w' = w := by
  go_enter Tryz.func114, Tryz.ntmps114
  go_wp2
  go_loop [5, 14] (fun n i => (i = .int .i64 0 ∧ n = .int .i64 (0))) (fun _ i => 4 - (intOf i).toNat)
  case atStart => exact ⟨rfl, rfl⟩
  case round =>
    rcases hrel with ⟨rfl, rfl⟩
    have HR : Hid (lenX 0 x0 x1 x2 x3 = (0, 0, 10)) := lenX_short0  rfl
    go_wp2
    go_ret3
    exact ⟨by rw [HR.out]; rfl, rfl⟩

set_option maxHeartbeats 1000000 in
theorem wlen1 (b off cap : Nat) (x0 x1 x2 x3 : Int) (w : World) (hcap : 1 ≤ cap) (z0 : 0 ≤ x0 ∧ x0 ≤ 255) (c0 : w.cell? ⟨b, off, none⟩ = some (.int .u8 x0)) :
    Calls Tryz.prog 114 #[.slice (some ⟨b, off, none⟩) 1 cap] w fun e w' => e = .returned (.tuple #[.int .i64 (lenX 1 x0 x1 x2 x3).1, .int .i64 (lenX 1 x0 x1 x2 x3).2.1, .int .i64 (lenX 1 x0 x1 x2 x3).2.2]) ∧ w' = w := by
  have f0 := and127 x0 z0
  have g0 : bits .or .i64 0 (x0 % 128) = x0 % 128 := by have h := or_up 0 (by decide) 0 (x0 % 128) (by omega) (by omega) (by omega) (by omega) (by omega) (by omega); omega
  go_enter Tryz.func114, Tryz.ntmps114
  go_wp2
  go_loop [5, 14] (fun n i => (i = .int .i64 0 ∧ n = .int .i64 (0)) ∨ (i = .int .i64 1 ∧ n = .int .i64 (x0 % 128) ∧ ¬ x0 < 128)) (fun _ i => 4 - (intOf i).toNat)
  case atStart => exact .inl ⟨rfl, rfl⟩
  case round =>
    rcases hrel with ⟨rfl, rfl⟩ | ⟨rfl, rfl, b0⟩
    · have hb := and128 x0 z0
      by_cases b0 : x0 < 128
      · have HR : Hid (lenX 1 x0 x1 x2 x3 = (x0 % 128, 1, 0)) := lenX_done0  (by decide) b0
        rw [decide_eq_true b0] at hb
        go_wp2
        go_ret3
        exact ⟨by rw [HR.out]; first | rfl | go_num, rfl⟩
      · rw [decide_eq_false b0] at hb
        go_wp2
        go_round
        case rel => exact .inr (⟨rfl, by first | rfl | go_num, b0⟩)
        case measure => simp [intOf]
    · have HR : Hid (lenX 1 x0 x1 x2 x3 = (0, 0, 10)) := lenX_short1 (by decide) b0 rfl
      go_wp2
      go_ret3
      exact ⟨by rw [HR.out]; rfl, rfl⟩

set_option maxHeartbeats 1000000 in
theorem wlen2 (b off cap : Nat) (x0 x1 x2 x3 : Int) (w : World) (hcap : 2 ≤ cap) (z0 : 0 ≤ x0 ∧ x0 ≤ 255) (z1 : 0 ≤ x1 ∧ x1 ≤ 255) (c0 : w.cell? ⟨b, off, none⟩ = some (.int .u8 x0)) (c1 : w.cell? ⟨b, off + 1, none⟩ = some (.int .u8 x1)) :
    Calls Tryz.prog 114 #[.slice (some ⟨b, off, none⟩) 2 cap] w fun e w' => e = .returned (.tuple #[.int .i64 (lenX 2 x0 x1 x2 x3).1, .int .i64 (lenX 2 x0 x1 x2 x3).2.1, .int .i64 (lenX 2 x0 x1 x2 x3).2.2]) ∧ w' = w := by
  have f0 := and127 x0 z0
  have g0 : bits .or .i64 0 (x0 % 128) = x0 % 128 := by have h := or_up 0 (by decide) 0 (x0 % 128) (by omega) (by omega) (by omega) (by omega) (by omega) (by omega); omega
  have f1 := and127 x1 z1
  have g1 : bits .or .i64 (x0 % 128) (x1 % 128 * 128) = x0 % 128 + x1 % 128 * 128 := or_up 7 (by decide) _ _ (by omega) (by omega) (by omega) (by omega) (by omega) (by omega)
  go_enter Tryz.func114, Tryz.ntmps114
  go_wp2
  go_loop [5, 14] (fun n i => (i = .int .i64 0 ∧ n = .int .i64 (0)) ∨ (i = .int .i64 1 ∧ n = .int .i64 (x0 % 128) ∧ ¬ x0 < 128) ∨ (i = .int .i64 2 ∧ n = .int .i64 (x0 % 128 + x1 % 128 * 128) ∧ ¬ x0 < 128 ∧ ¬ x1 < 128)) (fun _ i => 4 - (intOf i).toNat)
  case atStart => exact .inl ⟨rfl, rfl⟩
  case round =>
    rcases hrel with ⟨rfl, rfl⟩ | ⟨rfl, rfl, b0⟩ | ⟨rfl, rfl, b0, b1⟩
    · have hb := and128 x0 z0
      by_cases b0 : x0 < 128
      · have HR : Hid (lenX 2 x0 x1 x2 x3 = (x0 % 128, 1, 0)) := lenX_done0  (by decide) b0
        rw [decide_eq_true b0] at hb
        go_wp2
        go_ret3
        exact ⟨by rw [HR.out]; first | rfl | go_num, rfl⟩
      · rw [decide_eq_false b0] at hb
        go_wp2
        go_round
        case rel => exact .inr (.inl ⟨rfl, by first | rfl | go_num, b0⟩)
        case measure => simp [intOf]
    · have hb := and128 x1 z1
      by_cases b1 : x1 < 128
      · have HR : Hid (lenX 2 x0 x1 x2 x3 = (x0 % 128 + x1 % 128 * 128, 2, 0)) := lenX_done1 (by decide) b0 (by decide) b1
        rw [decide_eq_true b1] at hb
        go_wp2
        go_ret3
        exact ⟨by rw [HR.out]; first | rfl | go_num, rfl⟩
      · rw [decide_eq_false b1] at hb
        go_wp2
        go_round
        case rel => exact .inr (.inr (⟨rfl, by first | rfl | go_num, b0, b1⟩))
        case measure => simp [intOf]
    · have HR : Hid (lenX 2 x0 x1 x2 x3 = (0, 0, 10)) := lenX_short2 (by decide) b0 (by decide) b1 rfl
      go_wp2
      go_ret3
      exact ⟨by rw [HR.out]; rfl, rfl⟩

set_option maxHeartbeats 1000000 in
theorem wlen3 (b off cap : Nat) (x0 x1 x2 x3 : Int) (w : World) (hcap : 3 ≤ cap) (z0 : 0 ≤ x0 ∧ x0 ≤ 255) (z1 : 0 ≤ x1 ∧ x1 ≤ 255) (z2 : 0 ≤ x2 ∧ x2 ≤ 255) (c0 : w.cell? ⟨b, off, none⟩ = some (.int .u8 x0)) (c1 : w.cell? ⟨b, off + 1, none⟩ = some (.int .u8 x1)) (c2 : w.cell? ⟨b, off + 2, none⟩ = some (.int .u8 x2)) :
    Calls Tryz.prog 114 #[.slice (some ⟨b, off, none⟩) 3 cap] w fun e w' => e = .returned (.tuple #[.int .i64 (lenX 3 x0 x1 x2 x3).1, .int .i64 (lenX 3 x0 x1 x2 x3).2.1, .int .i64 (lenX 3 x0 x1 x2 x3).2.2]) ∧ w' = w := by
  have f0 := and127 x0 z0
  have g0 : bits .or .i64 0 (x0 % 128) = x0 % 128 := by have h := or_up 0 (by decide) 0 (x0 % 128) (by omega) (by omega) (by omega) (by omega) (by omega) (by omega); omega
  have f1 := and127 x1 z1
  have g1 : bits .or .i64 (x0 % 128) (x1 % 128 * 128) = x0 % 128 + x1 % 128 * 128 := or_up 7 (by decide) _ _ (by omega) (by omega) (by omega) (by omega) (by omega) (by omega)
  have f2 := and127 x2 z2
  have g2 : bits .or .i64 (x0 % 128 + x1 % 128 * 128) (x2 % 128 * 16384) = x0 % 128 + x1 % 128 * 128 + x2 % 128 * 16384 := or_up 14 (by decide) _ _ (by omega) (by omega) (by omega) (by omega) (by omega) (by omega)
  go_enter Tryz.func114, Tryz.ntmps114
  go_wp2
  go_loop [5, 14] (fun n i => (i = .int .i64 0 ∧ n = .int .i64 (0)) ∨ (i = .int .i64 1 ∧ n = .int .i64 (x0 % 128) ∧ ¬ x0 < 128) ∨ (i = .int .i64 2 ∧ n = .int .i64 (x0 % 128 + x1 % 128 * 128) ∧ ¬ x0 < 128 ∧ ¬ x1 < 128) ∨ (i = .int .i64 3 ∧ n = .int .i64 (x0 % 128 + x1 % 128 * 128 + x2 % 128 * 16384) ∧ ¬ x0 < 128 ∧ ¬ x1 < 128 ∧ ¬ x2 < 128)) (fun _ i => 4 - (intOf i).toNat)
  case atStart => exact .inl ⟨rfl, rfl⟩
  case round =>
    rcases hrel with ⟨rfl, rfl⟩ | ⟨rfl, rfl, b0⟩ | ⟨rfl, rfl, b0, b1⟩ | ⟨rfl, rfl, b0, b1, b2⟩
    · have hb := and128 x0 z0
      by_cases b0 : x0 < 128
      · have HR : Hid (lenX 3 x0 x1 x2 x3 = (x0 % 128, 1, 0)) := lenX_done0  (by decide) b0
        rw [decide_eq_true b0] at hb
        go_wp2
        go_ret3
        exact ⟨by rw [HR.out]; first | rfl | go_num, rfl⟩
      · rw [decide_eq_false b0] at hb
        go_wp2
        go_round
        case rel => exact .inr (.inl ⟨rfl, by first | rfl | go_num, b0⟩)
        case measure => simp [intOf]
    · have hb := and128 x1 z1
      by_cases b1 : x1 < 128
      · have HR : Hid (lenX 3 x0 x1 x2 x3 = (x0 % 128 + x1 % 128 * 128, 2, 0)) := lenX_done1 (by decide) b0 (by decide) b1
        rw [decide_eq_true b1] at hb
        go_wp2
        go_ret3
        exact ⟨by rw [HR.out]; first | rfl | go_num, rfl⟩
      · rw [decide_eq_false b1] at hb
        go_wp2
        go_round
        case rel => exact .inr (.inr (.inl ⟨rfl, by first | rfl | go_num, b0, b1⟩))
        case measure => simp [intOf]
    · have hb := and128 x2 z2
      by_cases b2 : x2 < 128
      · have HR : Hid (lenX 3 x0 x1 x2 x3 = (x0 % 128 + x1 % 128 * 128 + x2 % 128 * 16384, 3, 0)) := lenX_done2 (by decide) b0 (by decide) b1 (by decide) b2
        rw [decide_eq_true b2] at hb
        go_wp2
        go_ret3
        exact ⟨by rw [HR.out]; first | rfl | go_num, rfl⟩
      · rw [decide_eq_false b2] at hb
        go_wp2
        go_round
        case rel => exact .inr (.inr (.inr (⟨rfl, by first | rfl | go_num, b0, b1, b2⟩)))
        case measure => simp [intOf]
    · have HR : Hid (lenX 3 x0 x1 x2 x3 = (0, 0, 10)) := lenX_short3 (by decide) b0 (by decide) b1 (by decide) b2 rfl
      go_wp2
      go_ret3
      exact ⟨by rw [HR.out]; rfl, rfl⟩

set_option maxHeartbeats 1000000 in
theorem wlen4 (b off cap : Nat) (x0 x1 x2 x3 : Int) (w : World) (hcap : 4 ≤ cap) (z0 : 0 ≤ x0 ∧ x0 ≤ 255) (z1 : 0 ≤ x1 ∧ x1 ≤ 255) (z2 : 0 ≤ x2 ∧ x2 ≤ 255) (z3 : 0 ≤ x3 ∧ x3 ≤ 255) (c0 : w.cell? ⟨b, off, none⟩ = some (.int .u8 x0)) (c1 : w.cell? ⟨b, off + 1, none⟩ = some (.int .u8 x1)) (c2 : w.cell? ⟨b, off + 2, none⟩ = some (.int .u8 x2)) (c3 : w.cell? ⟨b, off + 3, none⟩ = some (.int .u8 x3)) :
    Calls Tryz.prog 114 #[.slice (some ⟨b, off, none⟩) 4 cap] w fun e w' => e = .returned (.tuple #[.int .i64 (lenX 4 x0 x1 x2 x3).1, .int .i64 (lenX 4 x0 x1 x2 x3).2.1, .int .i64 (lenX 4 x0 x1 x2 x3).2.2]) ∧ w' = w := by
  have f0 := and127 x0 z0
  have g0 : bits .or .i64 0 (x0 % 128) = x0 % 128 := by have h := or_up 0 (by decide) 0 (x0 % 128) (by omega) (by omega) (by omega) (by omega) (by omega) (by omega); omega
  have f1 := and127 x1 z1
  have g1 : bits .or .i64 (x0 % 128) (x1 % 128 * 128) = x0 % 128 + x1 % 128 * 128 := or_up 7 (by decide) _ _ (by omega) (by omega) (by omega) (by omega) (by omega) (by omega)
  have f2 := and127 x2 z2
  have g2 : bits .or .i64 (x0 % 128 + x1 % 128 * 128) (x2 % 128 * 16384) = x0 % 128 + x1 % 128 * 128 + x2 % 128 * 16384 := or_up 14 (by decide) _ _ (by omega) (by omega) (by omega) (by omega) (by omega) (by omega)
  have f3 := and127 x3 z3
  have g3 : bits .or .i64 (x0 % 128 + x1 % 128 * 128 + x2 % 128 * 16384) (x3 % 128 * 2097152) = x0 % 128 + x1 % 128 * 128 + x2 % 128 * 16384 + x3 % 128 * 2097152 := or_up 21 (by decide) _ _ (by omega) (by omega) (by omega) (by omega) (by omega) (by omega)
  go_enter Tryz.func114, Tryz.ntmps114
  go_wp2
  go_loop [5, 14] (fun n i => (i = .int .i64 0 ∧ n = .int .i64 (0)) ∨ (i = .int .i64 1 ∧ n = .int .i64 (x0 % 128) ∧ ¬ x0 < 128) ∨ (i = .int .i64 2 ∧ n = .int .i64 (x0 % 128 + x1 % 128 * 128) ∧ ¬ x0 < 128 ∧ ¬ x1 < 128) ∨ (i = .int .i64 3 ∧ n = .int .i64 (x0 % 128 + x1 % 128 * 128 + x2 % 128 * 16384) ∧ ¬ x0 < 128 ∧ ¬ x1 < 128 ∧ ¬ x2 < 128) ∨ (i = .int .i64 4 ∧ n = .int .i64 (x0 % 128 + x1 % 128 * 128 + x2 % 128 * 16384 + x3 % 128 * 2097152) ∧ ¬ x0 < 128 ∧ ¬ x1 < 128 ∧ ¬ x2 < 128 ∧ ¬ x3 < 128)) (fun _ i => 4 - (intOf i).toNat)
  case atStart => exact .inl ⟨rfl, rfl⟩
  case round =>
    rcases hrel with ⟨rfl, rfl⟩ | ⟨rfl, rfl, b0⟩ | ⟨rfl, rfl, b0, b1⟩ | ⟨rfl, rfl, b0, b1, b2⟩ | ⟨rfl, rfl, b0, b1, b2, b3⟩
    · have hb := and128 x0 z0
      by_cases b0 : x0 < 128
      · have HR : Hid (lenX 4 x0 x1 x2 x3 = (x0 % 128, 1, 0)) := lenX_done0  (by decide) b0
        rw [decide_eq_true b0] at hb
        go_wp2
        go_ret3
        exact ⟨by rw [HR.out]; first | rfl | go_num, rfl⟩
      · rw [decide_eq_false b0] at hb
        go_wp2
        go_round
        case rel => exact .inr (.inl ⟨rfl, by first | rfl | go_num, b0⟩)
        case measure => simp [intOf]
    · have hb := and128 x1 z1
      by_cases b1 : x1 < 128
      · have HR : Hid (lenX 4 x0 x1 x2 x3 = (x0 % 128 + x1 % 128 * 128, 2, 0)) := lenX_done1 (by decide) b0 (by decide) b1
        rw [decide_eq_true b1] at hb
        go_wp2
        go_ret3
        exact ⟨by rw [HR.out]; first | rfl | go_num, rfl⟩
      · rw [decide_eq_false b1] at hb
        go_wp2
        go_round
        case rel => exact .inr (.inr (.inl ⟨rfl, by first | rfl | go_num, b0, b1⟩))
        case measure => simp [intOf]
    · have hb := and128 x2 z2
      by_cases b2 : x2 < 128
      · have HR : Hid (lenX 4 x0 x1 x2 x3 = (x0 % 128 + x1 % 128 * 128 + x2 % 128 * 16384, 3, 0)) := lenX_done2 (by decide) b0 (by decide) b1 (by decide) b2
        rw [decide_eq_true b2] at hb
        go_wp2
        go_ret3
        exact ⟨by rw [HR.out]; first | rfl | go_num, rfl⟩
      · rw [decide_eq_false b2] at hb
        go_wp2
        go_round
        case rel => exact .inr (.inr (.inr (.inl ⟨rfl, by first | rfl | go_num, b0, b1, b2⟩)))
        case measure => simp [intOf]
    · have hb := and128 x3 z3
      by_cases b3 : x3 < 128
      · have HR : Hid (lenX 4 x0 x1 x2 x3 = (x0 % 128 + x1 % 128 * 128 + x2 % 128 * 16384 + x3 % 128 * 2097152, 4, 0)) := lenX_done3 (by decide) b0 (by decide) b1 (by decide) b2 (by decide) b3
        rw [decide_eq_true b3] at hb
        go_wp2
        go_ret3
        exact ⟨by rw [HR.out]; first | rfl | go_num, rfl⟩
      · rw [decide_eq_false b3] at hb
        go_wp2
        go_round
        case rel => exact .inr (.inr (.inr (.inr (⟨rfl, by first | rfl | go_num, b0, b1, b2, b3⟩))))
        case measure => simp [intOf]
    · have HR : Hid (lenX 4 x0 x1 x2 x3 = (0, 0, 12)) := lenX_form (by decide) b0 (by decide) b1 (by decide) b2 (by decide) b3
      go_wp2
      go_ret3
      exact ⟨by rw [HR.out]; rfl, rfl⟩

set_option maxHeartbeats 1000000 in
theorem wlen5 (b off cap : Nat) (x0 x1 x2 x3 : Int) (w : World) (len : Nat) (h4 : 4 < len) (hm : len ≤ 1000000) (hcap : len ≤ cap) (z0 : 0 ≤ x0 ∧ x0 ≤ 255) (z1 : 0 ≤ x1 ∧ x1 ≤ 255) (z2 : 0 ≤ x2 ∧ x2 ≤ 255) (z3 : 0 ≤ x3 ∧ x3 ≤ 255) (c0 : w.cell? ⟨b, off, none⟩ = some (.int .u8 x0)) (c1 : w.cell? ⟨b, off + 1, none⟩ = some (.int .u8 x1)) (c2 : w.cell? ⟨b, off + 2, none⟩ = some (.int .u8 x2)) (c3 : w.cell? ⟨b, off + 3, none⟩ = some (.int .u8 x3)) :
    Calls Tryz.prog 114 #[.slice (some ⟨b, off, none⟩) len cap] w fun e w' => e = .returned (.tuple #[.int .i64 (lenX len x0 x1 x2 x3).1, .int .i64 (lenX len x0 x1 x2 x3).2.1, .int .i64 (lenX len x0 x1 x2 x3).2.2]) ∧ w' = w := by
  have h4i : ¬ (len : Int) ≤ 4 := by omega
  have HN : Hid (∀ k, k < 4 → ¬ len = k) := fun k hk => by omega
  have f0 := and127 x0 z0
  have g0 : bits .or .i64 0 (x0 % 128) = x0 % 128 := by have h := or_up 0 (by decide) 0 (x0 % 128) (by omega) (by omega) (by omega) (by omega) (by omega) (by omega); omega
  have f1 := and127 x1 z1
  have g1 : bits .or .i64 (x0 % 128) (x1 % 128 * 128) = x0 % 128 + x1 % 128 * 128 := or_up 7 (by decide) _ _ (by omega) (by omega) (by omega) (by omega) (by omega) (by omega)
  have f2 := and127 x2 z2
  have g2 : bits .or .i64 (x0 % 128 + x1 % 128 * 128) (x2 % 128 * 16384) = x0 % 128 + x1 % 128 * 128 + x2 % 128 * 16384 := or_up 14 (by decide) _ _ (by omega) (by omega) (by omega) (by omega) (by omega) (by omega)
  have f3 := and127 x3 z3
  have g3 : bits .or .i64 (x0 % 128 + x1 % 128 * 128 + x2 % 128 * 16384) (x3 % 128 * 2097152) = x0 % 128 + x1 % 128 * 128 + x2 % 128 * 16384 + x3 % 128 * 2097152 := or_up 21 (by decide) _ _ (by omega) (by omega) (by omega) (by omega) (by omega) (by omega)
  go_enter Tryz.func114, Tryz.ntmps114
  go_wp2
  go_loop [5, 14] (fun n i => (i = .int .i64 0 ∧ n = .int .i64 (0)) ∨ (i = .int .i64 1 ∧ n = .int .i64 (x0 % 128) ∧ ¬ x0 < 128) ∨ (i = .int .i64 2 ∧ n = .int .i64 (x0 % 128 + x1 % 128 * 128) ∧ ¬ x0 < 128 ∧ ¬ x1 < 128) ∨ (i = .int .i64 3 ∧ n = .int .i64 (x0 % 128 + x1 % 128 * 128 + x2 % 128 * 16384) ∧ ¬ x0 < 128 ∧ ¬ x1 < 128 ∧ ¬ x2 < 128) ∨ (i = .int .i64 4 ∧ n = .int .i64 (x0 % 128 + x1 % 128 * 128 + x2 % 128 * 16384 + x3 % 128 * 2097152) ∧ ¬ x0 < 128 ∧ ¬ x1 < 128 ∧ ¬ x2 < 128 ∧ ¬ x3 < 128)) (fun _ i => 4 - (intOf i).toNat)
  case atStart => exact .inl ⟨rfl, rfl⟩
  case round =>
    rcases hrel with ⟨rfl, rfl⟩ | ⟨rfl, rfl, b0⟩ | ⟨rfl, rfl, b0, b1⟩ | ⟨rfl, rfl, b0, b1, b2⟩ | ⟨rfl, rfl, b0, b1, b2, b3⟩
    · have hb := and128 x0 z0
      by_cases b0 : x0 < 128
      · have HR : Hid (lenX len x0 x1 x2 x3 = (x0 % 128, 1, 0)) := lenX_done0  (HN.out 0 (by decide)) b0
        rw [decide_eq_true b0] at hb
        go_wp2
        go_ret3
        exact ⟨by rw [HR.out]; first | rfl | go_num, rfl⟩
      · rw [decide_eq_false b0] at hb
        go_wp2
        go_round
        case rel => exact .inr (.inl ⟨rfl, by first | rfl | go_num, b0⟩)
        case measure => simp [intOf]
    · have hb := and128 x1 z1
      by_cases b1 : x1 < 128
      · have HR : Hid (lenX len x0 x1 x2 x3 = (x0 % 128 + x1 % 128 * 128, 2, 0)) := lenX_done1 (HN.out 0 (by decide)) b0 (HN.out 1 (by decide)) b1
        rw [decide_eq_true b1] at hb
        go_wp2
        go_ret3
        exact ⟨by rw [HR.out]; first | rfl | go_num, rfl⟩
      · rw [decide_eq_false b1] at hb
        go_wp2
        go_round
        case rel => exact .inr (.inr (.inl ⟨rfl, by first | rfl | go_num, b0, b1⟩))
        case measure => simp [intOf]
    · have hb := and128 x2 z2
      by_cases b2 : x2 < 128
      · have HR : Hid (lenX len x0 x1 x2 x3 = (x0 % 128 + x1 % 128 * 128 + x2 % 128 * 16384, 3, 0)) := lenX_done2 (HN.out 0 (by decide)) b0 (HN.out 1 (by decide)) b1 (HN.out 2 (by decide)) b2
        rw [decide_eq_true b2] at hb
        go_wp2
        go_ret3
        exact ⟨by rw [HR.out]; first | rfl | go_num, rfl⟩
      · rw [decide_eq_false b2] at hb
        go_wp2
        go_round
        case rel => exact .inr (.inr (.inr (.inl ⟨rfl, by first | rfl | go_num, b0, b1, b2⟩)))
        case measure => simp [intOf]
    · have hb := and128 x3 z3
      by_cases b3 : x3 < 128
      · have HR : Hid (lenX len x0 x1 x2 x3 = (x0 % 128 + x1 % 128 * 128 + x2 % 128 * 16384 + x3 % 128 * 2097152, 4, 0)) := lenX_done3 (HN.out 0 (by decide)) b0 (HN.out 1 (by decide)) b1 (HN.out 2 (by decide)) b2 (HN.out 3 (by decide)) b3
        rw [decide_eq_true b3] at hb
        go_wp2
        go_ret3
        exact ⟨by rw [HR.out]; first | rfl | go_num, rfl⟩
      · rw [decide_eq_false b3] at hb
        go_wp2
        go_round
        case rel => exact .inr (.inr (.inr (.inr (⟨rfl, by first | rfl | go_num, b0, b1, b2, b3⟩))))
        case measure => simp [intOf]
    · have HR : Hid (lenX len x0 x1 x2 x3 = (0, 0, 12)) := lenX_form (HN.out 0 (by decide)) b0 (HN.out 1 (by decide)) b1 (HN.out 2 (by decide)) b2 (HN.out 3 (by decide)) b3
      go_wp2
      go_ret3
      exact ⟨by rw [HR.out]; rfl, rfl⟩
end Go.Proofs.YtkjeneklkdekoaaGreatDoor
namespace Go.Proofs.YtkjeneklkdekoaaGreatDoor
open Go Go.RowKit
set_option linter.unusedSimpArgs false
set_option linter.unusedVariables false

set_option maxRecDepth 100000 in
set_option maxHeartbeats 400000 in
theorem num2_ok (rb g n cp at0 : Nat) (p0 x0 x1 : Int) (w : World) (hR : RdAt w rb (.slice (some ⟨g, 0, none⟩) n cp) at0 p0 0) (h2 : n ≤ cp) (h3 : n ≤ 1000000) (hk : at0 + 2 ≤ n) (hgr : g ≠ rb)
    (z0 : 0 ≤ x0 ∧ x0 ≤ 255) (z1 : 0 ≤ x1 ∧ x1 ≤ 255) (c0 : w.cell? ⟨g, at0, none⟩ = some (.int .u8 x0)) (c1 : w.cell? ⟨g, at0 + 1, none⟩ = some (.int .u8 x1)) :
    Calls Tryz.prog 111 #[.pointer (some ⟨rb, 0, none⟩), .int .i64 2] w fun e w' => e = .returned (.int .i64 (x0 * 256 + x1)) ∧ RdAt w' rb (.slice (some ⟨g, 0, none⟩) n cp) ((at0 + 2 : Nat) : Int) p0 0 ∧ w.grownBy w' (some rb) := by
  have HT : Hid (Calls Tryz.prog 108 #[.pointer (some ⟨rb, 0, none⟩), .int .i64 2] w fun e w' => (∃ ad, e = .returned (.slice (some ad) 2 (cp - at0)) ∧ (at0 < cp → ad = ⟨g, at0, none⟩)) ∧ RdAt w' rb (.slice (some ⟨g, 0, none⟩) n cp) ((at0 + 2 : Nat) : Int) p0 0 ∧ w.grownBy w' (some rb)) := take_ok rb g n cp at0 2 p0 w hR h2 h3 hk
  have HC : Hid (∀ w', w.grownBy w' (some rb) → w'.cell? ⟨g, at0, none⟩ = some (.int .u8 x0) ∧ w'.cell? ⟨g, at0 + 1, none⟩ = some (.int .u8 x1)) := fun w' h => ⟨h.cell c0 (by simpa using hgr), h.cell c1 (by simpa using hgr)⟩
  clear hR c0 c1
  have hat : at0 < cp := by omega
  have o0 : bits .or .i64 0 x0 = x0 := by have h := or_up 0 (by decide) 0 x0 (by omega) (by omega) (by omega) (by omega) (by omega) (by omega); omega
  have o1 : bits .or .i64 (x0 * 256) x1 = x0 * 256 + x1 := bits_join .i64 62 (by decide) wraps_i64 8 _ _ (by omega) (by omega) (by omega) (by omega) (by omega) (by omega)
  go_enter Tryz.func111, Tryz.ntmps111
  go_wp2_with (go_at_call 108; refine HT.out.mono ?_; rintro e w1 ⟨⟨ad, rfl, had⟩, hR1, hg1⟩; obtain rfl := had hat; clear had; obtain ⟨d0, d1⟩ := HC.out _ hg1; have HR1 : Hid (RdAt w1 rb (.slice (some ⟨g, 0, none⟩) n cp) ((at0 + 2 : Nat) : Int) p0 0 ∧ w.grownBy w1 (some rb)) := ⟨hR1, hg1⟩; clear hR1 hg1)
  go_loop [5, 7, 12] (fun v _ i => (i = .int .i64 0 ∧ v = .int .i64 0) ∨ (i = .int .i64 1 ∧ v = .int .i64 x0) ∨ (i = .int .i64 2 ∧ v = .int .i64 (x0 * 256 + x1))) (fun _ _ i => 2 - (intOf i).toNat)
  case atStart => exact .inl ⟨rfl, rfl⟩
  case round =>
    rcases hrel with ⟨rfl, rfl⟩ | ⟨rfl, rfl⟩ | ⟨rfl, rfl⟩
    · go_wp2
      go_round
      case rel => exact .inr (.inl ⟨rfl, rfl⟩)
      case measure => simp [intOf]
    · go_wp2
      go_round
      case rel => exact .inr (.inr ⟨rfl, rfl⟩)
      case measure => simp [intOf]
    · go_wp2
      go_ret
      exact ⟨rfl, HR1.out.1, HR1.out.2⟩
end Go.Proofs.YtkjeneklkdekoaaGreatDoor
namespace Go.Proofs.YtkjeneklkdekoaaGreatDoor
open Go Go.RowKit
set_option linter.unusedSimpArgs false
set_option linter.unusedVariables false

theorem hidi {p : Prop} (h : p) : Hid p := h
end Go.Proofs.YtkjeneklkdekoaaGreatDoor
