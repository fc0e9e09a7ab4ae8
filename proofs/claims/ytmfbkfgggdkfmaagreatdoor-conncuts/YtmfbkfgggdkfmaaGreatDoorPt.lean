import Derived.Test.YtmfbkfgggdkfmaaGreatDoorSone
import Derived.Deep.RegionWith
import Derived.Test.YtmfbkfgggdkfmaaGreatDoorProg
import Derived.WalkKit
import Derived.WalkSpells
import Derived.WalkLawsBesides
import Derived.Laws.BitsAllLaws
import Derived.Laws.RangeAny
namespace Go.Proofs.YtmfbkfgggdkfmaaGreatDoor
open Go Go.RowKit
set_option linter.unusedSimpArgs false
set_option linter.unusedVariables false

/-- A region's last operation whose call ends the function: nothing of the region is left. -/
theorem aside {X : Prop} (P : Program) (a : Act) (w : World) (h : X) (_ : wpAny P .any #[] (fun _ _ _ => True) 0 #[] a w) : X := h

/-- How a read gives up. -/
abbrev gave (p q : Int) : Ending := .panicked [{ v := .iface 61 (.agg #[.int .i64 p, .int .i64 q]), recovered := false }]

set_option maxRecDepth 100000 in
set_option maxHeartbeats 400000 in
theorem give_any (p q : Int) (w : World) :
    Calls Tryz.prog 77 #[.int .i64 p, .int .i64 q] w fun e w' => e = gave p q ∧ w' = w := by
  go_enter Tryz.func77, Tryz.ntmps77
  go_wp2
  exact ⟨rfl, rfl, rfl⟩

set_option maxRecDepth 100000 in
set_option maxHeartbeats 400000 in
theorem left_bad (rb : Nat) (bv : Value) (at0 p0 q0 : Int) (w : World) (hR : RdAt w rb bv at0 p0 q0) (hq : ¬ q0 = 0) :
    Calls Tryz.prog 76 #[.pointer (some ⟨rb, 0, none⟩)] w fun e w' => e = gave p0 q0 ∧ Below w.heap.size w w' := by
  obtain ⟨hlt, c0, c1, c2, c3, f1, f2, f3⟩ := hR.facts
  clear hR
  have hq' : (q0 != 0) = true := by simpa using hq
  clear hq
  go_enter Tryz.func76, Tryz.ntmps76
  go_wp2
  go_region_with (go_at_call 77; refine (give_any _ _ _).mono ?_; rintro e w' ⟨rfl, rfl⟩; refine aside Tryz.prog { tmps := #[], defers := [] } w ⟨rfl, rfl, (Below.refl _ _).drew⟩ ?_)
  all_goals trivial

set_option maxRecDepth 100000 in
set_option maxHeartbeats 400000 in
theorem left_ok (rb g n cp at0 : Nat) (p0 : Int) (w : World) (hR : RdAt w rb (.slice (some ⟨g, 0, none⟩) n cp) at0 p0 0) (h1 : at0 ≤ n) (h2 : n ≤ cp) (h3 : n ≤ 1000000) :
    Calls Tryz.prog 76 #[.pointer (some ⟨rb, 0, none⟩)] w fun e w' => (∃ ad, e = .returned (.slice (some ad) (n - at0) (cp - at0)) ∧ (at0 < cp → ad = ⟨g, at0, none⟩)) ∧ w' = w.drew := by
  obtain ⟨hlt, c0, c1, c2, c3, f1, f2, f3⟩ := hR.facts
  clear hR
  go_enter Tryz.func76, Tryz.ntmps76
  go_wp2
  go_region
  all_goals (try go_wp2)
  all_goals go_ret
  · exact ⟨⟨_, rfl⟩, rfl⟩
  · exact ⟨⟨_, rfl, fun _ => rfl⟩, rfl⟩
end Go.Proofs.YtmfbkfgggdkfmaaGreatDoor
namespace Go.Proofs.YtmfbkfgggdkfmaaGreatDoor
open Go Go.RowKit
set_option linter.unusedSimpArgs false
set_option linter.unusedVariables false

theorem RdAt.kept {w w' : World} {rb : Nat} {bv : Value} {at0 p0 q0 : Int} (h : RdAt w rb bv at0 p0 q0) (hb : Below w.heap.size w w') : RdAt w' rb bv at0 p0 q0 := (hb.block rb (lt_of_block h)).trans h
theorem RdAt.moved {w : World} {rb : Nat} {bv : Value} {at0 p0 q0 : Int} (h : RdAt w rb bv at0 p0 q0) (f : Int) : RdAt (w.setCell ⟨rb, 1, none⟩ (.int .i64 f)) rb bv f p0 q0 := heap_set (i := 1) h (.int .i64 f)

set_option maxRecDepth 100000 in
set_option maxHeartbeats 400000 in
theorem take_bad (rb : Nat) (bv : Value) (at0 p0 q0 k : Int) (w : World) (hR : RdAt w rb bv at0 p0 q0) (hq : ¬ q0 = 0) :
    Calls Tryz.prog 57 #[.pointer (some ⟨rb, 0, none⟩), .int .i64 k] w fun e w' => e = gave p0 q0 ∧ Below w.heap.size w w' := by
  have HL : Hid (Calls Tryz.prog 76 #[.pointer (some ⟨rb, 0, none⟩)] w fun e w' => e = gave p0 q0 ∧ Below w.heap.size w w') := left_bad rb bv at0 p0 q0 w hR hq
  clear hR hq
  go_enter Tryz.func57, Tryz.ntmps57
  go_wp2_with (go_at_call 76; refine HL.out.mono ?_; rintro e w' ⟨rfl, hb⟩)
  exact ⟨rfl, rfl, hb⟩

set_option maxRecDepth 100000 in
set_option maxHeartbeats 400000 in
theorem take_short (rb g n cp at0 k : Nat) (p0 : Int) (w : World) (hR : RdAt w rb (.slice (some ⟨g, 0, none⟩) n cp) at0 p0 0) (h1 : at0 ≤ n) (h2 : n ≤ cp) (h3 : n ≤ 1000000) (hk : n < at0 + k) :
    Calls Tryz.prog 57 #[.pointer (some ⟨rb, 0, none⟩), .int .i64 k] w fun e w' => e = gave n 10 ∧ Below w.heap.size w w' := by
  have HL : Hid (Calls Tryz.prog 76 #[.pointer (some ⟨rb, 0, none⟩)] w fun e w' => (∃ ad, e = .returned (.slice (some ad) (n - at0) (cp - at0)) ∧ (at0 < cp → ad = ⟨g, at0, none⟩)) ∧ w' = w.drew) := left_ok rb g n cp at0 p0 w hR h1 h2 h3
  obtain ⟨hlt, c0, c1, c2, c3, f1, f2, f3⟩ := hR.facts
  clear hR
  have hx : (((n - at0 : Nat) : Int)) < (k : Int) := by omega
  go_enter Tryz.func57, Tryz.ntmps57
  go_wp2_with (first | (go_at_call 76; refine HL.out.mono ?_; rintro e w' ⟨⟨ad, rfl, _⟩, rfl⟩) | (go_at_call 77; refine (give_any _ _ _).mono ?_; rintro e w' ⟨rfl, rfl⟩))
  exact ⟨rfl, rfl, (Below.refl _ _).drew⟩

set_option maxRecDepth 100000 in
set_option maxHeartbeats 400000 in
theorem take_ok (rb g n cp at0 k : Nat) (p0 : Int) (w : World) (hR : RdAt w rb (.slice (some ⟨g, 0, none⟩) n cp) at0 p0 0) (h2 : n ≤ cp) (h3 : n ≤ 1000000) (hk : at0 + k ≤ n) :
    Calls Tryz.prog 57 #[.pointer (some ⟨rb, 0, none⟩), .int .i64 k] w fun e w' => (∃ ad, e = .returned (.slice (some ad) k (cp - at0)) ∧ (at0 < cp → ad = ⟨g, at0, none⟩)) ∧ RdAt w' rb (.slice (some ⟨g, 0, none⟩) n cp) ((at0 + k : Nat) : Int) p0 0 ∧ w.grownBy w' (some rb) := by
  have HL : Hid (Calls Tryz.prog 76 #[.pointer (some ⟨rb, 0, none⟩)] w fun e w' => (∃ ad, e = .returned (.slice (some ad) (n - at0) (cp - at0)) ∧ (at0 < cp → ad = ⟨g, at0, none⟩)) ∧ w' = w.drew) := left_ok rb g n cp at0 p0 w hR (by omega) h2 h3
  obtain ⟨hlt, c0, c1, c2, c3, f1, f2, f3⟩ := hR.facts
  have HR : Hid (RdAt w rb (.slice (some ⟨g, 0, none⟩) n cp) at0 p0 0) := hR
  clear hR
  have hx : ¬ (((n - at0 : Nat) : Int)) < (k : Int) := by omega
  have hy : k ≤ cp - at0 := by omega
  go_enter Tryz.func57, Tryz.ntmps57
  go_wp2_with (go_at_call 76; refine HL.out.mono ?_; rintro e w' ⟨⟨ad, rfl, had⟩, rfl⟩)
  go_ret
  exact ⟨⟨ad, rfl, had⟩, HR.out.moved _, gb_drew (gb_set (gb_refl _ _) _ _)⟩
end Go.Proofs.YtmfbkfgggdkfmaaGreatDoor
namespace Go.Proofs.YtmfbkfgggdkfmaaGreatDoor
open Go.RowKit
set_option linter.unusedSimpArgs false
set_option linter.unusedVariables false

end Go.Proofs.YtmfbkfgggdkfmaaGreatDoor
namespace Go.Proofs.YtmfbkfgggdkfmaaGreatDoor
open Go.RowKit
set_option linter.unusedSimpArgs false
set_option linter.unusedVariables false

theorem wraps_i64 (n : Int) (h₀ : 0 ≤ n) (h₁ : n < 2 ^ 62) : IntKind.i64.wrap n = n := by rw [IntKind.wrap_i64]; omega
theorem and127 (x : Int) (h : 0 ≤ x ∧ x ≤ 255) : bits .and .u8 x 127 = x % 128 := bits_mask .u8 8 (by decide) wraps_u8 7 (by decide) x h.1 (by omega)
set_option maxRecDepth 100000 in
theorem nat128 : ∀ n : Nat, n < 256 → ((n &&& 128 = 0) ↔ n < 128) := by decide
theorem and128 (x : Int) (h : 0 ≤ x ∧ x ≤ 255) : (bits .and .u8 x 128 == 0) = decide (x < 128) := by
  rw [u8_and x 128 h.1 (by omega) (by decide) (by decide)]
  have h1 := nat128 x.toNat (by omega)
  rw [Bool.eq_iff_iff]
  simp only [beq_iff_eq, decide_eq_true_eq]
  have e : (128 : Int).toNat = 128 := rfl
  rw [e]
  omega
theorem or_up (i : Nat) (hi : i ≤ 62) (x y : Int) (hx₀ : 0 ≤ x) (hx : x < 2 ^ i) (hx₁ : x < 2 ^ 62) (hy₀ : 0 ≤ y) (hy : y % 2 ^ i = 0) (hy₁ : y < 2 ^ 62) : bits .or .i64 x y = x + y := by
  have h : bits .or .i64 y x = y + x := bits_join .i64 62 (by decide) wraps_i64 i y x hy₀ hy hy₁ hx₀ hx hx₁
  have c : bits .or .i64 x y = bits .or .i64 y x := by
    obtain ⟨a, rfl⟩ := Int.eq_ofNat_of_zero_le hx₀
    obtain ⟨b, rfl⟩ := Int.eq_ofNat_of_zero_le hy₀
    have ha : a < 2 ^ 62 := by exact_mod_cast hx₁
    have hb : b < 2 ^ 62 := by exact_mod_cast hy₁
    rw [(bits_nat .i64 62 (by decide) wraps_i64 a b ha hb).2, (bits_nat .i64 62 (by decide) wraps_i64 b a hb ha).2, Nat.or_comm]
  rw [c, h]
  omega

end Go.Proofs.YtmfbkfgggdkfmaaGreatDoor
namespace Go.Proofs.YtmfbkfgggdkfmaaGreatDoor
open Go Go.RowKit
set_option linter.unusedSimpArgs false
set_option linter.unusedVariables false

set_option maxRecDepth 100000 in
set_option maxHeartbeats 400000 in
theorem num2_ok (rb g n cp at0 : Nat) (p0 x0 x1 : Int) (w : World) (hR : RdAt w rb (.slice (some ⟨g, 0, none⟩) n cp) at0 p0 0) (h2 : n ≤ cp) (h3 : n ≤ 1000000) (hk : at0 + 2 ≤ n) (hgr : g ≠ rb)
    (z0 : 0 ≤ x0 ∧ x0 ≤ 255) (z1 : 0 ≤ x1 ∧ x1 ≤ 255) (c0 : w.cell? ⟨g, at0, none⟩ = some (.int .u8 x0)) (c1 : w.cell? ⟨g, at0 + 1, none⟩ = some (.int .u8 x1)) :
    Calls Tryz.prog 85 #[.pointer (some ⟨rb, 0, none⟩), .int .i64 2] w fun e w' => e = .returned (.int .i64 (x0 * 256 + x1)) ∧ RdAt w' rb (.slice (some ⟨g, 0, none⟩) n cp) ((at0 + 2 : Nat) : Int) p0 0 ∧ w.grownBy w' (some rb) := by
  have HT : Hid (Calls Tryz.prog 57 #[.pointer (some ⟨rb, 0, none⟩), .int .i64 2] w fun e w' => (∃ ad, e = .returned (.slice (some ad) 2 (cp - at0)) ∧ (at0 < cp → ad = ⟨g, at0, none⟩)) ∧ RdAt w' rb (.slice (some ⟨g, 0, none⟩) n cp) ((at0 + 2 : Nat) : Int) p0 0 ∧ w.grownBy w' (some rb)) := take_ok rb g n cp at0 2 p0 w hR h2 h3 hk
  have HC : Hid (∀ w', w.grownBy w' (some rb) → w'.cell? ⟨g, at0, none⟩ = some (.int .u8 x0) ∧ w'.cell? ⟨g, at0 + 1, none⟩ = some (.int .u8 x1)) := fun w' h => ⟨h.cell c0 (by simpa using hgr), h.cell c1 (by simpa using hgr)⟩
  clear hR c0 c1
  have hat : at0 < cp := by omega
  have o0 : bits .or .i64 0 x0 = x0 := by have h := or_up 0 (by decide) 0 x0 (by omega) (by omega) (by omega) (by omega) (by omega) (by omega); omega
  have o1 : bits .or .i64 (x0 * 256) x1 = x0 * 256 + x1 := bits_join .i64 62 (by decide) wraps_i64 8 _ _ (by omega) (by omega) (by omega) (by omega) (by omega) (by omega)
  go_enter Tryz.func85, Tryz.ntmps85
  go_wp2_with (go_at_call 57; refine HT.out.mono ?_; rintro e w1 ⟨⟨ad, rfl, had⟩, hR1, hg1⟩; obtain rfl := had hat; clear had; obtain ⟨d0, d1⟩ := HC.out _ hg1; have HR1 : Hid (RdAt w1 rb (.slice (some ⟨g, 0, none⟩) n cp) ((at0 + 2 : Nat) : Int) p0 0 ∧ w.grownBy w1 (some rb)) := ⟨hR1, hg1⟩; clear hR1 hg1)
  go_loop [5, 7, 12] (fun v _ i => (i = .int .i64 0 ∧ v = .int .i64 0) ∨ (i = .int .i64 1 ∧ v = .int .i64 x0) ∨ (i = .int .i64 2 ∧ v = .int .i64 (x0 * 256 + x1))) (fun _ _ i => 2 - (intOf i).toNat)
  case atStart => exact .inl ⟨rfl, rfl⟩
  case round =>
    rcases hrel with ⟨rfl, rfl⟩ | ⟨rfl, rfl⟩ | ⟨rfl, rfl⟩
    · go_wp2
      go_round
      case rel => exact .inr (.inl ⟨rfl, rfl⟩)
      case measure => simp [intOf]
    · go_wp2
      go_round
      case rel => exact .inr (.inr ⟨rfl, rfl⟩)
      case measure => simp [intOf]
    · go_wp2
      go_ret
      exact ⟨rfl, HR1.out.1, HR1.out.2⟩
end Go.Proofs.YtmfbkfgggdkfmaaGreatDoor
namespace Go.Proofs.YtmfbkfgggdkfmaaGreatDoor

/-- The byte at a place; 0 behind the end. -/
def atB (s : ByteArray) (i : Nat) : Nat := (s.get! i).toNat

theorem atB_lt (s : ByteArray) (i : Nat) : atB s i < 256 := (s.get! i).toNat_lt

theorem atB_in (s : ByteArray) (i : Nat) (h : i < s.size) : atB s i = (s[i]'h).toNat := by
  unfold atB; rw [← get_at s i h]; rfl

theorem atB_out (s : ByteArray) (i : Nat) (h : ¬ i < s.size) : atB s i = 0 := by
  unfold atB
  have : s.get! i = 0 := by
    simp only [ByteArray.get!]
    rw [getElem!_neg]
    · rfl
    · simpa using h
  rw [this]; rfl

theorem lt_of_atB (s : ByteArray) (i : Nat) (h : atB s i ≠ 0) : i < s.size := by
  apply Classical.byContradiction
  intro hn
  exact h (atB_out s i hn)

/-- How many bytes the code point takes whose first bytes these are; 0: none. -/
def pt (c d e f : Nat) : Nat :=
  if c ≤ 0x7F then 1
  else if (0xC2 ≤ c ∧ c ≤ 0xDF) ∧ (0x80 ≤ d ∧ d ≤ 0xBF) then 2
  else if (c = 0xE0 ∧ (0xA0 ≤ d ∧ d ≤ 0xBF) ∧ (0x80 ≤ e ∧ e ≤ 0xBF)) ∨ ((0xE1 ≤ c ∧ c ≤ 0xEC) ∧ (0x80 ≤ d ∧ d ≤ 0xBF) ∧ (0x80 ≤ e ∧ e ≤ 0xBF)) ∨ (c = 0xED ∧ (0x80 ≤ d ∧ d ≤ 0x9F) ∧ (0x80 ≤ e ∧ e ≤ 0xBF)) ∨ ((0xEE ≤ c ∧ c ≤ 0xEF) ∧ (0x80 ≤ d ∧ d ≤ 0xBF) ∧ (0x80 ≤ e ∧ e ≤ 0xBF)) then 3
  else if (c = 0xF0 ∧ (0x90 ≤ d ∧ d ≤ 0xBF) ∧ (0x80 ≤ e ∧ e ≤ 0xBF) ∧ (0x80 ≤ f ∧ f ≤ 0xBF)) ∨ ((0xF1 ≤ c ∧ c ≤ 0xF3) ∧ (0x80 ≤ d ∧ d ≤ 0xBF) ∧ (0x80 ≤ e ∧ e ≤ 0xBF) ∧ (0x80 ≤ f ∧ f ≤ 0xBF)) ∨ (c = 0xF4 ∧ (0x80 ≤ d ∧ d ≤ 0x8F) ∧ (0x80 ≤ e ∧ e ≤ 0xBF) ∧ (0x80 ≤ f ∧ f ≤ 0xBF)) then 4
  else 0

/-- Decoding by four bytes alone. -/
def dec (c d e f : Nat) : Nat × Nat :=
  if c < 0x80 then (c, 1)
  else if c / 32 = 6 ∧ d / 64 = 2 then
    if 0x80 ≤ (c % 32) * 64 + d % 64 then ((c % 32) * 64 + d % 64, 2) else (0xFFFD, 1)
  else if c / 16 = 14 ∧ d / 64 = 2 ∧ e / 64 = 2 then
    if 0x800 ≤ (c % 16) * 4096 + (d % 64) * 64 + e % 64 ∧ ((c % 16) * 4096 + (d % 64) * 64 + e % 64 < 0xD800 ∨ 0xE000 ≤ (c % 16) * 4096 + (d % 64) * 64 + e % 64) then ((c % 16) * 4096 + (d % 64) * 64 + e % 64, 3) else (0xFFFD, 1)
  else if c / 8 = 30 ∧ d / 64 = 2 ∧ e / 64 = 2 ∧ f / 64 = 2 then
    if 0x10000 ≤ (c % 8) * 262144 + (d % 64) * 4096 + (e % 64) * 64 + f % 64 ∧ (c % 8) * 262144 + (d % 64) * 4096 + (e % 64) * 64 + f % 64 ≤ 0x10FFFF then ((c % 8) * 262144 + (d % 64) * 4096 + (e % 64) * 64 + f % 64, 4) else (0xFFFD, 1)
  else (0xFFFD, 1)

theorem cont_iff (s : ByteArray) (i k : Nat) : (decide (i + k < s.size) && (s.get! (i + k)).toNat / 64 == 2) = decide (atB s (i + k) / 64 = 2) := by
  rw [Bool.eq_iff_iff]
  simp only [Bool.and_eq_true, decide_eq_true_eq, beq_iff_eq]
  constructor
  · exact fun h => h.2
  · intro h
    exact ⟨lt_of_atB s _ (by omega), h⟩

set_option maxRecDepth 100000 in
theorem decode_dec (s : ByteArray) (i : Nat) : Utf8.decode s i = dec (atB s i) (atB s (i + 1)) (atB s (i + 2)) (atB s (i + 3)) := by
  simp only [Utf8.decode, cont_iff]
  simp only [show ∀ j, (s.get! j).toNat = atB s j from fun _ => rfl, Nat.add_zero]
  have h0 := atB_lt s i
  have h1 := atB_lt s (i + 1)
  have h2 := atB_lt s (i + 2)
  have h3 := atB_lt s (i + 3)
  generalize atB s i = c at *
  generalize atB s (i + 1) = d at *
  generalize atB s (i + 2) = e at *
  generalize atB s (i + 3) = f at *
  unfold dec
  by_cases k1 : c < 0x80
  · simp [k1]
  rw [if_neg k1, if_neg k1]
  by_cases k2 : c / 32 = 6 ∧ d / 64 = 2
  · rw [if_pos (by simpa using k2), if_pos k2]; rfl
  rw [if_neg (by simpa using k2), if_neg k2]
  by_cases k3 : c / 16 = 14 ∧ d / 64 = 2 ∧ e / 64 = 2
  · rw [if_pos (by simpa [and_assoc] using k3), if_pos k3]
    obtain ⟨v, hv⟩ : ∃ v, c % 16 * 4096 + d % 64 * 64 + e % 64 = v := ⟨_, rfl⟩
    have hv' : v < 65536 := by omega
    rw [hv]
    by_cases kk : 0x800 ≤ v ∧ (v < 0xD800 ∨ 0xE000 ≤ v)
    · rw [if_pos kk, if_pos]
      simp only [Utf8.valid, Bool.and_eq_true, Bool.or_eq_true, decide_eq_true_eq]; omega
    · rw [if_neg kk, if_neg]
      · rfl
      · simp only [Utf8.valid, Bool.and_eq_true, Bool.or_eq_true, decide_eq_true_eq]; omega
  rw [if_neg (by simpa [and_assoc] using k3), if_neg k3]
  by_cases k4 : c / 8 = 30 ∧ d / 64 = 2 ∧ e / 64 = 2 ∧ f / 64 = 2
  · rw [if_pos (by simpa [and_assoc] using k4), if_pos k4]
    obtain ⟨v, hv⟩ : ∃ v, c % 8 * 262144 + d % 64 * 4096 + e % 64 * 64 + f % 64 = v := ⟨_, rfl⟩
    rw [hv]
    by_cases kk : 0x10000 ≤ v ∧ v ≤ 0x10FFFF
    · rw [if_pos kk, if_pos]
      simp only [Utf8.valid, Bool.and_eq_true, Bool.or_eq_true, decide_eq_true_eq]; omega
    · rw [if_neg kk, if_neg]
      · rfl
      · simp only [Utf8.valid, Bool.and_eq_true, Bool.or_eq_true, decide_eq_true_eq]; omega
  rw [if_neg (by simpa [and_assoc] using k4), if_neg k4]
  rfl

/-- What decoding tells, held against how many bytes the code point takes. -/
def Fits (n c d e : Nat) (x : Nat × Nat) : Prop :=
  (n = 0 → x.1 = 0xFFFD ∧ x.2 = 1 ∧ c ≠ 0 ∧ ¬ (c = 0xEF ∧ d = 0xBF ∧ e = 0xBD)) ∧
  (n ≠ 0 → x.2 = n ∧ (x.1 = 0 ↔ c = 0) ∧ (x.1 = 0xFFFD → c = 0xEF ∧ d = 0xBF ∧ e = 0xBD))

theorem fits_none {c d e : Nat} (h : c ≠ 0) (h' : ¬ (c = 0xEF ∧ d = 0xBF ∧ e = 0xBD)) : Fits 0 c d e (0xFFFD, 1) :=
  ⟨fun _ => ⟨rfl, rfl, h, h'⟩, fun x => absurd rfl x⟩
theorem fits_some {n c d e v : Nat} (hn : n ≠ 0) (h : v = 0 ↔ c = 0) (h' : v = 0xFFFD → c = 0xEF ∧ d = 0xBF ∧ e = 0xBD) : Fits n c d e (v, n) :=
  ⟨fun x => absurd x hn, fun _ => ⟨rfl, h, h'⟩⟩

theorem dec_pt (c d e f : Nat) (hc : c < 256) (hd : d < 256) (he : e < 256) (hf : f < 256) : Fits (pt c d e f) c d e (dec c d e f) := by
  unfold dec pt
  by_cases k1 : c < 0x80
  · rw [if_pos k1, if_pos (by omega)]
    exact fits_some (by decide) Iff.rfl (by omega)
  rw [if_neg k1, if_neg (by omega)]
  by_cases k2 : c / 32 = 6 ∧ d / 64 = 2
  · rw [if_pos k2]
    by_cases kk : 0x80 ≤ c % 32 * 64 + d % 64
    · rw [if_pos kk, if_pos (by omega)]
      exact fits_some (by decide) (by omega) (by omega)
    · rw [if_neg kk, if_neg (by omega), if_neg (by omega), if_neg (by omega)]
      exact fits_none (by omega) (by omega)
  rw [if_neg k2, if_neg (show ¬ ((0xC2 ≤ c ∧ c ≤ 0xDF) ∧ (0x80 ≤ d ∧ d ≤ 0xBF)) by omega)]
  by_cases k3 : c / 16 = 14 ∧ d / 64 = 2 ∧ e / 64 = 2
  · rw [if_pos k3]
    obtain ⟨x, y, z⟩ := k3
    obtain ⟨c, rfl⟩ : ∃ q, c = 0xE0 + q := ⟨c - 0xE0, by omega⟩
    obtain ⟨d, rfl⟩ : ∃ q, d = 0x80 + q := ⟨d - 0x80, by omega⟩
    obtain ⟨e, rfl⟩ : ∃ q, e = 0x80 + q := ⟨e - 0x80, by omega⟩
    have q1 : (0xE0 + c) % 16 = c := by omega
    have q2 : (0x80 + d) % 64 = d := by omega
    have q3 : (0x80 + e) % 64 = e := by omega
    rw [q1, q2, q3]
    have c1 : c < 16 := by omega
    have d1 : d < 64 := by omega
    have e1 : e < 64 := by omega
    clear x y z q1 q2 q3 k1 k2 hc hd he
    by_cases kk : 0x800 ≤ c * 4096 + d * 64 + e ∧ (c * 4096 + d * 64 + e < 0xD800 ∨ 0xE000 ≤ c * 4096 + d * 64 + e)
    · rw [if_pos kk, if_pos]
      · exact fits_some (by decide) (by omega) (by omega)
      · by_cases a : c = 0
        · left; omega
        by_cases b : c = 13
        · right; right; left; omega
        by_cases b' : c < 13
        · right; left; omega
        · right; right; right; omega
    · rw [if_neg kk, if_neg, if_neg (by omega)]
      · exact fits_none (by omega) (by omega)
      · by_cases a : c = 0
        · omega
        · omega
  rw [if_neg k3, if_neg (by omega)]
  by_cases k4 : c / 8 = 30 ∧ d / 64 = 2 ∧ e / 64 = 2 ∧ f / 64 = 2
  · rw [if_pos k4]
    obtain ⟨x, y, z, u⟩ := k4
    obtain ⟨c, rfl⟩ : ∃ q, c = 0xF0 + q := ⟨c - 0xF0, by omega⟩
    obtain ⟨d, rfl⟩ : ∃ q, d = 0x80 + q := ⟨d - 0x80, by omega⟩
    obtain ⟨e, rfl⟩ : ∃ q, e = 0x80 + q := ⟨e - 0x80, by omega⟩
    obtain ⟨f, rfl⟩ : ∃ q, f = 0x80 + q := ⟨f - 0x80, by omega⟩
    have q1 : (0xF0 + c) % 8 = c := by omega
    have q2 : (0x80 + d) % 64 = d := by omega
    have q3 : (0x80 + e) % 64 = e := by omega
    have q4 : (0x80 + f) % 64 = f := by omega
    rw [q1, q2, q3, q4]
    have c1 : c < 8 := by omega
    have d1 : d < 64 := by omega
    have e1 : e < 64 := by omega
    have f1 : f < 64 := by omega
    clear x y z u q1 q2 q3 q4 k1 k2 k3 hc hd he hf
    by_cases kk : 0x10000 ≤ c * 262144 + d * 4096 + e * 64 + f ∧ c * 262144 + d * 4096 + e * 64 + f ≤ 0x10FFFF
    · rw [if_pos kk, if_pos]
      · exact fits_some (by decide) (by omega) (by omega)
      · by_cases a : c = 0
        · left; omega
        by_cases b' : c < 4
        · right; left; omega
        · right; right; omega
    · rw [if_neg kk, if_neg]
      · exact fits_none (by omega) (by omega)
      · by_cases a : c = 0
        · omega
        · omega
  rw [if_neg k4, if_neg (by omega)]
  exact fits_none (by omega) (by omega)

/-- How many bytes the code point at a place takes; 0: none. -/
def point (s : ByteArray) (i : Nat) : Nat := pt (atB s i) (atB s (i + 1)) (atB s (i + 2)) (atB s (i + 3))

theorem point_fits (s : ByteArray) (i : Nat) : Fits (point s i) (atB s i) (atB s (i + 1)) (atB s (i + 2)) (Utf8.decode s i) := by
  rw [decode_dec]
  exact dec_pt _ _ _ _ (atB_lt _ _) (atB_lt _ _) (atB_lt _ _) (atB_lt _ _)

end Go.Proofs.YtmfbkfgggdkfmaaGreatDoor
