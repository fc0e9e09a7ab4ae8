import Derived.Test.YtkjeneklkdekoaaDoorStwo
namespace Go.Proofs.YtkjeneklkdekoaaDoor
open Go Go.RowKit
set_option linter.unusedSimpArgs false
set_option linter.unusedVariables false

theorem RdAt.kept {w w' : World} {rb : Nat} {bv : Value} {at0 p0 q0 : Int} (h : RdAt w rb bv at0 p0 q0) (hb : Below w.heap.size w w') : RdAt w' rb bv at0 p0 q0 := (hb.block rb (lt_of_block h)).trans h
theorem RdAt.moved {w : World} {rb : Nat} {bv : Value} {at0 p0 q0 : Int} (h : RdAt w rb bv at0 p0 q0) (f : Int) : RdAt (w.setCell ⟨rb, 1, none⟩ (.int .i64 f)) rb bv f p0 q0 := heap_set (i := 1) h (.int .i64 f)

set_option maxRecDepth 100000 in
set_option maxHeartbeats 400000 in
theorem take_bad (rb : Nat) (bv : Value) (at0 p0 q0 k : Int) (w : World) (hR : RdAt w rb bv at0 p0 q0) (hq : ¬ q0 = 0) :
    Calls Tryd.prog 39 #[.pointer (some ⟨rb, 0, none⟩), .int .i64 k] w fun e w' => e = gave p0 q0 ∧ Below w.heap.size w w' := by
  have HL : Hid (Calls Tryd.prog 37 #[.pointer (some ⟨rb, 0, none⟩)] w fun e w' => e = gave p0 q0 ∧ Below w.heap.size w w') := left_bad rb bv at0 p0 q0 w hR hq
  clear hR hq
  go_enter Tryd.func39, Tryd.ntmps39
  go_wp2_with (go_at_call 37; refine HL.out.mono ?_; rintro e w' ⟨rfl, hb⟩)
  exact ⟨rfl, rfl, hb⟩

set_option maxRecDepth 100000 in
set_option maxHeartbeats 400000 in
theorem take_short (rb g n cp at0 k : Nat) (p0 : Int) (w : World) (hR : RdAt w rb (.slice (some ⟨g, 0, none⟩) n cp) at0 p0 0) (h1 : at0 ≤ n) (h2 : n ≤ cp) (h3 : n ≤ 1000000) (hk : n < at0 + k) :
    Calls Tryd.prog 39 #[.pointer (some ⟨rb, 0, none⟩), .int .i64 k] w fun e w' => e = gave n 10 ∧ Below w.heap.size w w' := by
  have HL : Hid (Calls Tryd.prog 37 #[.pointer (some ⟨rb, 0, none⟩)] w fun e w' => (∃ ad, e = .returned (.slice (some ad) (n - at0) (cp - at0)) ∧ (at0 < cp → ad = ⟨g, at0, none⟩)) ∧ w' = w.drew) := left_ok rb g n cp at0 p0 w hR h1 h2 h3
  obtain ⟨hlt, c0, c1, c2, c3, f1, f2, f3⟩ := hR.facts
  clear hR
  have hx : (((n - at0 : Nat) : Int)) < (k : Int) := by omega
  go_enter Tryd.func39, Tryd.ntmps39
  go_wp2_with (first | (go_at_call 37; refine HL.out.mono ?_; rintro e w' ⟨⟨ad, rfl, _⟩, rfl⟩) | (go_at_call 38; refine (give_any _ _ _).mono ?_; rintro e w' ⟨rfl, rfl⟩))
  exact ⟨rfl, rfl, (Below.refl _ _).drew⟩

set_option maxRecDepth 100000 in
set_option maxHeartbeats 400000 in
theorem take_ok (rb g n cp at0 k : Nat) (p0 : Int) (w : World) (hR : RdAt w rb (.slice (some ⟨g, 0, none⟩) n cp) at0 p0 0) (h2 : n ≤ cp) (h3 : n ≤ 1000000) (hk : at0 + k ≤ n) :
    Calls Tryd.prog 39 #[.pointer (some ⟨rb, 0, none⟩), .int .i64 k] w fun e w' => (∃ ad, e = .returned (.slice (some ad) k (cp - at0)) ∧ (at0 < cp → ad = ⟨g, at0, none⟩)) ∧ RdAt w' rb (.slice (some ⟨g, 0, none⟩) n cp) ((at0 + k : Nat) : Int) p0 0 ∧ w.grownBy w' (some rb) := by
  have HL : Hid (Calls Tryd.prog 37 #[.pointer (some ⟨rb, 0, none⟩)] w fun e w' => (∃ ad, e = .returned (.slice (some ad) (n - at0) (cp - at0)) ∧ (at0 < cp → ad = ⟨g, at0, none⟩)) ∧ w' = w.drew) := left_ok rb g n cp at0 p0 w hR (by omega) h2 h3
  obtain ⟨hlt, c0, c1, c2, c3, f1, f2, f3⟩ := hR.facts
  have HR : Hid (RdAt w rb (.slice (some ⟨g, 0, none⟩) n cp) at0 p0 0) := hR
  clear hR
  have hx : ¬ (((n - at0 : Nat) : Int)) < (k : Int) := by omega
  have hy : k ≤ cp - at0 := by omega
  go_enter Tryd.func39, Tryd.ntmps39
  go_wp2_with (go_at_call 37; refine HL.out.mono ?_; rintro e w' ⟨⟨ad, rfl, had⟩, rfl⟩)
  go_ret
  exact ⟨⟨ad, rfl, had⟩, HR.out.moved _, gb_drew (gb_set (gb_refl _ _) _ _)⟩
end Go.Proofs.YtkjeneklkdekoaaDoor
