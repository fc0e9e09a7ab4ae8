import Derived.Test.YtkjeneklkdekoaaGreatDoorLone
import Derived.Test.YtkjeneklkdekoaaGreatDoorLtwo
namespace Go.Proofs.YtkjeneklkdekoaaGreatDoor
open Go Go.RowKit
set_option linter.unusedSimpArgs false
set_option linter.unusedVariables false

set_option maxRecDepth 100000 in
set_option maxHeartbeats 400000 in
theorem num2_ok (rb g n cp at0 : Nat) (p0 x0 x1 : Int) (w : World) (hR : RdAt w rb (.slice (some ⟨g, 0, none⟩) n cp) at0 p0 0) (h2 : n ≤ cp) (h3 : n ≤ 1000000) (hk : at0 + 2 ≤ n) (hgr : g ≠ rb)
    (z0 : 0 ≤ x0 ∧ x0 ≤ 255) (z1 : 0 ≤ x1 ∧ x1 ≤ 255) (c0 : w.cell? ⟨g, at0, none⟩ = some (.int .u8 x0)) (c1 : w.cell? ⟨g, at0 + 1, none⟩ = some (.int .u8 x1)) :
    Calls Tryz.prog 111 #[.pointer (some ⟨rb, 0, none⟩), .int .i64 2] w fun e w' => e = .returned (.int .i64 (x0 * 256 + x1)) ∧ RdAt w' rb (.slice (some ⟨g, 0, none⟩) n cp) ((at0 + 2 : Nat) : Int) p0 0 ∧ w.grownBy w' (some rb) := by
  have HT : Hid (Calls Tryz.prog 108 #[.pointer (some ⟨rb, 0, none⟩), .int .i64 2] w fun e w' => (∃ ad, e = .returned (.slice (some ad) 2 (cp - at0)) ∧ (at0 < cp → ad = ⟨g, at0, none⟩)) ∧ RdAt w' rb (.slice (some ⟨g, 0, none⟩) n cp) ((at0 + 2 : Nat) : Int) p0 0 ∧ w.grownBy w' (some rb)) := take_ok rb g n cp at0 2 p0 w hR h2 h3 hk
  have HC : Hid (∀ w', w.grownBy w' (some rb) → w'.cell? ⟨g, at0, none⟩ = some (.int .u8 x0) ∧ w'.cell? ⟨g, at0 + 1, none⟩ = some (.int .u8 x1)) := fun w' h => ⟨h.cell c0 (by simpa using hgr), h.cell c1 (by simpa using hgr)⟩
  clear hR c0 c1
  have hat : at0 < cp := by omega
  have o0 : bits .or .i64 0 x0 = x0 := by have h := or_up 0 (by decide) 0 x0 (by omega) (by omega) (by omega) (by omega) (by omega) (by omega); omega
  have o1 : bits .or .i64 (x0 * 256) x1 = x0 * 256 + x1 := bits_join .i64 62 (by decide) wraps_i64 8 _ _ (by omega) (by omega) (by omega) (by omega) (by omega) (by omega)
  go_enter Tryz.func111, Tryz.ntmps111
  go_wp2_with (go_at_call 108; refine HT.out.mono ?_; rintro e w1 ⟨⟨ad, rfl, had⟩, hR1, hg1⟩; obtain rfl := had hat; clear had; obtain ⟨d0, d1⟩ := HC.out _ hg1; have HR1 : Hid (RdAt w1 rb (.slice (some ⟨g, 0, none⟩) n cp) ((at0 + 2 : Nat) : Int) p0 0 ∧ w.grownBy w1 (some rb)) := ⟨hR1, hg1⟩; clear hR1 hg1)
  go_loop [5, 7, 12] (fun v _ i => (i = .int .i64 0 ∧ v = .int .i64 0) ∨ (i = .int .i64 1 ∧ v = .int .i64 x0) ∨ (i = .int .i64 2 ∧ v = .int .i64 (x0 * 256 + x1))) (fun _ _ i => 2 - (intOf i).toNat)
  case atStart => exact .inl ⟨rfl, rfl⟩
  case round =>
    rcases hrel with ⟨rfl, rfl⟩ | ⟨rfl, rfl⟩ | ⟨rfl, rfl⟩
    · go_wp2
      go_round
      case rel => exact .inr (.inl ⟨rfl, rfl⟩)
      case measure => simp [intOf]
    · go_wp2
      go_round
      case rel => exact .inr (.inr ⟨rfl, rfl⟩)
      case measure => simp [intOf]
    · go_wp2
      go_ret
      exact ⟨rfl, HR1.out.1, HR1.out.2⟩
end Go.Proofs.YtkjeneklkdekoaaGreatDoor
