import Derived.Test.YtkjeneklkdekoaaDoorSone
import Derived.Deep.RegionWith
namespace Go.Proofs.YtkjeneklkdekoaaDoor
open Go Go.RowKit
set_option linter.unusedSimpArgs false
set_option linter.unusedVariables false

/-- A region's last operation whose call ends the function: nothing of the region is left. -/
theorem aside {X : Prop} (P : Program) (a : Act) (w : World) (h : X) (_ : wpAny P .any #[] (fun _ _ _ => True) 0 #[] a w) : X := h

/-- How a read gives up. -/
abbrev gave (p q : Int) : Ending := .panicked [{ v := .iface 52 (.agg #[.int .i64 p, .int .i64 q]), recovered := false }]

set_option maxRecDepth 100000 in
set_option maxHeartbeats 400000 in
theorem give_any (p q : Int) (w : World) :
    Calls Tryd.prog 38 #[.int .i64 p, .int .i64 q] w fun e w' => e = gave p q ∧ w' = w := by
  go_enter Tryd.func38, Tryd.ntmps38
  go_wp2
  exact ⟨rfl, rfl, rfl⟩

set_option maxRecDepth 100000 in
set_option maxHeartbeats 400000 in
theorem left_bad (rb : Nat) (bv : Value) (at0 p0 q0 : Int) (w : World) (hR : RdAt w rb bv at0 p0 q0) (hq : ¬ q0 = 0) :
    Calls Tryd.prog 37 #[.pointer (some ⟨rb, 0, none⟩)] w fun e w' => e = gave p0 q0 ∧ Below w.heap.size w w' := by
  obtain ⟨hlt, c0, c1, c2, c3, f1, f2, f3⟩ := hR.facts
  clear hR
  have hq' : (q0 != 0) = true := by simpa using hq
  clear hq
  go_enter Tryd.func37, Tryd.ntmps37
  go_wp2
  go_region_with (go_at_call 38; refine (give_any _ _ _).mono ?_; rintro e w' ⟨rfl, rfl⟩; refine aside Tryd.prog { tmps := #[], defers := [] } w ⟨rfl, rfl, (Below.refl _ _).drew⟩ ?_)
  all_goals trivial

set_option maxRecDepth 100000 in
set_option maxHeartbeats 400000 in
theorem left_ok (rb g n cp at0 : Nat) (p0 : Int) (w : World) (hR : RdAt w rb (.slice (some ⟨g, 0, none⟩) n cp) at0 p0 0) (h1 : at0 ≤ n) (h2 : n ≤ cp) (h3 : n ≤ 1000000) :
    Calls Tryd.prog 37 #[.pointer (some ⟨rb, 0, none⟩)] w fun e w' => (∃ ad, e = .returned (.slice (some ad) (n - at0) (cp - at0)) ∧ (at0 < cp → ad = ⟨g, at0, none⟩)) ∧ w' = w.drew := by
  obtain ⟨hlt, c0, c1, c2, c3, f1, f2, f3⟩ := hR.facts
  clear hR
  go_enter Tryd.func37, Tryd.ntmps37
  go_wp2
  go_region
  all_goals (try go_wp2)
  all_goals go_ret
  · exact ⟨⟨_, rfl⟩, rfl⟩
  · exact ⟨⟨_, rfl, fun _ => rfl⟩, rfl⟩
end Go.Proofs.YtkjeneklkdekoaaDoor
