import Derived.Test.YtkjeneklkdekoaaGreatDoorRdn
import Derived.Test.YtkjeneklkdekoaaGreatDoorRdo
namespace Go.Proofs.YtkjeneklkdekoaaGreatDoor
open Go Go.RowKit
set_option linter.unusedSimpArgs false
set_option linter.unusedVariables false

/-! ### The program's Read of any list -/
set_option maxRecDepth 100000 in
set_option maxHeartbeats 1000000 in
theorem read_nil (w : World) : Calls Tryz.prog 12 #[.slice none 0 0] w fun e w' => e = .returned (.pointer (some ⟨w.heap.size, 0, none⟩)) ∧ w' = w.alloc (.cells #[.slice none 0 0, .int .i64 0, .int .i64 0, .int .i64 0] 81) := by
  go_enter Tryz.func12, Tryz.ntmps12
  go_wp2_with (go_at_call 60; refine (Rw.clone_nil _).mono ?_; rintro e w1 ⟨rfl, rfl⟩)
  go_ret
  exact ⟨rfl, rfl⟩
theorem pRead_any {w : World} {ao : Option Addr} {l k : Nat} {z : Nat → Int} (h : Came w ao l k z) (hl : l ≤ 300000) : Calls Tryz.prog 12 #[.slice ao l k] w fun e w' => ∃ rb a c, e = .returned (.pointer (some ⟨rb, 0, none⟩)) ∧ Wrd w' rb a l c z ⟨0, 0, 0⟩ ∧ w.heap.size ≤ rb ∧ (∀ g, a = some ⟨g, 0, none⟩ → w.heap.size ≤ g) ∧ Below w.heap.size w w' := by
  cases ao with
  | none =>
    rcases h.2.2 with ⟨_, rfl, rfl⟩ | ⟨ad, q, _⟩
    · refine (read_nil w).mono ?_
      rintro e w' ⟨rfl, rfl⟩
      exact ⟨w.heap.size, none, 0, rfl, ⟨heap_alloc_new _ _, ⟨Nat.le_refl _, h.2.1, .inl ⟨rfl, rfl, rfl⟩⟩, .inl rfl, Nat.le_refl _, Nat.zero_le _⟩, Nat.le_refl _, (fun g e => by cases e), (Below.refl _ _).alloc (Nat.le_refl _) _⟩
    · cases q
  | some ad =>
    refine (read_some _ l k z w h (by omega)).mono ?_
    rintro e w' ⟨rb, g', cp, rfl, q1, q2, q3, q4, q5, q6, q7⟩
    exact ⟨rb, _, cp, rfl, ⟨q1, came_of q4 q2.1 (fun i hi => q2.2 i hi), .inr ⟨g', rfl, q3⟩, Nat.zero_le _, hl⟩, q6, fun g e => by cases e; exact q5, q7⟩
theorem add_two (ad : Addr) (m i : Nat) : (ad.add m).add i = ad.add (m + i) := by
  obtain ⟨b, off, spot⟩ := ad
  unfold Addr.add
  by_cases h1 : m = 0
  · subst h1
    simp
  · have h2 : ¬ m + i = 0 := by omega
    by_cases h3 : i = 0
    · subst h3
      simp [h1]
    · simp [h1, h3, h2]
      omega
set_option maxRecDepth 100000 in
/-- What a list is from a place on. -/
theorem came_from {w : World} {ao : Option Addr} {l k m : Nat} {z : Nat → Int} (h : Came w ao l k z) (hm : m ≤ l) : ∃ fa, (∀ w' : World, (Instr.slice 22 (.slice ao l k) (some (.int .i64 (m : Int))) none none).run Tryz.prog w' = .ok (.slice fa (l - m) (k - m)) w') ∧ ∀ w', Came w' ao l k z → Came w' fa (l - m) (k - m) (fun i => z (m + i)) := by
  have hk := h.1
  refine ⟨if k = m then ao else ao.map (·.add m), fun w' => ?_, fun w' h' => ?_⟩
  · rw [run_slice_l w' 22 ao l k Tryz.underlying22 .i64 (m : Int) (by omega) (by omega)]
    simp [go_sem, sliced, show Tryz.prog.elem 22 = 5 from by kernel_rfl]
  · refine ⟨by omega, fun i => h'.2.1 _, ?_⟩
    rcases h'.2.2 with ⟨rfl, rfl, rfl⟩ | ⟨ad, rfl, hc⟩
    · exact .inl ⟨by simp, by omega, by omega⟩
    · by_cases e : k = m
      · rw [if_pos e]
        exact .inr ⟨ad, rfl, fun i hi => by omega⟩
      · rw [if_neg e]
        refine .inr ⟨ad.add m, rfl, fun i hi => ?_⟩
        have q := hc (m + i) (by omega)
        rw [add_two]
        exact q
end Go.Proofs.YtkjeneklkdekoaaGreatDoor
