import Derived.Test.YtkjeneklkdekoaaRtwo
import Derived.Test.YtkjeneklkdekoaaRthree
import Derived.Laws.BytesArg
namespace Go.Proofs.Ytkjeneklkdekoaa
open Go.RowKit
set_option linter.unusedSimpArgs false
set_option linter.unusedVariables false

/-- A room that keeps so many lists of bytes and no others: all marks stand. -/
def RoomOk (w : World) (R m gb cb ga ca : Nat) (G N C : Nat → Nat) : Prop :=
  m ≤ 1000 ∧ (∀ i, N i ≤ 140000 ∧ N i + 600 ≤ C i) ∧ w.cell? ⟨R, 0, none⟩ = some (.slice (some ⟨gb, 0, none⟩) m cb) ∧ w.cell? ⟨R, 1, none⟩ = some (.slice (some ⟨ga, 0, none⟩) m ca) ∧
  (∀ i, i < m → w.cell? ⟨gb, i, none⟩ = some (.slice (some ⟨G i, 0, none⟩) (N i + 600) (C i))) ∧ (∀ i, i < m → w.cell? ⟨ga, i, none⟩ = some (.int .i64 (N i))) ∧
  (∀ i, i < m → ∀ k, k < 600 → w.cell? ⟨G i, N i + k, none⟩ = some (.int .u8 (mark k))) ∧ ∀ i, 2 ≤ i → i < 28 → w.cell? ⟨R, i, none⟩ = some (.slice none 0 0)

set_option maxHeartbeats 1000000 in
theorem hold_any (R m gb cb ga ca : Nat) (G N C : Nat → Nat) (w : World) (h : RoomOk w R m gb cb ga ca G N C) :
    Calls Try.prog 12 #[.pointer (some ⟨R, 0, none⟩)] w fun e w' => e = .returned (.bool true) ∧ w' = w := by
  have H0 : Hid (∀ w', w' = w → Calls Try.prog 16 #[.pointer (some ⟨R, 0, none⟩)] w' fun e w'' => e = .returned (.bool true) ∧ w'' = w') := fun w' hw => by
    subst hw
    obtain ⟨h1, h2, h3, h4, h5, h6, h7, _⟩ := h
    exact hold_bytes R m gb cb ga ca G N C _ h1 h2 h3 h4 h5 h6 h7
  have HN : Hid (∀ i, 2 ≤ i → i < 28 → w.cell? ⟨R, i, none⟩ = some (.slice none 0 0)) := h.2.2.2.2.2.2.2
  clear h
  go_enter Try.func12, Try.ntmps12
  go_wp2_with (first | (go_at_call 16; refine (H0.out _ rfl).mono ?_; rintro e w' ⟨rfl, rfl⟩) | (go_at_call 17; refine (hold17 R _ (HN.out 2 (by decide) (by decide))).mono ?_; rintro e w' ⟨rfl, rfl⟩) | (go_at_call 18; refine (hold18 R _ (HN.out 4 (by decide) (by decide))).mono ?_; rintro e w' ⟨rfl, rfl⟩) | (go_at_call 19; refine (hold19 R _ (HN.out 6 (by decide) (by decide))).mono ?_; rintro e w' ⟨rfl, rfl⟩) | (go_at_call 20; refine (hold20 R _ (HN.out 8 (by decide) (by decide))).mono ?_; rintro e w' ⟨rfl, rfl⟩) | (go_at_call 21; refine (hold21 R _ (HN.out 10 (by decide) (by decide))).mono ?_; rintro e w' ⟨rfl, rfl⟩) | (go_at_call 22; refine (hold22 R _ (HN.out 12 (by decide) (by decide))).mono ?_; rintro e w' ⟨rfl, rfl⟩) | (go_at_call 23; refine (hold23 R _ (HN.out 14 (by decide) (by decide))).mono ?_; rintro e w' ⟨rfl, rfl⟩) | (go_at_call 24; refine (hold24 R _ (HN.out 16 (by decide) (by decide))).mono ?_; rintro e w' ⟨rfl, rfl⟩) | (go_at_call 25; refine (hold25 R _ (HN.out 18 (by decide) (by decide))).mono ?_; rintro e w' ⟨rfl, rfl⟩) | (go_at_call 26; refine (hold26 R _ (HN.out 20 (by decide) (by decide))).mono ?_; rintro e w' ⟨rfl, rfl⟩) | (go_at_call 27; refine (hold27 R _ (HN.out 22 (by decide) (by decide))).mono ?_; rintro e w' ⟨rfl, rfl⟩) | (go_at_call 28; refine (hold28 R _ (HN.out 24 (by decide) (by decide))).mono ?_; rintro e w' ⟨rfl, rfl⟩) | (go_at_call 29; refine (hold29 R _ (HN.out 26 (by decide) (by decide))).mono ?_; rintro e w' ⟨rfl, rfl⟩))
  go_ret
  exact ⟨rfl, rfl⟩

/-- The text that so many bytes make. -/
def strZ (z : Nat → Int) (n : Nat) : ByteArray := strOfNums ((List.range n).map z)

theorem conv_any (ao : Option Addr) (len cap : Nat) (z : Nat → Int) (w : World) (h : Came w ao len cap z) : (convert 29 9 (.slice ao len cap)).run Try.prog w = .ok (.string (strZ z len)) w := by
  obtain ⟨_, _, ⟨rfl, rfl, rfl⟩ | ⟨ad, rfl, hc⟩⟩ := h
  · rw [run_convert_bytes_nil w 29 5 Try.underlying29 Try.underlying5 0 0 9 Try.underlying9]
    rfl
  · rw [run_convert_bytes_string w 29 9 5 _ len cap Try.underlying29 Try.underlying5 Try.underlying9]
    have hl : (loadCells ad len).run Try.prog w = .ok (((List.range len).map z).map (Value.int .u8)).toArray w := by
      have := run_loadCells_list (P := Try.prog) w ad (cellsOf z len) (fun j v hj => by
        obtain ⟨h1, rfl⟩ := cellsOf_get z len j v hj
        exact hc j h1)
      simpa [cellsOf, Function.comp_def] using this
    rw [run_bytesToString w ad len cap _ hl, foldl_push_bytes]
    simp [strZ, strOfNums, ByteArray.empty, ByteArray.emptyWithCapacity]
    rfl

set_option maxHeartbeats 400000 in
theorem same_any (ao ao' : Option Addr) (len cap len' cap' : Nat) (z z' : Nat → Int) (w : World) (h : Came w ao len cap z) (h' : Came w ao' len' cap' z') :
    Calls Try.prog 11 #[.slice ao len cap, .slice ao' len' cap'] w fun e w' => e = .returned (.bool ((strZ z len).toList == (strZ z' len').toList)) ∧ w' = w := by
  have c1 := conv_any ao len cap z w h
  have c2 := conv_any ao' len' cap' z' w h'
  clear h h'
  go_enter Try.func11, Try.ntmps11
  go_wp2
  go_ret
  exact ⟨rfl, rfl⟩
end Go.Proofs.Ytkjeneklkdekoaa
