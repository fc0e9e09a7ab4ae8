import Derived.Test.YtkjeneklkdekoaaLtwo
namespace Go.Proofs.Ytkjeneklkdekoaa
open Go.RowKit
set_option linter.unusedSimpArgs false
set_option linter.unusedVariables false

/-- A slice of bytes: these bytes are its elements. -/
def Byt (w : World) (ao : Option Addr) (len cap : Nat) (z : Nat → Int) : Prop :=
  len ≤ cap ∧ (∀ i, 0 ≤ z i ∧ z i ≤ 255) ∧ (len = 0 ∨ ∃ b off, ao = some ⟨b, off, none⟩ ∧ ∀ i, i < len → w.cell? ⟨b, off + i, none⟩ = some (.int .u8 (z i)))

/-- What Length tells of such a slice. -/
def lenZ (len : Nat) (z : Nat → Int) : Int × Int × Int := lenX len (z 0) (z 1) (z 2) (z 3)

set_option maxHeartbeats 400000 in
theorem rlen_zero (ao : Option Addr) (cap : Nat) (w : World) :
    Calls Try.prog 10 #[.slice ao 0 cap] w fun e w' => e = .returned (.tuple #[.int .i64 0, .int .i64 0, .int .i64 10]) ∧ w' = w := by
  go_enter Try.func10, Try.ntmps10
  go_wp2
  go_loop [5, 6, 7] (fun n u i => i = .int .i64 0 ∧ n = .int .i64 0 ∧ u = .int .i64 1) (fun _ _ i => 4 - (intOf i).toNat)
  case atStart => exact ⟨rfl, rfl, rfl⟩
  case round =>
    obtain ⟨rfl, rfl, rfl⟩ := hrel
    go_wp2
    go_ret3
    exact ⟨rfl, rfl⟩

theorem rlen_any (ao : Option Addr) (len cap : Nat) (z : Nat → Int) (w : World) (h : Byt w ao len cap z) (hm : len ≤ 1000000) :
    Calls Try.prog 10 #[.slice ao len cap] w fun e w' => e = .returned (.tuple #[.int .i64 (lenZ len z).1, .int .i64 (lenZ len z).2.1, .int .i64 (lenZ len z).2.2]) ∧ w' = w := by
  obtain ⟨hcap, hz, h⟩ := h
  by_cases h0 : len = 0
  · subst h0
    exact rlen_zero ao cap w
  · rcases h with h | ⟨b, off, rfl, hc⟩
    · exact absurd h h0
    · exact rlen_some b off len cap _ _ _ _ w hm (hz 0) (hz 1) (hz 2) (hz 3) (fun h => hc 0 h) (fun h => hc 1 h) (fun h => hc 2 h) (fun h => hc 3 h)

theorem wlen_any (ao : Option Addr) (len cap : Nat) (z : Nat → Int) (w : World) (h : Byt w ao len cap z) (hm : len ≤ 1000000) :
    Calls Try.prog 9 #[.slice ao len cap] w fun e w' => e = .returned (.tuple #[.int .i64 (lenZ len z).1, .int .i64 (lenZ len z).2.1, .int .i64 (lenZ len z).2.2]) ∧ w' = w := by
  obtain ⟨hcap, hz, h⟩ := h
  by_cases h0 : len = 0
  · subst h0
    exact wlen0 ao cap _ _ _ _ w hcap
  · rcases h with h | ⟨b, off, rfl, hc⟩
    · exact absurd h h0
    · by_cases h1 : len = 1
      · subst h1
        exact wlen1 b off cap _ _ _ _ w hcap (hz 0) (hc 0 (by omega))
      by_cases h2 : len = 2
      · subst h2
        exact wlen2 b off cap _ _ _ _ w hcap (hz 0) (hz 1) (hc 0 (by omega)) (hc 1 (by omega))
      by_cases h3 : len = 3
      · subst h3
        exact wlen3 b off cap _ _ _ _ w hcap (hz 0) (hz 1) (hz 2) (hc 0 (by omega)) (hc 1 (by omega)) (hc 2 (by omega))
      by_cases h4 : len = 4
      · subst h4
        exact wlen4 b off cap _ _ _ _ w hcap (hz 0) (hz 1) (hz 2) (hz 3) (hc 0 (by omega)) (hc 1 (by omega)) (hc 2 (by omega)) (hc 3 (by omega))
      · exact wlen5 b off cap _ _ _ _ w len (by omega) hm hcap (hz 0) (hz 1) (hz 2) (hz 3) (hc 0 (by omega)) (hc 1 (by omega)) (hc 2 (by omega)) (hc 3 (by omega))
end Go.Proofs.Ytkjeneklkdekoaa
