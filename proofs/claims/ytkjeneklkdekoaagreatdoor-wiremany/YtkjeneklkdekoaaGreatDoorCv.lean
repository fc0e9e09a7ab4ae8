import Derived.Test.YtkjeneklkdekoaaGreatDoorByc
import Derived.Laws.BytesArg
namespace Go.Proofs.YtkjeneklkdekoaaGreatDoor
open Go.RowKit
set_option linter.unusedSimpArgs false
set_option linter.unusedVariables false

/-- A slice of bytes: these bytes are its elements. -/
def Byt (w : World) (ao : Option Addr) (len cap : Nat) (z : Nat → Int) : Prop :=
  len ≤ cap ∧ (∀ i, 0 ≤ z i ∧ z i ≤ 255) ∧ (len = 0 ∨ ∃ b off, ao = some ⟨b, off, none⟩ ∧ ∀ i, i < len → w.cell? ⟨b, off + i, none⟩ = some (.int .u8 (z i)))

/-- What Length tells of such a slice. -/
def lenZ (len : Nat) (z : Nat → Int) : Int × Int × Int := lenX len (z 0) (z 1) (z 2) (z 3)

/-- A slice of bytes that came in: nil, or these bytes lie from its address on. -/
def Came (w : World) (ao : Option Addr) (len cap : Nat) (z : Nat → Int) : Prop :=
  len ≤ cap ∧ (∀ i, 0 ≤ z i ∧ z i ≤ 255) ∧ ((ao = none ∧ len = 0 ∧ cap = 0) ∨ ∃ ad, ao = some ad ∧ ∀ i, i < len → w.cell? (ad.add i) = some (.int .u8 (z i)))

/-- The cells of so many bytes. -/
def cellsOf (z : Nat → Int) (n : Nat) : List Value := (List.range n).map fun i => .int .u8 (z i)
theorem cellsOf_length (z : Nat → Int) (n : Nat) : (cellsOf z n).length = n := by simp [cellsOf]
theorem cellsOf_get (z : Nat → Int) (n j : Nat) (u : Value) (h : (cellsOf z n)[j]? = some u) : j < n ∧ u = .int .u8 (z j) := by
  unfold cellsOf at h
  rw [List.getElem?_map] at h
  by_cases hj : j < n
  · rw [List.getElem?_range hj] at h
    simp at h
    exact ⟨hj, h.symm⟩
  · rw [List.getElem?_eq_none (by simpa using hj)] at h
    simp at h
theorem cellsOf_at (z : Nat → Int) (n j : Nat) (hj : j < n) : (cellsOf z n)[j]? = some (.int .u8 (z j)) := by
  unfold cellsOf
  rw [List.getElem?_map, List.getElem?_range hj]
  rfl
theorem cellsOf_succ (z : Nat → Int) (n : Nat) : cellsOf z (n + 1) = cellsOf z n ++ [.int .u8 (z n)] := by
  simp [cellsOf, List.range_succ]
theorem cellsOf_one (z : Nat → Int) (n : Nat) (u : Value) (h : u ∈ cellsOf z n) : u.oneCell' = true := by
  unfold cellsOf at h
  obtain ⟨i, _, rfl⟩ := List.mem_map.1 h
  rfl

/-- The text that so many bytes make. -/
def strZ (z : Nat → Int) (n : Nat) : ByteArray := strOfNums ((List.range n).map z)

theorem conv_any (ao : Option Addr) (len cap : Nat) (z : Nat → Int) (w : World) (h : Came w ao len cap z) : (convert 22 9 (.slice ao len cap)).run Tryz.prog w = .ok (.string (strZ z len)) w := by
  obtain ⟨_, _, ⟨rfl, rfl, rfl⟩ | ⟨ad, rfl, hc⟩⟩ := h
  · rw [run_convert_bytes_nil w 22 5 Tryz.underlying22 Tryz.underlying5 0 0 9 Tryz.underlying9]
    rfl
  · rw [run_convert_bytes_string w 22 9 5 _ len cap Tryz.underlying22 Tryz.underlying5 Tryz.underlying9]
    have hl : (loadCells ad len).run Tryz.prog w = .ok (((List.range len).map z).map (Value.int .u8)).toArray w := by
      have := run_loadCells_list (P := Tryz.prog) w ad (cellsOf z len) (fun j v hj => by
        obtain ⟨h1, rfl⟩ := cellsOf_get z len j v hj
        exact hc j h1)
      simpa [cellsOf, Function.comp_def] using this
    rw [run_bytesToString w ad len cap _ hl, foldl_push_bytes]
    simp [strZ, strOfNums, ByteArray.empty, ByteArray.emptyWithCapacity]
    rfl

set_option maxHeartbeats 400000 in
theorem same_any (ao ao' : Option Addr) (len cap len' cap' : Nat) (z z' : Nat → Int) (w : World) (h : Came w ao len cap z) (h' : Came w ao' len' cap' z') :
    Calls Tryz.prog 8 #[.slice ao len cap, .slice ao' len' cap'] w fun e w' => e = .returned (.bool ((strZ z len).toList == (strZ z' len').toList)) ∧ w' = w := by
  have c1 := conv_any ao len cap z w h
  have c2 := conv_any ao' len' cap' z' w h'
  clear h h'
  go_enter Tryz.func8, Tryz.ntmps8
  go_wp2
  go_ret
  exact ⟨rfl, rfl⟩
theorem plain_add (b off j : Nat) : (⟨b, off, none⟩ : Addr).add j = ⟨b, off + j, none⟩ := by
  unfold Addr.add
  split <;> simp_all

theorem came_byt {w : World} {ao : Option Addr} {len cap : Nat} {z : Nat → Int} (h : Came w ao len cap z) : Byt w ao len cap z := by
  obtain ⟨h1, h2, ⟨rfl, rfl, rfl⟩ | ⟨ad, rfl, hc⟩⟩ := h
  · exact ⟨h1, h2, .inl rfl⟩
  · refine ⟨h1, h2, ?_⟩
    by_cases h0 : len = 0
    · exact .inl h0
    · right
      obtain ⟨b, off, spot⟩ := ad
      have q := hc 0 (by omega)
      have hspot : spot = none := by simpa [Addr.add] using World.cell?_spot q
      subst hspot
      exact ⟨b, off, rfl, fun i hi => by have h := hc i hi; rw [plain_add] at h; exact h⟩

theorem came_below {w w' : World} {B : Nat} {ao : Option Addr} {len cap : Nat} {z : Nat → Int} (h : Came w ao len cap z) (hb : Below w.heap.size w w') : Came w' ao len cap z := by
  obtain ⟨h1, h2, h3 | ⟨ad, rfl, hc⟩⟩ := h
  · exact ⟨h1, h2, .inl h3⟩
  · exact ⟨h1, h2, .inr ⟨ad, rfl, fun i hi => cell_later hb (hc i hi)⟩⟩

theorem wlen_any (ao : Option Addr) (len cap : Nat) (z : Nat → Int) (w : World) (h : Byt w ao len cap z) (hm : len ≤ 1000000) :
    Calls Tryz.prog 114 #[.slice ao len cap] w fun e w' => e = .returned (.tuple #[.int .i64 (lenZ len z).1, .int .i64 (lenZ len z).2.1, .int .i64 (lenZ len z).2.2]) ∧ w' = w := by
  obtain ⟨hcap, hz, h⟩ := h
  by_cases h0 : len = 0
  · subst h0
    exact wlen0 ao cap _ _ _ _ w hcap
  · rcases h with h | ⟨b, off, rfl, hc⟩
    · exact absurd h h0
    · by_cases h1 : len = 1
      · subst h1
        exact wlen1 b off cap _ _ _ _ w hcap (hz 0) (hc 0 (by omega))
      by_cases h2 : len = 2
      · subst h2
        exact wlen2 b off cap _ _ _ _ w hcap (hz 0) (hz 1) (hc 0 (by omega)) (hc 1 (by omega))
      by_cases h3 : len = 3
      · subst h3
        exact wlen3 b off cap _ _ _ _ w hcap (hz 0) (hz 1) (hz 2) (hc 0 (by omega)) (hc 1 (by omega)) (hc 2 (by omega))
      by_cases h4 : len = 4
      · subst h4
        exact wlen4 b off cap _ _ _ _ w hcap (hz 0) (hz 1) (hz 2) (hz 3) (hc 0 (by omega)) (hc 1 (by omega)) (hc 2 (by omega)) (hc 3 (by omega))
      · exact wlen5 b off cap _ _ _ _ w len (by omega) hm hcap (hz 0) (hz 1) (hz 2) (hz 3) (hc 0 (by omega)) (hc 1 (by omega)) (hc 2 (by omega)) (hc 3 (by omega))
end Go.Proofs.YtkjeneklkdekoaaGreatDoor
