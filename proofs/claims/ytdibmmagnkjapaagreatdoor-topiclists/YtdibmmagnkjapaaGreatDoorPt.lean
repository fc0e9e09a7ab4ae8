import Derived.Laws.RangeAny
namespace Go.Proofs.YtdibmmagnkjapaaGreatDoor

/-- The byte at a place; 0 behind the end. -/
def atB (s : ByteArray) (i : Nat) : Nat := (s.get! i).toNat

theorem atB_in (s : ByteArray) (i : Nat) (h : i < s.size) : atB s i = (s[i]'h).toNat := by
  unfold atB; rw [← get_at s i h]; rfl

theorem atB_out (s : ByteArray) (i : Nat) (h : ¬ i < s.size) : atB s i = 0 := by
  unfold atB
  have : s.get! i = 0 := by
    simp only [ByteArray.get!]
    rw [getElem!_neg]
    · rfl
    · simpa using h
  rw [this]; rfl

/-- How many bytes the code point takes whose first bytes these are; 0: none. -/
def pt (c d e f : Nat) : Nat :=
  if c ≤ 0x7F then 1
  else if (0xC2 ≤ c ∧ c ≤ 0xDF) ∧ (0x80 ≤ d ∧ d ≤ 0xBF) then 2
  else if (c = 0xE0 ∧ (0xA0 ≤ d ∧ d ≤ 0xBF) ∧ (0x80 ≤ e ∧ e ≤ 0xBF)) ∨ ((0xE1 ≤ c ∧ c ≤ 0xEC) ∧ (0x80 ≤ d ∧ d ≤ 0xBF) ∧ (0x80 ≤ e ∧ e ≤ 0xBF)) ∨ (c = 0xED ∧ (0x80 ≤ d ∧ d ≤ 0x9F) ∧ (0x80 ≤ e ∧ e ≤ 0xBF)) ∨ ((0xEE ≤ c ∧ c ≤ 0xEF) ∧ (0x80 ≤ d ∧ d ≤ 0xBF) ∧ (0x80 ≤ e ∧ e ≤ 0xBF)) then 3
  else if (c = 0xF0 ∧ (0x90 ≤ d ∧ d ≤ 0xBF) ∧ (0x80 ≤ e ∧ e ≤ 0xBF) ∧ (0x80 ≤ f ∧ f ≤ 0xBF)) ∨ ((0xF1 ≤ c ∧ c ≤ 0xF3) ∧ (0x80 ≤ d ∧ d ≤ 0xBF) ∧ (0x80 ≤ e ∧ e ≤ 0xBF) ∧ (0x80 ≤ f ∧ f ≤ 0xBF)) ∨ (c = 0xF4 ∧ (0x80 ≤ d ∧ d ≤ 0x8F) ∧ (0x80 ≤ e ∧ e ≤ 0xBF) ∧ (0x80 ≤ f ∧ f ≤ 0xBF)) then 4
  else 0

/-- How many bytes the code point at a place takes; 0: none. -/
def point (s : ByteArray) (i : Nat) : Nat := pt (atB s i) (atB s (i + 1)) (atB s (i + 2)) (atB s (i + 3))

end Go.Proofs.YtdibmmagnkjapaaGreatDoor
