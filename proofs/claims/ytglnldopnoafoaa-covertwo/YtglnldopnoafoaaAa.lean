import Derived.Test.YtglnldopnoafoaaChk
namespace Go.Proofs.Ytglnldopnoafoaa
open Go Go.RowKit
set_option linter.unusedSimpArgs false
set_option linter.unusedVariables false
/-- Is it a text? -/
def txt (s : ByteArray) : Bool := ((chk s).2 : Int) == 0
theorem isEmpty_size (s : ByteArray) : (!s.toList.isEmpty) = (s.size != 0) := by
  rw [Lib.toList_data]
  obtain ⟨⟨l⟩⟩ := s
  cases l <;> simp [ByteArray.size]
theorem txt_size {s : ByteArray} (h : txt s = true) : s.size ≤ 65535 := by
  unfold txt chk at h
  by_cases h1 : 65535 < s.size
  · simp [h1] at h
  · omega
end Go.Proofs.Ytglnldopnoafoaa
