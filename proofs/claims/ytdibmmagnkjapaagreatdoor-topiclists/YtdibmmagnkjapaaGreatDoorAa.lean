import Derived.Test.YtdibmmagnkjapaaGreatDoorProg
import Derived.Test.YtdibmmagnkjapaaGreatDoorPt
import Derived.WalkKit
import Derived.WalkSpells
import Derived.WalkLawsBesides
import Derived.Lib.Strings
namespace Go.Proofs.YtdibmmagnkjapaaGreatDoor
open Go.RowKit
set_option linter.unusedSimpArgs false
set_option linter.unusedVariables false

/-- What Check tells from a place on, in so many steps at most. -/
def chkF (s : ByteArray) : Nat → Nat → Nat × Nat
  | 0, _ => (0, 0)
  | b + 1, k => if k < s.size then (if atB s k = 0 then (k, 14) else if point s k = 0 then (k, 13) else chkF s b (k + point s k)) else (0, 0)
/-- What Check tells. -/
def chk (s : ByteArray) : Nat × Nat := if 65535 < s.size then (65535, 11) else chkF s s.size 0

/-- Does a text begin with another? -/
def begins (s p : ByteArray) : Bool := decide (p.size ≤ s.size) && ((s.extract 0 p.size).toList == p.toList)

theorem atB_list (s : ByteArray) (i : Nat) : atB s i = (s.data.toList[i]?.getD 0).toNat := by
  by_cases h : i < s.size
  · rw [atB_in s i h]
    have h' : i < s.data.toList.length := by simpa using h
    rw [List.getElem?_eq_getElem h']
    rfl
  · rw [atB_out s i h]
    have h' : s.data.toList.length ≤ i := by simpa using h
    rw [List.getElem?_eq_none h']
    rfl

theorem three (l : List UInt8) : List.isPrefixOf [239, 191, 189] l = decide ((l[0]?.getD 0).toNat = 239 ∧ (l[1]?.getD 0).toNat = 191 ∧ (l[2]?.getD 0).toNat = 189) := by
  have hq : ∀ (a b : UInt8), (a == b) = decide (b.toNat = a.toNat) := by
    intro a b
    rw [Bool.eq_iff_iff]
    simp only [beq_iff_eq, decide_eq_true_eq, UInt8.toNat_inj]
    exact eq_comm
  match l with
  | [] => rfl
  | [a] => simp [List.isPrefixOf]
  | [a, b] => simp [List.isPrefixOf]
  | a :: b :: c :: r =>
    simp only [List.isPrefixOf, hq, Bool.and_true]
    rw [Bool.eq_iff_iff]
    simp

end Go.Proofs.YtdibmmagnkjapaaGreatDoor
namespace Go.Proofs.YtdibmmagnkjapaaGreatDoor
open Go Go.RowKit
set_option linter.unusedSimpArgs false
set_option linter.unusedVariables false
/-- Is it a text? -/
def txt (s : ByteArray) : Bool := ((chk s).2 : Int) == 0
end Go.Proofs.YtdibmmagnkjapaaGreatDoor
