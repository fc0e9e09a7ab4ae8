import Derived.Test.YtglnldopnoafoaaGreatDoorTa
import Derived.Test.YtglnldopnoafoaaGreatDoorAa
namespace Go.Proofs.YtglnldopnoafoaaGreatDoor
open Go Go.RowKit
set_option linter.unusedSimpArgs false
set_option linter.unusedVariables false

/-- Does a sign stand among the runes from a place on? -/
def sgF (s : ByteArray) : Nat → Nat → Bool
  | 0, _ => false
  | b + 1, k => if k < s.size then (if (Utf8.decode s k).1 = 43 ∨ (Utf8.decode s k).1 = 35 then true else sgF s b (k + (Utf8.decode s k).2)) else false
/-- An iterator set to another place. -/
def setIt (w : World) (g : Nat) (s : ByteArray) (k : Nat) : World := { w with heap := w.heap.setIfInBounds g (.stringIter s k) }
theorem setIt_heap {w : World} {g : Nat} {s : ByteArray} {k k' : Nat} (h : w.heap[g]? = some (.stringIter s k)) : (setIt w g s k').heap[g]? = some (.stringIter s k') := by
  have hg : g < w.heap.size := by
    rcases Nat.lt_or_ge g w.heap.size with h1 | h1
    · exact h1
    · rw [Array.getElem?_eq_none h1] at h; cases h
  show (w.heap.setIfInBounds g (.stringIter s k'))[g]? = _
  rw [Array.getElem?_setIfInBounds]
  simp [hg]
theorem setIt_below {B : Nat} {w0 w : World} (hb : Below B w0 w) (g : Nat) (hg : B ≤ g) (s : ByteArray) (k : Nat) : Below B w0 (setIt w g s k) := by
  refine hb.trans ⟨rfl, rfl, rfl, by simp [setIt], fun i hi => ?_⟩
  show (w.heap.setIfInBounds g (.stringIter s k))[i]? = _
  rw [Array.getElem?_setIfInBounds, if_neg (by omega)]
theorem block_lt {w : World} {g : Nat} {o : Obj} (h : w.heap[g]? = some o) : g < w.heap.size := by
  rcases Nat.lt_or_ge g w.heap.size with h1 | h1
  · exact h1
  · rw [Array.getElem?_eq_none h1] at h; cases h
theorem next_at {w : World} {g : Nat} {s : ByteArray} {k : Nat} (hit : w.heap[g]? = some (.stringIter s k)) (ty : TypeId) (h : k < s.size) (r n : Nat) (hd : Utf8.decode s k = (r, n)) :
    (Instr.next (.pointer (some ⟨g, 0, none⟩)) true ty).run Tryz.prog w = .ok (.tuple #[.bool true, .int .i64 k, .int .i32 r]) (setIt w g s (k + n)) := by
  simp only [Instr.next, getObj, setObj, Sem.run_bind, Sem.run, hit, Result.andThen, h, if_true, hd]
  simp [goInt, setIt]
theorem next_end {w : World} {g : Nat} {s : ByteArray} {k : Nat} (hit : w.heap[g]? = some (.stringIter s k)) (ty : TypeId) (h : ¬ k < s.size) :
    (Instr.next (.pointer (some ⟨g, 0, none⟩)) true ty).run Tryz.prog w = .ok (.tuple #[.bool false]) w := by
  simp [Instr.next, getObj, Sem.run, hit, h]

end Go.Proofs.YtglnldopnoafoaaGreatDoor

set_option maxRecDepth 100000
namespace Go.Proofs.YtglnldopnoafoaaGreatDoor
open Go Go.RowKit
set_option linter.unusedSimpArgs false
set_option linter.unusedVariables false

/-- Does a text hold a sign? -/
def sgn (s : ByteArray) : Bool := if 8 < s.size then decide (0 ≤ Lib.indexAny s.data.toList [43, 35]) else sgF s s.size 0
/-- What is told of a text that must not be empty. -/
def ct (s : ByteArray) : Int := if s.size = 0 then 50 else if txt s then 0 else 51
theorem checkText_any (s : ByteArray) (w : World) : Calls Tryz.prog 82 #[.string s] w fun e w' => e = .returned (.int .i64 (ct s)) ∧ Below w.heap.size w w' := by
  by_cases h0 : s.size = 0
  · have he : s.toList.isEmpty = true := by
      have h := isEmpty_size s
      cases hx : s.toList.isEmpty with
      | true => rfl
      | false =>
        rw [hx, h0] at h
        cases h
    rw [show ct s = 50 by simp [ct, h0]]
    go_enter Tryz.func82, Tryz.ntmps82
    go_wp2
    go_ret
    exact ⟨rfl, Below.refl _ _⟩
  · have he : s.toList.isEmpty = false := by
      have h := isEmpty_size s
      cases hx : s.toList.isEmpty with
      | false => rfl
      | true =>
        rw [hx] at h
        have hz : (s.size != 0) = true := by simp [h0]
        rw [hz] at h
        cases h
    cases ht : txt s with
    | true =>
      have hc : ((chk s).2 : Int) = 0 := by have := ht; unfold txt at this; simpa using this
      rw [show ct s = 0 by simp [ct, h0, ht]]
      clear ht h0
      go_enter Tryz.func82, Tryz.ntmps82
      go_wp2_with (go_at_call 134; refine (chk_any s _).mono ?_; rintro e w1 ⟨rfl, hb, _⟩; have B1 : Hid (Below w.heap.size w w1) := hb; clear hb; rw [hc])
      go_ret
      exact ⟨rfl, B1.out⟩
    | false =>
      have hc : (((chk s).2 : Int) != 0) = true := by have := ht; unfold txt at this; simpa using this
      rw [show ct s = 51 by simp [ct, h0, ht]]
      clear ht h0
      go_enter Tryz.func82, Tryz.ntmps82
      go_wp2_with (go_at_call 134; refine (chk_any s _).mono ?_; rintro e w1 ⟨rfl, hb, _⟩; have B1 : Hid (Below w.heap.size w w1) := hb; clear hb)
      go_ret
      exact ⟨rfl, B1.out⟩
end Go.Proofs.YtglnldopnoafoaaGreatDoor

namespace Go.Proofs.YtglnldopnoafoaaGreatDoor
open Go Go.RowKit
set_option linter.unusedSimpArgs false
set_option linter.unusedVariables false

/-- What topic.Check and topic.CheckFilter tell. -/
def tcode (s : ByteArray) : Int := if ct s = 0 then (if sgn s then 52 else 0) else ct s
theorem ct_zero {s : ByteArray} (hc : ct s = 0) : s.size ≤ 65535 := by
  unfold ct at hc
  by_cases h0 : s.size = 0
  · omega
  · cases h : txt s with
    | true => exact txt_size h
    | false => simp [h0, h] at hc
end Go.Proofs.YtglnldopnoafoaaGreatDoor

