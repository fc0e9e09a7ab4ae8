import Derived.Test.YtdibmmagnkjapaaGreatDoorLa
import Derived.BigQuiet
import Derived.Deep.QuietTactic
import Derived.Deep.LoopGhost
import Derived.Test.YtdibmmagnkjapaaGreatDoorAa
import Derived.OwnWalk
namespace Go.Proofs.YtdibmmagnkjapaaGreatDoor
open Go Go.RowKit
set_option linter.unusedSimpArgs false
set_option linter.unusedVariables false

theorem rank_any (c : UInt8) (w : World) : Calls Tryz.prog 103 #[.int .u8 (c.toNat : Int)] w fun e w' => e = .returned (.int .i64 (rk c)) ∧ w' = w := by
  by_cases h : c = 47
  · subst h
    go_enter Tryz.func103, Tryz.ntmps103
    go_wp2
    go_ret
    exact ⟨rfl, rfl⟩
  · have h1 : ¬ c.toNat = 47 := fun e => h (UInt8.toNat_inj.1 e)
    have h2 : ((c.toNat : Int) == 47) = false := by simp; omega
    have e : rk c = c.toNat := by simp [rk, h]
    rw [e]
    have hw : IntKind.i64.wrap (c.toNat : Int) = (c.toNat : Int) := by rw [IntKind.wrap_i64]; have := c.toNat_lt; omega
    clear h h1 e
    go_enter Tryz.func103, Tryz.ntmps103
    go_wp2
    go_ret
    exact ⟨rfl, rfl⟩
/-- The order of two numbers. -/
def sg (x y : Int) : Int := if x < y then -1 else if y < x then 1 else 0
theorem cmpInt_any (x y : Int) (w : World) : Calls Tryz.prog 102 #[.int .i64 x, .int .i64 y] w fun e w' => e = .returned (.int .i64 (sg x y)) ∧ w' = w := by
  have hx : (x != x) = false := by simp
  have hy : (y != y) = false := by simp
  by_cases h1 : x < y
  · rw [show sg x y = -1 by simp [sg, h1]]
    go_enter Tryz.func102, Tryz.ntmps102
    go_wp2
    go_ret
    exact ⟨rfl, rfl⟩
  by_cases h2 : y < x
  · rw [show sg x y = 1 by simp [sg, h1, h2]]
    go_enter Tryz.func102, Tryz.ntmps102
    go_wp2
    go_ret
    exact ⟨rfl, rfl⟩
  rw [show sg x y = 0 by simp [sg, h1, h2]]
  go_enter Tryz.func102, Tryz.ntmps102
  go_wp2
  go_ret
  exact ⟨rfl, rfl⟩
end Go.Proofs.YtdibmmagnkjapaaGreatDoor
namespace Go.Proofs.YtdibmmagnkjapaaGreatDoor
open Go Go.RowKit
set_option linter.unusedSimpArgs false
set_option linter.unusedVariables false

theorem cmpL_len : ∀ (a b : Bs), (∀ i, i < min a.length b.length → a[i]? = b[i]?) → cmpL a b = sg a.length b.length
  | [], [], _ => rfl
  | [], y :: ys, _ => by simp only [cmpL, sg, List.length_cons, List.length_nil]; rw [if_pos (by omega)]
  | x :: xs, [], _ => by simp only [cmpL, sg, List.length_cons, List.length_nil]; rw [if_neg (by omega), if_pos (by omega)]
  | x :: xs, y :: ys, h => by
    have h0 := h 0 (by simp)
    simp at h0
    subst h0
    simp only [cmpL, if_true]
    rw [cmpL_len xs ys (fun i hi => by have := h (i + 1) (by simp; omega); simpa using this)]
    simp only [sg, List.length_cons]
    congr 1
    · simp only [Int.natCast_add, eq_iff_iff]; omega
    · congr 1
      simp only [Int.natCast_add, eq_iff_iff]; omega
theorem cmpL_part : ∀ (a b : Bs) (k : Nat) (x y : UInt8), (∀ i, i < k → a[i]? = b[i]?) → a[k]? = some x → b[k]? = some y → ¬ x = y → cmpL a b = sg (rk x) (rk y)
  | [], _, k, _, _, _, h, _, _ => by simp at h
  | _ :: _, [], k, _, _, _, _, h, _ => by simp at h
  | p :: ps, q :: qs, 0, x, y, _, h1, h2, hn => by
    simp at h1 h2
    subst h1; subst h2
    have : ¬ rk p = rk q := fun e => hn (rk_inj e)
    simp only [cmpL, sg, if_neg hn]
    by_cases h : rk p < rk q
    · rw [if_pos h, if_pos h]
    · rw [if_neg h, if_neg h, if_pos (by omega)]
  | p :: ps, q :: qs, k + 1, x, y, h, h1, h2, hn => by
    have h0 := h 0 (by omega)
    simp at h0
    subst h0
    simp only [cmpL, if_true]
    exact cmpL_part ps qs k x y (fun i hi => by have := h (i + 1) (by omega); simpa using this) (by simpa using h1) (by simpa using h2) hn
theorem un_get (s : ByteArray) (i : Nat) (h : i < s.size) : (unB s)[i]? = some (s[i]'h) := by
  have h' : i < (unB s).length := by rw [un_size]; exact h
  rw [List.getElem?_eq_getElem h']; rfl

end Go.Proofs.YtdibmmagnkjapaaGreatDoor
namespace Go.Proofs.YtdibmmagnkjapaaGreatDoor
open Go Go.RowKit
set_option linter.unusedSimpArgs false
set_option linter.unusedVariables false

/-- A slice of texts, as it lies in memory. -/
def Row (w : World) (v : Value) (xs : List ByteArray) : Prop :=
  ∃ a n cap, v = .slice a n cap ∧ n = xs.length ∧ n ≤ cap ∧ (xs ≠ [] → ∃ g o, a = some ⟨g, o, none⟩ ∧ g < w.heap.size ∧ ∀ k x, xs[k]? = some x → w.cell? ⟨g, o + k, none⟩ = some (.string x))
theorem Row.later {w w' : World} {v : Value} {xs : List ByteArray} (h : Row w v xs) (hb : Below w.heap.size w w') : Row w' v xs := by
  obtain ⟨a, n, cap, rfl, hn, hc, hx⟩ := h
  refine ⟨a, n, cap, rfl, hn, hc, fun hne => ?_⟩
  obtain ⟨g, o, rfl, hg, hk⟩ := hx hne
  exact ⟨g, o, rfl, Nat.lt_of_lt_of_le hg hb.size, fun k x hk' => by rw [hb.cell (by exact hg)]; exact hk k x hk'⟩
theorem Row.drew {w : World} {v : Value} {xs : List ByteArray} (h : Row w v xs) (n : Nat) : Row (w.drewN n) v xs := h.later (below_drewN (Below.refl _ _) n)
theorem Row.cons {w : World} {v : Value} {x : ByteArray} {xs : List ByteArray} (h : Row w v (x :: xs)) : ∃ g o n cap, v = .slice (some ⟨g, o, none⟩) n cap ∧ n = xs.length + 1 ∧ n ≤ cap ∧ g < w.heap.size ∧ w.cell? ⟨g, o, none⟩ = some (.string x) ∧ ∀ k y, xs[k]? = some y → w.cell? ⟨g, o + (k + 1), none⟩ = some (.string y) := by
  obtain ⟨a, n, cap, rfl, hn, hc, hx⟩ := h
  obtain ⟨g, o, rfl, hg, hk⟩ := hx (by simp)
  exact ⟨g, o, n, cap, rfl, hn, hc, hg, hk 0 x rfl, fun k y h => hk (k + 1) y (by simpa using h)⟩
theorem Row.nil {w : World} {v : Value} (h : Row w v []) : ∃ a cap, v = .slice a 0 cap := by
  obtain ⟨a, n, cap, rfl, hn, hc, hx⟩ := h
  subst hn
  exact ⟨a, cap, rfl⟩
theorem un_list (s : ByteArray) : s.toList = unB s := Lib.toList_data s
set_option maxRecDepth 100000 in
set_option maxHeartbeats 1000000 in
theorem Row.tail {w : World} {g o n cap : Nat} {xs : List ByteArray} (hn : n = xs.length + 1) (hc : n ≤ cap) (hg : g < w.heap.size) (hk : ∀ k y, xs[k]? = some y → w.cell? ⟨g, o + (k + 1), none⟩ = some (.string y)) (a : Option Addr) (ha : xs ≠ [] → a = some ⟨g, o + 1, none⟩) : Row w (.slice a (n - 1) (cap - 1)) xs :=
  ⟨a, n - 1, cap - 1, rfl, by omega, by omega, fun hne => ⟨g, o + 1, ha hne, hg, fun k x h => by have := hk k x h; rw [show o + 1 + k = o + (k + 1) by omega]; exact this⟩⟩
end Go.Proofs.YtdibmmagnkjapaaGreatDoor
namespace Go.Proofs.YtdibmmagnkjapaaGreatDoor
open Go Go.RowKit
set_option linter.unusedSimpArgs false
set_option linter.unusedVariables false

theorem Row.at {w : World} {v : Value} {xs : List ByteArray} (h : Row w v xs) : ∃ a n cap, v = .slice a n cap ∧ n = xs.length ∧ n ≤ cap ∧ (xs ≠ [] → ∃ g o, a = some ⟨g, o, none⟩ ∧ g < w.heap.size ∧ ∀ k x, xs[k]? = some x → w.cell? ⟨g, o + k, none⟩ = some (.string x)) := h

end Go.Proofs.YtdibmmagnkjapaaGreatDoor
namespace Go.Proofs.YtdibmmagnkjapaaGreatDoor
open Go Go.RowKit
set_option linter.unusedSimpArgs false
set_option linter.unusedVariables false

def hi5 (H j : Nat) : Nat := if j = 1 then H else 191
end Go.Proofs.YtdibmmagnkjapaaGreatDoor
namespace Go.Proofs.YtdibmmagnkjapaaGreatDoor
open Go Go.RowKit
set_option linter.unusedSimpArgs false
set_option linter.unusedVariables false

end Go.Proofs.YtdibmmagnkjapaaGreatDoor
