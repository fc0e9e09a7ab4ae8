import Derived.Test.YtepjcfhbbcaldaaLa
import Derived.BigQuiet
import Derived.Deep.QuietTactic
import Derived.Deep.LoopGhost
import Derived.Test.YtepjcfhbbcaldaaRk
import Derived.OwnWalk
namespace Go.Proofs.Ytepjcfhbbcaldaa
open Go Go.RowKit
set_option linter.unusedSimpArgs false
set_option linter.unusedVariables false

/-- The order of two numbers. -/
def sg (x y : Int) : Int := if x < y then -1 else if y < x then 1 else 0

end Go.Proofs.Ytepjcfhbbcaldaa
namespace Go.Proofs.Ytepjcfhbbcaldaa
open Go Go.RowKit
set_option linter.unusedSimpArgs false
set_option linter.unusedVariables false

theorem cmpL_len : ∀ (a b : Bs), (∀ i, i < min a.length b.length → a[i]? = b[i]?) → cmpL a b = sg a.length b.length
  | [], [], _ => rfl
  | [], y :: ys, _ => by simp only [cmpL, sg, List.length_cons, List.length_nil]; rw [if_pos (by omega)]
  | x :: xs, [], _ => by simp only [cmpL, sg, List.length_cons, List.length_nil]; rw [if_neg (by omega), if_pos (by omega)]
  | x :: xs, y :: ys, h => by
    have h0 := h 0 (by simp)
    simp at h0
    subst h0
    simp only [cmpL, if_true]
    rw [cmpL_len xs ys (fun i hi => by have := h (i + 1) (by simp; omega); simpa using this)]
    simp only [sg, List.length_cons]
    congr 1
    · simp only [Int.natCast_add, eq_iff_iff]; omega
    · congr 1
      simp only [Int.natCast_add, eq_iff_iff]; omega
theorem cmpL_part : ∀ (a b : Bs) (k : Nat) (x y : UInt8), (∀ i, i < k → a[i]? = b[i]?) → a[k]? = some x → b[k]? = some y → ¬ x = y → cmpL a b = sg (rk x) (rk y)
  | [], _, k, _, _, _, h, _, _ => by simp at h
  | _ :: _, [], k, _, _, _, _, h, _ => by simp at h
  | p :: ps, q :: qs, 0, x, y, _, h1, h2, hn => by
    simp at h1 h2
    subst h1; subst h2
    have : ¬ rk p = rk q := fun e => hn (rk_inj e)
    simp only [cmpL, sg, if_neg hn]
    by_cases h : rk p < rk q
    · rw [if_pos h, if_pos h]
    · rw [if_neg h, if_neg h, if_pos (by omega)]
  | p :: ps, q :: qs, k + 1, x, y, h, h1, h2, hn => by
    have h0 := h 0 (by omega)
    simp at h0
    subst h0
    simp only [cmpL, if_true]
    exact cmpL_part ps qs k x y (fun i hi => by have := h (i + 1) (by omega); simpa using this) (by simpa using h1) (by simpa using h2) hn
theorem un_get (s : ByteArray) (i : Nat) (h : i < s.size) : (unB s)[i]? = some (s[i]'h) := by
  have h' : i < (unB s).length := by rw [un_size]; exact h
  rw [List.getElem?_eq_getElem h']; rfl


end Go.Proofs.Ytepjcfhbbcaldaa
namespace Go.Proofs.Ytepjcfhbbcaldaa
open Go Go.RowKit
set_option linter.unusedSimpArgs false
set_option linter.unusedVariables false

/-- A slice of texts, as it lies in memory. -/
def Row (w : World) (v : Value) (xs : List ByteArray) : Prop :=
  ∃ a n cap, v = .slice a n cap ∧ n = xs.length ∧ n ≤ cap ∧ (xs ≠ [] → ∃ g o, a = some ⟨g, o, none⟩ ∧ g < w.heap.size ∧ ∀ k x, xs[k]? = some x → w.cell? ⟨g, o + k, none⟩ = some (.string x))
theorem Row.later {w w' : World} {v : Value} {xs : List ByteArray} (h : Row w v xs) (hb : Below w.heap.size w w') : Row w' v xs := by
  obtain ⟨a, n, cap, rfl, hn, hc, hx⟩ := h
  refine ⟨a, n, cap, rfl, hn, hc, fun hne => ?_⟩
  obtain ⟨g, o, rfl, hg, hk⟩ := hx hne
  exact ⟨g, o, rfl, Nat.lt_of_lt_of_le hg hb.size, fun k x hk' => by rw [hb.cell (by exact hg)]; exact hk k x hk'⟩
theorem Row.drew {w : World} {v : Value} {xs : List ByteArray} (h : Row w v xs) (n : Nat) : Row (w.drewN n) v xs := h.later (below_drewN (Below.refl _ _) n)
theorem Row.cons {w : World} {v : Value} {x : ByteArray} {xs : List ByteArray} (h : Row w v (x :: xs)) : ∃ g o n cap, v = .slice (some ⟨g, o, none⟩) n cap ∧ n = xs.length + 1 ∧ n ≤ cap ∧ g < w.heap.size ∧ w.cell? ⟨g, o, none⟩ = some (.string x) ∧ ∀ k y, xs[k]? = some y → w.cell? ⟨g, o + (k + 1), none⟩ = some (.string y) := by
  obtain ⟨a, n, cap, rfl, hn, hc, hx⟩ := h
  obtain ⟨g, o, rfl, hg, hk⟩ := hx (by simp)
  exact ⟨g, o, n, cap, rfl, hn, hc, hg, hk 0 x rfl, fun k y h => hk (k + 1) y (by simpa using h)⟩
theorem Row.nil {w : World} {v : Value} (h : Row w v []) : ∃ a cap, v = .slice a 0 cap := by
  obtain ⟨a, n, cap, rfl, hn, hc, hx⟩ := h
  subst hn
  exact ⟨a, cap, rfl⟩
/-- Do a filter's levels match a topic's? -/
def mt : List Bs → List Bs → Bool
  | [], t => t.isEmpty
  | f :: fs, t => if f = [35] then true else
    match t with
    | [] => false
    | x :: xs => if f ≠ [43] ∧ f ≠ x then false else mt fs xs
theorem un_list (s : ByteArray) : s.toList = unB s := Lib.toList_data s
theorem eq_two (s t : ByteArray) : (s.toList == t.toList) = decide (unB s = unB t) := by
  rw [un_list, un_list]; by_cases h : unB s = unB t <;> simp [h]
theorem eq_one (s : ByteArray) (c : UInt8) : (s.toList == (⟨#[c]⟩ : ByteArray).toList) = decide (unB s = [c]) := eq_two s ⟨#[c]⟩
theorem eq_one' (s : ByteArray) (c : UInt8) : (s.toList == [c]) = decide (unB s = [c]) := by
  rw [← eq_one, un_list ⟨#[c]⟩]; rfl
abbrev MatchesOk (fs ts : List ByteArray) : Prop := ∀ (vf vt : Value) (w : World), Row w vf fs → Row w vt ts → Calls Try.prog 38 #[vf, vt] w fun e w' => e = .returned (.bool (mt (fs.map unB) (ts.map unB))) ∧ ∃ k, w' = w.drewN k

theorem matches_nil (ts : List ByteArray) : MatchesOk [] ts := by
  intro vf vt w Rf Rt
  obtain ⟨a, cap, rfl⟩ := Rf.nil
  obtain ⟨a2, n2, cap2, rfl, hn, _, _⟩ := Rt
  have e : mt (([] : List ByteArray).map unB) (ts.map unB) = ((n2 : Int) == 0) := by
    rw [hn]; cases ts with
    | nil => rfl
    | cons a b => simp [mt]; omega
  rw [e]
  clear Rf hn e
  go_enter Try.func38, Try.ntmps38
  go_wp2_with fail
  go_ret
  exact ⟨rfl, 0, rfl⟩
theorem matches_hash (f : ByteArray) (fs ts : List ByteArray) (hf : unB f = [35]) : MatchesOk (f :: fs) ts := by
  intro vf vt w Rf Rt
  have e : mt ((f :: fs).map unB) (ts.map unB) = true := by simp [mt, hf]
  rw [e]
  obtain ⟨g, o, n1, cap, rfl, hn1, hc1, hg1, c1, hk1⟩ := Rf.cons
  have hN1 : Hid (n1 = fs.length + 1 ∧ n1 ≤ cap) := ⟨hn1, hc1⟩
  have e0 : ((n1 : Int) == 0) = false := by rw [beq_eq_false_iff_ne]; omega
  have p0 : (0 : Int) < (n1 : Int) := by omega
  have p0' : (1 : Int) ≤ (n1 : Int) := by omega
  have q1 : (f.toList == (⟨#[35]⟩ : ByteArray).toList) = true := by rw [eq_one]; exact decide_eq_true hf
  have q1' : (f.toList == [35]) = true := by rw [eq_one']; exact decide_eq_true hf
  clear e hk1 Rf Rt hn1
  go_enter Try.func38, Try.ntmps38
  go_wp2_with fail
  go_ret
  exact ⟨rfl, 0, rfl⟩
theorem matches_short (f : ByteArray) (fs : List ByteArray) (hf : ¬ unB f = [35]) : MatchesOk (f :: fs) [] := by
  intro vf vt w Rf Rt
  have e : mt ((f :: fs).map unB) (([] : List ByteArray).map unB) = false := by simp [mt, hf]
  rw [e]
  obtain ⟨a2, cap2, rfl⟩ := Rt.nil
  obtain ⟨g, o, n1, cap, rfl, hn1, hc1, hg1, c1, hk1⟩ := Rf.cons
  have hN1 : Hid (n1 = fs.length + 1 ∧ n1 ≤ cap) := ⟨hn1, hc1⟩
  have e0 : ((n1 : Int) == 0) = false := by rw [beq_eq_false_iff_ne]; omega
  have p0 : (0 : Int) < (n1 : Int) := by omega
  have p0' : (1 : Int) ≤ (n1 : Int) := by omega
  have q1 : (f.toList == (⟨#[35]⟩ : ByteArray).toList) = false := by rw [eq_one]; exact decide_eq_false hf
  have q1' : (f.toList == [35]) = false := by rw [eq_one']; exact decide_eq_false hf
  clear e hk1 Rf Rt hn1
  go_enter Try.func38, Try.ntmps38
  go_wp2_with fail
  go_ret
  exact ⟨rfl, 0, rfl⟩
set_option maxRecDepth 100000 in
set_option maxHeartbeats 1000000 in
theorem matches_unlike (f t : ByteArray) (fs ts : List ByteArray) (hf : ¬ unB f = [35]) (h43 : ¬ unB f = [43]) (hne : ¬ unB f = unB t) : MatchesOk (f :: fs) (t :: ts) := by
  intro vf vt w Rf Rt
  have e : mt ((f :: fs).map unB) ((t :: ts).map unB) = false := by simp [mt, hf, h43, hne]
  rw [e]
  obtain ⟨g, o, n1, cap, rfl, hn1, hc1, hg1, c1, hk1⟩ := Rf.cons
  have hN1 : Hid (n1 = fs.length + 1 ∧ n1 ≤ cap) := ⟨hn1, hc1⟩
  have e0 : ((n1 : Int) == 0) = false := by rw [beq_eq_false_iff_ne]; omega
  have p0 : (0 : Int) < (n1 : Int) := by omega
  have p0' : (1 : Int) ≤ (n1 : Int) := by omega
  obtain ⟨g2, o2, n2, cap2, rfl, hn2, hc2, hg2, c2, hk2⟩ := Rt.cons
  have hN2 : Hid (n2 = ts.length + 1 ∧ n2 ≤ cap2) := ⟨hn2, hc2⟩
  have e1 : ((n2 : Int) == 0) = false := by rw [beq_eq_false_iff_ne]; omega
  have p1 : (0 : Int) < (n2 : Int) := by omega
  have p1' : (1 : Int) ≤ (n2 : Int) := by omega
  have q1 : (f.toList == (⟨#[35]⟩ : ByteArray).toList) = false := by rw [eq_one]; exact decide_eq_false hf
  have q1' : (f.toList == [35]) = false := by rw [eq_one']; exact decide_eq_false hf
  have q2 : (f.toList == (⟨#[43]⟩ : ByteArray).toList) = false := by rw [eq_one]; exact decide_eq_false h43
  have q2' : (f.toList == [43]) = false := by rw [eq_one']; exact decide_eq_false h43
  have q3 : (f.toList == t.toList) = false := by rw [eq_two]; exact decide_eq_false hne
  clear e hk1 hk2 Rf Rt hf h43 hne hn1 hn2
  go_enter Try.func38, Try.ntmps38
  go_wp2_with fail
  go_quiet (fail)
  go_wp2_with fail
  go_ret
  exact ⟨rfl, _, rfl⟩
theorem Row.tail {w : World} {g o n cap : Nat} {xs : List ByteArray} (hn : n = xs.length + 1) (hc : n ≤ cap) (hg : g < w.heap.size) (hk : ∀ k y, xs[k]? = some y → w.cell? ⟨g, o + (k + 1), none⟩ = some (.string y)) (a : Option Addr) (ha : xs ≠ [] → a = some ⟨g, o + 1, none⟩) : Row w (.slice a (n - 1) (cap - 1)) xs :=
  ⟨a, n - 1, cap - 1, rfl, by omega, by omega, fun hne => ⟨g, o + 1, ha hne, hg, fun k x h => by have := hk k x h; rw [show o + 1 + k = o + (k + 1) by omega]; exact this⟩⟩
set_option maxRecDepth 100000 in
set_option maxHeartbeats 1000000 in
theorem matches_plus (f t : ByteArray) (fs ts : List ByteArray) (hf : ¬ unB f = [35]) (h43 : unB f = [43]) (ih : MatchesOk fs ts) : MatchesOk (f :: fs) (t :: ts) := by
  intro vf vt w Rf Rt
  have e : mt ((f :: fs).map unB) ((t :: ts).map unB) = mt (fs.map unB) (ts.map unB) := by simp only [List.map_cons, mt, if_neg hf]; rw [if_neg]; exact fun h => h.1 h43
  rw [e]
  obtain ⟨g, o, n1, cap, rfl, hn1, hc1, hg1, c1, hk1⟩ := Rf.cons
  have hN1 : Hid (n1 = fs.length + 1 ∧ n1 ≤ cap) := ⟨hn1, hc1⟩
  have e0 : ((n1 : Int) == 0) = false := by rw [beq_eq_false_iff_ne]; omega
  have p0 : (0 : Int) < (n1 : Int) := by omega
  have p0' : (1 : Int) ≤ (n1 : Int) := by omega
  obtain ⟨g2, o2, n2, cap2, rfl, hn2, hc2, hg2, c2, hk2⟩ := Rt.cons
  have hN2 : Hid (n2 = ts.length + 1 ∧ n2 ≤ cap2) := ⟨hn2, hc2⟩
  have e1 : ((n2 : Int) == 0) = false := by rw [beq_eq_false_iff_ne]; omega
  have p1 : (0 : Int) < (n2 : Int) := by omega
  have p1' : (1 : Int) ≤ (n2 : Int) := by omega
  have q1 : (f.toList == (⟨#[35]⟩ : ByteArray).toList) = false := by rw [eq_one]; exact decide_eq_false hf
  have q1' : (f.toList == [35]) = false := by rw [eq_one']; exact decide_eq_false hf
  have q2 : (f.toList == (⟨#[43]⟩ : ByteArray).toList) = true := by rw [eq_one]; exact decide_eq_true h43
  have q2' : (f.toList == [43]) = true := by rw [eq_one']; exact decide_eq_true h43
  obtain ⟨x, hx⟩ : ∃ x, x = mt (fs.map unB) (ts.map unB) := ⟨_, rfl⟩
  have IH : Hid (∀ (a1 a2 : Option Addr), (fs ≠ [] → a1 = some ⟨g, o + 1, none⟩) → (ts ≠ [] → a2 = some ⟨g2, o2 + 1, none⟩) → ∀ k, Calls Try.prog 38 #[.slice a1 (n1 - 1) (cap - 1), .slice a2 (n2 - 1) (cap2 - 1)] (w.drewN k) fun e w' => e = .returned (.bool x) ∧ ∃ m, w' = (w.drewN k).drewN m) := fun a1 a2 h1 h2 k => by
    rw [hx]
    exact ih _ _ _ (Row.drew (Row.tail hn1 hc1 hg1 hk1 a1 h1) k) (Row.drew (Row.tail hn2 hc2 hg2 hk2 a2 h2) k)
  have H1 : Hid (n1 = fs.length + 1 ∧ n2 = ts.length + 1 ∧ n1 ≤ cap ∧ n2 ≤ cap2) := ⟨hn1, hn2, hc1, hc2⟩
  rw [← hx]
  clear e hk1 hk2 Rf Rt hf h43 hx ih hn1 hn2
  go_enter Try.func38, Try.ntmps38
  go_wp2_with fail
  go_quiet (fail)
  have IH2 : Hid (∀ k, Calls Try.prog 38 #[.slice (if cap = 1 then some ⟨g, o, none⟩ else some ⟨g, o + 1, none⟩) (n1 - 1) (cap - 1), .slice (if cap2 = 1 then some ⟨g2, o2, none⟩ else some ⟨g2, o2 + 1, none⟩) (n2 - 1) (cap2 - 1)] ((w.drewN nq).drewN k) fun e w' => e = .returned (.bool x) ∧ ∃ m, w' = ((w.drewN nq).drewN k).drewN m) := fun k => by
    rw [World.drewN_drewN]; exact IH.out _ _ (fun hne => by
      have h1 := H1.out; have h2 := List.length_pos_iff.2 hne
      rw [if_neg (by omega)]) (fun hne => by
      have h1 := H1.out; have h2 := List.length_pos_iff.2 hne
      rw [if_neg (by omega)]) (nq + k)
  obtain ⟨w1, hw1⟩ : ∃ w1, w1 = w.drewN nq := ⟨_, rfl⟩
  rw [← hw1] at IH2 ⊢
  obtain ⟨m1, HW1⟩ : ∃ m1, Hid (w1 = w.drewN m1) := ⟨nq, hw1⟩
  clear hw1 IH
  go_wp2_with fail
  go_quiet ((go_at_call 38; exact Calls.quiet_of (IH2.out _)))
  go_wp2_with fail
  all_goals go_ret
  all_goals exact ⟨rfl, m1 + nq, by rw [HW1.out, World.drewN_drewN]⟩
set_option maxRecDepth 100000 in
set_option maxHeartbeats 1000000 in
theorem matches_same (f t : ByteArray) (fs ts : List ByteArray) (hf : ¬ unB f = [35]) (h43 : ¬ unB f = [43]) (hne : unB f = unB t) (ih : MatchesOk fs ts) : MatchesOk (f :: fs) (t :: ts) := by
  intro vf vt w Rf Rt
  have e : mt ((f :: fs).map unB) ((t :: ts).map unB) = mt (fs.map unB) (ts.map unB) := by simp only [List.map_cons, mt, if_neg hf]; rw [if_neg]; exact fun h => h.2 hne
  rw [e]
  obtain ⟨g, o, n1, cap, rfl, hn1, hc1, hg1, c1, hk1⟩ := Rf.cons
  have hN1 : Hid (n1 = fs.length + 1 ∧ n1 ≤ cap) := ⟨hn1, hc1⟩
  have e0 : ((n1 : Int) == 0) = false := by rw [beq_eq_false_iff_ne]; omega
  have p0 : (0 : Int) < (n1 : Int) := by omega
  have p0' : (1 : Int) ≤ (n1 : Int) := by omega
  obtain ⟨g2, o2, n2, cap2, rfl, hn2, hc2, hg2, c2, hk2⟩ := Rt.cons
  have hN2 : Hid (n2 = ts.length + 1 ∧ n2 ≤ cap2) := ⟨hn2, hc2⟩
  have e1 : ((n2 : Int) == 0) = false := by rw [beq_eq_false_iff_ne]; omega
  have p1 : (0 : Int) < (n2 : Int) := by omega
  have p1' : (1 : Int) ≤ (n2 : Int) := by omega
  have q1 : (f.toList == (⟨#[35]⟩ : ByteArray).toList) = false := by rw [eq_one]; exact decide_eq_false hf
  have q1' : (f.toList == [35]) = false := by rw [eq_one']; exact decide_eq_false hf
  have q2 : (f.toList == (⟨#[43]⟩ : ByteArray).toList) = false := by rw [eq_one]; exact decide_eq_false h43
  have q2' : (f.toList == [43]) = false := by rw [eq_one']; exact decide_eq_false h43
  have q3 : (f.toList == t.toList) = true := by rw [eq_two]; exact decide_eq_true hne
  clear hne
  obtain ⟨x, hx⟩ : ∃ x, x = mt (fs.map unB) (ts.map unB) := ⟨_, rfl⟩
  have IH : Hid (∀ (a1 a2 : Option Addr), (fs ≠ [] → a1 = some ⟨g, o + 1, none⟩) → (ts ≠ [] → a2 = some ⟨g2, o2 + 1, none⟩) → ∀ k, Calls Try.prog 38 #[.slice a1 (n1 - 1) (cap - 1), .slice a2 (n2 - 1) (cap2 - 1)] (w.drewN k) fun e w' => e = .returned (.bool x) ∧ ∃ m, w' = (w.drewN k).drewN m) := fun a1 a2 h1 h2 k => by
    rw [hx]
    exact ih _ _ _ (Row.drew (Row.tail hn1 hc1 hg1 hk1 a1 h1) k) (Row.drew (Row.tail hn2 hc2 hg2 hk2 a2 h2) k)
  have H1 : Hid (n1 = fs.length + 1 ∧ n2 = ts.length + 1 ∧ n1 ≤ cap ∧ n2 ≤ cap2) := ⟨hn1, hn2, hc1, hc2⟩
  rw [← hx]
  clear e hk1 hk2 Rf Rt hf h43 hx ih hn1 hn2
  go_enter Try.func38, Try.ntmps38
  go_wp2_with fail
  go_quiet (fail)
  have IH2 : Hid (∀ k, Calls Try.prog 38 #[.slice (if cap = 1 then some ⟨g, o, none⟩ else some ⟨g, o + 1, none⟩) (n1 - 1) (cap - 1), .slice (if cap2 = 1 then some ⟨g2, o2, none⟩ else some ⟨g2, o2 + 1, none⟩) (n2 - 1) (cap2 - 1)] ((w.drewN nq).drewN k) fun e w' => e = .returned (.bool x) ∧ ∃ m, w' = ((w.drewN nq).drewN k).drewN m) := fun k => by
    rw [World.drewN_drewN]; exact IH.out _ _ (fun hne => by
      have h1 := H1.out; have h2 := List.length_pos_iff.2 hne
      rw [if_neg (by omega)]) (fun hne => by
      have h1 := H1.out; have h2 := List.length_pos_iff.2 hne
      rw [if_neg (by omega)]) (nq + k)
  obtain ⟨w1, hw1⟩ : ∃ w1, w1 = w.drewN nq := ⟨_, rfl⟩
  rw [← hw1] at IH2 ⊢
  obtain ⟨m1, HW1⟩ : ∃ m1, Hid (w1 = w.drewN m1) := ⟨nq, hw1⟩
  clear hw1 IH
  go_wp2_with fail
  go_quiet ((go_at_call 38; exact Calls.quiet_of (IH2.out _)))
  go_wp2_with fail
  all_goals go_ret
  all_goals exact ⟨rfl, m1 + nq, by rw [HW1.out, World.drewN_drewN]⟩

theorem matches_any : ∀ (fs ts : List ByteArray), MatchesOk fs ts
  | [], ts => matches_nil ts
  | f :: fs, ts => by
    by_cases hf : unB f = [35]
    · exact matches_hash f fs ts hf
    · cases ts with
      | nil => exact matches_short f fs hf
      | cons t ts =>
        by_cases h43 : unB f = [43]
        · exact matches_plus f t fs ts hf h43 (matches_any fs ts)
        · by_cases hne : unB f = unB t
          · exact matches_same f t fs ts hf h43 hne (matches_any fs ts)
          · exact matches_unlike f t fs ts hf h43 hne
end Go.Proofs.Ytepjcfhbbcaldaa
namespace Go.Proofs.Ytepjcfhbbcaldaa
open Go Go.RowKit
set_option linter.unusedSimpArgs false
set_option linter.unusedVariables false

theorem Row.at {w : World} {v : Value} {xs : List ByteArray} (h : Row w v xs) : ∃ a n cap, v = .slice a n cap ∧ n = xs.length ∧ n ≤ cap ∧ (xs ≠ [] → ∃ g o, a = some ⟨g, o, none⟩ ∧ g < w.heap.size ∧ ∀ k x, xs[k]? = some x → w.cell? ⟨g, o + k, none⟩ = some (.string x)) := h

theorem mt_drop (F T : List Bs) (i : Nat) (f t : Bs) (h1 : F[i]? = some f) (h2 : T[i]? = some t) : mt (F.drop i) (T.drop i) = (if f = [35] then true else if f ≠ [43] ∧ f ≠ t then false else mt (F.drop (i + 1)) (T.drop (i + 1))) := by
  obtain ⟨hi, e⟩ := List.getElem?_eq_some_iff.1 h1
  obtain ⟨hj, e'⟩ := List.getElem?_eq_some_iff.1 h2
  rw [List.drop_eq_getElem_cons hi, List.drop_eq_getElem_cons hj, e, e']
  rfl
theorem mt_drop_hash (F T : List Bs) (i : Nat) (h1 : F[i]? = some [35]) : mt (F.drop i) (T.drop i) = true := by
  obtain ⟨hi, e⟩ := List.getElem?_eq_some_iff.1 h1
  rw [List.drop_eq_getElem_cons hi, e]
  rfl
theorem mt_drop_short (F T : List Bs) (i : Nat) (f : Bs) (h1 : F[i]? = some f) (hf : ¬ f = [35]) (h2 : T.length ≤ i) : mt (F.drop i) (T.drop i) = false := by
  obtain ⟨hi, e⟩ := List.getElem?_eq_some_iff.1 h1
  rw [List.drop_eq_getElem_cons hi, e, List.drop_eq_nil_of_le h2]
  simp [mt, hf]


end Go.Proofs.Ytepjcfhbbcaldaa
namespace Go.Proofs.Ytepjcfhbbcaldaa
open Go Go.RowKit
set_option linter.unusedSimpArgs false
set_option linter.unusedVariables false

/-- How many bytes go on behind a first one, and between which bounds the first of them is. -/
def mr (c : Nat) : Int × Nat × Nat :=
  if c ≤ 127 then (0, 0, 0) else if c ≤ 193 then (-1, 0, 0) else if c ≤ 223 then (1, 128, 191) else if c ≤ 224 then (2, 160, 191) else if c ≤ 236 then (2, 128, 191) else if c ≤ 237 then (2, 128, 159) else if c ≤ 239 then (2, 128, 191) else if c ≤ 240 then (3, 144, 191) else if c ≤ 243 then (3, 128, 191) else if c ≤ 244 then (3, 128, 143) else (-1, 0, 0)
theorem mr_0 (c : Nat) (h1 : 0 ≤ c) (h2 : c ≤ 127) : mr c = (0, 0, 0) := by unfold mr; rw [if_pos (by omega)]
theorem mr_1 (c : Nat) (h1 : 128 ≤ c) (h2 : c ≤ 193) : mr c = (-1, 0, 0) := by unfold mr; rw [if_neg (by omega), if_pos (by omega)]
theorem mr_2 (c : Nat) (h1 : 194 ≤ c) (h2 : c ≤ 223) : mr c = (1, 128, 191) := by unfold mr; rw [if_neg (by omega), if_neg (by omega), if_pos (by omega)]
theorem mr_3 (c : Nat) (h1 : 224 ≤ c) (h2 : c ≤ 224) : mr c = (2, 160, 191) := by unfold mr; rw [if_neg (by omega), if_neg (by omega), if_neg (by omega), if_pos (by omega)]
theorem mr_4 (c : Nat) (h1 : 225 ≤ c) (h2 : c ≤ 236) : mr c = (2, 128, 191) := by unfold mr; rw [if_neg (by omega), if_neg (by omega), if_neg (by omega), if_neg (by omega), if_pos (by omega)]
theorem mr_5 (c : Nat) (h1 : 237 ≤ c) (h2 : c ≤ 237) : mr c = (2, 128, 159) := by unfold mr; rw [if_neg (by omega), if_neg (by omega), if_neg (by omega), if_neg (by omega), if_neg (by omega), if_pos (by omega)]
theorem mr_6 (c : Nat) (h1 : 238 ≤ c) (h2 : c ≤ 239) : mr c = (2, 128, 191) := by unfold mr; rw [if_neg (by omega), if_neg (by omega), if_neg (by omega), if_neg (by omega), if_neg (by omega), if_neg (by omega), if_pos (by omega)]
theorem mr_7 (c : Nat) (h1 : 240 ≤ c) (h2 : c ≤ 240) : mr c = (3, 144, 191) := by unfold mr; rw [if_neg (by omega), if_neg (by omega), if_neg (by omega), if_neg (by omega), if_neg (by omega), if_neg (by omega), if_neg (by omega), if_pos (by omega)]
theorem mr_8 (c : Nat) (h1 : 241 ≤ c) (h2 : c ≤ 243) : mr c = (3, 128, 191) := by unfold mr; rw [if_neg (by omega), if_neg (by omega), if_neg (by omega), if_neg (by omega), if_neg (by omega), if_neg (by omega), if_neg (by omega), if_neg (by omega), if_pos (by omega)]
theorem mr_9 (c : Nat) (h1 : 244 ≤ c) (h2 : c ≤ 244) : mr c = (3, 128, 143) := by unfold mr; rw [if_neg (by omega), if_neg (by omega), if_neg (by omega), if_neg (by omega), if_neg (by omega), if_neg (by omega), if_neg (by omega), if_neg (by omega), if_neg (by omega), if_pos (by omega)]
theorem mr_10 (c : Nat) (h1 : 245 ≤ c) (h2 : c ≤ 255) : mr c = (-1, 0, 0) := by unfold mr; rw [if_neg (by omega), if_neg (by omega), if_neg (by omega), if_neg (by omega), if_neg (by omega), if_neg (by omega), if_neg (by omega), if_neg (by omega), if_neg (by omega), if_neg (by omega)]
def lo5 (L j : Nat) : Nat := if j = 1 then L else 128
def hi5 (H j : Nat) : Nat := if j = 1 then H else 191
/-- Does a byte behind the first one fit? -/
def In5 (s : ByteArray) (k L H j : Nat) : Prop := lo5 L j ≤ atB s (k + j) ∧ atB s (k + j) ≤ hi5 H j
theorem mr_most (c : Nat) : (mr c).1 ≤ 3 ∧ -1 ≤ (mr c).1 := by unfold mr; (repeat' split) <;> (constructor <;> decide)
theorem mr_low (c : Nat) (h : 1 ≤ (mr c).1) : 128 ≤ (mr c).2.1 := by
  revert h; unfold mr; (repeat' split) <;> (intro h; first | (exact absurd h (by decide)) | decide)
theorem point_neg (s : ByteArray) (k : Nat) (h : (mr (atB s k)).1 < 0) : point s k = 0 := by
  have h0 := atB_lt s k
  revert h
  unfold point
  generalize atB s k = c at *
  intro h
  by_cases a : c ≤ 193
  · by_cases b : c ≤ 127
    · rw [mr_0 c (by omega) b] at h; exact absurd h (by decide)
    · unfold pt
      rw [if_neg (by omega), if_neg (by omega), if_neg (by omega), if_neg (by omega)]
  · by_cases b : c ≤ 244
    · exfalso
      revert h; unfold mr; (repeat' split) <;> (intro h; first | (exact absurd h (by decide)) | omega)
    · unfold pt
      rw [if_neg (by omega), if_neg (by omega), if_neg (by omega), if_neg (by omega)]
theorem point_ok (s : ByteArray) (k m : Nat) (hm : (mr (atB s k)).1 = m) (hj : ∀ j, 1 ≤ j → j ≤ m → In5 s k (mr (atB s k)).2.1 (mr (atB s k)).2.2 j) : point s k = m + 1 := by
  have h0 := atB_lt s k
  obtain ⟨c, hc⟩ : ∃ c, atB s k = c := ⟨_, rfl⟩
  rw [hc] at hm hj h0
  by_cases r0 : c ≤ 127
  · have e := mr_0 c (by omega) (by omega)
    rw [e] at hm hj
    obtain rfl : m = 0 := by simp at hm; omega
    unfold point pt
    rw [hc, if_pos (by omega)]
  by_cases r1 : c ≤ 193
  · have e := mr_1 c (by omega) (by omega)
    rw [e] at hm hj
    exfalso; revert hm; simp; try omega
  by_cases r2 : c ≤ 223
  · have e := mr_2 c (by omega) (by omega)
    rw [e] at hm hj
    obtain rfl : m = 1 := by simp at hm; omega
    have h1 := hj 1 (by decide) (by decide)
    simp [In5, lo5, hi5] at h1
    unfold point pt
    rw [hc, if_neg (by omega), if_pos (by omega)]
  by_cases r3 : c ≤ 224
  · have e := mr_3 c (by omega) (by omega)
    rw [e] at hm hj
    obtain rfl : m = 2 := by simp at hm; omega
    have h1 := hj 1 (by decide) (by decide)
    have h2 := hj 2 (by decide) (by decide)
    simp [In5, lo5, hi5] at h1 h2
    unfold point pt
    rw [hc, if_neg (by omega), if_neg (by omega), if_pos (by omega)]
  by_cases r4 : c ≤ 236
  · have e := mr_4 c (by omega) (by omega)
    rw [e] at hm hj
    obtain rfl : m = 2 := by simp at hm; omega
    have h1 := hj 1 (by decide) (by decide)
    have h2 := hj 2 (by decide) (by decide)
    simp [In5, lo5, hi5] at h1 h2
    unfold point pt
    rw [hc, if_neg (by omega), if_neg (by omega), if_pos (by omega)]
  by_cases r5 : c ≤ 237
  · have e := mr_5 c (by omega) (by omega)
    rw [e] at hm hj
    obtain rfl : m = 2 := by simp at hm; omega
    have h1 := hj 1 (by decide) (by decide)
    have h2 := hj 2 (by decide) (by decide)
    simp [In5, lo5, hi5] at h1 h2
    unfold point pt
    rw [hc, if_neg (by omega), if_neg (by omega), if_pos (by omega)]
  by_cases r6 : c ≤ 239
  · have e := mr_6 c (by omega) (by omega)
    rw [e] at hm hj
    obtain rfl : m = 2 := by simp at hm; omega
    have h1 := hj 1 (by decide) (by decide)
    have h2 := hj 2 (by decide) (by decide)
    simp [In5, lo5, hi5] at h1 h2
    unfold point pt
    rw [hc, if_neg (by omega), if_neg (by omega), if_pos (by omega)]
  by_cases r7 : c ≤ 240
  · have e := mr_7 c (by omega) (by omega)
    rw [e] at hm hj
    obtain rfl : m = 3 := by simp at hm; omega
    have h1 := hj 1 (by decide) (by decide)
    have h2 := hj 2 (by decide) (by decide)
    have h3 := hj 3 (by decide) (by decide)
    simp [In5, lo5, hi5] at h1 h2 h3
    unfold point pt
    rw [hc, if_neg (by omega), if_neg (by omega), if_neg (by omega), if_pos (by omega)]
  by_cases r8 : c ≤ 243
  · have e := mr_8 c (by omega) (by omega)
    rw [e] at hm hj
    obtain rfl : m = 3 := by simp at hm; omega
    have h1 := hj 1 (by decide) (by decide)
    have h2 := hj 2 (by decide) (by decide)
    have h3 := hj 3 (by decide) (by decide)
    simp [In5, lo5, hi5] at h1 h2 h3
    unfold point pt
    rw [hc, if_neg (by omega), if_neg (by omega), if_neg (by omega), if_pos (by omega)]
  by_cases r9 : c ≤ 244
  · have e := mr_9 c (by omega) (by omega)
    rw [e] at hm hj
    obtain rfl : m = 3 := by simp at hm; omega
    have h1 := hj 1 (by decide) (by decide)
    have h2 := hj 2 (by decide) (by decide)
    have h3 := hj 3 (by decide) (by decide)
    simp [In5, lo5, hi5] at h1 h2 h3
    unfold point pt
    rw [hc, if_neg (by omega), if_neg (by omega), if_neg (by omega), if_pos (by omega)]
  have e := mr_10 c (by omega) (by omega)
  rw [e] at hm hj
  exfalso; revert hm; simp; try omega
theorem point_no (s : ByteArray) (k m : Nat) (hm : (mr (atB s k)).1 = m) (hj : ∃ j, 1 ≤ j ∧ j ≤ m ∧ ¬ In5 s k (mr (atB s k)).2.1 (mr (atB s k)).2.2 j) : point s k = 0 := by
  have h0 := atB_lt s k
  obtain ⟨c, hc⟩ : ∃ c, atB s k = c := ⟨_, rfl⟩
  rw [hc] at hm hj h0
  by_cases r0 : c ≤ 127
  · have e := mr_0 c (by omega) (by omega)
    rw [e] at hm hj
    obtain rfl : m = 0 := by simp at hm; omega
    obtain ⟨j, j1, j2, hj⟩ := hj
    omega
  by_cases r1 : c ≤ 193
  · have e := mr_1 c (by omega) (by omega)
    rw [e] at hm hj
    exfalso; revert hm; simp; try omega
  by_cases r2 : c ≤ 223
  · have e := mr_2 c (by omega) (by omega)
    rw [e] at hm hj
    obtain rfl : m = 1 := by simp at hm; omega
    obtain ⟨j, j1, j2, hj⟩ := hj
    unfold point pt
    rw [hc]
    have jj : j = 1 := by omega
    rcases jj with rfl <;> simp [In5, lo5, hi5] at hj <;> rw [if_neg (by omega), if_neg (by omega), if_neg (by omega), if_neg (by omega)]
  by_cases r3 : c ≤ 224
  · have e := mr_3 c (by omega) (by omega)
    rw [e] at hm hj
    obtain rfl : m = 2 := by simp at hm; omega
    obtain ⟨j, j1, j2, hj⟩ := hj
    unfold point pt
    rw [hc]
    have jj : j = 1 ∨ j = 2 := by omega
    rcases jj with rfl | rfl <;> simp [In5, lo5, hi5] at hj <;> rw [if_neg (by omega), if_neg (by omega), if_neg (by omega), if_neg (by omega)]
  by_cases r4 : c ≤ 236
  · have e := mr_4 c (by omega) (by omega)
    rw [e] at hm hj
    obtain rfl : m = 2 := by simp at hm; omega
    obtain ⟨j, j1, j2, hj⟩ := hj
    unfold point pt
    rw [hc]
    have jj : j = 1 ∨ j = 2 := by omega
    rcases jj with rfl | rfl <;> simp [In5, lo5, hi5] at hj <;> rw [if_neg (by omega), if_neg (by omega), if_neg (by omega), if_neg (by omega)]
  by_cases r5 : c ≤ 237
  · have e := mr_5 c (by omega) (by omega)
    rw [e] at hm hj
    obtain rfl : m = 2 := by simp at hm; omega
    obtain ⟨j, j1, j2, hj⟩ := hj
    unfold point pt
    rw [hc]
    have jj : j = 1 ∨ j = 2 := by omega
    rcases jj with rfl | rfl <;> simp [In5, lo5, hi5] at hj <;> rw [if_neg (by omega), if_neg (by omega), if_neg (by omega), if_neg (by omega)]
  by_cases r6 : c ≤ 239
  · have e := mr_6 c (by omega) (by omega)
    rw [e] at hm hj
    obtain rfl : m = 2 := by simp at hm; omega
    obtain ⟨j, j1, j2, hj⟩ := hj
    unfold point pt
    rw [hc]
    have jj : j = 1 ∨ j = 2 := by omega
    rcases jj with rfl | rfl <;> simp [In5, lo5, hi5] at hj <;> rw [if_neg (by omega), if_neg (by omega), if_neg (by omega), if_neg (by omega)]
  by_cases r7 : c ≤ 240
  · have e := mr_7 c (by omega) (by omega)
    rw [e] at hm hj
    obtain rfl : m = 3 := by simp at hm; omega
    obtain ⟨j, j1, j2, hj⟩ := hj
    unfold point pt
    rw [hc]
    have jj : j = 1 ∨ j = 2 ∨ j = 3 := by omega
    rcases jj with rfl | rfl | rfl <;> simp [In5, lo5, hi5] at hj <;> rw [if_neg (by omega), if_neg (by omega), if_neg (by omega), if_neg (by omega)]
  by_cases r8 : c ≤ 243
  · have e := mr_8 c (by omega) (by omega)
    rw [e] at hm hj
    obtain rfl : m = 3 := by simp at hm; omega
    obtain ⟨j, j1, j2, hj⟩ := hj
    unfold point pt
    rw [hc]
    have jj : j = 1 ∨ j = 2 ∨ j = 3 := by omega
    rcases jj with rfl | rfl | rfl <;> simp [In5, lo5, hi5] at hj <;> rw [if_neg (by omega), if_neg (by omega), if_neg (by omega), if_neg (by omega)]
  by_cases r9 : c ≤ 244
  · have e := mr_9 c (by omega) (by omega)
    rw [e] at hm hj
    obtain rfl : m = 3 := by simp at hm; omega
    obtain ⟨j, j1, j2, hj⟩ := hj
    unfold point pt
    rw [hc]
    have jj : j = 1 ∨ j = 2 ∨ j = 3 := by omega
    rcases jj with rfl | rfl | rfl <;> simp [In5, lo5, hi5] at hj <;> rw [if_neg (by omega), if_neg (by omega), if_neg (by omega), if_neg (by omega)]
  have e := mr_10 c (by omega) (by omega)
  rw [e] at hm hj
  exfalso; revert hm; simp; try omega
end Go.Proofs.Ytepjcfhbbcaldaa
namespace Go.Proofs.Ytepjcfhbbcaldaa
open Go Go.RowKit
set_option linter.unusedSimpArgs false
set_option linter.unusedVariables false


end Go.Proofs.Ytepjcfhbbcaldaa
