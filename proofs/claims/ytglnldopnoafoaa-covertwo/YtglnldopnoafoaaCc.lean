import Derived.Test.YtglnldopnoafoaaLa
import Derived.BigQuiet
import Derived.Deep.QuietTactic
import Derived.Deep.LoopGhost
namespace Go.Proofs.Ytglnldopnoafoaa
open Go Go.RowKit
set_option linter.unusedSimpArgs false
set_option linter.unusedVariables false

/-- A slice of texts, as it lies in memory. -/
def Row (w : World) (v : Value) (xs : List ByteArray) : Prop :=
  ∃ a n cap, v = .slice a n cap ∧ n = xs.length ∧ n ≤ cap ∧ (xs ≠ [] → ∃ g o, a = some ⟨g, o, none⟩ ∧ g < w.heap.size ∧ ∀ k x, xs[k]? = some x → w.cell? ⟨g, o + k, none⟩ = some (.string x))
theorem Row.later {w w' : World} {v : Value} {xs : List ByteArray} (h : Row w v xs) (hb : Below w.heap.size w w') : Row w' v xs := by
  obtain ⟨a, n, cap, rfl, hn, hc, hx⟩ := h
  refine ⟨a, n, cap, rfl, hn, hc, fun hne => ?_⟩
  obtain ⟨g, o, rfl, hg, hk⟩ := hx hne
  exact ⟨g, o, rfl, Nat.lt_of_lt_of_le hg hb.size, fun k x hk' => by rw [hb.cell (by exact hg)]; exact hk k x hk'⟩
theorem Row.drew {w : World} {v : Value} {xs : List ByteArray} (h : Row w v xs) (n : Nat) : Row (w.drewN n) v xs := h.later (below_drewN (Below.refl _ _) n)
theorem Row.cons {w : World} {v : Value} {x : ByteArray} {xs : List ByteArray} (h : Row w v (x :: xs)) : ∃ g o n cap, v = .slice (some ⟨g, o, none⟩) n cap ∧ n = xs.length + 1 ∧ n ≤ cap ∧ g < w.heap.size ∧ w.cell? ⟨g, o, none⟩ = some (.string x) ∧ ∀ k y, xs[k]? = some y → w.cell? ⟨g, o + (k + 1), none⟩ = some (.string y) := by
  obtain ⟨a, n, cap, rfl, hn, hc, hx⟩ := h
  obtain ⟨g, o, rfl, hg, hk⟩ := hx (by simp)
  exact ⟨g, o, n, cap, rfl, hn, hc, hg, hk 0 x rfl, fun k y h => hk (k + 1) y (by simpa using h)⟩
theorem Row.nil {w : World} {v : Value} (h : Row w v []) : ∃ a cap, v = .slice a 0 cap := by
  obtain ⟨a, n, cap, rfl, hn, hc, hx⟩ := h
  subst hn
  exact ⟨a, cap, rfl⟩
/-- Do a filter's levels match a topic's? -/
def mt : List Bs → List Bs → Bool
  | [], t => t.isEmpty
  | f :: fs, t => if f = [35] then true else
    match t with
    | [] => false
    | x :: xs => if f ≠ [43] ∧ f ≠ x then false else mt fs xs
theorem un_list (s : ByteArray) : s.toList = unB s := Lib.toList_data s
theorem eq_two (s t : ByteArray) : (s.toList == t.toList) = decide (unB s = unB t) := by
  rw [un_list, un_list]; by_cases h : unB s = unB t <;> simp [h]
theorem eq_one (s : ByteArray) (c : UInt8) : (s.toList == (⟨#[c]⟩ : ByteArray).toList) = decide (unB s = [c]) := eq_two s ⟨#[c]⟩
theorem eq_one' (s : ByteArray) (c : UInt8) : (s.toList == [c]) = decide (unB s = [c]) := by
  rw [← eq_one, un_list ⟨#[c]⟩]; rfl
abbrev MatchesOk (fs ts : List ByteArray) : Prop := ∀ (vf vt : Value) (w : World), Row w vf fs → Row w vt ts → Calls Try.prog 37 #[vf, vt] w fun e w' => e = .returned (.bool (mt (fs.map unB) (ts.map unB))) ∧ ∃ k, w' = w.drewN k

theorem matches_nil (ts : List ByteArray) : MatchesOk [] ts := by
  intro vf vt w Rf Rt
  obtain ⟨a, cap, rfl⟩ := Rf.nil
  obtain ⟨a2, n2, cap2, rfl, hn, _, _⟩ := Rt
  have e : mt (([] : List ByteArray).map unB) (ts.map unB) = ((n2 : Int) == 0) := by
    rw [hn]; cases ts with
    | nil => rfl
    | cons a b => simp [mt]; omega
  rw [e]
  clear Rf hn e
  go_enter Try.func37, Try.ntmps37
  go_wp2_with fail
  go_ret
  exact ⟨rfl, 0, rfl⟩
theorem matches_hash (f : ByteArray) (fs ts : List ByteArray) (hf : unB f = [35]) : MatchesOk (f :: fs) ts := by
  intro vf vt w Rf Rt
  have e : mt ((f :: fs).map unB) (ts.map unB) = true := by simp [mt, hf]
  rw [e]
  obtain ⟨g, o, n1, cap, rfl, hn1, hc1, hg1, c1, hk1⟩ := Rf.cons
  have hN1 : Hid (n1 = fs.length + 1 ∧ n1 ≤ cap) := ⟨hn1, hc1⟩
  have e0 : ((n1 : Int) == 0) = false := by rw [beq_eq_false_iff_ne]; omega
  have p0 : (0 : Int) < (n1 : Int) := by omega
  have p0' : (1 : Int) ≤ (n1 : Int) := by omega
  have q1 : (f.toList == (⟨#[35]⟩ : ByteArray).toList) = true := by rw [eq_one]; exact decide_eq_true hf
  have q1' : (f.toList == [35]) = true := by rw [eq_one']; exact decide_eq_true hf
  clear e hk1 Rf Rt hn1
  go_enter Try.func37, Try.ntmps37
  go_wp2_with fail
  go_ret
  exact ⟨rfl, 0, rfl⟩
theorem matches_short (f : ByteArray) (fs : List ByteArray) (hf : ¬ unB f = [35]) : MatchesOk (f :: fs) [] := by
  intro vf vt w Rf Rt
  have e : mt ((f :: fs).map unB) (([] : List ByteArray).map unB) = false := by simp [mt, hf]
  rw [e]
  obtain ⟨a2, cap2, rfl⟩ := Rt.nil
  obtain ⟨g, o, n1, cap, rfl, hn1, hc1, hg1, c1, hk1⟩ := Rf.cons
  have hN1 : Hid (n1 = fs.length + 1 ∧ n1 ≤ cap) := ⟨hn1, hc1⟩
  have e0 : ((n1 : Int) == 0) = false := by rw [beq_eq_false_iff_ne]; omega
  have p0 : (0 : Int) < (n1 : Int) := by omega
  have p0' : (1 : Int) ≤ (n1 : Int) := by omega
  have q1 : (f.toList == (⟨#[35]⟩ : ByteArray).toList) = false := by rw [eq_one]; exact decide_eq_false hf
  have q1' : (f.toList == [35]) = false := by rw [eq_one']; exact decide_eq_false hf
  clear e hk1 Rf Rt hn1
  go_enter Try.func37, Try.ntmps37
  go_wp2_with fail
  go_ret
  exact ⟨rfl, 0, rfl⟩
set_option maxRecDepth 100000 in
set_option maxHeartbeats 1000000 in
theorem matches_unlike (f t : ByteArray) (fs ts : List ByteArray) (hf : ¬ unB f = [35]) (h43 : ¬ unB f = [43]) (hne : ¬ unB f = unB t) : MatchesOk (f :: fs) (t :: ts) := by
  intro vf vt w Rf Rt
  have e : mt ((f :: fs).map unB) ((t :: ts).map unB) = false := by simp [mt, hf, h43, hne]
  rw [e]
  obtain ⟨g, o, n1, cap, rfl, hn1, hc1, hg1, c1, hk1⟩ := Rf.cons
  have hN1 : Hid (n1 = fs.length + 1 ∧ n1 ≤ cap) := ⟨hn1, hc1⟩
  have e0 : ((n1 : Int) == 0) = false := by rw [beq_eq_false_iff_ne]; omega
  have p0 : (0 : Int) < (n1 : Int) := by omega
  have p0' : (1 : Int) ≤ (n1 : Int) := by omega
  obtain ⟨g2, o2, n2, cap2, rfl, hn2, hc2, hg2, c2, hk2⟩ := Rt.cons
  have hN2 : Hid (n2 = ts.length + 1 ∧ n2 ≤ cap2) := ⟨hn2, hc2⟩
  have e1 : ((n2 : Int) == 0) = false := by rw [beq_eq_false_iff_ne]; omega
  have p1 : (0 : Int) < (n2 : Int) := by omega
  have p1' : (1 : Int) ≤ (n2 : Int) := by omega
  have q1 : (f.toList == (⟨#[35]⟩ : ByteArray).toList) = false := by rw [eq_one]; exact decide_eq_false hf
  have q1' : (f.toList == [35]) = false := by rw [eq_one']; exact decide_eq_false hf
  have q2 : (f.toList == (⟨#[43]⟩ : ByteArray).toList) = false := by rw [eq_one]; exact decide_eq_false h43
  have q2' : (f.toList == [43]) = false := by rw [eq_one']; exact decide_eq_false h43
  have q3 : (f.toList == t.toList) = false := by rw [eq_two]; exact decide_eq_false hne
  clear e hk1 hk2 Rf Rt hf h43 hne hn1 hn2
  go_enter Try.func37, Try.ntmps37
  go_wp2_with fail
  go_quiet (fail)
  go_wp2_with fail
  go_ret
  exact ⟨rfl, _, rfl⟩
theorem Row.tail {w : World} {g o n cap : Nat} {xs : List ByteArray} (hn : n = xs.length + 1) (hc : n ≤ cap) (hg : g < w.heap.size) (hk : ∀ k y, xs[k]? = some y → w.cell? ⟨g, o + (k + 1), none⟩ = some (.string y)) (a : Option Addr) (ha : xs ≠ [] → a = some ⟨g, o + 1, none⟩) : Row w (.slice a (n - 1) (cap - 1)) xs :=
  ⟨a, n - 1, cap - 1, rfl, by omega, by omega, fun hne => ⟨g, o + 1, ha hne, hg, fun k x h => by have := hk k x h; rw [show o + 1 + k = o + (k + 1) by omega]; exact this⟩⟩
set_option maxRecDepth 100000 in
set_option maxHeartbeats 1000000 in
theorem matches_plus (f t : ByteArray) (fs ts : List ByteArray) (hf : ¬ unB f = [35]) (h43 : unB f = [43]) (ih : MatchesOk fs ts) : MatchesOk (f :: fs) (t :: ts) := by
  intro vf vt w Rf Rt
  have e : mt ((f :: fs).map unB) ((t :: ts).map unB) = mt (fs.map unB) (ts.map unB) := by simp only [List.map_cons, mt, if_neg hf]; rw [if_neg]; exact fun h => h.1 h43
  rw [e]
  obtain ⟨g, o, n1, cap, rfl, hn1, hc1, hg1, c1, hk1⟩ := Rf.cons
  have hN1 : Hid (n1 = fs.length + 1 ∧ n1 ≤ cap) := ⟨hn1, hc1⟩
  have e0 : ((n1 : Int) == 0) = false := by rw [beq_eq_false_iff_ne]; omega
  have p0 : (0 : Int) < (n1 : Int) := by omega
  have p0' : (1 : Int) ≤ (n1 : Int) := by omega
  obtain ⟨g2, o2, n2, cap2, rfl, hn2, hc2, hg2, c2, hk2⟩ := Rt.cons
  have hN2 : Hid (n2 = ts.length + 1 ∧ n2 ≤ cap2) := ⟨hn2, hc2⟩
  have e1 : ((n2 : Int) == 0) = false := by rw [beq_eq_false_iff_ne]; omega
  have p1 : (0 : Int) < (n2 : Int) := by omega
  have p1' : (1 : Int) ≤ (n2 : Int) := by omega
  have q1 : (f.toList == (⟨#[35]⟩ : ByteArray).toList) = false := by rw [eq_one]; exact decide_eq_false hf
  have q1' : (f.toList == [35]) = false := by rw [eq_one']; exact decide_eq_false hf
  have q2 : (f.toList == (⟨#[43]⟩ : ByteArray).toList) = true := by rw [eq_one]; exact decide_eq_true h43
  have q2' : (f.toList == [43]) = true := by rw [eq_one']; exact decide_eq_true h43
  obtain ⟨x, hx⟩ : ∃ x, x = mt (fs.map unB) (ts.map unB) := ⟨_, rfl⟩
  have IH : Hid (∀ (a1 a2 : Option Addr), (fs ≠ [] → a1 = some ⟨g, o + 1, none⟩) → (ts ≠ [] → a2 = some ⟨g2, o2 + 1, none⟩) → ∀ k, Calls Try.prog 37 #[.slice a1 (n1 - 1) (cap - 1), .slice a2 (n2 - 1) (cap2 - 1)] (w.drewN k) fun e w' => e = .returned (.bool x) ∧ ∃ m, w' = (w.drewN k).drewN m) := fun a1 a2 h1 h2 k => by
    rw [hx]
    exact ih _ _ _ (Row.drew (Row.tail hn1 hc1 hg1 hk1 a1 h1) k) (Row.drew (Row.tail hn2 hc2 hg2 hk2 a2 h2) k)
  have H1 : Hid (n1 = fs.length + 1 ∧ n2 = ts.length + 1 ∧ n1 ≤ cap ∧ n2 ≤ cap2) := ⟨hn1, hn2, hc1, hc2⟩
  rw [← hx]
  clear e hk1 hk2 Rf Rt hf h43 hx ih hn1 hn2
  go_enter Try.func37, Try.ntmps37
  go_wp2_with fail
  go_quiet (fail)
  have IH2 : Hid (∀ k, Calls Try.prog 37 #[.slice (if cap = 1 then some ⟨g, o, none⟩ else some ⟨g, o + 1, none⟩) (n1 - 1) (cap - 1), .slice (if cap2 = 1 then some ⟨g2, o2, none⟩ else some ⟨g2, o2 + 1, none⟩) (n2 - 1) (cap2 - 1)] ((w.drewN nq).drewN k) fun e w' => e = .returned (.bool x) ∧ ∃ m, w' = ((w.drewN nq).drewN k).drewN m) := fun k => by
    rw [World.drewN_drewN]; exact IH.out _ _ (fun hne => by
      have h1 := H1.out; have h2 := List.length_pos_iff.2 hne
      rw [if_neg (by omega)]) (fun hne => by
      have h1 := H1.out; have h2 := List.length_pos_iff.2 hne
      rw [if_neg (by omega)]) (nq + k)
  obtain ⟨w1, hw1⟩ : ∃ w1, w1 = w.drewN nq := ⟨_, rfl⟩
  rw [← hw1] at IH2 ⊢
  obtain ⟨m1, HW1⟩ : ∃ m1, Hid (w1 = w.drewN m1) := ⟨nq, hw1⟩
  clear hw1 IH
  go_wp2_with fail
  go_quiet ((go_at_call 37; exact Calls.quiet_of (IH2.out _)))
  go_wp2_with fail
  all_goals go_ret
  all_goals exact ⟨rfl, m1 + nq, by rw [HW1.out, World.drewN_drewN]⟩
set_option maxRecDepth 100000 in
set_option maxHeartbeats 1000000 in
theorem matches_same (f t : ByteArray) (fs ts : List ByteArray) (hf : ¬ unB f = [35]) (h43 : ¬ unB f = [43]) (hne : unB f = unB t) (ih : MatchesOk fs ts) : MatchesOk (f :: fs) (t :: ts) := by
  intro vf vt w Rf Rt
  have e : mt ((f :: fs).map unB) ((t :: ts).map unB) = mt (fs.map unB) (ts.map unB) := by simp only [List.map_cons, mt, if_neg hf]; rw [if_neg]; exact fun h => h.2 hne
  rw [e]
  obtain ⟨g, o, n1, cap, rfl, hn1, hc1, hg1, c1, hk1⟩ := Rf.cons
  have hN1 : Hid (n1 = fs.length + 1 ∧ n1 ≤ cap) := ⟨hn1, hc1⟩
  have e0 : ((n1 : Int) == 0) = false := by rw [beq_eq_false_iff_ne]; omega
  have p0 : (0 : Int) < (n1 : Int) := by omega
  have p0' : (1 : Int) ≤ (n1 : Int) := by omega
  obtain ⟨g2, o2, n2, cap2, rfl, hn2, hc2, hg2, c2, hk2⟩ := Rt.cons
  have hN2 : Hid (n2 = ts.length + 1 ∧ n2 ≤ cap2) := ⟨hn2, hc2⟩
  have e1 : ((n2 : Int) == 0) = false := by rw [beq_eq_false_iff_ne]; omega
  have p1 : (0 : Int) < (n2 : Int) := by omega
  have p1' : (1 : Int) ≤ (n2 : Int) := by omega
  have q1 : (f.toList == (⟨#[35]⟩ : ByteArray).toList) = false := by rw [eq_one]; exact decide_eq_false hf
  have q1' : (f.toList == [35]) = false := by rw [eq_one']; exact decide_eq_false hf
  have q2 : (f.toList == (⟨#[43]⟩ : ByteArray).toList) = false := by rw [eq_one]; exact decide_eq_false h43
  have q2' : (f.toList == [43]) = false := by rw [eq_one']; exact decide_eq_false h43
  have q3 : (f.toList == t.toList) = true := by rw [eq_two]; exact decide_eq_true hne
  clear hne
  obtain ⟨x, hx⟩ : ∃ x, x = mt (fs.map unB) (ts.map unB) := ⟨_, rfl⟩
  have IH : Hid (∀ (a1 a2 : Option Addr), (fs ≠ [] → a1 = some ⟨g, o + 1, none⟩) → (ts ≠ [] → a2 = some ⟨g2, o2 + 1, none⟩) → ∀ k, Calls Try.prog 37 #[.slice a1 (n1 - 1) (cap - 1), .slice a2 (n2 - 1) (cap2 - 1)] (w.drewN k) fun e w' => e = .returned (.bool x) ∧ ∃ m, w' = (w.drewN k).drewN m) := fun a1 a2 h1 h2 k => by
    rw [hx]
    exact ih _ _ _ (Row.drew (Row.tail hn1 hc1 hg1 hk1 a1 h1) k) (Row.drew (Row.tail hn2 hc2 hg2 hk2 a2 h2) k)
  have H1 : Hid (n1 = fs.length + 1 ∧ n2 = ts.length + 1 ∧ n1 ≤ cap ∧ n2 ≤ cap2) := ⟨hn1, hn2, hc1, hc2⟩
  rw [← hx]
  clear e hk1 hk2 Rf Rt hf h43 hx ih hn1 hn2
  go_enter Try.func37, Try.ntmps37
  go_wp2_with fail
  go_quiet (fail)
  have IH2 : Hid (∀ k, Calls Try.prog 37 #[.slice (if cap = 1 then some ⟨g, o, none⟩ else some ⟨g, o + 1, none⟩) (n1 - 1) (cap - 1), .slice (if cap2 = 1 then some ⟨g2, o2, none⟩ else some ⟨g2, o2 + 1, none⟩) (n2 - 1) (cap2 - 1)] ((w.drewN nq).drewN k) fun e w' => e = .returned (.bool x) ∧ ∃ m, w' = ((w.drewN nq).drewN k).drewN m) := fun k => by
    rw [World.drewN_drewN]; exact IH.out _ _ (fun hne => by
      have h1 := H1.out; have h2 := List.length_pos_iff.2 hne
      rw [if_neg (by omega)]) (fun hne => by
      have h1 := H1.out; have h2 := List.length_pos_iff.2 hne
      rw [if_neg (by omega)]) (nq + k)
  obtain ⟨w1, hw1⟩ : ∃ w1, w1 = w.drewN nq := ⟨_, rfl⟩
  rw [← hw1] at IH2 ⊢
  obtain ⟨m1, HW1⟩ : ∃ m1, Hid (w1 = w.drewN m1) := ⟨nq, hw1⟩
  clear hw1 IH
  go_wp2_with fail
  go_quiet ((go_at_call 37; exact Calls.quiet_of (IH2.out _)))
  go_wp2_with fail
  all_goals go_ret
  all_goals exact ⟨rfl, m1 + nq, by rw [HW1.out, World.drewN_drewN]⟩

theorem matches_any : ∀ (fs ts : List ByteArray), MatchesOk fs ts
  | [], ts => matches_nil ts
  | f :: fs, ts => by
    by_cases hf : unB f = [35]
    · exact matches_hash f fs ts hf
    · cases ts with
      | nil => exact matches_short f fs hf
      | cons t ts =>
        by_cases h43 : unB f = [43]
        · exact matches_plus f t fs ts hf h43 (matches_any fs ts)
        · by_cases hne : unB f = unB t
          · exact matches_same f t fs ts hf h43 hne (matches_any fs ts)
          · exact matches_unlike f t fs ts hf h43 hne
end Go.Proofs.Ytglnldopnoafoaa
