import Derived.Test.YtmdlplaadelaoaaCh
namespace Go.Proofs.Ytmdlplaadelaoaa
open Go Go.RowKit
set_option linter.unusedSimpArgs false
set_option linter.unusedVariables false

theorem un_append (a b : ByteArray) : unB (a ++ b) = unB a ++ unB b := by
  show (a ++ b).data.toList = _
  simp [unB]
/-- a, a slash, b. -/
theorem un_slash (a b : ByteArray) : unB (a ++ ⟨#[47]⟩ ++ b) = unB a ++ 47 :: unB b := by
  rw [un_append, un_append]
  show unB a ++ [47] ++ unB b = _
  simp
theorem size_slash (a b : ByteArray) : (a ++ ⟨#[47]⟩ ++ b).size = a.size + 1 + b.size := by
  rw [← un_size, un_slash, List.length_append, List.length_cons, un_size, un_size]; omega
theorem levels_slash (a b : ByteArray) : levels (a ++ ⟨#[47]⟩ ++ b) = levels a ++ levels b := by
  rw [levels_mk, un_slash, split_append, List.map_append, ← levels_mk, ← levels_mk]
theorem order_big (a b c : ByteArray) (w : World) (h : 200000 < a.size ∨ 200000 < b.size ∨ 200000 < c.size) : Calls Try.prog 4 #[.string a, .string b, .string c] w fun e w' => e = .returned (.bool true) ∧ Below w.heap.size w w' := by
  by_cases i1 : 200000 < a.size
  · have i1' : (200000 : Int) < a.size := by omega
    go_enter Try.func4, Try.ntmps4
    go_wp2_with fail
    go_ret
    exact ⟨rfl, Below.refl _ _⟩
  have i1' : ¬ (200000 : Int) < a.size := by omega
  by_cases i2 : 200000 < b.size
  · have i2' : (200000 : Int) < b.size := by omega
    go_enter Try.func4, Try.ntmps4
    go_wp2_with fail
    go_ret
    exact ⟨rfl, Below.refl _ _⟩
  have i2' : ¬ (200000 : Int) < b.size := by omega
  have i3' : (200000 : Int) < c.size := by omega
  go_enter Try.func4, Try.ntmps4
  go_wp2_with fail
  go_ret
  exact ⟨rfl, Below.refl _ _⟩

set_option maxRecDepth 100000 in
set_option maxHeartbeats 4000000 in
theorem order_one (a b c : ByteArray) (w : World) (ha : a.size ≤ 200000) (hb : b.size ≤ 200000) (hc : c.size ≤ 200000) (y z u : Int) (hx : cmpL (unB a) (unB b) = 1) (hy : cmpL (unB b) (unB c) = y) (hz : cmpL (unB a) (unB c) = z) (hba : cmpL (unB b) (unB a) = -1)  : Calls Try.prog 4 #[.string a, .string b, .string c] w fun e w' => e = .returned (.bool true) ∧ Below w.heap.size w w' := by
  have HS : Hid (a.size ≤ 200000 ∧ b.size ≤ 200000 ∧ c.size ≤ 200000) := ⟨ha, hb, hc⟩
  have HD : Hid (∀ d, (d = a ++ ⟨#[47]⟩ ++ b) → d.size ≤ 1000000) := fun d e => by rw [e, size_slash]; omega
  have i1 : ¬ (200000 : Int) < a.size := by omega
  have i2 : ¬ (200000 : Int) < b.size := by omega
  have i3 : ¬ (200000 : Int) < c.size := by omega
  have had : cmpL (unB a) (unB (a ++ ⟨#[47]⟩ ++ b)) = -1 := by rw [un_slash]; exact cmpL_longer _ _
  have q1 : (a.toList == b.toList) = false := by
    rw [eq_two]; exact decide_eq_false (fun h => by rw [(cmpL_zero _ _).2 h] at hx; cases hx)
  have B : Hid (Below w.heap.size w w) := Below.refl _ _
  obtain ⟨w0, hw0⟩ : ∃ w0, w0 = w := ⟨_, rfl⟩
  rw [← hw0] at B
  rw [← hw0]
  have B : Hid (Below w0.heap.size w0 w0) := Below.refl _ _
  clear hw0 ha hb hc
  go_enter Try.func4, Try.ntmps4
  go_wp2_with (first
    | (go_at_call 11; refine (known_any _).mono ?_; rintro e w' ⟨rfl, hb⟩; replace B : Hid (Below w0.heap.size w0 w') := B.out.trans (hb.mono B.out.size); clear hb)
    | (go_at_call 7; refine (compare_any _ _ (by first | exact Nat.le_trans HS.out.1 (by decide) | exact Nat.le_trans HS.out.2.1 (by decide) | exact Nat.le_trans HS.out.2.2 (by decide) | exact HD.out _ rfl) (by first | exact Nat.le_trans HS.out.1 (by decide) | exact Nat.le_trans HS.out.2.1 (by decide) | exact Nat.le_trans HS.out.2.2 (by decide) | exact HD.out _ rfl) _).mono ?_; rintro e w' ⟨rfl, hb⟩; replace B : Hid (Below w0.heap.size w0 w') := B.out.trans (hb.mono B.out.size); clear hb; first | rw [hx] | rw [hy] | rw [hz] | rw [hba] | rw [had]))
  go_ret
  exact ⟨rfl, B.out⟩

set_option maxRecDepth 100000 in
set_option maxHeartbeats 4000000 in
theorem order_zero1 (a b c : ByteArray) (w : World) (ha : a.size ≤ 200000) (hb : b.size ≤ 200000) (hc : c.size ≤ 200000) (y z u : Int) (hx : cmpL (unB a) (unB b) = 0) (hy : cmpL (unB b) (unB c) = y) (hz : cmpL (unB a) (unB c) = z) (hba : cmpL (unB b) (unB a) = 0) (y0 : y ≤ 0) (z0 : ¬ 0 < z) : Calls Try.prog 4 #[.string a, .string b, .string c] w fun e w' => e = .returned (.bool true) ∧ Below w.heap.size w w' := by
  have HS : Hid (a.size ≤ 200000 ∧ b.size ≤ 200000 ∧ c.size ≤ 200000) := ⟨ha, hb, hc⟩
  have HD : Hid (∀ d, (d = a ++ ⟨#[47]⟩ ++ b) → d.size ≤ 1000000) := fun d e => by rw [e, size_slash]; omega
  have i1 : ¬ (200000 : Int) < a.size := by omega
  have i2 : ¬ (200000 : Int) < b.size := by omega
  have i3 : ¬ (200000 : Int) < c.size := by omega
  have had : cmpL (unB a) (unB (a ++ ⟨#[47]⟩ ++ b)) = -1 := by rw [un_slash]; exact cmpL_longer _ _
  have q1 : (a.toList == b.toList) = true := by rw [eq_two, (cmpL_zero _ _).1 hx]; simp
  have B : Hid (Below w.heap.size w w) := Below.refl _ _
  obtain ⟨w0, hw0⟩ : ∃ w0, w0 = w := ⟨_, rfl⟩
  rw [← hw0] at B
  rw [← hw0]
  have B : Hid (Below w0.heap.size w0 w0) := Below.refl _ _
  clear hw0 ha hb hc
  go_enter Try.func4, Try.ntmps4
  go_wp2_with (first
    | (go_at_call 11; refine (known_any _).mono ?_; rintro e w' ⟨rfl, hb⟩; replace B : Hid (Below w0.heap.size w0 w') := B.out.trans (hb.mono B.out.size); clear hb)
    | (go_at_call 7; refine (compare_any _ _ (by first | exact Nat.le_trans HS.out.1 (by decide) | exact Nat.le_trans HS.out.2.1 (by decide) | exact Nat.le_trans HS.out.2.2 (by decide) | exact HD.out _ rfl) (by first | exact Nat.le_trans HS.out.1 (by decide) | exact Nat.le_trans HS.out.2.1 (by decide) | exact Nat.le_trans HS.out.2.2 (by decide) | exact HD.out _ rfl) _).mono ?_; rintro e w' ⟨rfl, hb⟩; replace B : Hid (Below w0.heap.size w0 w') := B.out.trans (hb.mono B.out.size); clear hb; first | rw [hx] | rw [hy] | rw [hz] | rw [hba] | rw [had]))
  go_ret
  exact ⟨rfl, B.out⟩

set_option maxRecDepth 100000 in
set_option maxHeartbeats 4000000 in
theorem order_less10 (a b c : ByteArray) (w : World) (ha : a.size ≤ 200000) (hb : b.size ≤ 200000) (hc : c.size ≤ 200000) (y z u : Int) (hx : cmpL (unB a) (unB b) = -1) (hy : cmpL (unB b) (unB c) = y) (hz : cmpL (unB a) (unB c) = z) (hba : cmpL (unB b) (unB a) = 1) (y0 : y ≤ 0) (z0 : ¬ 0 < z) (hu : cmpL (unB b) (unB (a ++ ⟨#[47]⟩ ++ b)) = 0) : Calls Try.prog 4 #[.string a, .string b, .string c] w fun e w' => e = .returned (.bool true) ∧ Below w.heap.size w w' := by
  have HS : Hid (a.size ≤ 200000 ∧ b.size ≤ 200000 ∧ c.size ≤ 200000) := ⟨ha, hb, hc⟩
  have HD : Hid (∀ d, (d = a ++ ⟨#[47]⟩ ++ b) → d.size ≤ 1000000) := fun d e => by rw [e, size_slash]; omega
  have i1 : ¬ (200000 : Int) < a.size := by omega
  have i2 : ¬ (200000 : Int) < b.size := by omega
  have i3 : ¬ (200000 : Int) < c.size := by omega
  have had : cmpL (unB a) (unB (a ++ ⟨#[47]⟩ ++ b)) = -1 := by rw [un_slash]; exact cmpL_longer _ _
  have q1 : (a.toList == b.toList) = false := by
    rw [eq_two]; exact decide_eq_false (fun h => by rw [(cmpL_zero _ _).2 h] at hx; cases hx)
  have hbd : cmpL (unB b) (unB (a ++ ⟨#[47]⟩ ++ b)) = 0 := hu
  have B : Hid (Below w.heap.size w w) := Below.refl _ _
  obtain ⟨w0, hw0⟩ : ∃ w0, w0 = w := ⟨_, rfl⟩
  rw [← hw0] at B
  rw [← hw0]
  have B : Hid (Below w0.heap.size w0 w0) := Below.refl _ _
  clear hw0 ha hb hc
  go_enter Try.func4, Try.ntmps4
  go_wp2_with (first
    | (go_at_call 11; refine (known_any _).mono ?_; rintro e w' ⟨rfl, hb⟩; replace B : Hid (Below w0.heap.size w0 w') := B.out.trans (hb.mono B.out.size); clear hb)
    | (go_at_call 7; refine (compare_any _ _ (by first | exact Nat.le_trans HS.out.1 (by decide) | exact Nat.le_trans HS.out.2.1 (by decide) | exact Nat.le_trans HS.out.2.2 (by decide) | exact HD.out _ rfl) (by first | exact Nat.le_trans HS.out.1 (by decide) | exact Nat.le_trans HS.out.2.1 (by decide) | exact Nat.le_trans HS.out.2.2 (by decide) | exact HD.out _ rfl) _).mono ?_; rintro e w' ⟨rfl, hb⟩; replace B : Hid (Below w0.heap.size w0 w') := B.out.trans (hb.mono B.out.size); clear hb; first | rw [hx] | rw [hy] | rw [hz] | rw [hba] | rw [had] | rw [hbd]))
  go_ret
  exact ⟨rfl, B.out⟩

set_option maxRecDepth 100000 in
set_option maxHeartbeats 4000000 in
theorem order_less11 (a b c : ByteArray) (w : World) (ha : a.size ≤ 200000) (hb : b.size ≤ 200000) (hc : c.size ≤ 200000) (y z u : Int) (hx : cmpL (unB a) (unB b) = -1) (hy : cmpL (unB b) (unB c) = y) (hz : cmpL (unB a) (unB c) = z) (hba : cmpL (unB b) (unB a) = 1) (y0 : y ≤ 0) (z0 : ¬ 0 < z) (hu : cmpL (unB b) (unB (a ++ ⟨#[47]⟩ ++ b)) = 1) : Calls Try.prog 4 #[.string a, .string b, .string c] w fun e w' => e = .returned (.bool true) ∧ Below w.heap.size w w' := by
  have HS : Hid (a.size ≤ 200000 ∧ b.size ≤ 200000 ∧ c.size ≤ 200000) := ⟨ha, hb, hc⟩
  have HD : Hid (∀ d, (d = a ++ ⟨#[47]⟩ ++ b) → d.size ≤ 1000000) := fun d e => by rw [e, size_slash]; omega
  have i1 : ¬ (200000 : Int) < a.size := by omega
  have i2 : ¬ (200000 : Int) < b.size := by omega
  have i3 : ¬ (200000 : Int) < c.size := by omega
  have had : cmpL (unB a) (unB (a ++ ⟨#[47]⟩ ++ b)) = -1 := by rw [un_slash]; exact cmpL_longer _ _
  have q1 : (a.toList == b.toList) = false := by
    rw [eq_two]; exact decide_eq_false (fun h => by rw [(cmpL_zero _ _).2 h] at hx; cases hx)
  have hbd : cmpL (unB b) (unB (a ++ ⟨#[47]⟩ ++ b)) = 1 := hu
  have B : Hid (Below w.heap.size w w) := Below.refl _ _
  obtain ⟨w0, hw0⟩ : ∃ w0, w0 = w := ⟨_, rfl⟩
  rw [← hw0] at B
  rw [← hw0]
  have B : Hid (Below w0.heap.size w0 w0) := Below.refl _ _
  clear hw0 ha hb hc
  go_enter Try.func4, Try.ntmps4
  go_wp2_with (first
    | (go_at_call 11; refine (known_any _).mono ?_; rintro e w' ⟨rfl, hb⟩; replace B : Hid (Below w0.heap.size w0 w') := B.out.trans (hb.mono B.out.size); clear hb)
    | (go_at_call 7; refine (compare_any _ _ (by first | exact Nat.le_trans HS.out.1 (by decide) | exact Nat.le_trans HS.out.2.1 (by decide) | exact Nat.le_trans HS.out.2.2 (by decide) | exact HD.out _ rfl) (by first | exact Nat.le_trans HS.out.1 (by decide) | exact Nat.le_trans HS.out.2.1 (by decide) | exact Nat.le_trans HS.out.2.2 (by decide) | exact HD.out _ rfl) _).mono ?_; rintro e w' ⟨rfl, hb⟩; replace B : Hid (Below w0.heap.size w0 w') := B.out.trans (hb.mono B.out.size); clear hb; first | rw [hx] | rw [hy] | rw [hz] | rw [hba] | rw [had] | rw [hbd]))
  go_ret
  exact ⟨rfl, B.out⟩

set_option maxRecDepth 100000 in
set_option maxHeartbeats 4000000 in
theorem order_below1 (a b c : ByteArray) (w : World) (ha : a.size ≤ 200000) (hb : b.size ≤ 200000) (hc : c.size ≤ 200000) (y z u : Int) (hx : cmpL (unB a) (unB b) = -1) (hy : cmpL (unB b) (unB c) = y) (hz : cmpL (unB a) (unB c) = z) (hba : cmpL (unB b) (unB a) = 1) (y0 : y ≤ 0) (z0 : ¬ 0 < z) (rs : List ByteArray) (hl : levels b = levels a ++ rs) (hu : cmpL (unB b) (unB (a ++ ⟨#[47]⟩ ++ b)) = -1) : Calls Try.prog 4 #[.string a, .string b, .string c] w fun e w' => e = .returned (.bool true) ∧ Below w.heap.size w w' := by
  have HS : Hid (a.size ≤ 200000 ∧ b.size ≤ 200000 ∧ c.size ≤ 200000) := ⟨ha, hb, hc⟩
  have HD : Hid (∀ d, (d = a ++ ⟨#[47]⟩ ++ b) → d.size ≤ 1000000) := fun d e => by rw [e, size_slash]; omega
  have i1 : ¬ (200000 : Int) < a.size := by omega
  have i2 : ¬ (200000 : Int) < b.size := by omega
  have i3 : ¬ (200000 : Int) < c.size := by omega
  have had : cmpL (unB a) (unB (a ++ ⟨#[47]⟩ ++ b)) = -1 := by rw [un_slash]; exact cmpL_longer _ _
  have q1 : (a.toList == b.toList) = false := by
    rw [eq_two]; exact decide_eq_false (fun h => by rw [(cmpL_zero _ _).2 h] at hx; cases hx)
  have HL : Hid (levels b = levels a ++ rs) := hl
  clear hl
  have hbd : cmpL (unB b) (unB (a ++ ⟨#[47]⟩ ++ b)) = -1 := hu
  have B : Hid (Below w.heap.size w w) := Below.refl _ _
  obtain ⟨w0, hw0⟩ : ∃ w0, w0 = w := ⟨_, rfl⟩
  rw [← hw0] at B
  rw [← hw0]
  have B : Hid (Below w0.heap.size w0 w0) := Below.refl _ _
  clear hw0 ha hb hc
  go_enter Try.func4, Try.ntmps4
  go_wp2_with (first
    | (go_at_call 11; refine (known_any _).mono ?_; rintro e w' ⟨rfl, hb⟩; replace B : Hid (Below w0.heap.size w0 w') := B.out.trans (hb.mono B.out.size); clear hb)
    | (go_at_call 7; refine (compare_any _ _ (by first | exact Nat.le_trans HS.out.1 (by decide) | exact Nat.le_trans HS.out.2.1 (by decide) | exact Nat.le_trans HS.out.2.2 (by decide) | exact HD.out _ rfl) (by first | exact Nat.le_trans HS.out.1 (by decide) | exact Nat.le_trans HS.out.2.1 (by decide) | exact Nat.le_trans HS.out.2.2 (by decide) | exact HD.out _ rfl) _).mono ?_; rintro e w' ⟨rfl, hb⟩; replace B : Hid (Below w0.heap.size w0 w') := B.out.trans (hb.mono B.out.size); clear hb; first | rw [hx] | rw [hy] | rw [hz] | rw [hba] | rw [had] | rw [hbd]))
  go_must (go_at_call 13)
  refine (tlevels_row b (by have := HS.out; omega) _).mono ?_
  rintro e w1 ⟨v1, rfl, hr, hb⟩
  have R1 : Hid (Row w1 v1 (levels b)) := hr
  replace B : Hid (Below w0.heap.size w0 w1) := B.out.trans (hb.mono B.out.size)
  clear hb hr
  go_wp2_with fail
  go_must (go_at_call 13)
  refine (tlevels_row a (by have := HS.out; omega) _).mono ?_
  rintro e w2 ⟨v2, rfl, hr, hb⟩
  have R2 : Hid (Row w2 v2 (levels a)) := hr
  have R3 : Hid (Row w2 v1 (levels a ++ rs)) := by show Row _ _ _; rw [← HL.out]; exact R1.out.later hb
  replace B : Hid (Below w0.heap.size w0 w2) := B.out.trans (hb.mono B.out.size)
  clear hb hr
  go_wp2_with fail
  go_must (go_at_call 12)
  refine (below_yes (levels a) rs v1 v2 _ R3.out R2.out (by have := levels_len a; have := HS.out; omega)).mono ?_
  rintro e w3 ⟨rfl, hb⟩
  replace B : Hid (Below w0.heap.size w0 w3) := B.out.trans (hb.mono B.out.size)
  clear hb
  go_wp2_with fail
  go_ret
  exact ⟨rfl, B.out⟩

set_option maxRecDepth 100000 in
set_option maxHeartbeats 4000000 in
theorem order_zero0 (a b c : ByteArray) (w : World) (ha : a.size ≤ 200000) (hb : b.size ≤ 200000) (hc : c.size ≤ 200000) (y z u : Int) (hx : cmpL (unB a) (unB b) = 0) (hy : cmpL (unB b) (unB c) = y) (hz : cmpL (unB a) (unB c) = z) (hba : cmpL (unB b) (unB a) = 0) (y0 : ¬ y ≤ 0) : Calls Try.prog 4 #[.string a, .string b, .string c] w fun e w' => e = .returned (.bool true) ∧ Below w.heap.size w w' := by
  have HS : Hid (a.size ≤ 200000 ∧ b.size ≤ 200000 ∧ c.size ≤ 200000) := ⟨ha, hb, hc⟩
  have HD : Hid (∀ d, (d = a ++ ⟨#[47]⟩ ++ b) → d.size ≤ 1000000) := fun d e => by rw [e, size_slash]; omega
  have i1 : ¬ (200000 : Int) < a.size := by omega
  have i2 : ¬ (200000 : Int) < b.size := by omega
  have i3 : ¬ (200000 : Int) < c.size := by omega
  have had : cmpL (unB a) (unB (a ++ ⟨#[47]⟩ ++ b)) = -1 := by rw [un_slash]; exact cmpL_longer _ _
  have q1 : (a.toList == b.toList) = true := by rw [eq_two, (cmpL_zero _ _).1 hx]; simp
  have B : Hid (Below w.heap.size w w) := Below.refl _ _
  obtain ⟨w0, hw0⟩ : ∃ w0, w0 = w := ⟨_, rfl⟩
  rw [← hw0] at B
  rw [← hw0]
  have B : Hid (Below w0.heap.size w0 w0) := Below.refl _ _
  clear hw0 ha hb hc
  go_enter Try.func4, Try.ntmps4
  go_wp2_with (first
    | (go_at_call 11; refine (known_any _).mono ?_; rintro e w' ⟨rfl, hb⟩; replace B : Hid (Below w0.heap.size w0 w') := B.out.trans (hb.mono B.out.size); clear hb)
    | (go_at_call 7; refine (compare_any _ _ (by first | exact Nat.le_trans HS.out.1 (by decide) | exact Nat.le_trans HS.out.2.1 (by decide) | exact Nat.le_trans HS.out.2.2 (by decide) | exact HD.out _ rfl) (by first | exact Nat.le_trans HS.out.1 (by decide) | exact Nat.le_trans HS.out.2.1 (by decide) | exact Nat.le_trans HS.out.2.2 (by decide) | exact HD.out _ rfl) _).mono ?_; rintro e w' ⟨rfl, hb⟩; replace B : Hid (Below w0.heap.size w0 w') := B.out.trans (hb.mono B.out.size); clear hb; first | rw [hx] | rw [hy] | rw [hz] | rw [hba] | rw [had]))
  go_ret
  exact ⟨rfl, B.out⟩

set_option maxRecDepth 100000 in
set_option maxHeartbeats 4000000 in
theorem order_less00 (a b c : ByteArray) (w : World) (ha : a.size ≤ 200000) (hb : b.size ≤ 200000) (hc : c.size ≤ 200000) (y z u : Int) (hx : cmpL (unB a) (unB b) = -1) (hy : cmpL (unB b) (unB c) = y) (hz : cmpL (unB a) (unB c) = z) (hba : cmpL (unB b) (unB a) = 1) (y0 : ¬ y ≤ 0) (hu : cmpL (unB b) (unB (a ++ ⟨#[47]⟩ ++ b)) = 0) : Calls Try.prog 4 #[.string a, .string b, .string c] w fun e w' => e = .returned (.bool true) ∧ Below w.heap.size w w' := by
  have HS : Hid (a.size ≤ 200000 ∧ b.size ≤ 200000 ∧ c.size ≤ 200000) := ⟨ha, hb, hc⟩
  have HD : Hid (∀ d, (d = a ++ ⟨#[47]⟩ ++ b) → d.size ≤ 1000000) := fun d e => by rw [e, size_slash]; omega
  have i1 : ¬ (200000 : Int) < a.size := by omega
  have i2 : ¬ (200000 : Int) < b.size := by omega
  have i3 : ¬ (200000 : Int) < c.size := by omega
  have had : cmpL (unB a) (unB (a ++ ⟨#[47]⟩ ++ b)) = -1 := by rw [un_slash]; exact cmpL_longer _ _
  have q1 : (a.toList == b.toList) = false := by
    rw [eq_two]; exact decide_eq_false (fun h => by rw [(cmpL_zero _ _).2 h] at hx; cases hx)
  have hbd : cmpL (unB b) (unB (a ++ ⟨#[47]⟩ ++ b)) = 0 := hu
  have B : Hid (Below w.heap.size w w) := Below.refl _ _
  obtain ⟨w0, hw0⟩ : ∃ w0, w0 = w := ⟨_, rfl⟩
  rw [← hw0] at B
  rw [← hw0]
  have B : Hid (Below w0.heap.size w0 w0) := Below.refl _ _
  clear hw0 ha hb hc
  go_enter Try.func4, Try.ntmps4
  go_wp2_with (first
    | (go_at_call 11; refine (known_any _).mono ?_; rintro e w' ⟨rfl, hb⟩; replace B : Hid (Below w0.heap.size w0 w') := B.out.trans (hb.mono B.out.size); clear hb)
    | (go_at_call 7; refine (compare_any _ _ (by first | exact Nat.le_trans HS.out.1 (by decide) | exact Nat.le_trans HS.out.2.1 (by decide) | exact Nat.le_trans HS.out.2.2 (by decide) | exact HD.out _ rfl) (by first | exact Nat.le_trans HS.out.1 (by decide) | exact Nat.le_trans HS.out.2.1 (by decide) | exact Nat.le_trans HS.out.2.2 (by decide) | exact HD.out _ rfl) _).mono ?_; rintro e w' ⟨rfl, hb⟩; replace B : Hid (Below w0.heap.size w0 w') := B.out.trans (hb.mono B.out.size); clear hb; first | rw [hx] | rw [hy] | rw [hz] | rw [hba] | rw [had] | rw [hbd]))
  go_ret
  exact ⟨rfl, B.out⟩

set_option maxRecDepth 100000 in
set_option maxHeartbeats 4000000 in
theorem order_less01 (a b c : ByteArray) (w : World) (ha : a.size ≤ 200000) (hb : b.size ≤ 200000) (hc : c.size ≤ 200000) (y z u : Int) (hx : cmpL (unB a) (unB b) = -1) (hy : cmpL (unB b) (unB c) = y) (hz : cmpL (unB a) (unB c) = z) (hba : cmpL (unB b) (unB a) = 1) (y0 : ¬ y ≤ 0) (hu : cmpL (unB b) (unB (a ++ ⟨#[47]⟩ ++ b)) = 1) : Calls Try.prog 4 #[.string a, .string b, .string c] w fun e w' => e = .returned (.bool true) ∧ Below w.heap.size w w' := by
  have HS : Hid (a.size ≤ 200000 ∧ b.size ≤ 200000 ∧ c.size ≤ 200000) := ⟨ha, hb, hc⟩
  have HD : Hid (∀ d, (d = a ++ ⟨#[47]⟩ ++ b) → d.size ≤ 1000000) := fun d e => by rw [e, size_slash]; omega
  have i1 : ¬ (200000 : Int) < a.size := by omega
  have i2 : ¬ (200000 : Int) < b.size := by omega
  have i3 : ¬ (200000 : Int) < c.size := by omega
  have had : cmpL (unB a) (unB (a ++ ⟨#[47]⟩ ++ b)) = -1 := by rw [un_slash]; exact cmpL_longer _ _
  have q1 : (a.toList == b.toList) = false := by
    rw [eq_two]; exact decide_eq_false (fun h => by rw [(cmpL_zero _ _).2 h] at hx; cases hx)
  have hbd : cmpL (unB b) (unB (a ++ ⟨#[47]⟩ ++ b)) = 1 := hu
  have B : Hid (Below w.heap.size w w) := Below.refl _ _
  obtain ⟨w0, hw0⟩ : ∃ w0, w0 = w := ⟨_, rfl⟩
  rw [← hw0] at B
  rw [← hw0]
  have B : Hid (Below w0.heap.size w0 w0) := Below.refl _ _
  clear hw0 ha hb hc
  go_enter Try.func4, Try.ntmps4
  go_wp2_with (first
    | (go_at_call 11; refine (known_any _).mono ?_; rintro e w' ⟨rfl, hb⟩; replace B : Hid (Below w0.heap.size w0 w') := B.out.trans (hb.mono B.out.size); clear hb)
    | (go_at_call 7; refine (compare_any _ _ (by first | exact Nat.le_trans HS.out.1 (by decide) | exact Nat.le_trans HS.out.2.1 (by decide) | exact Nat.le_trans HS.out.2.2 (by decide) | exact HD.out _ rfl) (by first | exact Nat.le_trans HS.out.1 (by decide) | exact Nat.le_trans HS.out.2.1 (by decide) | exact Nat.le_trans HS.out.2.2 (by decide) | exact HD.out _ rfl) _).mono ?_; rintro e w' ⟨rfl, hb⟩; replace B : Hid (Below w0.heap.size w0 w') := B.out.trans (hb.mono B.out.size); clear hb; first | rw [hx] | rw [hy] | rw [hz] | rw [hba] | rw [had] | rw [hbd]))
  go_ret
  exact ⟨rfl, B.out⟩

set_option maxRecDepth 100000 in
set_option maxHeartbeats 4000000 in
theorem order_below0 (a b c : ByteArray) (w : World) (ha : a.size ≤ 200000) (hb : b.size ≤ 200000) (hc : c.size ≤ 200000) (y z u : Int) (hx : cmpL (unB a) (unB b) = -1) (hy : cmpL (unB b) (unB c) = y) (hz : cmpL (unB a) (unB c) = z) (hba : cmpL (unB b) (unB a) = 1) (y0 : ¬ y ≤ 0) (rs : List ByteArray) (hl : levels b = levels a ++ rs) (hu : cmpL (unB b) (unB (a ++ ⟨#[47]⟩ ++ b)) = -1) : Calls Try.prog 4 #[.string a, .string b, .string c] w fun e w' => e = .returned (.bool true) ∧ Below w.heap.size w w' := by
  have HS : Hid (a.size ≤ 200000 ∧ b.size ≤ 200000 ∧ c.size ≤ 200000) := ⟨ha, hb, hc⟩
  have HD : Hid (∀ d, (d = a ++ ⟨#[47]⟩ ++ b) → d.size ≤ 1000000) := fun d e => by rw [e, size_slash]; omega
  have i1 : ¬ (200000 : Int) < a.size := by omega
  have i2 : ¬ (200000 : Int) < b.size := by omega
  have i3 : ¬ (200000 : Int) < c.size := by omega
  have had : cmpL (unB a) (unB (a ++ ⟨#[47]⟩ ++ b)) = -1 := by rw [un_slash]; exact cmpL_longer _ _
  have q1 : (a.toList == b.toList) = false := by
    rw [eq_two]; exact decide_eq_false (fun h => by rw [(cmpL_zero _ _).2 h] at hx; cases hx)
  have HL : Hid (levels b = levels a ++ rs) := hl
  clear hl
  have hbd : cmpL (unB b) (unB (a ++ ⟨#[47]⟩ ++ b)) = -1 := hu
  have B : Hid (Below w.heap.size w w) := Below.refl _ _
  obtain ⟨w0, hw0⟩ : ∃ w0, w0 = w := ⟨_, rfl⟩
  rw [← hw0] at B
  rw [← hw0]
  have B : Hid (Below w0.heap.size w0 w0) := Below.refl _ _
  clear hw0 ha hb hc
  go_enter Try.func4, Try.ntmps4
  go_wp2_with (first
    | (go_at_call 11; refine (known_any _).mono ?_; rintro e w' ⟨rfl, hb⟩; replace B : Hid (Below w0.heap.size w0 w') := B.out.trans (hb.mono B.out.size); clear hb)
    | (go_at_call 7; refine (compare_any _ _ (by first | exact Nat.le_trans HS.out.1 (by decide) | exact Nat.le_trans HS.out.2.1 (by decide) | exact Nat.le_trans HS.out.2.2 (by decide) | exact HD.out _ rfl) (by first | exact Nat.le_trans HS.out.1 (by decide) | exact Nat.le_trans HS.out.2.1 (by decide) | exact Nat.le_trans HS.out.2.2 (by decide) | exact HD.out _ rfl) _).mono ?_; rintro e w' ⟨rfl, hb⟩; replace B : Hid (Below w0.heap.size w0 w') := B.out.trans (hb.mono B.out.size); clear hb; first | rw [hx] | rw [hy] | rw [hz] | rw [hba] | rw [had] | rw [hbd]))
  go_must (go_at_call 13)
  refine (tlevels_row b (by have := HS.out; omega) _).mono ?_
  rintro e w1 ⟨v1, rfl, hr, hb⟩
  have R1 : Hid (Row w1 v1 (levels b)) := hr
  replace B : Hid (Below w0.heap.size w0 w1) := B.out.trans (hb.mono B.out.size)
  clear hb hr
  go_wp2_with fail
  go_must (go_at_call 13)
  refine (tlevels_row a (by have := HS.out; omega) _).mono ?_
  rintro e w2 ⟨v2, rfl, hr, hb⟩
  have R2 : Hid (Row w2 v2 (levels a)) := hr
  have R3 : Hid (Row w2 v1 (levels a ++ rs)) := by show Row _ _ _; rw [← HL.out]; exact R1.out.later hb
  replace B : Hid (Below w0.heap.size w0 w2) := B.out.trans (hb.mono B.out.size)
  clear hb hr
  go_wp2_with fail
  go_must (go_at_call 12)
  refine (below_yes (levels a) rs v1 v2 _ R3.out R2.out (by have := levels_len a; have := HS.out; omega)).mono ?_
  rintro e w3 ⟨rfl, hb⟩
  replace B : Hid (Below w0.heap.size w0 w3) := B.out.trans (hb.mono B.out.size)
  clear hb
  go_wp2_with fail
  go_ret
  exact ⟨rfl, B.out⟩

theorem order_any (a b c : ByteArray) (w : World) : Calls Try.prog 4 #[.string a, .string b, .string c] w fun e w' => e = .returned (.bool true) ∧ Below w.heap.size w w' := by
  by_cases h : 200000 < a.size ∨ 200000 < b.size ∨ 200000 < c.size
  · exact order_big a b c w h
  have ha : a.size ≤ 200000 := by omega
  have hb : b.size ≤ 200000 := by omega
  have hc : c.size ≤ 200000 := by omega
  have hba := cmpL_flip (unB a) (unB b)
  have htr := cmpL_trans (unB a) (unB b) (unB c)
  have hlv : cmpL (unB a) (unB b) = -1 → cmpL (unB b) (unB (a ++ ⟨#[47]⟩ ++ b)) = -1 → ∃ rs, levels b = levels a ++ rs := fun h1 h2 => by
    rw [un_slash] at h2
    obtain ⟨r, e⟩ := cmpL_between _ _ _ h1 h2
    refine ⟨(split r).map mkB, ?_⟩
    rw [levels_mk b, e, split_append, List.map_append, ← levels_mk]
  rcases cmpL_range (unB a) (unB b) with hx | hx | hx
  · rw [hx] at hba htr
    by_cases hu : cmpL (unB b) (unB (a ++ ⟨#[47]⟩ ++ b)) = -1
    · obtain ⟨rs, hl⟩ := hlv hx hu
      by_cases hy : cmpL (unB b) (unB c) ≤ 0
      · exact order_below1 a b c w ha hb hc _ _ 0 hx rfl rfl hba hy (by have := htr (by decide) hy; omega) rs hl hu
      · exact order_below0 a b c w ha hb hc _ _ 0 hx rfl rfl hba hy rs hl hu
    · rcases cmpL_range (unB b) (unB (a ++ ⟨#[47]⟩ ++ b)) with hv | hv | hv
      · exact absurd hv hu
      · by_cases hy : cmpL (unB b) (unB c) ≤ 0
        · exact order_less10 a b c w ha hb hc _ _ 0 hx rfl rfl hba hy (by have := htr (by decide) hy; omega) hv
        · exact order_less00 a b c w ha hb hc _ _ 0 hx rfl rfl hba hy hv
      · by_cases hy : cmpL (unB b) (unB c) ≤ 0
        · exact order_less11 a b c w ha hb hc _ _ 0 hx rfl rfl hba hy (by have := htr (by decide) hy; omega) hv
        · exact order_less01 a b c w ha hb hc _ _ 0 hx rfl rfl hba hy hv
  · rw [hx] at hba htr
    by_cases hy : cmpL (unB b) (unB c) ≤ 0
    · exact order_zero1 a b c w ha hb hc _ _ 0 hx rfl rfl hba hy (by have := htr (by decide) hy; omega)
    · exact order_zero0 a b c w ha hb hc _ _ 0 hx rfl rfl hba hy
  · rw [hx] at hba
    exact order_one a b c w ha hb hc _ _ 0 hx rfl rfl hba
end Go.Proofs.Ytmdlplaadelaoaa
