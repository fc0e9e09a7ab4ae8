import Derived.Test.YtglnldopnoafoaaTb
set_option maxRecDepth 100000
namespace Go.Proofs.Ytglnldopnoafoaa
open Go Go.RowKit
set_option linter.unusedSimpArgs false
set_option linter.unusedVariables false

/-- Does a text hold a sign? -/
def sgn (s : ByteArray) : Bool := if 8 < s.size then decide (0 ≤ Lib.indexAny s.data.toList [43, 35]) else sgF s s.size 0
theorem indexAny_any (s : ByteArray) (hs : s.size ≤ 65535) (w : World) : Calls Try.prog 68 #[.string s, .string ⟨#[43, 35]⟩] w fun e w' => ∃ x : Int, e = .returned (.int .i64 x) ∧ decide (0 ≤ x) = sgn s ∧ Below w.heap.size w w' := by
  by_cases h : 8 < s.size
  · have := Try.strings_IndexAny_long (fun w => (zero_of_info (P := Try.prog) (t := 76) (n := 256) (by kernel_rfl)).1 w) s ⟨#[43, 35]⟩ w (by decide) h (by omega) (by decide) (fun j b hj => by
      match j, hj with
      | 0, hj => simp at hj; subst hj; decide
      | 1, hj => simp at hj; subst hj; decide
      | j + 2, hj => simp at hj)
    refine this.mono ?_
    rintro e w' ⟨rfl, rfl⟩
    exact ⟨_, rfl, by simp only [sgn, h, if_true], ((Below.refl _ _).alloc (Nat.le_refl _) _).alloc (by simp) _⟩
  · rw [show sgn s = sgF s s.size 0 by simp [sgn, h]]
    exact indexAny_short s (by omega) w

theorem containsAny_any (s : ByteArray) (hs : s.size ≤ 65535) (w : World) : Calls Try.prog 56 #[.string s, .string ⟨#[43, 35]⟩] w fun e w' => e = .returned (.bool (sgn s)) ∧ Below w.heap.size w w' := by
  go_enter Try.func56, Try.ntmps56
  go_wp2_with (go_at_call 68; refine (indexAny_any s hs _).mono ?_; rintro e w1 ⟨x, rfl, hx, hb⟩; have HX : Hid (decide (0 ≤ x) = sgn s) := hx; have B1 : Hid (Below w.heap.size w w1) := hb; clear hx hb)
  go_ret
  exact ⟨by rw [← HX.out]; rfl, B1.out⟩

/-- What is told of a text that must not be empty. -/
def ct (s : ByteArray) : Int := if s.size = 0 then 50 else if txt s then 0 else 51
theorem checkText_any (s : ByteArray) (w : World) : Calls Try.prog 54 #[.string s] w fun e w' => e = .returned (.int .i64 (ct s)) ∧ Below w.heap.size w w' := by
  by_cases h0 : s.size = 0
  · have he : s.toList.isEmpty = true := by
      have h := isEmpty_size s
      cases hx : s.toList.isEmpty with
      | true => rfl
      | false =>
        rw [hx, h0] at h
        cases h
    rw [show ct s = 50 by simp [ct, h0]]
    go_enter Try.func54, Try.ntmps54
    go_wp2
    go_ret
    exact ⟨rfl, Below.refl _ _⟩
  · have he : s.toList.isEmpty = false := by
      have h := isEmpty_size s
      cases hx : s.toList.isEmpty with
      | false => rfl
      | true =>
        rw [hx] at h
        have hz : (s.size != 0) = true := by simp [h0]
        rw [hz] at h
        cases h
    cases ht : txt s with
    | true =>
      have hc : ((chk s).2 : Int) = 0 := by have := ht; unfold txt at this; simpa using this
      rw [show ct s = 0 by simp [ct, h0, ht]]
      clear ht h0
      go_enter Try.func54, Try.ntmps54
      go_wp2_with (go_at_call 67; refine (chk_any s _).mono ?_; rintro e w1 ⟨rfl, hb, _⟩; have B1 : Hid (Below w.heap.size w w1) := hb; clear hb; rw [hc])
      go_ret
      exact ⟨rfl, B1.out⟩
    | false =>
      have hc : (((chk s).2 : Int) != 0) = true := by have := ht; unfold txt at this; simpa using this
      rw [show ct s = 51 by simp [ct, h0, ht]]
      clear ht h0
      go_enter Try.func54, Try.ntmps54
      go_wp2_with (go_at_call 67; refine (chk_any s _).mono ?_; rintro e w1 ⟨rfl, hb, _⟩; have B1 : Hid (Below w.heap.size w w1) := hb; clear hb)
      go_ret
      exact ⟨rfl, B1.out⟩
/-- Is a text a topic? -/
def top (s : ByteArray) : Bool := !decide (s.size = 0) && txt s && !sgn s
theorem topicCheck_any (s : ByteArray) (w : World) : Calls Try.prog 35 #[.string s] w fun e w' => ∃ x : Int, e = .returned (.int .i64 x) ∧ (x != 0) = (!top s) ∧ Below w.heap.size w w' := by
  by_cases hc : ct s = 0
  · have ht : ¬ s.size = 0 ∧ txt s = true := by
      unfold ct at hc
      by_cases h0 : s.size = 0
      · simp [h0] at hc
      · refine ⟨h0, ?_⟩
        cases h : txt s <;> simp [h0, h] at hc ⊢
    have hs := txt_size ht.2
    have htop : top s = !sgn s := by simp [top, ht.1, ht.2]
    cases hg : sgn s with
    | true =>
      have HT : Hid (top s = false) := by show top s = false; rw [htop, hg]; rfl
      clear ht htop
      go_enter Try.func35, Try.ntmps35
      go_wp2_with (go_at_call 54; refine (checkText_any s _).mono ?_; rintro e w1 ⟨rfl, hb⟩; have B1 : Hid (Below w.heap.size w w1) := hb; clear hb; rw [hc])
      go_must (go_at_call 56)
      refine (containsAny_any s hs _).mono ?_
      rintro e w2 ⟨rfl, hb⟩
      have B2 : Hid (Below w.heap.size w w2) := B1.out.trans (hb.mono B1.out.size)
      clear hb
      rw [hg]
      go_wp2
      go_ret
      exact ⟨_, rfl, by rw [HT.out]; rfl, B2.out⟩
    | false =>
      have HT : Hid (top s = true) := by show top s = true; rw [htop, hg]; rfl
      clear ht htop
      go_enter Try.func35, Try.ntmps35
      go_wp2_with (go_at_call 54; refine (checkText_any s _).mono ?_; rintro e w1 ⟨rfl, hb⟩; have B1 : Hid (Below w.heap.size w w1) := hb; clear hb; rw [hc])
      go_must (go_at_call 56)
      refine (containsAny_any s hs _).mono ?_
      rintro e w2 ⟨rfl, hb⟩
      have B2 : Hid (Below w.heap.size w w2) := B1.out.trans (hb.mono B1.out.size)
      clear hb
      rw [hg]
      go_wp2
      go_ret
      exact ⟨_, rfl, by rw [HT.out]; rfl, B2.out⟩
  · have HT : Hid (top s = false) := by
      show top s = false
      unfold ct at hc
      by_cases h0 : s.size = 0
      · simp [top, h0]
      · cases h : txt s <;> simp [h0, h, top] at hc ⊢
    have hc' : (ct s != 0) = true := by simpa using hc
    have HC : Hid ((ct s != 0) = true) := hc'
    go_enter Try.func35, Try.ntmps35
    go_wp2_with (go_at_call 54; refine (checkText_any s _).mono ?_; rintro e w1 ⟨rfl, hb⟩; have B1 : Hid (Below w.heap.size w w1) := hb; clear hb)
    go_ret
    exact ⟨_, rfl, by rw [HT.out]; exact HC.out, B1.out⟩
end Go.Proofs.Ytglnldopnoafoaa
