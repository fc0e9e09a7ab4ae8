import Derived.Test.YtglnldopnoafoaaTc
namespace Go.Proofs.Ytglnldopnoafoaa
open Go Go.RowKit
set_option linter.unusedSimpArgs false
set_option linter.unusedVariables false

/-- What topic.Check and topic.CheckFilter tell. -/
def tcode (s : ByteArray) : Int := if ct s = 0 then (if sgn s then 52 else 0) else ct s
def topb (s : ByteArray) : Bool := tcode s == 0
theorem ct_zero {s : ByteArray} (hc : ct s = 0) : s.size ≤ 65535 := by
  unfold ct at hc
  by_cases h0 : s.size = 0
  · omega
  · cases h : txt s with
    | true => exact txt_size h
    | false => simp [h0, h] at hc
theorem tcheck_any (s : ByteArray) (w : World) : Calls Try.prog 35 #[.string s] w fun e w' => e = .returned (.int .i64 (tcode s)) ∧ Below w.heap.size w w' := by
  by_cases hc : ct s = 0
  · have hs := ct_zero hc
    cases hg : sgn s with
    | true =>
      rw [show tcode s = 52 by simp [tcode, hc, hg]]
      go_enter Try.func35, Try.ntmps35
      go_wp2_with (go_at_call 54; refine (checkText_any s _).mono ?_; rintro e w1 ⟨rfl, hb⟩; have B1 : Hid (Below w.heap.size w w1) := hb; clear hb; rw [hc])
      go_must (go_at_call 56)
      refine (containsAny_any s hs _).mono ?_
      rintro e w2 ⟨rfl, hb⟩
      have B2 : Hid (Below w.heap.size w w2) := B1.out.trans (hb.mono B1.out.size)
      clear hb
      rw [hg]
      go_wp2
      go_ret
      exact ⟨rfl, B2.out⟩
    | false =>
      rw [show tcode s = 0 by simp [tcode, hc, hg]]
      go_enter Try.func35, Try.ntmps35
      go_wp2_with (go_at_call 54; refine (checkText_any s _).mono ?_; rintro e w1 ⟨rfl, hb⟩; have B1 : Hid (Below w.heap.size w w1) := hb; clear hb; rw [hc])
      go_must (go_at_call 56)
      refine (containsAny_any s hs _).mono ?_
      rintro e w2 ⟨rfl, hb⟩
      have B2 : Hid (Below w.heap.size w w2) := B1.out.trans (hb.mono B1.out.size)
      clear hb
      rw [hg]
      go_wp2
      go_ret
      exact ⟨rfl, B2.out⟩
  · have hc' : (ct s != 0) = true := by simpa using hc
    rw [show tcode s = ct s by simp [tcode, hc]]
    go_enter Try.func35, Try.ntmps35
    go_wp2_with (go_at_call 54; refine (checkText_any s _).mono ?_; rintro e w1 ⟨rfl, hb⟩; have B1 : Hid (Below w.heap.size w w1) := hb; clear hb)
    go_ret
    exact ⟨rfl, B1.out⟩
end Go.Proofs.Ytglnldopnoafoaa
