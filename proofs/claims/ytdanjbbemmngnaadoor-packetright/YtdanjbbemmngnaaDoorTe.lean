import Derived.Test.YtdanjbbemmngnaaDoorTd
namespace Go.Proofs.YtdanjbbemmngnaaDoor
open Go Go.RowKit
set_option linter.unusedSimpArgs false
set_option linter.unusedVariables false

/-- What topic.Check and topic.CheckFilter tell. -/
def tcode (s : ByteArray) : Int := if ct s = 0 then (if sgn s then 52 else 0) else ct s
def fcode (s : ByteArray) : Int := if ct s = 0 then (if misp s then 52 else 0) else ct s
def flt (s : ByteArray) : Bool := fcode s == 0
def topb (s : ByteArray) : Bool := tcode s == 0
theorem ct_zero {s : ByteArray} (hc : ct s = 0) : s.size ≤ 65535 := by
  unfold ct at hc
  by_cases h0 : s.size = 0
  · omega
  · cases h : txt s with
    | true => exact txt_size h
    | false => simp [h0, h] at hc
theorem tcheck_any (s : ByteArray) (w : World) : Calls Tryd.prog 46 #[.string s] w fun e w' => e = .returned (.int .i64 (tcode s)) ∧ Below w.heap.size w w' := by
  by_cases hc : ct s = 0
  · have hs := ct_zero hc
    cases hg : sgn s with
    | true =>
      rw [show tcode s = 52 by simp [tcode, hc, hg]]
      go_enter Tryd.func46, Tryd.ntmps46
      go_wp2_with (go_at_call 51; refine (checkText_any s _).mono ?_; rintro e w1 ⟨rfl, hb⟩; have B1 : Hid (Below w.heap.size w w1) := hb; clear hb; rw [hc])
      go_must (go_at_call 52)
      refine (containsAny_any s hs _).mono ?_
      rintro e w2 ⟨rfl, hb⟩
      have B2 : Hid (Below w.heap.size w w2) := B1.out.trans (hb.mono B1.out.size)
      clear hb
      rw [hg]
      go_wp2
      go_ret
      exact ⟨rfl, B2.out⟩
    | false =>
      rw [show tcode s = 0 by simp [tcode, hc, hg]]
      go_enter Tryd.func46, Tryd.ntmps46
      go_wp2_with (go_at_call 51; refine (checkText_any s _).mono ?_; rintro e w1 ⟨rfl, hb⟩; have B1 : Hid (Below w.heap.size w w1) := hb; clear hb; rw [hc])
      go_must (go_at_call 52)
      refine (containsAny_any s hs _).mono ?_
      rintro e w2 ⟨rfl, hb⟩
      have B2 : Hid (Below w.heap.size w w2) := B1.out.trans (hb.mono B1.out.size)
      clear hb
      rw [hg]
      go_wp2
      go_ret
      exact ⟨rfl, B2.out⟩
  · have hc' : (ct s != 0) = true := by simpa using hc
    rw [show tcode s = ct s by simp [tcode, hc]]
    go_enter Tryd.func46, Tryd.ntmps46
    go_wp2_with (go_at_call 51; refine (checkText_any s _).mono ?_; rintro e w1 ⟨rfl, hb⟩; have B1 : Hid (Below w.heap.size w w1) := hb; clear hb)
    go_ret
    exact ⟨rfl, B1.out⟩
theorem fcheck_any (s : ByteArray) (w : World) (m : Int) (HM : Hid (w.cell? ⟨1, 0, none⟩ = some (.int .i64 m))) : Calls Tryd.prog 47 #[.string s] w fun e w' => e = .returned (.int .i64 (fcode s)) ∧ Below w.heap.size w w' := by
  by_cases hc : ct s = 0
  · have hs := ct_zero hc
    cases hg : misp s with
    | true =>
      rw [show fcode s = 52 by simp [fcode, hc, hg]]
      go_enter Tryd.func47, Tryd.ntmps47
      go_wp2_with (go_at_call 51; refine (checkText_any s _).mono ?_; rintro e w1 ⟨rfl, hb⟩; have B1 : Hid (Below w.heap.size w w1) := hb; clear hb; rw [hc])
      go_must (go_at_call 53)
      refine (misplaced_any s _ hs m (cell_later B1.out HM.out)).mono ?_
      rintro e w2 ⟨rfl, hb⟩
      have B2 : Hid (Below w.heap.size w w2) := B1.out.trans (hb.mono B1.out.size)
      clear hb
      rw [hg]
      go_wp2
      go_ret
      exact ⟨rfl, B2.out⟩
    | false =>
      rw [show fcode s = 0 by simp [fcode, hc, hg]]
      go_enter Tryd.func47, Tryd.ntmps47
      go_wp2_with (go_at_call 51; refine (checkText_any s _).mono ?_; rintro e w1 ⟨rfl, hb⟩; have B1 : Hid (Below w.heap.size w w1) := hb; clear hb; rw [hc])
      go_must (go_at_call 53)
      refine (misplaced_any s _ hs m (cell_later B1.out HM.out)).mono ?_
      rintro e w2 ⟨rfl, hb⟩
      have B2 : Hid (Below w.heap.size w w2) := B1.out.trans (hb.mono B1.out.size)
      clear hb
      rw [hg]
      go_wp2
      go_ret
      exact ⟨rfl, B2.out⟩
  · have hc' : (ct s != 0) = true := by simpa using hc
    rw [show fcode s = ct s by simp [fcode, hc]]
    go_enter Tryd.func47, Tryd.ntmps47
    go_wp2_with (go_at_call 51; refine (checkText_any s _).mono ?_; rintro e w1 ⟨rfl, hb⟩; have B1 : Hid (Below w.heap.size w w1) := hb; clear hb)
    go_ret
    exact ⟨rfl, B1.out⟩
/-- What is told of texts, all of it. -/
def TT : Tx := ⟨txt, topb, flt⟩
end Go.Proofs.YtdanjbbemmngnaaDoor
