import Derived.Test.YtglnldopnoafoaaWr
namespace Go.Proofs.Ytglnldopnoafoaa
open Go Go.RowKit
set_option linter.unusedSimpArgs false
set_option linter.unusedVariables false

set_option maxRecDepth 100000 in
set_option maxHeartbeats 4000000 in
theorem topics_any (f g t : ByteArray) (w : World) : Calls Try.prog 4 #[.string f, .string g, .string t] w fun e w' => e = .returned (.bool true) ∧ Below w.heap.size w w' := by
  have B : Hid (Below w.heap.size w w) := Below.refl _ _
  obtain ⟨S1, p1⟩ : ∃ S, IntKind.i64.wrap ((f.size : Int) + (g.size : Int)) = S := ⟨_, rfl⟩
  obtain ⟨S2, p2⟩ : ∃ S, IntKind.i64.wrap (S1 + (t.size : Int)) = S := ⟨_, rfl⟩
  by_cases p3 : (140000 : Int) < S2
  · go_enter Try.func4, Try.ntmps4
    go_wp2_with fail
    go_ret
    exact ⟨rfl, B.out⟩
  obtain ⟨X, hX⟩ : ∃ X, mkB ((meetP f g).getD []) = X := ⟨_, rfl⟩
  obtain ⟨Y, hY⟩ : ∃ Y, mkB ((outP f g).getD []) = Y := ⟨_, rfl⟩
  obtain ⟨ok, hok⟩ : ∃ b, (meetP f g).isSome = b := ⟨_, rfl⟩
  obtain ⟨out, hout⟩ : ∃ b, (outP f g).isSome = b := ⟨_, rfl⟩
  obtain ⟨a, ha⟩ : ∃ b, mch f t = b := ⟨_, rfl⟩
  obtain ⟨b, hb⟩ : ∃ b, mch g t = b := ⟨_, rfl⟩
  have HM : Hid (∀ w, Calls Try.prog 7 #[.string f, .string g] w fun e w' => e = .returned (.tuple #[.string X, .bool ok]) ∧ Below w.heap.size w w') := fun w => by have := meet_any f g w; rw [hX, hok] at this; exact this
  have HO : Hid (∀ w, Calls Try.prog 10 #[.string f, .string g] w fun e w' => e = .returned (.tuple #[.string Y, .bool out]) ∧ Below w.heap.size w w') := fun w => by have := outf_any f g w; rw [hY, hout] at this; exact this
  have HI : Hid (∀ w, Calls Try.prog 12 #[.string f, .string g] w fun e w' => e = .returned (.bool !out) ∧ Below w.heap.size w w') := fun w => by have := within_any f g w; rw [show inP f g = !out by rw [inP, ← hout]; cases outP f g <;> rfl] at this; exact this
  have K1 : Hid (a = true → b = true → ok = true) := fun h1 h2 => by rw [← hok, meet_iff]; exact ⟨t, by rw [ha, h1], by rw [hb, h2]⟩
  have K2 : Hid (a = true → b = false → out = true) := fun h1 h2 => by rw [← hout, out_iff]; exact ⟨t, by rw [ha, h1], by rw [hb, h2]⟩
  have HX : Hid (ok = true → mch f X = true ∧ mch g X = true) := fun h => by
    rw [← hok] at h
    obtain ⟨s, e⟩ := Option.isSome_iff_exists.1 h
    rw [← hX, e]
    exact meet_right f g s e
  have HY : Hid (out = true → mch f Y = true ∧ mch g Y = false) := fun h => by
    rw [← hout] at h
    obtain ⟨s, e⟩ := Option.isSome_iff_exists.1 h
    rw [← hY, e]
    exact out_right f g s e
  have FT : Hid (mch f t = a) := ha
  have GT : Hid (mch g t = b) := hb
  clear hX hY hok hout ha hb
  cases ok <;> cases out <;> cases a <;> cases b
  all_goals first
    | exact absurd (K1.out rfl rfl) (by decide)
    | exact absurd (K2.out rfl rfl) (by decide)
    | (go_enter Try.func4, Try.ntmps4
       go_wp2_with (first | (go_at_call 7; refine (HM.out _).mono ?_; rintro e w1 ⟨rfl, hb⟩; replace B : Hid (Below w.heap.size w w1) := B.out.trans (hb.mono B.out.size); clear hb) | (go_at_call 10; refine (HO.out _).mono ?_; rintro e w1 ⟨rfl, hb⟩; replace B : Hid (Below w.heap.size w w1) := B.out.trans (hb.mono B.out.size); clear hb) | (go_at_call 12; refine (HI.out _).mono ?_; rintro e w1 ⟨rfl, hb⟩; replace B : Hid (Below w.heap.size w w1) := B.out.trans (hb.mono B.out.size); clear hb) | (go_at_call 13; refine (known_any _).mono ?_; rintro e w1 ⟨rfl, hb⟩; replace B : Hid (Below w.heap.size w w1) := B.out.trans (hb.mono B.out.size); clear hb) | (go_at_call 14; refine (tmatch_any _ _ _).mono ?_; rintro e w1 ⟨rfl, hb⟩; replace B : Hid (Below w.heap.size w w1) := B.out.trans (hb.mono B.out.size); clear hb; first | rw [FT.out] | rw [GT.out] | rw [(HX.out (by first | rfl | trivial)).1] | rw [(HX.out (by first | rfl | trivial)).2] | rw [(HY.out (by first | rfl | trivial)).1] | rw [(HY.out (by first | rfl | trivial)).2]))
       go_ret
       exact ⟨rfl, B.out⟩)
end Go.Proofs.Ytglnldopnoafoaa
