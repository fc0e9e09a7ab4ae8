import Derived.Test.YtglnldopnoafoaaYi
namespace Go.Proofs.Ytglnldopnoafoaa
open Go Go.RowKit
set_option linter.unusedSimpArgs false
set_option linter.unusedVariables false

set_option maxRecDepth 100000 in
set_option maxHeartbeats 8000000 in
theorem two_law (f g : ByteArray) (w : World) : Calls Try.prog 3 #[.string f, .string g] w fun e w' => e = .returned (.bool true) ∧ Below w.heap.size w w' := by
  have B : Hid (Below w.heap.size w w) := Below.refl _ _
  obtain ⟨S1, p1⟩ : ∃ S, IntKind.i64.wrap ((f.size : Int) + (g.size : Int)) = S := ⟨_, rfl⟩
  by_cases p3 : (140000 : Int) < S1
  · go_enter Try.func3, Try.ntmps3
    go_wp2_with fail
    go_ret
    exact ⟨rfl, B.out⟩
  go_enter Try.func3, Try.ntmps3
  go_wp2_with fail
  go_loopg [0, 1, 5] 2 (fun gk s0 s1 s5 wx => ∃ (n : Nat) (F G : ByteArray), n + gk = 2 ∧ s0 = .string F ∧ s1 = .string G ∧ s5 = .int .i64 n ∧ Hid (Below w.heap.size w wx))
  case atStart => exact ⟨0, f, g, rfl, rfl, rfl, rfl, B⟩
  case round =>
    clear p1 p3 B
    obtain ⟨n, F, G, hn, rfl, rfl, rfl, B⟩ := hrel
    cases gk with
    | zero =>
      have hnz : ¬ (n : Int) < 2 := by omega
      go_wp2_with fail
      go_ret
      exact ⟨rfl, B.out⟩
    | succ gk =>
      have hnz : (n : Int) < 2 := by omega
      have hwn : IntKind.i64.wrap ((n : Int) + 1) = (n : Int) + 1 := by rw [IntKind.wrap_i64]; omega
      obtain ⟨ML, MB, hML, hMB, HMR⟩ : ∃ (ML : ByteArray) (MB : Bool), mkB ((meetP F G).getD []) = ML ∧ (meetP F G).isSome = MB ∧ ((MB = true ∧ mch F ML = true ∧ mch G ML = true) ∨ (MB = false ∧ ML = ⟨#[]⟩)) := by
        refine ⟨_, _, rfl, rfl, ?_⟩
        cases e : meetP F G with
        | none => exact .inr ⟨rfl, rfl⟩
        | some s => exact .inl ⟨rfl, meet_right F G s e⟩
      obtain ⟨OL, OB, hOL, hOB, HOR⟩ : ∃ (OL : ByteArray) (OB : Bool), mkB ((outP F G).getD []) = OL ∧ (outP F G).isSome = OB ∧ ((OB = true ∧ mch F OL = true ∧ mch G OL = false) ∨ (OB = false ∧ OL = ⟨#[]⟩)) := by
        refine ⟨_, _, rfl, rfl, ?_⟩
        cases e : outP F G with
        | none => exact .inr ⟨rfl, rfl⟩
        | some s => exact .inl ⟨rfl, out_right F G s e⟩
      have C7 : Hid (∀ w, Calls Try.prog 7 #[.string F, .string G] w fun e w' => e = .returned (.tuple #[.string ML, .bool MB]) ∧ Below w.heap.size w w') := by
        intro w; rw [← hML, ← hMB]; exact meet_any F G w
      have C8 : Hid (∀ w, Calls Try.prog 8 #[.string F, .string G] w fun e w' => (∃ s, e = .returned (.tuple #[.string s, .bool MB])) ∧ Below w.heap.size w w') := by
        intro w; rw [← hMB]; exact refMeet_any F G w
      have C10 : Hid (∀ w, Calls Try.prog 10 #[.string F, .string G] w fun e w' => e = .returned (.tuple #[.string OL, .bool OB]) ∧ Below w.heap.size w w') := by
        intro w; rw [← hOL, ← hOB]; exact outf_any F G w
      have C11 : Hid (∀ w, Calls Try.prog 11 #[.string F, .string G] w fun e w' => (∃ s, e = .returned (.tuple #[.string s, .bool OB])) ∧ Below w.heap.size w w') := by
        intro w; rw [← hOB]; exact refOut_any F G w
      have C12 : Hid (∀ w, Calls Try.prog 12 #[.string F, .string G] w fun e w' => e = .returned (.bool !OB) ∧ Below w.heap.size w w') := by
        intro w
        have e0 : inP F G = !OB := by rw [← hOB]; unfold inP; cases outP F G <;> rfl
        rw [← e0]; exact within_any F G w
      clear hML hMB hOL hOB
      rcases HMR with ⟨rfl, m1, m2⟩ | ⟨rfl, rfl⟩
      · have m1' : Hid (mch F ML = true) := m1
        have m2' : Hid (mch G ML = true) := m2
        clear m1 m2
        have HH : Hid ((OB = true ∧ mch F OL = true ∧ mch G OL = false) ∨ (OB = false ∧ OL = ⟨#[]⟩)) := HOR
        clear HOR
        go_wp2_with fail
        go_must (go_at_call 7)
        refine (C7.out _).mono ?_
        rintro e w1 ⟨rfl, hb⟩
        replace B : Hid (Below w.heap.size w w1) := B.out.trans (hb.mono B.out.size)
        clear hb
        go_wp2_with fail
        go_must (go_at_call 8)
        refine (C8.out _).mono ?_
        rintro e w2 ⟨⟨s2, rfl⟩, hb⟩
        replace B : Hid (Below w.heap.size w w2) := B.out.trans (hb.mono B.out.size)
        clear hb
        go_wp2_with fail
        go_must (go_at_call 9)
        refine (rmatch_any F ML _).mono ?_
        rintro e w3 ⟨rfl, hb⟩
        rw [m1'.out]
        replace B : Hid (Below w.heap.size w w3) := B.out.trans (hb.mono B.out.size)
        clear hb
        go_wp2_with fail
        go_must (go_at_call 9)
        refine (rmatch_any G ML _).mono ?_
        rintro e w4 ⟨rfl, hb⟩
        rw [m2'.out]
        replace B : Hid (Below w.heap.size w w4) := B.out.trans (hb.mono B.out.size)
        clear hb
        have HOR := HH.out
        clear HH
        rcases HOR with ⟨rfl, o1, o2⟩ | ⟨rfl, rfl⟩
        · have o1' : Hid (mch F OL = true) := o1
          have o2' : Hid (mch G OL = false) := o2
          clear o1 o2
          go_wp2_with fail
          go_must (go_at_call 10)
          refine (C10.out _).mono ?_
          rintro e w5 ⟨rfl, hb⟩
          replace B : Hid (Below w.heap.size w w5) := B.out.trans (hb.mono B.out.size)
          clear hb
          go_wp2_with fail
          go_must (go_at_call 11)
          refine (C11.out _).mono ?_
          rintro e w6 ⟨⟨s6, rfl⟩, hb⟩
          replace B : Hid (Below w.heap.size w w6) := B.out.trans (hb.mono B.out.size)
          clear hb
          go_wp2_with fail
          go_must (go_at_call 9)
          refine (rmatch_any F OL _).mono ?_
          rintro e w7 ⟨rfl, hb⟩
          rw [o1'.out]
          replace B : Hid (Below w.heap.size w w7) := B.out.trans (hb.mono B.out.size)
          clear hb
          go_wp2_with fail
          go_must (go_at_call 9)
          refine (rmatch_any G OL _).mono ?_
          rintro e w8 ⟨rfl, hb⟩
          rw [o2'.out]
          replace B : Hid (Below w.heap.size w w8) := B.out.trans (hb.mono B.out.size)
          clear hb
          go_wp2_with fail
          go_must (go_at_call 12)
          refine (C12.out _).mono ?_
          rintro e w9 ⟨rfl, hb⟩
          replace B : Hid (Below w.heap.size w w9) := B.out.trans (hb.mono B.out.size)
          clear hb
          go_wp2_with fail
          go_roundg gk
          case measure => omega
          case rel => exact ⟨n + 1, G, F, by omega, rfl, rfl, by first | rfl | simp, B⟩

        · go_wp2_with fail
          go_must (go_at_call 10)
          refine (C10.out _).mono ?_
          rintro e w5 ⟨rfl, hb⟩
          replace B : Hid (Below w.heap.size w w5) := B.out.trans (hb.mono B.out.size)
          clear hb
          go_wp2_with fail
          go_must (go_at_call 11)
          refine (C11.out _).mono ?_
          rintro e w6 ⟨⟨s6, rfl⟩, hb⟩
          replace B : Hid (Below w.heap.size w w6) := B.out.trans (hb.mono B.out.size)
          clear hb
          go_wp2_with fail
          go_must (go_at_call 12)
          refine (C12.out _).mono ?_
          rintro e w9 ⟨rfl, hb⟩
          replace B : Hid (Below w.heap.size w w9) := B.out.trans (hb.mono B.out.size)
          clear hb
          go_wp2_with fail
          go_roundg gk
          case measure => omega
          case rel => exact ⟨n + 1, G, F, by omega, rfl, rfl, by first | rfl | simp, B⟩

      · have HH : Hid ((OB = true ∧ mch F OL = true ∧ mch G OL = false) ∨ (OB = false ∧ OL = ⟨#[]⟩)) := HOR
        clear HOR
        go_wp2_with fail
        go_must (go_at_call 7)
        refine (C7.out _).mono ?_
        rintro e w1 ⟨rfl, hb⟩
        replace B : Hid (Below w.heap.size w w1) := B.out.trans (hb.mono B.out.size)
        clear hb
        go_wp2_with fail
        go_must (go_at_call 8)
        refine (C8.out _).mono ?_
        rintro e w2 ⟨⟨s2, rfl⟩, hb⟩
        replace B : Hid (Below w.heap.size w w2) := B.out.trans (hb.mono B.out.size)
        clear hb
        have HOR := HH.out
        clear HH
        rcases HOR with ⟨rfl, o1, o2⟩ | ⟨rfl, rfl⟩
        · have o1' : Hid (mch F OL = true) := o1
          have o2' : Hid (mch G OL = false) := o2
          clear o1 o2
          go_wp2_with fail
          go_must (go_at_call 10)
          refine (C10.out _).mono ?_
          rintro e w5 ⟨rfl, hb⟩
          replace B : Hid (Below w.heap.size w w5) := B.out.trans (hb.mono B.out.size)
          clear hb
          go_wp2_with fail
          go_must (go_at_call 11)
          refine (C11.out _).mono ?_
          rintro e w6 ⟨⟨s6, rfl⟩, hb⟩
          replace B : Hid (Below w.heap.size w w6) := B.out.trans (hb.mono B.out.size)
          clear hb
          go_wp2_with fail
          go_must (go_at_call 9)
          refine (rmatch_any F OL _).mono ?_
          rintro e w7 ⟨rfl, hb⟩
          rw [o1'.out]
          replace B : Hid (Below w.heap.size w w7) := B.out.trans (hb.mono B.out.size)
          clear hb
          go_wp2_with fail
          go_must (go_at_call 9)
          refine (rmatch_any G OL _).mono ?_
          rintro e w8 ⟨rfl, hb⟩
          rw [o2'.out]
          replace B : Hid (Below w.heap.size w w8) := B.out.trans (hb.mono B.out.size)
          clear hb
          go_wp2_with fail
          go_must (go_at_call 12)
          refine (C12.out _).mono ?_
          rintro e w9 ⟨rfl, hb⟩
          replace B : Hid (Below w.heap.size w w9) := B.out.trans (hb.mono B.out.size)
          clear hb
          go_wp2_with fail
          go_roundg gk
          case measure => omega
          case rel => exact ⟨n + 1, G, F, by omega, rfl, rfl, by first | rfl | simp, B⟩

        · go_wp2_with fail
          go_must (go_at_call 10)
          refine (C10.out _).mono ?_
          rintro e w5 ⟨rfl, hb⟩
          replace B : Hid (Below w.heap.size w w5) := B.out.trans (hb.mono B.out.size)
          clear hb
          go_wp2_with fail
          go_must (go_at_call 11)
          refine (C11.out _).mono ?_
          rintro e w6 ⟨⟨s6, rfl⟩, hb⟩
          replace B : Hid (Below w.heap.size w w6) := B.out.trans (hb.mono B.out.size)
          clear hb
          go_wp2_with fail
          go_must (go_at_call 12)
          refine (C12.out _).mono ?_
          rintro e w9 ⟨rfl, hb⟩
          replace B : Hid (Below w.heap.size w w9) := B.out.trans (hb.mono B.out.size)
          clear hb
          go_wp2_with fail
          go_roundg gk
          case measure => omega
          case rel => exact ⟨n + 1, G, F, by omega, rfl, rfl, by first | rfl | simp, B⟩

end Go.Proofs.Ytglnldopnoafoaa
