import Derived.Test.YtglnldopnoafoaaWr
namespace Go.Proofs.Ytglnldopnoafoaa
open Go Go.RowKit
set_option linter.unusedSimpArgs false
set_option linter.unusedVariables false

theorem in_iff (f g : ByteArray) : inP f g = true ↔ ∀ T, mch f T = true → mch g T = true := by
  have h := out_iff f g
  constructor
  · intro hi T hT
    apply Classical.byContradiction
    intro hg
    have : (outP f g).isSome = true := h.2 ⟨T, hT, by simpa using hg⟩
    unfold inP at hi
    cases e : outP f g with
    | none => rw [e] at this; cases this
    | some s => rw [e] at hi; cases hi
  · intro hi
    unfold inP
    cases e : outP f g with
    | none => rfl
    | some s =>
      rw [e] at h
      obtain ⟨T, h1, h2⟩ := h.1 rfl
      rw [hi T h1] at h2; cases h2
set_option maxRecDepth 100000 in
set_option maxHeartbeats 1000000 in
theorem meets_any (f g : ByteArray) (w : World) : Calls Try.prog 15 #[.string f, .string g] w fun e w' => e = .returned (.bool (meetP f g).isSome) ∧ Below w.heap.size w w' := by
  have HM : Hid (Calls Try.prog 7 #[.string f, .string g] w fun e w' => e = .returned (.tuple #[.string (mkB ((meetP f g).getD [])), .bool (meetP f g).isSome]) ∧ Below w.heap.size w w') := meet_any f g w
  obtain ⟨b, hb⟩ : ∃ b, (meetP f g).isSome = b := ⟨_, rfl⟩
  rw [hb] at HM ⊢
  clear hb
  go_enter Try.func15, Try.ntmps15
  go_wp2_with fail
  go_must (go_at_call 7)
  refine HM.out.mono ?_
  rintro e w1 ⟨rfl, hb⟩
  have B1 : Hid (Below w.heap.size w w1) := hb
  clear hb
  go_wp2_with fail
  go_ret
  exact ⟨rfl, B1.out⟩
set_option maxRecDepth 100000 in
set_option maxHeartbeats 4000000 in
theorem goes_law (f g h : ByteArray) (w : World) : Calls Try.prog 5 #[.string f, .string g, .string h] w fun e w' => e = .returned (.bool true) ∧ Below w.heap.size w w' := by
  have B : Hid (Below w.heap.size w w) := Below.refl _ _
  obtain ⟨S1, p1⟩ : ∃ S, IntKind.i64.wrap ((f.size : Int) + (g.size : Int)) = S := ⟨_, rfl⟩
  obtain ⟨S2, p2⟩ : ∃ S, IntKind.i64.wrap (S1 + (h.size : Int)) = S := ⟨_, rfl⟩
  by_cases p3 : (140000 : Int) < S2
  · go_enter Try.func5, Try.ntmps5
    go_wp2_with fail
    go_ret
    exact ⟨rfl, B.out⟩
  obtain ⟨fh, e1⟩ : ∃ b, (meetP f h).isSome = b := ⟨_, rfl⟩
  obtain ⟨gh, e2⟩ : ∃ b, (meetP g h).isSome = b := ⟨_, rfl⟩
  obtain ⟨sf, e3⟩ : ∃ b, (meetP f f).isSome = b := ⟨_, rfl⟩
  obtain ⟨mfg, e4⟩ : ∃ b, (meetP f g).isSome = b := ⟨_, rfl⟩
  obtain ⟨ifg, e5⟩ : ∃ b, inP f g = b := ⟨_, rfl⟩
  obtain ⟨igh, e6⟩ : ∃ b, inP g h = b := ⟨_, rfl⟩
  obtain ⟨ifh, e7⟩ : ∃ b, inP f h = b := ⟨_, rfl⟩
  have e8 : (meetP h f).isSome = fh := by
    rw [← e1]
    apply Bool.eq_iff_iff.2
    rw [meet_iff, meet_iff]
    exact ⟨fun ⟨T, a, b⟩ => ⟨T, b, a⟩, fun ⟨T, a, b⟩ => ⟨T, b, a⟩⟩
  have e9 : inP f f = true := (in_iff f f).2 fun T hT => hT
  have K1 : Hid (ifg = true → fh = true → gh = true) := fun a b => by
    rw [a] at e5
    rw [b, meet_iff] at e1
    obtain ⟨T, t1, t2⟩ := e1
    rw [← e2, meet_iff]
    exact ⟨T, (in_iff f g).1 e5 T t1, t2⟩
  have K2 : Hid (ifg = true → igh = true → ifh = true) := fun a b => by
    rw [a] at e5
    rw [b] at e6
    rw [← e7, in_iff]
    exact fun T hT => (in_iff g h).1 e6 T ((in_iff f g).1 e5 T hT)
  have K3 : Hid (ifg = true → sf = true → mfg = true) := fun a b => by
    rw [a] at e5
    rw [b, meet_iff] at e3
    obtain ⟨T, t1, _⟩ := e3
    rw [← e4, meet_iff]
    exact ⟨T, t1, (in_iff f g).1 e5 T t1⟩
  have FH : Hid ((meetP f h).isSome = fh) := e1
  have HF : Hid ((meetP h f).isSome = fh) := e8
  have GH : Hid ((meetP g h).isSome = gh) := e2
  have SF : Hid ((meetP f f).isSome = sf) := e3
  have MFG : Hid ((meetP f g).isSome = mfg) := e4
  have IFF : Hid (inP f f = true) := e9
  have IFG : Hid (inP f g = ifg) := e5
  have IGH : Hid (inP g h = igh) := e6
  have IFH : Hid (inP f h = ifh) := e7
  clear e1 e2 e3 e4 e5 e6 e7 e8 e9
  cases ifg with
  | false =>
    cases fh <;> cases sf
    all_goals (go_enter Try.func5, Try.ntmps5; go_wp2_with (first | (go_at_call 13; refine (known_any _).mono ?_; rintro e w1 ⟨rfl, hb⟩; replace B : Hid (Below w.heap.size w w1) := B.out.trans (hb.mono B.out.size); clear hb) | (go_at_call 7; refine (meet_any _ _ _).mono ?_; rintro e w1 ⟨rfl, hb⟩; replace B : Hid (Below w.heap.size w w1) := B.out.trans (hb.mono B.out.size); clear hb; first | rw [FH.out] | rw [HF.out] | rw [GH.out] | rw [SF.out]) | (go_at_call 12; refine (within_any _ _ _).mono ?_; rintro e w1 ⟨rfl, hb⟩; replace B : Hid (Below w.heap.size w w1) := B.out.trans (hb.mono B.out.size); clear hb; first | rw [IFF.out] | rw [IFG.out] | rw [IGH.out] | rw [IFH.out]) | (go_at_call 15; refine (meets_any _ _ _).mono ?_; rintro e w1 ⟨rfl, hb⟩; replace B : Hid (Below w.heap.size w w1) := B.out.trans (hb.mono B.out.size); clear hb; rw [MFG.out])); go_ret; exact ⟨rfl, B.out⟩)
  | true =>
    cases fh with
    | false =>
      cases igh with
      | false =>
        cases sf with
        | false =>
          (go_enter Try.func5, Try.ntmps5; go_wp2_with (first | (go_at_call 13; refine (known_any _).mono ?_; rintro e w1 ⟨rfl, hb⟩; replace B : Hid (Below w.heap.size w w1) := B.out.trans (hb.mono B.out.size); clear hb) | (go_at_call 7; refine (meet_any _ _ _).mono ?_; rintro e w1 ⟨rfl, hb⟩; replace B : Hid (Below w.heap.size w w1) := B.out.trans (hb.mono B.out.size); clear hb; first | rw [FH.out] | rw [HF.out] | rw [GH.out] | rw [SF.out]) | (go_at_call 12; refine (within_any _ _ _).mono ?_; rintro e w1 ⟨rfl, hb⟩; replace B : Hid (Below w.heap.size w w1) := B.out.trans (hb.mono B.out.size); clear hb; first | rw [IFF.out] | rw [IFG.out] | rw [IGH.out] | rw [IFH.out]) | (go_at_call 15; refine (meets_any _ _ _).mono ?_; rintro e w1 ⟨rfl, hb⟩; replace B : Hid (Below w.heap.size w w1) := B.out.trans (hb.mono B.out.size); clear hb; rw [MFG.out])); go_ret; exact ⟨rfl, B.out⟩)
        | true =>
          obtain rfl := K3.out rfl rfl
          (go_enter Try.func5, Try.ntmps5; go_wp2_with (first | (go_at_call 13; refine (known_any _).mono ?_; rintro e w1 ⟨rfl, hb⟩; replace B : Hid (Below w.heap.size w w1) := B.out.trans (hb.mono B.out.size); clear hb) | (go_at_call 7; refine (meet_any _ _ _).mono ?_; rintro e w1 ⟨rfl, hb⟩; replace B : Hid (Below w.heap.size w w1) := B.out.trans (hb.mono B.out.size); clear hb; first | rw [FH.out] | rw [HF.out] | rw [GH.out] | rw [SF.out]) | (go_at_call 12; refine (within_any _ _ _).mono ?_; rintro e w1 ⟨rfl, hb⟩; replace B : Hid (Below w.heap.size w w1) := B.out.trans (hb.mono B.out.size); clear hb; first | rw [IFF.out] | rw [IFG.out] | rw [IGH.out] | rw [IFH.out]) | (go_at_call 15; refine (meets_any _ _ _).mono ?_; rintro e w1 ⟨rfl, hb⟩; replace B : Hid (Below w.heap.size w w1) := B.out.trans (hb.mono B.out.size); clear hb; rw [MFG.out])); go_ret; exact ⟨rfl, B.out⟩)
      | true =>
        obtain rfl := K2.out rfl rfl
        cases sf with
        | false =>
          (go_enter Try.func5, Try.ntmps5; go_wp2_with (first | (go_at_call 13; refine (known_any _).mono ?_; rintro e w1 ⟨rfl, hb⟩; replace B : Hid (Below w.heap.size w w1) := B.out.trans (hb.mono B.out.size); clear hb) | (go_at_call 7; refine (meet_any _ _ _).mono ?_; rintro e w1 ⟨rfl, hb⟩; replace B : Hid (Below w.heap.size w w1) := B.out.trans (hb.mono B.out.size); clear hb; first | rw [FH.out] | rw [HF.out] | rw [GH.out] | rw [SF.out]) | (go_at_call 12; refine (within_any _ _ _).mono ?_; rintro e w1 ⟨rfl, hb⟩; replace B : Hid (Below w.heap.size w w1) := B.out.trans (hb.mono B.out.size); clear hb; first | rw [IFF.out] | rw [IFG.out] | rw [IGH.out] | rw [IFH.out]) | (go_at_call 15; refine (meets_any _ _ _).mono ?_; rintro e w1 ⟨rfl, hb⟩; replace B : Hid (Below w.heap.size w w1) := B.out.trans (hb.mono B.out.size); clear hb; rw [MFG.out])); go_ret; exact ⟨rfl, B.out⟩)
        | true =>
          obtain rfl := K3.out rfl rfl
          (go_enter Try.func5, Try.ntmps5; go_wp2_with (first | (go_at_call 13; refine (known_any _).mono ?_; rintro e w1 ⟨rfl, hb⟩; replace B : Hid (Below w.heap.size w w1) := B.out.trans (hb.mono B.out.size); clear hb) | (go_at_call 7; refine (meet_any _ _ _).mono ?_; rintro e w1 ⟨rfl, hb⟩; replace B : Hid (Below w.heap.size w w1) := B.out.trans (hb.mono B.out.size); clear hb; first | rw [FH.out] | rw [HF.out] | rw [GH.out] | rw [SF.out]) | (go_at_call 12; refine (within_any _ _ _).mono ?_; rintro e w1 ⟨rfl, hb⟩; replace B : Hid (Below w.heap.size w w1) := B.out.trans (hb.mono B.out.size); clear hb; first | rw [IFF.out] | rw [IFG.out] | rw [IGH.out] | rw [IFH.out]) | (go_at_call 15; refine (meets_any _ _ _).mono ?_; rintro e w1 ⟨rfl, hb⟩; replace B : Hid (Below w.heap.size w w1) := B.out.trans (hb.mono B.out.size); clear hb; rw [MFG.out])); go_ret; exact ⟨rfl, B.out⟩)
    | true =>
      obtain rfl := K1.out rfl rfl
      cases igh with
      | false =>
        cases sf with
        | false =>
          (go_enter Try.func5, Try.ntmps5; go_wp2_with (first | (go_at_call 13; refine (known_any _).mono ?_; rintro e w1 ⟨rfl, hb⟩; replace B : Hid (Below w.heap.size w w1) := B.out.trans (hb.mono B.out.size); clear hb) | (go_at_call 7; refine (meet_any _ _ _).mono ?_; rintro e w1 ⟨rfl, hb⟩; replace B : Hid (Below w.heap.size w w1) := B.out.trans (hb.mono B.out.size); clear hb; first | rw [FH.out] | rw [HF.out] | rw [GH.out] | rw [SF.out]) | (go_at_call 12; refine (within_any _ _ _).mono ?_; rintro e w1 ⟨rfl, hb⟩; replace B : Hid (Below w.heap.size w w1) := B.out.trans (hb.mono B.out.size); clear hb; first | rw [IFF.out] | rw [IFG.out] | rw [IGH.out] | rw [IFH.out]) | (go_at_call 15; refine (meets_any _ _ _).mono ?_; rintro e w1 ⟨rfl, hb⟩; replace B : Hid (Below w.heap.size w w1) := B.out.trans (hb.mono B.out.size); clear hb; rw [MFG.out])); go_ret; exact ⟨rfl, B.out⟩)
        | true =>
          obtain rfl := K3.out rfl rfl
          (go_enter Try.func5, Try.ntmps5; go_wp2_with (first | (go_at_call 13; refine (known_any _).mono ?_; rintro e w1 ⟨rfl, hb⟩; replace B : Hid (Below w.heap.size w w1) := B.out.trans (hb.mono B.out.size); clear hb) | (go_at_call 7; refine (meet_any _ _ _).mono ?_; rintro e w1 ⟨rfl, hb⟩; replace B : Hid (Below w.heap.size w w1) := B.out.trans (hb.mono B.out.size); clear hb; first | rw [FH.out] | rw [HF.out] | rw [GH.out] | rw [SF.out]) | (go_at_call 12; refine (within_any _ _ _).mono ?_; rintro e w1 ⟨rfl, hb⟩; replace B : Hid (Below w.heap.size w w1) := B.out.trans (hb.mono B.out.size); clear hb; first | rw [IFF.out] | rw [IFG.out] | rw [IGH.out] | rw [IFH.out]) | (go_at_call 15; refine (meets_any _ _ _).mono ?_; rintro e w1 ⟨rfl, hb⟩; replace B : Hid (Below w.heap.size w w1) := B.out.trans (hb.mono B.out.size); clear hb; rw [MFG.out])); go_ret; exact ⟨rfl, B.out⟩)
      | true =>
        obtain rfl := K2.out rfl rfl
        cases sf with
        | false =>
          (go_enter Try.func5, Try.ntmps5; go_wp2_with (first | (go_at_call 13; refine (known_any _).mono ?_; rintro e w1 ⟨rfl, hb⟩; replace B : Hid (Below w.heap.size w w1) := B.out.trans (hb.mono B.out.size); clear hb) | (go_at_call 7; refine (meet_any _ _ _).mono ?_; rintro e w1 ⟨rfl, hb⟩; replace B : Hid (Below w.heap.size w w1) := B.out.trans (hb.mono B.out.size); clear hb; first | rw [FH.out] | rw [HF.out] | rw [GH.out] | rw [SF.out]) | (go_at_call 12; refine (within_any _ _ _).mono ?_; rintro e w1 ⟨rfl, hb⟩; replace B : Hid (Below w.heap.size w w1) := B.out.trans (hb.mono B.out.size); clear hb; first | rw [IFF.out] | rw [IFG.out] | rw [IGH.out] | rw [IFH.out]) | (go_at_call 15; refine (meets_any _ _ _).mono ?_; rintro e w1 ⟨rfl, hb⟩; replace B : Hid (Below w.heap.size w w1) := B.out.trans (hb.mono B.out.size); clear hb; rw [MFG.out])); go_ret; exact ⟨rfl, B.out⟩)
        | true =>
          obtain rfl := K3.out rfl rfl
          (go_enter Try.func5, Try.ntmps5; go_wp2_with (first | (go_at_call 13; refine (known_any _).mono ?_; rintro e w1 ⟨rfl, hb⟩; replace B : Hid (Below w.heap.size w w1) := B.out.trans (hb.mono B.out.size); clear hb) | (go_at_call 7; refine (meet_any _ _ _).mono ?_; rintro e w1 ⟨rfl, hb⟩; replace B : Hid (Below w.heap.size w w1) := B.out.trans (hb.mono B.out.size); clear hb; first | rw [FH.out] | rw [HF.out] | rw [GH.out] | rw [SF.out]) | (go_at_call 12; refine (within_any _ _ _).mono ?_; rintro e w1 ⟨rfl, hb⟩; replace B : Hid (Below w.heap.size w w1) := B.out.trans (hb.mono B.out.size); clear hb; first | rw [IFF.out] | rw [IFG.out] | rw [IGH.out] | rw [IFH.out]) | (go_at_call 15; refine (meets_any _ _ _).mono ?_; rintro e w1 ⟨rfl, hb⟩; replace B : Hid (Below w.heap.size w w1) := B.out.trans (hb.mono B.out.size); clear hb; rw [MFG.out])); go_ret; exact ⟨rfl, B.out⟩)
end Go.Proofs.Ytglnldopnoafoaa
