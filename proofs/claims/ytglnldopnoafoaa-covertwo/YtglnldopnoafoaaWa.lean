import Derived.Test.YtglnldopnoafoaaVb
import Derived.Test.YtglnldopnoafoaaShelf
namespace Go.Proofs.Ytglnldopnoafoaa
open Go Go.RowKit
set_option linter.unusedSimpArgs false
set_option linter.unusedVariables false

set_option maxRecDepth 100000 in
set_option maxHeartbeats 1000000 in
theorem isSign_any (s : ByteArray) (w : World) : Calls Try.prog 42 #[.string s] w fun e w' => e = .returned (.bool (sgB (unB s))) ∧ w' = w := by
  have e0 : sgB (unB s) = ((s.toList == [43]) || (s.toList == [35])) := by rw [eq_one', eq_one']; rfl
  rw [e0]
  clear e0
  obtain ⟨b1, h1⟩ : ∃ b, (s.toList == [43]) = b := ⟨_, rfl⟩
  obtain ⟨b2, h2⟩ : ∃ b, (s.toList == [35]) = b := ⟨_, rfl⟩
  go_enter Try.func42, Try.ntmps42
  rw [h1, h2]
  cases b1 <;> cases b2 <;> (go_wp2_with fail; go_ret; exact ⟨by simp [h1, h2], rfl⟩)
set_option maxRecDepth 100000 in
set_option maxHeartbeats 1000000 in
theorem fill_any (s : ByteArray) (w : World) : Calls Try.prog 65 #[.string s] w fun e w' => e = .returned (.string (mkB (fillB (unB s)))) ∧ w' = w := by
  obtain ⟨b, hb⟩ : ∃ b, sgB (unB s) = b := ⟨_, rfl⟩
  have HS : Hid (∀ w, Calls Try.prog 42 #[.string s] w fun e w' => e = .returned (.bool b) ∧ w' = w) := by intro w; have := isSign_any s w; rw [hb] at this; exact this
  have e0 : fillB (unB s) = if b then [97] else unB s := by rw [fillB, hb]
  rw [e0]
  clear e0 hb
  go_enter Try.func65, Try.ntmps65
  cases b with
  | true =>
    go_wp2_with (go_at_call 42; refine (HS.out _).mono ?_; rintro e w1 ⟨rfl, rfl⟩)
    go_ret
    exact ⟨rfl, rfl⟩
  | false =>
    go_wp2_with (go_at_call 42; refine (HS.out _).mono ?_; rintro e w1 ⟨rfl, rfl⟩)
    go_ret
    exact ⟨by simp [mk_un], rfl⟩
set_option maxRecDepth 100000 in
set_option maxHeartbeats 1000000 in
theorem comLevel_any (s t : ByteArray) (w : World) : Calls Try.prog 45 #[.string s, .string t] w fun e w' => e = .returned (.tuple #[.string (mkB ((comL (unB s) (unB t)).getD [])), .bool (comL (unB s) (unB t)).isSome]) ∧ w' = w := by
  obtain ⟨b, hb⟩ : ∃ b, sgB (unB s) = b := ⟨_, rfl⟩
  obtain ⟨c, hc⟩ : ∃ c, sgB (unB t) = c := ⟨_, rfl⟩
  obtain ⟨d, hd⟩ : ∃ d, (s.toList == t.toList) = d := ⟨_, rfl⟩
  have e0 : comL (unB s) (unB t) = if b && c then some [] else if b then some (unB t) else if c || d then some (unB s) else none := by
    rw [comL, hb, hc]
    have : decide (unB s = unB t) = d := by rw [← eq_two, hd]
    rw [this]
  rw [e0]
  have HD : Hid ((s.toList == t.toList) = d) := hd
  have HB : Hid (sgB (unB s) = b) := hb
  have HC : Hid (sgB (unB t) = c) := hc
  clear e0 hb hc hd
  go_enter Try.func45, Try.ntmps45
  cases b with
  | true =>
    cases c with
    | true =>
      go_wp2_with (go_at_call 42; refine (isSign_any _ _).mono ?_; rintro e w1 ⟨rfl, rfl⟩; first | rw [HB.out] | rw [HC.out])
      go_ret2
      exact ⟨rfl, rfl⟩
    | false =>
      go_wp2_with (go_at_call 42; refine (isSign_any _ _).mono ?_; rintro e w1 ⟨rfl, rfl⟩; first | rw [HB.out] | rw [HC.out])
      go_ret2
      exact ⟨by simp [mk_un], rfl⟩
  | false =>
    cases c with
    | true =>
      go_wp2_with (go_at_call 42; refine (isSign_any _ _).mono ?_; rintro e w1 ⟨rfl, rfl⟩; first | rw [HB.out] | rw [HC.out])
      go_ret2
      exact ⟨by simp [mk_un], rfl⟩
    | false =>
      have hd := HD.out
      cases d with
      | true =>
        go_wp2_with (go_at_call 42; refine (isSign_any _ _).mono ?_; rintro e w1 ⟨rfl, rfl⟩; first | rw [HB.out] | rw [HC.out])
        go_ret2
        exact ⟨by simp [mk_un], rfl⟩
      | false =>
        go_wp2_with (go_at_call 42; refine (isSign_any _ _).mono ?_; rintro e w1 ⟨rfl, rfl⟩; first | rw [HB.out] | rw [HC.out])
        go_ret2
        exact ⟨rfl, rfl⟩
set_option maxRecDepth 100000 in
set_option maxHeartbeats 1000000 in
theorem mayEnd_any (xs : List ByteArray) (v : Value) (w : World) (R : Row w v xs) : Calls Try.prog 44 #[v] w fun e w' => e = .returned (.bool (mayE (xs.map unB))) ∧ w' = w := by
  cases xs with
  | nil =>
    obtain ⟨a, cap, rfl⟩ := R.nil
    clear R
    go_enter Try.func44, Try.ntmps44
    go_wp2_with fail
    go_ret
    exact ⟨rfl, rfl⟩
  | cons x r =>
    obtain ⟨g, o, n, cap, rfl, hn, hc, hg, c0, hk⟩ := R.cons
    have e0 : mayE ((x :: r).map unB) = (x.toList == [35]) := by rw [eq_one']; rfl
    rw [e0]
    obtain ⟨b, hb⟩ : ∃ b, (x.toList == [35]) = b := ⟨_, rfl⟩
    have q0 : ((n : Int) == 0) = false := by rw [beq_eq_false_iff_ne]; omega
    have q1 : (0 : Int) < n := by omega
    clear R hk e0 hn hc hg
    go_enter Try.func44, Try.ntmps44
    rw [hb]
    cases b <;> (go_wp2_with fail; go_ret; exact ⟨by simp [hb], rfl⟩)
set_option maxRecDepth 100000 in
set_option maxHeartbeats 1000000 in
theorem behind_any (x : ByteArray) (r : List ByteArray) (v : Value) (w : World) (R : Row w v (x :: r)) : Calls Try.prog 46 #[v] w fun e w' => ∃ v', e = .returned v' ∧ Row w v' (if unB x = [35] then x :: r else r) ∧ w' = w := by
  have RR : Hid (Row w v (x :: r)) := R
  obtain ⟨g, o, n, cap, rfl, hn, hc, hg, c0, hk⟩ := R.cons
  have RT2 : Hid (∀ a c, (a = some ⟨g, o + 1, none⟩ ∨ n = 1) → n - 1 ≤ c → Row w (.slice a (n - 1) c) r) := by
    intro a c ha hc2
    refine ⟨_, _, _, rfl, by omega, hc2, fun hne => ?_⟩
    have : ¬ n = 1 := by
      intro h
      exact hne (List.eq_nil_of_length_eq_zero (by omega))
    rcases ha with ha | ha
    · exact ⟨g, o + 1, ha, hg, fun k y hy => by have := hk k y hy; rw [show o + 1 + k = o + (k + 1) by omega]; exact this⟩
    · exact absurd ha this
  obtain ⟨b, hb⟩ : ∃ b, (x.toList == [35]) = b := ⟨_, rfl⟩
  have e0 : (if unB x = [35] then x :: r else r) = if b then x :: r else r := by
    rw [← hb, eq_one']; simp
  rw [e0]
  have q1 : (0 : Int) < n := by omega
  have q2 : (1 : Int) ≤ n := by omega
  have q3 : (n : Int) ≤ cap := by omega
  clear R hk e0 hn hc hg
  go_enter Try.func46, Try.ntmps46
  cases b with
  | true =>
    go_wp2_with fail
    go_ret
    exact ⟨_, rfl, RR.out, rfl⟩
  | false =>
    go_wp2_with fail
    all_goals go_ret
    all_goals refine ⟨_, rfl, ?_, rfl⟩
    all_goals first | exact RT2.out _ _ (.inl rfl) (by omega) | exact RT2.out _ _ (.inr (by omega)) (by omega)
set_option maxRecDepth 100000 in
set_option maxHeartbeats 1000000 in
theorem lvl_any (s t : ByteArray) (w : World) : Calls Try.prog 66 #[.string s, .string t] w fun e w' => e = .returned (.tuple #[.string (mkB (lvlB (unB s) (unB t)).1), .bool (lvlB (unB s) (unB t)).2]) ∧ w' = w := by
  obtain ⟨b, hb⟩ : ∃ b, sgB (unB s) = b := ⟨_, rfl⟩
  obtain ⟨c, hc⟩ : ∃ c, sgB (unB t) = c := ⟨_, rfl⟩
  obtain ⟨d, hd⟩ : ∃ d, (t.toList == [97]) = d := ⟨_, rfl⟩
  obtain ⟨q, hq⟩ : ∃ q, fillB (unB s) = q := ⟨_, rfl⟩
  obtain ⟨k, hk⟩ : ∃ k, ((mkB q).toList != t.toList) = k := ⟨_, rfl⟩
  have e0 : lvlB (unB s) (unB t) = if c then (q, false) else if b && d then ([98], true) else (q, k) := by
    rw [lvlB, hb, hc, hq]
    have h1 : decide (unB t = [97]) = d := by rw [← eq_one', hd]
    have h2 : decide (q ≠ unB t) = k := by rw [← hk, bne, eq_two, un_mk]; simp
    rw [h1, h2]
  rw [e0]
  have HD : Hid ((t.toList == [97]) = d) := hd
  have HB : Hid (sgB (unB s) = b) := hb
  have HC : Hid (sgB (unB t) = c) := hc
  have HK : Hid (((mkB q).toList != t.toList) = k) := hk
  have HQ : Hid (∀ w, Calls Try.prog 65 #[.string s] w fun e w' => e = .returned (.string (mkB q)) ∧ w' = w) := by intro w; have := fill_any s w; rw [hq] at this; exact this
  clear e0 hb hc hd hk hq
  go_enter Try.func66, Try.ntmps66
  cases c with
  | true =>
    go_wp2_with (first | (go_at_call 42; refine (isSign_any _ _).mono ?_; rintro e w1 ⟨rfl, rfl⟩; first | rw [HB.out] | rw [HC.out]) | (go_at_call 65; refine (HQ.out _).mono ?_; rintro e w1 ⟨rfl, rfl⟩))
    go_ret2
    exact ⟨rfl, rfl⟩
  | false =>
    have hd := HD.out
    have hk := HK.out
    have hk2 : ((mkB q).toList == t.toList) = !k := by rw [← hk]; simp [bne]
    cases b with
    | true =>
      cases d with
      | true =>
        go_wp2_with (first | (go_at_call 42; refine (isSign_any _ _).mono ?_; rintro e w1 ⟨rfl, rfl⟩; first | rw [HB.out] | rw [HC.out]) | (go_at_call 65; refine (HQ.out _).mono ?_; rintro e w1 ⟨rfl, rfl⟩))
        go_ret2
        exact ⟨rfl, rfl⟩
      | false =>
        go_wp2_with (first | (go_at_call 42; refine (isSign_any _ _).mono ?_; rintro e w1 ⟨rfl, rfl⟩; first | rw [HB.out] | rw [HC.out]) | (go_at_call 65; refine (HQ.out _).mono ?_; rintro e w1 ⟨rfl, rfl⟩))
        go_ret2
        exact ⟨by simp [hk2], rfl⟩
    | false =>
      go_wp2_with (first | (go_at_call 42; refine (isSign_any _ _).mono ?_; rintro e w1 ⟨rfl, rfl⟩; first | rw [HB.out] | rw [HC.out]) | (go_at_call 65; refine (HQ.out _).mono ?_; rintro e w1 ⟨rfl, rfl⟩))
      go_ret2
      exact ⟨by simp [hk2], rfl⟩
end Go.Proofs.Ytglnldopnoafoaa
