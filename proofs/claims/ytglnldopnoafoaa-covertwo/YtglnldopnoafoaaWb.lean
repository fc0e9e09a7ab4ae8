import Derived.Test.YtglnldopnoafoaaWa
import Derived.Lib.Slices
import Derived.Laws.Strings3
namespace Go.Proofs.Ytglnldopnoafoaa
open Go Go.RowKit
set_option linter.unusedSimpArgs false
set_option linter.unusedVariables false

set_option maxRecDepth 100000 in
set_option maxHeartbeats 1000000 in
theorem prefix60_any (s p : ByteArray) (w : World) : Calls Try.prog 60 #[.string s, .string p] w fun e w' => e = .returned (.bool (Lib.hasPrefix s.data.toList p.data.toList)) ∧ w' = w := by
  rw [← Lib.hasPrefix_of_take, ← Lib.size_eq, ← Lib.size_eq]
  go_enter Try.func60, Try.ntmps60
  go_wp2
  · rename_i h
    go_ret
    refine ⟨?_, rfl⟩
    show Ending.returned (Value.bool ((s.extract 0 p.size).toList == p.toList)) = _
    rw [Lib.extract_toList, Lib.toList_data]
    simp [h]
  · rename_i h
    go_ret
    refine ⟨?_, rfl⟩
    show Ending.returned (Value.bool false) = _
    simp [h]
set_option maxRecDepth 100000 in
set_option maxHeartbeats 1000000 in
theorem dollar_any (s : ByteArray) (w : World) : Calls Try.prog 43 #[.string s, .string ⟨#[36]⟩] w fun e w' => e = .returned (.bool (dol (unB s))) ∧ w' = w := by
  have e0 : dol (unB s) = Lib.hasPrefix s.data.toList [36] := rfl
  have HP : Hid (∀ w, Calls Try.prog 60 #[.string s, .string ⟨#[36]⟩] w fun e w' => e = .returned (.bool (dol (unB s))) ∧ w' = w) := fun w => prefix60_any s ⟨#[36]⟩ w
  obtain ⟨b, hb⟩ : ∃ b, dol (unB s) = b := ⟨_, rfl⟩
  rw [hb] at HP ⊢
  clear e0 hb
  go_enter Try.func43, Try.ntmps43
  go_wp2_with (go_at_call 60; refine (HP.out _).mono ?_; rintro e w1 ⟨rfl, rfl⟩)
  go_ret
  exact ⟨rfl, rfl⟩
set_option maxRecDepth 100000 in
set_option maxHeartbeats 1000000 in
theorem hides_any (x y : ByteArray) (r s : List ByteArray) (vf vg : Value) (w : World) (Rf : Row w vf (x :: r)) (Rg : Row w vg (y :: s)) : Calls Try.prog 18 #[vf, vg] w fun e w' => e = .returned (.bool (hidL ((x :: r).map unB) ((y :: s).map unB))) ∧ w' = w := by
  obtain ⟨g, o, n, cap, rfl, hn, hc, hg, c0, hk⟩ := Rf.cons
  obtain ⟨g2, o2, n2, cap2, rfl, hn2, hc2, hg2, c2, hk2⟩ := Rg.cons
  have e0 : hidL ((x :: r).map unB) ((y :: s).map unB) = (sgB (unB x) && dol (unB y)) := rfl
  rw [e0]
  obtain ⟨b, hb⟩ : ∃ b, sgB (unB x) = b := ⟨_, rfl⟩
  obtain ⟨d, hd⟩ : ∃ d, dol (unB y) = d := ⟨_, rfl⟩
  have HS : Hid (∀ w, Calls Try.prog 42 #[.string x] w fun e w' => e = .returned (.bool b) ∧ w' = w) := by intro w; have := isSign_any x w; rw [hb] at this; exact this
  have HD : Hid (∀ w, Calls Try.prog 43 #[.string y, .string ⟨#[36]⟩] w fun e w' => e = .returned (.bool d) ∧ w' = w) := by intro w; have := dollar_any y w; rw [hd] at this; exact this
  rw [hb, hd]
  have q0 : (0 : Int) < n := by omega
  have q1 : (0 : Int) < n2 := by omega
  clear e0 hb hd Rf Rg hk hk2 hn hn2 hc hc2 hg hg2
  go_enter Try.func18, Try.ntmps18
  cases b with
  | true =>
    go_wp2_with (first | (go_at_call 42; refine (HS.out _).mono ?_; rintro e w1 ⟨rfl, hee⟩; obtain rfl := hee.symm) | (go_at_call 43; refine (HD.out _).mono ?_; rintro e w1 ⟨rfl, hee⟩; obtain rfl := hee.symm))
    go_ret
    exact ⟨by simp, rfl⟩
  | false =>
    go_wp2_with (first | (go_at_call 42; refine (HS.out _).mono ?_; rintro e w1 ⟨rfl, hee⟩; obtain rfl := hee.symm) | (go_at_call 43; refine (HD.out _).mono ?_; rintro e w1 ⟨rfl, hee⟩; obtain rfl := hee.symm))
    go_ret
    exact ⟨rfl, rfl⟩

theorem com_length : ∀ (n : Nat) (f g t : List Bs), com n f g = some t → t.length ≤ n
  | 0, f, g, t, h => by simp [com] at h
  | n + 1, f, g, t, h => by
    unfold com at h
    split at h
    · simp only [Option.some.injEq] at h; subst h; simp
    · cases f with
      | nil => simp at h
      | cons a r =>
        cases g with
        | nil => simp at h
        | cons b s =>
          simp only at h
          cases e : comL a b with
          | none => rw [e] at h; cases h
          | some l =>
            rw [e] at h
            cases e2 : com n (behL (a :: r)) (behL (b :: s)) with
            | none => rw [e2] at h; cases h
            | some u =>
              rw [e2] at h
              simp only [Option.map_some, Option.some.injEq] at h
              subst h
              have := com_length n _ _ _ e2
              simp; exact this
/-- A row of levels, the last one first, or none. -/
def Told (w' : World) (B : Nat) (v : Value) (x : Option (List Bs)) : Prop := ∀ t, x = some t → w'.ownsRow B 9 1 v t.length ((t.reverse.map mkB).map Value.string)
abbrev ComOk (n : Nat) (fs gs : List ByteArray) : Prop := ∀ (vf vg : Value) (w : World), Row w vf fs → Row w vg gs → Calls Try.prog 19 #[vf, vg] w fun e w' => ∃ v, e = .returned (.tuple #[v, .bool (com n (fs.map unB) (gs.map unB)).isSome]) ∧ Told w' w.heap.size v (com n (fs.map unB) (gs.map unB)) ∧ Below w.heap.size w w'

theorem told_nil (w : World) (B : Nat) : Told w B (.slice none 0 0) (some []) := by
  intro t ht
  simp only [Option.some.injEq] at ht
  subst ht
  exact World.ownsRow_nil _ _ _ _
theorem told_none (w : World) (B : Nat) (v : Value) : Told w B v none := by intro t ht; cases ht

set_option maxRecDepth 100000 in
set_option maxHeartbeats 1000000 in
theorem common_both (n : Nat) (fs gs : List ByteArray) (h1 : mayE (fs.map unB) = true) (h2 : mayE (gs.map unB) = true) : ComOk (n + 1) fs gs := by
  intro vf vg w Rf Rg
  have e0 : com (n + 1) (fs.map unB) (gs.map unB) = some [] := by unfold com; rw [h1, h2]; rfl
  rw [e0]
  have H1 : Hid (Calls Try.prog 44 #[vf] w fun e w' => e = .returned (.bool true) ∧ w' = w) := by have := mayEnd_any fs vf w Rf; rw [h1] at this; exact this
  have H2 : Hid (Calls Try.prog 44 #[vg] w fun e w' => e = .returned (.bool true) ∧ w' = w) := by have := mayEnd_any gs vg w Rg; rw [h2] at this; exact this
  have B0 : Hid (Below w.heap.size w w) := Below.refl _ _
  clear e0 h1 h2 Rf Rg
  go_enter Try.func19, Try.ntmps19
  go_wp2_with fail
  go_must (go_at_call 44)
  refine H1.out.mono ?_
  rintro e w1 ⟨rfl, hee⟩
  obtain rfl := hee.symm
  clear hee
  go_wp2_with fail
  go_must (go_at_call 44)
  refine H2.out.mono ?_
  rintro e w1 ⟨rfl, hee⟩
  obtain rfl := hee.symm
  clear hee
  go_wp2_with fail
  go_ret2
  exact ⟨_, rfl, told_nil _ _, B0.out⟩
set_option maxRecDepth 100000 in
set_option maxHeartbeats 1000000 in
theorem common_left (n : Nat) (gs : List ByteArray) (h2 : mayE (gs.map unB) = false) : ComOk (n + 1) [] gs := by
  intro vf vg w Rf Rg
  have e0 : com (n + 1) (([] : List ByteArray).map unB) (gs.map unB) = none := by unfold com; rw [h2]; rfl
  rw [e0]
  have H1 : Hid (Calls Try.prog 44 #[vf] w fun e w' => e = .returned (.bool true) ∧ w' = w) := mayEnd_any [] vf w Rf
  have H2 : Hid (Calls Try.prog 44 #[vg] w fun e w' => e = .returned (.bool false) ∧ w' = w) := by have := mayEnd_any gs vg w Rg; rw [h2] at this; exact this
  have B0 : Hid (Below w.heap.size w w) := Below.refl _ _
  obtain ⟨a, cap, rfl⟩ := Rf.nil
  clear e0 h2 Rf Rg
  go_enter Try.func19, Try.ntmps19
  go_wp2_with fail
  go_must (go_at_call 44)
  refine H1.out.mono ?_
  rintro e w1 ⟨rfl, hee⟩
  obtain rfl := hee.symm
  clear hee
  go_wp2_with fail
  go_must (go_at_call 44)
  refine H2.out.mono ?_
  rintro e w1 ⟨rfl, hee⟩
  obtain rfl := hee.symm
  clear hee
  go_wp2_with fail
  go_ret2
  exact ⟨_, rfl, told_none _ _ _, B0.out⟩
set_option maxRecDepth 100000 in
set_option maxHeartbeats 1000000 in
theorem common_right (n : Nat) (x : ByteArray) (r : List ByteArray) (h1 : mayE ((x :: r).map unB) = false) : ComOk (n + 1) (x :: r) [] := by
  intro vf vg w Rf Rg
  have e0 : com (n + 1) ((x :: r).map unB) (([] : List ByteArray).map unB) = none := by unfold com; rw [h1]; rfl
  rw [e0]
  have H1 : Hid (Calls Try.prog 44 #[vf] w fun e w' => e = .returned (.bool false) ∧ w' = w) := by have := mayEnd_any (x :: r) vf w Rf; rw [h1] at this; exact this
  have B0 : Hid (Below w.heap.size w w) := Below.refl _ _
  obtain ⟨a2, cap2, rfl⟩ := Rg.nil
  obtain ⟨g, o, k, cap, rfl, hn, hc, hg, c0, hk⟩ := Rf.cons
  have q0 : ((k : Int) == 0) = false := by rw [beq_eq_false_iff_ne]; omega
  clear e0 h1 Rf Rg hk hg hc hn
  go_enter Try.func19, Try.ntmps19
  go_wp2_with fail
  go_must (go_at_call 44)
  refine H1.out.mono ?_
  rintro e w1 ⟨rfl, hee⟩
  obtain rfl := hee.symm
  clear hee
  go_wp2_with fail
  go_ret2
  exact ⟨_, rfl, told_none _ _ _, B0.out⟩
end Go.Proofs.Ytglnldopnoafoaa
