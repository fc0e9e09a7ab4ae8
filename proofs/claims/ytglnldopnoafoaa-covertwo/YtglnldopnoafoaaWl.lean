import Derived.Test.YtglnldopnoafoaaWk
namespace Go.Proofs.Ytglnldopnoafoaa
open Go Go.RowKit
set_option linter.unusedSimpArgs false
set_option linter.unusedVariables false

set_option maxRecDepth 100000 in
set_option maxHeartbeats 2000000 in
theorem outf_any (f g : ByteArray) (w : World) : Calls Try.prog 10 #[.string f, .string g] w fun e w' => e = .returned (.tuple #[.string (mkB ((outP f g).getD [])), .bool (outP f g).isSome]) ∧ Below w.heap.size w w' := by
  have LF : Hid (∀ w, Calls Try.prog 17 #[.string f] w fun e w' => ∃ v, e = .returned v ∧ Row w' v ((lvO f).map mkB) ∧ Below w.heap.size w w') := fun w => lv_any f w
  have LG : Hid (∀ w, Calls Try.prog 17 #[.string g] w fun e w' => ∃ v, e = .returned v ∧ Row w' v ((lvO g).map mkB) ∧ Below w.heap.size w w') := fun w => lv_any g w
  have HN : Hid ((lvO f).length ≤ 65537) := lvO_len f
  obtain ⟨cc, ec⟩ : ∃ cc, outL (lvO f) (lvO g) = cc := ⟨_, rfl⟩
  have HT : Hid (∀ t, cc = some t → t ≠ [] ∧ t.length ≤ 1000000 ∧ (joinL t).length ≤ 1000000) := by
    intro t ht
    rw [ht] at ec
    have hf : rfc f = 0 := Classical.byContradiction fun h => by simp [outL, lvO_no h] at ec
    obtain ⟨s1, s2, s3, s4, s5, s6⟩ := out_shape (lvO_lv hf) (fun b s => lv_first b s) ec
    refine ⟨s1, ?_, by omega⟩
    have h1 := tot_join t
    have h2 : t.length ≤ tot t := by
      have : ∀ l : List Bs, l.length ≤ tot l := by
        intro l
        induction l with
        | nil => simp [tot]
        | cons x r ih => simp only [tot, List.length_cons]; omega
      exact this t
    omega
  unfold outP
  rw [ec]
  have HO : Hid (∀ (vf vg : Value) (w : World), Row w vf ((lvO f).map mkB) → Row w vg ((lvO g).map mkB) → Calls Try.prog 30 #[vf, vg] w fun e w' => ∃ v, e = .returned (.tuple #[v, .bool cc.isSome]) ∧ Told w' w.heap.size v cc ∧ Below w.heap.size w w') := by
    intro vf vg w R1 R2
    have := outside_any ((lvO f).map mkB) ((lvO g).map mkB) (by have := HN.out; simp; omega) vf vg w R1 R2
    rw [map_un_mk, map_un_mk, ec] at this
    exact this
  obtain ⟨A, eA⟩ : ∃ A, (lvO f).map mkB = A := ⟨_, rfl⟩
  obtain ⟨B, eB⟩ : ∃ B, (lvO g).map mkB = B := ⟨_, rfl⟩
  rw [eA] at LF HO
  rw [eB] at LG HO
  clear ec eA eB HN
  go_enter Try.func10, Try.ntmps10
  go_wp2_with fail
  go_must (go_at_call 17)
  refine (LF.out w).mono ?_
  rintro e w1 ⟨v1, rfl, r1, b1⟩
  have R1 : Hid (Row w1 v1 A) := r1
  have B1 : Hid (Below w.heap.size w w1) := b1
  clear r1 b1
  go_wp2_with fail
  go_must (go_at_call 17)
  refine (LG.out w1).mono ?_
  rintro e w2 ⟨v2, rfl, r2, b2⟩
  have R2 : Hid (Row w2 v2 B) := r2
  have R12 : Hid (Row w2 v1 A) := R1.out.later b2
  have B2 : Hid (Below w.heap.size w w2) := B1.out.trans (b2.mono B1.out.size)
  clear r2 b2
  go_wp2_with fail
  go_must (go_at_call 30)
  refine (HO.out _ _ w2 R12.out R2.out).mono ?_
  rintro e w3 ⟨v3, rfl, ht, hb⟩
  have T3 : Hid (Told w3 w2.heap.size v3 cc) := ht
  have B23 : Hid (Below w2.heap.size w2 w3) := hb
  have B3 : Hid (Below w.heap.size w w3) := B2.out.trans (hb.mono B2.out.size)
  clear ht hb
  cases cc with
  | none =>
    go_wp2_with fail
    go_ret2
    exact ⟨rfl, B3.out⟩
  | some t =>
    have TT : Hid (Calls Try.prog 20 #[v3] w3 fun e w' => e = .returned (.string (mkB (joinL t))) ∧ Below w.heap.size w w') := by
      have h4 := HT.out t rfl
      refine (turned_any t v3 w2.heap.size w3 B23.out.size (T3.out t rfl) h4.1 h4.2.1 h4.2.2).mono ?_
      rintro e w' ⟨he, hb⟩
      exact ⟨he, B3.out.trans (hb.mono B2.out.size)⟩
    go_wp2_with fail
    go_must (go_at_call 20)
    refine TT.out.mono ?_
    rintro e w4 ⟨rfl, hb⟩
    have B4 : Hid (Below w.heap.size w w4) := hb
    clear hb
    go_wp2_with fail
    go_ret2
    exact ⟨rfl, B4.out⟩
/-- Within: whether the first lies within the second. -/
def inP (f g : ByteArray) : Bool := (outP f g).isNone
set_option maxRecDepth 100000 in
set_option maxHeartbeats 2000000 in
theorem within_any (f g : ByteArray) (w : World) : Calls Try.prog 12 #[.string f, .string g] w fun e w' => e = .returned (.bool (inP f g)) ∧ Below w.heap.size w w' := by
  have LF : Hid (∀ w, Calls Try.prog 17 #[.string f] w fun e w' => ∃ v, e = .returned v ∧ Row w' v ((lvO f).map mkB) ∧ Below w.heap.size w w') := fun w => lv_any f w
  have LG : Hid (∀ w, Calls Try.prog 17 #[.string g] w fun e w' => ∃ v, e = .returned v ∧ Row w' v ((lvO g).map mkB) ∧ Below w.heap.size w w') := fun w => lv_any g w
  have HN : Hid ((lvO f).length ≤ 65537) := lvO_len f
  have e0 : inP f g = (outL (lvO f) (lvO g)).isNone := by unfold inP outP; cases outL (lvO f) (lvO g) <;> rfl
  rw [e0]
  have HO : Hid (∀ (vf vg : Value) (w : World), Row w vf ((lvO f).map mkB) → Row w vg ((lvO g).map mkB) → Calls Try.prog 32 #[vf, vg] w fun e w' => e = .returned (.bool (outL (lvO f) (lvO g)).isNone) ∧ Below w.heap.size w w') := by
    intro vf vg w R1 R2
    have := within_row ((lvO f).map mkB) ((lvO g).map mkB) (by have := HN.out; simp; omega) vf vg w R1 R2
    rw [map_un_mk, map_un_mk] at this
    exact this
  obtain ⟨A, eA⟩ : ∃ A, (lvO f).map mkB = A := ⟨_, rfl⟩
  obtain ⟨B, eB⟩ : ∃ B, (lvO g).map mkB = B := ⟨_, rfl⟩
  obtain ⟨c, ec⟩ : ∃ c, (outL (lvO f) (lvO g)).isNone = c := ⟨_, rfl⟩
  rw [eA] at LF HO
  rw [eB] at LG HO
  rw [ec] at HO ⊢
  clear ec eA eB HN e0
  go_enter Try.func12, Try.ntmps12
  go_wp2_with fail
  go_must (go_at_call 17)
  refine (LF.out w).mono ?_
  rintro e w1 ⟨v1, rfl, r1, b1⟩
  have R1 : Hid (Row w1 v1 A) := r1
  have B1 : Hid (Below w.heap.size w w1) := b1
  clear r1 b1
  go_wp2_with fail
  go_must (go_at_call 17)
  refine (LG.out w1).mono ?_
  rintro e w2 ⟨v2, rfl, r2, b2⟩
  have R2 : Hid (Row w2 v2 B) := r2
  have R12 : Hid (Row w2 v1 A) := R1.out.later b2
  have B2 : Hid (Below w.heap.size w w2) := B1.out.trans (b2.mono B1.out.size)
  clear r2 b2
  go_wp2_with fail
  go_must (go_at_call 32)
  refine (HO.out _ _ w2 R12.out R2.out).mono ?_
  rintro e w3 ⟨rfl, hb⟩
  have B3 : Hid (Below w.heap.size w w3) := B2.out.trans (hb.mono B2.out.size)
  clear hb
  go_wp2_with fail
  go_ret
  exact ⟨rfl, B3.out⟩
end Go.Proofs.Ytglnldopnoafoaa
