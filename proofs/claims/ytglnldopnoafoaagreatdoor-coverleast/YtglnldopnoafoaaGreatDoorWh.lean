import Derived.Test.YtglnldopnoafoaaGreatDoorWg
import Derived.Test.YtglnldopnoafoaaGreatDoorShelg
namespace Go.Proofs.YtglnldopnoafoaaGreatDoor
open Go Go.RowKit
set_option linter.unusedSimpArgs false
set_option linter.unusedVariables false

theorem holds_own {w : World} {B g n cap : Nat} {xs : List Bs} (h : w.ownsRow B 9 1 (.slice (some ⟨g, 0, none⟩) n cap) n ((xs.map mkB).map Value.string)) : Sort.Holds Proofs.encStr w g 0 xs.toArray := by
  intro j hj
  have hj' : j < xs.length := by simpa using hj
  have hc := h.cells (g := g) rfl j (Value.string (mkB xs[j])) (by simp [hj'])
  refine ⟨?_, h.frozenAt (0 + j)⟩
  have e : ((⟨g, 0, none⟩ : Addr).add j) = ⟨g, 0 + j, none⟩ := by
    cases j with
    | zero => rfl
    | succ j => simp [Addr.add]
  rw [← e, hc]
  simp [hj', mkB]
/-- What outside tells, of rows. -/
abbrev OutOk (fs gs : List ByteArray) : Prop := ∀ (vf vg : Value) (w : World), Row w vf fs → Row w vg gs → Calls Tryz.prog 60 #[vf, vg] w fun e w' => ∃ v, e = .returned (.tuple #[v, .bool (outL (fs.map unB) (gs.map unB)).isSome]) ∧ Told w' w.heap.size v (outL (fs.map unB) (gs.map unB)) ∧ Below w.heap.size w w'
set_option maxRecDepth 100000 in
set_option maxHeartbeats 1000000 in
theorem out_nil (gs : List ByteArray) : OutOk [] gs := by
  intro vf vg w Rf Rg
  have e0 : outL (([] : List ByteArray).map unB) (gs.map unB) = none := rfl
  rw [e0]
  obtain ⟨a, cap, rfl⟩ := Rf.nil
  have B0 : Hid (Below w.heap.size w w) := Below.refl _ _
  clear Rf Rg e0
  go_enter Tryz.func60, Tryz.ntmps60
  go_wp2_with fail
  go_ret2
  exact ⟨_, rfl, told_none _ _ _, B0.out⟩
set_option maxRecDepth 100000 in
set_option maxHeartbeats 1000000 in
theorem out_free (x : ByteArray) (r : List ByteArray) (hl : (x :: r).length ≤ 1000000) : OutOk (x :: r) [] := by
  intro vf vg w Rf Rg
  have e0 : outL ((x :: r).map unB) (([] : List ByteArray).map unB) = some (((x :: r).map unB).map fillB) := by simp [outL]
  rw [e0]
  obtain ⟨a2, cap2, rfl⟩ := Rg.nil
  have HF : Hid (Calls Tryz.prog 88 #[vf] w fun e w' => ∃ v, e = .returned v ∧ Told w' w.heap.size v (some (((x :: r).map unB).map fillB)) ∧ Below w.heap.size w w') := filled_told (x :: r) vf w Rf hl
  obtain ⟨g, o, k, cap, rfl, hn, hc, hg, c0, hk⟩ := Rf.cons
  have q0 : ((k : Int) == 0) = false := by rw [beq_eq_false_iff_ne]; omega
  obtain ⟨T, hT⟩ : ∃ T, ((x :: r).map unB).map fillB = T := ⟨_, rfl⟩
  rw [hT] at HF ⊢
  clear Rf Rg e0 hk hg hc hn hT hl
  go_enter Tryz.func60, Tryz.ntmps60
  go_wp2_with fail
  go_must (go_at_call 88)
  refine HF.out.mono ?_
  rintro e w1 ⟨v, rfl, ht, hb⟩
  have HT : Hid (Told w1 w.heap.size v (some T)) := ht
  have HB : Hid (Below w.heap.size w w1) := hb
  clear ht hb
  go_wp2_with fail
  go_ret2
  exact ⟨_, rfl, HT.out, HB.out⟩
set_option maxRecDepth 100000 in
set_option maxHeartbeats 1000000 in
theorem out_cons (x y : ByteArray) (r s : List ByteArray) (hl : (x :: r).length ≤ 1000000) : OutOk (x :: r) (y :: s) := by
  intro vf vg w Rf Rg
  obtain ⟨b, hb⟩ : ∃ b, hidL ((y :: s).map unB) ((x :: r).map unB) = b := ⟨_, rfl⟩
  have e0 : outL ((x :: r).map unB) ((y :: s).map unB) = if b = true then some (((x :: r).map unB).map fillB) else bey ((x :: r).map unB) ((y :: s).map unB) := by
    unfold outL; rw [hb]; simp
  rw [e0]
  have HH : Hid (Calls Tryz.prog 87 #[vg, vf] w fun e w' => e = .returned (.bool b) ∧ w' = w) := by have := hides_any y x s r vg vf w Rg Rf; rw [hb] at this; exact this
  have HF : Hid (Calls Tryz.prog 88 #[vf] w fun e w' => ∃ v, e = .returned v ∧ Told w' w.heap.size v (some (((x :: r).map unB).map fillB)) ∧ Below w.heap.size w w') := filled_told (x :: r) vf w Rf hl
  have HG : Hid (Calls Tryz.prog 89 #[vf, vg] w fun e w' => ∃ v, e = .returned (.tuple #[v, .bool (bey ((x :: r).map unB) ((y :: s).map unB)).isSome]) ∧ Told w' w.heap.size v (bey ((x :: r).map unB) ((y :: s).map unB)) ∧ Below w.heap.size w w') := bey_any (x :: r) (y :: s) hl vf vg w Rf Rg
  obtain ⟨g, o, k, cap, rfl, hn, hc, hg, c0, hk⟩ := Rf.cons
  obtain ⟨g2, o2, k2, cap2, rfl, hn2, hc2, hg2, c2, hk2⟩ := Rg.cons
  have q0 : ((k : Int) == 0) = false := by rw [beq_eq_false_iff_ne]; omega
  have q2 : ((k2 : Int) == 0) = false := by rw [beq_eq_false_iff_ne]; omega
  obtain ⟨T, hT⟩ : ∃ T, ((x :: r).map unB).map fillB = T := ⟨_, rfl⟩
  obtain ⟨U, hU⟩ : ∃ U, bey ((x :: r).map unB) ((y :: s).map unB) = U := ⟨_, rfl⟩
  rw [hT] at HF ⊢
  rw [hU] at HG ⊢
  clear Rf Rg e0 hk hg hc hn hk2 hg2 hc2 hn2 hT hU hl hb
  go_enter Tryz.func60, Tryz.ntmps60
  go_wp2_with fail
  go_must (go_at_call 87)
  refine HH.out.mono ?_
  rintro e w1 ⟨rfl, hee⟩
  obtain rfl := hee.symm
  clear hee
  cases b with
  | true =>
    go_wp2_with fail
    go_must (go_at_call 88)
    refine HF.out.mono ?_
    rintro e w1 ⟨v, rfl, ht, hb⟩
    have HT : Hid (Told w1 w.heap.size v (some T)) := ht
    have HB : Hid (Below w.heap.size w w1) := hb
    clear ht hb
    go_wp2_with fail
    go_ret2
    exact ⟨_, rfl, HT.out, HB.out⟩
  | false =>
    go_wp2_with fail
    go_must (go_at_call 89)
    refine HG.out.mono ?_
    rintro e w1 ⟨v, rfl, ht, hb⟩
    have HT : Hid (Told w1 w.heap.size v U) := ht
    have HB : Hid (Below w.heap.size w w1) := hb
    clear ht hb
    go_wp2_with fail
    go_ret2
    exact ⟨_, rfl, HT.out, HB.out⟩
theorem outside_any (fs gs : List ByteArray) (hl : fs.length ≤ 1000000) : OutOk fs gs := by
  cases fs with
  | nil => exact out_nil gs
  | cons x r =>
    cases gs with
    | nil => exact out_free x r hl
    | cons y s => exact out_cons x y r s hl
set_option maxRecDepth 100000 in
set_option maxHeartbeats 1000000 in
theorem within_row (fs gs : List ByteArray) (hl : fs.length ≤ 1000000) (vf vg : Value) (w : World) (Rf : Row w vf fs) (Rg : Row w vg gs) : Calls Tryz.prog 18 #[vf, vg] w fun e w' => e = .returned (.bool (outL (fs.map unB) (gs.map unB)).isNone) ∧ Below w.heap.size w w' := by
  have HO : Hid (Calls Tryz.prog 60 #[vf, vg] w fun e w' => ∃ v, e = .returned (.tuple #[v, .bool (outL (fs.map unB) (gs.map unB)).isSome]) ∧ Told w' w.heap.size v (outL (fs.map unB) (gs.map unB)) ∧ Below w.heap.size w w') := outside_any fs gs hl vf vg w Rf Rg
  obtain ⟨U, hU⟩ : ∃ U, outL (fs.map unB) (gs.map unB) = U := ⟨_, rfl⟩
  rw [hU] at HO ⊢
  obtain ⟨a, k, cap, rfl, -⟩ := Rf
  obtain ⟨a2, k2, cap2, rfl, -⟩ := Rg
  clear hU hl
  go_enter Tryz.func18, Tryz.ntmps18
  go_wp2_with fail
  go_must (go_at_call 60)
  refine HO.out.mono ?_
  rintro e w1 ⟨v, rfl, ht, hb⟩
  have HB : Hid (Below w.heap.size w w1) := hb
  clear ht hb
  cases U <;> (go_wp2_with fail; go_ret; exact ⟨rfl, HB.out⟩)
end Go.Proofs.YtglnldopnoafoaaGreatDoor

