import Derived.Test.YtglnldopnoafoaaWd
import Derived.Test.YtglnldopnoafoaaWc
namespace Go.Proofs.Ytglnldopnoafoaa
open Go Go.RowKit
set_option linter.unusedSimpArgs false
set_option linter.unusedVariables false

theorem fl_upto (xs : List ByteArray) : fl (upto (bkw xs) xs.length) = ((((xs.map unB).map fillB).reverse).map mkB).map Value.string := by
  have h := upto_all xs
  have e : fl (upto (bkw xs) xs.length) = ((upto (bkw xs) xs.length).map (·.2)).map (fun s => Value.string (mkB (fillB (unB s)))) := by simp [fl]
  rw [e, h]
  simp [List.map_reverse]
theorem filled_told (xs : List ByteArray) (v0 : Value) (w : World) (R : Row w v0 xs) (hl : xs.length ≤ 1000000) : Calls Try.prog 52 #[v0] w fun e w' => ∃ v, e = .returned v ∧ Told w' w.heap.size v (some ((xs.map unB).map fillB)) ∧ Below w.heap.size w w' := by
  refine (filled_any xs v0 w R hl).mono ?_
  rintro e w' ⟨v, rfl, ho, hb⟩
  refine ⟨v, rfl, ?_, hb⟩
  intro t ht
  simp only [Option.some.injEq] at ht
  subst ht
  rw [fl_upto] at ho
  simpa using ho
abbrev BeyOk (fs gs : List ByteArray) : Prop := ∀ (vf vg : Value) (w : World), Row w vf fs → Row w vg gs → Calls Try.prog 53 #[vf, vg] w fun e w' => ∃ v, e = .returned (.tuple #[v, .bool (bey (fs.map unB) (gs.map unB)).isSome]) ∧ Told w' w.heap.size v (bey (fs.map unB) (gs.map unB)) ∧ Below w.heap.size w w'
set_option maxRecDepth 100000 in
set_option maxHeartbeats 1000000 in
theorem bey_nils : BeyOk [] [] := by
  intro vf vg w Rf Rg
  have e0 : bey (([] : List ByteArray).map unB) (([] : List ByteArray).map unB) = none := rfl
  rw [e0]
  obtain ⟨a, cap, rfl⟩ := Rf.nil
  obtain ⟨a2, cap2, rfl⟩ := Rg.nil
  have B0 : Hid (Below w.heap.size w w) := Below.refl _ _
  clear Rf Rg e0
  go_enter Try.func53, Try.ntmps53
  go_wp2_with fail
  go_ret2
  exact ⟨_, rfl, told_none _ _ _, B0.out⟩
set_option maxRecDepth 100000 in
set_option maxHeartbeats 1000000 in
theorem bey_rest (x : ByteArray) (r : List ByteArray) (hl : (x :: r).length ≤ 1000000) : BeyOk (x :: r) [] := by
  intro vf vg w Rf Rg
  have e0 : bey ((x :: r).map unB) (([] : List ByteArray).map unB) = some (((x :: r).map unB).map fillB) := rfl
  rw [e0]
  obtain ⟨a2, cap2, rfl⟩ := Rg.nil
  have HF : Hid (Calls Try.prog 52 #[vf] w fun e w' => ∃ v, e = .returned v ∧ Told w' w.heap.size v (some (((x :: r).map unB).map fillB)) ∧ Below w.heap.size w w') := filled_told (x :: r) vf w Rf hl
  obtain ⟨g, o, k, cap, rfl, hn, hc, hg, c0, hk⟩ := Rf.cons
  have q0 : ((k : Int) == 0) = false := by rw [beq_eq_false_iff_ne]; omega
  obtain ⟨T, hT⟩ : ∃ T, ((x :: r).map unB).map fillB = T := ⟨_, rfl⟩
  rw [hT] at HF ⊢
  clear Rf Rg e0 hk hg hc hn hT hl
  go_enter Try.func53, Try.ntmps53
  go_wp2_with fail
  go_must (go_at_call 52)
  refine HF.out.mono ?_
  rintro e w1 ⟨v, rfl, ht, hb⟩
  have HT : Hid (Told w1 w.heap.size v (some T)) := ht
  have HB : Hid (Below w.heap.size w w1) := hb
  clear ht hb
  go_wp2_with fail
  go_ret2
  exact ⟨_, rfl, HT.out, HB.out⟩
set_option maxRecDepth 100000 in
set_option maxHeartbeats 1000000 in
theorem bey_nil_hash (y : ByteArray) (s : List ByteArray) (hy : unB y = [35]) : BeyOk [] (y :: s) := by
  intro vf vg w Rf Rg
  have e0 : bey (([] : List ByteArray).map unB) ((y :: s).map unB) = none := by simp [bey, hy]
  rw [e0]
  obtain ⟨g2, o2, k2, cap2, rfl, hn2, hc2, hg2, c2, hk2⟩ := Rg.cons
  have q2 : ((k2 : Int) == 0) = false := by rw [beq_eq_false_iff_ne]; omega
  have p2 : (0 : Int) < k2 := by omega
  have q3 : (y.toList == [35]) = true := by rw [eq_one']; simp [hy]
  obtain ⟨a, cap, rfl⟩ := Rf.nil
  have B0 : Hid (Below w.heap.size w w) := Below.refl _ _
  clear Rf Rg e0 hk2 hn2 hc2 hg2 hy
  go_enter Try.func53, Try.ntmps53
  go_wp2_with fail
  go_ret2
  exact ⟨_, rfl, told_none _ _ _, B0.out⟩
set_option maxRecDepth 100000 in
set_option maxHeartbeats 1000000 in
theorem bey_cons_hash (x : ByteArray) (r : List ByteArray) (y : ByteArray) (s : List ByteArray) (hy : unB y = [35]) : BeyOk (x :: r) (y :: s) := by
  intro vf vg w Rf Rg
  have e0 : bey (((x :: r) : List ByteArray).map unB) ((y :: s).map unB) = none := by simp [bey, hy]
  rw [e0]
  obtain ⟨g2, o2, k2, cap2, rfl, hn2, hc2, hg2, c2, hk2⟩ := Rg.cons
  have q2 : ((k2 : Int) == 0) = false := by rw [beq_eq_false_iff_ne]; omega
  have p2 : (0 : Int) < k2 := by omega
  have q3 : (y.toList == [35]) = true := by rw [eq_one']; simp [hy]
  obtain ⟨g, o, k, cap, rfl, hn, hc, hg, c0, hk⟩ := Rf.cons
  have q0 : ((k : Int) == 0) = false := by rw [beq_eq_false_iff_ne]; omega
  clear hn hc hg c0 hk
  have B0 : Hid (Below w.heap.size w w) := Below.refl _ _
  clear Rf Rg e0 hk2 hn2 hc2 hg2 hy
  go_enter Try.func53, Try.ntmps53
  go_wp2_with fail
  go_ret2
  exact ⟨_, rfl, told_none _ _ _, B0.out⟩
set_option maxRecDepth 100000 in
set_option maxHeartbeats 1000000 in
theorem bey_nil_end (y : ByteArray) (s : List ByteArray) (hy : ¬ unB y = [35]) : BeyOk [] (y :: s) := by
  intro vf vg w Rf Rg
  have e0 : bey (([] : List ByteArray).map unB) ((y :: s).map unB) = some [] := by simp [bey, hy]
  rw [e0]
  have HM : Hid (Calls Try.prog 44 #[vf] w fun e w' => e = .returned (.bool true) ∧ w' = w) := by have := mayEnd_any [] vf w Rf; exact this
  obtain ⟨g2, o2, k2, cap2, rfl, hn2, hc2, hg2, c2, hk2⟩ := Rg.cons
  have q2 : ((k2 : Int) == 0) = false := by rw [beq_eq_false_iff_ne]; omega
  have p2 : (0 : Int) < k2 := by omega
  have q3 : (y.toList == [35]) = false := by rw [eq_one']; simp [hy]
  obtain ⟨a, cap, rfl⟩ := Rf.nil
  have B0 : Hid (Below w.heap.size w w) := Below.refl _ _
  clear Rf Rg e0 hk2 hn2 hc2 hg2 hy
  go_enter Try.func53, Try.ntmps53
  go_wp2_with fail
  go_must (go_at_call 44)
  refine HM.out.mono ?_
  rintro e w1 ⟨rfl, hee⟩
  obtain rfl := hee.symm
  clear hee
  go_wp2_with fail
  go_ret2
  exact ⟨_, rfl, told_nil _ _, B0.out⟩
set_option maxRecDepth 100000 in
set_option maxHeartbeats 1000000 in
theorem bey_cons_end (x : ByteArray) (r : List ByteArray) (y : ByteArray) (s : List ByteArray) (hy : ¬ unB y = [35]) (hx : unB x = [35]) : BeyOk (x :: r) (y :: s) := by
  intro vf vg w Rf Rg
  have e0 : bey (((x :: r) : List ByteArray).map unB) ((y :: s).map unB) = some [] := by simp [bey, hy, hx]
  rw [e0]
  have HM : Hid (Calls Try.prog 44 #[vf] w fun e w' => e = .returned (.bool true) ∧ w' = w) := by have := mayEnd_any (x :: r) vf w Rf; rw [show mayE ((x :: r).map unB) = true by simp [mayE, hx]] at this; exact this
  obtain ⟨g2, o2, k2, cap2, rfl, hn2, hc2, hg2, c2, hk2⟩ := Rg.cons
  have q2 : ((k2 : Int) == 0) = false := by rw [beq_eq_false_iff_ne]; omega
  have p2 : (0 : Int) < k2 := by omega
  have q3 : (y.toList == [35]) = false := by rw [eq_one']; simp [hy]
  obtain ⟨g, o, k, cap, rfl, hn, hc, hg, c0, hk⟩ := Rf.cons
  have q0 : ((k : Int) == 0) = false := by rw [beq_eq_false_iff_ne]; omega
  clear hn hc hg c0 hk
  have B0 : Hid (Below w.heap.size w w) := Below.refl _ _
  clear Rf Rg e0 hk2 hn2 hc2 hg2 hy
  go_enter Try.func53, Try.ntmps53
  go_wp2_with fail
  go_must (go_at_call 44)
  refine HM.out.mono ?_
  rintro e w1 ⟨rfl, hee⟩
  obtain rfl := hee.symm
  clear hee
  go_wp2_with fail
  go_ret2
  exact ⟨_, rfl, told_nil _ _, B0.out⟩
theorem Row.cap {w : World} {a : Option Addr} {n c d : Nat} {xs : List ByteArray} (h : Row w (.slice a n c) xs) (hd : n ≤ d) : Row w (.slice a n d) xs := by
  obtain ⟨a', n', cap', e, hn, hc, hx⟩ := h
  simp only [Value.slice.injEq] at e
  obtain ⟨rfl, rfl, rfl⟩ := e
  exact ⟨a, n, d, rfl, hn, hd, hx⟩
theorem sh_len : ∀ (t u : List Bs), Sh t u → t.length ≤ u.length
  | [], _, _ => by simp
  | _ :: _, [], h => h.elim
  | x :: t, y :: u, h => by have := sh_len t u h.2; simp; exact this
end Go.Proofs.Ytglnldopnoafoaa
