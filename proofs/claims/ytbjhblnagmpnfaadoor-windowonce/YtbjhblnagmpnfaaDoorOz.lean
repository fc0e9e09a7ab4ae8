import Derived.Test.YtbjhblnagmpnfaaDoorOy
namespace Go.Proofs.YtbjhblnagmpnfaaDoor
open Go Go.RowKit Go.Shelf Go.Maps Go.Sort
set_option linter.unusedSimpArgs false
set_option linter.unusedVariables false
/-! ### The chapter's example -/
set_option maxRecDepth 100000 in
set_option maxHeartbeats 4000000 in
theorem known_any (w : World) (g : Gd w) : Calls Tryd.prog 6 #[] w fun e w' => e = .returned (.bool true) ∧ Below w.heap.size w w' := by
  have C0 := hidi (kc_new w g)
  have NM := hidi num_any
  obtain ⟨F, hF⟩ : ∃ F : Nat → Prop, F = fun j => j < w.heap.size := ⟨_, rfl⟩
  rw [← hF] at C0
  have HF := hidi hF
  clear g hF
  obtain ⟨wb, hwb⟩ : ∃ wb, wb = w.heap.size := ⟨_, rfl⟩
  rw [← hwb] at C0
  have HWB := hidi hwb
  clear hwb
  go_enter Tryd.func6, Tryd.ntmps6
  go_wp2_with fail
  go_must (go_at_call 8)
  refine C0.out.mono ?_
  clear C0
  rintro e w1 ⟨rfl, k1, b1⟩
  have R1 := hidi (show Fr F w w1 from Fr.below (by rw [← HWB.out]; exact b1))
  have C1 := hidi (kc_send k1 (by omega) ⟨#[97]⟩ 2 true 0 (by decide) k_send1)
  clear k1 b1
  go_wp2_with fail
  go_must (go_at_call 17)
  refine C1.out.mono ?_
  clear C1
  rintro e w2 ⟨a1, c1, rfl, k2, r2⟩
  have R2 := hidi (R1.out.trans r2)
  have C2 := hidi (kc_up k2 (by omega) k_up1)
  clear k2 r2 R1
  go_wp2_with fail
  go_must (go_at_call 19)
  refine C2.out.mono ?_
  clear C2
  rintro e w3 ⟨g3, cp3, cur3, rfl, k3, r3, hb3, x1, x2, x3, x4⟩
  have R3 := hidi (R2.out.trans r3)
  have y1 := box_cells hb3 0 _ x1
  have y2 := box_cells hb3 16 _ x2
  have y3 := box_cells hb3 17 _ x3
  have y4 := box_cells hb3 21 _ x4
  simp only [mA] at y3
  replace k3 := k3.less (F' := F) (fun j hj => .inl hj)
  clear hb3 x1 x2 x3 x4
  have C3 := hidi (kc_send k3 (by omega) ⟨#[98]⟩ 1 true 0 (by decide) k_send2)
  clear k3 r3
  go_wp2_with fail
  go_must (go_at_call 17)
  clear y1 y2 y3 y4
  refine C3.out.mono ?_
  clear C3
  rintro e w4 ⟨a3, c3, rfl, k4, r4⟩
  have R4 := hidi (R3.out.trans r4)
  have C4 := hidi (kc_send k4 (by omega) ⟨#[99]⟩ 1 false 0 (by decide) k_send3)
  clear k4 r4
  go_wp2_with fail
  go_must (go_at_call 17)
  refine C4.out.mono ?_
  clear C4
  rintro e w5 ⟨a4, c4, rfl, k5, r5⟩
  have R5 := hidi (R4.out.trans r5)
  have C5 := hidi (kc_send k5 (by omega) ⟨#[99]⟩ 0 false 122 (by decide) k_send4)
  clear k5 r5
  go_wp2_with fail
  go_must (go_at_call 17)
  refine C5.out.mono ?_
  clear C5
  rintro e w6 ⟨a5, c5, rfl, k6, r6⟩
  have R6 := hidi (R5.out.trans r6)
  have C6 := hidi (kc_ack0 k6 (by omega) 4 k_ack4)
  clear k6 r6
  go_wp2_with (first | (go_at_call 18; refine (NM.out _ _).mono ?_; rintro e w' ⟨rfl, rfl⟩) | (go_at_call 20; refine C6.out.mono ?_; clear C6; rintro e w7 ⟨a6, c6, rfl, k7, r7⟩; have R7 := hidi (R6.out.trans r7); have C7 := hidi (kc_ack k7 (by omega) 5 k_ack5); clear k7 r7))
  refine C7.out.mono ?_
  clear C7
  rintro e w8 ⟨g8, cp8, cur8, rfl, k8, r8, hb8, x1, x2, x3, x4⟩
  have HL8 := hidi (And.intro hb8 x1)
  have R8 := hidi (R7.out.trans r8)
  have C8 := hidi (ks_down k8)
  clear k8 r8 hb8 x1 x2 x3 x4
  go_wp2_with fail
  go_must (go_at_call 23)
  refine C8.out.mono ?_
  clear C8
  rintro e w9 ⟨rfl, k9, r9⟩
  have R9 := hidi (R8.out.trans (r9.mono (F' := F) (fun j hj => .inl hj)))
  have hb9 : w9.heap[g8]? = some (.cells cur8 51 (0, 0)) := (r9.at (.inr rfl) (Array.getElem?_eq_some_iff.1 HL8.out.1).1).trans HL8.out.1
  have HL9 := hidi hb9
  have C9 := hidi (kc_up (p := q5) k9 (by omega) k_up2)
  clear k9 r9 hb9
  go_wp2_with fail
  go_must (go_at_call 19)
  refine C9.out.mono ?_
  clear C9
  rintro e w10 ⟨g10, cp10, cur10, rfl, k10, r10, hb10, x1, x2, x3, x4⟩
  have R10 := hidi (R9.out.trans (r10.mono (F' := F) (fun j hj => .inl hj)))
  have hb10' : w10.heap[g8]? = some (.cells cur8 51 (0, 0)) := (r10.at (.inr rfl) (Array.getElem?_eq_some_iff.1 HL9.out).1).trans HL9.out
  have HL10 := hidi (And.intro hb10' (And.intro hb10 x1))
  have C10 := hidi (kc_ack k10 (by omega) 7 k_ack7)
  clear k10 r10 hb10 hb10' x1 x2 x3 x4
  go_wp2_with fail
  go_must (go_at_call 20)
  refine C10.out.mono ?_
  clear C10
  rintro e w11 ⟨g11, cp11, cur11, rfl, k11, r11, hb11, x1, x2, x3, x4⟩
  have R11 := hidi (R10.out.trans (r11.mono (F' := F) (fun j hj => .inl (.inl hj))))
  have h8 : w11.heap[g8]? = some (.cells cur8 51 (0, 0)) := (r11.at (.inl (.inr rfl)) (Array.getElem?_eq_some_iff.1 HL10.out.1).1).trans HL10.out.1
  have h10 : w11.heap[g10]? = some (.cells cur10 51 (0, 0)) := (r11.at (.inr rfl) (Array.getElem?_eq_some_iff.1 HL10.out.2.1).1).trans HL10.out.2.1
  have y1 : w11.cell? ⟨g8, 0, none⟩ = some (.int .i64 6) := box_cells h8 0 _ HL8.out.2
  have y2 : w11.cell? ⟨g10, 0, none⟩ = some (.int .i64 6) := box_cells h10 0 _ HL10.out.2.2
  have y3 : w11.cell? ⟨g11, 21, none⟩ = some (.int .i64 2) := box_cells hb11 21 _ x4
  have y4 : w11.cell? ⟨g11, 17, none⟩ = some (.string ⟨#[98]⟩) := box_cells hb11 17 _ x3
  have C11 := hidi (ks_flying k11)
  have C12 := hidi (ks_waiting k11 (by omega))
  rw [show q7.fl.length = 1 from rfl] at C11
  rw [show q7.wt.length = 0 from rfl] at C12
  clear k11 r11 hb11 x1 x2 x3 x4 h8 h10
  go_wp2_with (first | (go_at_call 13; refine C11.out.mono ?_; clear C11; rintro e w' ⟨rfl, he⟩; obtain rfl := he.symm) | (go_at_call 14; refine C12.out.mono ?_; clear C12; rintro e w12 ⟨rfl, hb⟩; have HB := hidi hb; clear hb))
  go_ret
  refine ⟨rfl, ?_⟩
  have hr := R11.out
  have e := HF.out
  subst e
  have h1 : Below w.heap.size w w11 := ⟨hr.os, hr.tape, hr.output, hr.size, fun j hj => hr.at hj hj⟩
  exact h1.trans (HB.out.mono h1.size)
end Go.Proofs.YtbjhblnagmpnfaaDoor
