import Derived.Test.YtdanjbbemmngnaaGreatDoorRqa
import Derived.Deep.Cut
namespace Go.Proofs.YtdanjbbemmngnaaGreatDoor
open Go Go.RowKit Go.Sort
set_option linter.unusedSimpArgs false
set_option linter.unusedVariables false

set_option maxHeartbeats 8000000 in
set_option maxRecDepth 100000 in
theorem rcheck_one (p : Pk) (c : Cn) (w : World) (hin : In w p c) (hs : Small p c) (hbad : (!isK p.kind || rbad1 p || bad2 TT p || !rtps p || !rflts p c || !rqls p c) = true) : Calls Tryz.prog 25 #[p.v] w fun e w' => e = .returned (.int .i64 (rck p c)) ∧ Below w.heap.size w w' := by
  have HC : Hid (Rc w p c p.v) := rc_of hin hs
  clear hin hs
  obtain ⟨x, hx⟩ : ∃ x, x = rck p c := ⟨_, rfl⟩
  rw [← hx]
  have E0 : Hid (x = (if !isK p.kind then 20 else if rbad1 p then 21 else if bad2 TT p then 22 else if !rtps p then 23 else if !rflts p c then 24 else if !rqls p c then 25 else if rbad6 p then 26 else if rbad7 p c then 27 else if rbad8 p then 28 else if bad9 p then 29 else 0)) := hx
  clear hx
  obtain ⟨P, hP⟩ : ∃ P, P = pkCells p := ⟨_, rfl⟩
  rw [show p.v = .agg P by rw [hP]; rfl] at HC ⊢
  have HP : Hid (P = pkCells p) := hP
  have hsz : Hid (P.size = 25) := by show _ = _; rw [hP]; rfl
  clear hP
  obtain ⟨W, hW⟩ : ∃ W, W = w.alloc (.cells P 29) := ⟨_, rfl⟩
  have b0 : Hid (Below w.heap.size w W) := box_below hW
  have g0 : Hid (W.heap[w.heap.size]? = some (.cells P 29)) := by show _ = _; rw [hW]; exact heap_alloc_new w _
  have FA : Hid (∀ k v, (pkCells p)[k]? = some v → ∀ w', Below W.heap.size W w' → w'.cell? ⟨w.heap.size, k, none⟩ = some v) := fun k v h w' hb => cell_later hb (by rw [hW]; exact box_cell w P 29 k v (by rw [HP.out]; exact h))
  have GA : Hid (∀ w', Below W.heap.size W w' → w'.heap[w.heap.size]? = some (.cells P 29)) := fun w' hb => (hb.block _ (block_lt g0.out)).trans g0.out
  have BW : Hid (∀ w', Below W.heap.size W w' → Below w.heap.size w w') := fun w' hb => b0.out.trans (hb.mono b0.out.size)
  have R0 : Hid (Below W.heap.size W W) := Below.refl _ _
  have HBAD : Hid ((!isK p.kind || rbad1 p || bad2 TT p || !rtps p || !rflts p c || !rqls p c) = true) := hbad
  clear hbad
  go_enter Tryz.func25, Tryz.ntmps25
  go_upto_region 1 with fail
  rw [← hW]
  clear hW
  go_cut [3] from 3 (fun sx wx => sx = .bool (!isK p.kind) ∧ Hid (Below W.heap.size W wx))
  case first =>
    have c0 := FA.out 0 (.int .i64 p.kind) rfl W R0.out
    by_cases i1 : p.kind < 1
    · have HV : Hid ((!isK p.kind) = true) := by show _ = _; simp only [isK, Bool.not_eq_true', Bool.and_eq_false_iff, decide_eq_false_iff_not]; omega
      go_wp2_with fail
      go_meet
      case rel => exact ⟨by rw [HV.out], R0⟩
    by_cases i2 : 14 < p.kind
    · have HV : Hid ((!isK p.kind) = true) := by show _ = _; simp only [isK, Bool.not_eq_true', Bool.and_eq_false_iff, decide_eq_false_iff_not]; omega
      go_wp2_with fail
      go_meet
      case rel => exact ⟨by rw [HV.out], R0⟩
    have HV : Hid ((!isK p.kind) = false) := by show _ = _; simp only [isK, Bool.not_eq_false', Bool.and_eq_true, decide_eq_true_eq]; omega
    go_wp2_with fail
    go_meet
    case rel => exact ⟨by rw [HV.out], R0⟩
  case rest =>
  obtain ⟨rfl, B1⟩ := hcut
  cases hb0 : (!isK p.kind)
  case true =>
    go_wp2
    go_ret
    exact ⟨by rw [E0.out, hb0]; rfl, BW.out _ B1.out⟩
  have E1 : Hid (x = (if rbad1 p then 21 else if bad2 TT p then 22 else if !rtps p then 23 else if !rflts p c then 24 else if !rqls p c then 25 else if rbad6 p then 26 else if rbad7 p c then 27 else if rbad8 p then 28 else if bad9 p then 29 else 0)) := by show _ = _; rw [E0.out, hb0]; rfl
  have G0 : Hid ((!isK p.kind) = false) := hb0
  clear hb0 E0
  go_upto_region 3 with fail
  go_cut [12] from 3 (fun sx wx => sx = .bool (rbad1 p) ∧ Hid (Below W.heap.size W wx))
  case first =>
    have HV : Hid (rbad1 p = (forB p || !((decide (0 ≤ p.level) && decide (p.level ≤ 255)) && (decide (0 ≤ p.code) && decide (p.code ≤ 255)) && (decide (0 ≤ p.keep) && decide (p.keep ≤ 65535))))) := by show _ = _; rw [rbad1, bnd_three]
    obtain ⟨y0, q0⟩ : ∃ b, forB p = b := ⟨_, rfl⟩
    obtain ⟨y1, q1⟩ : ∃ b, (decide (0 ≤ p.level) && decide (p.level ≤ 255)) = b := ⟨_, rfl⟩
    obtain ⟨y2, q2⟩ : ∃ b, (decide (0 ≤ p.code) && decide (p.code ≤ 255)) = b := ⟨_, rfl⟩
    obtain ⟨y3, q3⟩ : ∃ b, (decide (0 ≤ p.keep) && decide (p.keep ≤ 65535)) = b := ⟨_, rfl⟩
    rw [q0, q1, q2, q3] at HV
    cases y0
    case true =>
      go_wp2_with (first | (refine wpList_load_wanted rfl _ rfl w.heap.size rfl _ (0, 0) (GA.out _ B1.out) hsz.out ?_) | (go_at_call 94; refine (HC.out.foreign _).mono ?_; rintro e w1 ⟨rfl, hb⟩; have D1 : Hid (Below W.heap.size W w1) := B1.out.trans (hb.mono B1.out.size); clear hb; rw [q0]; have c1 := FA.out 1 (.int .i64 p.level) rfl w1 D1.out; have c15 := FA.out 15 (.int .i64 p.code) rfl w1 D1.out; have c3 := FA.out 3 (.int .i64 p.keep) rfl w1 D1.out) | (go_at_call 95; refine (within_any _ _ _).mono ?_; rintro e w' ⟨rfl, hee⟩; obtain rfl := hee.symm; clear hee; first | rw [q1] | rw [q2] | rw [q3]))
      go_meet
      case rel => exact ⟨by rw [HV.out]; rfl, D1⟩
    cases y1
    case false =>
      go_wp2_with (first | (refine wpList_load_wanted rfl _ rfl w.heap.size rfl _ (0, 0) (GA.out _ B1.out) hsz.out ?_) | (go_at_call 94; refine (HC.out.foreign _).mono ?_; rintro e w1 ⟨rfl, hb⟩; have D1 : Hid (Below W.heap.size W w1) := B1.out.trans (hb.mono B1.out.size); clear hb; rw [q0]; have c1 := FA.out 1 (.int .i64 p.level) rfl w1 D1.out; have c15 := FA.out 15 (.int .i64 p.code) rfl w1 D1.out; have c3 := FA.out 3 (.int .i64 p.keep) rfl w1 D1.out) | (go_at_call 95; refine (within_any _ _ _).mono ?_; rintro e w' ⟨rfl, hee⟩; obtain rfl := hee.symm; clear hee; first | rw [q1] | rw [q2] | rw [q3]))
      go_meet
      case rel => exact ⟨by rw [HV.out]; rfl, D1⟩
    cases y2
    case false =>
      go_wp2_with (first | (refine wpList_load_wanted rfl _ rfl w.heap.size rfl _ (0, 0) (GA.out _ B1.out) hsz.out ?_) | (go_at_call 94; refine (HC.out.foreign _).mono ?_; rintro e w1 ⟨rfl, hb⟩; have D1 : Hid (Below W.heap.size W w1) := B1.out.trans (hb.mono B1.out.size); clear hb; rw [q0]; have c1 := FA.out 1 (.int .i64 p.level) rfl w1 D1.out; have c15 := FA.out 15 (.int .i64 p.code) rfl w1 D1.out; have c3 := FA.out 3 (.int .i64 p.keep) rfl w1 D1.out) | (go_at_call 95; refine (within_any _ _ _).mono ?_; rintro e w' ⟨rfl, hee⟩; obtain rfl := hee.symm; clear hee; first | rw [q1] | rw [q2] | rw [q3]))
      go_meet
      case rel => exact ⟨by rw [HV.out]; rfl, D1⟩
    cases y3
    case false =>
      go_wp2_with (first | (refine wpList_load_wanted rfl _ rfl w.heap.size rfl _ (0, 0) (GA.out _ B1.out) hsz.out ?_) | (go_at_call 94; refine (HC.out.foreign _).mono ?_; rintro e w1 ⟨rfl, hb⟩; have D1 : Hid (Below W.heap.size W w1) := B1.out.trans (hb.mono B1.out.size); clear hb; rw [q0]; have c1 := FA.out 1 (.int .i64 p.level) rfl w1 D1.out; have c15 := FA.out 15 (.int .i64 p.code) rfl w1 D1.out; have c3 := FA.out 3 (.int .i64 p.keep) rfl w1 D1.out) | (go_at_call 95; refine (within_any _ _ _).mono ?_; rintro e w' ⟨rfl, hee⟩; obtain rfl := hee.symm; clear hee; first | rw [q1] | rw [q2] | rw [q3]))
      go_meet
      case rel => exact ⟨by rw [HV.out]; rfl, D1⟩
    go_wp2_with (first | (refine wpList_load_wanted rfl _ rfl w.heap.size rfl _ (0, 0) (GA.out _ B1.out) hsz.out ?_) | (go_at_call 94; refine (HC.out.foreign _).mono ?_; rintro e w1 ⟨rfl, hb⟩; have D1 : Hid (Below W.heap.size W w1) := B1.out.trans (hb.mono B1.out.size); clear hb; rw [q0]; have c1 := FA.out 1 (.int .i64 p.level) rfl w1 D1.out; have c15 := FA.out 15 (.int .i64 p.code) rfl w1 D1.out; have c3 := FA.out 3 (.int .i64 p.keep) rfl w1 D1.out) | (go_at_call 95; refine (within_any _ _ _).mono ?_; rintro e w' ⟨rfl, hee⟩; obtain rfl := hee.symm; clear hee; first | rw [q1] | rw [q2] | rw [q3]))
    go_meet
    case rel => exact ⟨by rw [HV.out]; rfl, D1⟩
  case rest =>
  obtain ⟨rfl, B2⟩ := hcut
  cases hb1 : (rbad1 p)
  case true =>
    go_wp2
    go_ret
    exact ⟨by rw [E1.out, hb1]; rfl, BW.out _ B2.out⟩
  have E2 : Hid (x = (if bad2 TT p then 22 else if !rtps p then 23 else if !rflts p c then 24 else if !rqls p c then 25 else if rbad6 p then 26 else if rbad7 p c then 27 else if rbad8 p then 28 else if bad9 p then 29 else 0)) := by show _ = _; rw [E1.out, hb1]; rfl
  have G1 : Hid ((rbad1 p) = false) := hb1
  clear hb1 E1
  go_upto_region 5 with fail
  go_cut [33] from 3 (fun sx wx => sx = .bool (bad2 TT p) ∧ Hid (Below W.heap.size W wx))
  case first =>
    have c4 := FA.out 4 (.string p.client) rfl wc B2.out
    have c11 := FA.out 11 (.string p.user) rfl wc B2.out
    have HV : Hid (bad2 TT p = (!txt p.client || !txt p.user)) := rfl
    obtain ⟨y0, q0⟩ : ∃ b, txt p.client = b := ⟨_, rfl⟩
    obtain ⟨y1, q1⟩ : ∃ b, txt p.user = b := ⟨_, rfl⟩
    rw [q0, q1] at HV
    cases y0
    case false =>
      go_wp2_with (go_at_call 96; refine (rtext_any _ _).mono ?_; rintro e w' ⟨rfl, hee⟩; obtain rfl := hee.symm; clear hee; first | rw [q0] | rw [q1])
      go_meet
      case rel => exact ⟨by rw [HV.out]; rfl, B2⟩
    cases y1
    case false =>
      go_wp2_with (go_at_call 96; refine (rtext_any _ _).mono ?_; rintro e w' ⟨rfl, hee⟩; obtain rfl := hee.symm; clear hee; first | rw [q0] | rw [q1])
      go_meet
      case rel => exact ⟨by rw [HV.out]; rfl, B2⟩
    go_wp2_with (go_at_call 96; refine (rtext_any _ _).mono ?_; rintro e w' ⟨rfl, hee⟩; obtain rfl := hee.symm; clear hee; first | rw [q0] | rw [q1])
    go_meet
    case rel => exact ⟨by rw [HV.out]; rfl, B2⟩
  case rest =>
  obtain ⟨rfl, B3⟩ := hcut
  cases hb2 : (bad2 TT p)
  case true =>
    go_wp2
    go_ret
    exact ⟨by rw [E2.out, hb2]; rfl, BW.out _ B3.out⟩
  have E3 : Hid (x = (if !rtps p then 23 else if !rflts p c then 24 else if !rqls p c then 25 else if rbad6 p then 26 else if rbad7 p c then 27 else if rbad8 p then 28 else if bad9 p then 29 else 0)) := by show _ = _; rw [E2.out, hb2]; rfl
  have G2 : Hid ((bad2 TT p) = false) := hb2
  clear hb2 E2
  go_upto_region 7 with fail
  go_cut [44] from 3 (fun sx wx => sx = .bool (!rtps p) ∧ Hid (Below W.heap.size W wx))
  case first =>
    go_wp2_with (first | (refine wpList_load_wanted rfl _ rfl w.heap.size rfl _ (0, 0) (GA.out _ B3.out) hsz.out ?_) | (go_at_call 97; refine (HC.out.topics _).mono ?_; rintro e w1 ⟨rfl, hb⟩; have D1 : Hid (Below W.heap.size W w1) := B3.out.trans (hb.mono B3.out.size); clear hb))
    go_meet
    case rel => exact ⟨rfl, D1⟩
  case rest =>
  obtain ⟨rfl, B4⟩ := hcut
  cases hb3 : (!rtps p)
  case true =>
    go_wp2
    go_ret
    exact ⟨by rw [E3.out, hb3]; rfl, BW.out _ B4.out⟩
  have E4 : Hid (x = (if !rflts p c then 24 else if !rqls p c then 25 else if rbad6 p then 26 else if rbad7 p c then 27 else if rbad8 p then 28 else if bad9 p then 29 else 0)) := by show _ = _; rw [E3.out, hb3]; rfl
  have G3 : Hid ((!rtps p) = false) := hb3
  clear hb3 E3
  go_upto_region 9 with fail
  go_cut [48] from 3 (fun sx wx => sx = .bool (!rflts p c) ∧ Hid (Below W.heap.size W wx))
  case first =>
    go_wp2_with (first | (refine wpList_load_wanted rfl _ rfl w.heap.size rfl _ (0, 0) (GA.out _ B4.out) hsz.out ?_) | (go_at_call 98; refine (HC.out.filters _ (BW.out _ B4.out)).mono ?_; rintro e w1 ⟨rfl, hb⟩; have D1 : Hid (Below W.heap.size W w1) := B4.out.trans (hb.mono B4.out.size); clear hb))
    go_meet
    case rel => exact ⟨rfl, D1⟩
  case rest =>
  obtain ⟨rfl, B5⟩ := hcut
  cases hb4 : (!rflts p c)
  case true =>
    go_wp2
    go_ret
    exact ⟨by rw [E4.out, hb4]; rfl, BW.out _ B5.out⟩
  have E5 : Hid (x = (if !rqls p c then 25 else if rbad6 p then 26 else if rbad7 p c then 27 else if rbad8 p then 28 else if bad9 p then 29 else 0)) := by show _ = _; rw [E4.out, hb4]; rfl
  have G4 : Hid ((!rflts p c) = false) := hb4
  clear hb4 E4
  go_upto_region 11 with fail
  go_cut [52] from 3 (fun sx wx => sx = .bool (!rqls p c) ∧ Hid (Below W.heap.size W wx))
  case first =>
    go_wp2_with (first | (refine wpList_load_wanted rfl _ rfl w.heap.size rfl _ (0, 0) (GA.out _ B5.out) hsz.out ?_) | (go_at_call 99; refine (HC.out.quals _ (BW.out _ B5.out)).mono ?_; rintro e w1 ⟨rfl, hb⟩; have D1 : Hid (Below W.heap.size W w1) := B5.out.trans (hb.mono B5.out.size); clear hb))
    go_meet
    case rel => exact ⟨rfl, D1⟩
  case rest =>
  obtain ⟨rfl, B6⟩ := hcut
  cases hb5 : (!rqls p c)
  case true =>
    go_wp2
    go_ret
    exact ⟨by rw [E5.out, hb5]; rfl, BW.out _ B6.out⟩
  have E6 : Hid (x = (if rbad6 p then 26 else if rbad7 p c then 27 else if rbad8 p then 28 else if bad9 p then 29 else 0)) := by show _ = _; rw [E5.out, hb5]; rfl
  have G5 : Hid ((!rqls p c) = false) := hb5
  clear hb5 E5
  exact absurd HBAD.out (by rw [G0.out, G1.out, G2.out, G3.out, G4.out, G5.out]; decide)
end Go.Proofs.YtdanjbbemmngnaaGreatDoor
