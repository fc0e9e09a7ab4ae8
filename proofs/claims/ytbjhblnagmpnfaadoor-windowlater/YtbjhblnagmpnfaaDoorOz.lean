import Derived.Test.YtbjhblnagmpnfaaDoorOx
namespace Go.Proofs.YtbjhblnagmpnfaaDoor
open Go Go.RowKit Go.Shelf Go.Maps Go.Sort
set_option linter.unusedSimpArgs false
set_option linter.unusedVariables false
/-! ### The chapter's example, purely -/
theorem abvF_next {T : Nat → Bool} {last : Nat} (hl : last < 65535) (hT : T (last + 1) = false) : abvF T last = last + 1 := by
  refine abvF_is (by omega) ⟨by omega, by omega, hT, fun j h1 h2 hr => ?_⟩
  exfalso
  have e : rank last (last + 1) = 1 := by unfold rank; rw [if_pos (by omega)]; omega
  rw [e] at hr
  unfold rank at hr
  split at hr <;> omega
def mA : Mp := ⟨⟨#[97]⟩, 2, false, []⟩
def mB : Mp := ⟨⟨#[98]⟩, 1, false, []⟩
def mC : Mp := ⟨⟨#[99]⟩, 1, false, []⟩
def mC0 : Mp := ⟨⟨#[99]⟩, 0, false, []⟩
def q0 : Pw := ⟨1, 1, false, 0, [], [], []⟩
def q1 : Pw := ⟨1, 1, false, 0, [], [mA], []⟩
def q2 : Pw := ⟨1, 1, true, 1, [⟨1, false, mA⟩], [], []⟩
def q3 : Pw := ⟨1, 1, true, 1, [⟨1, false, mA⟩], [mB], []⟩
def q4 : Pw := ⟨1, 1, true, 1, [⟨1, true, zMp⟩], [mB], []⟩
def q5 : Pw := ⟨1, 1, false, 1, [⟨1, true, zMp⟩], [mB], []⟩
def q7 : Pw := ⟨1, 1, true, 2, [⟨2, false, mB⟩], [], []⟩
theorem k_send1 : pSend q0 mA = (q1, [], true, 0) := pSend_wait (.inr rfl) (by simp [q0]) (by simp [q0])
theorem k_up1 : pUp q1 = (q2, [⟨3, false, 1, mA⟩]) := by
  have e : abvF (Pw.T { q1 with on := true, wt := [] }) 0 = 1 := abvF_next (by omega) (by simp [Pw.T, q1])
  unfold pUp
  rw [pFill_go (p := { q1 with on := true }) (m := mA) (wt := []) rfl (by simp [q1]) rfl]
  have e2 : pLaunch { q1 with on := true, wt := [] } mA = (q2, ⟨3, false, 1, mA⟩) := by
    unfold pLaunch
    rw [show Pw.last { q1 with on := true, wt := [] } = 0 from rfl, e]
    rfl
  rw [show ({ ({ q1 with on := true } : Pw) with wt := [] } : Pw) = { q1 with on := true, wt := [] } from rfl, e2]
  rw [pFill_stop (p := q2) (.inr (.inr rfl))]
  rfl
theorem k_send2 : pSend q2 mB = (q3, [], true, 0) := pSend_wait (.inl rfl) (by simp [q2]) (by simp [q2])
theorem k_send3 : pSend q3 mC = (q3, [], false, 0) := pSend_full (.inl rfl) (by simp [q3]) (by simp [q3])
theorem k_send4 : pSend q3 mC0 = (q3, [], false, 122) := pSend_not (by unfold Sn mC0; simp)
theorem k_ack4 : pAck q3 4 1 = (q3, []) := by
  unfold pAck pAckF
  simp [q3, awt, mA]
theorem k_ack5 : pAck q3 5 1 = (q4, [⟨6, false, 1, zMp⟩]) := by
  unfold pAck pAckF
  simp [q3, q4, awt, mA, relP]
theorem k_up2 : pUp q5 = (q4, [⟨6, false, 1, zMp⟩]) := by
  unfold pUp
  rw [pFill_stop (p := { q5 with on := true }) (.inr (.inl (by simp [q5])))]
  rfl
theorem k_ack7 : pAck q4 7 1 = (q7, [⟨3, false, 2, mB⟩]) := by
  have h : pAck q4 7 1 = pFill ⟨1, 1, true, 1, [], [mB], []⟩ := by
    unfold pAck pAckF
    simp [q4, awt, zMp]
  rw [h, pFill_go (p := ⟨1, 1, true, 1, [], [mB], []⟩) (m := mB) (wt := []) rfl (by simp) rfl]
  have e : abvF (Pw.T ⟨1, 1, true, 1, [], [], []⟩) 1 = 2 := abvF_next (by omega) (by simp [Pw.T])
  have e2 : pLaunch ⟨1, 1, true, 1, [], [], []⟩ mB = (q7, ⟨3, false, 2, mB⟩) := by
    unfold pLaunch
    rw [show Pw.last ⟨1, 1, true, 1, [], [], []⟩ = 1 from rfl, e]
    rfl
  rw [show ({ (⟨1, 1, true, 1, [], [mB], []⟩ : Pw) with wt := [] } : Pw) = ⟨1, 1, true, 1, [], [], []⟩ from rfl, e2]
  rw [pFill_stop (p := q7) (.inr (.inr rfl))]
theorem Lst.nil {W : World} {v : Value} (h : Lst W v []) : ∃ a c, v = .slice a 0 c := by
  obtain ⟨S, ho, -, e⟩ := h
  have : S = [] := by simpa using e
  subst this
  exact own_sl ho
theorem Lst.one {W : World} {v : Value} {x : Pp} (h : Lst W v [x]) : ∃ g c cur, v = .slice (some ⟨g, 0, none⟩) 1 c ∧ W.heap[g]? = some (.cells cur 51 (0, 0)) ∧ cur[0]? = some (.int .i64 x.k) ∧ cur[16]? = some (.bool x.d) ∧ cur[17]? = some (.string x.m.t) ∧ cur[21]? = some (.int .i64 x.id) := by
  obtain ⟨S, ho, -, e⟩ := h
  obtain ⟨p, rfl⟩ : ∃ p, S = [p] := by
    cases S with
    | nil => cases e
    | cons p S => cases S with
      | nil => exact ⟨p, rfl⟩
      | cons q S => simp at e
  have e' : p.p = x := by simpa using e
  subst e'
  rcases ho.2 with ⟨_, h2⟩ | ⟨g, cap, cur, h1, h2, h3, h4, h5, h6, h7⟩
  · simp at h2
  · have hx : ∀ j v, j < 25 → p.cs[j]? = some v → cur[j]? = some v := fun j v hj hv => by
      have := congrArg (fun l => l[j]?) h7
      simp only [List.getElem?_take, List.length_singleton, Nat.one_mul] at this
      rw [if_pos hj] at this
      have h9 : (prow [p])[j]? = p.cs[j]? := by simp [prow]
      rw [h9, hv] at this
      simpa using this
    exact ⟨g, cap, cur, h1, h3, hx 0 _ (by omega) rfl, hx 16 _ (by omega) rfl, hx 17 _ (by omega) rfl, hx 21 _ (by omega) rfl⟩
theorem nilP (W : World) : PBi W (.slice none 0 0) [] := .inl ⟨rfl, rfl⟩
theorem num_any (x : Int) (w : World) : Calls Tryd.prog 18 #[.int .i64 x] w fun e w' => e = .returned (.int .i64 x) ∧ w' = w := by
  go_enter Tryd.func18, Tryd.ntmps18
  go_wp2
  go_ret
  exact ⟨rfl, rfl⟩
section
variable {F : Nat → Prop} {W : World} {wb c : Nat}
theorem kc_new (w : World) (g : Gd w) : Calls Tryd.prog 8 #[.int .i64 1, .int .i64 1] w fun e w' => e = .returned (.pointer (some ⟨w.heap.size, 0, none⟩)) ∧ KS (fun j => j < w.heap.size) w' w.heap.size q0 0 ∧ Below w.heap.size w w' := by
  have h := ks_new 1 1 w g
  have em : mostOf 1 = 1 := by unfold mostOf; decide
  have eq : queueOf 1 = 1 := by unfold queueOf; decide
  rw [em, eq] at h
  exact h
/-- A call that tells what it took. -/
def TookK (F : Nat → Prop) (W : World) (wb : Nat) (p : Pw) (c : Nat) (ok : Bool) (er : Int) (e : Ending) (w' : World) : Prop := ∃ a k, e = .returned (.tuple #[.slice a 0 k, .bool ok, .int .i64 er]) ∧ KS F w' wb p c ∧ Fr F W w'
theorem kc_send {p p' : Pw} (h : KS F W wb p c) (hc : c + 1 ≤ 200000) (t : ByteArray) (q : Int) (ok : Bool) (er : Int) (ht : t.size ≤ 1000000) (e : pSend p ⟨t, q, false, []⟩ = (p', [], ok, er)) : Calls Tryd.prog 17 #[.pointer (some ⟨wb, 0, none⟩), .agg #[.string t, .slice none 0 0, .int .i64 q, .bool false]] W (TookK F W wb p' (c + 1) ok er) := by
  refine (ks_send h hc t (.slice none 0 0) q false [] (nilP _) ht).mono ?_
  rw [e]
  rintro e w' ⟨v', rfl, k, r, l⟩
  obtain ⟨a, c, rfl⟩ := l.nil
  exact ⟨a, c, rfl, k, r⟩
/-- A call that tells one packet. -/
def OneK (F : Nat → Prop) (W : World) (wb : Nat) (p : Pw) (c : Nat) (x : Pp) (e : Ending) (w' : World) : Prop := ∃ g k cur, e = .returned (.slice (some ⟨g, 0, none⟩) 1 k) ∧ KS (fun j => F j ∨ j = g) w' wb p c ∧ Fr F W w' ∧ w'.heap[g]? = some (.cells cur 51 (0, 0)) ∧ cur[0]? = some (.int .i64 x.k) ∧ cur[16]? = some (.bool x.d) ∧ cur[17]? = some (.string x.m.t) ∧ cur[21]? = some (.int .i64 x.id)
theorem one_of {p : Pw} {x : Pp} {w' : World} {v : Value} (k : KS F w' wb p c) (r : Fr F W w') (l : Lst w' v [x]) : OneK F W wb p c x (.returned v) w' := by
  obtain ⟨g, cp, cur, rfl, hb, x1, x2, x3, x4⟩ := l.one
  exact ⟨g, cp, cur, rfl, k.addO hb ⟨_, 51, _, rfl, by decide, by decide, by decide⟩, r, hb, x1, x2, x3, x4⟩
theorem kc_up {p p' : Pw} {x : Pp} (h : KS F W wb p c) (hc : c ≤ 200000) (e : pUp p = (p', [x])) : Calls Tryd.prog 19 #[.pointer (some ⟨wb, 0, none⟩)] W (OneK F W wb p' c x) := by
  refine (ks_up h hc).mono ?_
  rw [e]
  rintro e w' ⟨v', rfl, k, r, l⟩
  exact one_of k r l
theorem kc_ack {p p' : Pw} {x : Pp} (h : KS F W wb p c) (hc : c ≤ 200000) (kind : Int) (e : pAck p kind 1 = (p', [x])) : Calls Tryd.prog 20 #[.pointer (some ⟨wb, 0, none⟩), .int .i64 kind, .int .i64 1] W (OneK F W wb p' c x) := by
  refine (ks_ack h hc kind 1 (okI_nat 1 (by omega))).mono ?_
  rw [e]
  rintro e w' ⟨v', rfl, k, r, l⟩
  exact one_of k r l
theorem kc_ack0 {p p' : Pw} (h : KS F W wb p c) (hc : c ≤ 200000) (kind : Int) (e : pAck p kind 1 = (p', [])) : Calls Tryd.prog 20 #[.pointer (some ⟨wb, 0, none⟩), .int .i64 kind, .int .i64 1] W fun e w' => ∃ a k, e = .returned (.slice a 0 k) ∧ KS F w' wb p' c ∧ Fr F W w' := by
  refine (ks_ack h hc kind 1 (okI_nat 1 (by omega))).mono ?_
  rw [e]
  rintro e w' ⟨v', rfl, k, r, l⟩
  obtain ⟨a, c, rfl⟩ := l.nil
  exact ⟨a, c, rfl, k, r⟩
end
end Go.Proofs.YtbjhblnagmpnfaaDoor
namespace Go.Proofs.YtbjhblnagmpnfaaDoor
open Go Go.RowKit Go.Shelf Go.Maps Go.Sort
set_option linter.unusedSimpArgs false
set_option linter.unusedVariables false
/-! ### The chapter's example -/
set_option maxRecDepth 100000 in
set_option maxHeartbeats 4000000 in
theorem known_any (w : World) (g : Gd w) : Calls Tryd.prog 6 #[] w fun e w' => e = .returned (.bool true) ∧ Below w.heap.size w w' := by
  have C0 := hidi (kc_new w g)
  have NM := hidi num_any
  obtain ⟨F, hF⟩ : ∃ F : Nat → Prop, F = fun j => j < w.heap.size := ⟨_, rfl⟩
  rw [← hF] at C0
  have HF := hidi hF
  clear g hF
  obtain ⟨wb, hwb⟩ : ∃ wb, wb = w.heap.size := ⟨_, rfl⟩
  rw [← hwb] at C0
  have HWB := hidi hwb
  clear hwb
  go_enter Tryd.func6, Tryd.ntmps6
  go_wp2_with fail
  go_must (go_at_call 8)
  refine C0.out.mono ?_
  clear C0
  rintro e w1 ⟨rfl, k1, b1⟩
  have R1 := hidi (show Fr F w w1 from Fr.below (by rw [← HWB.out]; exact b1))
  have C1 := hidi (kc_send k1 (by omega) ⟨#[97]⟩ 2 true 0 (by decide) k_send1)
  clear k1 b1
  go_wp2_with fail
  go_must (go_at_call 17)
  refine C1.out.mono ?_
  clear C1
  rintro e w2 ⟨a1, c1, rfl, k2, r2⟩
  have R2 := hidi (R1.out.trans r2)
  have C2 := hidi (kc_up k2 (by omega) k_up1)
  clear k2 r2 R1
  go_wp2_with fail
  go_must (go_at_call 19)
  refine C2.out.mono ?_
  clear C2
  rintro e w3 ⟨g3, cp3, cur3, rfl, k3, r3, hb3, x1, x2, x3, x4⟩
  have R3 := hidi (R2.out.trans r3)
  have y1 := box_cells hb3 0 _ x1
  have y2 := box_cells hb3 16 _ x2
  have y3 := box_cells hb3 17 _ x3
  have y4 := box_cells hb3 21 _ x4
  simp only [mA] at y3
  replace k3 := k3.less (F' := F) (fun j hj => .inl hj)
  clear hb3 x1 x2 x3 x4
  have C3 := hidi (kc_send k3 (by omega) ⟨#[98]⟩ 1 true 0 (by decide) k_send2)
  clear k3 r3
  go_wp2_with fail
  go_must (go_at_call 17)
  clear y1 y2 y3 y4
  refine C3.out.mono ?_
  clear C3
  rintro e w4 ⟨a3, c3, rfl, k4, r4⟩
  have R4 := hidi (R3.out.trans r4)
  have C4 := hidi (kc_send k4 (by omega) ⟨#[99]⟩ 1 false 0 (by decide) k_send3)
  clear k4 r4
  go_wp2_with fail
  go_must (go_at_call 17)
  refine C4.out.mono ?_
  clear C4
  rintro e w5 ⟨a4, c4, rfl, k5, r5⟩
  have R5 := hidi (R4.out.trans r5)
  have C5 := hidi (kc_send k5 (by omega) ⟨#[99]⟩ 0 false 122 (by decide) k_send4)
  clear k5 r5
  go_wp2_with fail
  go_must (go_at_call 17)
  refine C5.out.mono ?_
  clear C5
  rintro e w6 ⟨a5, c5, rfl, k6, r6⟩
  have R6 := hidi (R5.out.trans r6)
  have C6 := hidi (kc_ack0 k6 (by omega) 4 k_ack4)
  clear k6 r6
  go_wp2_with (first | (go_at_call 18; refine (NM.out _ _).mono ?_; rintro e w' ⟨rfl, rfl⟩) | (go_at_call 20; refine C6.out.mono ?_; clear C6; rintro e w7 ⟨a6, c6, rfl, k7, r7⟩; have R7 := hidi (R6.out.trans r7); have C7 := hidi (kc_ack k7 (by omega) 5 k_ack5); clear k7 r7))
  refine C7.out.mono ?_
  clear C7
  rintro e w8 ⟨g8, cp8, cur8, rfl, k8, r8, hb8, x1, x2, x3, x4⟩
  have HL8 := hidi (And.intro hb8 x1)
  have R8 := hidi (R7.out.trans r8)
  have C8 := hidi (ks_down k8)
  clear k8 r8 hb8 x1 x2 x3 x4
  go_wp2_with fail
  go_must (go_at_call 23)
  refine C8.out.mono ?_
  clear C8
  rintro e w9 ⟨rfl, k9, r9⟩
  have R9 := hidi (R8.out.trans (r9.mono (F' := F) (fun j hj => .inl hj)))
  have hb9 : w9.heap[g8]? = some (.cells cur8 51 (0, 0)) := (r9.at (.inr rfl) (Array.getElem?_eq_some_iff.1 HL8.out.1).1).trans HL8.out.1
  have HL9 := hidi hb9
  have C9 := hidi (kc_up (p := q5) k9 (by omega) k_up2)
  clear k9 r9 hb9
  go_wp2_with fail
  go_must (go_at_call 19)
  refine C9.out.mono ?_
  clear C9
  rintro e w10 ⟨g10, cp10, cur10, rfl, k10, r10, hb10, x1, x2, x3, x4⟩
  have R10 := hidi (R9.out.trans (r10.mono (F' := F) (fun j hj => .inl hj)))
  have hb10' : w10.heap[g8]? = some (.cells cur8 51 (0, 0)) := (r10.at (.inr rfl) (Array.getElem?_eq_some_iff.1 HL9.out).1).trans HL9.out
  have HL10 := hidi (And.intro hb10' (And.intro hb10 x1))
  have C10 := hidi (kc_ack k10 (by omega) 7 k_ack7)
  clear k10 r10 hb10 hb10' x1 x2 x3 x4
  go_wp2_with fail
  go_must (go_at_call 20)
  refine C10.out.mono ?_
  clear C10
  rintro e w11 ⟨g11, cp11, cur11, rfl, k11, r11, hb11, x1, x2, x3, x4⟩
  have R11 := hidi (R10.out.trans (r11.mono (F' := F) (fun j hj => .inl (.inl hj))))
  have h8 : w11.heap[g8]? = some (.cells cur8 51 (0, 0)) := (r11.at (.inl (.inr rfl)) (Array.getElem?_eq_some_iff.1 HL10.out.1).1).trans HL10.out.1
  have h10 : w11.heap[g10]? = some (.cells cur10 51 (0, 0)) := (r11.at (.inr rfl) (Array.getElem?_eq_some_iff.1 HL10.out.2.1).1).trans HL10.out.2.1
  have y1 : w11.cell? ⟨g8, 0, none⟩ = some (.int .i64 6) := box_cells h8 0 _ HL8.out.2
  have y2 : w11.cell? ⟨g10, 0, none⟩ = some (.int .i64 6) := box_cells h10 0 _ HL10.out.2.2
  have y3 : w11.cell? ⟨g11, 21, none⟩ = some (.int .i64 2) := box_cells hb11 21 _ x4
  have y4 : w11.cell? ⟨g11, 17, none⟩ = some (.string ⟨#[98]⟩) := box_cells hb11 17 _ x3
  have C11 := hidi (ks_flying k11)
  have C12 := hidi (ks_waiting k11 (by omega))
  rw [show q7.fl.length = 1 from rfl] at C11
  rw [show q7.wt.length = 0 from rfl] at C12
  clear k11 r11 hb11 x1 x2 x3 x4 h8 h10
  go_wp2_with (first | (go_at_call 13; refine C11.out.mono ?_; clear C11; rintro e w' ⟨rfl, he⟩; obtain rfl := he.symm) | (go_at_call 14; refine C12.out.mono ?_; clear C12; rintro e w12 ⟨rfl, hb⟩; have HB := hidi hb; clear hb))
  go_ret
  refine ⟨rfl, ?_⟩
  have hr := R11.out
  have e := HF.out
  subst e
  have h1 : Below w.heap.size w w11 := ⟨hr.os, hr.tape, hr.output, hr.size, fun j hj => hr.at hj hj⟩
  exact h1.trans (HB.out.mono h1.size)
end Go.Proofs.YtbjhblnagmpnfaaDoor
