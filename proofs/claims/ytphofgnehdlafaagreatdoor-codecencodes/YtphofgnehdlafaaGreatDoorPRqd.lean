import Derived.Test.YtphofgnehdlafaaGreatDoorPRl
import Derived.Test.YtphofgnehdlafaaGreatDoorPRh
import Derived.Test.YtphofgnehdlafaaGreatDoorPRj
import Derived.Deep.Cut
namespace Go.Proofs.YtphofgnehdlafaaGreatDoor.Pkt
open Go Go.RowKit Go.Sort
set_option linter.unusedSimpArgs false
set_option linter.unusedVariables false
set_option maxRecDepth 100000
set_option maxHeartbeats 4000000
def rflts (p : Pk) (c : Cn) : Bool := allN p.asks.n (fun i => rfc (c.af i) == 0) && allN p.filters.n (fun i => rfc (c.fs i) == 0)
theorem rfilters_any (p : Pk) (c : Cn) (w : World) (hin : In w p c) (ha : p.asks.n ≤ 1000000) (hd : p.filters.n ≤ 1000000) : Calls Tryz.prog 157 #[p.v] w fun e w' => e = .returned (.bool (rflts p c)) ∧ Below w.heap.size w w' := by
 obtain ⟨x, hx⟩ : ∃ x, x = rflts p c := ⟨_, rfl⟩
 rw [← hx]
 have HX : Hid (x = rflts p c) := hx
 clear hx
 obtain ⟨P, hP⟩ : ∃ P, P = pkCells p := ⟨_, rfl⟩
 obtain ⟨W, hW⟩ : ∃ W, W = w.alloc (.cells P 29) := ⟨_, rfl⟩
 have b0 : Hid (Below w.heap.size w W) := box_below hW
 have FA : Hid (∀ k v, (pkCells p)[k]? = some v → W.cell? ⟨w.heap.size, k, none⟩ = some v) := fun k v h => by rw [hW]; exact box_cell w P 29 k v (by rw [hP]; exact h)
 rw [show p.v = .agg P by rw [hP]; rfl]
 clear hP
 have HA : Hid (As W p.asks c.af c.aq) := hin.asks.below b0.out
 have HS : Hid (Ss W p.filters c.fs) := hin.filters.below b0.out
 have LA : Hid (p.asks.n ≤ 1000000) := ha
 have LC : Hid (p.filters.n ≤ 1000000) := hd
 have R0 : Hid (Below W.heap.size W W) := Below.refl _ _
 have BW : Hid (∀ w', Below W.heap.size W w' → Below w.heap.size w w') := fun w' hb => b0.out.trans (hb.mono b0.out.size)
 clear hin ha hd
 go_enter Tryz.func157, Tryz.ntmps157
 go_upto_region 1 with fail
 rw [← hW]
 clear hW
 go_wp2_with fail
 go_loopg [3] p.asks.n (fun g s3 wx => ∃ k : Nat, s3 = .int .i64 k ∧ k + g = p.asks.n ∧ Hid (Below W.heap.size W wx) ∧ Hid (∀ j, j < k → (rfc (c.af j) == 0) = true))
 case atStart => exact ⟨0, rfl, by omega, R0, fun j hj => absurd hj (Nat.not_lt_zero _)⟩
 case round =>
  obtain ⟨k, rfl, hkg, B, HD⟩ := hrel
  have c22 := cell_later B.out (FA.out 22 (.slice p.asks.a p.asks.n p.asks.c) rfl)
  by_cases hk : k < p.asks.n
  ·
   have hk' : (k : Int) < p.asks.n := by omega
   obtain ⟨b, off, he, hc⟩ : ∃ b off, p.asks.a = some ⟨b, off, none⟩ ∧ ∀ i, i < p.asks.n → (W.cell? ⟨b, off + i * 2, none⟩ = some (.string (c.af i)) ∧ W.cell? ⟨b, off + i * 2 + 1, none⟩ = some (.int .i64 (c.aq i))) := by
    rcases HA.out.2 with h | h
    ·
     omega
    ·
     exact h
   have hac : p.asks.n ≤ p.asks.c := HA.out.1
   rw [he] at c22
   have d1 := cell_later B.out (hc k hk).1
   have hw : IntKind.i64.wrap ((k : Int) + 1) = (k : Int) + 1 := by rw [IntKind.wrap_i64]; have := LA.out; omega
   clear hc he
   go_wp2_with fail
   go_must (go_at_call 243)
   refine (rfilter_any (c.af k) _).mono ?_
   rintro e w1 ⟨rfl, hb⟩
   have B1 : Hid (Below W.heap.size W w1) := B.out.trans (hb.mono B.out.size)
   clear hb c22 d1
   cases hq : (rfc (c.af k) == 0)
   case false =>
    have hq' : (rfc (c.af k) != 0) = true := by simpa using hq
    have HR : Hid (x = false) := by show _ = _; rw [HX.out, rflts, allN_false (f := fun i => rfc (c.af i) == 0) k hk hq]; rfl
    clear hq
    go_wp2
    go_ret
    exact ⟨by rw [HR.out]; rfl, BW.out _ B1.out⟩
   have hq' : (rfc (c.af k) != 0) = false := by simpa using hq
   have HN : Hid (∀ j, j < k + 1 → (rfc (c.af j) == 0) = true) := fun j hj => by
    rcases Nat.lt_or_ge j k with h | h
    ·
     exact HD.out j h
    ·
     obtain rfl : j = k := by omega
     exact hq
   clear hq
   go_wp2
   go_roundg (p.asks.n - (k + 1))
   case measure => omega
   case rel => exact ⟨k + 1, by first | rfl | simp, by omega, B1, HN⟩
  ·
   obtain rfl : k = p.asks.n := by omega
   have hk' : ¬ (p.asks.n : Int) < p.asks.n := by omega
   have AL : Hid (allN p.asks.n (fun i => rfc (c.af i) == 0) = true) := (allN_iff _ _).2 HD.out
   go_wp2_with fail
   clear hk' c22
   go_loopg [4] p.filters.n (fun g s4 wx => ∃ k : Nat, s4 = .int .i64 k ∧ k + g = p.filters.n ∧ Hid (Below W.heap.size W wx) ∧ Hid (∀ j, j < k → (rfc (c.fs j) == 0) = true))
   case atStart => exact ⟨0, rfl, by omega, B, fun j hj => absurd hj (Nat.not_lt_zero _)⟩
   case round =>
    obtain ⟨j, rfl, hjg, C, HC⟩ := hrel
    have c24 := cell_later C.out (FA.out 24 (.slice p.filters.a p.filters.n p.filters.c) rfl)
    by_cases hj : j < p.filters.n
    ·
     have hj' : (j : Int) < p.filters.n := by omega
     obtain ⟨b, off, he, hc⟩ : ∃ b off, p.filters.a = some ⟨b, off, none⟩ ∧ ∀ i, i < p.filters.n → W.cell? ⟨b, off + i, none⟩ = some (.string (c.fs i)) := by
      rcases HS.out.2 with h | h
      ·
       omega
      ·
       exact h
     have hac : p.filters.n ≤ p.filters.c := HS.out.1
     rw [he] at c24
     have d1 := cell_later C.out (hc j hj)
     have hw : IntKind.i64.wrap ((j : Int) + 1) = (j : Int) + 1 := by rw [IntKind.wrap_i64]; have := LC.out; omega
     clear hc he
     go_wp2_with fail
     go_must (go_at_call 243)
     refine (rfilter_any (c.fs j) _).mono ?_
     rintro e w1 ⟨rfl, hb⟩
     have B1 : Hid (Below W.heap.size W w1) := C.out.trans (hb.mono C.out.size)
     clear hb c24 d1
     cases hq : (rfc (c.fs j) == 0)
     case false =>
      have hq' : (rfc (c.fs j) != 0) = true := by simpa using hq
      have HR : Hid (x = false) := by show _ = _; rw [HX.out, rflts, allN_false (f := fun i => rfc (c.fs i) == 0) j hj hq]; simp
      clear hq
      go_wp2
      go_ret
      exact ⟨by rw [HR.out]; rfl, BW.out _ B1.out⟩
     have hq' : (rfc (c.fs j) != 0) = false := by simpa using hq
     have HN : Hid (∀ i, i < j + 1 → (rfc (c.fs i) == 0) = true) := fun i hi => by
      rcases Nat.lt_or_ge i j with h | h
      ·
       exact HC.out i h
      ·
       obtain rfl : i = j := by omega
       exact hq
     clear hq
     go_wp2
     go_roundg (p.filters.n - (j + 1))
     case measure => omega
     case rel => exact ⟨j + 1, by first | rfl | simp, by omega, B1, HN⟩
    ·
     obtain rfl : j = p.filters.n := by omega
     have hj' : ¬ (p.filters.n : Int) < p.filters.n := by omega
     have CL : Hid (allN p.filters.n (fun i => rfc (c.fs i) == 0) = true) := (allN_iff _ _).2 HC.out
     have HR : Hid (x = true) := by show _ = _; rw [HX.out, rflts, AL.out, CL.out]; rfl
     go_wp2
     go_ret
     exact ⟨by rw [HR.out]; rfl, BW.out _ C.out⟩
theorem rfc_fcode (s : ByteArray) : rfc s = fcode s := rfl
def rbad1 (p : Pk) : Bool := forB p || !bnd p
def rbad6 (p : Pk) : Bool := hasID p && (decide (p.id < 1) || decide (65535 < p.id))
def rbad7 (p : Pk) (c : Cn) : Bool := decide (65535 < p.wP.n) || decide (65535 < p.pass.n) || decide (268435455 < rsz p c)
def rbad8 (p : Pk) : Bool := (p.kind == 8 && decide (p.asks.n = 0)) || (p.kind == 9 && decide (p.codes.n = 0)) || (p.kind == 10 && decide (p.filters.n = 0))
def rck (p : Pk) (c : Cn) : Nat :=
 if !isK p.kind then 20 else if rbad1 p then 21 else if bad2 TT p then 22 else if !rtps p then 23 else if !rflts p c then 24 else if !rqls p c then 25
 else if rbad6 p then 26 else if rbad7 p c then 27 else if rbad8 p then 28 else if bad9 p then 29 else 0
theorem rck_ck (p : Pk) (c : Cn) : rck p c = ck TT p c := by
 unfold rck ck rbad1
 cases hk : isK p.kind
 ·
  rfl
 have hk' : 1 ≤ p.kind ∧ p.kind ≤ 14 := by simpa [isK] using hk
 rw [bad1_for p hk'.1 hk'.2]
 cases hf : forB p
 ·
  have ho := (forB_own p).1 hf
  have e8 : bad8 p = rbad8 p := by
   unfold bad8 rbad8
   rw [fl_list p hk'.1 hk'.2, gv_list p]
   by_cases k8 : p.kind = 8
   ·
    have h1 := ho.codes (by omega)
    have h2 := ho.filters (by omega)
    simp [k8, h1, h2]
   by_cases k9 : p.kind = 9
   ·
    have h1 := ho.asks (by omega)
    have h2 := ho.filters (by omega)
    simp [k9, h1, h2]
   by_cases k10 : p.kind = 10
   ·
    have h1 := ho.asks (by omega)
    have h2 := ho.codes (by omega)
    simp [k10, h1, h2]
   simp [k8, k9, k10]
  have e6 : bad6 p = rbad6 p := by unfold bad6 rbad6; rw [fl_id p hk'.1 hk'.2]
  have e7 : bad7 p c = rbad7 p c := by unfold bad7 rbad7; rw [sz_rsz ho]
  have e4 : flts TT p c = rflts p c := by
   unfold flts rflts
   have ea : (fun i => TT.flt (c.af i)) = fun i => rfc (c.af i) == 0 := by funext i; rw [rfc_fcode]; rfl
   have ef : (fun i => TT.flt (c.fs i)) = fun i => rfc (c.fs i) == 0 := by funext i; rw [rfc_fcode]; rfl
   rw [ea, ef]
  rw [e8, e6, e7, e4, tps_rtps ho, qls_rqls ho]
 ·
  rfl
theorem bnd_three (p : Pk) : bnd p = ((decide (0 ≤ p.level) && decide (p.level ≤ 255)) && (decide (0 ≤ p.code) && decide (p.code ≤ 255)) && (decide (0 ≤ p.keep) && decide (p.keep ≤ 65535))) := by
 simp only [bnd, Bool.and_assoc]
structure Rc (w : World) (p : Pk) (c : Cn) (v : Value) : Prop where
 foreign : ∀ w', Calls Tryz.prog 153 #[v] w' fun e w'' => e = .returned (.bool (forB p)) ∧ Below w'.heap.size w' w''
 topics : ∀ w', Calls Tryz.prog 156 #[v] w' fun e w'' => e = .returned (.bool (rtps p)) ∧ Below w'.heap.size w' w''
 filters : ∀ w', Below w.heap.size w w' → Calls Tryz.prog 157 #[v] w' fun e w'' => e = .returned (.bool (rflts p c)) ∧ Below w'.heap.size w' w''
 quals : ∀ w', Below w.heap.size w w' → Calls Tryz.prog 158 #[v] w' fun e w'' => e = .returned (.bool (rqls p c)) ∧ Below w'.heap.size w' w''
 numbered : ∀ w', Calls Tryz.prog 159 #[v] w' fun e w'' => e = .returned (.bool (hasID p)) ∧ Below w'.heap.size w' w''
 bytes : ∀ w', Below w.heap.size w w' → Calls Tryz.prog 160 #[v] w' fun e w'' => e = .returned (.int .i64 (rsz p c)) ∧ Below w'.heap.size w' w''
theorem rc_of {w : World} {p : Pk} {c : Cn} (hin : In w p c) (hs : Small p c) : Rc w p c p.v where
 foreign w' := foreign_any p w'
 topics w' := rtopics_any p w'
 filters w' hb := rfilters_any p c w' (hin.below hb) hs.an hs.fn
 quals w' hb := rqualities_any p c w' (hin.below hb) hs.an hs.cn
 numbered w' := numbered_any p w'
 bytes w' hb := rbytes_any p c w' (hin.below hb) hs
set_option maxHeartbeats 8000000
theorem rcheck_one (p : Pk) (c : Cn) (w : World) (hin : In w p c) (hs : Small p c) (hbad : (!isK p.kind || rbad1 p || bad2 TT p || !rtps p || !rflts p c || !rqls p c) = true) : Calls Tryz.prog 98 #[p.v] w fun e w' => e = .returned (.int .i64 (rck p c)) ∧ Below w.heap.size w w' := by
 have HC : Hid (Rc w p c p.v) := rc_of hin hs
 clear hin hs
 obtain ⟨x, hx⟩ : ∃ x, x = rck p c := ⟨_, rfl⟩
 rw [← hx]
 have E0 : Hid (x = (if !isK p.kind then 20 else if rbad1 p then 21 else if bad2 TT p then 22 else if !rtps p then 23 else if !rflts p c then 24 else if !rqls p c then 25 else if rbad6 p then 26 else if rbad7 p c then 27 else if rbad8 p then 28 else if bad9 p then 29 else 0)) := hx
 clear hx
 obtain ⟨P, hP⟩ : ∃ P, P = pkCells p := ⟨_, rfl⟩
 rw [show p.v = .agg P by rw [hP]; rfl] at HC ⊢
 have HP : Hid (P = pkCells p) := hP
 have hsz : Hid (P.size = 25) := by show _ = _; rw [hP]; rfl
 clear hP
 obtain ⟨W, hW⟩ : ∃ W, W = w.alloc (.cells P 29) := ⟨_, rfl⟩
 have b0 : Hid (Below w.heap.size w W) := box_below hW
 have g0 : Hid (W.heap[w.heap.size]? = some (.cells P 29)) := by show _ = _; rw [hW]; exact heap_alloc_new w _
 have FA : Hid (∀ k v, (pkCells p)[k]? = some v → ∀ w', Below W.heap.size W w' → w'.cell? ⟨w.heap.size, k, none⟩ = some v) := fun k v h w' hb => cell_later hb (by rw [hW]; exact box_cell w P 29 k v (by rw [HP.out]; exact h))
 have GA : Hid (∀ w', Below W.heap.size W w' → w'.heap[w.heap.size]? = some (.cells P 29)) := fun w' hb => (hb.block _ (block_lt g0.out)).trans g0.out
 have BW : Hid (∀ w', Below W.heap.size W w' → Below w.heap.size w w') := fun w' hb => b0.out.trans (hb.mono b0.out.size)
 have R0 : Hid (Below W.heap.size W W) := Below.refl _ _
 have HBAD : Hid ((!isK p.kind || rbad1 p || bad2 TT p || !rtps p || !rflts p c || !rqls p c) = true) := hbad
 clear hbad
 go_enter Tryz.func98, Tryz.ntmps98
 go_upto_region 1 with fail
 rw [← hW]
 clear hW
 go_cut [3] from 3 (fun sx wx => sx = .bool (!isK p.kind) ∧ Hid (Below W.heap.size W wx))
 case first =>
  have c0 := FA.out 0 (.int .i64 p.kind) rfl W R0.out
  by_cases i1 : p.kind < 1
  ·
   have HV : Hid ((!isK p.kind) = true) := by show _ = _; simp only [isK, Bool.not_eq_true', Bool.and_eq_false_iff, decide_eq_false_iff_not]; omega
   go_wp2_with fail
   go_meet
   case rel => exact ⟨by rw [HV.out], R0⟩
  by_cases i2 : 14 < p.kind
  ·
   have HV : Hid ((!isK p.kind) = true) := by show _ = _; simp only [isK, Bool.not_eq_true', Bool.and_eq_false_iff, decide_eq_false_iff_not]; omega
   go_wp2_with fail
   go_meet
   case rel => exact ⟨by rw [HV.out], R0⟩
  have HV : Hid ((!isK p.kind) = false) := by show _ = _; simp only [isK, Bool.not_eq_false', Bool.and_eq_true, decide_eq_true_eq]; omega
  go_wp2_with fail
  go_meet
  case rel => exact ⟨by rw [HV.out], R0⟩
 case rest =>
 obtain ⟨rfl, B1⟩ := hcut
 cases hb0 : (!isK p.kind)
 case true =>
  go_wp2
  go_ret
  exact ⟨by rw [E0.out, hb0]; rfl, BW.out _ B1.out⟩
 have E1 : Hid (x = (if rbad1 p then 21 else if bad2 TT p then 22 else if !rtps p then 23 else if !rflts p c then 24 else if !rqls p c then 25 else if rbad6 p then 26 else if rbad7 p c then 27 else if rbad8 p then 28 else if bad9 p then 29 else 0)) := by show _ = _; rw [E0.out, hb0]; rfl
 have G0 : Hid ((!isK p.kind) = false) := hb0
 clear hb0 E0
 go_upto_region 3 with fail
 go_cut [12] from 3 (fun sx wx => sx = .bool (rbad1 p) ∧ Hid (Below W.heap.size W wx))
 case first =>
  have HV : Hid (rbad1 p = (forB p || !((decide (0 ≤ p.level) && decide (p.level ≤ 255)) && (decide (0 ≤ p.code) && decide (p.code ≤ 255)) && (decide (0 ≤ p.keep) && decide (p.keep ≤ 65535))))) := by show _ = _; rw [rbad1, bnd_three]
  obtain ⟨y0, q0⟩ : ∃ b, forB p = b := ⟨_, rfl⟩
  obtain ⟨y1, q1⟩ : ∃ b, (decide (0 ≤ p.level) && decide (p.level ≤ 255)) = b := ⟨_, rfl⟩
  obtain ⟨y2, q2⟩ : ∃ b, (decide (0 ≤ p.code) && decide (p.code ≤ 255)) = b := ⟨_, rfl⟩
  obtain ⟨y3, q3⟩ : ∃ b, (decide (0 ≤ p.keep) && decide (p.keep ≤ 65535)) = b := ⟨_, rfl⟩
  rw [q0, q1, q2, q3] at HV
  cases y0
  case true =>
   go_wp2_with (first | (refine wpList_load_wanted rfl _ rfl w.heap.size rfl _ (0, 0) (GA.out _ B1.out) hsz.out ?_) | (go_at_call 153; refine (HC.out.foreign _).mono ?_; rintro e w1 ⟨rfl, hb⟩; have D1 : Hid (Below W.heap.size W w1) := B1.out.trans (hb.mono B1.out.size); clear hb; rw [q0]; have c1 := FA.out 1 (.int .i64 p.level) rfl w1 D1.out; have c15 := FA.out 15 (.int .i64 p.code) rfl w1 D1.out; have c3 := FA.out 3 (.int .i64 p.keep) rfl w1 D1.out) | (go_at_call 154; refine (within_any _ _ _).mono ?_; rintro e w' ⟨rfl, hee⟩; obtain rfl := hee.symm; clear hee; first | rw [q1] | rw [q2] | rw [q3]))
   go_meet
   case rel => exact ⟨by rw [HV.out]; rfl, D1⟩
  cases y1
  case false =>
   go_wp2_with (first | (refine wpList_load_wanted rfl _ rfl w.heap.size rfl _ (0, 0) (GA.out _ B1.out) hsz.out ?_) | (go_at_call 153; refine (HC.out.foreign _).mono ?_; rintro e w1 ⟨rfl, hb⟩; have D1 : Hid (Below W.heap.size W w1) := B1.out.trans (hb.mono B1.out.size); clear hb; rw [q0]; have c1 := FA.out 1 (.int .i64 p.level) rfl w1 D1.out; have c15 := FA.out 15 (.int .i64 p.code) rfl w1 D1.out; have c3 := FA.out 3 (.int .i64 p.keep) rfl w1 D1.out) | (go_at_call 154; refine (within_any _ _ _).mono ?_; rintro e w' ⟨rfl, hee⟩; obtain rfl := hee.symm; clear hee; first | rw [q1] | rw [q2] | rw [q3]))
   go_meet
   case rel => exact ⟨by rw [HV.out]; rfl, D1⟩
  cases y2
  case false =>
   go_wp2_with (first | (refine wpList_load_wanted rfl _ rfl w.heap.size rfl _ (0, 0) (GA.out _ B1.out) hsz.out ?_) | (go_at_call 153; refine (HC.out.foreign _).mono ?_; rintro e w1 ⟨rfl, hb⟩; have D1 : Hid (Below W.heap.size W w1) := B1.out.trans (hb.mono B1.out.size); clear hb; rw [q0]; have c1 := FA.out 1 (.int .i64 p.level) rfl w1 D1.out; have c15 := FA.out 15 (.int .i64 p.code) rfl w1 D1.out; have c3 := FA.out 3 (.int .i64 p.keep) rfl w1 D1.out) | (go_at_call 154; refine (within_any _ _ _).mono ?_; rintro e w' ⟨rfl, hee⟩; obtain rfl := hee.symm; clear hee; first | rw [q1] | rw [q2] | rw [q3]))
   go_meet
   case rel => exact ⟨by rw [HV.out]; rfl, D1⟩
  cases y3
  case false =>
   go_wp2_with (first | (refine wpList_load_wanted rfl _ rfl w.heap.size rfl _ (0, 0) (GA.out _ B1.out) hsz.out ?_) | (go_at_call 153; refine (HC.out.foreign _).mono ?_; rintro e w1 ⟨rfl, hb⟩; have D1 : Hid (Below W.heap.size W w1) := B1.out.trans (hb.mono B1.out.size); clear hb; rw [q0]; have c1 := FA.out 1 (.int .i64 p.level) rfl w1 D1.out; have c15 := FA.out 15 (.int .i64 p.code) rfl w1 D1.out; have c3 := FA.out 3 (.int .i64 p.keep) rfl w1 D1.out) | (go_at_call 154; refine (within_any _ _ _).mono ?_; rintro e w' ⟨rfl, hee⟩; obtain rfl := hee.symm; clear hee; first | rw [q1] | rw [q2] | rw [q3]))
   go_meet
   case rel => exact ⟨by rw [HV.out]; rfl, D1⟩
  go_wp2_with (first | (refine wpList_load_wanted rfl _ rfl w.heap.size rfl _ (0, 0) (GA.out _ B1.out) hsz.out ?_) | (go_at_call 153; refine (HC.out.foreign _).mono ?_; rintro e w1 ⟨rfl, hb⟩; have D1 : Hid (Below W.heap.size W w1) := B1.out.trans (hb.mono B1.out.size); clear hb; rw [q0]; have c1 := FA.out 1 (.int .i64 p.level) rfl w1 D1.out; have c15 := FA.out 15 (.int .i64 p.code) rfl w1 D1.out; have c3 := FA.out 3 (.int .i64 p.keep) rfl w1 D1.out) | (go_at_call 154; refine (within_any _ _ _).mono ?_; rintro e w' ⟨rfl, hee⟩; obtain rfl := hee.symm; clear hee; first | rw [q1] | rw [q2] | rw [q3]))
  go_meet
  case rel => exact ⟨by rw [HV.out]; rfl, D1⟩
 case rest =>
 obtain ⟨rfl, B2⟩ := hcut
 cases hb1 : (rbad1 p)
 case true =>
  go_wp2
  go_ret
  exact ⟨by rw [E1.out, hb1]; rfl, BW.out _ B2.out⟩
 have E2 : Hid (x = (if bad2 TT p then 22 else if !rtps p then 23 else if !rflts p c then 24 else if !rqls p c then 25 else if rbad6 p then 26 else if rbad7 p c then 27 else if rbad8 p then 28 else if bad9 p then 29 else 0)) := by show _ = _; rw [E1.out, hb1]; rfl
 have G1 : Hid ((rbad1 p) = false) := hb1
 clear hb1 E1
 go_upto_region 5 with fail
 go_cut [33] from 3 (fun sx wx => sx = .bool (bad2 TT p) ∧ Hid (Below W.heap.size W wx))
 case first =>
  have c4 := FA.out 4 (.string p.client) rfl wc B2.out
  have c11 := FA.out 11 (.string p.user) rfl wc B2.out
  have HV : Hid (bad2 TT p = (!txt p.client || !txt p.user)) := rfl
  obtain ⟨y0, q0⟩ : ∃ b, txt p.client = b := ⟨_, rfl⟩
  obtain ⟨y1, q1⟩ : ∃ b, txt p.user = b := ⟨_, rfl⟩
  rw [q0, q1] at HV
  cases y0
  case false =>
   go_wp2_with (go_at_call 155; refine (rtext_any _ _).mono ?_; rintro e w' ⟨rfl, hee⟩; obtain rfl := hee.symm; clear hee; first | rw [q0] | rw [q1])
   go_meet
   case rel => exact ⟨by rw [HV.out]; rfl, B2⟩
  cases y1
  case false =>
   go_wp2_with (go_at_call 155; refine (rtext_any _ _).mono ?_; rintro e w' ⟨rfl, hee⟩; obtain rfl := hee.symm; clear hee; first | rw [q0] | rw [q1])
   go_meet
   case rel => exact ⟨by rw [HV.out]; rfl, B2⟩
  go_wp2_with (go_at_call 155; refine (rtext_any _ _).mono ?_; rintro e w' ⟨rfl, hee⟩; obtain rfl := hee.symm; clear hee; first | rw [q0] | rw [q1])
  go_meet
  case rel => exact ⟨by rw [HV.out]; rfl, B2⟩
 case rest =>
 obtain ⟨rfl, B3⟩ := hcut
 cases hb2 : (bad2 TT p)
 case true =>
  go_wp2
  go_ret
  exact ⟨by rw [E2.out, hb2]; rfl, BW.out _ B3.out⟩
 have E3 : Hid (x = (if !rtps p then 23 else if !rflts p c then 24 else if !rqls p c then 25 else if rbad6 p then 26 else if rbad7 p c then 27 else if rbad8 p then 28 else if bad9 p then 29 else 0)) := by show _ = _; rw [E2.out, hb2]; rfl
 have G2 : Hid ((bad2 TT p) = false) := hb2
 clear hb2 E2
 go_upto_region 7 with fail
 go_cut [44] from 3 (fun sx wx => sx = .bool (!rtps p) ∧ Hid (Below W.heap.size W wx))
 case first =>
  go_wp2_with (first | (refine wpList_load_wanted rfl _ rfl w.heap.size rfl _ (0, 0) (GA.out _ B3.out) hsz.out ?_) | (go_at_call 156; refine (HC.out.topics _).mono ?_; rintro e w1 ⟨rfl, hb⟩; have D1 : Hid (Below W.heap.size W w1) := B3.out.trans (hb.mono B3.out.size); clear hb))
  go_meet
  case rel => exact ⟨rfl, D1⟩
 case rest =>
 obtain ⟨rfl, B4⟩ := hcut
 cases hb3 : (!rtps p)
 case true =>
  go_wp2
  go_ret
  exact ⟨by rw [E3.out, hb3]; rfl, BW.out _ B4.out⟩
 have E4 : Hid (x = (if !rflts p c then 24 else if !rqls p c then 25 else if rbad6 p then 26 else if rbad7 p c then 27 else if rbad8 p then 28 else if bad9 p then 29 else 0)) := by show _ = _; rw [E3.out, hb3]; rfl
 have G3 : Hid ((!rtps p) = false) := hb3
 clear hb3 E3
 go_upto_region 9 with fail
 go_cut [48] from 3 (fun sx wx => sx = .bool (!rflts p c) ∧ Hid (Below W.heap.size W wx))
 case first =>
  go_wp2_with (first | (refine wpList_load_wanted rfl _ rfl w.heap.size rfl _ (0, 0) (GA.out _ B4.out) hsz.out ?_) | (go_at_call 157; refine (HC.out.filters _ (BW.out _ B4.out)).mono ?_; rintro e w1 ⟨rfl, hb⟩; have D1 : Hid (Below W.heap.size W w1) := B4.out.trans (hb.mono B4.out.size); clear hb))
  go_meet
  case rel => exact ⟨rfl, D1⟩
 case rest =>
 obtain ⟨rfl, B5⟩ := hcut
 cases hb4 : (!rflts p c)
 case true =>
  go_wp2
  go_ret
  exact ⟨by rw [E4.out, hb4]; rfl, BW.out _ B5.out⟩
 have E5 : Hid (x = (if !rqls p c then 25 else if rbad6 p then 26 else if rbad7 p c then 27 else if rbad8 p then 28 else if bad9 p then 29 else 0)) := by show _ = _; rw [E4.out, hb4]; rfl
 have G4 : Hid ((!rflts p c) = false) := hb4
 clear hb4 E4
 go_upto_region 11 with fail
 go_cut [52] from 3 (fun sx wx => sx = .bool (!rqls p c) ∧ Hid (Below W.heap.size W wx))
 case first =>
  go_wp2_with (first | (refine wpList_load_wanted rfl _ rfl w.heap.size rfl _ (0, 0) (GA.out _ B5.out) hsz.out ?_) | (go_at_call 158; refine (HC.out.quals _ (BW.out _ B5.out)).mono ?_; rintro e w1 ⟨rfl, hb⟩; have D1 : Hid (Below W.heap.size W w1) := B5.out.trans (hb.mono B5.out.size); clear hb))
  go_meet
  case rel => exact ⟨rfl, D1⟩
 case rest =>
 obtain ⟨rfl, B6⟩ := hcut
 cases hb5 : (!rqls p c)
 case true =>
  go_wp2
  go_ret
  exact ⟨by rw [E5.out, hb5]; rfl, BW.out _ B6.out⟩
 have E6 : Hid (x = (if rbad6 p then 26 else if rbad7 p c then 27 else if rbad8 p then 28 else if bad9 p then 29 else 0)) := by show _ = _; rw [E5.out, hb5]; rfl
 have G5 : Hid ((!rqls p c) = false) := hb5
 clear hb5 E5
 exact absurd HBAD.out (by rw [G0.out, G1.out, G2.out, G3.out, G4.out, G5.out]; decide)
theorem rcheck_two (p : Pk) (c : Cn) (w : World) (hin : In w p c) (hs : Small p c) (h0 : (!isK p.kind) = false) (h1 : rbad1 p = false) (h2 : bad2 TT p = false) (h3 : (!rtps p) = false) (h4 : (!rflts p c) = false) (h5 : (!rqls p c) = false) (hbad : (rbad6 p || rbad7 p c) = true) : Calls Tryz.prog 98 #[p.v] w fun e w' => e = .returned (.int .i64 (rck p c)) ∧ Below w.heap.size w w' := by
 have HC : Hid (Rc w p c p.v) := rc_of hin hs
 clear hin hs
 obtain ⟨x, hx⟩ : ∃ x, x = rck p c := ⟨_, rfl⟩
 rw [← hx]
 have E6 : Hid (x = (if rbad6 p then 26 else if rbad7 p c then 27 else if rbad8 p then 28 else if bad9 p then 29 else 0)) := by show _ = _; rw [hx, rck, h0, h1, h2, h3, h4, h5]; rfl
 clear hx
 have HBAD : Hid ((rbad6 p || rbad7 p c) = true) := hbad
 clear hbad
 have Q0 : Hid (forB p = false ∧ (decide (0 ≤ p.level) && decide (p.level ≤ 255)) = true ∧ (decide (0 ≤ p.code) && decide (p.code ≤ 255)) = true ∧ (decide (0 ≤ p.keep) && decide (p.keep ≤ 65535)) = true) := by
  have hh := h1
  rw [rbad1, bnd_three, Bool.or_eq_false_iff, Bool.not_eq_false', Bool.and_eq_true, Bool.and_eq_true] at hh
  exact ⟨hh.1, hh.2.1.1, hh.2.1.2, hh.2.2⟩
 have Q1 : Hid (txt p.client = true ∧ txt p.user = true) := by
  have hh : (!txt p.client || !txt p.user) = false := h2
  rw [Bool.or_eq_false_iff, Bool.not_eq_false', Bool.not_eq_false'] at hh
  exact hh
 have Q2 : Hid (rtps p = true ∧ rflts p c = true ∧ rqls p c = true) := ⟨by simpa using h3, by simpa using h4, by simpa using h5⟩
 have QK : Hid (¬ p.kind < 1 ∧ ¬ 14 < p.kind) := by
  have hh := h0
  simp only [isK, Bool.not_eq_false', Bool.and_eq_true, decide_eq_true_eq] at hh
  exact ⟨by omega, by omega⟩
 clear h0 h1 h2 h3 h4 h5
 obtain ⟨P, hP⟩ : ∃ P, P = pkCells p := ⟨_, rfl⟩
 rw [show p.v = .agg P by rw [hP]; rfl] at HC ⊢
 have HP : Hid (P = pkCells p) := hP
 have hsz : Hid (P.size = 25) := by show _ = _; rw [hP]; rfl
 clear hP
 obtain ⟨W, hW⟩ : ∃ W, W = w.alloc (.cells P 29) := ⟨_, rfl⟩
 have b0 : Hid (Below w.heap.size w W) := box_below hW
 have g0 : Hid (W.heap[w.heap.size]? = some (.cells P 29)) := by show _ = _; rw [hW]; exact heap_alloc_new w _
 have FA : Hid (∀ k v, (pkCells p)[k]? = some v → ∀ w', Below W.heap.size W w' → w'.cell? ⟨w.heap.size, k, none⟩ = some v) := fun k v h w' hb => cell_later hb (by rw [hW]; exact box_cell w P 29 k v (by rw [HP.out]; exact h))
 have GA : Hid (∀ w', Below W.heap.size W w' → w'.heap[w.heap.size]? = some (.cells P 29)) := fun w' hb => (hb.block _ (block_lt g0.out)).trans g0.out
 have BW : Hid (∀ w', Below W.heap.size W w' → Below w.heap.size w w') := fun w' hb => b0.out.trans (hb.mono b0.out.size)
 have R0 : Hid (Below W.heap.size W W) := Below.refl _ _
 go_enter Tryz.func98, Tryz.ntmps98
 go_upto_region 1 with fail
 rw [← hW]
 clear hW
 have D := R0
 have c0 := FA.out 0 (.int .i64 p.kind) rfl W R0.out
 have i1 := QK.out.1
 have i2 := QK.out.2
 have q0 := Q0.out.1
 have q1 := Q0.out.2.1
 have q2 := Q0.out.2.2.1
 have q3 := Q0.out.2.2.2
 go_upto_region 3 with fail
 clear c0 i1 i2
 go_upto_region 5 with (first | (refine wpList_load_wanted rfl _ rfl w.heap.size rfl _ (0, 0) (GA.out _ D.out) hsz.out ?_) | (go_at_call 153; refine (HC.out.foreign _).mono ?_; rintro e w1 ⟨rfl, hb⟩; have D1 : Hid (Below W.heap.size W w1) := D.out.trans (hb.mono D.out.size); clear hb; rw [q0]; have c1 := FA.out 1 (.int .i64 p.level) rfl w1 D1.out; have c15 := FA.out 15 (.int .i64 p.code) rfl w1 D1.out; have c3 := FA.out 3 (.int .i64 p.keep) rfl w1 D1.out; have c4 := FA.out 4 (.string p.client) rfl w1 D1.out; have c11 := FA.out 11 (.string p.user) rfl w1 D1.out) | (go_at_call 154; refine (within_any _ _ _).mono ?_; rintro e w' ⟨rfl, hee⟩; obtain rfl := hee.symm; clear hee; first | rw [q1] | rw [q2] | rw [q3]))
 clear q0 q1 q2 q3 c1 c15 c3 D
 have q0 := Q1.out.1
 have q1 := Q1.out.2
 go_upto_region 7 with (go_at_call 155; refine (rtext_any _ _).mono ?_; rintro e w' ⟨rfl, hee⟩; obtain rfl := hee.symm; clear hee; first | rw [q0] | rw [q1])
 clear q0 q1 c4 c11
 have q0 := Q2.out.1
 go_upto_region 9 with (first | (refine wpList_load_wanted rfl _ rfl w.heap.size rfl _ (0, 0) (GA.out _ D1.out) hsz.out ?_) | (go_at_call 156; refine (HC.out.topics _).mono ?_; rintro e w2 ⟨rfl, hb⟩; have D2 : Hid (Below W.heap.size W w2) := D1.out.trans (hb.mono D1.out.size); clear hb; rw [q0]))
 clear q0 D1
 have q0 := Q2.out.2.1
 go_upto_region 11 with (first | (refine wpList_load_wanted rfl _ rfl w.heap.size rfl _ (0, 0) (GA.out _ D2.out) hsz.out ?_) | (go_at_call 157; refine (HC.out.filters _ (BW.out _ D2.out)).mono ?_; rintro e w3 ⟨rfl, hb⟩; have D3 : Hid (Below W.heap.size W w3) := D2.out.trans (hb.mono D2.out.size); clear hb; rw [q0]))
 clear q0 D2
 have q0 := Q2.out.2.2
 go_upto_region 13 with (first | (refine wpList_load_wanted rfl _ rfl w.heap.size rfl _ (0, 0) (GA.out _ D3.out) hsz.out ?_) | (go_at_call 158; refine (HC.out.quals _ (BW.out _ D3.out)).mono ?_; rintro e wc ⟨rfl, hb⟩; have B6 : Hid (Below W.heap.size W wc) := D3.out.trans (hb.mono D3.out.size); clear hb; rw [q0]))
 clear q0 D3
 go_cut [56] from 3 (fun sx wx => sx = .bool (rbad6 p) ∧ Hid (Below W.heap.size W wx))
 case first =>
  have HV : Hid (rbad6 p = (hasID p && (decide (p.id < 1) || decide (65535 < p.id)))) := rfl
  obtain ⟨y0, q0⟩ : ∃ b, hasID p = b := ⟨_, rfl⟩
  rw [q0] at HV
  cases y0
  case false =>
   go_wp2_with (first | (refine wpList_load_wanted rfl _ rfl w.heap.size rfl _ (0, 0) (GA.out _ B6.out) hsz.out ?_) | (go_at_call 159; refine (HC.out.numbered _).mono ?_; rintro e w1 ⟨rfl, hb⟩; have D1 : Hid (Below W.heap.size W w1) := B6.out.trans (hb.mono B6.out.size); clear hb; rw [q0]; have c21 := FA.out 21 (.int .i64 p.id) rfl w1 D1.out))
   go_meet
   case rel => exact ⟨by rw [HV.out]; rfl, D1⟩
  by_cases i1 : p.id < 1
  ·
   have HU : Hid (rbad6 p = true) := by show _ = _; rw [HV.out, decide_eq_true i1]; rfl
   go_wp2_with (first | (refine wpList_load_wanted rfl _ rfl w.heap.size rfl _ (0, 0) (GA.out _ B6.out) hsz.out ?_) | (go_at_call 159; refine (HC.out.numbered _).mono ?_; rintro e w1 ⟨rfl, hb⟩; have D1 : Hid (Below W.heap.size W w1) := B6.out.trans (hb.mono B6.out.size); clear hb; rw [q0]; have c21 := FA.out 21 (.int .i64 p.id) rfl w1 D1.out))
   go_meet
   case rel => exact ⟨by rw [HU.out], D1⟩
  by_cases i2 : 65535 < p.id
  ·
   have HU : Hid (rbad6 p = true) := by show _ = _; rw [HV.out, decide_eq_true i2, decide_eq_false i1]; rfl
   go_wp2_with (first | (refine wpList_load_wanted rfl _ rfl w.heap.size rfl _ (0, 0) (GA.out _ B6.out) hsz.out ?_) | (go_at_call 159; refine (HC.out.numbered _).mono ?_; rintro e w1 ⟨rfl, hb⟩; have D1 : Hid (Below W.heap.size W w1) := B6.out.trans (hb.mono B6.out.size); clear hb; rw [q0]; have c21 := FA.out 21 (.int .i64 p.id) rfl w1 D1.out))
   go_meet
   case rel => exact ⟨by rw [HU.out], D1⟩
  have HU : Hid (rbad6 p = false) := by show _ = _; rw [HV.out, decide_eq_false i2, decide_eq_false i1]; rfl
  have HI : Hid ((decide (p.id < 1) || decide (65535 < p.id)) = false) := by show _ = _; rw [decide_eq_false i1, decide_eq_false i2]; rfl
  go_wp2_with (first | (refine wpList_load_wanted rfl _ rfl w.heap.size rfl _ (0, 0) (GA.out _ B6.out) hsz.out ?_) | (go_at_call 159; refine (HC.out.numbered _).mono ?_; rintro e w1 ⟨rfl, hb⟩; have D1 : Hid (Below W.heap.size W w1) := B6.out.trans (hb.mono B6.out.size); clear hb; rw [q0]; have c21 := FA.out 21 (.int .i64 p.id) rfl w1 D1.out))
  go_meet
  case rel => exact ⟨by first | (rw [HU.out]; done) | (rw [HU.out, HI.out]), D1⟩
 case rest =>
 obtain ⟨rfl, B7⟩ := hcut
 cases hb6 : (rbad6 p)
 case true =>
  go_wp2
  go_ret
  exact ⟨by rw [E6.out, hb6]; rfl, BW.out _ B7.out⟩
 have E7 : Hid (x = (if rbad7 p c then 27 else if rbad8 p then 28 else if bad9 p then 29 else 0)) := by show _ = _; rw [E6.out, hb6]; rfl
 have G6 : Hid ((rbad6 p) = false) := hb6
 clear hb6 E6
 go_upto_region 15 with fail
 go_cut [69] from 3 (fun sx wx => sx = .bool (rbad7 p c) ∧ Hid (Below W.heap.size W wx))
 case first =>
  have c7 := FA.out 7 (.slice p.wP.a p.wP.n p.wP.c) rfl wc B7.out
  have c13 := FA.out 13 (.slice p.pass.a p.pass.n p.pass.c) rfl wc B7.out
  have HV : Hid (rbad7 p c = (decide ((65535 : Int) < p.wP.n) || decide ((65535 : Int) < p.pass.n) || decide ((268435455 : Int) < rsz p c))) := by
   have d1 : decide ((65535 : Int) < p.wP.n) = decide (65535 < p.wP.n) := decide_eq_decide.2 (by omega)
   have d2 : decide ((65535 : Int) < p.pass.n) = decide (65535 < p.pass.n) := decide_eq_decide.2 (by omega)
   have d3 : decide ((268435455 : Int) < rsz p c) = decide (268435455 < rsz p c) := decide_eq_decide.2 (by omega)
   show _ = _
   rw [d1, d2, d3]; rfl
  by_cases l1 : (65535 : Int) < p.wP.n
  ·
   have HU : Hid (rbad7 p c = true) := by show _ = _; rw [HV.out, decide_eq_true l1]; rfl
   go_wp2_with fail
   go_meet
   case rel => exact ⟨by rw [HU.out], B7⟩
  by_cases l2 : (65535 : Int) < p.pass.n
  ·
   have HU : Hid (rbad7 p c = true) := by show _ = _; rw [HV.out, decide_eq_true l2, Bool.or_true]; rfl
   go_wp2_with fail
   go_meet
   case rel => exact ⟨by rw [HU.out], B7⟩
  have HU : Hid (rbad7 p c = decide ((268435455 : Int) < rsz p c)) := by show _ = _; rw [HV.out, decide_eq_false l1, decide_eq_false l2]; rfl
  go_wp2_with (first | (refine wpList_load_wanted rfl _ rfl w.heap.size rfl _ (0, 0) (GA.out _ B7.out) hsz.out ?_) | (go_at_call 160; refine (HC.out.bytes _ (BW.out _ B7.out)).mono ?_; rintro e w1 ⟨rfl, hb⟩; have D1 : Hid (Below W.heap.size W w1) := B7.out.trans (hb.mono B7.out.size); clear hb))
  go_meet
  case rel => exact ⟨by rw [HU.out], D1⟩
 case rest =>
 obtain ⟨rfl, B8⟩ := hcut
 cases hb7 : (rbad7 p c)
 case true =>
  go_wp2
  go_ret
  exact ⟨by rw [E7.out, hb7]; rfl, BW.out _ B8.out⟩
 have E8 : Hid (x = (if rbad8 p then 28 else if bad9 p then 29 else 0)) := by show _ = _; rw [E7.out, hb7]; rfl
 have G7 : Hid ((rbad7 p c) = false) := hb7
 clear hb7 E7
 exact absurd HBAD.out (by rw [G6.out, G7.out]; decide)
theorem rcheck_three (p : Pk) (c : Cn) (w : World) (hin : In w p c) (hs : Small p c) (h0 : (!isK p.kind) = false) (h1 : rbad1 p = false) (h2 : bad2 TT p = false) (h3 : (!rtps p) = false) (h4 : (!rflts p c) = false) (h5 : (!rqls p c) = false) (h6 : rbad6 p = false) (h7 : rbad7 p c = false) : Calls Tryz.prog 98 #[p.v] w fun e w' => e = .returned (.int .i64 (rck p c)) ∧ Below w.heap.size w w' := by
 have HC : Hid (Rc w p c p.v) := rc_of hin hs
 clear hin hs
 obtain ⟨x, hx⟩ : ∃ x, x = rck p c := ⟨_, rfl⟩
 rw [← hx]
 have E8 : Hid (x = (if rbad8 p then 28 else if bad9 p then 29 else 0)) := by show _ = _; rw [hx, rck, h0, h1, h2, h3, h4, h5, h6, h7]; rfl
 clear hx
 have Q0 : Hid (forB p = false ∧ (decide (0 ≤ p.level) && decide (p.level ≤ 255)) = true ∧ (decide (0 ≤ p.code) && decide (p.code ≤ 255)) = true ∧ (decide (0 ≤ p.keep) && decide (p.keep ≤ 65535)) = true) := by
  have hh := h1
  rw [rbad1, bnd_three, Bool.or_eq_false_iff, Bool.not_eq_false', Bool.and_eq_true, Bool.and_eq_true] at hh
  exact ⟨hh.1, hh.2.1.1, hh.2.1.2, hh.2.2⟩
 have Q1 : Hid (txt p.client = true ∧ txt p.user = true) := by
  have hh : (!txt p.client || !txt p.user) = false := h2
  rw [Bool.or_eq_false_iff, Bool.not_eq_false', Bool.not_eq_false'] at hh
  exact hh
 have Q2 : Hid (rtps p = true ∧ rflts p c = true ∧ rqls p c = true) := ⟨by simpa using h3, by simpa using h4, by simpa using h5⟩
 have QK : Hid (¬ p.kind < 1 ∧ ¬ 14 < p.kind) := by
  have hh := h0
  simp only [isK, Bool.not_eq_false', Bool.and_eq_true, decide_eq_true_eq] at hh
  exact ⟨by omega, by omega⟩
 have Q6 : Hid (hasID p = true → ¬ p.id < 1 ∧ ¬ 65535 < p.id) := fun hq => by
  have hh := h6
  rw [rbad6, hq] at hh
  simp only [Bool.true_and, Bool.or_eq_false_iff, decide_eq_false_iff_not] at hh
  exact hh
 have Q7 : Hid (¬ (65535 : Int) < p.wP.n ∧ ¬ (65535 : Int) < p.pass.n ∧ ¬ (268435455 : Int) < rsz p c) := by
  have hh := h7
  simp only [rbad7, Bool.or_eq_false_iff, decide_eq_false_iff_not] at hh
  exact ⟨by omega, by omega, by omega⟩
 clear h0 h1 h2 h3 h4 h5 h6 h7
 obtain ⟨P, hP⟩ : ∃ P, P = pkCells p := ⟨_, rfl⟩
 rw [show p.v = .agg P by rw [hP]; rfl] at HC ⊢
 have HP : Hid (P = pkCells p) := hP
 have hsz : Hid (P.size = 25) := by show _ = _; rw [hP]; rfl
 clear hP
 obtain ⟨W, hW⟩ : ∃ W, W = w.alloc (.cells P 29) := ⟨_, rfl⟩
 have b0 : Hid (Below w.heap.size w W) := box_below hW
 have g0 : Hid (W.heap[w.heap.size]? = some (.cells P 29)) := by show _ = _; rw [hW]; exact heap_alloc_new w _
 have FA : Hid (∀ k v, (pkCells p)[k]? = some v → ∀ w', Below W.heap.size W w' → w'.cell? ⟨w.heap.size, k, none⟩ = some v) := fun k v h w' hb => cell_later hb (by rw [hW]; exact box_cell w P 29 k v (by rw [HP.out]; exact h))
 have GA : Hid (∀ w', Below W.heap.size W w' → w'.heap[w.heap.size]? = some (.cells P 29)) := fun w' hb => (hb.block _ (block_lt g0.out)).trans g0.out
 have BW : Hid (∀ w', Below W.heap.size W w' → Below w.heap.size w w') := fun w' hb => b0.out.trans (hb.mono b0.out.size)
 have R0 : Hid (Below W.heap.size W W) := Below.refl _ _
 go_enter Tryz.func98, Tryz.ntmps98
 go_upto_region 1 with fail
 rw [← hW]
 clear hW
 have D := R0
 have c0 := FA.out 0 (.int .i64 p.kind) rfl W R0.out
 have i1 := QK.out.1
 have i2 := QK.out.2
 have q0 := Q0.out.1
 have q1 := Q0.out.2.1
 have q2 := Q0.out.2.2.1
 have q3 := Q0.out.2.2.2
 go_upto_region 3 with fail
 clear c0 i1 i2
 go_upto_region 5 with (first | (refine wpList_load_wanted rfl _ rfl w.heap.size rfl _ (0, 0) (GA.out _ D.out) hsz.out ?_) | (go_at_call 153; refine (HC.out.foreign _).mono ?_; rintro e w1 ⟨rfl, hb⟩; have D1 : Hid (Below W.heap.size W w1) := D.out.trans (hb.mono D.out.size); clear hb; rw [q0]; have c1 := FA.out 1 (.int .i64 p.level) rfl w1 D1.out; have c15 := FA.out 15 (.int .i64 p.code) rfl w1 D1.out; have c3 := FA.out 3 (.int .i64 p.keep) rfl w1 D1.out; have c4 := FA.out 4 (.string p.client) rfl w1 D1.out; have c11 := FA.out 11 (.string p.user) rfl w1 D1.out) | (go_at_call 154; refine (within_any _ _ _).mono ?_; rintro e w' ⟨rfl, hee⟩; obtain rfl := hee.symm; clear hee; first | rw [q1] | rw [q2] | rw [q3]))
 clear q0 q1 q2 q3 c1 c15 c3 D
 have q0 := Q1.out.1
 have q1 := Q1.out.2
 go_upto_region 7 with (go_at_call 155; refine (rtext_any _ _).mono ?_; rintro e w' ⟨rfl, hee⟩; obtain rfl := hee.symm; clear hee; first | rw [q0] | rw [q1])
 clear q0 q1 c4 c11
 have q0 := Q2.out.1
 go_upto_region 9 with (first | (refine wpList_load_wanted rfl _ rfl w.heap.size rfl _ (0, 0) (GA.out _ D1.out) hsz.out ?_) | (go_at_call 156; refine (HC.out.topics _).mono ?_; rintro e w2 ⟨rfl, hb⟩; have D2 : Hid (Below W.heap.size W w2) := D1.out.trans (hb.mono D1.out.size); clear hb; rw [q0]))
 clear q0 D1
 have q0 := Q2.out.2.1
 go_upto_region 11 with (first | (refine wpList_load_wanted rfl _ rfl w.heap.size rfl _ (0, 0) (GA.out _ D2.out) hsz.out ?_) | (go_at_call 157; refine (HC.out.filters _ (BW.out _ D2.out)).mono ?_; rintro e w3 ⟨rfl, hb⟩; have D3 : Hid (Below W.heap.size W w3) := D2.out.trans (hb.mono D2.out.size); clear hb; rw [q0]))
 clear q0 D2
 have q0 := Q2.out.2.2
 go_upto_region 13 with (first | (refine wpList_load_wanted rfl _ rfl w.heap.size rfl _ (0, 0) (GA.out _ D3.out) hsz.out ?_) | (go_at_call 158; refine (HC.out.quals _ (BW.out _ D3.out)).mono ?_; rintro e wc ⟨rfl, hb⟩; have B6 : Hid (Below W.heap.size W wc) := D3.out.trans (hb.mono D3.out.size); clear hb; rw [q0]))
 clear q0 D3
 go_cut [56] from 3 (fun sx wx => sx = .bool false ∧ Hid (Below W.heap.size W wx))
 case first =>
  obtain ⟨y0, q0⟩ : ∃ b, hasID p = b := ⟨_, rfl⟩
  cases y0
  case false =>
   go_wp2_with (first | (refine wpList_load_wanted rfl _ rfl w.heap.size rfl _ (0, 0) (GA.out _ B6.out) hsz.out ?_) | (go_at_call 159; refine (HC.out.numbered _).mono ?_; rintro e w1 ⟨rfl, hb⟩; have D1 : Hid (Below W.heap.size W w1) := B6.out.trans (hb.mono B6.out.size); clear hb; rw [q0]; have c21 := FA.out 21 (.int .i64 p.id) rfl w1 D1.out))
   go_meet
   case rel => exact ⟨rfl, D1⟩
  have i1 : ¬ p.id < 1 := by have := Q6.out q0; omega
  have i2 : ¬ 65535 < p.id := by have := Q6.out q0; omega
  have HI : Hid ((decide (p.id < 1) || decide (65535 < p.id)) = false) := by show _ = _; rw [decide_eq_false i1, decide_eq_false i2]; rfl
  go_wp2_with (first | (refine wpList_load_wanted rfl _ rfl w.heap.size rfl _ (0, 0) (GA.out _ B6.out) hsz.out ?_) | (go_at_call 159; refine (HC.out.numbered _).mono ?_; rintro e w1 ⟨rfl, hb⟩; have D1 : Hid (Below W.heap.size W w1) := B6.out.trans (hb.mono B6.out.size); clear hb; rw [q0]; have c21 := FA.out 21 (.int .i64 p.id) rfl w1 D1.out))
  go_meet
  case rel => exact ⟨by first | rfl | (rw [HI.out]), D1⟩
 case rest =>
 obtain ⟨rfl, B7⟩ := hcut
 go_upto_region 15 with fail
 have c7 := FA.out 7 (.slice p.wP.a p.wP.n p.wP.c) rfl wc B7.out
 have c13 := FA.out 13 (.slice p.pass.a p.pass.n p.pass.c) rfl wc B7.out
 have l1 : ¬ (65535 : Int) < p.wP.n := by have := Q7.out; omega
 have l2 : ¬ (65535 : Int) < p.pass.n := by have := Q7.out; omega
 have l3 : ¬ (268435455 : Int) < rsz p c := by have := Q7.out; omega
 have HI3 : Hid (decide ((268435455 : Int) < rsz p c) = false) := decide_eq_false l3
 clear l3
 go_cut [69] from 3 (fun sx wx => sx = .bool false ∧ Hid (Below W.heap.size W wx))
 case first =>
  go_wp2_with (first | (refine wpList_load_wanted rfl _ rfl w.heap.size rfl _ (0, 0) (GA.out _ B7.out) hsz.out ?_) | (go_at_call 160; refine (HC.out.bytes _ (BW.out _ B7.out)).mono ?_; rintro e w1 ⟨rfl, hb⟩; have D1 : Hid (Below W.heap.size W w1) := B7.out.trans (hb.mono B7.out.size); clear hb))
  go_meet
  case rel => exact ⟨by first | rfl | (rw [HI3.out]), D1⟩
 case rest =>
 obtain ⟨rfl, B8⟩ := hcut
 clear l1 l2 c7 c13
 go_upto_region 17 with fail
 go_cut [86] from 3 (fun sx wx => sx = .bool (rbad8 p) ∧ Hid (Below W.heap.size W wx))
 case first =>
  have c0 := FA.out 0 (.int .i64 p.kind) rfl wc B8.out
  have c22 := FA.out 22 (.slice p.asks.a p.asks.n p.asks.c) rfl wc B8.out
  have c23 := FA.out 23 (.slice p.codes.a p.codes.n p.codes.c) rfl wc B8.out
  have c24 := FA.out 24 (.slice p.filters.a p.filters.n p.filters.c) rfl wc B8.out
  have HV : Hid (rbad8 p = ((p.kind == 8 && ((p.asks.n : Int) == 0)) || (p.kind == 9 && ((p.codes.n : Int) == 0)) || (p.kind == 10 && ((p.filters.n : Int) == 0)))) := by
   have d0 : ((p.asks.n : Int) == 0) = decide (p.asks.n = 0) := by by_cases h : p.asks.n = 0 <;> simp [h]
   have d1 : ((p.codes.n : Int) == 0) = decide (p.codes.n = 0) := by by_cases h : p.codes.n = 0 <;> simp [h]
   have d2 : ((p.filters.n : Int) == 0) = decide (p.filters.n = 0) := by by_cases h : p.filters.n = 0 <;> simp [h]
   show _ = _
   rw [d0, d1, d2]; rfl
  obtain ⟨z0, t0⟩ : ∃ b, ((p.asks.n : Int) == 0) = b := ⟨_, rfl⟩
  obtain ⟨z1, t1⟩ : ∃ b, ((p.codes.n : Int) == 0) = b := ⟨_, rfl⟩
  obtain ⟨z2, t2⟩ : ∃ b, ((p.filters.n : Int) == 0) = b := ⟨_, rfl⟩
  rw [t0, t1, t2] at HV
  by_cases k8 : p.kind = 8
  ·
   have q0 : (p.kind == 8) = true := by simp [k8]
   have q1 : (p.kind == 9) = false := by simp [k8]
   have q2 : (p.kind == 10) = false := by simp [k8]
   rw [q0, q1, q2] at HV
   clear k8
   cases z0
   case true =>
    go_wp2_with fail
    go_meet
    case rel => exact ⟨by rw [HV.out]; rfl, B8⟩
   go_wp2_with fail
   go_meet
   case rel => exact ⟨by rw [HV.out]; rfl, B8⟩
  by_cases k9 : p.kind = 9
  ·
   have q0 : (p.kind == 8) = false := by simp [k9]
   have q1 : (p.kind == 9) = true := by simp [k9]
   have q2 : (p.kind == 10) = false := by simp [k9]
   rw [q0, q1, q2] at HV
   clear k8 k9
   cases z1
   case true =>
    go_wp2_with fail
    go_meet
    case rel => exact ⟨by rw [HV.out]; rfl, B8⟩
   go_wp2_with fail
   go_meet
   case rel => exact ⟨by rw [HV.out]; rfl, B8⟩
  by_cases k10 : p.kind = 10
  ·
   have q0 : (p.kind == 8) = false := by simp [k10]
   have q1 : (p.kind == 9) = false := by simp [k10]
   have q2 : (p.kind == 10) = true := by simp [k10]
   rw [q0, q1, q2] at HV
   clear k8 k9 k10
   cases z2
   case true =>
    go_wp2_with fail
    go_meet
    case rel => exact ⟨by rw [HV.out]; rfl, B8⟩
   go_wp2_with fail
   go_meet
   case rel => exact ⟨by rw [HV.out]; rfl, B8⟩
  have q0 : (p.kind == 8) = false := by simp [k8]
  have q1 : (p.kind == 9) = false := by simp [k9]
  have q2 : (p.kind == 10) = false := by simp [k10]
  rw [q0, q1, q2] at HV
  clear k8 k9 k10
  go_wp2_with fail
  go_meet
  case rel => exact ⟨by rw [HV.out]; rfl, B8⟩
 case rest =>
 obtain ⟨rfl, B9⟩ := hcut
 cases hb8 : (rbad8 p)
 case true =>
  go_wp2
  go_ret
  exact ⟨by rw [E8.out, hb8]; rfl, BW.out _ B9.out⟩
 have E9 : Hid (x = (if bad9 p then 29 else 0)) := by show _ = _; rw [E8.out, hb8]; rfl
 clear hb8 E8
 go_upto_region 19 with fail
 go_cut [118] from 3 (fun sx wx => sx = .bool (bad9 p) ∧ Hid (Below W.heap.size W wx))
 case first =>
  have c12 := FA.out 12 (.bool p.hasPass) rfl wc B9.out
  have c10 := FA.out 10 (.bool p.hasUser) rfl wc B9.out
  have c16 := FA.out 16 (.bool p.dup) rfl wc B9.out
  have c19 := FA.out 19 (.int .i64 p.mQ) rfl wc B9.out
  have c14 := FA.out 14 (.bool p.present) rfl wc B9.out
  have c15 := FA.out 15 (.int .i64 p.code) rfl wc B9.out
  have HV : Hid (bad9 p = ((p.hasPass && !p.hasUser) || (p.dup && (p.mQ == 0)) || (p.present && (p.code != 0)))) := by
   have d1 : (p.mQ == 0) = decide (p.mQ = 0) := by by_cases h : p.mQ = 0 <;> simp [h]
   have d2 : (p.code != 0) = decide (p.code ≠ 0) := by by_cases h : p.code = 0 <;> simp [h]
   show _ = _
   rw [d1, d2]; rfl
  obtain ⟨y0, q0⟩ : ∃ b, p.hasPass = b := ⟨_, rfl⟩
  obtain ⟨y1, q1⟩ : ∃ b, p.hasUser = b := ⟨_, rfl⟩
  obtain ⟨y2, q2⟩ : ∃ b, p.dup = b := ⟨_, rfl⟩
  obtain ⟨y3, q3⟩ : ∃ b, (p.mQ == 0) = b := ⟨_, rfl⟩
  obtain ⟨y4, q4⟩ : ∃ b, p.present = b := ⟨_, rfl⟩
  obtain ⟨y5, q5⟩ : ∃ b, (p.code != 0) = b := ⟨_, rfl⟩
  rw [q0, q1, q2, q3, q4, q5] at HV
  rw [q0] at c12; rw [q1] at c10; rw [q2] at c16; rw [q4] at c14
  clear q0 q1 q2 q4
  cases y0
  case false =>
   cases y2
   case false =>
    cases y4
    case false =>
     go_wp2_with fail
     go_meet
     case rel => exact ⟨by rw [HV.out]; rfl, B9⟩
    cases y5
    case false =>
     go_wp2_with fail
     go_meet
     case rel => exact ⟨by rw [HV.out]; rfl, B9⟩
    go_wp2_with fail
    go_meet
    case rel => exact ⟨by rw [HV.out]; rfl, B9⟩
   cases y3
   case true =>
    go_wp2_with fail
    go_meet
    case rel => exact ⟨by rw [HV.out]; rfl, B9⟩
   cases y4
   case false =>
    go_wp2_with fail
    go_meet
    case rel => exact ⟨by rw [HV.out]; rfl, B9⟩
   cases y5
   case false =>
    go_wp2_with fail
    go_meet
    case rel => exact ⟨by rw [HV.out]; rfl, B9⟩
   go_wp2_with fail
   go_meet
   case rel => exact ⟨by rw [HV.out]; rfl, B9⟩
  cases y1
  case false =>
   go_wp2_with fail
   go_meet
   case rel => exact ⟨by rw [HV.out]; rfl, B9⟩
  cases y2
  case false =>
   cases y4
   case false =>
    go_wp2_with fail
    go_meet
    case rel => exact ⟨by rw [HV.out]; rfl, B9⟩
   cases y5
   case false =>
    go_wp2_with fail
    go_meet
    case rel => exact ⟨by rw [HV.out]; rfl, B9⟩
   go_wp2_with fail
   go_meet
   case rel => exact ⟨by rw [HV.out]; rfl, B9⟩
  cases y3
  case true =>
   go_wp2_with fail
   go_meet
   case rel => exact ⟨by rw [HV.out]; rfl, B9⟩
  cases y4
  case false =>
   go_wp2_with fail
   go_meet
   case rel => exact ⟨by rw [HV.out]; rfl, B9⟩
  cases y5
  case false =>
   go_wp2_with fail
   go_meet
   case rel => exact ⟨by rw [HV.out]; rfl, B9⟩
  go_wp2_with fail
  go_meet
  case rel => exact ⟨by rw [HV.out]; rfl, B9⟩
 case rest =>
 obtain ⟨rfl, B10⟩ := hcut
 cases hb9 : (bad9 p)
 case true =>
  go_wp2
  go_ret
  exact ⟨by rw [E9.out, hb9]; rfl, BW.out _ B10.out⟩
 have E10 : Hid (x = (0)) := by show _ = _; rw [E9.out, hb9]; rfl
 clear hb9 E9
 go_wp2
 go_ret
 exact ⟨by rw [E10.out]; rfl, BW.out _ B10.out⟩
end Go.Proofs.YtphofgnehdlafaaGreatDoor.Pkt
