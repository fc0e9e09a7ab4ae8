import Derived.Test.YtcoccggimbficaaGreatDoorRqd
import Derived.Test.YtcoccggimbficaaGreatDoorLb
namespace Go.Proofs.YtcoccggimbficaaGreatDoor
open Go Go.RowKit Go.Sort
set_option linter.unusedSimpArgs false
set_option linter.unusedVariables false

theorem rcheck2_any (p : Pk) (c : Cn) (w : World) (hin : In w p c) (hs : Small p c) : Calls Tryz.prog 25 #[p.v] w fun e w' => e = .returned (.int .i64 (ck TT p c)) ∧ Below w.heap.size w w' := by
  rw [← rck_ck]
  cases hbad : (!isK p.kind || rbad1 p || bad2 TT p || !rtps p || !rflts p c || !rqls p c)
  case true => exact rcheck_one p c w hin hs hbad
  simp only [Bool.or_eq_false_iff] at hbad
  obtain ⟨⟨⟨⟨⟨h0, h1⟩, h2⟩, h3⟩, h4⟩, h5⟩ := hbad
  cases hbad : (rbad6 p || rbad7 p c)
  case true => exact rcheck_two p c w hin hs h0 h1 h2 h3 h4 h5 hbad
  rw [Bool.or_eq_false_iff] at hbad
  exact rcheck_three p c w hin hs h0 h1 h2 h3 h4 h5 hbad.1 hbad.2

set_option maxHeartbeats 1000000 in
set_option maxRecDepth 100000 in
theorem rlength_any (p : Pk) (c : Cn) (w : World) (hin : In w p c) (hs : Small p c) : Calls Tryz.prog 29 #[p.v] w fun e w' => e = .returned (.int .i64 (if ck TT p c = 0 then sz p c else 0)) ∧ Below w.heap.size w w' := by
  have HI : Hid (In w p c) := hin
  have HS : Hid (Small p c) := hs
  clear hin hs
  have HC : Hid (∀ w', Below w.heap.size w w' → Calls Tryz.prog 25 #[p.v] w' fun e w'' => e = .returned (.int .i64 (ck TT p c)) ∧ Below w'.heap.size w' w'') := fun w' hb => rcheck2_any p c w' (HI.out.below hb) HS.out
  have HZ : Hid (ck TT p c = 0 → ∀ w', Below w.heap.size w w' → Calls Tryz.prog 101 #[p.v] w' fun e w'' => e = .returned (.int .i64 (sz p c)) ∧ Below w'.heap.size w' w'') := fun h w' hb => by rw [sz_rsz ((ck_right TT p c).1 h).own]; exact rbytes_any p c w' (HI.out.below hb) HS.out
  obtain ⟨cs, hcs⟩ : ∃ cs, cs = pkCells p := ⟨_, rfl⟩
  rw [show p.v = .agg cs by rw [hcs]; rfl] at HC HZ ⊢
  have hsz : Hid (cs.size = 25) := by show _ = _; rw [hcs]; rfl
  clear hcs
  obtain ⟨W, hW⟩ : ∃ W, W = w.alloc (.cells cs 29) := ⟨_, rfl⟩
  have b0 : Hid (Below w.heap.size w W) := box_below hW
  have g0 : Hid (W.heap[w.heap.size]? = some (.cells cs 29)) := by show _ = _; rw [hW]; exact heap_alloc_new w _
  obtain ⟨k0, hk0⟩ : ∃ k0, k0 = ck TT p c := ⟨_, rfl⟩
  rw [← hk0] at HC HZ ⊢
  obtain ⟨R, hR⟩ : ∃ R : Int, R = (if k0 = 0 then (sz p c : Int) else 0) := ⟨_, rfl⟩
  rw [← hR]
  clear hk0
  go_enter Tryz.func29, Tryz.ntmps29
  go_upto_region 1 with fail
  rw [← hW]
  clear hW
  go_wp2_with (first | (refine wpList_load_wanted rfl _ rfl w.heap.size rfl _ (0, 0) g0.out hsz.out ?_) | fail)
  go_must (go_at_call 25)
  refine (HC.out _ b0.out).mono ?_
  rintro e w1 ⟨rfl, hb⟩
  have b1 : Hid (Below w.heap.size w w1) := b0.out.trans (hb.mono b0.out.size)
  have g1 : Hid (w1.heap[w.heap.size]? = some (.cells cs 29)) := (hb.block _ (block_lt g0.out)).trans g0.out
  clear hb
  by_cases h : k0 = 0
  · have HZ2 := HZ.out h w1 b1.out
    have HR : Hid (R = sz p c) := by show _ = _; rw [hR, if_pos h]
    clear hR
    subst h
    go_wp2_with (first | (refine wpList_load_wanted rfl _ rfl w.heap.size rfl _ (0, 0) g1.out hsz.out ?_) | fail)
    go_must (go_at_call 101)
    refine HZ2.mono ?_
    rintro e w2 ⟨rfl, hb⟩
    have b2 : Hid (Below w.heap.size w w2) := b1.out.trans (hb.mono b1.out.size)
    clear hb
    go_wp2
    go_ret
    exact ⟨by rw [HR.out]; rfl, b2.out⟩
  · have q : ((k0 : Int) != 0) = true := by simpa using h
    have HR : Hid (R = 0) := by show _ = _; rw [hR, if_neg h]
    clear hR h
    go_wp2
    go_ret
    exact ⟨by rw [HR.out]; rfl, b1.out⟩

set_option maxHeartbeats 1000000 in
set_option maxRecDepth 100000 in
theorem flags_bad (p : Pk) (c : Cn) (w : World) (hg : Gd w) (hin : In w p c) (hs : Small p c) (hr : ck TT p c ≠ 0) : Calls Tryz.prog 26 #[p.v] w fun e w' => e = .returned (.int .i64 0) ∧ Below w.heap.size w w' := by
  have HC : Hid (∀ w', Below w.heap.size w w' → Calls Tryz.prog 24 #[p.v] w' fun e w'' => e = .returned (.int .i64 (ck TT p c)) ∧ Below w'.heap.size w' w'') := fun w' hb => check_any p c w' (hg.below hb) (hin.below hb) hs
  have q : ((ck TT p c : Int) != 0) = true := by simpa using hr
  clear hg hin hs hr
  obtain ⟨cs, hcs⟩ : ∃ cs, cs = pkCells p := ⟨_, rfl⟩
  rw [show p.v = .agg cs by rw [hcs]; rfl] at HC ⊢
  have hsz : Hid (cs.size = 25) := by show _ = _; rw [hcs]; rfl
  have HCS : Hid (cs = pkCells p) := hcs
  clear hcs
  obtain ⟨W, hW⟩ : ∃ W, W = w.alloc (.cells cs 29) := ⟨_, rfl⟩
  have b0 : Hid (Below w.heap.size w W) := box_below hW
  have g0 : Hid (W.heap[w.heap.size]? = some (.cells cs 29)) := by show _ = _; rw [hW]; exact heap_alloc_new w _
  obtain ⟨k0, hk0⟩ : ∃ k0, k0 = ck TT p c := ⟨_, rfl⟩
  rw [← hk0] at HC q
  clear hk0
  go_enter Tryz.func26, Tryz.ntmps26
  go_upto_region 1 with fail
  rw [← hW]
  clear hW
  go_wp2_with (first | (refine wpList_load_wanted rfl _ rfl w.heap.size rfl _ (0, 0) g0.out hsz.out ?_) | fail)
  go_must (go_at_call 24)
  refine (HC.out _ b0.out).mono ?_
  rintro e w1 ⟨rfl, hb⟩
  have b1 : Hid (Below w.heap.size w w1) := b0.out.trans (hb.mono b0.out.size)
  clear hb
  go_wp2
  go_ret
  exact ⟨rfl, b1.out⟩
/-- What both tell as the first byte's flags. -/
def fgs (p : Pk) (c : Cn) : Int := if ck TT p c = 0 then fg p else 0
theorem flags_all (p : Pk) (c : Cn) (w : World) (hg : Gd w) (hin : In w p c) (hs : Small p c) : Calls Tryz.prog 26 #[p.v] w fun e w' => e = .returned (.int .i64 (fgs p c)) ∧ Below w.heap.size w w' := by
  unfold fgs
  by_cases h : ck TT p c = 0
  · rw [if_pos h]; exact flags_any p c w hg hin hs ((ck_right TT p c).1 h)
  · rw [if_neg h]; exact flags_bad p c w hg hin hs h
theorem fg_three : ∀ q : Int, (q = 0 ∨ q = 1 ∨ q = 2) → ∀ d r : Bool, bits .or .i64 (bits .or .i64 (bits .or .i64 (form (3 : Int).toNat).2.1 (mkI d 8)) (2 * q)) (mkI r 1) = 2 * q + mkI d 8 + mkI r 1 := by
  rintro q (rfl | rfl | rfl) d r <;> cases d <;> cases r <;> decide
theorem fg_pub {T : Tx} {p : Pk} {c : Cn} (h : Right T p c) (k : p.kind = 3) : fg p = 2 * p.mQ + mkI p.dup 8 + mkI p.mR 1 := by
  unfold fg
  rw [k]
  exact fg_three _ h.q2 _ _
theorem fg_other : ∀ n : Nat, n < 15 → bits .or .i64 (bits .or .i64 (bits .or .i64 (form n).2.1 (mkI false 8)) (2 * 0)) (mkI false 1) = if n = 6 ∨ n = 8 ∨ n = 10 then 2 else 0 := by decide
theorem fg_not {T : Tx} {p : Pk} {c : Cn} (h : Right T p c) (k : p.kind ≠ 3) : fg p = if p.kind = 6 ∨ p.kind = 8 ∨ p.kind = 10 then 2 else 0 := by
  have k1 := h.k1
  have k2 := h.k2
  have m := h.own.msg k
  have d := h.own.dup k
  unfold fg
  rw [m.2.1, m.2.2.1, d, fg_other p.kind.toNat (by omega)]
  by_cases e : p.kind = 6 ∨ p.kind = 8 ∨ p.kind = 10
  · rw [if_pos e, if_pos (by omega)]
  · rw [if_neg e, if_neg (by omega)]
set_option maxHeartbeats 4000000 in
set_option maxRecDepth 100000 in
theorem rflags_all (p : Pk) (c : Cn) (w : World) (hin : In w p c) (hs : Small p c) : Calls Tryz.prog 27 #[p.v] w fun e w' => e = .returned (.int .i64 (fgs p c)) ∧ Below w.heap.size w w' := by
  have HC : Hid (∀ w', Below w.heap.size w w' → Calls Tryz.prog 25 #[p.v] w' fun e w'' => e = .returned (.int .i64 (ck TT p c)) ∧ Below w'.heap.size w' w'') := fun w' hb => rcheck2_any p c w' (hin.below hb) hs
  clear hin hs
  obtain ⟨R, hR⟩ : ∃ R : Int, R = fgs p c := ⟨_, rfl⟩
  rw [← hR]
  have HR : Hid (R = fgs p c) := hR
  clear hR
  obtain ⟨cs, hcs⟩ : ∃ cs, cs = pkCells p := ⟨_, rfl⟩
  rw [show p.v = .agg cs by rw [hcs]; rfl] at HC ⊢
  have hsz : Hid (cs.size = 25) := by show _ = _; rw [hcs]; rfl
  have HCS : Hid (cs = pkCells p) := hcs
  clear hcs
  obtain ⟨W, hW⟩ : ∃ W, W = w.alloc (.cells cs 29) := ⟨_, rfl⟩
  have b0 : Hid (Below w.heap.size w W) := box_below hW
  have g0 : Hid (W.heap[w.heap.size]? = some (.cells cs 29)) := by show _ = _; rw [hW]; exact heap_alloc_new w _
  have FA : Hid (∀ k v, (pkCells p)[k]? = some v → ∀ w', Below W.heap.size W w' → w'.cell? ⟨w.heap.size, k, none⟩ = some v) := fun k v h w' hb => cell_later hb (by rw [hW]; exact box_cell w cs 29 k v (by rw [HCS.out]; exact h))
  obtain ⟨k0, hk0⟩ : ∃ k0, k0 = ck TT p c := ⟨_, rfl⟩
  rw [← hk0] at HC
  have HK : Hid (k0 = ck TT p c) := hk0
  clear hk0
  go_enter Tryz.func27, Tryz.ntmps27
  go_upto_region 1 with fail
  rw [← hW]
  clear hW
  go_wp2_with (first | (refine wpList_load_wanted rfl _ rfl w.heap.size rfl _ (0, 0) g0.out hsz.out ?_) | fail)
  go_must (go_at_call 25)
  refine (HC.out _ b0.out).mono ?_
  rintro e w1 ⟨rfl, hb⟩
  have b1 : Hid (Below w.heap.size w w1) := b0.out.trans (hb.mono b0.out.size)
  by_cases h : k0 = 0
  case neg =>
    have q : ((k0 : Int) != 0) = true := by simpa using h
    have HV : Hid (R = 0) := by show _ = _; rw [HR.out, fgs, if_neg (by rw [← HK.out]; exact h)]
    clear h hb
    go_wp2
    go_ret
    exact ⟨by rw [HV.out]; rfl, b1.out⟩
  have HV : Hid (R = fg p) := by show _ = _; rw [HR.out, fgs, if_pos (by rw [← HK.out]; exact h)]
  have HT : Hid (Right TT p c) := (ck_right TT p c).1 (by rw [← HK.out]; exact h)
  have c0 := FA.out 0 (.int .i64 p.kind) rfl w1 hb
  have c16 := FA.out 16 (.bool p.dup) rfl w1 hb
  have c19 := FA.out 19 (.int .i64 p.mQ) rfl w1 hb
  have c20 := FA.out 20 (.bool p.mR) rfl w1 hb
  have HQ : Hid (p.mQ = 0 ∨ p.mQ = 1 ∨ p.mQ = 2) := HT.out.q2
  subst h
  clear hb
  by_cases k3 : p.kind = 3
  · have q3 : (p.kind == 3) = true := by simp [k3]
    have HU : Hid (R = 2 * p.mQ + mkI p.dup 8 + mkI p.mR 1) := by show _ = _; rw [HV.out]; exact fg_pub HT.out k3
    clear k3
    obtain ⟨mQ, hm⟩ : ∃ m, p.mQ = m := ⟨_, rfl⟩
    obtain ⟨d, hd⟩ : ∃ m, p.dup = m := ⟨_, rfl⟩
    obtain ⟨r, hr⟩ : ∃ m, p.mR = m := ⟨_, rfl⟩
    rw [hm] at c19 HQ HU
    rw [hd] at c16 HU
    rw [hr] at c20 HU
    clear hm hd hr
    have HQ' := HQ.out
    clear HQ
    rcases HQ' with rfl | rfl | rfl <;> cases d <;> cases r
    all_goals
      go_wp2
      go_ret
      exact ⟨by rw [HU.out]; rfl, b1.out⟩
  have q3 : (p.kind == 3) = false := by simp [k3]
  have HU : Hid (R = if p.kind = 6 ∨ p.kind = 8 ∨ p.kind = 10 then 2 else 0) := by show _ = _; rw [HV.out]; exact fg_not HT.out k3
  by_cases k6 : p.kind = 6
  · have q6 : (p.kind == 6) = true := by simp [k6]
    have HE : Hid (R = 2) := by show _ = _; rw [HU.out, if_pos (by omega)]
    clear k3 k6
    go_wp2
    go_ret
    exact ⟨by rw [HE.out]; rfl, b1.out⟩
  have q6 : (p.kind == 6) = false := by simp [k6]
  by_cases k8 : p.kind = 8
  · have q8 : (p.kind == 8) = true := by simp [k8]
    have HE : Hid (R = 2) := by show _ = _; rw [HU.out, if_pos (by omega)]
    clear k3 k6 k8
    go_wp2
    go_ret
    exact ⟨by rw [HE.out]; rfl, b1.out⟩
  have q8 : (p.kind == 8) = false := by simp [k8]
  by_cases k10 : p.kind = 10
  · have q10 : (p.kind == 10) = true := by simp [k10]
    have HE : Hid (R = 2) := by show _ = _; rw [HU.out, if_pos (by omega)]
    clear k3 k6 k8 k10
    go_wp2
    go_ret
    exact ⟨by rw [HE.out]; rfl, b1.out⟩
  have q10 : (p.kind == 10) = false := by simp [k10]
  have HE : Hid (R = 0) := by show _ = _; rw [HU.out, if_neg (by omega)]
  clear k3 k6 k8 k10
  go_wp2
  go_ret
  exact ⟨by rw [HE.out]; rfl, b1.out⟩
end Go.Proofs.YtcoccggimbficaaGreatDoor
