import Derived.Test.YtmdlplaadelaoaaCp
namespace Go.Proofs.Ytmdlplaadelaoaa
open Go Go.RowKit Go.Sort
set_option linter.unusedSimpArgs false
set_option linter.unusedVariables false


set_option maxRecDepth 100000 in
set_option maxHeartbeats 8000000 in
theorem swap_go (f t z : ByteArray) (k : Int) (w : World) (hf : f.size ≤ 5000) (ht : t.size ≤ 5000) (hz : z.size ≤ 5000) (hl : (levels z).length = 1) (h0 : tcode t = 0) (h47 : 47 ∉ unB z) : Calls Try.prog 6 #[.string f, .string t, .string z, .int .i64 k] w fun e w' => e = .returned (.bool true) ∧ Below w.heap.size w w' := by
  have HS : Hid (f.size ≤ 5000 ∧ t.size ≤ 5000 ∧ z.size ≤ 5000) := ⟨hf, ht, hz⟩
  have i1 : ¬ (5000 : Int) < f.size := by omega
  have i2 : ¬ (5000 : Int) < t.size := by omega
  have i3 : ¬ (5000 : Int) < z.size := by omega
  have H47 : Hid (47 ∉ unB z) := h47
  clear h47
  obtain ⟨w0, hw0⟩ : ∃ w0, w0 = w := ⟨_, rfl⟩
  rw [← hw0]
  have B : Hid (Below w0.heap.size w0 w0) := Below.refl _ _
  clear hw0 hf ht hz
  go_enter Try.func6, Try.ntmps6
  go_wp2_with (go_at_call 11; refine (known_any _).mono ?_; rintro e w' ⟨rfl, hb⟩; replace B : Hid (Below w0.heap.size w0 w') := B.out.trans (hb.mono B.out.size); clear hb)
  go_must (go_at_call 13)
  refine (tlevels_any t (by have := HS.out; omega) _).mono ?_
  rintro e w1 ⟨v, rfl, ho, hb⟩
  obtain ⟨g, n, cap, rfl, hn, hc, hg1, hg2⟩ := own_slice ho (levels_ne t)
  have HO : Hid (w1.ownsRow (World.heap _).size 9 1 (.slice (some ⟨g, 0, none⟩) n cap) (levels t).length ((levels t).map Value.string)) := ho
  have HG1 : Hid (w0.heap.size ≤ g) := Nat.le_trans B.out.size hg1
  replace B : Hid (Below w0.heap.size w0 w1) := B.out.trans (hb.mono B.out.size)
  have HNN : Hid (n = (levels t).length ∧ n ≤ cap ∧ 0 < n ∧ n ≤ 1000001) := ⟨hn, hc, by have := levels_ne t; have := List.length_pos_iff.2 this; omega, by have := levels_len t; have := HS.out; omega⟩
  clear hb ho hn hc hg1 hg2
  go_wp2_with fail
  go_must (go_at_call 13)
  refine (tlevels_any f (by have := HS.out; omega) _).mono ?_
  rintro e wl ⟨v2, rfl, ho, hb⟩
  obtain ⟨g2, n2, cap2, rfl, hn, hc, hg1, hg2⟩ := own_slice ho (levels_ne f)
  replace HO : Hid (wl.ownsRow (World.heap _).size 9 1 (.slice (some ⟨g, 0, none⟩) n cap) (levels t).length ((levels t).map Value.string)) := own_later HO.out hb
  have HO2 : Hid (wl.ownsRow (World.heap _).size 9 1 (.slice (some ⟨g2, 0, none⟩) n2 cap2) (levels f).length ((levels f).map Value.string)) := ho
  replace B : Hid (Below w0.heap.size w0 wl) := B.out.trans (hb.mono B.out.size)
  have HN2 : Hid (n2 = (levels f).length ∧ n2 ≤ cap2 ∧ n2 ≤ 1000001) := ⟨hn, hc, by have := levels_len f; have := HS.out; omega⟩
  clear hb ho hn hc hg1 hg2
  go_wp2_with fail
  go_must (go_at_call 16)
  refine (place_any k n _ HNN.out.2.2.1 HNN.out.2.2.2).mono ?_
  rintro e wq ⟨⟨i, rfl, hi⟩, hee⟩
  obtain rfl := hee.symm
  clear hee
  obtain ⟨x, hx⟩ : ∃ x, (levels t)[i]? = some x := ⟨_, List.getElem?_eq_getElem (by have := HNN.out.1; omega)⟩
  have hnn := HNN.out.1
  obtain ⟨c1, f1⟩ : wl.cell? ⟨g, i, none⟩ = some (.string x) ∧ wl.frozen? ⟨g, i, none⟩ = false := by
    have ho := HO.out
    rw [← hnn] at ho
    exact ⟨by rw [ho.cellAt i (by omega), List.getElem?_map, hx]; rfl, ho.frozenAt i⟩
  have hlt : (i : Int) < (n : Int) := by omega
  have hcap := HNN.out.2.1
  have HX : Hid ((split (unB t))[i]? = some (unB x)) := by show _ = _; rw [← levels_split, List.getElem?_map, hx]; rfl
  have HI : Hid (i < n) := hi
  clear hx hnn hi
  by_cases r1 : n2 ≤ i
  · have r1' : (n2 : Int) ≤ i := by omega
    have r1d : decide (n2 ≤ i) = true := decide_eq_true r1
    go_wp2_with fail
    go_quiet (fail)
    have B2 : Hid (Below w0.heap.size w0 (wl.drewN nq)) := below_drewN B.out nq
    go_wp2_with fail
    go_ret
    exact ⟨rfl, B2.out⟩
  have r1' : ¬ (n2 : Int) ≤ i := by omega
  have r1d : decide (n2 ≤ i) = false := decide_eq_false r1
  have r1e : (i : Int) < n2 := by omega
  obtain ⟨y, hy⟩ : ∃ y, (levels f)[i]? = some y := ⟨_, List.getElem?_eq_getElem (by have := HN2.out.1; omega)⟩
  have hnn2 := HN2.out.1
  have c2 : wl.cell? ⟨g2, i, none⟩ = some (.string y) := by
    have ho := HO2.out
    rw [← hnn2] at ho
    rw [ho.cellAt i (by omega), List.getElem?_map, hy]; rfl
  have hcap2 := HN2.out.2.1
  have HY : Hid ((split (unB f))[i]? = some (unB y)) := by show _ = _; rw [← levels_split, List.getElem?_map, hy]; rfl
  clear hy hnn2 r1
  by_cases r2 : unB x = unB y
  · have q1 : (x.toList == y.toList) = true := by rw [eq_two]; exact decide_eq_true r2
    clear r2
    go_wp2_with fail
    go_quiet (fail)
    have B2 : Hid (Below w0.heap.size w0 (wl.drewN nq)) := below_drewN B.out nq
    go_wp2_with fail
    go_ret
    exact ⟨rfl, B2.out⟩
  have q1 : (x.toList == y.toList) = false := by rw [eq_two]; exact decide_eq_false r2
  by_cases r3 : unB z = unB y
  · have q2 : (z.toList == y.toList) = true := by rw [eq_two]; exact decide_eq_true r3
    clear r2 r3
    go_wp2_with fail
    go_quiet (fail)
    have B2 : Hid (Below w0.heap.size w0 (wl.drewN nq)) := below_drewN B.out nq
    go_wp2_with fail
    go_ret
    exact ⟨rfl, B2.out⟩
  have q2 : (z.toList == y.toList) = false := by rw [eq_two]; exact decide_eq_false r3
  have HR : Hid (¬ unB x = unB y ∧ ¬ unB z = unB y) := ⟨r2, r3⟩
  clear r2 r3
  have HB0 : Hid (wl.drew.cell? ⟨g, i, none⟩ = some (.string x) ∧ wl.drew.cell? ⟨g2, i, none⟩ = some (.string y) ∧ Hid (Below wl.heap.size wl wl.drew)) := ⟨c1, c2, (Below.refl _ _).drew⟩
  go_wp2_with fail
  first | go_region_held (fun w' => w'.cell? ⟨g, i, none⟩ = some (.string x) ∧ w'.cell? ⟨g2, i, none⟩ = some (.string y) ∧ Hid (Below wl.heap.size wl w')) (first | assumption | exact HB0.out | exact held_next (by assumption) (by assumption))
    (first | (go_at_call 13; refine (tlevels_row z (by have := HS.out; omega) _).mono ?_; rintro e w' ⟨v, rfl, hr, hb⟩; obtain ⟨va, vn, vcap, rfl, hvn, _, _⟩ := hr; have hbn : Hid (Below _ _ w') := hb; clear hb; rw [hl] at hvn; subst hvn) | (go_at_call 14; refine (tcheck_any t _).mono ?_; rintro e w' ⟨rfl, hb⟩; have hbn : Hid (Below _ _ w') := hb; clear hb; rw [h0])) | fail
  obtain ⟨c3, c4, HBz⟩ : w'.cell? ⟨g, i, none⟩ = some (.string x) ∧ w'.cell? ⟨g2, i, none⟩ = some (.string y) ∧ Hid (Below wl.heap.size wl w') := by assumption
  have B2 : Hid (Below w0.heap.size w0 w') := B.out.trans (HBz.out.mono B.out.size)
  have HO3 := own_later HO.out HBz.out
  rw [← HNN.out.1] at HO3
  have f3 : w'.frozen? ⟨g, i, none⟩ = false := HO3.frozenAt i
  have hst := HO3.stored i (.string z)
  have B3 : Hid (Below w0.heap.size w0 (w'.setCell ⟨g, i, none⟩ (.string z))) := below_set B2.out HG1.out hst.2 B2.out.size
  have R3 : Hid (Row (w'.setCell ⟨g, i, none⟩ (.string z)) (.slice (some ⟨g, 0, none⟩) n cap) ((levels t).set i z)) := by
    have h1 := hst.1
    rw [map_set_str] at h1
    exact row_of' (by rw [List.length_set]; exact HNN.out.1) h1
  have HJ : Hid (((levels t).set i z).map unB = (split (unB t)).set i (unB z)) := by show _ = _; rw [List.map_set, levels_split]
  have HJL : Hid ((joinL ((split (unB t)).set i (unB z))).length ≤ 1000001) := by
    have h1 := join_set_len (split (unB t)) i (unB z)
    rw [join_split, un_size, un_size] at h1
    show _ ≤ _
    have := HS.out
    omega
  clear hst HO3 c4 HB0
  go_wp2_with fail
  obtain ⟨ws, hws⟩ : ∃ ws, ws = w'.setCell ⟨g, i, none⟩ (.string z) := ⟨_, rfl⟩
  rw [← hws] at B3 R3
  rw [← hws]
  clear hws
  go_must (go_at_call 17)
  refine (join_any _ _ _ R3.out (by intro e; have := congrArg List.length e; simp at this; exact levels_ne t this) (by rw [List.length_set]; have := HNN.out; omega) (by rw [HJ.out]; exact HJL.out)).mono ?_
  rintro e wj ⟨rfl, hb⟩
  rw [HJ.out]
  have B4 : Hid (Below w0.heap.size w0 wj) := B3.out.trans (hb.mono B3.out.size)
  clear hb
  obtain ⟨u, hu⟩ : ∃ u, u = mkB (joinL ((split (unB t)).set i (unB z))) := ⟨_, rfl⟩
  have HU : Hid (u = mkB (joinL ((split (unB t)).set i (unB z)))) := hu
  rw [← hu]
  clear hu
  by_cases hu0 : tcode u = 0
  · have C14 : Hid (∀ W, Calls Try.prog 14 #[.string u] W fun e w' => e = .returned (.int .i64 0) ∧ Below W.heap.size W w') := fun W => by have := tcheck_any u W; rw [hu0] at this; exact this
    have pu : 0 < u.size := (tcode_zero hu0).2
    have pt : 0 < t.size := (tcode_zero h0).2
    have pu' : (0 : Int) < u.size := by omega
    have pt' : (0 : Int) < t.size := by omega
    have HAU : Hid (atB u 0 = (u[0]'pu).toNat) := atB_in u 0 pu
    have HAT : Hid (atB t 0 = (t[0]'pt).toNat) := atB_in t 0 pt
    have HSW : Hid ((atB u 0 = 36 ↔ atB t 0 = 36) → mch f t = mch f u) := fun h => swap_pure f t z i (unB x) (unB y) h0 HY.out HX.out HR.out.1 HR.out.2 H47.out u HU.out hu0 h
    clear hu0
    by_cases e1 : atB u 0 = 36
    · have q3 : (((u[0]'pu).toNat : Int) == 36) = true := by rw [← HAU.out, e1]; rfl
      by_cases e2 : atB t 0 = 36
      · have q4 : (((t[0]'pt).toNat : Int) == 36) = true := by rw [← HAT.out, e2]; rfl
        have HM : Hid (mch f t = mch f u) := HSW.out ⟨fun _ => e2, fun _ => e1⟩
        clear e1 e2
        go_wp2_with fail
        refine wp_region_quiet_below (by kernel_rfl) (by kernel_rfl) ?_
        repeat (go_big_quiet_step (exact Calls.regrown_of (C14.out _)))
        refine wpQuiet_nil ?_
        rintro _ ⟨⟨d, os⟩, rfl⟩
        have B5 : Hid (Below w0.heap.size w0 (grow (redrawn wj d) os)) := B4.out.trans ((below_regrown wj d os).mono B4.out.size)
        obtain ⟨wk, hwk⟩ : ∃ wk, wk = grow (redrawn wj d) os := ⟨_, rfl⟩
        rw [← hwk] at B5 ⊢
        clear hwk
        obtain ⟨p, hp⟩ : ∃ p, mch f u = p := ⟨_, rfl⟩
        have hp2 : mch f t = p := by rw [HM.out, hp]
        have qp : (p == p) = true := by simp
        go_wp2_with (go_at_call 9; refine (tmatch_any _ _ _).mono ?_; rintro e w2 ⟨rfl, hb⟩; replace B5 : Hid (Below w0.heap.size w0 w2) := B5.out.trans (hb.mono B5.out.size); clear hb; first | rw [hp2] | rw [hp])
        go_ret
        exact ⟨rfl, B5.out⟩
      · have q4 : (((t[0]'pt).toNat : Int) == 36) = false := by rw [← HAT.out, beq_eq_false_iff_ne]; omega
        clear e1 e2
        go_wp2_with fail
        refine wp_region_quiet_below (by kernel_rfl) (by kernel_rfl) ?_
        repeat (go_big_quiet_step (exact Calls.regrown_of (C14.out _)))
        refine wpQuiet_nil ?_
        rintro _ ⟨⟨d, os⟩, rfl⟩
        have B5 : Hid (Below w0.heap.size w0 (grow (redrawn wj d) os)) := B4.out.trans ((below_regrown wj d os).mono B4.out.size)
        obtain ⟨wk, hwk⟩ : ∃ wk, wk = grow (redrawn wj d) os := ⟨_, rfl⟩
        rw [← hwk] at B5 ⊢
        clear hwk
        go_wp2_with fail
        go_ret
        exact ⟨rfl, B5.out⟩
    · have q3 : (((u[0]'pu).toNat : Int) == 36) = false := by rw [← HAU.out, beq_eq_false_iff_ne]; omega
      by_cases e2 : atB t 0 = 36
      · have q4 : (((t[0]'pt).toNat : Int) == 36) = true := by rw [← HAT.out, e2]; rfl
        clear e1 e2
        go_wp2_with fail
        refine wp_region_quiet_below (by kernel_rfl) (by kernel_rfl) ?_
        repeat (go_big_quiet_step (exact Calls.regrown_of (C14.out _)))
        refine wpQuiet_nil ?_
        rintro _ ⟨⟨d, os⟩, rfl⟩
        have B5 : Hid (Below w0.heap.size w0 (grow (redrawn wj d) os)) := B4.out.trans ((below_regrown wj d os).mono B4.out.size)
        obtain ⟨wk, hwk⟩ : ∃ wk, wk = grow (redrawn wj d) os := ⟨_, rfl⟩
        rw [← hwk] at B5 ⊢
        clear hwk
        go_wp2_with fail
        go_ret
        exact ⟨rfl, B5.out⟩
      · have q4 : (((t[0]'pt).toNat : Int) == 36) = false := by rw [← HAT.out, beq_eq_false_iff_ne]; omega
        have HM : Hid (mch f t = mch f u) := HSW.out ⟨fun h => absurd h e1, fun h => absurd h e2⟩
        clear e1 e2
        go_wp2_with fail
        refine wp_region_quiet_below (by kernel_rfl) (by kernel_rfl) ?_
        repeat (go_big_quiet_step (exact Calls.regrown_of (C14.out _)))
        refine wpQuiet_nil ?_
        rintro _ ⟨⟨d, os⟩, rfl⟩
        have B5 : Hid (Below w0.heap.size w0 (grow (redrawn wj d) os)) := B4.out.trans ((below_regrown wj d os).mono B4.out.size)
        obtain ⟨wk, hwk⟩ : ∃ wk, wk = grow (redrawn wj d) os := ⟨_, rfl⟩
        rw [← hwk] at B5 ⊢
        clear hwk
        obtain ⟨p, hp⟩ : ∃ p, mch f u = p := ⟨_, rfl⟩
        have hp2 : mch f t = p := by rw [HM.out, hp]
        have qp : (p == p) = true := by simp
        go_wp2_with (go_at_call 9; refine (tmatch_any _ _ _).mono ?_; rintro e w2 ⟨rfl, hb⟩; replace B5 : Hid (Below w0.heap.size w0 w2) := B5.out.trans (hb.mono B5.out.size); clear hb; first | rw [hp2] | rw [hp])
        go_ret
        exact ⟨rfl, B5.out⟩
  · rcases tcode_vals u with hv | hv | hv | hv
    · exact absurd hv hu0
    · have C14 : Hid (∀ W, Calls Try.prog 14 #[.string u] W fun e w' => e = .returned (.int .i64 50) ∧ Below W.heap.size W w') := fun W => by have := tcheck_any u W; rw [hv] at this; exact this
      clear hu0 hv
      go_wp2_with fail
      refine wp_region_quiet_below (by kernel_rfl) (by kernel_rfl) ?_
      repeat (go_big_quiet_step (exact Calls.regrown_of (C14.out _)))
      refine wpQuiet_nil ?_
      rintro _ ⟨⟨d, os⟩, rfl⟩
      have B5 : Hid (Below w0.heap.size w0 (grow (redrawn wj d) os)) := B4.out.trans ((below_regrown wj d os).mono B4.out.size)
      obtain ⟨wk, hwk⟩ : ∃ wk, wk = grow (redrawn wj d) os := ⟨_, rfl⟩
      rw [← hwk] at B5 ⊢
      clear hwk
      go_wp2_with fail
      go_ret
      exact ⟨rfl, B5.out⟩
    · have C14 : Hid (∀ W, Calls Try.prog 14 #[.string u] W fun e w' => e = .returned (.int .i64 51) ∧ Below W.heap.size W w') := fun W => by have := tcheck_any u W; rw [hv] at this; exact this
      clear hu0 hv
      go_wp2_with fail
      refine wp_region_quiet_below (by kernel_rfl) (by kernel_rfl) ?_
      repeat (go_big_quiet_step (exact Calls.regrown_of (C14.out _)))
      refine wpQuiet_nil ?_
      rintro _ ⟨⟨d, os⟩, rfl⟩
      have B5 : Hid (Below w0.heap.size w0 (grow (redrawn wj d) os)) := B4.out.trans ((below_regrown wj d os).mono B4.out.size)
      obtain ⟨wk, hwk⟩ : ∃ wk, wk = grow (redrawn wj d) os := ⟨_, rfl⟩
      rw [← hwk] at B5 ⊢
      clear hwk
      go_wp2_with fail
      go_ret
      exact ⟨rfl, B5.out⟩
    · have C14 : Hid (∀ W, Calls Try.prog 14 #[.string u] W fun e w' => e = .returned (.int .i64 52) ∧ Below W.heap.size W w') := fun W => by have := tcheck_any u W; rw [hv] at this; exact this
      clear hu0 hv
      go_wp2_with fail
      refine wp_region_quiet_below (by kernel_rfl) (by kernel_rfl) ?_
      repeat (go_big_quiet_step (exact Calls.regrown_of (C14.out _)))
      refine wpQuiet_nil ?_
      rintro _ ⟨⟨d, os⟩, rfl⟩
      have B5 : Hid (Below w0.heap.size w0 (grow (redrawn wj d) os)) := B4.out.trans ((below_regrown wj d os).mono B4.out.size)
      obtain ⟨wk, hwk⟩ : ∃ wk, wk = grow (redrawn wj d) os := ⟨_, rfl⟩
      rw [← hwk] at B5 ⊢
      clear hwk
      go_wp2_with fail
      go_ret
      exact ⟨rfl, B5.out⟩
end Go.Proofs.Ytmdlplaadelaoaa
