import Derived.Test.YtmdlplaadelaoaaCp
namespace Go.Proofs.Ytmdlplaadelaoaa
open Go Go.RowKit Go.Sort
set_option linter.unusedSimpArgs false
set_option linter.unusedVariables false


set_option maxRecDepth 100000 in
set_option maxHeartbeats 8000000 in
theorem swap_long (f t z : ByteArray) (k : Int) (w : World) (hf : f.size ≤ 5000) (ht : t.size ≤ 5000) (hz : z.size ≤ 5000) (hl : ¬ (levels z).length = 1) : Calls Try.prog 6 #[.string f, .string t, .string z, .int .i64 k] w fun e w' => e = .returned (.bool true) ∧ Below w.heap.size w w' := by
  have HS : Hid (f.size ≤ 5000 ∧ t.size ≤ 5000 ∧ z.size ≤ 5000) := ⟨hf, ht, hz⟩
  have i1 : ¬ (5000 : Int) < f.size := by omega
  have i2 : ¬ (5000 : Int) < t.size := by omega
  have i3 : ¬ (5000 : Int) < z.size := by omega
  obtain ⟨w0, hw0⟩ : ∃ w0, w0 = w := ⟨_, rfl⟩
  rw [← hw0]
  have B : Hid (Below w0.heap.size w0 w0) := Below.refl _ _
  clear hw0 hf ht hz
  go_enter Try.func6, Try.ntmps6
  go_wp2_with (go_at_call 11; refine (known_any _).mono ?_; rintro e w' ⟨rfl, hb⟩; replace B : Hid (Below w0.heap.size w0 w') := B.out.trans (hb.mono B.out.size); clear hb)
  go_must (go_at_call 13)
  refine (tlevels_any t (by have := HS.out; omega) _).mono ?_
  rintro e w1 ⟨v, rfl, ho, hb⟩
  obtain ⟨g, n, cap, rfl, hn, hc, hg1, hg2⟩ := own_slice ho (levels_ne t)
  have HO : Hid (w1.ownsRow (World.heap _).size 9 1 (.slice (some ⟨g, 0, none⟩) n cap) (levels t).length ((levels t).map Value.string)) := ho
  have HG1 : Hid (w0.heap.size ≤ g) := Nat.le_trans B.out.size hg1
  replace B : Hid (Below w0.heap.size w0 w1) := B.out.trans (hb.mono B.out.size)
  have HNN : Hid (n = (levels t).length ∧ n ≤ cap ∧ 0 < n ∧ n ≤ 1000001) := ⟨hn, hc, by have := levels_ne t; have := List.length_pos_iff.2 this; omega, by have := levels_len t; have := HS.out; omega⟩
  clear hb ho hn hc hg1 hg2
  go_wp2_with fail
  go_must (go_at_call 13)
  refine (tlevels_any f (by have := HS.out; omega) _).mono ?_
  rintro e wl ⟨v2, rfl, ho, hb⟩
  obtain ⟨g2, n2, cap2, rfl, hn, hc, hg1, hg2⟩ := own_slice ho (levels_ne f)
  replace HO : Hid (wl.ownsRow (World.heap _).size 9 1 (.slice (some ⟨g, 0, none⟩) n cap) (levels t).length ((levels t).map Value.string)) := own_later HO.out hb
  have HO2 : Hid (wl.ownsRow (World.heap _).size 9 1 (.slice (some ⟨g2, 0, none⟩) n2 cap2) (levels f).length ((levels f).map Value.string)) := ho
  replace B : Hid (Below w0.heap.size w0 wl) := B.out.trans (hb.mono B.out.size)
  have HN2 : Hid (n2 = (levels f).length ∧ n2 ≤ cap2 ∧ n2 ≤ 1000001) := ⟨hn, hc, by have := levels_len f; have := HS.out; omega⟩
  clear hb ho hn hc hg1 hg2
  go_wp2_with fail
  go_must (go_at_call 16)
  refine (place_any k n _ HNN.out.2.2.1 HNN.out.2.2.2).mono ?_
  rintro e wq ⟨⟨i, rfl, hi⟩, hee⟩
  obtain rfl := hee.symm
  clear hee
  obtain ⟨x, hx⟩ : ∃ x, (levels t)[i]? = some x := ⟨_, List.getElem?_eq_getElem (by have := HNN.out.1; omega)⟩
  have hnn := HNN.out.1
  obtain ⟨c1, f1⟩ : wl.cell? ⟨g, i, none⟩ = some (.string x) ∧ wl.frozen? ⟨g, i, none⟩ = false := by
    have ho := HO.out
    rw [← hnn] at ho
    exact ⟨by rw [ho.cellAt i (by omega), List.getElem?_map, hx]; rfl, ho.frozenAt i⟩
  have hlt : (i : Int) < (n : Int) := by omega
  have hcap := HNN.out.2.1
  have HX : Hid ((split (unB t))[i]? = some (unB x)) := by show _ = _; rw [← levels_split, List.getElem?_map, hx]; rfl
  have HI : Hid (i < n) := hi
  clear hx hnn hi
  by_cases r1 : n2 ≤ i
  · have r1' : (n2 : Int) ≤ i := by omega
    have r1d : decide (n2 ≤ i) = true := decide_eq_true r1
    go_wp2_with fail
    go_quiet (fail)
    have B2 : Hid (Below w0.heap.size w0 (wl.drewN nq)) := below_drewN B.out nq
    go_wp2_with fail
    go_ret
    exact ⟨rfl, B2.out⟩
  have r1' : ¬ (n2 : Int) ≤ i := by omega
  have r1d : decide (n2 ≤ i) = false := decide_eq_false r1
  have r1e : (i : Int) < n2 := by omega
  obtain ⟨y, hy⟩ : ∃ y, (levels f)[i]? = some y := ⟨_, List.getElem?_eq_getElem (by have := HN2.out.1; omega)⟩
  have hnn2 := HN2.out.1
  have c2 : wl.cell? ⟨g2, i, none⟩ = some (.string y) := by
    have ho := HO2.out
    rw [← hnn2] at ho
    rw [ho.cellAt i (by omega), List.getElem?_map, hy]; rfl
  have hcap2 := HN2.out.2.1
  have HY : Hid ((split (unB f))[i]? = some (unB y)) := by show _ = _; rw [← levels_split, List.getElem?_map, hy]; rfl
  clear hy hnn2 r1
  by_cases r2 : unB x = unB y
  · have q1 : (x.toList == y.toList) = true := by rw [eq_two]; exact decide_eq_true r2
    clear r2
    go_wp2_with fail
    go_quiet (fail)
    have B2 : Hid (Below w0.heap.size w0 (wl.drewN nq)) := below_drewN B.out nq
    go_wp2_with fail
    go_ret
    exact ⟨rfl, B2.out⟩
  have q1 : (x.toList == y.toList) = false := by rw [eq_two]; exact decide_eq_false r2
  by_cases r3 : unB z = unB y
  · have q2 : (z.toList == y.toList) = true := by rw [eq_two]; exact decide_eq_true r3
    clear r2 r3
    go_wp2_with fail
    go_quiet (fail)
    have B2 : Hid (Below w0.heap.size w0 (wl.drewN nq)) := below_drewN B.out nq
    go_wp2_with fail
    go_ret
    exact ⟨rfl, B2.out⟩
  have q2 : (z.toList == y.toList) = false := by rw [eq_two]; exact decide_eq_false r3
  have HR : Hid (¬ unB x = unB y ∧ ¬ unB z = unB y) := ⟨r2, r3⟩
  clear r2 r3
  have HB0 : Hid (wl.drew.cell? ⟨g, i, none⟩ = some (.string x) ∧ wl.drew.cell? ⟨g2, i, none⟩ = some (.string y) ∧ Hid (Below wl.heap.size wl wl.drew)) := ⟨c1, c2, (Below.refl _ _).drew⟩
  go_wp2_with fail
  first | go_region_held (fun w' => w'.cell? ⟨g, i, none⟩ = some (.string x) ∧ w'.cell? ⟨g2, i, none⟩ = some (.string y) ∧ Hid (Below wl.heap.size wl w')) (first | assumption | exact HB0.out | exact held_next (by assumption) (by assumption))
    (first | (go_at_call 13; refine (tlevels_row z (by have := HS.out; omega) _).mono ?_; rintro e w' ⟨v, rfl, hr, hb⟩; obtain ⟨va, vn, vcap, rfl, hvn, _, _⟩ := hr; have hbn : Hid (Below _ _ w') := hb; clear hb; have hv3 : ¬ (vn : Int) = 1 := (by omega); have hv1 : ((vn : Int) == 1) = false := (by rw [beq_eq_false_iff_ne]; omega); have hv2 : (vn == 1) = false := (by rw [beq_eq_false_iff_ne]; omega); have hv4 : ¬ vn = 1 := (by omega); have hv5 : decide (vn = 1) = false := decide_eq_false hv4; have hv6 : decide ((vn : Int) = 1) = false := decide_eq_false hv3; have hv7 : (vn != 1) = true := (by simp only [bne, hv2]; rfl); have hv8 : ((vn : Int) != 1) = true := (by simp only [bne, hv1]; rfl); clear hvn) | (go_at_call 14; refine (tcheck_any t _).mono ?_; rintro e w' ⟨rfl, hb⟩; have hbn : Hid (Below _ _ w') := hb; clear hb)) | fail
  obtain ⟨c3, c4, HBz⟩ : w'.cell? ⟨g, i, none⟩ = some (.string x) ∧ w'.cell? ⟨g2, i, none⟩ = some (.string y) ∧ Hid (Below wl.heap.size wl w') := by assumption
  have B2 : Hid (Below w0.heap.size w0 w') := B.out.trans (HBz.out.mono B.out.size)
  clear c3 c4
  go_wp2_with fail
  go_ret
  exact ⟨rfl, B2.out⟩
end Go.Proofs.Ytmdlplaadelaoaa
