import Derived.Test.YtglnldopnoafoaaWb
namespace Go.Proofs.Ytglnldopnoafoaa
open Go Go.RowKit
set_option linter.unusedSimpArgs false
set_option linter.unusedVariables false

theorem com_step (n : Nat) (x y : ByteArray) (r s : List ByteArray) (hne : (mayE ((x :: r).map unB) && mayE ((y :: s).map unB)) = false) : com (n + 1) ((x :: r).map unB) ((y :: s).map unB) = match comL (unB x) (unB y) with
      | none => none
      | some l => (com n ((if unB x = [35] then x :: r else r).map unB) ((if unB y = [35] then y :: s else s).map unB)).map (l :: ·) := by
  have e1 : (if unB x = [35] then x :: r else r).map unB = behL ((x :: r).map unB) := by
    rw [List.map_cons, beh_cons]; split <;> rfl
  have e2 : (if unB y = [35] then y :: s else s).map unB = behL ((y :: s).map unB) := by
    rw [List.map_cons, beh_cons]; split <;> rfl
  rw [e1, e2]
  conv => lhs; unfold com
  rw [hne]
  rfl
set_option maxRecDepth 100000 in
set_option maxHeartbeats 2000000 in
theorem common_go1 (n : Nat) (hn : n ≤ 1000000) (x y : ByteArray) (r s : List ByteArray) (h1 : mayE ((x :: r).map unB) = false) (ih : ComOk n (if unB x = [35] then x :: r else r) (if unB y = [35] then y :: s else s)) : ComOk (n + 1) (x :: r) (y :: s) := by
  intro vf vg w Rf Rg
  rw [com_step n x y r s (by rw [h1]; rfl)]
  have H1 : Hid (Calls Try.prog 44 #[vf] w fun e w' => e = .returned (.bool false) ∧ w' = w) := by have := mayEnd_any (x :: r) vf w Rf; rw [h1] at this; exact this
  obtain ⟨i0, hi, hz0, hz1, hz2⟩ : ∃ i0, Try.prog.info? 9 = some i0 ∧ i0.zero = some (.string ⟨#[]⟩) ∧ i0.size = 1 ∧ i0.bytes = 16 := ⟨_, rfl, rfl, rfl, rfl⟩
  have RF : Hid (Row w vf (x :: r)) := Rf
  have RG : Hid (Row w vg (y :: s)) := Rg
  have IH : Hid (ComOk n (if unB x = [35] then x :: r else r) (if unB y = [35] then y :: s else s)) := ih
  have HN : Hid (n ≤ 1000000) := hn
  obtain ⟨fs', hfs⟩ : ∃ fs', (if unB x = [35] then x :: r else r) = fs' := ⟨_, rfl⟩
  obtain ⟨gs', hgs⟩ : ∃ gs', (if unB y = [35] then y :: s else s) = gs' := ⟨_, rfl⟩
  have HBF : Hid (∀ w' : World, Row w' vf (x :: r) → Calls Try.prog 46 #[vf] w' fun e w2 => ∃ v', e = .returned v' ∧ Row w' v' fs' ∧ w2 = w') := by intro w' hr; have := behind_any x r vf w' hr; rw [hfs] at this; exact this
  have HBG : Hid (∀ w' : World, Row w' vg (y :: s) → Calls Try.prog 46 #[vg] w' fun e w2 => ∃ v', e = .returned v' ∧ Row w' v' gs' ∧ w2 = w') := by intro w' hr; have := behind_any y s vg w' hr; rw [hgs] at this; exact this
  rw [hfs, hgs] at IH ⊢
  obtain ⟨g, o, k1, cap, rfl, hn1, hc1, hg1, c1, hk1⟩ := Rf.cons
  obtain ⟨g2, o2, k2, cap2, rfl, hn2, hc2, hg2, c2, hk2⟩ := Rg.cons
  have q0 : ((k1 : Int) == 0) = false := by rw [beq_eq_false_iff_ne]; omega
  have q1 : ((k2 : Int) == 0) = false := by rw [beq_eq_false_iff_ne]; omega
  have p0 : (0 : Int) < k1 := by omega
  have p1 : (0 : Int) < k2 := by omega
  obtain ⟨cl, hcl⟩ : ∃ cl, comL (unB x) (unB y) = cl := ⟨_, rfl⟩
  have HC : Hid (∀ w', Calls Try.prog 45 #[.string x, .string y] w' fun e w2 => e = .returned (.tuple #[.string (mkB (cl.getD [])), .bool cl.isSome]) ∧ w2 = w') := by intro w'; have := comLevel_any x y w'; rw [hcl] at this; exact this
  rw [hcl]
  clear hcl hfs hgs h1 Rf Rg hk1 hk2 hg1 hg2 hc1 hc2 hn1 hn2 ih hn
  go_enter Try.func19, Try.ntmps19
  go_wp2_with fail
  go_must (go_at_call 44)
  refine H1.out.mono ?_
  rintro e w1 ⟨rfl, hee⟩
  obtain rfl := hee.symm
  clear hee
  go_wp2_with fail
  cases cl with
  | none =>
    go_quiet ((go_at_call 45; exact Calls.quiet_of_same (HC.out _)))
    have B0 : Hid (Below w.heap.size w (w.drewN nq)) := below_drewN (Below.refl _ _) nq
    obtain ⟨w1, hw1⟩ : ∃ w1, w1 = w.drewN nq := ⟨_, rfl⟩
    rw [← hw1] at B0 ⊢
    clear hw1
    go_wp2_with fail
    go_ret2
    exact ⟨_, rfl, told_none _ _ _, B0.out⟩
  | some l =>
    go_quiet ((go_at_call 45; exact Calls.quiet_of_same (HC.out _)))
    have B0 : Hid (Below w.heap.size w (w.drewN nq)) := below_drewN (Below.refl _ _) nq
    have RF1 : Hid (Row (w.drewN nq) (.slice (some ⟨g, o, none⟩) k1 cap) (x :: r)) := RF.out.drew nq
    have RG1 : Hid (Row (w.drewN nq) (.slice (some ⟨g2, o2, none⟩) k2 cap2) (y :: s)) := RG.out.drew nq
    have HS : Hid ((w.drewN nq).heap.size = w.heap.size) := rfl
    obtain ⟨w1, hw1⟩ : ∃ w1, w1 = w.drewN nq := ⟨_, rfl⟩
    rw [← hw1] at B0 RF1 RG1 HS ⊢
    clear hw1
    go_wp2_with fail
    go_must (go_at_call 46)
    refine (HBF.out w1 RF1.out).mono ?_
    rintro e w2 ⟨v1, rfl, r1, hee⟩
    obtain rfl := hee.symm
    have R1 : Hid (Row w1 v1 fs') := r1
    clear hee r1
    go_wp2_with fail
    go_must (go_at_call 46)
    refine (HBG.out w1 RG1.out).mono ?_
    rintro e w2 ⟨v2, rfl, r2, hee⟩
    obtain rfl := hee.symm
    have R2 : Hid (Row w1 v2 gs') := r2
    clear hee r2
    go_wp2_with fail
    go_must (go_at_call 19)
    refine (IH.out v1 v2 w1 R1.out R2.out).mono ?_
    obtain ⟨cc, hcc⟩ : ∃ cc, com n (fs'.map unB) (gs'.map unB) = cc := ⟨_, rfl⟩
    have HL : Hid (∀ t, cc = some t → t.length ≤ 1000000) := fun t ht => Nat.le_trans (com_length n _ _ t (by rw [hcc, ht])) HN.out
    have HCC : Hid (com n (fs'.map unB) (gs'.map unB) = cc) := hcc
    rw [hcc]
    clear hcc
    rintro e w3 ⟨v3, rfl, ht, hb⟩
    have T3 : Hid (Told w3 w.heap.size v3 cc) := by rw [HS.out] at ht; exact ht
    have B3 : Hid (Below w.heap.size w w3) := by rw [HS.out] at hb; exact B0.out.trans hb
    clear ht hb
    cases cc with
    | none =>
      go_wp2_with fail
      go_ret2
      rw [HCC.out]
      exact ⟨_, rfl, told_none _ _ _, B3.out⟩
    | some t =>
      have HO : Hid (w3.ownsRow w.heap.size 9 1 v3 t.length ((t.reverse.map mkB).map Value.string)) := T3.out t rfl
      clear T3
      go_wp2_with (at_builtin; refine wpList_append_own _ rfl (.tmp 45) (.tmp 47) 27 rfl w.heap.size 9 i0 (.string ⟨#[]⟩) 1 16 Try.underlying27 hi hz0 hz1 hz2 rfl (by decide) _ _ _ rfl (HO.out.alloc _) ⟨_, 0, none⟩ 1 1 [.string (mkB l)] rfl rfl (cell_one_new _ _ _) ?x2 ?x3 ?x4 ?x5 ?_)
      any_goals first | rfl | (intro u hu; simp at hu; subst hu; rfl; done) | (have := HL.out t rfl; unfold maxLen; omega; done) | (have := HL.out t rfl; omega; done) | (have := B3.out.size; simp; omega; done)
      intro v4 w4 hown2 hgrow2 hnil2
      have hb2 := (B3.out.alloc B3.out.size _).grown hgrow2 (by have := B3.out.size; simp; omega) (by intro q hq; exact (HO.out.lt _ hq).1)
      have HO2 : Hid (Told w4 w.heap.size v4 (some (l :: t))) := by
        intro u hu
        simp only [Option.some.injEq] at hu
        subst hu
        simpa using hown2
      have HB2 : Hid (Below w.heap.size w w4) := hb2
      clear hown2 hgrow2 hnil2 hb2
      go_wp2
      go_ret2
      rw [HCC.out]
      exact ⟨v4, rfl, HO2.out, HB2.out⟩
set_option maxRecDepth 100000 in
set_option maxHeartbeats 2000000 in
theorem common_go2 (n : Nat) (hn : n ≤ 1000000) (x y : ByteArray) (r s : List ByteArray) (h1 : mayE ((x :: r).map unB) = true) (h2 : mayE ((y :: s).map unB) = false) (ih : ComOk n (if unB x = [35] then x :: r else r) (if unB y = [35] then y :: s else s)) : ComOk (n + 1) (x :: r) (y :: s) := by
  intro vf vg w Rf Rg
  rw [com_step n x y r s (by rw [h1, h2]; rfl)]
  have H1 : Hid (Calls Try.prog 44 #[vf] w fun e w' => e = .returned (.bool true) ∧ w' = w) := by have := mayEnd_any (x :: r) vf w Rf; rw [h1] at this; exact this
  have H2 : Hid (Calls Try.prog 44 #[vg] w fun e w' => e = .returned (.bool false) ∧ w' = w) := by have := mayEnd_any (y :: s) vg w Rg; rw [h2] at this; exact this
  obtain ⟨i0, hi, hz0, hz1, hz2⟩ : ∃ i0, Try.prog.info? 9 = some i0 ∧ i0.zero = some (.string ⟨#[]⟩) ∧ i0.size = 1 ∧ i0.bytes = 16 := ⟨_, rfl, rfl, rfl, rfl⟩
  have RF : Hid (Row w vf (x :: r)) := Rf
  have RG : Hid (Row w vg (y :: s)) := Rg
  have IH : Hid (ComOk n (if unB x = [35] then x :: r else r) (if unB y = [35] then y :: s else s)) := ih
  have HN : Hid (n ≤ 1000000) := hn
  obtain ⟨fs', hfs⟩ : ∃ fs', (if unB x = [35] then x :: r else r) = fs' := ⟨_, rfl⟩
  obtain ⟨gs', hgs⟩ : ∃ gs', (if unB y = [35] then y :: s else s) = gs' := ⟨_, rfl⟩
  have HBF : Hid (∀ w' : World, Row w' vf (x :: r) → Calls Try.prog 46 #[vf] w' fun e w2 => ∃ v', e = .returned v' ∧ Row w' v' fs' ∧ w2 = w') := by intro w' hr; have := behind_any x r vf w' hr; rw [hfs] at this; exact this
  have HBG : Hid (∀ w' : World, Row w' vg (y :: s) → Calls Try.prog 46 #[vg] w' fun e w2 => ∃ v', e = .returned v' ∧ Row w' v' gs' ∧ w2 = w') := by intro w' hr; have := behind_any y s vg w' hr; rw [hgs] at this; exact this
  rw [hfs, hgs] at IH ⊢
  obtain ⟨g, o, k1, cap, rfl, hn1, hc1, hg1, c1, hk1⟩ := Rf.cons
  obtain ⟨g2, o2, k2, cap2, rfl, hn2, hc2, hg2, c2, hk2⟩ := Rg.cons
  have q0 : ((k1 : Int) == 0) = false := by rw [beq_eq_false_iff_ne]; omega
  have q1 : ((k2 : Int) == 0) = false := by rw [beq_eq_false_iff_ne]; omega
  have p0 : (0 : Int) < k1 := by omega
  have p1 : (0 : Int) < k2 := by omega
  obtain ⟨cl, hcl⟩ : ∃ cl, comL (unB x) (unB y) = cl := ⟨_, rfl⟩
  have HC : Hid (∀ w', Calls Try.prog 45 #[.string x, .string y] w' fun e w2 => e = .returned (.tuple #[.string (mkB (cl.getD [])), .bool cl.isSome]) ∧ w2 = w') := by intro w'; have := comLevel_any x y w'; rw [hcl] at this; exact this
  rw [hcl]
  clear hcl hfs hgs h1 h2 Rf Rg hk1 hk2 hg1 hg2 hc1 hc2 hn1 hn2 ih hn
  go_enter Try.func19, Try.ntmps19
  go_wp2_with fail
  go_must (go_at_call 44)
  refine H1.out.mono ?_
  rintro e w1 ⟨rfl, hee⟩
  obtain rfl := hee.symm
  clear hee
  go_wp2_with fail
  go_must (go_at_call 44)
  refine H2.out.mono ?_
  rintro e w1 ⟨rfl, hee⟩
  obtain rfl := hee.symm
  clear hee
  go_wp2_with fail
  cases cl with
  | none =>
    go_quiet ((go_at_call 45; exact Calls.quiet_of_same (HC.out _)))
    have B0 : Hid (Below w.heap.size w (w.drewN nq)) := below_drewN (Below.refl _ _) nq
    obtain ⟨w1, hw1⟩ : ∃ w1, w1 = w.drewN nq := ⟨_, rfl⟩
    rw [← hw1] at B0 ⊢
    clear hw1
    go_wp2_with fail
    go_ret2
    exact ⟨_, rfl, told_none _ _ _, B0.out⟩
  | some l =>
    go_quiet ((go_at_call 45; exact Calls.quiet_of_same (HC.out _)))
    have B0 : Hid (Below w.heap.size w (w.drewN nq)) := below_drewN (Below.refl _ _) nq
    have RF1 : Hid (Row (w.drewN nq) (.slice (some ⟨g, o, none⟩) k1 cap) (x :: r)) := RF.out.drew nq
    have RG1 : Hid (Row (w.drewN nq) (.slice (some ⟨g2, o2, none⟩) k2 cap2) (y :: s)) := RG.out.drew nq
    have HS : Hid ((w.drewN nq).heap.size = w.heap.size) := rfl
    obtain ⟨w1, hw1⟩ : ∃ w1, w1 = w.drewN nq := ⟨_, rfl⟩
    rw [← hw1] at B0 RF1 RG1 HS ⊢
    clear hw1
    go_wp2_with fail
    go_must (go_at_call 46)
    refine (HBF.out w1 RF1.out).mono ?_
    rintro e w2 ⟨v1, rfl, r1, hee⟩
    obtain rfl := hee.symm
    have R1 : Hid (Row w1 v1 fs') := r1
    clear hee r1
    go_wp2_with fail
    go_must (go_at_call 46)
    refine (HBG.out w1 RG1.out).mono ?_
    rintro e w2 ⟨v2, rfl, r2, hee⟩
    obtain rfl := hee.symm
    have R2 : Hid (Row w1 v2 gs') := r2
    clear hee r2
    go_wp2_with fail
    go_must (go_at_call 19)
    refine (IH.out v1 v2 w1 R1.out R2.out).mono ?_
    obtain ⟨cc, hcc⟩ : ∃ cc, com n (fs'.map unB) (gs'.map unB) = cc := ⟨_, rfl⟩
    have HL : Hid (∀ t, cc = some t → t.length ≤ 1000000) := fun t ht => Nat.le_trans (com_length n _ _ t (by rw [hcc, ht])) HN.out
    have HCC : Hid (com n (fs'.map unB) (gs'.map unB) = cc) := hcc
    rw [hcc]
    clear hcc
    rintro e w3 ⟨v3, rfl, ht, hb⟩
    have T3 : Hid (Told w3 w.heap.size v3 cc) := by rw [HS.out] at ht; exact ht
    have B3 : Hid (Below w.heap.size w w3) := by rw [HS.out] at hb; exact B0.out.trans hb
    clear ht hb
    cases cc with
    | none =>
      go_wp2_with fail
      go_ret2
      rw [HCC.out]
      exact ⟨_, rfl, told_none _ _ _, B3.out⟩
    | some t =>
      have HO : Hid (w3.ownsRow w.heap.size 9 1 v3 t.length ((t.reverse.map mkB).map Value.string)) := T3.out t rfl
      clear T3
      go_wp2_with (at_builtin; refine wpList_append_own _ rfl (.tmp 45) (.tmp 47) 27 rfl w.heap.size 9 i0 (.string ⟨#[]⟩) 1 16 Try.underlying27 hi hz0 hz1 hz2 rfl (by decide) _ _ _ rfl (HO.out.alloc _) ⟨_, 0, none⟩ 1 1 [.string (mkB l)] rfl rfl (cell_one_new _ _ _) ?x2 ?x3 ?x4 ?x5 ?_)
      any_goals first | rfl | (intro u hu; simp at hu; subst hu; rfl; done) | (have := HL.out t rfl; unfold maxLen; omega; done) | (have := HL.out t rfl; omega; done) | (have := B3.out.size; simp; omega; done)
      intro v4 w4 hown2 hgrow2 hnil2
      have hb2 := (B3.out.alloc B3.out.size _).grown hgrow2 (by have := B3.out.size; simp; omega) (by intro q hq; exact (HO.out.lt _ hq).1)
      have HO2 : Hid (Told w4 w.heap.size v4 (some (l :: t))) := by
        intro u hu
        simp only [Option.some.injEq] at hu
        subst hu
        simpa using hown2
      have HB2 : Hid (Below w.heap.size w w4) := hb2
      clear hown2 hgrow2 hnil2 hb2
      go_wp2
      go_ret2
      rw [HCC.out]
      exact ⟨v4, rfl, HO2.out, HB2.out⟩
theorem common_any : ∀ (n : Nat) (fs gs : List ByteArray), n ≤ 1000000 → fs.length + gs.length < n → ComOk n fs gs
  | 0, fs, gs, _, h => by omega
  | n + 1, fs, gs, hn, h => by
    by_cases hm : (mayE (fs.map unB) && mayE (gs.map unB)) = true
    · rw [Bool.and_eq_true] at hm
      exact common_both n fs gs hm.1 hm.2
    · rw [Bool.not_eq_true] at hm
      cases fs with
      | nil => exact common_left n gs (by simpa [mayE] using hm)
      | cons x r =>
        cases gs with
        | nil => exact common_right n x r (by simpa [mayE] using hm)
        | cons y s =>
          have hab : ¬ (unB x = [35] ∧ unB y = [35]) := by
            rintro ⟨h1, h2⟩
            simp [mayE, h1, h2] at hm
          have ih := common_any n (if unB x = [35] then x :: r else r) (if unB y = [35] then y :: s else s) (by omega) (by
            simp only [List.length_cons] at h
            by_cases h1 : unB x = [35]
            · have h2 : ¬ unB y = [35] := fun e => hab ⟨h1, e⟩
              rw [if_pos h1, if_neg h2]; simp; omega
            · rw [if_neg h1]
              split
              · simp; omega
              · omega)
          cases h1 : mayE ((x :: r).map unB) with
          | false => exact common_go1 n (by omega) x y r s h1 ih
          | true =>
            rw [h1, Bool.true_and] at hm
            exact common_go2 n (by omega) x y r s h1 hm ih
end Go.Proofs.Ytglnldopnoafoaa
