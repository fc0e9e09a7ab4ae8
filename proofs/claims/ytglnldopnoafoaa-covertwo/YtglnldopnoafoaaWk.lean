import Derived.Test.YtglnldopnoafoaaWj
namespace Go.Proofs.Ytglnldopnoafoaa
open Go Go.RowKit
set_option linter.unusedSimpArgs false
set_option linter.unusedVariables false

theorem map_un_mk (l : List Bs) : (l.map mkB).map unB = l := by
  rw [List.map_map]
  conv => rhs; rw [← List.map_id l]
  exact List.map_congr_left fun x _ => un_mk x
theorem lvO_len (f : ByteArray) : (lvO f).length ≤ 65537 := by
  unfold lvO
  split
  · rename_i h
    split
    · decide
    · split
      · decide
      · rw [split_count]
        have h1 := (rfc_zero h).1
        have h2 : (unB f).count 47 ≤ (unB f).length := List.count_le_length
        rw [un_size] at h2
        omega
  · simp

set_option maxRecDepth 100000 in
set_option maxHeartbeats 2000000 in
theorem meet_any (f g : ByteArray) (w : World) : Calls Try.prog 7 #[.string f, .string g] w fun e w' => e = .returned (.tuple #[.string (mkB ((meetP f g).getD [])), .bool (meetP f g).isSome]) ∧ Below w.heap.size w w' := by
  have LF : Hid (∀ w, Calls Try.prog 17 #[.string f] w fun e w' => ∃ v, e = .returned v ∧ Row w' v ((lvO f).map mkB) ∧ Below w.heap.size w w') := fun w => lv_any f w
  have LG : Hid (∀ w, Calls Try.prog 17 #[.string g] w fun e w' => ∃ v, e = .returned v ∧ Row w' v ((lvO g).map mkB) ∧ Below w.heap.size w w') := fun w => lv_any g w
  have n1 := lvO_len f
  have n2 := lvO_len g
  have hA : ∀ a r, lvO f = a :: r → ¬ a = [35] := fun a r h => lv_first a r h
  have hr1 : (joinL (lvO f)).length ≤ 65535 := by
    by_cases h : rfc f = 0
    · exact (lvO_lv h).room
    · rw [lvO_no h]; simp [joinL]
  have hr2 : (joinL (lvO g)).length ≤ 65535 := by
    by_cases h : rfc g = 0
    · exact (lvO_lv h).room
    · rw [lvO_no h]; simp [joinL]
  unfold meetP
  obtain ⟨A, eA⟩ : ∃ A, lvO f = A := ⟨_, rfl⟩
  obtain ⟨B, eB⟩ : ∃ B, lvO g = B := ⟨_, rfl⟩
  rw [eA] at LF n1 hA hr1 ⊢
  rw [eB] at LG n2 hr2 ⊢
  clear eA eB
  have HN : Hid (A.length ≤ 65537 ∧ B.length ≤ 65537) := ⟨n1, n2⟩
  have HJ : Hid (tot A + tot B ≤ 131072) := by
    show _ ≤ _
    have := tot_join A
    have := tot_join B
    omega
  clear n1 n2 hr1 hr2
  cases A with
  | nil =>
    have e0 : meetL [] B = none := by simp [meetL]
    rw [e0]
    clear e0 hA
    go_enter Try.func7, Try.ntmps7
    go_wp2_with fail
    go_must (go_at_call 17)
    refine (LF.out w).mono ?_
    rintro e w1 ⟨v1, rfl, r1, b1⟩
    obtain ⟨a1, c1, rfl⟩ := Row.nil r1
    have B1 : Hid (Below w.heap.size w w1) := b1
    clear r1 b1
    go_wp2_with fail
    go_must (go_at_call 17)
    refine (LG.out w1).mono ?_
    rintro e w2 ⟨v2, rfl, r2, b2⟩
    obtain ⟨a2, k2, c2, rfl, -⟩ := r2
    have B2 : Hid (Below w.heap.size w w2) := B1.out.trans (b2.mono B1.out.size)
    clear b2
    go_wp2_with fail
    go_ret2
    exact ⟨rfl, B2.out⟩
  | cons a r =>
    cases B with
    | nil =>
      have e0 : meetL (a :: r) [] = none := by simp [meetL]
      rw [e0]
      clear e0 hA
      go_enter Try.func7, Try.ntmps7
      go_wp2_with fail
      go_must (go_at_call 17)
      refine (LF.out w).mono ?_
      rintro e w1 ⟨v1, rfl, r1, b1⟩
      obtain ⟨g1, o1, k1, c1, rfl, hk1, -⟩ := Row.cons r1
      have q1 : ((k1 : Int) == 0) = false := by rw [beq_eq_false_iff_ne]; omega
      have B1 : Hid (Below w.heap.size w w1) := b1
      clear r1 b1 hk1
      go_wp2_with fail
      go_must (go_at_call 17)
      refine (LG.out w1).mono ?_
      rintro e w2 ⟨v2, rfl, r2, b2⟩
      obtain ⟨a2, c2, rfl⟩ := Row.nil r2
      have B2 : Hid (Below w.heap.size w w2) := B1.out.trans (b2.mono B1.out.size)
      clear r2 b2
      go_wp2_with fail
      go_ret2
      exact ⟨rfl, B2.out⟩
    | cons b s =>
      obtain ⟨h1, e1⟩ : ∃ h1, hidL (a :: r) (b :: s) = h1 := ⟨_, rfl⟩
      obtain ⟨h2, e2⟩ : ∃ h2, hidL (b :: s) (a :: r) = h2 := ⟨_, rfl⟩
      obtain ⟨cc, ec⟩ : ∃ cc, com ((a :: r).length + (b :: s).length + 1) (a :: r) (b :: s) = cc := ⟨_, rfl⟩
      have e0 : meetL (a :: r) (b :: s) = if h1 || h2 then none else match cc with
          | none => none
          | some t => if joinL t = [] then some [97] else if 65535 < (joinL t).length then none else some (joinL t) := by
        unfold meetL
        rw [e1, e2, ec]
        rw [if_neg (by simp)]
        cases cc <;> rfl
      obtain ⟨M, hM⟩ : ∃ M, meetL (a :: r) (b :: s) = M := ⟨_, rfl⟩
      rw [hM] at e0 ⊢
      have HM : Hid (M = if h1 || h2 then none else match cc with
          | none => none
          | some t => if joinL t = [] then some [97] else if 65535 < (joinL t).length then none else some (joinL t)) := e0
      clear hM
      have HH1 : Hid (∀ (vf vg : Value) (w : World), Row w vf ((a :: r).map mkB) → Row w vg ((b :: s).map mkB) → Calls Try.prog 18 #[vf, vg] w fun e w' => e = .returned (.bool h1) ∧ w' = w) := by
        intro vf vg w R1 R2
        have := hides_any (mkB a) (mkB b) (r.map mkB) (s.map mkB) vf vg w R1 R2
        rw [show (mkB a :: r.map mkB).map unB = a :: r from map_un_mk (a :: r), show (mkB b :: s.map mkB).map unB = b :: s from map_un_mk (b :: s), e1] at this
        exact this
      have HH2 : Hid (∀ (vf vg : Value) (w : World), Row w vf ((a :: r).map mkB) → Row w vg ((b :: s).map mkB) → Calls Try.prog 18 #[vg, vf] w fun e w' => e = .returned (.bool h2) ∧ w' = w) := by
        intro vf vg w R1 R2
        have := hides_any (mkB b) (mkB a) (s.map mkB) (r.map mkB) vg vf w R2 R1
        rw [show (mkB a :: r.map mkB).map unB = a :: r from map_un_mk (a :: r), show (mkB b :: s.map mkB).map unB = b :: s from map_un_mk (b :: s), e2] at this
        exact this
      have HC : Hid (∀ (vf vg : Value) (w : World), Row w vf ((a :: r).map mkB) → Row w vg ((b :: s).map mkB) → Calls Try.prog 19 #[vf, vg] w fun e w' => ∃ v, e = .returned (.tuple #[v, .bool cc.isSome]) ∧ Told w' w.heap.size v cc ∧ Below w.heap.size w w') := by
        intro vf vg w R1 R2
        have := common_any ((a :: r).length + (b :: s).length + 1) ((a :: r).map mkB) ((b :: s).map mkB) (by have := HN.out; omega) (by simp) vf vg w R1 R2
        rw [map_un_mk, map_un_mk, ec] at this
        exact this
      have HT : Hid (∀ t, cc = some t → t ≠ [] ∧ t.length ≤ 1000000 ∧ (joinL t).length ≤ 1000000) := by
        intro t ht
        rw [ht] at ec
        obtain ⟨l, u, et, -, -⟩ := com_cons (hA a r rfl) ec
        refine ⟨by rw [et]; simp, ?_, ?_⟩
        · have := com_length _ _ _ _ ec
          have := HN.out
          omega
        · have h1 := com_tot _ _ _ _ ec
          have h2 := join_tot t
          have h3 := HJ.out
          omega
      clear e0 e1 e2 ec hA
      go_enter Try.func7, Try.ntmps7
      go_wp2_with fail
      go_must (go_at_call 17)
      refine (LF.out w).mono ?_
      rintro e w1 ⟨v1, rfl, r1, b1⟩
      have R1 : Hid (Row w1 v1 ((a :: r).map mkB)) := r1
      obtain ⟨g1, o1, k1, c1, rfl, hk1, -⟩ := Row.cons r1
      have q1 : ((k1 : Int) == 0) = false := by rw [beq_eq_false_iff_ne]; omega
      have B1 : Hid (Below w.heap.size w w1) := b1
      clear r1 b1 hk1
      go_wp2_with fail
      go_must (go_at_call 17)
      refine (LG.out w1).mono ?_
      rintro e w2 ⟨v2, rfl, r2, b2⟩
      have R2 : Hid (Row w2 v2 ((b :: s).map mkB)) := r2
      have R12 : Hid (Row w2 (.slice (some ⟨g1, o1, none⟩) k1 c1) ((a :: r).map mkB)) := R1.out.later b2
      obtain ⟨g2, o2, k2, c2, rfl, hk2, -⟩ := Row.cons r2
      have q2 : ((k2 : Int) == 0) = false := by rw [beq_eq_false_iff_ne]; omega
      have B2 : Hid (Below w.heap.size w w2) := B1.out.trans (b2.mono B1.out.size)
      clear r2 b2 hk2
      go_wp2_with fail
      go_must (go_at_call 18)
      refine (HH1.out _ _ w2 R12.out R2.out).mono ?_
      rintro e w3 ⟨rfl, hee⟩
      obtain rfl := hee.symm
      clear hee
      cases h1 with
      | true =>
        go_wp2_with fail
        go_ret2
        rw [HM.out]
        exact ⟨rfl, B2.out⟩
      | false =>
        go_wp2_with fail
        go_must (go_at_call 18)
        refine (HH2.out _ _ w2 R12.out R2.out).mono ?_
        rintro e w3 ⟨rfl, hee⟩
        obtain rfl := hee.symm
        clear hee
        cases h2 with
        | true =>
          go_wp2_with fail
          go_ret2
          rw [HM.out]
          exact ⟨rfl, B2.out⟩
        | false =>
          go_wp2_with fail
          go_must (go_at_call 19)
          refine (HC.out _ _ w2 R12.out R2.out).mono ?_
          rintro e w3 ⟨v3, rfl, ht, hb⟩
          have T3 : Hid (Told w3 w2.heap.size v3 cc) := ht
          have B23 : Hid (Below w2.heap.size w2 w3) := hb
          have B3 : Hid (Below w.heap.size w w3) := B2.out.trans (hb.mono B2.out.size)
          clear ht hb
          cases cc with
          | none =>
            go_wp2_with fail
            go_ret2
            rw [HM.out]
            exact ⟨rfl, B3.out⟩
          | some t =>
            have TT : Hid (Calls Try.prog 20 #[v3] w3 fun e w' => e = .returned (.string (mkB (joinL t))) ∧ Below w.heap.size w w') := by
              have h4 := HT.out t rfl
              refine (turned_any t v3 w2.heap.size w3 B23.out.size (T3.out t rfl) h4.1 h4.2.1 h4.2.2).mono ?_
              rintro e w' ⟨he, hb⟩
              exact ⟨he, B3.out.trans (hb.mono B2.out.size)⟩
            obtain ⟨J, hJ⟩ : ∃ J, joinL t = J := ⟨_, rfl⟩
            have HJJ : Hid (joinL t = J) := hJ
            rw [hJ] at TT
            clear hJ T3
            go_wp2_with fail
            go_must (go_at_call 20)
            refine TT.out.mono ?_
            rintro e w4 ⟨rfl, hb⟩
            have B4 : Hid (Below w.heap.size w w4) := hb
            clear hb
            have HM2 : Hid (M = if J = [] then some [97] else if 65535 < J.length then none else some J) := by
              have h7 := HM.out
              simp only [Bool.or_self, Bool.false_eq_true, if_false] at h7
              rw [HJJ.out] at h7
              exact h7
            clear HM
            by_cases hz : J = []
            · have q3 : ((mkB J).toList == []) = true := by rw [un_list, un_mk, hz]; rfl
              have HM3 : Hid (M = some [97]) := by show _ = _; rw [HM2.out, if_pos hz]
              clear hz HM2
              go_wp2_with fail
              go_ret2
              rw [HM3.out]
              exact ⟨rfl, B4.out⟩
            · have q3 : ((mkB J).toList == []) = false := by rw [un_list, un_mk]; simp [hz]
              by_cases hl : 65535 < J.length
              · have q4 : (65535 : Int) < (mkB J).size := by rw [mk_size]; omega
                have HM3 : Hid (M = none) := by show _ = _; rw [HM2.out, if_neg hz, if_pos hl]
                clear hl hz HM2
                go_wp2_with fail
                go_ret2
                rw [HM3.out]
                exact ⟨rfl, B4.out⟩
              · have q4 : ¬ (65535 : Int) < (mkB J).size := by rw [mk_size]; omega
                have HM3 : Hid (M = some J) := by show _ = _; rw [HM2.out, if_neg hz, if_neg hl]
                clear hl hz HM2
                go_wp2_with fail
                go_ret2
                rw [HM3.out]
                exact ⟨rfl, B4.out⟩
end Go.Proofs.Ytglnldopnoafoaa
