import Derived.Test.YtglnldopnoafoaaGreatDoorYh
namespace Go.Proofs.YtglnldopnoafoaaGreatDoor
open Go Go.RowKit
set_option linter.unusedSimpArgs false
set_option linter.unusedVariables false

theorem op_one {g : ByteArray} {y y' : List Bs} {o o' : Bool} (h : Op g y o) (h' : Op g y' o') : y = y' ∧ o = o' := by
  have e := h.sp.symm.trans h'.sp
  cases o with
  | true =>
    cases o' with
    | true => exact ⟨List.append_cancel_right e, rfl⟩
    | false =>
      exfalso
      refine h'.no [35] ?_ rfl
      have : y' = y ++ tl true := by simpa [tl] using e.symm
      rw [this]
      simp [tl]
  | false =>
    cases o' with
    | false => exact ⟨by simpa [tl] using e, rfl⟩
    | true =>
      exfalso
      refine h.no [35] ?_ rfl
      have : y = y' ++ tl true := by simpa [tl] using e
      rw [this]
      simp [tl]
theorem fillR_len (x : List Bs) (m : Nat) (h : x.length ≤ m) : (fillR x m).length = m := by
  rw [fill_len']; omega
theorem sv_set : ∀ (l : List Bs) (i : Nat), (sv l).set i (.string ⟨#[97]⟩) = sv (l.set i [97])
  | [], i => by simp [sv]
  | a :: r, 0 => rfl
  | a :: r, i + 1 => by
    have := sv_set r i
    simp only [sv, List.map_cons, List.set_cons_succ] at this ⊢
    rw [this]
/-- Is place i one where a topic may have another level? -/
def plc (x y : List Bs) (ox : Bool) (i : Nat) : Prop := ¬ (i < x.length ∧ ¬ x[i]? = some [43]) ∧ ¬ (x.length ≤ i ∧ ox = false) ∧ y[i]? = some []
set_option maxRecDepth 100000 in
set_option maxHeartbeats 8000000 in
theorem refOut_any (f g : ByteArray) (w : World) : Calls Tryz.prog 61 #[.string f, .string g] w fun e w' => (∃ s, e = .returned (.tuple #[.string s, .bool (outP f g).isSome])) ∧ Below w.heap.size w w' := by
  have NF : Hid (¬ rfc f = 0 → (outP f g).isSome = false) := by
    intro h
    apply Bool.eq_false_iff.2
    intro h1
    obtain ⟨T, h2, _⟩ := (out_iff f g).1 h1
    exact h ((mch_iff f T).1 h2).1
  have YES : Hid (∀ c, shoB c f g = true → (outP f g).isSome = true) := fun c h => (out_iff f g).2 (sho_yes h)
  have NO : Hid (∀ x ox, Op f x ox → shoB (aliveR (fillR x (max x.length 1)) false) f g = false → shoB (aliveR (fillR x (max x.length 1)) true) f g = false → (ox = true → shoB (fillR x (max x.length 1 + 1)) f g = false) → (¬ rfc g = 0 ∨ ∃ y oy, Op g y oy ∧ (ox = true → ∀ n, max x.length 1 + 2 ≤ n → n ≤ max (max x.length 1) y.length + 1 → shoB (fillR x n) f g = false) ∧ ∀ i, i < y.length → plc x y ox i → shoB ((fillR x (max (max x.length 1) (i + 1))).set i [97]) f g = false) → (outP f g).isSome = false) := by
    intro x ox hf n1 n2 n3 n45
    apply Bool.eq_false_iff.2
    intro h
    obtain ⟨T, h1, h2⟩ := (out_iff f g).1 h
    refine ref_out hf h1 h2 (by rw [n1]; simp) (by rw [n2]; simp) (fun h => by rw [n3 h]; simp) ?_ ?_
    · intro hg y' oy' hy' hox n hn1 hn2
      rcases n45 with h | ⟨y, oy, hy, h4, _⟩
      · exact absurd hg h
      · obtain ⟨rfl, rfl⟩ := op_one hy hy'
        rw [h4 hox n hn1 hn2]; simp
    · intro hg y' oy' hy' i hi p1 p2 p3
      rcases n45 with h | ⟨y, oy, hy, _, h5⟩
      · exact absurd hg h
      · obtain ⟨rfl, rfl⟩ := op_one hy hy'
        rw [h5 i hi ⟨p1, p2, p3⟩]; simp
  obtain ⟨M, hM⟩ : ∃ M, (outP f g).isSome = M := ⟨_, rfl⟩
  rw [hM] at NF YES NO ⊢
  clear hM
  have RFC : Hid (∀ (s : ByteArray) (w : World), Calls Tryz.prog 90 #[.string s] w fun e w' => e = .returned (.int .i64 (rfc s)) ∧ Below w.heap.size w w') := rfilter_any
  by_cases cf : rfc f = 0
  case neg =>
    obtain ⟨cz, hcz⟩ : ∃ c, rfc f = c := ⟨_, rfl⟩
    have RF : Hid (Calls Tryz.prog 90 #[.string f] w fun e w' => e = .returned (.int .i64 cz) ∧ Below w.heap.size w w') := by rw [← hcz]; exact RFC.out f w
    have HM : Hid (M = false) := NF.out cf
    rw [hcz] at cf
    clear hcz NF YES NO RFC
    go_enter Tryz.func61, Tryz.ntmps61
    go_wp2_with fail
    go_must (go_at_call 90)
    refine RF.out.mono ?_
    rintro e w1 ⟨rfl, hb⟩
    have B1 : Hid (Below w.heap.size w w1) := hb
    clear hb
    go_wp2_with fail
    go_ret2
    rw [HM.out]
    exact ⟨⟨_, rfl⟩, B1.out⟩
  have RF : Hid (Calls Tryz.prog 90 #[.string f] w fun e w' => e = .returned (.int .i64 0) ∧ Below w.heap.size w w') := by rw [← cf]; exact RFC.out f w
  obtain ⟨x, ox, hopf⟩ := op_of f cf
  have tx := op_tot cf hopf
  have OF : Hid (∀ w, Calls Tryz.prog 91 #[.string f] w fun e w' => (∃ v, e = .returned (.tuple #[v, .bool ox]) ∧ Row w' v (x.map mkB)) ∧ Below w.heap.size w w') := open_any f cf x ox hopf
  replace NO : Hid (shoB (aliveR (fillR x (max x.length 1)) false) f g = false → shoB (aliveR (fillR x (max x.length 1)) true) f g = false → (ox = true → shoB (fillR x (max x.length 1 + 1)) f g = false) → (¬ rfc g = 0 ∨ ∃ y oy, Op g y oy ∧ (ox = true → ∀ n, max x.length 1 + 2 ≤ n → n ≤ max (max x.length 1) y.length + 1 → shoB (fillR x n) f g = false) ∧ ∀ i, i < y.length → plc x y ox i → shoB ((fillR x (max (max x.length 1) (i + 1))).set i [97]) f g = false) → M = false) := NO.out x ox hopf
  have HT : Hid (tot x ≤ 65536 ∧ x.length ≤ 65536) := tx
  have C26 : Hid (∀ m : Nat, m ≤ 200000 → ∀ v w, Row w v (x.map mkB) → Calls Tryz.prog 94 #[v, .int .i64 (m : Int)] w fun e w' => ∃ v', e = .returned v' ∧ w'.ownsRow w.heap.size 9 1 v' (fillR x m).length (sv (fillR x m)) ∧ Below w.heap.size w w') := by
    intro m hm v w R
    have := fillR_any (x.map mkB) m v w R (by simp; omega) hm
    rw [map_un_mk] at this
    exact this
  have C31 : Hid (∀ l b, shoB l f g = b → tot l ≤ 1000000 → ∀ v w, Row w v (l.map mkB) → Calls Tryz.prog 92 #[v, .string f, .string g] w fun e w' => (∃ s, e = .returned (.tuple #[.string s, .bool b])) ∧ Below w.heap.size w w') := by
    intro l b hb hl v w R
    rw [← hb]
    exact shows_ref l f g v w R hl
  obtain ⟨L, hL⟩ : ∃ L, max x.length 1 = L := ⟨_, rfl⟩
  rw [hL] at NO
  have HL : Hid (max x.length 1 = L ∧ 1 ≤ L ∧ L ≤ 65536 ∧ x.length ≤ L) := ⟨hL, by omega, by omega, by omega⟩
  obtain ⟨L1, hL1⟩ : ∃ L1, L1 = L + 1 := ⟨_, rfl⟩
  have HL1 : Hid (L1 = L + 1) := hL1
  have hw1 : IntKind.i64.wrap ((L : Int) + 1) = (L1 : Int) := by rw [IntKind.wrap_i64]; have := HL.out; omega
  clear tx hopf cf NF hL hL1
  go_enter Tryz.func61, Tryz.ntmps61
  go_wp2_with fail
  go_must (go_at_call 90)
  refine RF.out.mono ?_
  rintro e w1 ⟨rfl, hb⟩
  have B1 : Hid (Below w.heap.size w w1) := hb
  clear hb RF
  go_wp2_with fail
  go_must (go_at_call 91)
  refine (OF.out w1).mono ?_
  rintro e w2 ⟨⟨vx, rfl, rx⟩, hb⟩
  replace B1 : Hid (Below w.heap.size w w2) := B1.out.trans (hb.mono B1.out.size)
  have RX : Hid (Row w2 vx (x.map mkB)) := rx
  obtain ⟨ax, nx, capx, rfl, hnx, hcx, -⟩ := rx
  simp only [List.length_map] at hnx
  have HN : Hid (nx = x.length ∧ nx ≤ capx) := ⟨hnx, hcx⟩
  have hmx0 : max (nx : Int) 1 = (L : Int) := by have := HL.out; omega
  clear hb OF hnx hcx
  obtain ⟨b1, hb1⟩ : ∃ b, shoB (aliveR (fillR x L) false) f g = b := ⟨_, rfl⟩
  have HB1 : Hid (shoB (aliveR (fillR x L) false) f g = b1) := hb1
  obtain ⟨b2, hb2⟩ : ∃ b, shoB (aliveR (fillR x L) true) f g = b := ⟨_, rfl⟩
  have HB2 : Hid (shoB (aliveR (fillR x L) true) f g = b2) := hb2
  clear hb1 hb2
  go_wp2_with fail
  go_must (go_at_call 94)
  refine (C26.out L (by have := HL.out; omega) _ w2 RX.out).mono ?_
  rintro e w3 ⟨v3, rfl, ho3, hb3⟩
  have R3 : Hid (Row w3 v3 ((fillR x L).map mkB)) := rows_sv ho3
  replace B1 : Hid (Below w.heap.size w w3) := B1.out.trans (hb3.mono B1.out.size)
  replace RX : Hid (Row w3 (.slice ax nx capx) (x.map mkB)) := RX.out.later hb3
  clear ho3 hb3
  go_wp2_with fail
  go_must (go_at_call 93)
  refine (alive_any ((fillR x L).map mkB) v3 false w3 R3.out).mono ?_
  rintro e w4 ⟨⟨v4, rfl, r4⟩, hb4⟩
  have R4 : Hid (Row w4 v4 ((aliveR (fillR x L) false).map mkB)) := by
    rw [map_un_mk] at r4
    exact r4
  replace B1 : Hid (Below w.heap.size w w4) := B1.out.trans (hb4.mono B1.out.size)
  replace RX : Hid (Row w4 (.slice ax nx capx) (x.map mkB)) := RX.out.later hb4
  clear r4 hb4 R3
  go_wp2_with fail
  go_must (go_at_call 92)
  refine (C31.out (aliveR (fillR x L) false) _ HB1.out (by have h1 := tot_alive (fillR x L) false; have h2 := tot_fill x L; have := HT.out; have := HL.out; omega) v4 w4 R4.out).mono ?_
  rintro e w5 ⟨⟨s5, rfl⟩, hb5⟩
  replace B1 : Hid (Below w.heap.size w w5) := B1.out.trans (hb5.mono B1.out.size)
  replace RX : Hid (Row w5 (.slice ax nx capx) (x.map mkB)) := RX.out.later hb5
  clear hb5 R4
  cases b1 with
  | true =>
    have HM : Hid (M = true) := YES.out _ HB1.out
    go_wp2_with fail
    go_ret2
    rw [HM.out]
    exact ⟨⟨_, rfl⟩, B1.out⟩

  | false =>

    go_wp2_with fail
    go_must (go_at_call 94)
    refine (C26.out L (by have := HL.out; omega) _ w5 RX.out).mono ?_
    rintro e w6 ⟨v6, rfl, ho6, hb6⟩
    have R6 : Hid (Row w6 v6 ((fillR x L).map mkB)) := rows_sv ho6
    replace B1 : Hid (Below w.heap.size w w6) := B1.out.trans (hb6.mono B1.out.size)
    replace RX : Hid (Row w6 (.slice ax nx capx) (x.map mkB)) := RX.out.later hb6
    clear ho6 hb6
    go_wp2_with fail
    go_must (go_at_call 93)
    refine (alive_any ((fillR x L).map mkB) v6 true w6 R6.out).mono ?_
    rintro e w7 ⟨⟨v7, rfl, r7⟩, hb7⟩
    have R7 : Hid (Row w7 v7 ((aliveR (fillR x L) true).map mkB)) := by
      rw [map_un_mk] at r7
      exact r7
    replace B1 : Hid (Below w.heap.size w w7) := B1.out.trans (hb7.mono B1.out.size)
    replace RX : Hid (Row w7 (.slice ax nx capx) (x.map mkB)) := RX.out.later hb7
    clear r7 hb7 R6
    go_wp2_with fail
    go_must (go_at_call 92)
    refine (C31.out (aliveR (fillR x L) true) _ HB2.out (by have h1 := tot_alive (fillR x L) true; have h2 := tot_fill x L; have := HT.out; have := HL.out; omega) v7 w7 R7.out).mono ?_
    rintro e w8 ⟨⟨s8, rfl⟩, hb8⟩
    replace B1 : Hid (Below w.heap.size w w8) := B1.out.trans (hb8.mono B1.out.size)
    replace RX : Hid (Row w8 (.slice ax nx capx) (x.map mkB)) := RX.out.later hb8
    clear hb8 R7
    cases b2 with
    | true =>
      have HM : Hid (M = true) := YES.out _ HB2.out
      go_wp2_with fail
      go_ret2
      rw [HM.out]
      exact ⟨⟨_, rfl⟩, B1.out⟩

    | false =>

      cases ox with
      | true =>
        obtain ⟨b3, hb3⟩ : ∃ b, shoB (fillR x L1) f g = b := ⟨_, rfl⟩
        have HB3 : Hid (shoB (fillR x L1) f g = b3) := hb3
        clear hb3
        go_wp2_with fail
        go_must (go_at_call 94)
        refine (C26.out L1 (by have := HL.out; have := HL1.out; omega) _ w8 RX.out).mono ?_
        rintro e w9 ⟨v9, rfl, ho9, hb9⟩
        have R9 : Hid (Row w9 v9 ((fillR x L1).map mkB)) := rows_sv ho9
        replace B1 : Hid (Below w.heap.size w w9) := B1.out.trans (hb9.mono B1.out.size)
        replace RX : Hid (Row w9 (.slice ax nx capx) (x.map mkB)) := RX.out.later hb9
        clear ho9 hb9
        go_wp2_with fail
        go_must (go_at_call 92)
        refine (C31.out (fillR x L1) _ HB3.out (by have h2 := tot_fill x L1; have := HT.out; have := HL.out; have := HL1.out; omega) v9 w9 R9.out).mono ?_
        rintro e w10 ⟨⟨s10, rfl⟩, hb10⟩
        replace B1 : Hid (Below w.heap.size w w10) := B1.out.trans (hb10.mono B1.out.size)
        replace RX : Hid (Row w10 (.slice ax nx capx) (x.map mkB)) := RX.out.later hb10
        clear hb10 R9
        cases b3 with
        | true =>
          have HM : Hid (M = true) := YES.out _ HB3.out
          go_wp2_with fail
          go_ret2
          rw [HM.out]
          exact ⟨⟨_, rfl⟩, B1.out⟩

        | false =>
          have NO2 : Hid ((¬ rfc g = 0 ∨ ∃ y oy, Op g y oy ∧ (∀ n, L + 2 ≤ n → n ≤ max L y.length + 1 → shoB (fillR x n) f g = false) ∧ ∀ i, i < y.length → plc x y true i → shoB ((fillR x (max L (i + 1))).set i [97]) f g = false) → M = false) := fun h => NO.out HB1.out HB2.out (fun _ => by have h := HB3.out; rw [HL1.out] at h; exact h) (h.elim .inl fun ⟨y, oy, h1, h2, h3⟩ => .inr ⟨y, oy, h1, fun _ => h2, h3⟩)
          clear NO HB1 HB2
          by_cases cg : rfc g = 0
          case neg =>
            obtain ⟨cz, hcz⟩ : ∃ c, rfc g = c := ⟨_, rfl⟩
            have RG : Hid (Calls Tryz.prog 90 #[.string g] w10 fun e w' => e = .returned (.int .i64 cz) ∧ Below w10.heap.size w10 w') := by rw [← hcz]; exact RFC.out g w10
            have HM : Hid (M = false) := NO2.out (.inl cg)
            rw [hcz] at cg
            clear hcz YES NO2 RFC
            go_wp2_with fail
            go_must (go_at_call 90)
            refine RG.out.mono ?_
            rintro e w11 ⟨rfl, hb⟩
            replace B1 : Hid (Below w.heap.size w w11) := B1.out.trans (hb.mono B1.out.size)
            clear hb
            go_wp2_with fail
            go_ret2
            rw [HM.out]
            exact ⟨⟨_, rfl⟩, B1.out⟩
          have RG : Hid (Calls Tryz.prog 90 #[.string g] w10 fun e w' => e = .returned (.int .i64 0) ∧ Below w10.heap.size w10 w') := by rw [← cg]; exact RFC.out g w10
          obtain ⟨y, oy, hopg⟩ := op_of g cg
          have ty := op_tot cg hopg
          have OG : Hid (∀ w, Calls Tryz.prog 91 #[.string g] w fun e w' => (∃ v, e = .returned (.tuple #[v, .bool oy]) ∧ Row w' v (y.map mkB)) ∧ Below w.heap.size w w') := open_any g cg y oy hopg
          have HTY : Hid (y.length ≤ 65536) := ty.2
          replace NO2 : Hid ((∀ n, L + 2 ≤ n → n ≤ max L y.length + 1 → shoB (fillR x n) f g = false) → (∀ i, i < y.length → plc x y true i → shoB ((fillR x (max L (i + 1))).set i [97]) f g = false) → M = false) := fun h1 h2 => NO2.out (.inr ⟨y, oy, hopg, h1, h2⟩)
          clear ty hopg cg RFC
          go_wp2_with fail
          go_must (go_at_call 90)
          refine RG.out.mono ?_
          rintro e w11 ⟨rfl, hb⟩
          replace B1 : Hid (Below w.heap.size w w11) := B1.out.trans (hb.mono B1.out.size)
          replace RX : Hid (Row w11 (.slice ax nx capx) (x.map mkB)) := RX.out.later hb
          clear hb RG
          go_wp2_with fail
          go_must (go_at_call 91)
          refine (OG.out w11).mono ?_
          rintro e w12 ⟨⟨vy, rfl, ry⟩, hb⟩
          replace B1 : Hid (Below w.heap.size w w12) := B1.out.trans (hb.mono B1.out.size)
          replace RX : Hid (Row w12 (.slice ax nx capx) (x.map mkB)) := RX.out.later hb
          have RY : Hid (Row w12 vy (y.map mkB)) := ry
          obtain ⟨ay, ny, capy, rfl, hny, hcy, -⟩ := ry
          simp only [List.length_map] at hny
          have HNY : Hid (ny = y.length ∧ ny ≤ capy) := ⟨hny, hcy⟩
          clear hb OG hny hcy
          have HCX : Hid (∀ w1, Below w12.heap.size w12 w1 → ∀ j a, x[j]? = some a → ∃ g o, ax = some ⟨g, o, none⟩ ∧ w1.cell? ⟨g, o + j, none⟩ = some (.string (mkB a))) := by
            intro w1 hb j a hj
            obtain ⟨a', n', c', hv, _, _, hx⟩ := RX.out
            simp only [Value.slice.injEq] at hv
            obtain ⟨rfl, rfl, rfl⟩ := hv
            have hj' : (x.map mkB)[j]? = some (mkB a) := by rw [List.getElem?_map, hj]; rfl
            obtain ⟨g, o, h1, h2, h3⟩ := hx (by intro h; rw [h] at hj'; simp at hj')
            exact ⟨g, o, h1, (hb.cell (p := ⟨g, o + j, none⟩) h2).trans (h3 j _ hj')⟩
          have HCY : Hid (∀ w1, Below w12.heap.size w12 w1 → ∀ j a, y[j]? = some a → ∃ g o, ay = some ⟨g, o, none⟩ ∧ w1.cell? ⟨g, o + j, none⟩ = some (.string (mkB a))) := by
            intro w1 hb j a hj
            obtain ⟨a', n', c', hv, _, _, hx⟩ := RY.out
            simp only [Value.slice.injEq] at hv
            obtain ⟨rfl, rfl, rfl⟩ := hv
            have hj' : (y.map mkB)[j]? = some (mkB a) := by rw [List.getElem?_map, hj]; rfl
            obtain ⟨g, o, h1, h2, h3⟩ := hx (by intro h; rw [h] at hj'; simp at hj')
            exact ⟨g, o, h1, (hb.cell (p := ⟨g, o + j, none⟩) h2).trans (h3 j _ hj')⟩
          have BB0 : Hid (Below w12.heap.size w12 w12) := Below.refl _ _

          obtain ⟨T, hT⟩ : ∃ T, max L ny = T := ⟨_, rfl⟩
          obtain ⟨T1, hT1⟩ : ∃ T1, T1 = T + 1 := ⟨_, rfl⟩
          obtain ⟨L2, hL2⟩ : ∃ L2, L2 = L + 2 := ⟨_, rfl⟩
          have HTT : Hid (max L ny = T ∧ T1 = T + 1 ∧ L2 = L + 2 ∧ T ≤ 65536) := ⟨hT, hT1, hL2, by have := HL.out; have := HTY.out; have := HNY.out; omega⟩
          have hmxT : max (L : Int) (ny : Int) = (T : Int) := by omega
          have hwT : IntKind.i64.wrap ((T : Int) + 1) = (T1 : Int) := by rw [IntKind.wrap_i64]; have := HTT.out; omega
          have hwL : IntKind.i64.wrap ((L : Int) + 2) = (L2 : Int) := by rw [IntKind.wrap_i64]; have := HL.out; omega
          clear hT hT1 hL2
          have G1 : Hid (∀ n, L + 2 ≤ n → n < L2 → shoB (fillR x n) f g = false) := fun n h1 h2 => absurd h2 (by have := HTT.out; omega)
          go_wp2_with fail
          go_loopg [13] (T - L) (fun gk s13 wx => ∃ n : Nat, n + gk = T + 2 ∧ L2 ≤ n ∧ s13 = .int .i64 n ∧ Hid (∀ k, L + 2 ≤ k → k < n → shoB (fillR x k) f g = false) ∧ Hid (Below w12.heap.size w12 wx))
          case atStart => exact ⟨L2, by have := HTT.out; omega, Nat.le_refl _, rfl, G1, BB0⟩
          case round =>
            obtain ⟨n, hn2, hnL, rfl, HG1, HB0⟩ := hrel
            cases gk with
            | succ gk =>
              have hnz : (n : Int) ≤ (T1 : Int) := by have := HTT.out; omega
              have hwn : IntKind.i64.wrap ((n : Int) + 1) = (n : Int) + 1 := by rw [IntKind.wrap_i64]; have := HTT.out; omega
              obtain ⟨b4, hb4⟩ : ∃ b, shoB (fillR x n) f g = b := ⟨_, rfl⟩
              have HB4 : Hid (shoB (fillR x n) f g = b4) := hb4
              have HNB : Hid (n ≤ 65538 ∧ L2 ≤ n ∧ n + (gk + 1) = T + 2) := ⟨by have := HTT.out; omega, hnL, hn2⟩
              clear hb4 hnL hn2
              go_wp2_with fail
              go_must (go_at_call 94)
              refine (C26.out n (by have := HNB.out; omega) _ wr (RX.out.later HB0.out)).mono ?_
              rintro e w13 ⟨v13, rfl, ho13, hb13⟩
              have R13 : Hid (Row w13 v13 ((fillR x n).map mkB)) := rows_sv ho13
              have HB1' : Hid (Below w12.heap.size w12 w13) := HB0.out.trans (hb13.mono HB0.out.size)
              clear ho13 hb13 HB0
              go_wp2_with fail
              go_must (go_at_call 92)
              refine (C31.out _ _ HB4.out (by have h2 := tot_fill x n; have := HT.out; have := HNB.out; omega) _ _ R13.out).mono ?_
              rintro e w14 ⟨⟨s14, rfl⟩, hb14⟩
              have HB2' : Hid (Below w12.heap.size w12 w14) := HB1'.out.trans (hb14.mono HB1'.out.size)
              clear hb14 HB1' R13
              cases b4 with
              | true =>
                have HM : Hid (M = true) := YES.out _ HB4.out
                go_wp2_with fail
                go_ret2
                rw [HM.out]
                exact ⟨⟨_, rfl⟩, B1.out.trans (HB2'.out.mono B1.out.size)⟩
              | false =>
                have HG2 : Hid (∀ k, L + 2 ≤ k → k < n + 1 → shoB (fillR x k) f g = false) := by
                  intro k h1 h2
                  by_cases hkn : k < n
                  · exact HG1.out k h1 hkn
                  · obtain rfl : k = n := by omega
                    exact HB4.out
                go_wp2_with fail
                go_roundg gk
                case measure => omega
                case rel => exact ⟨n + 1, by have := HNB.out; omega, by have := HNB.out; omega, by first | rfl | simp, HG2, HB2'⟩
            | zero =>
              have hnz : ¬ (n : Int) ≤ (T1 : Int) := by have := HTT.out; omega
              have HGN : Hid (∀ k, L + 2 ≤ k → k ≤ max L y.length + 1 → shoB (fillR x k) f g = false) := by
                intro k h1 h2
                exact HG1.out k h1 (by have := HTT.out; have := HNY.out; omega)
              replace RX : Hid (Row wr (.slice ax nx capx) (x.map mkB)) := RX.out.later HB0.out
              replace B1 : Hid (Below w.heap.size w wr) := B1.out.trans (HB0.out.mono B1.out.size)
              replace HCX : Hid (∀ w1, Below wr.heap.size wr w1 → ∀ j a, x[j]? = some a → ∃ g o, ax = some ⟨g, o, none⟩ ∧ w1.cell? ⟨g, o + j, none⟩ = some (.string (mkB a))) := fun w1 hb => HCX.out w1 (HB0.out.trans (hb.mono HB0.out.size))
              replace HCY : Hid (∀ w1, Below wr.heap.size wr w1 → ∀ j a, y[j]? = some a → ∃ g o, ay = some ⟨g, o, none⟩ ∧ w1.cell? ⟨g, o + j, none⟩ = some (.string (mkB a))) := fun w1 hb => HCY.out w1 (HB0.out.trans (hb.mono HB0.out.size))
              clear RY BB0 HG1 HB0 G1 hwL hn2 hnL HTT
              obtain ⟨w99, hw99⟩ : ∃ w99, w99 = wr := ⟨_, rfl⟩
              rw [← hw99] at RX B1 HCX HCY ⊢
              clear hw99
              have BB0 : Hid (Below w99.heap.size w99 w99) := Below.refl _ _
              have G0 : Hid (∀ j, j < 0 → plc x y true j → shoB ((fillR x (max L (j + 1))).set j [97]) f g = false) := fun j hj => absurd hj (by omega)
              go_wp2_with fail
              go_loopg [14] ny (fun gk s14 wx => ∃ i : Nat, i + gk = ny ∧ s14 = .int .i64 i ∧ Hid (∀ j, j < i → plc x y true j → shoB ((fillR x (max L (j + 1))).set j [97]) f g = false) ∧ Hid (Below w99.heap.size w99 wx))
              case atStart => exact ⟨0, by omega, rfl, G0, BB0⟩
              case round =>
                obtain ⟨i, hi2, rfl, HG, HB⟩ := hrel
                cases gk with
                | zero =>
                  have hiz : ¬ (i : Int) < (ny : Int) := by omega
                  have HM : Hid (M = false) := NO2.out HGN.out (fun j hj hp => HG.out j (by have := HNY.out; omega) hp)
                  go_wp2_with fail
                  go_ret2
                  rw [HM.out]
                  exact ⟨⟨_, rfl⟩, B1.out.trans (HB.out.mono B1.out.size)⟩
                | succ gk =>
                  have hiz : (i : Int) < (ny : Int) := by omega
                  have hi0 : (0 : Int) ≤ (i : Int) := by omega
                  have hwi : IntKind.i64.wrap ((i : Int) + 1) = (i : Int) + 1 := by rw [IntKind.wrap_i64]; have := HTY.out; have := HNY.out; omega
                  obtain ⟨m, hm⟩ : ∃ m, max L (i + 1) = m := ⟨_, rfl⟩
                  have HMI : Hid (max L (i + 1) = m) := hm
                  clear hm
                  by_cases kx : i < nx
                  · have kx' : (i : Int) < (nx : Int) := by omega
                    have kx2 : ¬ (nx : Int) ≤ (i : Int) := by omega
                    obtain ⟨a, ha⟩ : ∃ a, x[i]? = some a := ⟨_, List.getElem?_eq_getElem (by have := HN.out; omega)⟩
                    have HXI : Hid (x[i]? = some a) := ha
                    obtain ⟨gx, ogx, hax, hcx⟩ := HCX.out wr HB.out i a ha
                    subst hax
                    clear ha
                    by_cases ha43 : a = [43]
                    · have q1 : ((mkB a).toList == [43]) = true := by rw [un_list, un_mk, ha43]; rfl
                      clear ha43 kx
                      obtain ⟨b, hbb⟩ : ∃ b, y[i]? = some b := ⟨_, List.getElem?_eq_getElem (by have := HNY.out; omega)⟩
                      have HYI : Hid (y[i]? = some b) := hbb
                      obtain ⟨gy, ogy, hay, hcy⟩ := HCY.out wr HB.out i b hbb
                      subst hay
                      clear hbb
                      by_cases hbn : b = []
                      · have q2 : ((mkB b).toList == []) = true := by rw [un_list, un_mk, hbn]; rfl
                        clear hbn
                        have hmi : max (L : Int) ((i : Int) + 1) = (m : Int) := by have := HMI.out; omega
                        go_wp2_with fail
                        go_must (go_at_call 94)
                        refine (C26.out m (by have := HL.out; have := HMI.out; have := HNY.out; have := HTY.out; omega) _ wr (RX.out.later HB.out)).mono ?_
                        rintro e w13 ⟨v13, rfl, ho13, hb13⟩
                        have hfl : (fillR x m).length = m := fillR_len x m (by have := HL.out; have := HMI.out; omega)
                        rw [hfl] at ho13
                        obtain ⟨gl, cl, hv13⟩ : ∃ g cap, v13 = .slice (some ⟨g, 0, none⟩) m cap := by
                          rcases ho13.2 with ⟨_, h0⟩ | ⟨g, cp, _, h1, _⟩
                          · have := HMI.out; omega
                          · exact ⟨g, cp, h1⟩
                        subst hv13
                        have him : (i : Int) < (m : Int) := by have := HMI.out; omega
                        have hfr := ho13.frozenAt i
                        obtain ⟨cold, hcold⟩ : ∃ u, w13.cell? ⟨gl, i, none⟩ = some (.string (mkB u)) := by
                          have h1 := ho13.cellAt i (by have := HMI.out; omega)
                          obtain ⟨u, hu⟩ : ∃ u, (fillR x m)[i]? = some u := ⟨_, List.getElem?_eq_getElem (by have := HMI.out; omega)⟩
                          exact ⟨u, by rw [h1]; simp [sv, hu]⟩
                        obtain ⟨hst, hgb⟩ := ho13.stored i (.string ⟨#[97]⟩)
                        rw [sv_set] at hst
                        have HGB : Hid (wr.heap.size ≤ gl) := (ho13.lt gl rfl).1
                        have HB13 : Hid (Below w99.heap.size w99 w13) := HB.out.trans (hb13.mono HB.out.size)
                        have HB14 : Hid (Below w99.heap.size w99 (w13.setCell ⟨gl, i, none⟩ (.string ⟨#[97]⟩))) := HB13.out.setCell (by have := HB.out.size; have := HGB.out; show _ ≤ gl; omega) _
                        have R14 : Hid (Row (w13.setCell ⟨gl, i, none⟩ (.string ⟨#[97]⟩)) (.slice (some ⟨gl, 0, none⟩) m cl) (((fillR x m).set i [97]).map mkB)) := rows_sv (B := wr.heap.size) (by rw [List.length_set, hfl]; exact hst)
                        obtain ⟨b5, hb5⟩ : ∃ b, shoB ((fillR x m).set i [97]) f g = b := ⟨_, rfl⟩
                        have HB5 : Hid (shoB ((fillR x m).set i [97]) f g = b5) := hb5
                        clear hb5 hst hgb ho13 hb13 hfl HB HGB HB13
                        go_wp2_with fail
                        go_must (go_at_call 92)
                        refine (C31.out _ _ HB5.out (by have h1 := tot_set (fillR x m) i; have h2 := tot_fill x m; have := HT.out; have := HL.out; have := HMI.out; have := HNY.out; have := HTY.out; omega) _ _ R14.out).mono ?_
                        rintro e w15 ⟨⟨s15, rfl⟩, hb15⟩
                        have HB : Hid (Below w99.heap.size w99 w15) := HB14.out.trans (hb15.mono HB14.out.size)
                        clear hb15 R14 HB14 hcold hfr
                        cases b5 with
                        | true =>
                          have HM : Hid (M = true) := YES.out _ HB5.out
                          go_wp2_with fail
                          go_ret2
                          rw [HM.out]
                          exact ⟨⟨_, rfl⟩, B1.out.trans (HB.out.mono B1.out.size)⟩
                        | false =>
                          have HG2 : Hid (∀ j, j < i + 1 → plc x y true j → shoB ((fillR x (max L (j + 1))).set j [97]) f g = false) := by
                            intro j hj hp
                            by_cases hji : j < i
                            · exact HG.out j hji hp
                            · obtain rfl : j = i := by omega
                              rw [HMI.out]; exact HB5.out
                          go_wp2_with fail
                          go_roundg gk
                          case measure => omega
                          case rel => exact ⟨i + 1, by omega, by first | rfl | simp, HG2, HB⟩
                      · have q2 : ((mkB b).toList == []) = false := by rw [un_list, un_mk]; simp [hbn]
                        have HP : Hid (¬ plc x y true i) := by
                          rintro ⟨_, _, h3⟩
                          rw [HYI.out] at h3
                          simp only [Option.some.injEq] at h3
                          exact hbn h3
                        clear hbn
                        have HG2 : Hid (∀ j, j < i + 1 → plc x y true j → shoB ((fillR x (max L (j + 1))).set j [97]) f g = false) := by
                          intro j hj hp
                          by_cases hji : j < i
                          · exact HG.out j hji hp
                          · obtain rfl : j = i := by omega
                            exact absurd hp HP.out
                        go_wp2_with fail
                        go_roundg gk
                        case measure => omega
                        case rel => exact ⟨i + 1, by omega, by first | rfl | simp, HG2, HB⟩
                    · have q1 : ((mkB a).toList == [43]) = false := by rw [un_list, un_mk]; simp [ha43]
                      have HP : Hid (¬ plc x y true i) := by
                        rintro ⟨h1, _, _⟩
                        refine h1 ⟨by have := HN.out; omega, ?_⟩
                        rw [HXI.out]
                        simp only [Option.some.injEq]
                        exact ha43
                      clear ha43 kx
                      have HG2 : Hid (∀ j, j < i + 1 → plc x y true j → shoB ((fillR x (max L (j + 1))).set j [97]) f g = false) := by
                        intro j hj hp
                        by_cases hji : j < i
                        · exact HG.out j hji hp
                        · obtain rfl : j = i := by omega
                          exact absurd hp HP.out
                      go_wp2_with fail
                      go_roundg gk
                      case measure => omega
                      case rel => exact ⟨i + 1, by omega, by first | rfl | simp, HG2, HB⟩
                  · have kx' : ¬ (i : Int) < (nx : Int) := by omega
                    have kx2 : (nx : Int) ≤ (i : Int) := by omega
                    obtain ⟨b, hbb⟩ : ∃ b, y[i]? = some b := ⟨_, List.getElem?_eq_getElem (by have := HNY.out; omega)⟩
                    have HYI : Hid (y[i]? = some b) := hbb
                    obtain ⟨gy, ogy, hay, hcy⟩ := HCY.out wr HB.out i b hbb
                    subst hay
                    clear hbb
                    by_cases hbn : b = []
                    · have q2 : ((mkB b).toList == []) = true := by rw [un_list, un_mk, hbn]; rfl
                      clear hbn
                      have hmi : max (L : Int) ((i : Int) + 1) = (m : Int) := by have := HMI.out; omega
                      go_wp2_with fail
                      go_must (go_at_call 94)
                      refine (C26.out m (by have := HL.out; have := HMI.out; have := HNY.out; have := HTY.out; omega) _ wr (RX.out.later HB.out)).mono ?_
                      rintro e w13 ⟨v13, rfl, ho13, hb13⟩
                      have hfl : (fillR x m).length = m := fillR_len x m (by have := HL.out; have := HMI.out; omega)
                      rw [hfl] at ho13
                      obtain ⟨gl, cl, hv13⟩ : ∃ g cap, v13 = .slice (some ⟨g, 0, none⟩) m cap := by
                        rcases ho13.2 with ⟨_, h0⟩ | ⟨g, cp, _, h1, _⟩
                        · have := HMI.out; omega
                        · exact ⟨g, cp, h1⟩
                      subst hv13
                      have him : (i : Int) < (m : Int) := by have := HMI.out; omega
                      have hfr := ho13.frozenAt i
                      obtain ⟨cold, hcold⟩ : ∃ u, w13.cell? ⟨gl, i, none⟩ = some (.string (mkB u)) := by
                        have h1 := ho13.cellAt i (by have := HMI.out; omega)
                        obtain ⟨u, hu⟩ : ∃ u, (fillR x m)[i]? = some u := ⟨_, List.getElem?_eq_getElem (by have := HMI.out; omega)⟩
                        exact ⟨u, by rw [h1]; simp [sv, hu]⟩
                      obtain ⟨hst, hgb⟩ := ho13.stored i (.string ⟨#[97]⟩)
                      rw [sv_set] at hst
                      have HGB : Hid (wr.heap.size ≤ gl) := (ho13.lt gl rfl).1
                      have HB13 : Hid (Below w99.heap.size w99 w13) := HB.out.trans (hb13.mono HB.out.size)
                      have HB14 : Hid (Below w99.heap.size w99 (w13.setCell ⟨gl, i, none⟩ (.string ⟨#[97]⟩))) := HB13.out.setCell (by have := HB.out.size; have := HGB.out; show _ ≤ gl; omega) _
                      have R14 : Hid (Row (w13.setCell ⟨gl, i, none⟩ (.string ⟨#[97]⟩)) (.slice (some ⟨gl, 0, none⟩) m cl) (((fillR x m).set i [97]).map mkB)) := rows_sv (B := wr.heap.size) (by rw [List.length_set, hfl]; exact hst)
                      obtain ⟨b5, hb5⟩ : ∃ b, shoB ((fillR x m).set i [97]) f g = b := ⟨_, rfl⟩
                      have HB5 : Hid (shoB ((fillR x m).set i [97]) f g = b5) := hb5
                      clear hb5 hst hgb ho13 hb13 hfl HB HGB HB13
                      go_wp2_with fail
                      go_must (go_at_call 92)
                      refine (C31.out _ _ HB5.out (by have h1 := tot_set (fillR x m) i; have h2 := tot_fill x m; have := HT.out; have := HL.out; have := HMI.out; have := HNY.out; have := HTY.out; omega) _ _ R14.out).mono ?_
                      rintro e w15 ⟨⟨s15, rfl⟩, hb15⟩
                      have HB : Hid (Below w99.heap.size w99 w15) := HB14.out.trans (hb15.mono HB14.out.size)
                      clear hb15 R14 HB14 hcold hfr
                      cases b5 with
                      | true =>
                        have HM : Hid (M = true) := YES.out _ HB5.out
                        go_wp2_with fail
                        go_ret2
                        rw [HM.out]
                        exact ⟨⟨_, rfl⟩, B1.out.trans (HB.out.mono B1.out.size)⟩
                      | false =>
                        have HG2 : Hid (∀ j, j < i + 1 → plc x y true j → shoB ((fillR x (max L (j + 1))).set j [97]) f g = false) := by
                          intro j hj hp
                          by_cases hji : j < i
                          · exact HG.out j hji hp
                          · obtain rfl : j = i := by omega
                            rw [HMI.out]; exact HB5.out
                        go_wp2_with fail
                        go_roundg gk
                        case measure => omega
                        case rel => exact ⟨i + 1, by omega, by first | rfl | simp, HG2, HB⟩
                    · have q2 : ((mkB b).toList == []) = false := by rw [un_list, un_mk]; simp [hbn]
                      have HP : Hid (¬ plc x y true i) := by
                        rintro ⟨_, _, h3⟩
                        rw [HYI.out] at h3
                        simp only [Option.some.injEq] at h3
                        exact hbn h3
                      clear hbn
                      have HG2 : Hid (∀ j, j < i + 1 → plc x y true j → shoB ((fillR x (max L (j + 1))).set j [97]) f g = false) := by
                        intro j hj hp
                        by_cases hji : j < i
                        · exact HG.out j hji hp
                        · obtain rfl : j = i := by omega
                          exact absurd hp HP.out
                      go_wp2_with fail
                      go_roundg gk
                      case measure => omega
                      case rel => exact ⟨i + 1, by omega, by first | rfl | simp, HG2, HB⟩
      | false =>
        have NO2 : Hid ((¬ rfc g = 0 ∨ ∃ y oy, Op g y oy ∧ (false = true → ∀ n, L + 2 ≤ n → n ≤ max L y.length + 1 → shoB (fillR x n) f g = false) ∧ ∀ i, i < y.length → plc x y false i → shoB ((fillR x (max L (i + 1))).set i [97]) f g = false) → M = false) := NO.out HB1.out HB2.out (fun h => absurd h (by simp))
        clear NO HB1 HB2
        by_cases cg : rfc g = 0
        case neg =>
          obtain ⟨cz, hcz⟩ : ∃ c, rfc g = c := ⟨_, rfl⟩
          have RG : Hid (Calls Tryz.prog 90 #[.string g] w8 fun e w' => e = .returned (.int .i64 cz) ∧ Below w8.heap.size w8 w') := by rw [← hcz]; exact RFC.out g w8
          have HM : Hid (M = false) := NO2.out (.inl cg)
          rw [hcz] at cg
          clear hcz YES NO2 RFC
          go_wp2_with fail
          go_must (go_at_call 90)
          refine RG.out.mono ?_
          rintro e w11 ⟨rfl, hb⟩
          replace B1 : Hid (Below w.heap.size w w11) := B1.out.trans (hb.mono B1.out.size)
          clear hb
          go_wp2_with fail
          go_ret2
          rw [HM.out]
          exact ⟨⟨_, rfl⟩, B1.out⟩
        have RG : Hid (Calls Tryz.prog 90 #[.string g] w8 fun e w' => e = .returned (.int .i64 0) ∧ Below w8.heap.size w8 w') := by rw [← cg]; exact RFC.out g w8
        obtain ⟨y, oy, hopg⟩ := op_of g cg
        have ty := op_tot cg hopg
        have OG : Hid (∀ w, Calls Tryz.prog 91 #[.string g] w fun e w' => (∃ v, e = .returned (.tuple #[v, .bool oy]) ∧ Row w' v (y.map mkB)) ∧ Below w.heap.size w w') := open_any g cg y oy hopg
        have HTY : Hid (y.length ≤ 65536) := ty.2
        replace NO2 : Hid ((false = true → ∀ n, L + 2 ≤ n → n ≤ max L y.length + 1 → shoB (fillR x n) f g = false) → (∀ i, i < y.length → plc x y false i → shoB ((fillR x (max L (i + 1))).set i [97]) f g = false) → M = false) := fun h1 h2 => NO2.out (.inr ⟨y, oy, hopg, h1, h2⟩)
        clear ty hopg cg RFC
        go_wp2_with fail
        go_must (go_at_call 90)
        refine RG.out.mono ?_
        rintro e w11 ⟨rfl, hb⟩
        replace B1 : Hid (Below w.heap.size w w11) := B1.out.trans (hb.mono B1.out.size)
        replace RX : Hid (Row w11 (.slice ax nx capx) (x.map mkB)) := RX.out.later hb
        clear hb RG
        go_wp2_with fail
        go_must (go_at_call 91)
        refine (OG.out w11).mono ?_
        rintro e w12 ⟨⟨vy, rfl, ry⟩, hb⟩
        replace B1 : Hid (Below w.heap.size w w12) := B1.out.trans (hb.mono B1.out.size)
        replace RX : Hid (Row w12 (.slice ax nx capx) (x.map mkB)) := RX.out.later hb
        have RY : Hid (Row w12 vy (y.map mkB)) := ry
        obtain ⟨ay, ny, capy, rfl, hny, hcy, -⟩ := ry
        simp only [List.length_map] at hny
        have HNY : Hid (ny = y.length ∧ ny ≤ capy) := ⟨hny, hcy⟩
        clear hb OG hny hcy
        have HCX : Hid (∀ w1, Below w12.heap.size w12 w1 → ∀ j a, x[j]? = some a → ∃ g o, ax = some ⟨g, o, none⟩ ∧ w1.cell? ⟨g, o + j, none⟩ = some (.string (mkB a))) := by
          intro w1 hb j a hj
          obtain ⟨a', n', c', hv, _, _, hx⟩ := RX.out
          simp only [Value.slice.injEq] at hv
          obtain ⟨rfl, rfl, rfl⟩ := hv
          have hj' : (x.map mkB)[j]? = some (mkB a) := by rw [List.getElem?_map, hj]; rfl
          obtain ⟨g, o, h1, h2, h3⟩ := hx (by intro h; rw [h] at hj'; simp at hj')
          exact ⟨g, o, h1, (hb.cell (p := ⟨g, o + j, none⟩) h2).trans (h3 j _ hj')⟩
        have HCY : Hid (∀ w1, Below w12.heap.size w12 w1 → ∀ j a, y[j]? = some a → ∃ g o, ay = some ⟨g, o, none⟩ ∧ w1.cell? ⟨g, o + j, none⟩ = some (.string (mkB a))) := by
          intro w1 hb j a hj
          obtain ⟨a', n', c', hv, _, _, hx⟩ := RY.out
          simp only [Value.slice.injEq] at hv
          obtain ⟨rfl, rfl, rfl⟩ := hv
          have hj' : (y.map mkB)[j]? = some (mkB a) := by rw [List.getElem?_map, hj]; rfl
          obtain ⟨g, o, h1, h2, h3⟩ := hx (by intro h; rw [h] at hj'; simp at hj')
          exact ⟨g, o, h1, (hb.cell (p := ⟨g, o + j, none⟩) h2).trans (h3 j _ hj')⟩
        have BB0 : Hid (Below w12.heap.size w12 w12) := Below.refl _ _
        have G0 : Hid (∀ j, j < 0 → plc x y false j → shoB ((fillR x (max L (j + 1))).set j [97]) f g = false) := fun j hj => absurd hj (by omega)
        go_wp2_with fail
        go_loopg [14] ny (fun gk s14 wx => ∃ i : Nat, i + gk = ny ∧ s14 = .int .i64 i ∧ Hid (∀ j, j < i → plc x y false j → shoB ((fillR x (max L (j + 1))).set j [97]) f g = false) ∧ Hid (Below w12.heap.size w12 wx))
        case atStart => exact ⟨0, by omega, rfl, G0, BB0⟩
        case round =>
          obtain ⟨i, hi2, rfl, HG, HB⟩ := hrel
          cases gk with
          | zero =>
            have hiz : ¬ (i : Int) < (ny : Int) := by omega
            have HM : Hid (M = false) := NO2.out (fun h => absurd h (by simp)) (fun j hj hp => HG.out j (by have := HNY.out; omega) hp)
            go_wp2_with fail
            go_ret2
            rw [HM.out]
            exact ⟨⟨_, rfl⟩, B1.out.trans (HB.out.mono B1.out.size)⟩
          | succ gk =>
            have hiz : (i : Int) < (ny : Int) := by omega
            have hi0 : (0 : Int) ≤ (i : Int) := by omega
            have hwi : IntKind.i64.wrap ((i : Int) + 1) = (i : Int) + 1 := by rw [IntKind.wrap_i64]; have := HTY.out; have := HNY.out; omega
            obtain ⟨m, hm⟩ : ∃ m, max L (i + 1) = m := ⟨_, rfl⟩
            have HMI : Hid (max L (i + 1) = m) := hm
            clear hm
            by_cases kx : i < nx
            · have kx' : (i : Int) < (nx : Int) := by omega
              have kx2 : ¬ (nx : Int) ≤ (i : Int) := by omega
              obtain ⟨a, ha⟩ : ∃ a, x[i]? = some a := ⟨_, List.getElem?_eq_getElem (by have := HN.out; omega)⟩
              have HXI : Hid (x[i]? = some a) := ha
              obtain ⟨gx, ogx, hax, hcx⟩ := HCX.out wr HB.out i a ha
              subst hax
              clear ha
              by_cases ha43 : a = [43]
              · have q1 : ((mkB a).toList == [43]) = true := by rw [un_list, un_mk, ha43]; rfl
                clear ha43 kx
                obtain ⟨b, hbb⟩ : ∃ b, y[i]? = some b := ⟨_, List.getElem?_eq_getElem (by have := HNY.out; omega)⟩
                have HYI : Hid (y[i]? = some b) := hbb
                obtain ⟨gy, ogy, hay, hcy⟩ := HCY.out wr HB.out i b hbb
                subst hay
                clear hbb
                by_cases hbn : b = []
                · have q2 : ((mkB b).toList == []) = true := by rw [un_list, un_mk, hbn]; rfl
                  clear hbn
                  have hmi : max (L : Int) ((i : Int) + 1) = (m : Int) := by have := HMI.out; omega
                  go_wp2_with fail
                  go_must (go_at_call 94)
                  refine (C26.out m (by have := HL.out; have := HMI.out; have := HNY.out; have := HTY.out; omega) _ wr (RX.out.later HB.out)).mono ?_
                  rintro e w13 ⟨v13, rfl, ho13, hb13⟩
                  have hfl : (fillR x m).length = m := fillR_len x m (by have := HL.out; have := HMI.out; omega)
                  rw [hfl] at ho13
                  obtain ⟨gl, cl, hv13⟩ : ∃ g cap, v13 = .slice (some ⟨g, 0, none⟩) m cap := by
                    rcases ho13.2 with ⟨_, h0⟩ | ⟨g, cp, _, h1, _⟩
                    · have := HMI.out; omega
                    · exact ⟨g, cp, h1⟩
                  subst hv13
                  have him : (i : Int) < (m : Int) := by have := HMI.out; omega
                  have hfr := ho13.frozenAt i
                  obtain ⟨cold, hcold⟩ : ∃ u, w13.cell? ⟨gl, i, none⟩ = some (.string (mkB u)) := by
                    have h1 := ho13.cellAt i (by have := HMI.out; omega)
                    obtain ⟨u, hu⟩ : ∃ u, (fillR x m)[i]? = some u := ⟨_, List.getElem?_eq_getElem (by have := HMI.out; omega)⟩
                    exact ⟨u, by rw [h1]; simp [sv, hu]⟩
                  obtain ⟨hst, hgb⟩ := ho13.stored i (.string ⟨#[97]⟩)
                  rw [sv_set] at hst
                  have HGB : Hid (wr.heap.size ≤ gl) := (ho13.lt gl rfl).1
                  have HB13 : Hid (Below w12.heap.size w12 w13) := HB.out.trans (hb13.mono HB.out.size)
                  have HB14 : Hid (Below w12.heap.size w12 (w13.setCell ⟨gl, i, none⟩ (.string ⟨#[97]⟩))) := HB13.out.setCell (by have := HB.out.size; have := HGB.out; show _ ≤ gl; omega) _
                  have R14 : Hid (Row (w13.setCell ⟨gl, i, none⟩ (.string ⟨#[97]⟩)) (.slice (some ⟨gl, 0, none⟩) m cl) (((fillR x m).set i [97]).map mkB)) := rows_sv (B := wr.heap.size) (by rw [List.length_set, hfl]; exact hst)
                  obtain ⟨b5, hb5⟩ : ∃ b, shoB ((fillR x m).set i [97]) f g = b := ⟨_, rfl⟩
                  have HB5 : Hid (shoB ((fillR x m).set i [97]) f g = b5) := hb5
                  clear hb5 hst hgb ho13 hb13 hfl HB HGB HB13
                  go_wp2_with fail
                  go_must (go_at_call 92)
                  refine (C31.out _ _ HB5.out (by have h1 := tot_set (fillR x m) i; have h2 := tot_fill x m; have := HT.out; have := HL.out; have := HMI.out; have := HNY.out; have := HTY.out; omega) _ _ R14.out).mono ?_
                  rintro e w15 ⟨⟨s15, rfl⟩, hb15⟩
                  have HB : Hid (Below w12.heap.size w12 w15) := HB14.out.trans (hb15.mono HB14.out.size)
                  clear hb15 R14 HB14 hcold hfr
                  cases b5 with
                  | true =>
                    have HM : Hid (M = true) := YES.out _ HB5.out
                    go_wp2_with fail
                    go_ret2
                    rw [HM.out]
                    exact ⟨⟨_, rfl⟩, B1.out.trans (HB.out.mono B1.out.size)⟩
                  | false =>
                    have HG2 : Hid (∀ j, j < i + 1 → plc x y false j → shoB ((fillR x (max L (j + 1))).set j [97]) f g = false) := by
                      intro j hj hp
                      by_cases hji : j < i
                      · exact HG.out j hji hp
                      · obtain rfl : j = i := by omega
                        rw [HMI.out]; exact HB5.out
                    go_wp2_with fail
                    go_roundg gk
                    case measure => omega
                    case rel => exact ⟨i + 1, by omega, by first | rfl | simp, HG2, HB⟩
                · have q2 : ((mkB b).toList == []) = false := by rw [un_list, un_mk]; simp [hbn]
                  have HP : Hid (¬ plc x y false i) := by
                    rintro ⟨_, _, h3⟩
                    rw [HYI.out] at h3
                    simp only [Option.some.injEq] at h3
                    exact hbn h3
                  clear hbn
                  have HG2 : Hid (∀ j, j < i + 1 → plc x y false j → shoB ((fillR x (max L (j + 1))).set j [97]) f g = false) := by
                    intro j hj hp
                    by_cases hji : j < i
                    · exact HG.out j hji hp
                    · obtain rfl : j = i := by omega
                      exact absurd hp HP.out
                  go_wp2_with fail
                  go_roundg gk
                  case measure => omega
                  case rel => exact ⟨i + 1, by omega, by first | rfl | simp, HG2, HB⟩
              · have q1 : ((mkB a).toList == [43]) = false := by rw [un_list, un_mk]; simp [ha43]
                have HP : Hid (¬ plc x y false i) := by
                  rintro ⟨h1, _, _⟩
                  refine h1 ⟨by have := HN.out; omega, ?_⟩
                  rw [HXI.out]
                  simp only [Option.some.injEq]
                  exact ha43
                clear ha43 kx
                have HG2 : Hid (∀ j, j < i + 1 → plc x y false j → shoB ((fillR x (max L (j + 1))).set j [97]) f g = false) := by
                  intro j hj hp
                  by_cases hji : j < i
                  · exact HG.out j hji hp
                  · obtain rfl : j = i := by omega
                    exact absurd hp HP.out
                go_wp2_with fail
                go_roundg gk
                case measure => omega
                case rel => exact ⟨i + 1, by omega, by first | rfl | simp, HG2, HB⟩
            · have kx' : ¬ (i : Int) < (nx : Int) := by omega
              have kx2 : (nx : Int) ≤ (i : Int) := by omega
              have HP : Hid (¬ plc x y false i) := by
                rintro ⟨_, h2, _⟩
                exact h2 ⟨by have := HN.out; omega, rfl⟩
              have HG2 : Hid (∀ j, j < i + 1 → plc x y false j → shoB ((fillR x (max L (j + 1))).set j [97]) f g = false) := by
                intro j hj hp
                by_cases hji : j < i
                · exact HG.out j hji hp
                · obtain rfl : j = i := by omega
                  exact absurd hp HP.out
              go_wp2_with fail
              go_roundg gk
              case measure => omega
              case rel => exact ⟨i + 1, by omega, by first | rfl | simp, HG2, HB⟩
end Go.Proofs.YtglnldopnoafoaaGreatDoor

