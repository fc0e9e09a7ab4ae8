import Derived.Test.YtglnldopnoafoaaYg
namespace Go.Proofs.Ytglnldopnoafoaa
open Go Go.RowKit
set_option linter.unusedSimpArgs false
set_option linter.unusedVariables false

theorem plus_un : unB ⟨#[43]⟩ = [43] := rfl
set_option maxRecDepth 100000 in
set_option maxHeartbeats 4000000 in
theorem refMeet_any (f g : ByteArray) (w : World) : Calls Try.prog 8 #[.string f, .string g] w fun e w' => (∃ s, e = .returned (.tuple #[.string s, .bool (meetP f g).isSome])) ∧ Below w.heap.size w w' := by
  obtain ⟨i0, hi, hz0, hz1, hz2⟩ : ∃ i0, Try.prog.info? 9 = some i0 ∧ i0.zero = some (.string ⟨#[]⟩) ∧ i0.size = 1 ∧ i0.bytes = 16 := ⟨_, rfl, rfl, rfl, rfl⟩
  have NF : Hid (¬ rfc f = 0 → (meetP f g).isSome = false) := fun h => meet_no fun ⟨T, h1, _⟩ => h ((mch_iff f T).1 h1).1
  have NG : Hid (¬ rfc g = 0 → (meetP f g).isSome = false) := fun h => meet_no fun ⟨T, _, h1⟩ => h ((mch_iff g T).1 h1).1
  have HR : Hid (∀ x y ox oy, Op f x ox → Op g y oy → ∀ l : List Bs, l.length = max x.length y.length → (∀ k, k < l.length → cAt x y k = l[k]?) → (meetP f g).isSome = (comB (aliveR (fillR l 1) false) f g || (ox && oy && comB (fillR l 2) f g))) := fun x y ox oy hf hg l => meet_ref hf hg l
  have HL : Hid (∀ x y ox oy, Op f x ox → Op g y oy → ((x.length < y.length ∧ ox = false) ∨ (y.length < x.length ∧ oy = false)) → (meetP f g).isSome = false) := by
    intro x y ox oy hf hg h
    refine meet_no ?_
    rintro ⟨T, h1, h2⟩
    obtain ⟨q1, q2⟩ := ref_len hf hg h1 h2
    rcases h with h | h
    · exact q1 h
    · exact q2 h
  have HB0 : Hid (∀ x y ox oy, Op f x ox → Op g y oy → ∀ k, k < max x.length y.length → cAt x y k = none → (meetP f g).isSome = false) := by
    intro x y ox oy hf hg k hk h
    refine meet_no ?_
    rintro ⟨T, h1, h2⟩
    exact ref_both hf hg h1 h2 k hk h
  obtain ⟨M, hM⟩ : ∃ M, (meetP f g).isSome = M := ⟨_, rfl⟩
  rw [hM] at NF NG HR HL HB0 ⊢
  clear hM
  have RFC : Hid (∀ (s : ByteArray) (w : World), Calls Try.prog 21 #[.string s] w fun e w' => e = .returned (.int .i64 (rfc s)) ∧ Below w.heap.size w w') := rfilter_any
  by_cases cf : rfc f = 0
  case neg =>
    obtain ⟨cz, hcz⟩ : ∃ c, rfc f = c := ⟨_, rfl⟩
    have RF : Hid (Calls Try.prog 21 #[.string f] w fun e w' => e = .returned (.int .i64 cz) ∧ Below w.heap.size w w') := by rw [← hcz]; exact RFC.out f w
    have HM : Hid (M = false) := NF.out cf
    rw [hcz] at cf
    clear hcz NF NG HR HL HB0 RFC
    go_enter Try.func8, Try.ntmps8
    go_wp2_with fail
    go_must (go_at_call 21)
    refine RF.out.mono ?_
    rintro e w1 ⟨rfl, hb⟩
    have B1 : Hid (Below w.heap.size w w1) := hb
    clear hb
    go_wp2_with fail
    go_ret2
    rw [HM.out]
    exact ⟨⟨_, rfl⟩, B1.out⟩
  have RF : Hid (Calls Try.prog 21 #[.string f] w fun e w' => e = .returned (.int .i64 0) ∧ Below w.heap.size w w') := by rw [← cf]; exact RFC.out f w
  by_cases cg : rfc g = 0
  case neg =>
    obtain ⟨cz, hcz⟩ : ∃ c, rfc g = c := ⟨_, rfl⟩
    have RG : Hid (∀ w, Calls Try.prog 21 #[.string g] w fun e w' => e = .returned (.int .i64 cz) ∧ Below w.heap.size w w') := by intro w; rw [← hcz]; exact RFC.out g w
    have HM : Hid (M = false) := NG.out cg
    rw [hcz] at cg
    clear hcz NF NG HR HL HB0 RFC cf
    go_enter Try.func8, Try.ntmps8
    go_wp2_with fail
    go_must (go_at_call 21)
    refine RF.out.mono ?_
    rintro e w1 ⟨rfl, hb⟩
    have B1 : Hid (Below w.heap.size w w1) := hb
    clear hb
    go_wp2_with fail
    go_must (go_at_call 21)
    refine (RG.out w1).mono ?_
    rintro e w2 ⟨rfl, hb⟩
    replace B1 : Hid (Below w.heap.size w w2) := B1.out.trans (hb.mono B1.out.size)
    clear hb
    go_wp2_with fail
    go_ret2
    rw [HM.out]
    exact ⟨⟨_, rfl⟩, B1.out⟩
  have RG : Hid (∀ w, Calls Try.prog 21 #[.string g] w fun e w' => e = .returned (.int .i64 0) ∧ Below w.heap.size w w') := by intro w; rw [← cg]; exact RFC.out g w
  obtain ⟨x, ox, hopf⟩ := op_of f cf
  obtain ⟨y, oy, hopg⟩ := op_of g cg
  have tx := op_tot cf hopf
  have ty := op_tot cg hopg
  have OF : Hid (∀ w, Calls Try.prog 22 #[.string f] w fun e w' => (∃ v, e = .returned (.tuple #[v, .bool ox]) ∧ Row w' v (x.map mkB)) ∧ Below w.heap.size w w') := open_any f cf x ox hopf
  have OG : Hid (∀ w, Calls Try.prog 22 #[.string g] w fun e w' => (∃ v, e = .returned (.tuple #[v, .bool oy]) ∧ Row w' v (y.map mkB)) ∧ Below w.heap.size w w') := open_any g cg y oy hopg
  replace HR : Hid (∀ l : List Bs, l.length = max x.length y.length → (∀ k, k < l.length → cAt x y k = l[k]?) → M = (comB (aliveR (fillR l 1) false) f g || (ox && oy && comB (fillR l 2) f g))) := HR.out x y ox oy hopf hopg
  replace HL : Hid (((x.length < y.length ∧ ox = false) ∨ (y.length < x.length ∧ oy = false)) → M = false) := HL.out x y ox oy hopf hopg
  replace HB0 : Hid (∀ k, k < max x.length y.length → cAt x y k = none → M = false) := HB0.out x y ox oy hopf hopg
  have HT : Hid (tot x ≤ 65536 ∧ tot y ≤ 65536 ∧ x.length ≤ 65536 ∧ y.length ≤ 65536) := ⟨tx.1, ty.1, tx.2, ty.2⟩
  clear tx ty hopf hopg cf cg NF NG RFC
  go_enter Try.func8, Try.ntmps8
  go_wp2_with fail
  go_must (go_at_call 21)
  refine RF.out.mono ?_
  rintro e w1 ⟨rfl, hb⟩
  have B1 : Hid (Below w.heap.size w w1) := hb
  clear hb
  go_wp2_with fail
  go_must (go_at_call 21)
  refine (RG.out w1).mono ?_
  rintro e w2 ⟨rfl, hb⟩
  replace B1 : Hid (Below w.heap.size w w2) := B1.out.trans (hb.mono B1.out.size)
  clear hb RF RG
  go_wp2_with fail
  go_must (go_at_call 22)
  refine (OF.out w2).mono ?_
  rintro e w3 ⟨⟨vx, rfl, rx⟩, hb⟩
  replace B1 : Hid (Below w.heap.size w w3) := B1.out.trans (hb.mono B1.out.size)
  have RX : Hid (Row w3 vx (x.map mkB)) := rx
  obtain ⟨ax, nx, capx, rfl, hnx, hcx, -⟩ := rx
  simp only [List.length_map] at hnx
  have HNX : Hid (nx = x.length ∧ nx ≤ capx) := ⟨hnx, hcx⟩
  clear hb OF hnx hcx
  go_wp2_with fail
  go_must (go_at_call 22)
  refine (OG.out w3).mono ?_
  rintro e w4 ⟨⟨vy, rfl, ry⟩, hb⟩
  replace B1 : Hid (Below w.heap.size w w4) := B1.out.trans (hb.mono B1.out.size)
  replace RX : Hid (Row w4 (.slice ax nx capx) (x.map mkB)) := RX.out.later hb
  have RY : Hid (Row w4 vy (y.map mkB)) := ry
  obtain ⟨ay, ny, capy, rfl, hny, hcy, -⟩ := ry
  simp only [List.length_map] at hny
  clear hb OG
  have HN : Hid (nx = x.length ∧ ny = y.length ∧ nx ≤ capx ∧ ny ≤ capy) := ⟨HNX.out.1, hny, HNX.out.2, hcy⟩
  have hnx := HNX.out.1
  clear hcy HNX
  obtain ⟨N, hN⟩ : ∃ N, max nx ny = N := ⟨_, rfl⟩
  have hmx : max (nx : Int) (ny : Int) = (N : Int) := by omega
  by_cases hlen : (x.length < y.length ∧ ox = false) ∨ (y.length < x.length ∧ oy = false)
  · have HM : Hid (M = false) := HL.out hlen
    clear HL HR HB0
    by_cases h1 : nx < ny
    · have p1 : (nx : Int) < (ny : Int) := by omega
      have p2 : ¬ (ny : Int) < (nx : Int) := by omega
      have hox : ox = false := by
        rcases hlen with h | h
        · exact h.2
        · omega
      subst hox
      clear hlen hN h1 hnx hny
      go_wp2_with fail
      go_ret2
      rw [HM.out]
      exact ⟨⟨_, rfl⟩, B1.out⟩
    · have p1 : ¬ (nx : Int) < (ny : Int) := by omega
      have p2 : (ny : Int) < (nx : Int) := by
        rcases hlen with h | h <;> omega
      have hoy : oy = false := by
        rcases hlen with h | h
        · omega
        · exact h.2
      subst hoy
      clear hlen hN h1 hnx hny
      go_wp2_with fail
      go_ret2
      rw [HM.out]
      exact ⟨⟨_, rfl⟩, B1.out⟩
  have HNN : Hid (max nx ny = N) := hN
  have HOX : Hid (¬ ((x.length < y.length ∧ ox = false) ∨ (y.length < x.length ∧ oy = false))) := hlen
  clear hlen hN hnx hny
  have O0 : Hid (w4.ownsRow w4.heap.size 9 1 (.slice none 0 0) 0 (sv [])) := World.ownsRow_nil _ _ _ _
  have C0 : Hid (∀ k, k < 0 → cAt x y k = ([] : List Bs)[k]?) := fun k hk => absurd hk (by omega)
  have BB0 : Hid (Below w4.heap.size w4 w4) := Below.refl _ _
  have HCX : Hid (∀ w1, Below w4.heap.size w4 w1 → ∀ j a, x[j]? = some a → ∃ g o, ax = some ⟨g, o, none⟩ ∧ w1.cell? ⟨g, o + j, none⟩ = some (.string (mkB a))) := by
    intro w1 hb j a hj
    obtain ⟨a', n', c', hv, _, _, hx⟩ := RX.out
    simp only [Value.slice.injEq] at hv
    obtain ⟨rfl, rfl, rfl⟩ := hv
    have hj' : (x.map mkB)[j]? = some (mkB a) := by rw [List.getElem?_map, hj]; rfl
    obtain ⟨g, o, h1, h2, h3⟩ := hx (by intro h; rw [h] at hj'; simp at hj')
    exact ⟨g, o, h1, (hb.cell (p := ⟨g, o + j, none⟩) h2).trans (h3 j _ hj')⟩
  have HCY : Hid (∀ w1, Below w4.heap.size w4 w1 → ∀ j a, y[j]? = some a → ∃ g o, ay = some ⟨g, o, none⟩ ∧ w1.cell? ⟨g, o + j, none⟩ = some (.string (mkB a))) := by
    intro w1 hb j a hj
    obtain ⟨a', n', c', hv, _, _, hx⟩ := RY.out
    simp only [Value.slice.injEq] at hv
    obtain ⟨rfl, rfl, rfl⟩ := hv
    have hj' : (y.map mkB)[j]? = some (mkB a) := by rw [List.getElem?_map, hj]; rfl
    obtain ⟨g, o, h1, h2, h3⟩ := hx (by intro h; rw [h] at hj'; simp at hj')
    exact ⟨g, o, h1, (hb.cell (p := ⟨g, o + j, none⟩) h2).trans (h3 j _ hj')⟩
  clear RX RY
  by_cases hlt : nx < ny
  · have p1 : (nx : Int) < (ny : Int) := by omega
    have p2 : ¬ (ny : Int) < (nx : Int) := by omega
    have hox : ox = true := by
      rcases Bool.eq_false_or_eq_true ox with h | h
      · exact h
      · exact absurd (.inl ⟨by have := HN.out; omega, h⟩) HOX.out
    clear hlt
    go_wp2_with fail
    go_loopg [10, 11] N (fun gk s10 s11 wx => ∃ (i : Nat) (l : List Bs), i + gk = N ∧ s11 = .int .i64 i ∧ l.length = i ∧ Hid (wx.ownsRow w4.heap.size 9 1 s10 i (sv l)) ∧ Hid (∀ k, k < i → cAt x y k = l[k]?) ∧ Hid (Below w4.heap.size w4 wx))
    case atStart => exact ⟨0, [], by omega, rfl, rfl, O0, C0, BB0⟩
    case round =>
      obtain ⟨i, l, hi2, rfl, hll, HO, HC, HB⟩ := hrel
      cases gk with
      | succ gk =>
        have hiz : (i : Int) < (N : Int) := by omega
        have hi0 : (0 : Int) ≤ (i : Int) := by omega
        have hwi : IntKind.i64.wrap ((i : Int) + 1) = (i : Int) + 1 := by rw [IntKind.wrap_i64]; have := HT.out; have := HN.out; have := HNN.out; omega
        by_cases kx : i < nx
        · have kx' : (i : Int) < (nx : Int) := by omega
          obtain ⟨a, ha⟩ : ∃ a, x[i]? = some a := ⟨_, List.getElem?_eq_getElem (by have := HN.out; omega)⟩
          have HXI : Hid (x[i]? = some a) := ha
          obtain ⟨gx, ogx, hax, hcx⟩ := HCX.out wr HB.out i a ha
          subst hax
          clear ha
          by_cases ky : i < ny
          · have ky' : (i : Int) < (ny : Int) := by omega
            obtain ⟨b, hbb⟩ : ∃ b, y[i]? = some b := ⟨_, List.getElem?_eq_getElem (by have := HN.out; omega)⟩
            have HYI : Hid (y[i]? = some b) := hbb
            obtain ⟨gy, ogy, hay, hcy⟩ := HCY.out wr HB.out i b hbb
            subst hay
            clear hbb
            clear kx ky
            have CE : Hid (bothR (unB (mkB a)) (unB (mkB b)) = cAt x y i) := by show _ = _; unfold cAt; rw [un_mk, un_mk, HXI.out, HYI.out]; rfl
            obtain ⟨oc, hoc⟩ : ∃ oc, cAt x y i = oc := ⟨_, rfl⟩
            have HOC : Hid (cAt x y i = oc) := hoc
            rw [hoc] at CE
            clear hoc
            cases oc with
            | none =>
              have HM : Hid (M = false) := HB0.out i (by have := HN.out; have := HNN.out; omega) HOC.out
              have BA : Hid (∀ w, Calls Try.prog 23 #[.string (mkB a), .string (mkB b)] w fun e w' => e = .returned (.tuple #[.string (bothS (mkB a) (mkB b)), .bool false]) ∧ w' = w) := by
                intro w
                have := both_any (mkB a) (mkB b) w
                rw [CE.out] at this
                exact this
              clear HR HB0 HOC CE
              go_wp2_with fail
              go_must (go_at_call 23)
              refine (BA.out _).mono ?_
              rintro e w5 ⟨rfl, rfl⟩
              go_wp2_with fail
              go_ret2
              rw [HM.out]
              exact ⟨⟨_, rfl⟩, B1.out.trans (HB.out.mono B1.out.size)⟩
            | some c =>
              have BA : Hid (∀ w, Calls Try.prog 23 #[.string (mkB a), .string (mkB b)] w fun e w' => e = .returned (.tuple #[.string (mkB c), .bool true]) ∧ w' = w) := by
                intro w
                have := both_any (mkB a) (mkB b) w
                rw [CE.out, bothS_some CE.out] at this
                exact this
              clear CE
              go_wp2_with fail
              go_must (go_at_call 23)
              refine (BA.out _).mono ?_
              rintro e w5 ⟨rfl, rfl⟩
              clear BA
              go_wp2_with (at_builtin; refine wpList_append_own _ rfl (.tmp 89) (.tmp 91) 27 rfl w4.heap.size 9 i0 (.string ⟨#[]⟩) 1 16 Try.underlying27 hi hz0 hz1 hz2 rfl (by decide) _ _ _ rfl (HO.out.alloc _) ⟨_, 0, none⟩ 1 1 [.string (mkB c)] rfl rfl (cell_one_new _ _ _) (by intro u hu; simp at hu; subst hu; rfl) (by have := HT.out; have := HN.out; have := HNN.out; unfold maxLen; omega) (by have := HT.out; have := HN.out; have := HNN.out; omega) (by have := HB.out.size; simp; omega) ?_)
              intro v2 w6 hown2 hgrow2 hnil2
              have hb2 := (HB.out.alloc HB.out.size _).grown hgrow2 (by have := HB.out.size; simp; omega) (by intro q hq; exact (HO.out.lt _ hq).1)
              have HO2 : Hid (w6.ownsRow w4.heap.size 9 1 v2 (i + 1) (sv (l ++ [c]))) := by
                show World.ownsRow _ _ _ _ _ _ _
                rw [sv_app]
                exact hown2
              have HB2 : Hid (Below w4.heap.size w4 w6) := hb2
              have HC2 : Hid (∀ k, k < i + 1 → cAt x y k = (l ++ [c])[k]?) := by
                intro k hk
                by_cases hki : k < i
                · rw [List.getElem?_append_left (by omega)]
                  exact HC.out k hki
                · obtain rfl : k = i := by omega
                  rw [List.getElem?_append_right (by omega), hll]
                  simp only [Nat.sub_self, List.getElem?_cons_zero]
                  exact HOC.out
              clear hown2 hgrow2 hnil2 hb2 HOC
              go_wp2_with fail
              go_roundg gk
              case measure => omega
              case rel => exact ⟨i + 1, l ++ [c], by omega, by first | rfl | simp, by simp; exact hll, HO2, HC2, HB2⟩
          · have ky' : ¬ (i : Int) < (ny : Int) := by omega
            have HYI : Hid (y[i]? = none) := List.getElem?_eq_none (by have := HN.out; omega)
            exfalso; omega
        · have kx' : ¬ (i : Int) < (nx : Int) := by omega
          have ky : i < ny := by have := HNN.out; omega
          have ky' : (i : Int) < (ny : Int) := by omega
          have HXI : Hid (x[i]? = none) := List.getElem?_eq_none (by have := HN.out; omega)
          obtain ⟨b, hbb⟩ : ∃ b, y[i]? = some b := ⟨_, List.getElem?_eq_getElem (by have := HN.out; omega)⟩
          have HYI : Hid (y[i]? = some b) := hbb
          obtain ⟨gy, ogy, hay, hcy⟩ := HCY.out wr HB.out i b hbb
          subst hay
          clear hbb
          clear kx ky
          have CE : Hid (bothR (unB ⟨#[43]⟩) (unB (mkB b)) = cAt x y i) := by show _ = _; unfold cAt; rw [un_mk, plus_un, HXI.out, HYI.out]; rfl
          obtain ⟨oc, hoc⟩ : ∃ oc, cAt x y i = oc := ⟨_, rfl⟩
          have HOC : Hid (cAt x y i = oc) := hoc
          rw [hoc] at CE
          clear hoc
          cases oc with
          | none =>
            have HM : Hid (M = false) := HB0.out i (by have := HN.out; have := HNN.out; omega) HOC.out
            have BA : Hid (∀ w, Calls Try.prog 23 #[.string ⟨#[43]⟩, .string (mkB b)] w fun e w' => e = .returned (.tuple #[.string (bothS ⟨#[43]⟩ (mkB b)), .bool false]) ∧ w' = w) := by
              intro w
              have := both_any ⟨#[43]⟩ (mkB b) w
              rw [CE.out] at this
              exact this
            clear HR HB0 HOC CE
            go_wp2_with fail
            go_must (go_at_call 23)
            refine (BA.out _).mono ?_
            rintro e w5 ⟨rfl, rfl⟩
            go_wp2_with fail
            go_ret2
            rw [HM.out]
            exact ⟨⟨_, rfl⟩, B1.out.trans (HB.out.mono B1.out.size)⟩
          | some c =>
            have BA : Hid (∀ w, Calls Try.prog 23 #[.string ⟨#[43]⟩, .string (mkB b)] w fun e w' => e = .returned (.tuple #[.string (mkB c), .bool true]) ∧ w' = w) := by
              intro w
              have := both_any ⟨#[43]⟩ (mkB b) w
              rw [CE.out, bothS_some CE.out] at this
              exact this
            clear CE
            go_wp2_with fail
            go_must (go_at_call 23)
            refine (BA.out _).mono ?_
            rintro e w5 ⟨rfl, rfl⟩
            clear BA
            go_wp2_with (at_builtin; refine wpList_append_own _ rfl (.tmp 89) (.tmp 91) 27 rfl w4.heap.size 9 i0 (.string ⟨#[]⟩) 1 16 Try.underlying27 hi hz0 hz1 hz2 rfl (by decide) _ _ _ rfl (HO.out.alloc _) ⟨_, 0, none⟩ 1 1 [.string (mkB c)] rfl rfl (cell_one_new _ _ _) (by intro u hu; simp at hu; subst hu; rfl) (by have := HT.out; have := HN.out; have := HNN.out; unfold maxLen; omega) (by have := HT.out; have := HN.out; have := HNN.out; omega) (by have := HB.out.size; simp; omega) ?_)
            intro v2 w6 hown2 hgrow2 hnil2
            have hb2 := (HB.out.alloc HB.out.size _).grown hgrow2 (by have := HB.out.size; simp; omega) (by intro q hq; exact (HO.out.lt _ hq).1)
            have HO2 : Hid (w6.ownsRow w4.heap.size 9 1 v2 (i + 1) (sv (l ++ [c]))) := by
              show World.ownsRow _ _ _ _ _ _ _
              rw [sv_app]
              exact hown2
            have HB2 : Hid (Below w4.heap.size w4 w6) := hb2
            have HC2 : Hid (∀ k, k < i + 1 → cAt x y k = (l ++ [c])[k]?) := by
              intro k hk
              by_cases hki : k < i
              · rw [List.getElem?_append_left (by omega)]
                exact HC.out k hki
              · obtain rfl : k = i := by omega
                rw [List.getElem?_append_right (by omega), hll]
                simp only [Nat.sub_self, List.getElem?_cons_zero]
                exact HOC.out
            clear hown2 hgrow2 hnil2 hb2 HOC
            go_wp2_with fail
            go_roundg gk
            case measure => omega
            case rel => exact ⟨i + 1, l ++ [c], by omega, by first | rfl | simp, by simp; exact hll, HO2, HC2, HB2⟩
      | zero =>
        have hiz : ¬ (i : Int) < (N : Int) := by omega
        have hiN : i = N := by omega
        have HTL : Hid (tot l ≤ 131072 ∧ l.length ≤ 65536) := by
          have h1 := tot_cat l x y (by have := HN.out; have := HNN.out; omega) (fun k hk => HC.out k (by omega))
          have := HT.out
          have := HN.out
          have := HNN.out
          exact ⟨by omega, by omega⟩
        have HRR : Hid (M = (comB (aliveR (fillR l 1) false) f g || (ox && oy && comB (fillR l 2) f g))) := HR.out l (by have := HN.out; have := HNN.out; omega) (fun k hk => HC.out k (by omega))
        have RL : Hid (Row wr u10 (l.map mkB)) := rows_sv (B := w4.heap.size) (by rw [hll]; exact HO.out)
        have F1 : Hid (Calls Try.prog 26 #[u10, .int .i64 1] wr fun e w' => ∃ v', e = .returned v' ∧ w'.ownsRow wr.heap.size 9 1 v' (fillR l 1).length (sv (fillR l 1)) ∧ Below wr.heap.size wr w') := by
          have := fillR_any (l.map mkB) 1 u10 wr RL.out (by have := HTL.out; simp; omega) (by omega)
          rw [map_un_mk] at this
          exact this
        have HBW : Hid (Below w.heap.size w wr) := B1.out.trans (HB.out.mono B1.out.size)
        obtain ⟨B1v, hB1v⟩ : ∃ b, comB (aliveR (fillR l 1) false) f g = b := ⟨_, rfl⟩
        have C24 : Hid (∀ v w, Row w v ((aliveR (fillR l 1) false).map mkB) → Calls Try.prog 24 #[v, .string f, .string g] w fun e w' => (∃ s, e = .returned (.tuple #[.string s, .bool B1v])) ∧ Below w.heap.size w w') := by
          intro v w R
          rw [← hB1v]
          exact common_ref _ f g v w R (by have h1 := tot_alive (fillR l 1) false; have h2 := tot_fill l 1; have := HTL.out; omega)
        obtain ⟨B2v, hB2v⟩ : ∃ b, comB (fillR l 2) f g = b := ⟨_, rfl⟩
        have C25 : Hid (∀ v w, Row w v ((fillR l 2).map mkB) → Calls Try.prog 24 #[v, .string f, .string g] w fun e w' => (∃ s, e = .returned (.tuple #[.string s, .bool B2v])) ∧ Below w.heap.size w w') := by
          intro v w R
          rw [← hB2v]
          exact common_ref _ f g v w R (by have h2 := tot_fill l 2; have := HTL.out; omega)
        rw [hB1v, hB2v] at HRR
        clear hB1v hB2v HR HB0 HC HO hiN
        go_wp2_with fail
        go_must (go_at_call 26)
        refine F1.out.mono ?_
        rintro e w5 ⟨v5, rfl, ho5, hb5⟩
        have R5 : Hid (Row w5 v5 ((fillR l 1).map mkB)) := rows_sv ho5
        replace HBW : Hid (Below w.heap.size w w5) := HBW.out.trans (hb5.mono HBW.out.size)
        replace RL : Hid (Row w5 u10 (l.map mkB)) := RL.out.later hb5
        clear ho5 hb5 F1
        go_wp2_with fail
        go_must (go_at_call 25)
        refine (alive_any ((fillR l 1).map mkB) v5 false w5 R5.out).mono ?_
        rintro e w6 ⟨⟨v6, rfl, r6⟩, hb6⟩
        have R6 : Hid (Row w6 v6 ((aliveR (fillR l 1) false).map mkB)) := by
          rw [map_un_mk] at r6
          exact r6
        replace HBW : Hid (Below w.heap.size w w6) := HBW.out.trans (hb6.mono HBW.out.size)
        replace RL : Hid (Row w6 u10 (l.map mkB)) := RL.out.later hb6
        clear r6 hb6 R5
        go_wp2_with fail
        go_must (go_at_call 24)
        refine (C24.out v6 w6 R6.out).mono ?_
        rintro e w7 ⟨⟨s7, rfl⟩, hb7⟩
        replace HBW : Hid (Below w.heap.size w w7) := HBW.out.trans (hb7.mono HBW.out.size)
        replace RL : Hid (Row w7 u10 (l.map mkB)) := RL.out.later hb7
        clear hb7 R6 C24
        cases B1v with
        | true =>
          have HM : Hid (M = true) := by show _ = _; rw [HRR.out]; rfl
          clear HRR C25
          go_wp2_with fail
          go_ret2
          rw [HM.out]
          exact ⟨⟨_, rfl⟩, HBW.out⟩
        | false =>
          rcases Bool.eq_false_or_eq_true ox with q1 | q1
          · rcases Bool.eq_false_or_eq_true oy with q2 | q2
            · have HM : Hid (M = B2v) := by show _ = _; rw [HRR.out, q1, q2]; rfl
              have F2 : Hid (Calls Try.prog 26 #[u10, .int .i64 2] w7 fun e w' => ∃ v', e = .returned v' ∧ w'.ownsRow w7.heap.size 9 1 v' (fillR l 2).length (sv (fillR l 2)) ∧ Below w7.heap.size w7 w') := by
                have := fillR_any (l.map mkB) 2 u10 w7 RL.out (by have := HTL.out; simp; omega) (by omega)
                rw [map_un_mk] at this
                exact this
              clear HRR
              go_wp2_with fail
              go_must (go_at_call 26)
              refine F2.out.mono ?_
              rintro e w8 ⟨v8, rfl, ho8, hb8⟩
              have R8 : Hid (Row w8 v8 ((fillR l 2).map mkB)) := rows_sv ho8
              replace HBW : Hid (Below w.heap.size w w8) := HBW.out.trans (hb8.mono HBW.out.size)
              clear ho8 hb8 F2
              go_wp2_with fail
              go_must (go_at_call 24)
              refine (C25.out v8 w8 R8.out).mono ?_
              rintro e w9 ⟨⟨s9, rfl⟩, hb9⟩
              replace HBW : Hid (Below w.heap.size w w9) := HBW.out.trans (hb9.mono HBW.out.size)
              clear hb9
              go_wp2_with fail
              go_ret2
              rw [HM.out]
              exact ⟨⟨_, rfl⟩, HBW.out⟩
            · have HM : Hid (M = false) := by show _ = _; rw [HRR.out, q2]; simp
              clear HRR C25
              go_wp2_with fail
              go_ret2
              rw [HM.out]
              exact ⟨⟨_, rfl⟩, HBW.out⟩
          · exact absurd (hox.symm.trans q1) (by simp)
  · by_cases hgt : ny < nx
    · have p1 : ¬ (nx : Int) < (ny : Int) := by omega
      have p2 : (ny : Int) < (nx : Int) := by omega
      have hoy : oy = true := by
        rcases Bool.eq_false_or_eq_true oy with h | h
        · exact h
        · exact absurd (.inr ⟨by have := HN.out; omega, h⟩) HOX.out
      clear hlt hgt
      go_wp2_with fail
      go_loopg [10, 11] N (fun gk s10 s11 wx => ∃ (i : Nat) (l : List Bs), i + gk = N ∧ s11 = .int .i64 i ∧ l.length = i ∧ Hid (wx.ownsRow w4.heap.size 9 1 s10 i (sv l)) ∧ Hid (∀ k, k < i → cAt x y k = l[k]?) ∧ Hid (Below w4.heap.size w4 wx))
      case atStart => exact ⟨0, [], by omega, rfl, rfl, O0, C0, BB0⟩
      case round =>
        obtain ⟨i, l, hi2, rfl, hll, HO, HC, HB⟩ := hrel
        cases gk with
        | succ gk =>
          have hiz : (i : Int) < (N : Int) := by omega
          have hi0 : (0 : Int) ≤ (i : Int) := by omega
          have hwi : IntKind.i64.wrap ((i : Int) + 1) = (i : Int) + 1 := by rw [IntKind.wrap_i64]; have := HT.out; have := HN.out; have := HNN.out; omega
          by_cases kx : i < nx
          · have kx' : (i : Int) < (nx : Int) := by omega
            obtain ⟨a, ha⟩ : ∃ a, x[i]? = some a := ⟨_, List.getElem?_eq_getElem (by have := HN.out; omega)⟩
            have HXI : Hid (x[i]? = some a) := ha
            obtain ⟨gx, ogx, hax, hcx⟩ := HCX.out wr HB.out i a ha
            subst hax
            clear ha
            by_cases ky : i < ny
            · have ky' : (i : Int) < (ny : Int) := by omega
              obtain ⟨b, hbb⟩ : ∃ b, y[i]? = some b := ⟨_, List.getElem?_eq_getElem (by have := HN.out; omega)⟩
              have HYI : Hid (y[i]? = some b) := hbb
              obtain ⟨gy, ogy, hay, hcy⟩ := HCY.out wr HB.out i b hbb
              subst hay
              clear hbb
              clear kx ky
              have CE : Hid (bothR (unB (mkB a)) (unB (mkB b)) = cAt x y i) := by show _ = _; unfold cAt; rw [un_mk, un_mk, HXI.out, HYI.out]; rfl
              obtain ⟨oc, hoc⟩ : ∃ oc, cAt x y i = oc := ⟨_, rfl⟩
              have HOC : Hid (cAt x y i = oc) := hoc
              rw [hoc] at CE
              clear hoc
              cases oc with
              | none =>
                have HM : Hid (M = false) := HB0.out i (by have := HN.out; have := HNN.out; omega) HOC.out
                have BA : Hid (∀ w, Calls Try.prog 23 #[.string (mkB a), .string (mkB b)] w fun e w' => e = .returned (.tuple #[.string (bothS (mkB a) (mkB b)), .bool false]) ∧ w' = w) := by
                  intro w
                  have := both_any (mkB a) (mkB b) w
                  rw [CE.out] at this
                  exact this
                clear HR HB0 HOC CE
                go_wp2_with fail
                go_must (go_at_call 23)
                refine (BA.out _).mono ?_
                rintro e w5 ⟨rfl, rfl⟩
                go_wp2_with fail
                go_ret2
                rw [HM.out]
                exact ⟨⟨_, rfl⟩, B1.out.trans (HB.out.mono B1.out.size)⟩
              | some c =>
                have BA : Hid (∀ w, Calls Try.prog 23 #[.string (mkB a), .string (mkB b)] w fun e w' => e = .returned (.tuple #[.string (mkB c), .bool true]) ∧ w' = w) := by
                  intro w
                  have := both_any (mkB a) (mkB b) w
                  rw [CE.out, bothS_some CE.out] at this
                  exact this
                clear CE
                go_wp2_with fail
                go_must (go_at_call 23)
                refine (BA.out _).mono ?_
                rintro e w5 ⟨rfl, rfl⟩
                clear BA
                go_wp2_with (at_builtin; refine wpList_append_own _ rfl (.tmp 89) (.tmp 91) 27 rfl w4.heap.size 9 i0 (.string ⟨#[]⟩) 1 16 Try.underlying27 hi hz0 hz1 hz2 rfl (by decide) _ _ _ rfl (HO.out.alloc _) ⟨_, 0, none⟩ 1 1 [.string (mkB c)] rfl rfl (cell_one_new _ _ _) (by intro u hu; simp at hu; subst hu; rfl) (by have := HT.out; have := HN.out; have := HNN.out; unfold maxLen; omega) (by have := HT.out; have := HN.out; have := HNN.out; omega) (by have := HB.out.size; simp; omega) ?_)
                intro v2 w6 hown2 hgrow2 hnil2
                have hb2 := (HB.out.alloc HB.out.size _).grown hgrow2 (by have := HB.out.size; simp; omega) (by intro q hq; exact (HO.out.lt _ hq).1)
                have HO2 : Hid (w6.ownsRow w4.heap.size 9 1 v2 (i + 1) (sv (l ++ [c]))) := by
                  show World.ownsRow _ _ _ _ _ _ _
                  rw [sv_app]
                  exact hown2
                have HB2 : Hid (Below w4.heap.size w4 w6) := hb2
                have HC2 : Hid (∀ k, k < i + 1 → cAt x y k = (l ++ [c])[k]?) := by
                  intro k hk
                  by_cases hki : k < i
                  · rw [List.getElem?_append_left (by omega)]
                    exact HC.out k hki
                  · obtain rfl : k = i := by omega
                    rw [List.getElem?_append_right (by omega), hll]
                    simp only [Nat.sub_self, List.getElem?_cons_zero]
                    exact HOC.out
                clear hown2 hgrow2 hnil2 hb2 HOC
                go_wp2_with fail
                go_roundg gk
                case measure => omega
                case rel => exact ⟨i + 1, l ++ [c], by omega, by first | rfl | simp, by simp; exact hll, HO2, HC2, HB2⟩
            · have ky' : ¬ (i : Int) < (ny : Int) := by omega
              have HYI : Hid (y[i]? = none) := List.getElem?_eq_none (by have := HN.out; omega)
              clear kx ky
              have CE : Hid (bothR (unB (mkB a)) (unB ⟨#[43]⟩) = cAt x y i) := by show _ = _; unfold cAt; rw [un_mk, plus_un, HXI.out, HYI.out]; rfl
              obtain ⟨oc, hoc⟩ : ∃ oc, cAt x y i = oc := ⟨_, rfl⟩
              have HOC : Hid (cAt x y i = oc) := hoc
              rw [hoc] at CE
              clear hoc
              cases oc with
              | none =>
                have HM : Hid (M = false) := HB0.out i (by have := HN.out; have := HNN.out; omega) HOC.out
                have BA : Hid (∀ w, Calls Try.prog 23 #[.string (mkB a), .string ⟨#[43]⟩] w fun e w' => e = .returned (.tuple #[.string (bothS (mkB a) ⟨#[43]⟩), .bool false]) ∧ w' = w) := by
                  intro w
                  have := both_any (mkB a) ⟨#[43]⟩ w
                  rw [CE.out] at this
                  exact this
                clear HR HB0 HOC CE
                go_wp2_with fail
                go_must (go_at_call 23)
                refine (BA.out _).mono ?_
                rintro e w5 ⟨rfl, rfl⟩
                go_wp2_with fail
                go_ret2
                rw [HM.out]
                exact ⟨⟨_, rfl⟩, B1.out.trans (HB.out.mono B1.out.size)⟩
              | some c =>
                have BA : Hid (∀ w, Calls Try.prog 23 #[.string (mkB a), .string ⟨#[43]⟩] w fun e w' => e = .returned (.tuple #[.string (mkB c), .bool true]) ∧ w' = w) := by
                  intro w
                  have := both_any (mkB a) ⟨#[43]⟩ w
                  rw [CE.out, bothS_some CE.out] at this
                  exact this
                clear CE
                go_wp2_with fail
                go_must (go_at_call 23)
                refine (BA.out _).mono ?_
                rintro e w5 ⟨rfl, rfl⟩
                clear BA
                go_wp2_with (at_builtin; refine wpList_append_own _ rfl (.tmp 89) (.tmp 91) 27 rfl w4.heap.size 9 i0 (.string ⟨#[]⟩) 1 16 Try.underlying27 hi hz0 hz1 hz2 rfl (by decide) _ _ _ rfl (HO.out.alloc _) ⟨_, 0, none⟩ 1 1 [.string (mkB c)] rfl rfl (cell_one_new _ _ _) (by intro u hu; simp at hu; subst hu; rfl) (by have := HT.out; have := HN.out; have := HNN.out; unfold maxLen; omega) (by have := HT.out; have := HN.out; have := HNN.out; omega) (by have := HB.out.size; simp; omega) ?_)
                intro v2 w6 hown2 hgrow2 hnil2
                have hb2 := (HB.out.alloc HB.out.size _).grown hgrow2 (by have := HB.out.size; simp; omega) (by intro q hq; exact (HO.out.lt _ hq).1)
                have HO2 : Hid (w6.ownsRow w4.heap.size 9 1 v2 (i + 1) (sv (l ++ [c]))) := by
                  show World.ownsRow _ _ _ _ _ _ _
                  rw [sv_app]
                  exact hown2
                have HB2 : Hid (Below w4.heap.size w4 w6) := hb2
                have HC2 : Hid (∀ k, k < i + 1 → cAt x y k = (l ++ [c])[k]?) := by
                  intro k hk
                  by_cases hki : k < i
                  · rw [List.getElem?_append_left (by omega)]
                    exact HC.out k hki
                  · obtain rfl : k = i := by omega
                    rw [List.getElem?_append_right (by omega), hll]
                    simp only [Nat.sub_self, List.getElem?_cons_zero]
                    exact HOC.out
                clear hown2 hgrow2 hnil2 hb2 HOC
                go_wp2_with fail
                go_roundg gk
                case measure => omega
                case rel => exact ⟨i + 1, l ++ [c], by omega, by first | rfl | simp, by simp; exact hll, HO2, HC2, HB2⟩
          · have kx' : ¬ (i : Int) < (nx : Int) := by omega
            have ky : i < ny := by have := HNN.out; omega
            have ky' : (i : Int) < (ny : Int) := by omega
            have HXI : Hid (x[i]? = none) := List.getElem?_eq_none (by have := HN.out; omega)
            obtain ⟨b, hbb⟩ : ∃ b, y[i]? = some b := ⟨_, List.getElem?_eq_getElem (by have := HN.out; omega)⟩
            have HYI : Hid (y[i]? = some b) := hbb
            obtain ⟨gy, ogy, hay, hcy⟩ := HCY.out wr HB.out i b hbb
            subst hay
            clear hbb
            exfalso; omega
        | zero =>
          have hiz : ¬ (i : Int) < (N : Int) := by omega
          have hiN : i = N := by omega
          have HTL : Hid (tot l ≤ 131072 ∧ l.length ≤ 65536) := by
            have h1 := tot_cat l x y (by have := HN.out; have := HNN.out; omega) (fun k hk => HC.out k (by omega))
            have := HT.out
            have := HN.out
            have := HNN.out
            exact ⟨by omega, by omega⟩
          have HRR : Hid (M = (comB (aliveR (fillR l 1) false) f g || (ox && oy && comB (fillR l 2) f g))) := HR.out l (by have := HN.out; have := HNN.out; omega) (fun k hk => HC.out k (by omega))
          have RL : Hid (Row wr u10 (l.map mkB)) := rows_sv (B := w4.heap.size) (by rw [hll]; exact HO.out)
          have F1 : Hid (Calls Try.prog 26 #[u10, .int .i64 1] wr fun e w' => ∃ v', e = .returned v' ∧ w'.ownsRow wr.heap.size 9 1 v' (fillR l 1).length (sv (fillR l 1)) ∧ Below wr.heap.size wr w') := by
            have := fillR_any (l.map mkB) 1 u10 wr RL.out (by have := HTL.out; simp; omega) (by omega)
            rw [map_un_mk] at this
            exact this
          have HBW : Hid (Below w.heap.size w wr) := B1.out.trans (HB.out.mono B1.out.size)
          obtain ⟨B1v, hB1v⟩ : ∃ b, comB (aliveR (fillR l 1) false) f g = b := ⟨_, rfl⟩
          have C24 : Hid (∀ v w, Row w v ((aliveR (fillR l 1) false).map mkB) → Calls Try.prog 24 #[v, .string f, .string g] w fun e w' => (∃ s, e = .returned (.tuple #[.string s, .bool B1v])) ∧ Below w.heap.size w w') := by
            intro v w R
            rw [← hB1v]
            exact common_ref _ f g v w R (by have h1 := tot_alive (fillR l 1) false; have h2 := tot_fill l 1; have := HTL.out; omega)
          obtain ⟨B2v, hB2v⟩ : ∃ b, comB (fillR l 2) f g = b := ⟨_, rfl⟩
          have C25 : Hid (∀ v w, Row w v ((fillR l 2).map mkB) → Calls Try.prog 24 #[v, .string f, .string g] w fun e w' => (∃ s, e = .returned (.tuple #[.string s, .bool B2v])) ∧ Below w.heap.size w w') := by
            intro v w R
            rw [← hB2v]
            exact common_ref _ f g v w R (by have h2 := tot_fill l 2; have := HTL.out; omega)
          rw [hB1v, hB2v] at HRR
          clear hB1v hB2v HR HB0 HC HO hiN
          go_wp2_with fail
          go_must (go_at_call 26)
          refine F1.out.mono ?_
          rintro e w5 ⟨v5, rfl, ho5, hb5⟩
          have R5 : Hid (Row w5 v5 ((fillR l 1).map mkB)) := rows_sv ho5
          replace HBW : Hid (Below w.heap.size w w5) := HBW.out.trans (hb5.mono HBW.out.size)
          replace RL : Hid (Row w5 u10 (l.map mkB)) := RL.out.later hb5
          clear ho5 hb5 F1
          go_wp2_with fail
          go_must (go_at_call 25)
          refine (alive_any ((fillR l 1).map mkB) v5 false w5 R5.out).mono ?_
          rintro e w6 ⟨⟨v6, rfl, r6⟩, hb6⟩
          have R6 : Hid (Row w6 v6 ((aliveR (fillR l 1) false).map mkB)) := by
            rw [map_un_mk] at r6
            exact r6
          replace HBW : Hid (Below w.heap.size w w6) := HBW.out.trans (hb6.mono HBW.out.size)
          replace RL : Hid (Row w6 u10 (l.map mkB)) := RL.out.later hb6
          clear r6 hb6 R5
          go_wp2_with fail
          go_must (go_at_call 24)
          refine (C24.out v6 w6 R6.out).mono ?_
          rintro e w7 ⟨⟨s7, rfl⟩, hb7⟩
          replace HBW : Hid (Below w.heap.size w w7) := HBW.out.trans (hb7.mono HBW.out.size)
          replace RL : Hid (Row w7 u10 (l.map mkB)) := RL.out.later hb7
          clear hb7 R6 C24
          cases B1v with
          | true =>
            have HM : Hid (M = true) := by show _ = _; rw [HRR.out]; rfl
            clear HRR C25
            go_wp2_with fail
            go_ret2
            rw [HM.out]
            exact ⟨⟨_, rfl⟩, HBW.out⟩
          | false =>
            rcases Bool.eq_false_or_eq_true ox with q1 | q1
            · rcases Bool.eq_false_or_eq_true oy with q2 | q2
              · have HM : Hid (M = B2v) := by show _ = _; rw [HRR.out, q1, q2]; rfl
                have F2 : Hid (Calls Try.prog 26 #[u10, .int .i64 2] w7 fun e w' => ∃ v', e = .returned v' ∧ w'.ownsRow w7.heap.size 9 1 v' (fillR l 2).length (sv (fillR l 2)) ∧ Below w7.heap.size w7 w') := by
                  have := fillR_any (l.map mkB) 2 u10 w7 RL.out (by have := HTL.out; simp; omega) (by omega)
                  rw [map_un_mk] at this
                  exact this
                clear HRR
                go_wp2_with fail
                go_must (go_at_call 26)
                refine F2.out.mono ?_
                rintro e w8 ⟨v8, rfl, ho8, hb8⟩
                have R8 : Hid (Row w8 v8 ((fillR l 2).map mkB)) := rows_sv ho8
                replace HBW : Hid (Below w.heap.size w w8) := HBW.out.trans (hb8.mono HBW.out.size)
                clear ho8 hb8 F2
                go_wp2_with fail
                go_must (go_at_call 24)
                refine (C25.out v8 w8 R8.out).mono ?_
                rintro e w9 ⟨⟨s9, rfl⟩, hb9⟩
                replace HBW : Hid (Below w.heap.size w w9) := HBW.out.trans (hb9.mono HBW.out.size)
                clear hb9
                go_wp2_with fail
                go_ret2
                rw [HM.out]
                exact ⟨⟨_, rfl⟩, HBW.out⟩
              · exact absurd (hoy.symm.trans q2) (by simp)
            · have HM : Hid (M = false) := by show _ = _; rw [HRR.out, q1]; simp
              clear HRR C25
              go_wp2_with fail
              go_ret2
              rw [HM.out]
              exact ⟨⟨_, rfl⟩, HBW.out⟩
    · have p1 : ¬ (nx : Int) < (ny : Int) := by omega
      have p2 : ¬ (ny : Int) < (nx : Int) := by omega
      clear hlt hgt
      go_wp2_with fail
      go_loopg [10, 11] N (fun gk s10 s11 wx => ∃ (i : Nat) (l : List Bs), i + gk = N ∧ s11 = .int .i64 i ∧ l.length = i ∧ Hid (wx.ownsRow w4.heap.size 9 1 s10 i (sv l)) ∧ Hid (∀ k, k < i → cAt x y k = l[k]?) ∧ Hid (Below w4.heap.size w4 wx))
      case atStart => exact ⟨0, [], by omega, rfl, rfl, O0, C0, BB0⟩
      case round =>
        obtain ⟨i, l, hi2, rfl, hll, HO, HC, HB⟩ := hrel
        cases gk with
        | succ gk =>
          have hiz : (i : Int) < (N : Int) := by omega
          have hi0 : (0 : Int) ≤ (i : Int) := by omega
          have hwi : IntKind.i64.wrap ((i : Int) + 1) = (i : Int) + 1 := by rw [IntKind.wrap_i64]; have := HT.out; have := HN.out; have := HNN.out; omega
          by_cases kx : i < nx
          · have kx' : (i : Int) < (nx : Int) := by omega
            obtain ⟨a, ha⟩ : ∃ a, x[i]? = some a := ⟨_, List.getElem?_eq_getElem (by have := HN.out; omega)⟩
            have HXI : Hid (x[i]? = some a) := ha
            obtain ⟨gx, ogx, hax, hcx⟩ := HCX.out wr HB.out i a ha
            subst hax
            clear ha
            by_cases ky : i < ny
            · have ky' : (i : Int) < (ny : Int) := by omega
              obtain ⟨b, hbb⟩ : ∃ b, y[i]? = some b := ⟨_, List.getElem?_eq_getElem (by have := HN.out; omega)⟩
              have HYI : Hid (y[i]? = some b) := hbb
              obtain ⟨gy, ogy, hay, hcy⟩ := HCY.out wr HB.out i b hbb
              subst hay
              clear hbb
              clear kx ky
              have CE : Hid (bothR (unB (mkB a)) (unB (mkB b)) = cAt x y i) := by show _ = _; unfold cAt; rw [un_mk, un_mk, HXI.out, HYI.out]; rfl
              obtain ⟨oc, hoc⟩ : ∃ oc, cAt x y i = oc := ⟨_, rfl⟩
              have HOC : Hid (cAt x y i = oc) := hoc
              rw [hoc] at CE
              clear hoc
              cases oc with
              | none =>
                have HM : Hid (M = false) := HB0.out i (by have := HN.out; have := HNN.out; omega) HOC.out
                have BA : Hid (∀ w, Calls Try.prog 23 #[.string (mkB a), .string (mkB b)] w fun e w' => e = .returned (.tuple #[.string (bothS (mkB a) (mkB b)), .bool false]) ∧ w' = w) := by
                  intro w
                  have := both_any (mkB a) (mkB b) w
                  rw [CE.out] at this
                  exact this
                clear HR HB0 HOC CE
                go_wp2_with fail
                go_must (go_at_call 23)
                refine (BA.out _).mono ?_
                rintro e w5 ⟨rfl, rfl⟩
                go_wp2_with fail
                go_ret2
                rw [HM.out]
                exact ⟨⟨_, rfl⟩, B1.out.trans (HB.out.mono B1.out.size)⟩
              | some c =>
                have BA : Hid (∀ w, Calls Try.prog 23 #[.string (mkB a), .string (mkB b)] w fun e w' => e = .returned (.tuple #[.string (mkB c), .bool true]) ∧ w' = w) := by
                  intro w
                  have := both_any (mkB a) (mkB b) w
                  rw [CE.out, bothS_some CE.out] at this
                  exact this
                clear CE
                go_wp2_with fail
                go_must (go_at_call 23)
                refine (BA.out _).mono ?_
                rintro e w5 ⟨rfl, rfl⟩
                clear BA
                go_wp2_with (at_builtin; refine wpList_append_own _ rfl (.tmp 89) (.tmp 91) 27 rfl w4.heap.size 9 i0 (.string ⟨#[]⟩) 1 16 Try.underlying27 hi hz0 hz1 hz2 rfl (by decide) _ _ _ rfl (HO.out.alloc _) ⟨_, 0, none⟩ 1 1 [.string (mkB c)] rfl rfl (cell_one_new _ _ _) (by intro u hu; simp at hu; subst hu; rfl) (by have := HT.out; have := HN.out; have := HNN.out; unfold maxLen; omega) (by have := HT.out; have := HN.out; have := HNN.out; omega) (by have := HB.out.size; simp; omega) ?_)
                intro v2 w6 hown2 hgrow2 hnil2
                have hb2 := (HB.out.alloc HB.out.size _).grown hgrow2 (by have := HB.out.size; simp; omega) (by intro q hq; exact (HO.out.lt _ hq).1)
                have HO2 : Hid (w6.ownsRow w4.heap.size 9 1 v2 (i + 1) (sv (l ++ [c]))) := by
                  show World.ownsRow _ _ _ _ _ _ _
                  rw [sv_app]
                  exact hown2
                have HB2 : Hid (Below w4.heap.size w4 w6) := hb2
                have HC2 : Hid (∀ k, k < i + 1 → cAt x y k = (l ++ [c])[k]?) := by
                  intro k hk
                  by_cases hki : k < i
                  · rw [List.getElem?_append_left (by omega)]
                    exact HC.out k hki
                  · obtain rfl : k = i := by omega
                    rw [List.getElem?_append_right (by omega), hll]
                    simp only [Nat.sub_self, List.getElem?_cons_zero]
                    exact HOC.out
                clear hown2 hgrow2 hnil2 hb2 HOC
                go_wp2_with fail
                go_roundg gk
                case measure => omega
                case rel => exact ⟨i + 1, l ++ [c], by omega, by first | rfl | simp, by simp; exact hll, HO2, HC2, HB2⟩
            · have ky' : ¬ (i : Int) < (ny : Int) := by omega
              have HYI : Hid (y[i]? = none) := List.getElem?_eq_none (by have := HN.out; omega)
              exfalso; omega
          · have kx' : ¬ (i : Int) < (nx : Int) := by omega
            have ky : i < ny := by have := HNN.out; omega
            have ky' : (i : Int) < (ny : Int) := by omega
            have HXI : Hid (x[i]? = none) := List.getElem?_eq_none (by have := HN.out; omega)
            obtain ⟨b, hbb⟩ : ∃ b, y[i]? = some b := ⟨_, List.getElem?_eq_getElem (by have := HN.out; omega)⟩
            have HYI : Hid (y[i]? = some b) := hbb
            obtain ⟨gy, ogy, hay, hcy⟩ := HCY.out wr HB.out i b hbb
            subst hay
            clear hbb
            exfalso; omega
        | zero =>
          have hiz : ¬ (i : Int) < (N : Int) := by omega
          have hiN : i = N := by omega
          have HTL : Hid (tot l ≤ 131072 ∧ l.length ≤ 65536) := by
            have h1 := tot_cat l x y (by have := HN.out; have := HNN.out; omega) (fun k hk => HC.out k (by omega))
            have := HT.out
            have := HN.out
            have := HNN.out
            exact ⟨by omega, by omega⟩
          have HRR : Hid (M = (comB (aliveR (fillR l 1) false) f g || (ox && oy && comB (fillR l 2) f g))) := HR.out l (by have := HN.out; have := HNN.out; omega) (fun k hk => HC.out k (by omega))
          have RL : Hid (Row wr u10 (l.map mkB)) := rows_sv (B := w4.heap.size) (by rw [hll]; exact HO.out)
          have F1 : Hid (Calls Try.prog 26 #[u10, .int .i64 1] wr fun e w' => ∃ v', e = .returned v' ∧ w'.ownsRow wr.heap.size 9 1 v' (fillR l 1).length (sv (fillR l 1)) ∧ Below wr.heap.size wr w') := by
            have := fillR_any (l.map mkB) 1 u10 wr RL.out (by have := HTL.out; simp; omega) (by omega)
            rw [map_un_mk] at this
            exact this
          have HBW : Hid (Below w.heap.size w wr) := B1.out.trans (HB.out.mono B1.out.size)
          obtain ⟨B1v, hB1v⟩ : ∃ b, comB (aliveR (fillR l 1) false) f g = b := ⟨_, rfl⟩
          have C24 : Hid (∀ v w, Row w v ((aliveR (fillR l 1) false).map mkB) → Calls Try.prog 24 #[v, .string f, .string g] w fun e w' => (∃ s, e = .returned (.tuple #[.string s, .bool B1v])) ∧ Below w.heap.size w w') := by
            intro v w R
            rw [← hB1v]
            exact common_ref _ f g v w R (by have h1 := tot_alive (fillR l 1) false; have h2 := tot_fill l 1; have := HTL.out; omega)
          obtain ⟨B2v, hB2v⟩ : ∃ b, comB (fillR l 2) f g = b := ⟨_, rfl⟩
          have C25 : Hid (∀ v w, Row w v ((fillR l 2).map mkB) → Calls Try.prog 24 #[v, .string f, .string g] w fun e w' => (∃ s, e = .returned (.tuple #[.string s, .bool B2v])) ∧ Below w.heap.size w w') := by
            intro v w R
            rw [← hB2v]
            exact common_ref _ f g v w R (by have h2 := tot_fill l 2; have := HTL.out; omega)
          rw [hB1v, hB2v] at HRR
          clear hB1v hB2v HR HB0 HC HO hiN
          go_wp2_with fail
          go_must (go_at_call 26)
          refine F1.out.mono ?_
          rintro e w5 ⟨v5, rfl, ho5, hb5⟩
          have R5 : Hid (Row w5 v5 ((fillR l 1).map mkB)) := rows_sv ho5
          replace HBW : Hid (Below w.heap.size w w5) := HBW.out.trans (hb5.mono HBW.out.size)
          replace RL : Hid (Row w5 u10 (l.map mkB)) := RL.out.later hb5
          clear ho5 hb5 F1
          go_wp2_with fail
          go_must (go_at_call 25)
          refine (alive_any ((fillR l 1).map mkB) v5 false w5 R5.out).mono ?_
          rintro e w6 ⟨⟨v6, rfl, r6⟩, hb6⟩
          have R6 : Hid (Row w6 v6 ((aliveR (fillR l 1) false).map mkB)) := by
            rw [map_un_mk] at r6
            exact r6
          replace HBW : Hid (Below w.heap.size w w6) := HBW.out.trans (hb6.mono HBW.out.size)
          replace RL : Hid (Row w6 u10 (l.map mkB)) := RL.out.later hb6
          clear r6 hb6 R5
          go_wp2_with fail
          go_must (go_at_call 24)
          refine (C24.out v6 w6 R6.out).mono ?_
          rintro e w7 ⟨⟨s7, rfl⟩, hb7⟩
          replace HBW : Hid (Below w.heap.size w w7) := HBW.out.trans (hb7.mono HBW.out.size)
          replace RL : Hid (Row w7 u10 (l.map mkB)) := RL.out.later hb7
          clear hb7 R6 C24
          cases B1v with
          | true =>
            have HM : Hid (M = true) := by show _ = _; rw [HRR.out]; rfl
            clear HRR C25
            go_wp2_with fail
            go_ret2
            rw [HM.out]
            exact ⟨⟨_, rfl⟩, HBW.out⟩
          | false =>
            rcases Bool.eq_false_or_eq_true ox with q1 | q1
            · rcases Bool.eq_false_or_eq_true oy with q2 | q2
              · have HM : Hid (M = B2v) := by show _ = _; rw [HRR.out, q1, q2]; rfl
                have F2 : Hid (Calls Try.prog 26 #[u10, .int .i64 2] w7 fun e w' => ∃ v', e = .returned v' ∧ w'.ownsRow w7.heap.size 9 1 v' (fillR l 2).length (sv (fillR l 2)) ∧ Below w7.heap.size w7 w') := by
                  have := fillR_any (l.map mkB) 2 u10 w7 RL.out (by have := HTL.out; simp; omega) (by omega)
                  rw [map_un_mk] at this
                  exact this
                clear HRR
                go_wp2_with fail
                go_must (go_at_call 26)
                refine F2.out.mono ?_
                rintro e w8 ⟨v8, rfl, ho8, hb8⟩
                have R8 : Hid (Row w8 v8 ((fillR l 2).map mkB)) := rows_sv ho8
                replace HBW : Hid (Below w.heap.size w w8) := HBW.out.trans (hb8.mono HBW.out.size)
                clear ho8 hb8 F2
                go_wp2_with fail
                go_must (go_at_call 24)
                refine (C25.out v8 w8 R8.out).mono ?_
                rintro e w9 ⟨⟨s9, rfl⟩, hb9⟩
                replace HBW : Hid (Below w.heap.size w w9) := HBW.out.trans (hb9.mono HBW.out.size)
                clear hb9
                go_wp2_with fail
                go_ret2
                rw [HM.out]
                exact ⟨⟨_, rfl⟩, HBW.out⟩
              · have HM : Hid (M = false) := by show _ = _; rw [HRR.out, q2]; simp
                clear HRR C25
                go_wp2_with fail
                go_ret2
                rw [HM.out]
                exact ⟨⟨_, rfl⟩, HBW.out⟩
            · have HM : Hid (M = false) := by show _ = _; rw [HRR.out, q1]; simp
              clear HRR C25
              go_wp2_with fail
              go_ret2
              rw [HM.out]
              exact ⟨⟨_, rfl⟩, HBW.out⟩
end Go.Proofs.Ytglnldopnoafoaa
