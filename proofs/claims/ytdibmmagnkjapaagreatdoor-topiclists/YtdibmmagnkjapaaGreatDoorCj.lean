import Derived.Test.YtdibmmagnkjapaaGreatDoorCmj
namespace Go.Proofs.YtdibmmagnkjapaaGreatDoor
open Go Go.RowKit
set_option linter.unusedSimpArgs false
set_option linter.unusedVariables false

theorem cmpV_drop (X Y : List Bs) (i : Nat) (x y : Bs) (h1 : X[i]? = some x) (h2 : Y[i]? = some y) : cmpV (X.drop i) (Y.drop i) = (if x = y then cmpV (X.drop (i + 1)) (Y.drop (i + 1)) else if ltL x y then -1 else 1) := by
  obtain ⟨hi, e⟩ := List.getElem?_eq_some_iff.1 h1
  obtain ⟨hj, e'⟩ := List.getElem?_eq_some_iff.1 h2
  rw [List.drop_eq_getElem_cons hi, List.drop_eq_getElem_cons hj, e, e']
  rfl
theorem cmpV_end (X Y : List Bs) (i : Nat) (h1 : i ≤ X.length) (h2 : i ≤ Y.length) (h : i = X.length ∨ i = Y.length) : cmpV (X.drop i) (Y.drop i) = (if X.length < Y.length then -1 else if Y.length < X.length then 1 else 0) := by
  by_cases e1 : i = X.length
  · by_cases e2 : i = Y.length
    · rw [List.drop_eq_nil_of_le (by omega), List.drop_eq_nil_of_le (by omega), if_neg (by omega), if_neg (by omega)]; rfl
    · rw [List.drop_eq_nil_of_le (by omega), if_pos (by omega)]
      cases hd : List.drop i Y with
      | nil => have := congrArg List.length hd; simp at this; omega
      | cons a b => rfl
  · have e2 : i = Y.length := by omega
    rw [show List.drop i Y = [] from List.drop_eq_nil_of_le (by omega), if_neg (by omega), if_pos (by omega)]
    cases hd : List.drop i X with
    | nil => have := congrArg List.length hd; simp at this; omega
    | cons a b => rfl

theorem less_ltL : ∀ (a b : Bs), Op.bytesLess a b = ltL a b
  | [], [] => rfl
  | [], _ :: _ => rfl
  | _ :: _, [] => rfl
  | a :: l, b :: r => by
    unfold Op.bytesLess ltL
    by_cases h : a = b
    · subst h
      rw [if_pos rfl]
      simp
      exact less_ltL l r
    · rw [if_neg h]
      have hn : ¬ a.toNat = b.toNat := fun e => h (UInt8.toNat_inj.1 e)
      simp [UInt8.lt_iff_toNat_lt, h]
theorem less_un (f t : ByteArray) : Op.bytesLess f.toList t.toList = ltL (unB f) (unB t) := by rw [un_list, un_list, less_ltL]
theorem ltL_irr : ∀ (a : Bs), ltL a a = false
  | [] => rfl
  | a :: l => by simp only [ltL, if_true]; exact ltL_irr l
theorem ltL_tri : ∀ (a b : Bs), ¬ a = b → ltL b a = !ltL a b
  | [], [], h => absurd rfl h
  | [], _ :: _, _ => rfl
  | _ :: _, [], _ => rfl
  | a :: l, b :: r, h => by
    unfold ltL
    by_cases e : a = b
    · subst e
      simp only [if_true]
      exact ltL_tri l r (fun e => h (by rw [e]))
    · have e' : ¬ b = a := fun x => e x.symm
      have hn : ¬ a.toNat = b.toNat := fun x => e (UInt8.toNat_inj.1 x)
      rw [if_neg e, if_neg e']
      by_cases hl : a.toNat < b.toNat
      · rw [decide_eq_true hl, decide_eq_false (by omega)]; rfl
      · rw [decide_eq_false hl, decide_eq_true (by omega)]; rfl

set_option maxRecDepth 100000 in
set_option maxHeartbeats 2000000 in
theorem rcompare_any (a b : ByteArray) (ha : a.size ≤ 1000000) (hb : b.size ≤ 1000000) (w : World) : Calls Tryz.prog 54 #[.string a, .string b] w fun e w' => e = .returned (.int .i64 (cmpL (unB a) (unB b))) ∧ Below w.heap.size w w' := by
  obtain ⟨x, hx⟩ : ∃ x, x = cmpL (unB a) (unB b) := ⟨_, rfl⟩
  rw [← hx]
  have HX : Hid (x = cmpV (((levels a).map unB).drop 0) (((levels b).map unB).drop 0)) := by show _ = _; rw [hx, levels_split, levels_split, ← cmpV_split]; rfl
  have HS : Hid (a.size ≤ 1000000 ∧ b.size ≤ 1000000) := ⟨ha, hb⟩
  clear hx ha hb
  go_enter Tryz.func54, Tryz.ntmps54
  go_wp2_with fail
  go_must (go_at_call 5)
  refine (rlevels_row a HS.out.1 _).mono ?_
  rintro e w1 ⟨v1, rfl, R1, b1⟩
  have B1 : Hid (Below w.heap.size w w1) := b1
  have H1 : Hid (Row w1 v1 (levels a)) := R1
  clear b1 R1
  go_wp2_with fail
  go_must (go_at_call 5)
  refine (rlevels_row b HS.out.2 _).mono ?_
  rintro e w2 ⟨v2, rfl, R2, b2⟩
  have B2 : Hid (Below w.heap.size w w2) := B1.out.trans (b2.mono B1.out.size)
  have R1 := H1.out.later b2
  have HLa : Hid ((levels a).length ≤ 1000001 ∧ (levels b).length ≤ 1000001) := ⟨Nat.le_trans (levels_len a) (by have := HS.out; omega), Nat.le_trans (levels_len b) (by have := HS.out; omega)⟩
  obtain ⟨xs, hxs⟩ : ∃ xs, xs = levels a := ⟨_, rfl⟩
  obtain ⟨ys, hys⟩ : ∃ ys, ys = levels b := ⟨_, rfl⟩
  rw [← hxs, ← hys] at HX HLa
  rw [← hxs] at R1
  rw [← hys] at R2
  obtain ⟨a1, n1, cap1, rfl, hn1, hc1, hx1⟩ := R1
  obtain ⟨a2, n2, cap2, rfl, hn2, hc2, hx2⟩ := R2
  have HN : Hid (n1 = xs.length ∧ n2 = ys.length ∧ n1 ≤ cap1 ∧ n2 ≤ cap2 ∧ xs.length ≤ 1000001) := ⟨hn1, hn2, hc1, hc2, HLa.out.1⟩
  have HA : Hid (xs ≠ [] → ∃ g o, a1 = some ⟨g, o, none⟩ ∧ g < w2.heap.size ∧ ∀ k x, xs[k]? = some x → w2.cell? ⟨g, o + k, none⟩ = some (.string x)) := hx1
  have HB : Hid (ys ≠ [] → ∃ g o, a2 = some ⟨g, o, none⟩ ∧ g < w2.heap.size ∧ ∀ k x, ys[k]? = some x → w2.cell? ⟨g, o + k, none⟩ = some (.string x)) := hx2
  clear hn1 hc1 hx1 hn2 hc2 hx2 HLa H1 B1 b2 hxs hys
  go_wp2_with fail
  go_loopg [7] n1 (fun gg s7 wx => ∃ k : Nat, k ≤ n1 ∧ gg = n1 - k ∧ s7 = .int .i64 k ∧ Hid (Below w2.heap.size w2 wx) ∧ Hid (x = cmpV ((xs.map unB).drop k) ((ys.map unB).drop k)) ∧ Hid (k ≤ n2))
  case atStart => exact ⟨0, Nat.zero_le _, rfl, rfl, Below.refl _ _, HX, Nat.zero_le _⟩
  case round =>
    obtain ⟨k, hk, rfl, rfl, B, HE, HK⟩ := hrel
    by_cases hlt : k < n1
    · have hlt' : (k : Int) < n1 := by omega
      by_cases hlt2 : k < n2
      · have hlt2' : (k : Int) < n2 := by omega
        obtain ⟨f, hf⟩ : ∃ f, xs[k]? = some f := ⟨_, List.getElem?_eq_getElem (by have := HN.out.1; omega)⟩
        obtain ⟨t, ht⟩ : ∃ t, ys[k]? = some t := ⟨_, List.getElem?_eq_getElem (by have := HN.out.2.1; omega)⟩
        obtain ⟨g, o, rfl, hg, hcells⟩ := HA.out (fun e => by rw [e] at hf; simp at hf)
        obtain ⟨g2, o2, rfl, hg2, hcells2⟩ := HB.out (fun e => by rw [e] at ht; simp at ht)
        have c1 : wr.cell? ⟨g, o + k, none⟩ = some (.string f) := by rw [B.out.cell (by exact hg)]; exact hcells k f hf
        have c2 : wr.cell? ⟨g2, o2 + k, none⟩ = some (.string t) := by rw [B.out.cell (by exact hg2)]; exact hcells2 k t ht
        have hcap := HN.out.2.2.1
        have hcap2 := HN.out.2.2.2.1
        have HS2 : Hid (x = (if unB f = unB t then cmpV ((xs.map unB).drop (k + 1)) ((ys.map unB).drop (k + 1)) else if ltL (unB f) (unB t) then -1 else 1)) := by
          show _ = _
          rw [HE.out, cmpV_drop _ _ k (unB f) (unB t) (by rw [List.getElem?_map, hf]; rfl) (by rw [List.getElem?_map, ht]; rfl)]
        have hw : IntKind.i64.wrap ((k : Int) + 1) = (k : Int) + 1 := by rw [IntKind.wrap_i64]; have := HN.out; omega
        clear hcells hcells2 hf ht hg hg2 HE
        by_cases hne : unB f = unB t
        · have l1 : Op.bytesLess f.toList t.toList = false := by rw [less_un, hne]; exact ltL_irr _
          have l2 : Op.bytesLess t.toList f.toList = false := by rw [less_un, hne]; exact ltL_irr _
          have HS3 : Hid (x = cmpV ((xs.map unB).drop (k + 1)) ((ys.map unB).drop (k + 1))) := by show _ = _; rw [HS2.out, if_pos hne]
          have HK2 : Hid (k + 1 ≤ n2) := by show _ ≤ _; omega
          clear hne HS2
          go_wp2_with fail
          go_quiet (fail)
          obtain ⟨w3, hw3⟩ : ∃ w3, w3 = wr.drewN nq := ⟨_, rfl⟩
          have c3 : w3.cell? ⟨g, o + k, none⟩ = some (.string f) := by rw [hw3]; exact c1
          have c4 : w3.cell? ⟨g2, o2 + k, none⟩ = some (.string t) := by rw [hw3]; exact c2
          have B3 : Hid (Below w2.heap.size w2 w3) := by show Below _ _ _; rw [hw3]; exact below_drewN B.out nq
          rw [← hw3]
          clear hw3 c1 c2
          go_wp2_with fail
          go_quiet (fail)
          obtain ⟨w4, hw4⟩ : ∃ w4, w4 = w3.drewN nq := ⟨_, rfl⟩
          have B4 : Hid (Below w2.heap.size w2 w4) := by show Below _ _ _; rw [hw4]; exact below_drewN B3.out nq
          rw [← hw4]
          clear hw4
          go_wp2_with fail
          go_roundg (n1 - (k + 1))
          case measure => omega
          case rel => exact ⟨k + 1, by omega, by omega, by first | rfl | simp, B4, HS3, HK2⟩
        · have ht := ltL_tri _ _ hne
          cases hl : ltL (unB f) (unB t) with
          | true =>
            have l1 : Op.bytesLess f.toList t.toList = true := by rw [less_un, hl]
            have HR : Hid (x = -1) := by show _ = _; rw [HS2.out, if_neg hne, hl]; rfl
            clear hne HS2 ht hl
            go_wp2_with fail
            go_quiet (fail)
            obtain ⟨w3, hw3⟩ : ∃ w3, w3 = wr.drewN nq := ⟨_, rfl⟩
            have c3 : w3.cell? ⟨g, o + k, none⟩ = some (.string f) := by rw [hw3]; exact c1
            have c4 : w3.cell? ⟨g2, o2 + k, none⟩ = some (.string t) := by rw [hw3]; exact c2
            have B3 : Hid (Below w2.heap.size w2 w3) := by show Below _ _ _; rw [hw3]; exact below_drewN B.out nq
            rw [← hw3]
            clear hw3 c1 c2
            go_wp2_with fail
            go_ret
            exact ⟨by rw [HR.out]; rfl, B2.out.trans (B3.out.mono B2.out.size)⟩
          | false =>
            rw [hl] at ht
            have l1 : Op.bytesLess f.toList t.toList = false := by rw [less_un, hl]
            have l2 : Op.bytesLess t.toList f.toList = true := by rw [less_un, ht]; rfl
            have HR : Hid (x = 1) := by show _ = _; rw [HS2.out, if_neg hne, hl]; rfl
            clear hne HS2 ht hl
            go_wp2_with fail
            go_quiet (fail)
            obtain ⟨w3, hw3⟩ : ∃ w3, w3 = wr.drewN nq := ⟨_, rfl⟩
            have c3 : w3.cell? ⟨g, o + k, none⟩ = some (.string f) := by rw [hw3]; exact c1
            have c4 : w3.cell? ⟨g2, o2 + k, none⟩ = some (.string t) := by rw [hw3]; exact c2
            have B3 : Hid (Below w2.heap.size w2 w3) := by show Below _ _ _; rw [hw3]; exact below_drewN B.out nq
            rw [← hw3]
            clear hw3 c1 c2
            go_wp2_with fail
            go_quiet (fail)
            obtain ⟨w4, hw4⟩ : ∃ w4, w4 = w3.drewN nq := ⟨_, rfl⟩
            have B4 : Hid (Below w2.heap.size w2 w4) := by show Below _ _ _; rw [hw4]; exact below_drewN B3.out nq
            rw [← hw4]
            clear hw4
            go_wp2_with fail
            go_ret
            exact ⟨by rw [HR.out]; rfl, B2.out.trans (B4.out.mono B2.out.size)⟩
      · have hlt2' : ¬ (k : Int) < n2 := by omega
        have hkn : k = n2 := by have := HK.out; omega
        have HR : Hid (x = 1) := by
          show _ = _
          have h1 := HN.out
          rw [HE.out, cmpV_end _ _ k (by simp; omega) (by simp; omega) (.inr (by simp; omega))]
          simp only [List.length_map]
          rw [if_neg (by omega), if_pos (by omega)]
        have g1 : ¬ (n1 : Int) < n2 := by omega
        have g2 : (n2 : Int) < n1 := by omega
        clear hkn
        go_wp2_with fail
        go_ret
        exact ⟨by rw [HR.out]; rfl, B2.out.trans (B.out.mono B2.out.size)⟩
    · obtain rfl : k = n1 := by omega
      have hlt' : ¬ (k : Int) < k := by omega
      have HR : Hid (x = (if k < n2 then -1 else 0)) := by
        show _ = _
        have h1 := HN.out; have h2 := HK.out
        rw [HE.out, cmpV_end _ _ k (by simp; omega) (by simp; omega) (.inl (by simp; omega))]
        simp only [List.length_map]
        by_cases h : k < n2
        · rw [if_pos (by omega), if_pos h]
        · rw [if_neg (by omega), if_neg (by omega), if_neg h]
      by_cases h : k < n2
      · have g1 : (k : Int) < n2 := by omega
        have HR2 : Hid (x = -1) := by show _ = _; rw [HR.out, if_pos h]
        go_wp2_with fail
        go_ret
        exact ⟨by rw [HR2.out]; rfl, B2.out.trans (B.out.mono B2.out.size)⟩
      · have g1 : ¬ (k : Int) < n2 := by omega
        have g2 : ¬ (n2 : Int) < k := by have := HK.out; omega
        have HR2 : Hid (x = 0) := by show _ = _; rw [HR.out, if_neg h]
        go_wp2_with fail
        go_ret
        exact ⟨by rw [HR2.out]; rfl, B2.out.trans (B.out.mono B2.out.size)⟩
end Go.Proofs.YtdibmmagnkjapaaGreatDoor
