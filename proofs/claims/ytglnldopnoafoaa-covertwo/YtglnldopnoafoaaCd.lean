import Derived.Test.YtglnldopnoafoaaCc
namespace Go.Proofs.Ytglnldopnoafoaa
open Go Go.RowKit
set_option linter.unusedSimpArgs false
set_option linter.unusedVariables false

theorem Row.at {w : World} {v : Value} {xs : List ByteArray} (h : Row w v xs) : ∃ a n cap, v = .slice a n cap ∧ n = xs.length ∧ n ≤ cap ∧ (xs ≠ [] → ∃ g o, a = some ⟨g, o, none⟩ ∧ g < w.heap.size ∧ ∀ k x, xs[k]? = some x → w.cell? ⟨g, o + k, none⟩ = some (.string x)) := h

theorem mt_drop (F T : List Bs) (i : Nat) (f t : Bs) (h1 : F[i]? = some f) (h2 : T[i]? = some t) : mt (F.drop i) (T.drop i) = (if f = [35] then true else if f ≠ [43] ∧ f ≠ t then false else mt (F.drop (i + 1)) (T.drop (i + 1))) := by
  obtain ⟨hi, e⟩ := List.getElem?_eq_some_iff.1 h1
  obtain ⟨hj, e'⟩ := List.getElem?_eq_some_iff.1 h2
  rw [List.drop_eq_getElem_cons hi, List.drop_eq_getElem_cons hj, e, e']
  rfl
theorem mt_drop_hash (F T : List Bs) (i : Nat) (h1 : F[i]? = some [35]) : mt (F.drop i) (T.drop i) = true := by
  obtain ⟨hi, e⟩ := List.getElem?_eq_some_iff.1 h1
  rw [List.drop_eq_getElem_cons hi, e]
  rfl
theorem mt_drop_short (F T : List Bs) (i : Nat) (f : Bs) (h1 : F[i]? = some f) (hf : ¬ f = [35]) (h2 : T.length ≤ i) : mt (F.drop i) (T.drop i) = false := by
  obtain ⟨hi, e⟩ := List.getElem?_eq_some_iff.1 h1
  rw [List.drop_eq_getElem_cons hi, e, List.drop_eq_nil_of_le h2]
  simp [mt, hf]

set_option maxRecDepth 100000 in
set_option maxHeartbeats 1000000 in
theorem goes_any (fs ts : List ByteArray) (vf vt : Value) (w : World) (Rf : Row w vf fs) (Rt : Row w vt ts) (hs : fs.length ≤ 1000001) : Calls Try.prog 28 #[vf, vt] w fun e w' => e = .returned (.bool (mt (fs.map unB) (ts.map unB))) ∧ ∃ k, w' = w.drewN k := by
  obtain ⟨x, hx⟩ : ∃ x, x = mt (fs.map unB) (ts.map unB) := ⟨_, rfl⟩
  rw [← hx]
  have HX : Hid (x = mt ((fs.map unB).drop 0) ((ts.map unB).drop 0)) := hx
  clear hx
  obtain ⟨a1, n1, cap1, rfl, hn1, hc1, hx1⟩ := Rf
  obtain ⟨a2, n2, cap2, rfl, hn2, hc2, hx2⟩ := Rt
  have HN : Hid (n1 = fs.length ∧ n2 = ts.length ∧ n1 ≤ cap1 ∧ n2 ≤ cap2 ∧ fs.length ≤ 1000001) := ⟨hn1, hn2, hc1, hc2, hs⟩
  have HA : Hid (fs ≠ [] → ∃ g o, a1 = some ⟨g, o, none⟩ ∧ ∀ k x, fs[k]? = some x → w.cell? ⟨g, o + k, none⟩ = some (.string x)) := fun h => by obtain ⟨g, o, h1, _, h3⟩ := hx1 h; exact ⟨g, o, h1, h3⟩
  have HB : Hid (ts ≠ [] → ∃ g o, a2 = some ⟨g, o, none⟩ ∧ ∀ k x, ts[k]? = some x → w.cell? ⟨g, o + k, none⟩ = some (.string x)) := fun h => by obtain ⟨g, o, h1, _, h3⟩ := hx2 h; exact ⟨g, o, h1, h3⟩
  clear hn1 hc1 hx1 hn2 hc2 hx2 hs
  go_enter Try.func28, Try.ntmps28
  go_wp2_with fail
  go_loopg [5] n1 (fun gg s5 wx => ∃ k q : Nat, k ≤ n1 ∧ gg = n1 - k ∧ s5 = .int .i64 k ∧ Hid (wx = w.drewN q) ∧ Hid (x = mt ((fs.map unB).drop k) ((ts.map unB).drop k)) ∧ Hid (k ≤ n2))
  case atStart => exact ⟨0, 0, Nat.zero_le _, rfl, rfl, rfl, HX, Nat.zero_le _⟩
  case round =>
    obtain ⟨k, q, hk, rfl, rfl, HW, HE, HK⟩ := hrel
    by_cases hlt : k < n1
    · have hlt' : (k : Int) < n1 := by omega
      obtain ⟨f, hf⟩ : ∃ f, fs[k]? = some f := ⟨_, List.getElem?_eq_getElem (by have := HN.out.1; omega)⟩
      obtain ⟨g, o, rfl, hcells⟩ := HA.out (fun e => by subst e; simp at hf)
      have c1 : wr.cell? ⟨g, o + k, none⟩ = some (.string f) := by rw [HW.out, World.cell?_drewN]; exact hcells k f hf
      have HF : Hid ((fs.map unB)[k]? = some (unB f)) := by show _ = _; rw [List.getElem?_map, hf]; rfl
      have hcap := HN.out.2.2.1
      have hw : IntKind.i64.wrap ((k : Int) + 1) = (k : Int) + 1 := by rw [IntKind.wrap_i64]; have := HN.out; omega
      clear hcells hf
      by_cases h35 : unB f = [35]
      · have q1 : (f.toList == (⟨#[35]⟩ : ByteArray).toList) = true := by rw [eq_one]; exact decide_eq_true h35
        have q1' : (f.toList == [35]) = true := by rw [eq_one']; exact decide_eq_true h35
        have HR : Hid (x = true) := by show _ = _; rw [HE.out]; exact mt_drop_hash _ _ k (by rw [HF.out, h35])
        clear h35
        go_wp2_with fail
        go_ret
        exact ⟨by rw [HR.out]; rfl, q, HW.out⟩
      have q1 : (f.toList == (⟨#[35]⟩ : ByteArray).toList) = false := by rw [eq_one]; exact decide_eq_false h35
      have q1' : (f.toList == [35]) = false := by rw [eq_one']; exact decide_eq_false h35
      by_cases h2 : k < n2
      · have h2' : ¬ (n2 : Int) ≤ k := by omega
        have h2d : decide ((n2 : Int) ≤ k) = false := decide_eq_false h2'
        have h2e : (k : Int) < n2 := by omega
        have h2f : decide (n2 ≤ k) = false := decide_eq_false (by omega)
        obtain ⟨t, ht⟩ : ∃ t, ts[k]? = some t := ⟨_, List.getElem?_eq_getElem (by have := HN.out.2.1; omega)⟩
        obtain ⟨g2, o2, rfl, hcells⟩ := HB.out (fun e => by subst e; simp at ht)
        have c2 : wr.cell? ⟨g2, o2 + k, none⟩ = some (.string t) := by rw [HW.out, World.cell?_drewN]; exact hcells k t ht
        have HT : Hid ((ts.map unB)[k]? = some (unB t)) := by show _ = _; rw [List.getElem?_map, ht]; rfl
        have hcap2 := HN.out.2.2.2.1
        have HS : Hid (x = (if unB f ≠ [43] ∧ unB f ≠ unB t then false else mt ((fs.map unB).drop (k + 1)) ((ts.map unB).drop (k + 1)))) := by
          show _ = _
          rw [HE.out, mt_drop _ _ k _ _ HF.out HT.out, if_neg h35]
        clear hcells ht h35
        by_cases h43 : unB f = [43]
        · have q2 : (f.toList == (⟨#[43]⟩ : ByteArray).toList) = true := by rw [eq_one]; exact decide_eq_true h43
          have q2' : (f.toList == [43]) = true := by rw [eq_one']; exact decide_eq_true h43
          have HS2 : Hid (x = mt ((fs.map unB).drop (k + 1)) ((ts.map unB).drop (k + 1))) := by show _ = _; rw [HS.out, if_neg (fun h => h.1 h43)]
          clear h43 HS
          go_wp2_with fail
          go_quiet (fail)
          obtain ⟨w1, hw1⟩ : ∃ w1, w1 = wr.drewN nq := ⟨_, rfl⟩
          have HW2 : Hid (w1 = w.drewN (q + nq)) := by show _ = _; rw [hw1, HW.out, World.drewN_drewN]
          have HK2 : Hid (k + 1 ≤ n2) := by show _ ≤ _; omega
          rw [← hw1]
          clear hw1
          go_wp2_with fail
          go_roundg (n1 - (k + 1))
          case measure => omega
          case rel => exact ⟨k + 1, _, by omega, by omega, by first | rfl | simp, HW2, HS2, HK2⟩
        have q2 : (f.toList == (⟨#[43]⟩ : ByteArray).toList) = false := by rw [eq_one]; exact decide_eq_false h43
        have q2' : (f.toList == [43]) = false := by rw [eq_one']; exact decide_eq_false h43
        by_cases hne : unB f = unB t
        · have q3 : (f.toList == t.toList) = true := by rw [eq_two]; exact decide_eq_true hne
          have HS2 : Hid (x = mt ((fs.map unB).drop (k + 1)) ((ts.map unB).drop (k + 1))) := by show _ = _; rw [HS.out, if_neg (fun h => h.2 hne)]
          clear h43 HS hne
          go_wp2_with fail
          go_quiet (fail)
          obtain ⟨w1, hw1⟩ : ∃ w1, w1 = wr.drewN nq := ⟨_, rfl⟩
          have HW2 : Hid (w1 = w.drewN (q + nq)) := by show _ = _; rw [hw1, HW.out, World.drewN_drewN]
          have HK2 : Hid (k + 1 ≤ n2) := by show _ ≤ _; omega
          rw [← hw1]
          clear hw1
          go_wp2_with fail
          go_roundg (n1 - (k + 1))
          case measure => omega
          case rel => exact ⟨k + 1, _, by omega, by omega, by first | rfl | simp, HW2, HS2, HK2⟩
        · have q3 : (f.toList == t.toList) = false := by rw [eq_two]; exact decide_eq_false hne
          have HR : Hid (x = false) := by show _ = _; rw [HS.out, if_pos ⟨h43, hne⟩]
          clear h43 HS hne
          go_wp2_with fail
          go_quiet (fail)
          obtain ⟨w1, hw1⟩ : ∃ w1, w1 = wr.drewN nq := ⟨_, rfl⟩
          have HW2 : Hid (w1 = w.drewN (q + nq)) := by show _ = _; rw [hw1, HW.out, World.drewN_drewN]
          rw [← hw1]
          clear hw1
          go_wp2_with fail
          go_ret
          exact ⟨by rw [HR.out]; rfl, _, HW2.out⟩
      · have h2' : (n2 : Int) ≤ k := by omega
        have h2d : decide ((n2 : Int) ≤ k) = true := decide_eq_true h2'
        have h2f : decide (n2 ≤ k) = true := decide_eq_true (by omega)
        have HR : Hid (x = false) := by show _ = _; rw [HE.out]; exact mt_drop_short _ _ k _ HF.out h35 (by rw [List.length_map]; have := HN.out.2.1; omega)
        clear h35
        go_wp2_with fail
        go_quiet (fail)
        obtain ⟨w1, hw1⟩ : ∃ w1, w1 = wr.drewN nq := ⟨_, rfl⟩
        have HW2 : Hid (w1 = w.drewN (q + nq)) := by show _ = _; rw [hw1, HW.out, World.drewN_drewN]
        rw [← hw1]
        clear hw1
        go_wp2_with fail
        go_ret
        exact ⟨by rw [HR.out]; rfl, _, HW2.out⟩
    · obtain rfl : k = n1 := by omega
      have hlt' : ¬ (k : Int) < k := by omega
      have HR : Hid (x = ((k : Int) == n2)) := by
        show _ = _
        have h1 := HN.out; have h2 := HK.out
        rw [HE.out, List.drop_eq_nil_of_le (by rw [List.length_map]; omega)]
        by_cases e : k = n2
        · subst e; rw [List.drop_eq_nil_of_le (by rw [List.length_map]; omega)]; simp [mt]
        · have : ((k : Int) == n2) = false := by rw [beq_eq_false_iff_ne]; omega
          rw [this]
          cases hd : List.drop k (ts.map unB) with
          | nil => have := congrArg List.length hd; simp at this; omega
          | cons a b => rfl
      go_wp2_with fail
      go_ret
      exact ⟨by rw [HR.out]; rfl, q, HW.out⟩
end Go.Proofs.Ytglnldopnoafoaa
