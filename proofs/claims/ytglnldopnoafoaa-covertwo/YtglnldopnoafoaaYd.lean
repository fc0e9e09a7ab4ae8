import Derived.Test.YtglnldopnoafoaaYc
namespace Go.Proofs.Ytglnldopnoafoaa
open Go Go.RowKit
set_option linter.unusedSimpArgs false
set_option linter.unusedVariables false

theorem join_len : ∀ (l : List Bs), l ≠ [] → tot l = (joinL l).length + 1
  | [], h => absurd rfl h
  | [x], _ => by simp [joinL, tot]
  | x :: y :: r, _ => by
    have := join_len (y :: r) (by simp)
    simp only [joinL, tot, List.length_append, List.length_cons] at *; omega
theorem tot_snoc : ∀ (l : List Bs) (x : Bs), tot (l ++ [x]) = tot l + x.length + 1
  | [], x => by simp [tot]
  | a :: r, x => by simp only [List.cons_append, tot, tot_snoc r x]; omega
theorem tot_take : ∀ (l : List Bs) (i : Nat), tot (l.take i) ≤ tot l
  | [], i => by simp [tot]
  | a :: r, 0 => by simp [tot]
  | a :: r, i + 1 => by simp only [List.take_succ_cons, tot]; have := tot_take r i; omega
theorem len_tot : ∀ l : List Bs, l.length ≤ tot l
  | [] => by simp
  | a :: r => by simp only [tot, List.length_cons]; have := len_tot r; omega
set_option maxRecDepth 100000 in
set_option maxHeartbeats 2000000 in
theorem right_any (xs : List ByteArray) (v : Value) (w : World) (R : Row w v xs) (hl : tot (xs.map unB) ≤ 1000000) : Calls Try.prog 51 #[v] w fun e w' => (∃ s, e = .returned (.tuple #[.string s, .bool (fitB (xs.map unB))]) ∧ (fitB (xs.map unB) = true → s = mkB (joinL (xs.map unB)))) ∧ Below w.heap.size w w' := by
  have RR : Hid (Row w v xs) := R
  obtain ⟨a, n, cap, rfl, hnn, hc, hx⟩ := R
  have HC : Hid (∀ j x, xs[j]? = some x → ∃ g o, a = some ⟨g, o, none⟩ ∧ w.cell? ⟨g, o + j, none⟩ = some (.string x)) := by
    intro j x hj
    obtain ⟨g, o, h1, h2, h3⟩ := hx (by intro h; rw [h] at hj; simp at hj)
    exact ⟨g, o, h1, h3 j x hj⟩
  obtain ⟨L, hL⟩ : ∃ L, xs.map unB = L := ⟨_, rfl⟩
  have JJ : Hid (joinL L ≠ [] → Calls Try.prog 63 #[.slice a n cap] w fun e w' => e = .returned (.string (mkB (joinL L))) ∧ Below w.heap.size w w') := by
    intro hj
    have h1 := join_tot L
    have h2 := len_tot L
    rw [hL] at hl
    have := rjoin_any xs _ w RR.out (by rw [hL]; exact hj) (by rw [hL]; omega) (by have := congrArg List.length hL; simp at this; omega)
    rw [hL] at this
    exact this
  rw [hL] at hl ⊢
  have hlen : L.length = xs.length := by rw [← hL]; simp
  have HL : Hid (L.length = n ∧ tot L ≤ 1000000 ∧ n ≤ 1000000 ∧ n = xs.length) := ⟨by omega, hl, by have := len_tot L; omega, hnn⟩
  have HLX : Hid (∀ j x, xs[j]? = some x → L[j]? = some (unB x)) := fun j x h => by rw [← hL, List.getElem?_map, h]; rfl
  obtain ⟨ft, hft⟩ : ∃ ft, fitB L = ft := ⟨_, rfl⟩
  have HF : Hid (fitB L = ft) := hft
  rw [hft]
  have B0 : Hid (Below w.heap.size w w) := Below.refl _ _
  have hw0 : IntKind.i64.wrap ((n : Int) - 1) = (n : Int) - 1 := by rw [IntKind.wrap_i64]; have := HL.out; omega
  clear hx hnn hc hL hl hlen hft RR
  go_enter Try.func51, Try.ntmps51
  go_wp2_with fail
  go_loopg [4, 5] n (fun gk s4 s5 wx => ∃ i : Nat, i + gk = n ∧ s4 = .int .i64 ((n : Int) - 1 + (tot (L.take i) : Int) - (i : Int)) ∧ s5 = .int .i64 i ∧ w = wx)
  case atStart => exact ⟨0, by omega, by simp [tot], rfl, rfl⟩
  case round =>
    obtain ⟨i, hi2, rfl, rfl, rfl⟩ := hrel
    cases gk with
    | zero =>
      have hiz : ¬ (i : Int) < (n : Int) := by omega
      have ei : (n : Int) - 1 + (tot (L.take i) : Int) - (i : Int) = (tot L : Int) - 1 := by
        rw [List.take_of_length_le (by have := HL.out; omega)]; omega
      rw [ei]
      by_cases hnil : L = []
      · have h1 : tot L = 0 := by rw [hnil]; rfl
        have p1 : (tot L : Int) - 1 < 1 := by omega
        have HZ : Hid (ft = false) := by show _ = _; rw [← HF.out, hnil]; rfl
        clear h1 hnil
        go_wp2_with fail
        go_ret2
        rw [HZ.out]
        exact ⟨⟨_, rfl, fun h => by cases h⟩, B0.out⟩
      · have hj := join_len L hnil
        by_cases h1 : joinL L = []
        · have p1 : (tot L : Int) - 1 < 1 := by rw [hj, h1]; simp
          have HZ : Hid (ft = false) := by
            show _ = _
            rw [← HF.out]
            apply Bool.eq_false_iff.2
            intro h; exact ((fitB_iff L).1 h).1 h1
          clear h1 hnil hj
          go_wp2_with fail
          go_ret2
          rw [HZ.out]
          exact ⟨⟨_, rfl, fun h => by cases h⟩, B0.out⟩
        · have hpos : 0 < (joinL L).length := List.length_pos_iff.2 h1
          have p1 : ¬ (tot L : Int) - 1 < 1 := by omega
          by_cases h2 : 65535 < (joinL L).length
          · have p2 : (65535 : Int) < (tot L : Int) - 1 := by omega
            have HZ : Hid (ft = false) := by
              show _ = _
              rw [← HF.out]
              apply Bool.eq_false_iff.2
              intro h; have := ((fitB_iff L).1 h).2; omega
            clear h1 hnil hj hpos h2
            go_wp2_with fail
            go_ret2
            rw [HZ.out]
            exact ⟨⟨_, rfl, fun h => by cases h⟩, B0.out⟩
          · have p2 : ¬ (65535 : Int) < (tot L : Int) - 1 := by omega
            have HZ : Hid (ft = true) := by
              show _ = _
              rw [← HF.out, fitB_iff]; exact ⟨h1, by omega⟩
            have JJ2 := JJ.out h1
            have JJ3 : Hid (Calls Try.prog 63 #[.slice a n cap] w fun e w' => e = .returned (.string (mkB (joinL L))) ∧ Below w.heap.size w w') := JJ2
            clear h1 hnil hj hpos h2 JJ2
            go_wp2_with fail
            go_must (go_at_call 63)
            refine JJ3.out.mono ?_
            rintro e w1 ⟨rfl, hb⟩
            have B1 : Hid (Below w.heap.size w w1) := hb
            clear hb
            go_wp2_with fail
            go_ret2
            rw [HZ.out]
            exact ⟨⟨_, rfl, fun _ => rfl⟩, B1.out⟩
    | succ gk =>
      have hiz : (i : Int) < (n : Int) := by omega
      have hi0 : (0 : Int) ≤ (i : Int) := by omega
      have hwi : IntKind.i64.wrap ((i : Int) + 1) = (i : Int) + 1 := by rw [IntKind.wrap_i64]; have := HL.out; omega
      obtain ⟨x, hx⟩ : ∃ x, xs[i]? = some x := ⟨_, List.getElem?_eq_getElem (by have := HL.out; omega)⟩
      obtain ⟨g, o, rfl, hcell⟩ := HC.out i x hx
      have HT : Hid (tot (L.take (i + 1)) = tot (L.take i) + x.size + 1 ∧ tot (L.take (i + 1)) ≤ 1000000) := by
        have h1 : tot (L.take (i + 1)) = tot (L.take i) + x.size + 1 := by
          rw [take_snoc L i (unB x) (HLX.out i x hx), tot_snoc, un_size]
        have := tot_take L (i + 1)
        have := HL.out
        exact ⟨h1, by omega⟩
      obtain ⟨q, hq⟩ : ∃ q : Int, (n : Int) - 1 + (tot (L.take i) : Int) - (i : Int) = q := ⟨_, rfl⟩
      have HQ : Hid ((n : Int) - 1 + (tot (L.take i) : Int) - (i : Int) = q) := hq
      have hwq : IntKind.i64.wrap (q + (x.size : Int)) = q + (x.size : Int) := by
        rw [IntKind.wrap_i64]
        have h1 := HT.out
        have h2 := HL.out
        rw [← hq]
        omega
      rw [hq]
      clear hq hx
      go_wp2_with fail
      go_roundg gk
      case measure => omega
      case rel => exact ⟨i + 1, by omega, by first | (have h1 := HT.out; have h2 := HQ.out; congr 1; push_cast; omega) | (have h1 := HT.out; have h2 := HQ.out; simp; omega), by first | rfl | simp, rfl⟩
theorem comL' (a b : Bool) : a = b ∨ ¬ a = b := Classical.em _
end Go.Proofs.Ytglnldopnoafoaa
