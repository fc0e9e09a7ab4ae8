import Derived.Test.YtcoccggimbficaaGreatDoorRb
import Derived.Test.YtcoccggimbficaaGreatDoorTe
namespace Go.Proofs.YtcoccggimbficaaGreatDoor
open Go Go.RowKit
set_option linter.unusedSimpArgs false
set_option linter.unusedVariables false
theorem sgF_iff (s : ByteArray) : ∀ (b k : Nat), s.size ≤ k + b → (sgF s b k = true ↔ ∃ i, k ≤ i ∧ i < s.size ∧ (atB s i = 43 ∨ atB s i = 35))
  | 0, k, h => by
    simp only [sgF, Bool.false_eq_true, false_iff]
    rintro ⟨i, h1, h2, _⟩
    omega
  | b + 1, k, h => by
    by_cases hk : k < s.size
    · have hd := dec_sg (atB s k) (atB s (k + 1)) (atB s (k + 2)) (atB s (k + 3))
      rw [← decode_dec] at hd
      obtain ⟨n1, n4, h1, h2, h3, h4⟩ := hd
      simp only [sgF, hk, if_true]
      by_cases hr : (Utf8.decode s k).1 = 43 ∨ (Utf8.decode s k).1 = 35
      · rw [if_pos hr]
        simp only [true_iff]
        exact ⟨k, Nat.le_refl _, hk, h1.1 hr⟩
      · rw [if_neg hr, sgF_iff s b _ (by omega)]
        constructor
        · rintro ⟨i, g1, g2, g3⟩
          exact ⟨i, by omega, g2, g3⟩
        · rintro ⟨i, g1, g2, g3⟩
          refine ⟨i, ?_, g2, g3⟩
          apply Classical.byContradiction
          intro hn
          have hc : i = k ∨ i = k + 1 ∨ i = k + 2 ∨ i = k + 3 := by omega
          rcases hc with e | e | e | e
          · subst e; exact hr (h1.2 g3)
          · subst e; have := h2 (by omega); omega
          · subst e; have := h3 (by omega); omega
          · subst e; have := h4 (by omega); omega
    · simp only [sgF, hk, if_false, Bool.false_eq_true, false_iff]
      rintro ⟨i, g1, g2, _⟩
      omega

theorem indexAny_iff (l : List UInt8) : (0 ≤ Lib.indexAny l [43, 35]) ↔ ∃ x ∈ l, x = 43 ∨ x = 35 := by
  induction l with
  | nil => simp [Lib.indexAny]
  | cons a l ih =>
    have hg := Lib.indexAny_ge [43, 35] l
    unfold Lib.indexAny
    by_cases ha : a = 43 ∨ a = 35
    · have : ([43, 35] : List UInt8).contains a = true := by rcases ha with rfl | rfl <;> decide
      rw [if_pos this]
      simp only [Int.le_refl, true_iff]
      exact ⟨a, by simp, ha⟩
    · have : ([43, 35] : List UInt8).contains a = false := by simp; exact ⟨fun h => ha (.inl h), fun h => ha (.inr h)⟩
      rw [if_neg (by rw [this]; decide)]
      have e : (∃ x ∈ a :: l, x = 43 ∨ x = 35) ↔ ∃ x ∈ l, x = 43 ∨ x = 35 := by
        constructor
        · rintro ⟨x, hx, h⟩
          rcases List.mem_cons.1 hx with rfl | hx
          · exact absurd h ha
          · exact ⟨x, hx, h⟩
        · rintro ⟨x, hx, h⟩
          exact ⟨x, by simp [hx], h⟩
      rw [e, ← ih]
      split
      · rename_i h; simp at h; omega
      · rename_i h; simp at h; omega

theorem mem_atB (s : ByteArray) (v : UInt8) : v ∈ s.data.toList ↔ ∃ i, i < s.size ∧ atB s i = v.toNat := by
  constructor
  · intro h
    obtain ⟨i, hi, e⟩ := List.mem_iff_getElem.1 h
    have hs : i < s.size := by rw [Array.length_toList] at hi; exact hi
    refine ⟨i, hs, ?_⟩
    rw [atB_list, List.getElem?_eq_getElem hi, Option.getD_some, e]
  · rintro ⟨i, hi, e⟩
    have hi' : i < s.data.toList.length := by rw [Array.length_toList]; exact hi
    rw [atB_list, List.getElem?_eq_getElem hi', Option.getD_some] at e
    have : s.data.toList[i] = v := UInt8.toNat_inj.1 e
    rw [← this]
    exact List.getElem_mem _

theorem sgn_has (s : ByteArray) : sgn s = hasS s := by
  refine Bool.eq_iff_iff.2 ?_
  unfold hasS
  rw [hsN_iff]
  unfold sgn
  split
  · rw [decide_eq_true_eq, indexAny_iff]
    constructor
    · rintro ⟨x, hx, h⟩
      obtain ⟨i, h1, h2⟩ := (mem_atB s x).1 hx
      refine ⟨i, h1, ?_⟩
      rcases h with rfl | rfl
      · exact .inl h2
      · exact .inr h2
    · rintro ⟨i, h1, h2 | h2⟩
      · exact ⟨43, (mem_atB s 43).2 ⟨i, h1, h2⟩, .inl rfl⟩
      · exact ⟨35, (mem_atB s 35).2 ⟨i, h1, h2⟩, .inr rfl⟩
  · rw [sgF_iff s s.size 0 (by omega)]
    constructor
    · rintro ⟨i, _, h1, h2⟩; exact ⟨i, h1, h2⟩
    · rintro ⟨i, h1, h2⟩; exact ⟨i, Nat.zero_le _, h1, h2⟩

set_option maxHeartbeats 1000000 in
theorem sign_any (s : ByteArray) (hs : s.size ≤ 1000000) (w : World) : Calls Tryz.prog 144 #[.string s] w fun e w' => e = .returned (.bool (hasS s)) ∧ w' = w := by
  have HS : Hid (s.size ≤ 1000000) := hs
  clear hs
  obtain ⟨x, hx⟩ : ∃ x, x = hasS s := ⟨_, rfl⟩
  rw [← hx]
  have HX : Hid (x = hasS s) := hx
  clear hx
  go_enter Tryz.func144, Tryz.ntmps144
  go_wp2_with fail
  go_loopg [3] s.size (fun g s3 wx => wx = w ∧ ∃ k : Nat, k ≤ s.size ∧ g = s.size - k ∧ s3 = .int .i64 k ∧ Hid (hsN s k = false))
  case atStart => exact ⟨rfl, 0, Nat.zero_le _, rfl, rfl, rfl⟩
  case round =>
    obtain ⟨hw0, k, hk, rfl, rfl, HC⟩ := hrel
    obtain rfl := hw0.symm
    clear hw0
    by_cases hlt : k < s.size
    · have hlt' : (k : Int) < s.size := by omega
      have HA : Hid (atB s k = (s[k]'hlt).toNat) := atB_in s k hlt
      have hw : IntKind.i64.wrap ((k : Int) + 1) = (k : Int) + 1 := by rw [IntKind.wrap_i64]; have := HS.out; omega
      by_cases h1 : (s[k]'hlt).toNat = 43
      · have h1' : (((s[k]'hlt).toNat : Int) == 43) = true := by simp [h1]
        have HR : Hid (x = true) := by show _ = _; rw [HX.out]; exact (hsN_iff s _).2 ⟨k, hlt, .inl (by rw [HA.out]; exact h1)⟩
        clear h1
        go_wp2
        go_ret
        exact ⟨by rw [HR.out]; rfl, rfl⟩
      have h1' : (((s[k]'hlt).toNat : Int) == 43) = false := by simp; omega
      by_cases h2 : (s[k]'hlt).toNat = 35
      · have h2' : (((s[k]'hlt).toNat : Int) == 35) = true := by simp [h2]
        have HR : Hid (x = true) := by show _ = _; rw [HX.out]; exact (hsN_iff s _).2 ⟨k, hlt, .inr (by rw [HA.out]; exact h2)⟩
        clear h1 h2
        go_wp2
        go_ret
        exact ⟨by rw [HR.out]; rfl, rfl⟩
      have h2' : (((s[k]'hlt).toNat : Int) == 35) = false := by simp; omega
      have HN : Hid (hsN s (k + 1) = false) := by
        show _ = _
        have e1 : (atB s k == 43) = false := by rw [HA.out]; simp; exact h1
        have e2 : (atB s k == 35) = false := by rw [HA.out]; simp; exact h2
        simp [hsN, HC.out, e1, e2]
      clear h1 h2
      go_wp2
      go_roundg (s.size - (k + 1))
      case measure => omega
      case rel => exact ⟨rfl, k + 1, by omega, by omega, by first | rfl | simp, HN⟩
    · obtain rfl : k = s.size := by omega
      have hlt' : ¬ (s.size : Int) < s.size := by omega
      have HR : Hid (x = false) := by show _ = _; rw [HX.out]; exact HC.out
      go_wp2
      go_ret
      exact ⟨by rw [HR.out]; rfl, rfl⟩

/-- The document's Check of topics is the program's. -/
theorem rcheck_any (s : ByteArray) (w : World) : Calls Tryz.prog 105 #[.string s] w fun e w' => e = .returned (.int .i64 (tcode s)) ∧ w' = w := by
  by_cases h0 : s.size = 0
  · have e : tcode s = 50 := by simp [tcode, ct, h0]
    have h0' : ((s.size : Int) == 0) = true := by rw [h0]; rfl
    rw [e]
    clear e h0
    go_enter Tryz.func105, Tryz.ntmps105
    go_wp2
    go_ret
    exact ⟨rfl, rfl⟩
  have h0' : ((s.size : Int) == 0) = false := by rw [beq_eq_false_iff_ne]; omega
  cases ht : txt s with
  | false =>
    have e : tcode s = 51 := by simp [tcode, ct, h0, ht]
    rw [e]
    clear e h0
    go_enter Tryz.func105, Tryz.ntmps105
    go_wp2_with (go_at_call 96; refine (rtext_any s _).mono ?_; rintro e w' ⟨rfl, hee⟩; obtain rfl := hee.symm; clear hee; rw [ht])
    go_ret
    exact ⟨rfl, rfl⟩
  | true =>
    have hs : s.size ≤ 1000000 := by have := txt_size ht; omega
    have HS : Hid (s.size ≤ 1000000) := hs
    clear hs
    cases hg : hasS s with
    | true =>
      have e : tcode s = 52 := by simp [tcode, ct, h0, ht, sgn_has, hg]
      rw [e]
      clear e h0
      go_enter Tryz.func105, Tryz.ntmps105
      go_wp2_with (first | (go_at_call 96; refine (rtext_any s _).mono ?_; rintro e w' ⟨rfl, hee⟩; obtain rfl := hee.symm; clear hee; rw [ht]) | (go_at_call 144; refine (sign_any s HS.out _).mono ?_; rintro e w' ⟨rfl, hee⟩; obtain rfl := hee.symm; clear hee; rw [hg]))
      go_ret
      exact ⟨rfl, rfl⟩
    | false =>
      have e : tcode s = 0 := by simp [tcode, ct, h0, ht, sgn_has, hg]
      rw [e]
      clear e h0
      go_enter Tryz.func105, Tryz.ntmps105
      go_wp2_with (first | (go_at_call 96; refine (rtext_any s _).mono ?_; rintro e w' ⟨rfl, hee⟩; obtain rfl := hee.symm; clear hee; rw [ht]) | (go_at_call 144; refine (sign_any s HS.out _).mono ?_; rintro e w' ⟨rfl, hee⟩; obtain rfl := hee.symm; clear hee; rw [hg]))
      go_ret
      exact ⟨rfl, rfl⟩
end Go.Proofs.YtcoccggimbficaaGreatDoor
