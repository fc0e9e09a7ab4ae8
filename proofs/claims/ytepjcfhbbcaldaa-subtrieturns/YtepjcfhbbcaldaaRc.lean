import Derived.Test.YtepjcfhbbcaldaaRb
import Derived.Test.YtepjcfhbbcaldaaTe
namespace Go.Proofs.Ytepjcfhbbcaldaa
open Go Go.RowKit
set_option linter.unusedSimpArgs false
set_option linter.unusedVariables false

/-- Does a sign stand among so many first bytes? -/
def hsN (s : ByteArray) : Nat → Bool
  | 0 => false
  | n + 1 => hsN s n || (atB s n == 43) || (atB s n == 35)
def hasS (s : ByteArray) : Bool := hsN s s.size
theorem hsN_iff (s : ByteArray) (n : Nat) : hsN s n = true ↔ ∃ i, i < n ∧ (atB s i = 43 ∨ atB s i = 35) := by
  induction n with
  | zero => simp [hsN]
  | succ n ih =>
    simp only [hsN, Bool.or_eq_true, beq_iff_eq, ih]
    constructor
    · rintro ((⟨i, h1, h2⟩ | h) | h)
      · exact ⟨i, by omega, h2⟩
      · exact ⟨n, by omega, .inl h⟩
      · exact ⟨n, by omega, .inr h⟩
    · rintro ⟨i, h1, h2⟩
      by_cases e : i = n
      · subst e
        rcases h2 with h2 | h2
        · exact .inl (.inr h2)
        · exact .inr h2
      · exact .inl (.inl ⟨i, by omega, h2⟩)

theorem dec_sg (c d e f : Nat) : 1 ≤ (dec c d e f).2 ∧ (dec c d e f).2 ≤ 4 ∧ (((dec c d e f).1 = 43 ∨ (dec c d e f).1 = 35) ↔ (c = 43 ∨ c = 35)) ∧ (2 ≤ (dec c d e f).2 → 128 ≤ d) ∧ (3 ≤ (dec c d e f).2 → 128 ≤ e) ∧ (4 ≤ (dec c d e f).2 → 128 ≤ f) := by
  unfold dec
  by_cases k1 : c < 0x80
  · rw [if_pos k1]; simp
  rw [if_neg k1]
  by_cases k2 : c / 32 = 6 ∧ d / 64 = 2
  · rw [if_pos k2]
    split
    · simp only; omega
    · simp only; omega
  rw [if_neg k2]
  by_cases k3 : c / 16 = 14 ∧ d / 64 = 2 ∧ e / 64 = 2
  · rw [if_pos k3]
    split
    · simp only; omega
    · simp only; omega
  rw [if_neg k3]
  by_cases k4 : c / 8 = 30 ∧ d / 64 = 2 ∧ e / 64 = 2 ∧ f / 64 = 2
  · rw [if_pos k4]
    split
    · simp only; omega
    · simp only; omega
  rw [if_neg k4]
  simp only; omega

theorem sgF_iff (s : ByteArray) : ∀ (b k : Nat), s.size ≤ k + b → (sgF s b k = true ↔ ∃ i, k ≤ i ∧ i < s.size ∧ (atB s i = 43 ∨ atB s i = 35))
  | 0, k, h => by
    simp only [sgF, Bool.false_eq_true, false_iff]
    rintro ⟨i, h1, h2, _⟩
    omega
  | b + 1, k, h => by
    by_cases hk : k < s.size
    · have hd := dec_sg (atB s k) (atB s (k + 1)) (atB s (k + 2)) (atB s (k + 3))
      rw [← decode_dec] at hd
      obtain ⟨n1, n4, h1, h2, h3, h4⟩ := hd
      simp only [sgF, hk, if_true]
      by_cases hr : (Utf8.decode s k).1 = 43 ∨ (Utf8.decode s k).1 = 35
      · rw [if_pos hr]
        simp only [true_iff]
        exact ⟨k, Nat.le_refl _, hk, h1.1 hr⟩
      · rw [if_neg hr, sgF_iff s b _ (by omega)]
        constructor
        · rintro ⟨i, g1, g2, g3⟩
          exact ⟨i, by omega, g2, g3⟩
        · rintro ⟨i, g1, g2, g3⟩
          refine ⟨i, ?_, g2, g3⟩
          apply Classical.byContradiction
          intro hn
          have hc : i = k ∨ i = k + 1 ∨ i = k + 2 ∨ i = k + 3 := by omega
          rcases hc with e | e | e | e
          · subst e; exact hr (h1.2 g3)
          · subst e; have := h2 (by omega); omega
          · subst e; have := h3 (by omega); omega
          · subst e; have := h4 (by omega); omega
    · simp only [sgF, hk, if_false, Bool.false_eq_true, false_iff]
      rintro ⟨i, g1, g2, _⟩
      omega

theorem indexAny_iff (l : List UInt8) : (0 ≤ Lib.indexAny l [43, 35]) ↔ ∃ x ∈ l, x = 43 ∨ x = 35 := by
  induction l with
  | nil => simp [Lib.indexAny]
  | cons a l ih =>
    have hg := Lib.indexAny_ge [43, 35] l
    unfold Lib.indexAny
    by_cases ha : a = 43 ∨ a = 35
    · have : ([43, 35] : List UInt8).contains a = true := by rcases ha with rfl | rfl <;> decide
      rw [if_pos this]
      simp only [Int.le_refl, true_iff]
      exact ⟨a, by simp, ha⟩
    · have : ([43, 35] : List UInt8).contains a = false := by simp; exact ⟨fun h => ha (.inl h), fun h => ha (.inr h)⟩
      rw [if_neg (by rw [this]; decide)]
      have e : (∃ x ∈ a :: l, x = 43 ∨ x = 35) ↔ ∃ x ∈ l, x = 43 ∨ x = 35 := by
        constructor
        · rintro ⟨x, hx, h⟩
          rcases List.mem_cons.1 hx with rfl | hx
          · exact absurd h ha
          · exact ⟨x, hx, h⟩
        · rintro ⟨x, hx, h⟩
          exact ⟨x, by simp [hx], h⟩
      rw [e, ← ih]
      split
      · rename_i h; simp at h; omega
      · rename_i h; simp at h; omega

theorem mem_atB (s : ByteArray) (v : UInt8) : v ∈ s.data.toList ↔ ∃ i, i < s.size ∧ atB s i = v.toNat := by
  constructor
  · intro h
    obtain ⟨i, hi, e⟩ := List.mem_iff_getElem.1 h
    have hs : i < s.size := by rw [Array.length_toList] at hi; exact hi
    refine ⟨i, hs, ?_⟩
    rw [atB_list, List.getElem?_eq_getElem hi, Option.getD_some, e]
  · rintro ⟨i, hi, e⟩
    have hi' : i < s.data.toList.length := by rw [Array.length_toList]; exact hi
    rw [atB_list, List.getElem?_eq_getElem hi', Option.getD_some] at e
    have : s.data.toList[i] = v := UInt8.toNat_inj.1 e
    rw [← this]
    exact List.getElem_mem _

theorem sgn_has (s : ByteArray) : sgn s = hasS s := by
  refine Bool.eq_iff_iff.2 ?_
  unfold hasS
  rw [hsN_iff]
  unfold sgn
  split
  · rw [decide_eq_true_eq, indexAny_iff]
    constructor
    · rintro ⟨x, hx, h⟩
      obtain ⟨i, h1, h2⟩ := (mem_atB s x).1 hx
      refine ⟨i, h1, ?_⟩
      rcases h with rfl | rfl
      · exact .inl h2
      · exact .inr h2
    · rintro ⟨i, h1, h2 | h2⟩
      · exact ⟨43, (mem_atB s 43).2 ⟨i, h1, h2⟩, .inl rfl⟩
      · exact ⟨35, (mem_atB s 35).2 ⟨i, h1, h2⟩, .inr rfl⟩
  · rw [sgF_iff s s.size 0 (by omega)]
    constructor
    · rintro ⟨i, _, h1, h2⟩; exact ⟨i, h1, h2⟩
    · rintro ⟨i, h1, h2⟩; exact ⟨i, Nat.zero_le _, h1, h2⟩


end Go.Proofs.Ytepjcfhbbcaldaa
