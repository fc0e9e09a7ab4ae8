import Derived.Test.YtepjcfhbbcaldaaKid
import Derived.Test.YtepjcfhbbcaldaaKif
import Derived.Test.YtepjcfhbbcaldaaCg
namespace Go.Proofs.Ytepjcfhbbcaldaa.Li
open Go Go.RowKit
set_option linter.unusedSimpArgs false
set_option linter.unusedVariables false
theorem levels_inj {a b : ByteArray} (h : levels a = levels b) : a = b := by
  have h1 := levels_split a
  have h2 := levels_split b
  rw [h] at h1
  have h3 : unB a = unB b := split_inj (h1.symm.trans h2)
  unfold unB at h3
  cases a with | mk a => cases b with | mk b => simp at h3; rw [h3]
/-- No later word of the same key at the same filter. -/
def Last (l : List Sb) (i : Nat) (s : Sb) : Prop := ∀ k s', i < k → l[k]? = some s' → ¬ (s'.x = s.x ∧ s'.f = s.f ∧ 0 ≤ s'.q ∧ s'.q ≤ 2)
def LwK (l : List Sb) (y t : ByteArray) (k : Nat) (z : Int) : Prop := ∃ i s, i < k ∧ l[i]? = some s ∧ s.x = y ∧ 0 ≤ s.q ∧ s.q ≤ 2 ∧ mch s.f t = true ∧ Last l i s ∧ z = s.q
theorem hold_snoc (l : List Sb) (a : Sb) : hold (l ++ [a]) = stepE (hold l) a := by
  unfold hold
  rw [List.foldl_append]
  rfl
theorem get_snoc {l : List Sb} {a s : Sb} {i : Nat} (h : (l ++ [a])[i]? = some s) : (i < l.length ∧ l[i]? = some s) ∨ (i = l.length ∧ s = a) := by
  by_cases c : i < l.length
  · rw [List.getElem?_append_left c] at h
    exact .inl ⟨c, h⟩
  · rw [List.getElem?_append_right (by omega)] at h
    by_cases e : i - l.length = 0
    · rw [e] at h
      simp at h
      exact .inr ⟨by omega, h.symm⟩
    · obtain ⟨j, hj⟩ : ∃ j, i - l.length = j + 1 := ⟨i - l.length - 1, by omega⟩
      rw [hj] at h
      simp at h
/-- WHAT IS HELD: the last word of each filter. -/
theorem hold_iff (l : List Sb) : ∀ F y z, hold l F y z ↔ ∃ i s, l[i]? = some s ∧ rfc s.f = 0 ∧ levels s.f = F ∧ s.x = y ∧ 0 ≤ s.q ∧ s.q ≤ 2 ∧ s.q = z ∧ Last l i s := by
  suffices H : ∀ r : List Sb, ∀ l : List Sb, l.reverse = r → ∀ F y z, hold l F y z ↔ ∃ i s, l[i]? = some s ∧ rfc s.f = 0 ∧ levels s.f = F ∧ s.x = y ∧ 0 ≤ s.q ∧ s.q ≤ 2 ∧ s.q = z ∧ Last l i s from H _ l rfl
  intro r
  induction r with
  | nil =>
    intro l e F y z
    have : l = [] := by simpa using e
    subst this
    constructor
    · intro c; exact c.elim
    · rintro ⟨i, s, h, _⟩; simp at h
  | cons a r ih =>
    intro l e F y z
    obtain ⟨l', rfl⟩ : ∃ l', l = l' ++ [a] := ⟨r.reverse, by rw [← List.reverse_reverse l, e]; simp⟩
    have ih := ih l' (by simpa using e)
    rw [hold_snoc]
    unfold stepE
    constructor
    · intro c
      split at c
      · rename_i hc
        rcases c with ⟨rfl, rfl, rfl⟩ | ⟨hne, c⟩
        · refine ⟨l'.length, a, by simp, hc.1, rfl, rfl, hc.2.1, hc.2.2, rfl, fun k s' hk hs => ?_⟩
          rcases get_snoc hs with ⟨c1, _⟩ | ⟨c1, _⟩ <;> omega
        · obtain ⟨i, s, h1, h2, h3, h4, h5, h6, h7, h8⟩ := (ih F y z).1 c
          have hi : i < l'.length := (List.getElem?_eq_some_iff.1 h1).1
          refine ⟨i, s, by rw [List.getElem?_append_left hi]; exact h1, h2, h3, h4, h5, h6, h7, fun k s' hk hs => ?_⟩
          rcases get_snoc hs with ⟨_, c2⟩ | ⟨_, rfl⟩
          · exact h8 k s' hk c2
          · rintro ⟨e1, e2, _, _⟩
            exact hne ⟨by rw [← h3, e2], by rw [← h4, e1]⟩
      · rename_i hc
        obtain ⟨i, s, h1, h2, h3, h4, h5, h6, h7, h8⟩ := (ih F y z).1 c
        have hi : i < l'.length := (List.getElem?_eq_some_iff.1 h1).1
        refine ⟨i, s, by rw [List.getElem?_append_left hi]; exact h1, h2, h3, h4, h5, h6, h7, fun k s' hk hs => ?_⟩
        rcases get_snoc hs with ⟨_, c2⟩ | ⟨_, rfl⟩
        · exact h8 k s' hk c2
        · rintro ⟨e1, e2, e3, e4⟩
          exact hc ⟨by rw [e2]; exact h2, e3, e4⟩
    · rintro ⟨i, s, h1, h2, h3, h4, h5, h6, h7, h8⟩
      rcases get_snoc h1 with ⟨c1, c2⟩ | ⟨c1, rfl⟩
      · have hl : hold l' F y z := (ih F y z).2 ⟨i, s, c2, h2, h3, h4, h5, h6, h7, fun k s' hk hs => h8 k s' hk (by rw [List.getElem?_append_left (List.getElem?_eq_some_iff.1 hs).1]; exact hs)⟩
        split
        · rename_i hc
          refine .inr ⟨fun e => ?_, hl⟩
          exact h8 l'.length a c1 (by simp) ⟨by rw [h4, e.2], levels_inj (by rw [h3, ← e.1]), hc.2.1, hc.2.2⟩
        · exact hl
      · rw [if_pos ⟨h2, h5, h6⟩]
        exact .inl ⟨h3.symm, h4.symm, h7.symm⟩
/-- FIND TELLS WHAT A LIST WOULD. -/
theorem fd_lw {l : List Sb} {T : List Fn} (h : ∀ F y z, HasE T F y z ↔ hold l F y z) (t y : ByteArray) (z : Int) : Fd T t y z ↔ LwK l y t l.length z := by
  constructor
  · rintro ⟨ht, g, hg, hh, hm, hz⟩
    obtain ⟨i, s, h1, h2, h3, h4, h5, h6, h7, h8⟩ := (hold_iff l g.s.A y z).1 ((h _ _ _).1 ⟨g, hg, rfl, hz⟩)
    rw [← h3, levels_split] at hh hm
    rw [levels_split] at hm
    refine ⟨i, s, (List.getElem?_eq_some_iff.1 h1).1, h1, h4, h5, h6, ?_, h8, h7.symm⟩
    unfold mch
    rw [decide_eq_true h2, decide_eq_true ht, hm]
    by_cases c : atB t 0 = 36
    · have : hd0 (split (unB s.f)) = false := by
        cases e : hd0 (split (unB s.f)) with
        | false => rfl
        | true => exact (hh ⟨c, e⟩).elim
      rw [this]; simp
    · rw [decide_eq_false c]; rfl
  · rintro ⟨i, s, hi, h1, h4, h5, h6, hm, h8, h7⟩
    unfold mch at hm
    simp only [Bool.and_eq_true, decide_eq_true_eq, Bool.not_eq_true', Bool.and_eq_false_iff, decide_eq_false_iff_not] at hm
    obtain ⟨⟨⟨m1, m2⟩, m3⟩, m4⟩ := hm
    obtain ⟨g, hg, gA, gz⟩ := (h (levels s.f) y z).2 ((hold_iff l _ y z).2 ⟨i, s, h1, m1, rfl, h4, h5, h6, h7.symm, h8⟩)
    refine ⟨m2, g, hg, ?_, ?_, gz⟩
    · rw [gA, levels_split]
      rintro ⟨c1, c2⟩
      rcases m3 with c | c
      · exact c c1
      · rw [c2] at c; cases c
    · rw [gA, levels_split, levels_split]; exact m4
/-- The greatest, or -1. -/
def Mx (S : Int → Prop) (q : Int) : Prop := (q = -1 ∧ ∀ z, ¬ S z) ∨ (S q ∧ 0 ≤ q ∧ q ≤ 2 ∧ ∀ z, S z → z ≤ q)
theorem Mx.congr {S S' : Int → Prop} {q : Int} (h : Mx S q) (e : ∀ z, S' z ↔ S z) : Mx S' q := by
  rcases h with ⟨h1, h2⟩ | ⟨h1, h2, h3, h4⟩
  · exact .inl ⟨h1, fun z c => h2 z ((e z).1 c)⟩
  · exact .inr ⟨(e q).2 h1, h2, h3, fun z c => h4 z ((e z).1 c)⟩
theorem Mx.rng {S : Int → Prop} {q : Int} (h : Mx S q) : -1 ≤ q ∧ q ≤ 2 := by rcases h with ⟨h1, _⟩ | ⟨_, h2, h3, _⟩ <;> omega
theorem Mx.add {S S' : Int → Prop} {q a : Int} (h : Mx S q) (a0 : 0 ≤ a) (a2 : a ≤ 2) (e : ∀ z, S' z ↔ S z ∨ z = a) : Mx S' (max q a) := by
  rcases h with ⟨rfl, h2⟩ | ⟨h1, h2, h3, h4⟩
  · rw [show max (-1 : Int) a = a by omega]
    exact .inr ⟨(e a).2 (.inr rfl), a0, a2, fun z c => by rcases (e z).1 c with c | c; exact (h2 z c).elim; omega⟩
  · refine .inr ⟨(e _).2 ?_, by omega, by omega, fun z c => by rcases (e z).1 c with c | c; have := h4 z c; omega; omega⟩
    by_cases c : q ≤ a
    · exact .inr (by omega)
    · rw [show max q a = q by omega]; exact .inl h1
theorem mx_best {S S' : Int → Prop} {q : Int} {o : Option Int} (h : Mx S q) (b : Best S' o) (e : ∀ z, S' z ↔ S z) : (o = none ∧ q = -1) ∨ (o = some q ∧ 0 ≤ q) := by
  cases o with
  | none =>
    rcases h with ⟨rfl, h2⟩ | ⟨h1, _⟩
    · exact .inl ⟨rfl, rfl⟩
    · exact (b q ((e q).2 h1)).elim
  | some z =>
    obtain ⟨b1, b2⟩ := b
    rcases h with ⟨rfl, h2⟩ | ⟨h1, h2, h3, h4⟩
    · exact (h2 z ((e z).1 b1)).elim
    · have e1 := b2 q ((e q).2 h1)
      have e2 := h4 z ((e z).1 b1)
      obtain rfl : z = q := by omega
      exact .inr ⟨rfl, h2⟩
theorem lwk_skip {l : List Sb} {y t : ByteArray} {k : Nat} {s : Sb} (hs : l[k]? = some s) (hn : ¬ (s.x = y ∧ 0 ≤ s.q ∧ s.q ≤ 2 ∧ mch s.f t = true ∧ Last l k s)) (z : Int) : LwK l y t (k + 1) z ↔ LwK l y t k z := by
  constructor
  · rintro ⟨i, s', h0, h1, h2, h3, h4, h5, h6, h7⟩
    by_cases c : i = k
    · subst c
      rw [hs] at h1
      cases h1
      exact (hn ⟨h2, h3, h4, h5, h6⟩).elim
    · exact ⟨i, s', by omega, h1, h2, h3, h4, h5, h6, h7⟩
  · rintro ⟨i, s', h0, h1⟩
    exact ⟨i, s', by omega, h1⟩
theorem lwk_add {l : List Sb} {y t : ByteArray} {k : Nat} {s : Sb} (hs : l[k]? = some s) (hn : s.x = y ∧ 0 ≤ s.q ∧ s.q ≤ 2 ∧ mch s.f t = true ∧ Last l k s) (z : Int) : LwK l y t (k + 1) z ↔ LwK l y t k z ∨ z = s.q := by
  constructor
  · rintro ⟨i, s', h0, h1, h2, h3, h4, h5, h6, h7⟩
    by_cases c : i = k
    · subst c
      rw [hs] at h1
      cases h1
      exact .inr h7
    · exact .inl ⟨i, s', by omega, h1, h2, h3, h4, h5, h6, h7⟩
  · rintro (⟨i, s', h0, h1⟩ | rfl)
    · exact ⟨i, s', by omega, h1⟩
    · exact ⟨k, s, by omega, hs, hn.1, hn.2.1, hn.2.2.1, hn.2.2.2.1, hn.2.2.2.2, rfl⟩
/-- A '#' stands only last. -/
theorem any_hash : ∀ {L : List ByteArray}, lvAny L = false → ∀ i x, L[i]? = some x → unB x = [35] → i + 1 = L.length
  | [], _, i, x, h, _ => by simp at h
  | t :: r, h, i, x, hi, hx => by
    simp only [lvAny, Bool.or_eq_false_iff] at h
    cases i with
    | zero =>
      simp at hi
      subst hi
      have h1 := h.1
      unfold lvX at h1
      simp only [Bool.or_eq_false_iff, Bool.and_eq_false_iff] at h1
      have hh : isHash t = true := by
        unfold isHash
        rw [Lib.toList_data, hash_list]
        have : t.data.toList = [35] := hx
        rw [this]; decide
      rcases h1.2 with c | c
      · rw [hh] at c; cases c
      · cases r with
        | nil => rfl
        | cons => simp at c
    | succ i =>
      have := any_hash h.2 i x (by simpa using hi) hx
      simp [this]
theorem gc_of {w : World} {tb m r P : Nat} {nf : Int} {T : List Fn} (h : TS w tb m r P nf T) {l : List Sb} (hE : ∀ F y z, HasE T F y z ↔ hold l F y z) (hl : l.length ≤ 1000) (hx : ∀ s ∈ l, s.x.size ≤ 1000000) : GC T (l.map (·.x)) := by
  have H : ∀ f ∈ T, ∀ y z, f.en y = some z → ∃ s ∈ l, rfc s.f = 0 ∧ levels s.f = f.s.A ∧ s.x = y ∧ 0 ≤ z := fun f hf y z e => by
    obtain ⟨i, s, h1, h2, h3, h4, h5, h6, h7, h8⟩ := (hold_iff l f.s.A y z).1 ((hE _ _ _).1 ⟨f, hf, rfl, e⟩)
    exact ⟨s, List.mem_of_getElem? h1, h2, h3, h4, by omega⟩
  refine ⟨fun f hf i x hi hx => ?_, fun f hf y z e => ?_, by rw [List.length_map]; omega⟩
  · have hne : f.s.A ≠ [] := fun e => by rw [e] at hi; simp at hi
    obtain ⟨g, hg, p, y, z, oy, e⟩ := h.leads hf hne
    obtain ⟨s, hs, r0, lv, _⟩ := H g hg y z e
    have la : lvAny g.s.A = false := by
      rw [← lv]
      unfold rfc at r0
      split at r0
      · split at r0
        · cases r0
        · rename_i c; simpa using c
      · rename_i c; exact (c r0).elim
    have hi' : g.s.A[i]? = some x := by
      obtain ⟨q, hq⟩ := p
      rw [← hq, List.getElem?_append_left (List.getElem?_eq_some_iff.1 hi).1]
      exact hi
    have h1 := any_hash la i x hi' hx
    have h2 := p.length_le
    have h3 := (List.getElem?_eq_some_iff.1 hi).1
    omega
  · obtain ⟨s, hs, _, _, rfl, z0⟩ := H f hf y z e
    exact ⟨List.mem_map_of_mem hs, by unfold okT maxLen; have := hx s hs; omega, z0⟩
end Go.Proofs.Ytepjcfhbbcaldaa.Li
