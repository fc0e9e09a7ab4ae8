import Derived.Test.YtglnldopnoafoaaCg
import Derived.Test.YtglnldopnoafoaaTxb
namespace Go.Proofs.Ytglnldopnoafoaa
open Go
set_option linter.unusedSimpArgs false
set_option linter.unusedVariables false

/-- Does a level hold a sign where none may be? -/
def badL (x : Bs) (more : Bool) : Bool := (decide (43 ∈ x ∨ 35 ∈ x) && decide (1 < x.length)) || (decide (x = [35]) && more)
def anyL : List Bs → Bool
  | [] => false
  | x :: r => badL x (!r.isEmpty) || anyL r
theorem hasS_mem (t : ByteArray) : hasS t = decide (43 ∈ unB t ∨ 35 ∈ unB t) := by
  have h1 := mem_atB t 43
  have h2 := mem_atB t 35
  cases hh : hasS t with
  | true =>
    obtain ⟨i, hi, h⟩ := (hsN_iff t t.size).1 hh
    rw [eq_comm, decide_eq_true_eq]
    rcases h with h | h
    · exact .inl (h1.2 ⟨i, hi, h⟩)
    · exact .inr (h2.2 ⟨i, hi, h⟩)
  | false =>
    rw [eq_comm, decide_eq_false_iff_not]
    rintro (h | h)
    · obtain ⟨i, hi, e⟩ := h1.1 h
      have : hasS t = true := (hsN_iff t t.size).2 ⟨i, hi, .inl e⟩
      rw [hh] at this; cases this
    · obtain ⟨i, hi, e⟩ := h2.1 h
      have : hasS t = true := (hsN_iff t t.size).2 ⟨i, hi, .inr e⟩
      rw [hh] at this; cases this
theorem lvX_bad (t : ByteArray) (more : Bool) : lvX t more = badL (unB t) more := by
  have h : isHash t = decide (unB t = [35]) := by unfold isHash; rw [eq_one]
  rw [lvX, badL, hasS_mem, h, un_size]
theorem lvAny_any : ∀ (l : List ByteArray), lvAny l = anyL (l.map unB)
  | [] => rfl
  | t :: r => by
    have e : (r.map unB).isEmpty = r.isEmpty := by cases r <;> rfl
    simp only [lvAny, List.map_cons, anyL, lvX_bad, e, lvAny_any r]
theorem rfc_split (s : ByteArray) : rfc s = if ct s = 0 then (if anyL (split (unB s)) then 52 else 0) else ct s := by
  rw [rfc, lvAny_any, levels_split]
theorem ct_iff (s : ByteArray) : ct s = 0 ↔ 0 < s.size ∧ txt s = true := by
  unfold ct
  by_cases h : s.size = 0
  · simp [h]
  · rw [if_neg h]
    cases ht : txt s
    · simp
    · simp; omega
theorem rfc_iff (s : ByteArray) : rfc s = 0 ↔ (0 < s.size ∧ txt s = true) ∧ anyL (split (unB s)) = false := by
  rw [rfc_split, ← ct_iff]
  by_cases h : ct s = 0
  · rw [if_pos h]
    cases anyL (split (unB s)) <;> simp [h]
  · rw [if_neg h]; simp [h]
theorem tcode_iff (s : ByteArray) : tcode s = 0 ↔ (0 < s.size ∧ txt s = true) ∧ (¬ 43 ∈ unB s ∧ ¬ 35 ∈ unB s) := by
  rw [tcode, ← ct_iff, sgn_has, hasS_mem]
  by_cases h : ct s = 0
  · rw [if_pos h]
    by_cases h2 : 43 ∈ unB s ∨ 35 ∈ unB s
    · simp only [h2, decide_true, if_true, h, true_and]
      constructor
      · intro e; cases e
      · rintro ⟨a, b⟩; rcases h2 with h2 | h2
        · exact absurd h2 a
        · exact absurd h2 b
    · have h3 : ¬ 43 ∈ unB s ∧ ¬ 35 ∈ unB s := ⟨fun h => h2 (.inl h), fun h => h2 (.inr h)⟩
      simp [h2, h, h3]
  · rw [if_neg h]; simp [h]
theorem split_mem : ∀ (l x : Bs) (c : UInt8), x ∈ split l → c ∈ x → c ∈ l
  | [], x, c, h, hc => by
    simp [split] at h; subst h; exact hc
  | d :: r, x, c, h, hc => by
    obtain ⟨p, t, e⟩ := split_some r
    by_cases hd : d = 47
    · subst hd
      rw [split_slash] at h
      rcases List.mem_cons.1 h with rfl | h
      · cases hc
      · exact List.mem_cons_of_mem _ (split_mem r x c h hc)
    · rw [split_plain d r p t hd e] at h
      rcases List.mem_cons.1 h with rfl | h
      · rcases List.mem_cons.1 hc with rfl | hc
        · exact List.mem_cons_self
        · exact List.mem_cons_of_mem _ (split_mem r p c (by rw [e]; exact List.mem_cons_self) hc)
      · exact List.mem_cons_of_mem _ (split_mem r x c (by rw [e]; exact List.mem_cons_of_mem _ h) hc)
/-- No level has a sign. -/
def Plain (l : List Bs) : Prop := ∀ x ∈ l, ¬ 43 ∈ x ∧ ¬ 35 ∈ x
theorem plain_topic (s : ByteArray) (h : tcode s = 0) : Plain (split (unB s)) := fun x hx =>
  ⟨fun h1 => ((tcode_iff s).1 h).2.1 (split_mem _ _ _ hx h1), fun h1 => ((tcode_iff s).1 h).2.2 (split_mem _ _ _ hx h1)⟩
theorem plain_any : ∀ (l : List Bs), Plain l → anyL l = false
  | [], _ => rfl
  | x :: r, h => by
    have h1 := h x List.mem_cons_self
    have h2 : ¬ x = [35] := fun e => h1.2 (by rw [e]; simp)
    simp [anyL, badL, h1.1, h1.2, h2, plain_any r (fun y hy => h y (List.mem_cons_of_mem _ hy))]
theorem plain_hd (l : List Bs) (h : Plain l) : hd0 l = false := by
  cases l with
  | nil => rfl
  | cons x r =>
    have h1 := h x List.mem_cons_self
    have h2 : ¬ x = [35] := fun e => h1.2 (by rw [e]; simp)
    have h3 : ¬ x = [43] := fun e => h1.1 (by rw [e]; simp)
    simp [hd0, h2, h3]
theorem topic_filter (s : ByteArray) (h : tcode s = 0) : rfc s = 0 :=
  (rfc_iff s).2 ⟨((tcode_iff s).1 h).1, plain_any _ (plain_topic s h)⟩
theorem mt_plain : ∀ (l t : List Bs), Plain l → (mt l t = decide (l = t))
  | [], [], _ => rfl
  | [], _ :: _, _ => by simp [mt]
  | x :: r, t, h => by
    have h1 := h x List.mem_cons_self
    have h2 : ¬ x = [35] := fun e => h1.2 (by rw [e]; simp)
    have h3 : ¬ x = [43] := fun e => h1.1 (by rw [e]; simp)
    cases t with
    | nil => simp [mt, h2]
    | cons y u =>
      by_cases e : x = y
      · subst e
        simp only [mt, h2, if_false, ne_eq, not_true_eq_false, and_false]
        rw [mt_plain r u (fun z hz => h z (List.mem_cons_of_mem _ hz))]
        simp
      · simp [mt, h2, h3, e]
/-- A topic as a filter matches itself alone. -/
theorem mch_plain (t other : ByteArray) (h : tcode t = 0) : mch t other = (decide (unB t = unB other) && decide (tcode other = 0)) := by
  have hp := plain_topic t h
  rw [mch, topic_filter t h, plain_hd _ hp, mt_plain _ _ hp]
  by_cases e : unB t = unB other
  · rw [e]; simp
  · have : ¬ split (unB t) = split (unB other) := fun h => e (split_inj h)
    simp [e, this]

theorem mt_set : ∀ (l t : List Bs) (i : Nat) (y : Bs), l[i]? = some y → ¬ y = [35] → mt l t = true → mt (l.set i [43]) t = true
  | [], t, i, y, h, _, _ => by simp at h
  | x :: r, t, 0, y, h, hy, hm => by
    simp at h
    subst h
    cases t with
    | nil => simp [mt, hy] at hm
    | cons z u =>
      simp only [List.set_cons_zero, mt]
      rw [if_neg (by decide), if_neg (fun h => h.1 rfl)]
      simp only [mt, hy, if_false] at hm
      split at hm
      · cases hm
      · exact hm
  | x :: r, t, i + 1, y, h, hy, hm => by
    simp at h
    simp only [List.set_cons_succ]
    by_cases hx : x = [35]
    · simp [mt, hx]
    · cases t with
      | nil => simp [mt, hx] at hm
      | cons z u =>
        simp only [mt, hx, if_false] at hm ⊢
        split at hm
        · cases hm
        · rename_i hn
          rw [if_neg hn]
          exact mt_set r u i y h hy hm
theorem any_set : ∀ (l : List Bs) (i : Nat), anyL l = false → anyL (l.set i [43]) = false
  | [], i, h => by simpa using h
  | x :: r, 0, h => by
    simp only [List.set_cons_zero, anyL, Bool.or_eq_false_iff] at h ⊢
    refine ⟨?_, h.2⟩
    simp [badL]
  | x :: r, i + 1, h => by
    simp only [List.set_cons_succ, anyL, Bool.or_eq_false_iff] at h ⊢
    have e : (r.set i [43]).isEmpty = r.isEmpty := by cases r <;> cases i <;> rfl
    rw [e]
    exact ⟨h.1, any_set r i h.2⟩
/-- Where the last level is no number sign, none is. -/
theorem no_hash : ∀ (l : List Bs), anyL l = false → (∀ y, l.getLast? = some y → ¬ y = [35]) → ∀ x ∈ l, ¬ x = [35]
  | [], _, _, x, h => by cases h
  | [x], _, hl, y, h => by
    simp at h; subst h; exact hl y (by simp)
  | x :: z :: r, ha, hl, y, h => by
    simp only [anyL, Bool.or_eq_false_iff] at ha
    rcases List.mem_cons.1 h with rfl | h
    · intro e
      have := ha.1
      simp [badL, e] at this
    · exact no_hash (z :: r) (by simp only [anyL, Bool.or_eq_false_iff]; exact ha.2) (fun q hq => hl q (by simpa using hq)) y h
theorem any_more : ∀ (l m : List Bs), anyL l = false → (∀ x ∈ l, ¬ x = [35]) → anyL m = false → anyL (l ++ m) = false
  | [], m, _, _, hm => hm
  | x :: r, m, h, hx, hm => by
    simp only [List.cons_append, anyL, Bool.or_eq_false_iff] at h ⊢
    have h1 := hx x List.mem_cons_self
    refine ⟨?_, any_more r m h.2 (fun y hy => hx y (List.mem_cons_of_mem _ hy)) hm⟩
    have := h.1
    simp only [badL, h1, decide_false, Bool.false_and, Bool.or_false] at this ⊢
    exact this
theorem mt_more : ∀ (l t : List Bs), (∀ x ∈ l, ¬ x = [35]) → mt (l ++ [[35]]) t = (mt l t || mt (l ++ [[43], [35]]) t)
  | [], [], _ => by simp [mt]
  | [], x :: r, _ => by simp [mt]
  | x :: r, t, h => by
    have h1 := h x List.mem_cons_self
    have ih := fun u => mt_more r u (fun y hy => h y (List.mem_cons_of_mem _ hy))
    cases t with
    | nil => simp [mt, h1]
    | cons y u =>
      simp only [List.cons_append, mt, h1, if_false]
      split
      · rfl
      · exact ih u
theorem hd_more (l m : List Bs) (h : l ≠ []) : hd0 (l ++ m) = hd0 l := by
  cases l with
  | nil => exact absurd rfl h
  | cons x r => rfl
theorem mt_swap : ∀ (f l : List Bs) (i : Nat) (x y z : Bs), f[i]? = some y → l[i]? = some x → ¬ x = y → ¬ z = y → mt f l = mt f (l.set i z)
  | [], l, i, x, y, z, h, _, _, _ => by simp at h
  | q :: r, [], i, x, y, z, _, h, _, _ => by simp at h
  | q :: r, p :: s, 0, x, y, z, h1, h2, hx, hz => by
    simp at h1 h2
    subst h1; subst h2
    have hx' : ¬ q = p := fun e => hx e.symm
    have hz' : ¬ q = z := fun e => hz e.symm
    simp only [List.set_cons_zero, mt]
    by_cases h : q = [35]
    · simp [h]
    · by_cases h43 : q = [43]
      · simp [h43]
      · simp [h, h43, hx', hz']
  | q :: r, p :: s, i + 1, x, y, z, h1, h2, hx, hz => by
    simp at h1 h2
    simp only [List.set_cons_succ, mt]
    by_cases h : q = [35]
    · simp [h]
    · simp only [h, if_false]
      split
      · rfl
      · exact mt_swap r s i x y z h1 h2 hx hz

/-- Is it a text, from its bytes? -/
def Gd (l : Bs) : Prop := good (mkB l)
theorem mk_size (l : Bs) : (mkB l).size = l.length := by rw [← un_size, un_mk]
theorem un_app (a b : ByteArray) : unB (a ++ b) = unB a ++ unB b := by
  show (a ++ b).data.toList = _
  simp [unB]
theorem mk_append (a b : Bs) : mkB (a ++ b) = mkB a ++ mkB b := un_inj (by rw [un_mk, un_app, un_mk, un_mk])
theorem gd_join (a b : Bs) (hab : a.length + b.length ≤ 65535) (h : Gd a) : Gd b ↔ Gd (a ++ b) := by
  unfold Gd
  rw [mk_append]
  exact good_join _ _ (by rw [mk_size, mk_size]; exact hab) h
theorem gd_cut (a b : Bs) (c : UInt8) (hc : c.toNat < 128) (hl : (a ++ c :: b).length ≤ 65535) (h : Gd (a ++ c :: b)) : Gd a ∧ Gd (c :: b) := by
  have hs : a.length < (mkB (a ++ c :: b)).size := by rw [mk_size]; simp
  have hat : atB (mkB (a ++ c :: b)) a.length = c.toNat := by rw [atB_un, un_mk]; simp
  have := good_cut (mkB (a ++ c :: b)) (by rw [mk_size]; exact hl) a.length hs h (by rw [hat]; omega)
  have e1 : (mkB (a ++ c :: b)).extract 0 a.length = mkB a := un_inj (by rw [un_extract, un_mk, un_mk]; simp)
  have e2 : (mkB (a ++ c :: b)).extract a.length (mkB (a ++ c :: b)).size = mkB (c :: b) := un_inj (by rw [un_extract, un_mk, un_mk, mk_size, List.take_of_length_le (Nat.le_refl _)]; simp)
  rw [e1, e2] at this
  exact this
theorem gd_slash : Gd [47] := by unfold Gd good; kernel_rfl
theorem gd_plus : Gd [43] := by unfold Gd good; kernel_rfl
theorem gd_levels : ∀ (l : List Bs), l ≠ [] → (joinL l).length ≤ 65535 → (Gd (joinL l) ↔ ∀ x ∈ l, Gd x)
  | [], h, _ => absurd rfl h
  | [x], _, _ => by simp [joinL]
  | x :: y :: r, _, hl => by
    simp only [joinL] at hl ⊢
    have hl' : (joinL (y :: r)).length ≤ 65535 := by simp only [List.length_append, List.length_cons] at hl; omega
    have hx : x.length ≤ 65535 := by simp only [List.length_append, List.length_cons] at hl; omega
    have hj : (47 :: joinL (y :: r)).length ≤ 65535 := by simp only [List.length_append, List.length_cons] at hl ⊢; omega
    have ih := gd_levels (y :: r) (by simp) hl'
    have hs : Gd (joinL (y :: r)) ↔ Gd (47 :: joinL (y :: r)) := gd_join [47] _ (by simp only [List.length_append, List.length_cons] at hl hl' ⊢; simp; omega) gd_slash
    constructor
    · intro h
      obtain ⟨h1, h2⟩ := gd_cut x _ 47 (by decide) hl h
      intro z hz
      rcases List.mem_cons.1 hz with rfl | hz
      · exact h1
      · exact ih.1 (hs.2 h2) z hz
    · intro h
      exact (gd_join x _ (by simp only [List.length_append, List.length_cons] at hl ⊢; omega) (h x List.mem_cons_self)).1 (hs.1 (ih.2 (fun z hz => h z (List.mem_cons_of_mem _ hz))))
theorem txt_gd (s : ByteArray) : txt s = true ↔ Gd (unB s) := by
  unfold Gd good txt
  rw [mk_un]; simp
theorem join_set_len : ∀ (l : List Bs) (i : Nat) (z : Bs), (joinL (l.set i z)).length ≤ (joinL l).length + z.length
  | [], i, z => by simp [joinL]
  | [x], 0, z => by simp [joinL]
  | [x], i + 1, z => by simp [joinL]
  | x :: y :: r, 0, z => by simp only [List.set_cons_zero, joinL, List.length_append, List.length_cons]; omega
  | x :: y :: r, 1, z => by
    have := join_set_len (y :: r) 0 z
    simp only [List.set_cons_succ, List.set_cons_zero, joinL, List.length_append, List.length_cons] at this ⊢; omega
  | x :: y :: r, i + 2, z => by
    have := join_set_len (y :: r) (i + 1) z
    simp only [List.set_cons_succ, joinL, List.length_append, List.length_cons] at this ⊢; omega
end Go.Proofs.Ytglnldopnoafoaa
