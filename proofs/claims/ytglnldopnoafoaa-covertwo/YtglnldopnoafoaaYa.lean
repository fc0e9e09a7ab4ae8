import Derived.Test.YtglnldopnoafoaaXa
import Derived.Test.YtglnldopnoafoaaCk
namespace Go.Proofs.Ytglnldopnoafoaa
open Go
set_option linter.unusedSimpArgs false
set_option linter.unusedVariables false

theorem split_lvl {f : ByteArray} (h : rfc f = 0) : ∀ x ∈ split (unB f), sgB x = false → Lvl x := by
  obtain ⟨⟨h1, h2⟩, h3⟩ := (rfc_iff f).1 h
  have hz := (rfc_zero h).1
  have hf := fil_any _ h3
  have hj := join_split (unB f)
  have hg : ∀ x ∈ split (unB f), Gd x := by
    have := (gd_levels (split (unB f)) (split_ne _) (by rw [hj, un_size]; exact hz)).1
    rw [hj] at this
    exact this ((txt_gd f).1 h2)
  exact fun x hx hs => ⟨hg x hx, split_none _ x hx, (fil_mem hf x hx hs).1, (fil_mem hf x hx hs).2⟩
theorem topic_lvl {t : ByteArray} (h : tcode t = 0) : ∀ x ∈ split (unB t), Lvl x := by
  have hp := plain_topic t h
  have hf := topic_filter t h
  intro x hx
  refine split_lvl hf x hx ?_
  rw [sgB_no]
  exact ⟨fun e => (hp x hx).1 (by rw [e]; simp), fun e => (hp x hx).2 (by rw [e]; simp)⟩
/-- Levels without the number sign at the end; was there one? -/
def tl (o : Bool) : List Bs := if o then [[35]] else []
structure Op (f : ByteArray) (x : List Bs) (o : Bool) : Prop where
  sp : split (unB f) = x ++ tl o
  no : ∀ a ∈ x, ¬ a = [35]
theorem mt_open : ∀ (x τ : List Bs) (o : Bool), (∀ a ∈ x, ¬ a = [35]) → (mt (x ++ tl o) τ = true ↔ (if o then x.length ≤ τ.length else x.length = τ.length) ∧ ∀ (i : Nat) (a b : Bs), x[i]? = some a → τ[i]? = some b → a = [43] ∨ a = b)
  | [], τ, true, _ => by simp [tl, mt]
  | [], τ, false, _ => by
    cases τ <;> simp [tl, mt]
  | a :: r, [], o, h => by
    have h1 := h a List.mem_cons_self
    cases o <;> simp [mt, h1]
  | a :: r, b :: s, o, h => by
    have h1 := h a List.mem_cons_self
    have ih := mt_open r s o (fun c hc => h c (List.mem_cons_of_mem _ hc))
    simp only [List.cons_append, mt, h1, if_false]
    by_cases hab : a ≠ [43] ∧ a ≠ b
    · rw [if_pos hab]
      constructor
      · intro h; cases h
      · rintro ⟨_, h2⟩
        have := h2 0 a b rfl rfl
        rcases this with h3 | h3
        · exact absurd h3 hab.1
        · exact absurd h3 hab.2
    · rw [if_neg hab, ih]
      have hab2 : a = [43] ∨ a = b := by
        by_cases e : a = [43]
        · exact .inl e
        · right
          apply Classical.byContradiction
          intro e2
          exact hab ⟨e, e2⟩
      constructor
      · rintro ⟨h2, h3⟩
        refine ⟨by cases o <;> simpa using h2, ?_⟩
        intro i c d hc hd
        cases i with
        | zero => simp at hc hd; subst hc; subst hd; exact hab2
        | succ i => exact h3 i c d (by simpa using hc) (by simpa using hd)
      · rintro ⟨h2, h3⟩
        refine ⟨by cases o <;> simpa using h2, ?_⟩
        intro i c d hc hd
        exact h3 (i + 1) c d (by simpa using hc) (by simpa using hd)
def fstS (x : List Bs) (o : Bool) : Bool :=
  match x with
  | [] => o
  | a :: _ => sgB a
theorem hd_dol {f : ByteArray} {x : List Bs} {o : Bool} (h : Op f x o) : hd0 (split (unB f)) = fstS x o := by
  rw [h.sp]
  cases x with
  | nil => cases o <;> rfl
  | cons a r => rfl
/-- A topic, made of levels, is in a filter's set. -/
theorem topicS {f : ByteArray} (hf : rfc f = 0) {x : List Bs} {o : Bool} (h : Op f x o) (τ : List Bs) (hne : τ ≠ []) (hj : joinL τ ≠ []) (hl : (joinL τ).length ≤ 65535) (hq : ∀ c ∈ τ, Lvl c) (hlen : if o then x.length ≤ τ.length else x.length = τ.length) (hm : ∀ (i : Nat) (a b : Bs), x[i]? = some a → τ[i]? = some b → a = [43] ∨ a = b) (hd : ∀ c r, τ = c :: r → dol c = true → hd0 (split (unB f)) = false) : mch f (mkB (joinL τ)) = true := by
  obtain ⟨ht, hs⟩ := is_topic τ hne hj hl hq
  rw [mch_iff]
  refine ⟨hf, ht, ?_, ?_⟩
  · cases τ with
    | nil => exact absurd rfl hne
    | cons c r =>
      rw [at_dol c r (mkB (joinL (c :: r))) (un_mk _)]
      rintro ⟨h1, h2⟩
      rw [hd c r rfl h1] at h2
      cases h2
  · rw [hs, h.sp]
    exact (mt_open x τ o h.no).2 ⟨hlen, hm⟩
/-- What is known of a topic in a filter's set. -/
theorem inS {f T : ByteArray} {x : List Bs} {o : Bool} (h : Op f x o) (hm : mch f T = true) : rfc f = 0 ∧ tcode T = 0 ∧ (∀ c r, split (unB T) = c :: r → dol c = true → hd0 (split (unB f)) = false) ∧ (if o then x.length ≤ (split (unB T)).length else x.length = (split (unB T)).length) ∧ ∀ (i : Nat) (a b : Bs), x[i]? = some a → (split (unB T))[i]? = some b → a = [43] ∨ a = b := by
  obtain ⟨h1, h2, h3, h4⟩ := (mch_iff f T).1 hm
  rw [h.sp] at h4
  obtain ⟨h5, h6⟩ := (mt_open x _ o h.no).1 h4
  refine ⟨h1, h2, ?_, h5, h6⟩
  intro c r e hd
  apply Bool.eq_false_iff.2
  intro h7
  apply h3
  refine ⟨(at_dol c r T ?_).2 hd, h7⟩
  rw [← e, join_split]
/-- Each plus an empty level; so many levels at least. -/
def fz (x : Bs) : Bs := if x = [43] then [] else x
def fillR (l : List Bs) (more : Nat) : List Bs := l.map fz ++ List.replicate (more - l.length) []
def aliveR (l : List Bs) (b : Bool) : List Bs := if l = [[]] then (if b then [[98]] else [[97]]) else l
def bothR (x y : Bs) : Option Bs := if x = [43] then some y else if y = [43] ∨ x = y then some x else none
def cAt (x y : List Bs) (k : Nat) : Option Bs := bothR (x[k]?.getD [43]) (y[k]?.getD [43])
def fitB (c : List Bs) : Bool := decide (1 ≤ (joinL c).length) && decide ((joinL c).length ≤ 65535)
def comB (c : List Bs) (f g : ByteArray) : Bool := fitB c && mch f (mkB (joinL c)) && mch g (mkB (joinL c))
def shoB (c : List Bs) (f g : ByteArray) : Bool := fitB c && mch f (mkB (joinL c)) && !mch g (mkB (joinL c))
theorem fitB_iff (c : List Bs) : fitB c = true ↔ joinL c ≠ [] ∧ (joinL c).length ≤ 65535 := by
  unfold fitB
  rw [Bool.and_eq_true, decide_eq_true_eq, decide_eq_true_eq]
  constructor
  · rintro ⟨h1, h2⟩; exact ⟨fun e => by rw [e] at h1; simp at h1, h2⟩
  · rintro ⟨h1, h2⟩; exact ⟨List.length_pos_iff.2 h1, h2⟩
theorem both_some {a b c : Bs} (h : bothR a b = some c) : (a = [43] ∨ a = c) ∧ (b = [43] ∨ b = c) ∧ (c = [43] → a = [43] ∧ b = [43]) := by
  unfold bothR at h
  split at h
  · rename_i ha
    simp only [Option.some.injEq] at h; subst h
    exact ⟨.inl ha, .inr rfl, fun e => ⟨ha, e⟩⟩
  · rename_i ha
    split at h
    · rename_i hb
      simp only [Option.some.injEq] at h; subst h
      refine ⟨.inr rfl, ?_, fun e => absurd e ha⟩
      rcases hb with hb | hb
      · exact .inl hb
      · exact .inr hb.symm
    · cases h
theorem both_none {a b : Bs} (h : bothR a b = none) : ¬ a = [43] ∧ ¬ b = [43] ∧ ¬ a = b := by
  unfold bothR at h
  split at h
  · cases h
  · rename_i ha
    split at h
    · cases h
    · rename_i hb
      simp only [not_or] at hb
      exact ⟨ha, hb.1, hb.2⟩
theorem fz_len (x : Bs) : (fz x).length ≤ x.length := by
  unfold fz; split <;> simp
theorem ref_len {f g T : ByteArray} {x y : List Bs} {ox oy : Bool} (hf : Op f x ox) (hg : Op g y oy) (h1 : mch f T = true) (h2 : mch g T = true) : ¬ (x.length < y.length ∧ ox = false) ∧ ¬ (y.length < x.length ∧ oy = false) := by
  obtain ⟨_, _, _, a, _⟩ := inS hf h1
  obtain ⟨_, _, _, b, _⟩ := inS hg h2
  constructor
  · rintro ⟨h3, rfl⟩
    simp at a
    cases oy <;> simp at b <;> omega
  · rintro ⟨h3, rfl⟩
    simp at b
    cases ox <;> simp at a <;> omega
theorem len_of {o : Bool} {n m : Nat} (h : if o then n ≤ m else n = m) : n ≤ m := by
  cases o <;> simp at h <;> omega
theorem pad_in {x : List Bs} {τ : List Bs} {k : Nat} {b : Bs} (hm : ∀ (i : Nat) (a b : Bs), x[i]? = some a → τ[i]? = some b → a = [43] ∨ a = b) (hb : τ[k]? = some b) : x[k]?.getD [43] = [43] ∨ x[k]?.getD [43] = b := by
  cases e : x[k]? with
  | none => exact .inl rfl
  | some a => exact hm k a b e hb
theorem ref_both {f g T : ByteArray} {x y : List Bs} {ox oy : Bool} (hf : Op f x ox) (hg : Op g y oy) (h1 : mch f T = true) (h2 : mch g T = true) (k : Nat) (hk : k < max x.length y.length) : ¬ cAt x y k = none := by
  obtain ⟨_, _, _, a1, a2⟩ := inS hf h1
  obtain ⟨_, _, _, b1, b2⟩ := inS hg h2
  have l1 := len_of a1
  have l2 := len_of b1
  obtain ⟨b, hb⟩ : ∃ b, (split (unB T))[k]? = some b := ⟨_, List.getElem?_eq_getElem (by omega)⟩
  intro h
  obtain ⟨n1, n2, n3⟩ := both_none h
  rcases pad_in a2 hb with e | e
  · exact n1 e
  · rcases pad_in b2 hb with e2 | e2
    · exact n2 e2
    · exact n3 (e.trans e2.symm)
theorem opp_len {o : Bool} {n m N : Nat} (h : if o then n ≤ m else n = m) (hN : N ≤ m) (hn : n ≤ N) : if o then n ≤ N else n = N := by
  cases o <;> simp at h ⊢ <;> omega
theorem ref_cand {f g T : ByteArray} {x y : List Bs} {ox oy : Bool} (hf : Op f x ox) (hg : Op g y oy) (h1 : mch f T = true) (h2 : mch g T = true) (l : List Bs) (hl : l.length = max x.length y.length) (hc : ∀ k, k < l.length → cAt x y k = l[k]?) : comB (aliveR (fillR l 1) false) f g = true ∨ (ox = true ∧ oy = true ∧ comB (fillR l 2) f g = true) := by
  obtain ⟨f1, ht, fd, a1, a2⟩ := inS hf h1
  obtain ⟨g1, _, gd, b1, b2⟩ := inS hg h2
  have l1 := len_of a1
  have l2 := len_of b1
  obtain ⟨τ, hτ⟩ : ∃ τ, split (unB T) = τ := ⟨_, rfl⟩
  have hTj : joinL τ = unB T := by rw [← hτ, join_split]
  have hTl := topic_lvl ht
  have hTz := tcode_zero ht
  rw [hτ] at fd gd a1 a2 b1 b2 l1 l2 hTl
  have hN : l.length ≤ τ.length := by omega
  -- a level of l
  have lev : ∀ (k : Nat) (c : Bs), l[k]? = some c → (c = [43] ∨ τ[k]? = some c) ∧ (∀ a, x[k]? = some a → a = [43] ∨ a = c) ∧ (∀ b, y[k]? = some b → b = [43] ∨ b = c) ∧ (c = [43] → (∀ a, x[k]? = some a → a = [43]) ∧ (∀ b, y[k]? = some b → b = [43])) := by
    intro k c hk
    have hk' := (List.getElem?_eq_some_iff.1 hk).1
    have e := hc k hk'
    rw [hk] at e
    obtain ⟨p1, p2, p3⟩ := both_some e
    obtain ⟨b, hb⟩ : ∃ b, τ[k]? = some b := ⟨_, List.getElem?_eq_getElem (by omega)⟩
    refine ⟨?_, fun a ha => ?_, fun b ha => ?_, fun hc43 => ⟨fun a ha => ?_, fun b ha => ?_⟩⟩
    · by_cases hc43 : c = [43]
      · exact .inl hc43
      · right
        rw [hb]
        unfold cAt bothR at e
        split at e
        · simp only [Option.some.injEq] at e
          rcases pad_in b2 hb with q | q
          · rw [← e] at hc43; exact absurd q hc43
          · rw [← e, q]
        · split at e
          · simp only [Option.some.injEq] at e
            rcases pad_in a2 hb with q | q
            · rw [← e] at hc43; exact absurd q hc43
            · rw [← e, q]
          · cases e
    · rw [ha] at p1; exact p1
    · rw [ha] at p2; exact p2
    · have := (p3 hc43).1; rw [ha] at this; exact this
    · have := (p3 hc43).2; rw [ha] at this; exact this
  have fzl : ∀ (k : Nat) (c : Bs), l[k]? = some c → fz c = [] ∨ (τ[k]? = some c ∧ fz c = c) := by
    intro k c hk
    by_cases e : c = [43]
    · exact .inl (by simp [fz, e])
    · rcases (lev k c hk).1 with q | q
      · exact absurd q e
      · exact .inr ⟨q, by simp [fz, e]⟩
  have put : ∀ (d : List Bs), comB d f g = true ↔ fitB d = true ∧ mch f (mkB (joinL d)) = true ∧ mch g (mkB (joinL d)) = true := by
    intro d
    unfold comB
    rw [Bool.and_eq_true, Bool.and_eq_true]
    exact ⟨fun ⟨⟨a, b⟩, c⟩ => ⟨a, b, c⟩, fun ⟨a, b, c⟩ => ⟨⟨a, b⟩, c⟩⟩
  by_cases h0 : l.length = 0
  · -- both are the number sign alone
    left
    have hl0 : l = [] := List.eq_nil_of_length_eq_zero h0
    have hx : x = [] := List.eq_nil_of_length_eq_zero (by omega)
    have hy : y = [] := List.eq_nil_of_length_eq_zero (by omega)
    have e : aliveR (fillR l 1) false = [[97]] := by rw [hl0]; rfl
    rw [e, put]
    subst hx; subst hy
    have hpos : 0 < τ.length := by rw [← hτ]; exact List.length_pos_iff.2 (split_ne _)
    have hox : ox = true := by cases ox with
      | true => rfl
      | false => simp at a1; omega
    have hoy : oy = true := by cases oy with
      | true => rfl
      | false => simp at b1; omega
    refine ⟨by decide, ?_, ?_⟩
    · exact topicS f1 hf [[97]] (by simp) (by simp [joinL]) (by simp [joinL]) (by intro c hc; simp at hc; subst hc; exact lvl_a) (by simp [hox]) (by intro i a b h; simp at h) (by intro c r e hd; simp only [List.cons.injEq] at e; rw [← e.1] at hd; exact absurd hd (by decide))
    · exact topicS g1 hg [[97]] (by simp) (by simp [joinL]) (by simp [joinL]) (by intro c hc; simp at hc; subst hc; exact lvl_a) (by simp [hoy]) (by intro i a b h; simp at h) (by intro c r e hd; simp only [List.cons.injEq] at e; rw [← e.1] at hd; exact absurd hd (by decide))
  · have e1 : fillR l 1 = l.map fz := by
      unfold fillR
      rw [show 1 - l.length = 0 by omega]
      simp
    have hd : ∀ (k : Nat) (d : Bs), (l.map fz)[k]? = some d → ∃ c, l[k]? = some c ∧ fz c = d := by
      intro k d h
      rw [List.getElem?_map] at h
      cases e : l[k]? with
      | none => rw [e] at h; cases h
      | some c => rw [e] at h; simp at h; exact ⟨c, rfl, h⟩
    by_cases hz : l.map fz = [[]]
    · have hl1 : l.length = 1 := by have := congrArg List.length hz; simpa using this
      obtain ⟨c, hc0⟩ : ∃ c, l[0]? = some c := ⟨_, List.getElem?_eq_getElem (by omega)⟩
      have hlc : l = [c] := by
        cases l with
        | nil => simp at hl1
        | cons p q =>
          simp at hl1
          subst hl1
          simp at hc0
          rw [hc0]
      have hfz : fz c = [] := by rw [hlc] at hz; simpa using hz
      obtain ⟨v1, v2, v3, v4⟩ := lev 0 c hc0
      by_cases hc43 : c = [43]
      · left
        have e : aliveR (fillR l 1) false = [[97]] := by rw [e1, hz]; rfl
        rw [e, put]
        have mm : ∀ (z : List Bs), z.length ≤ 1 → (∀ a, z[0]? = some a → a = [43]) → ∀ (i : Nat) (a b : Bs), z[i]? = some a → ([[97]] : List Bs)[i]? = some b → a = [43] ∨ a = b := by
          intro z hz1 hz2 i a b ha hb
          cases i with
          | zero => exact .inl (hz2 a ha)
          | succ i => simp at hb
        refine ⟨by decide, ?_, ?_⟩
        · exact topicS f1 hf [[97]] (by simp) (by simp [joinL]) (by simp [joinL]) (by intro c hc; simp at hc; subst hc; exact lvl_a) (opp_len a1 (by simp; omega) (by simp; omega)) (mm x (by omega) (v4 hc43).1) (by intro c r e hd; simp only [List.cons.injEq] at e; rw [← e.1] at hd; exact absurd hd (by decide))
        · exact topicS g1 hg [[97]] (by simp) (by simp [joinL]) (by simp [joinL]) (by intro c hc; simp at hc; subst hc; exact lvl_a) (opp_len b1 (by simp; omega) (by simp; omega)) (mm y (by omega) (v4 hc43).2) (by intro c r e hd; simp only [List.cons.injEq] at e; rw [← e.1] at hd; exact absurd hd (by decide))
      · right
        have hcn : c = [] := by rcases fzl 0 c hc0 with q | q; · simpa [fz, hc43] using q
                                · rw [← q.2]; exact hfz
        have hτ0 : τ[0]? = some [] := by rcases v1 with q | q; · exact absurd q hc43
                                         · rw [q, hcn]
        have hτ2 : 2 ≤ τ.length := by
          apply Classical.byContradiction
          intro h
          cases τ with
          | nil => simp at hτ0
          | cons p r =>
            cases r with
            | nil =>
              have hp : p = [] := by simpa using hτ0
              rw [hp] at hTj
              have hu : unB T = [] := hTj.symm
              have h9 := un_size T
              rw [hu] at h9
              simp at h9
              omega
            | cons p2 r2 => simp at h
        have hox : ox = true := by cases ox with
          | true => rfl
          | false => simp at a1; omega
        have hoy : oy = true := by cases oy with
          | true => rfl
          | false => simp at b1; omega
        have e : fillR l 2 = [[], []] := by rw [hlc, hcn]; rfl
        refine ⟨hox, hoy, ?_⟩
        rw [e, put]
        have mm : ∀ (z : List Bs), z.length ≤ 1 → (∀ a, z[0]? = some a → a = [43] ∨ a = c) → ∀ (i : Nat) (a b : Bs), z[i]? = some a → ([[], []] : List Bs)[i]? = some b → a = [43] ∨ a = b := by
          intro z hz1 hz2 i a b ha hb
          cases i with
          | zero =>
            have hb2 : b = c := by rw [hcn]; simpa using hb.symm
            rw [hb2]; exact hz2 a ha
          | succ i => have := (List.getElem?_eq_some_iff.1 ha).1; omega
        have hL : ∀ c ∈ ([[], []] : List Bs), Lvl c := by intro c hc; simp at hc; subst hc; exact lvl_nil
        refine ⟨by decide, ?_, ?_⟩
        · exact topicS f1 hf [[], []] (by simp) (by simp [joinL]) (by simp [joinL]) hL (by simp [hox]; omega) (mm x (by omega) v2) (by intro c r e hd; simp only [List.cons.injEq] at e; rw [← e.1] at hd; exact absurd hd (by decide))
        · exact topicS g1 hg [[], []] (by simp) (by simp [joinL]) (by simp [joinL]) hL (by simp [hoy]; omega) (mm y (by omega) v3) (by intro c r e hd; simp only [List.cons.injEq] at e; rw [← e.1] at hd; exact absurd hd (by decide))
    · left
      have e : aliveR (fillR l 1) false = l.map fz := by rw [e1]; simp [aliveR, hz]
      rw [e, put]
      have hne : l.map fz ≠ [] := by intro h; apply h0; simpa using h
      have hj : joinL (l.map fz) ≠ [] := fun h => hz (join_nil h hne)
      have hsh : Sh (l.map fz) τ := by
        have : ∀ (d u : List Bs), d.length ≤ u.length → (∀ (k : Nat) (p q : Bs), d[k]? = some p → u[k]? = some q → p.length ≤ q.length) → Sh d u := by
          intro d
          induction d with
          | nil => intro u _ _; trivial
          | cons p r ih =>
            intro u h1 h2
            cases u with
            | nil => simp at h1
            | cons q s => exact ⟨h2 0 p q rfl rfl, ih s (by simpa using h1) (fun k a b ha hb => h2 (k + 1) a b (by simpa using ha) (by simpa using hb))⟩
        refine this _ _ (by simpa using hN) ?_
        intro k p q hp hq
        obtain ⟨c, hc1, hc2⟩ := hd k p hp
        rcases fzl k c hc1 with z | ⟨z1, z2⟩
        · rw [← hc2, z]; simp
        · rw [z1] at hq
          simp only [Option.some.injEq] at hq
          rw [← hc2, z2, hq]; exact Nat.le_refl _
      have hlen : (joinL (l.map fz)).length ≤ 65535 := by
        have := sh_join _ _ hsh
        rw [hTj, un_size] at this
        omega
      have hL : ∀ c ∈ l.map fz, Lvl c := by
        intro d hdm
        obtain ⟨k, hk⟩ := List.getElem?_of_mem hdm
        obtain ⟨c, hc1, hc2⟩ := hd k d hk
        rcases fzl k c hc1 with z | ⟨z1, z2⟩
        · rw [← hc2, z]; exact lvl_nil
        · rw [← hc2, z2]; exact hTl c (List.mem_of_getElem? z1)
      have hdol : ∀ c r, l.map fz = c :: r → dol c = true → ∃ r2, τ = c :: r2 := by
        intro c r e hdc
        have h00 : (l.map fz)[0]? = some c := by rw [e]; rfl
        obtain ⟨c', hc1, hc2⟩ := hd 0 c h00
        rcases fzl 0 c' hc1 with z | ⟨z1, z2⟩
        · rw [← hc2, z] at hdc; cases hdc
        · rw [z2] at hc2
          subst hc2
          cases τ with
          | nil => simp at z1
          | cons p r2 => simp at z1; exact ⟨r2, by rw [z1]⟩
      have mm : ∀ (z : List Bs), (∀ (k : Nat) (c : Bs), l[k]? = some c → ∀ a, z[k]? = some a → a = [43] ∨ a = c) → ∀ (i : Nat) (a b : Bs), z[i]? = some a → (l.map fz)[i]? = some b → a = [43] ∨ a = b := by
        intro z hz2 i a b ha hb
        obtain ⟨c, hc1, hc2⟩ := hd i b hb
        rcases hz2 i c hc1 a ha with q | q
        · exact .inl q
        · by_cases e43 : c = [43]
          · exact .inl (q.trans e43)
          · right; rw [← hc2]; simp [fz, e43, q]
      refine ⟨(fitB_iff _).2 ⟨hj, hlen⟩, ?_, ?_⟩
      · exact topicS f1 hf _ hne hj hlen hL (opp_len a1 (by simpa using hN) (by simp; omega)) (mm x (fun k c h => (lev k c h).2.1)) (fun c r e hdc => by obtain ⟨r2, q⟩ := hdol c r e hdc; exact fd c r2 q hdc)
      · exact topicS g1 hg _ hne hj hlen hL (opp_len b1 (by simpa using hN) (by simp; omega)) (mm y (fun k c h => (lev k c h).2.2.1)) (fun c r e hdc => by obtain ⟨r2, q⟩ := hdol c r e hdc; exact gd c r2 q hdc)
end Go.Proofs.Ytglnldopnoafoaa
