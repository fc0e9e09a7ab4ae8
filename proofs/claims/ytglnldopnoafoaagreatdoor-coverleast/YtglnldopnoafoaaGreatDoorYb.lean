import Derived.Test.YtglnldopnoafoaaGreatDoorCk
namespace Go.Proofs.YtglnldopnoafoaaGreatDoor
open Go
set_option linter.unusedSimpArgs false
set_option linter.unusedVariables false

theorem split_lvl {f : ByteArray} (h : rfc f = 0) : ∀ x ∈ split (unB f), sgB x = false → Lvl x := by
  obtain ⟨⟨h1, h2⟩, h3⟩ := (rfc_iff f).1 h
  have hz := (rfc_zero h).1
  have hf := fil_any _ h3
  have hj := join_split (unB f)
  have hg : ∀ x ∈ split (unB f), Gd x := by
    have := (gd_levels (split (unB f)) (split_ne _) (by rw [hj, un_size]; exact hz)).1
    rw [hj] at this
    exact this ((txt_gd f).1 h2)
  exact fun x hx hs => ⟨hg x hx, split_none _ x hx, (fil_mem hf x hx hs).1, (fil_mem hf x hx hs).2⟩
/-- Levels without the number sign at the end; was there one? -/
def tl (o : Bool) : List Bs := if o then [[35]] else []
structure Op (f : ByteArray) (x : List Bs) (o : Bool) : Prop where
  sp : split (unB f) = x ++ tl o
  no : ∀ a ∈ x, ¬ a = [35]
theorem mt_open : ∀ (x τ : List Bs) (o : Bool), (∀ a ∈ x, ¬ a = [35]) → (mt (x ++ tl o) τ = true ↔ (if o then x.length ≤ τ.length else x.length = τ.length) ∧ ∀ (i : Nat) (a b : Bs), x[i]? = some a → τ[i]? = some b → a = [43] ∨ a = b)
  | [], τ, true, _ => by simp [tl, mt]
  | [], τ, false, _ => by
    cases τ <;> simp [tl, mt]
  | a :: r, [], o, h => by
    have h1 := h a List.mem_cons_self
    cases o <;> simp [mt, h1]
  | a :: r, b :: s, o, h => by
    have h1 := h a List.mem_cons_self
    have ih := mt_open r s o (fun c hc => h c (List.mem_cons_of_mem _ hc))
    simp only [List.cons_append, mt, h1, if_false]
    by_cases hab : a ≠ [43] ∧ a ≠ b
    · rw [if_pos hab]
      constructor
      · intro h; cases h
      · rintro ⟨_, h2⟩
        have := h2 0 a b rfl rfl
        rcases this with h3 | h3
        · exact absurd h3 hab.1
        · exact absurd h3 hab.2
    · rw [if_neg hab, ih]
      have hab2 : a = [43] ∨ a = b := by
        by_cases e : a = [43]
        · exact .inl e
        · right
          apply Classical.byContradiction
          intro e2
          exact hab ⟨e, e2⟩
      constructor
      · rintro ⟨h2, h3⟩
        refine ⟨by cases o <;> simpa using h2, ?_⟩
        intro i c d hc hd
        cases i with
        | zero => simp at hc hd; subst hc; subst hd; exact hab2
        | succ i => exact h3 i c d (by simpa using hc) (by simpa using hd)
      · rintro ⟨h2, h3⟩
        refine ⟨by cases o <;> simpa using h2, ?_⟩
        intro i c d hc hd
        exact h3 (i + 1) c d (by simpa using hc) (by simpa using hd)
def fstS (x : List Bs) (o : Bool) : Bool :=
  match x with
  | [] => o
  | a :: _ => sgB a
theorem hd_dol {f : ByteArray} {x : List Bs} {o : Bool} (h : Op f x o) : hd0 (split (unB f)) = fstS x o := by
  rw [h.sp]
  cases x with
  | nil => cases o <;> rfl
  | cons a r => rfl
/-- A topic, made of levels, is in a filter's set. -/
theorem topicS {f : ByteArray} (hf : rfc f = 0) {x : List Bs} {o : Bool} (h : Op f x o) (τ : List Bs) (hne : τ ≠ []) (hj : joinL τ ≠ []) (hl : (joinL τ).length ≤ 65535) (hq : ∀ c ∈ τ, Lvl c) (hlen : if o then x.length ≤ τ.length else x.length = τ.length) (hm : ∀ (i : Nat) (a b : Bs), x[i]? = some a → τ[i]? = some b → a = [43] ∨ a = b) (hd : ∀ c r, τ = c :: r → dol c = true → hd0 (split (unB f)) = false) : mch f (mkB (joinL τ)) = true := by
  obtain ⟨ht, hs⟩ := is_topic τ hne hj hl hq
  rw [mch_iff]
  refine ⟨hf, ht, ?_, ?_⟩
  · cases τ with
    | nil => exact absurd rfl hne
    | cons c r =>
      rw [at_dol c r (mkB (joinL (c :: r))) (un_mk _)]
      rintro ⟨h1, h2⟩
      rw [hd c r rfl h1] at h2
      cases h2
  · rw [hs, h.sp]
    exact (mt_open x τ o h.no).2 ⟨hlen, hm⟩
/-- What is known of a topic in a filter's set. -/
theorem inS {f T : ByteArray} {x : List Bs} {o : Bool} (h : Op f x o) (hm : mch f T = true) : rfc f = 0 ∧ tcode T = 0 ∧ (∀ c r, split (unB T) = c :: r → dol c = true → hd0 (split (unB f)) = false) ∧ (if o then x.length ≤ (split (unB T)).length else x.length = (split (unB T)).length) ∧ ∀ (i : Nat) (a b : Bs), x[i]? = some a → (split (unB T))[i]? = some b → a = [43] ∨ a = b := by
  obtain ⟨h1, h2, h3, h4⟩ := (mch_iff f T).1 hm
  rw [h.sp] at h4
  obtain ⟨h5, h6⟩ := (mt_open x _ o h.no).1 h4
  refine ⟨h1, h2, ?_, h5, h6⟩
  intro c r e hd
  apply Bool.eq_false_iff.2
  intro h7
  apply h3
  refine ⟨(at_dol c r T ?_).2 hd, h7⟩
  rw [← e, join_split]
/-- Each plus an empty level; so many levels at least. -/
def fz (x : Bs) : Bs := if x = [43] then [] else x
def fillR (l : List Bs) (more : Nat) : List Bs := l.map fz ++ List.replicate (more - l.length) []
def aliveR (l : List Bs) (b : Bool) : List Bs := if l = [[]] then (if b then [[98]] else [[97]]) else l
def fitB (c : List Bs) : Bool := decide (1 ≤ (joinL c).length) && decide ((joinL c).length ≤ 65535)
def shoB (c : List Bs) (f g : ByteArray) : Bool := fitB c && mch f (mkB (joinL c)) && !mch g (mkB (joinL c))
theorem fitB_iff (c : List Bs) : fitB c = true ↔ joinL c ≠ [] ∧ (joinL c).length ≤ 65535 := by
  unfold fitB
  rw [Bool.and_eq_true, decide_eq_true_eq, decide_eq_true_eq]
  constructor
  · rintro ⟨h1, h2⟩; exact ⟨fun e => by rw [e] at h1; simp at h1, h2⟩
  · rintro ⟨h1, h2⟩; exact ⟨List.length_pos_iff.2 h1, h2⟩
theorem fz_len (x : Bs) : (fz x).length ≤ x.length := by
  unfold fz; split <;> simp
theorem len_of {o : Bool} {n m : Nat} (h : if o then n ≤ m else n = m) : n ≤ m := by
  cases o <;> simp at h <;> omega
theorem opp_len {o : Bool} {n m N : Nat} (h : if o then n ≤ m else n = m) (hN : N ≤ m) (hn : n ≤ N) : if o then n ≤ N else n = N := by
  cases o <;> simp at h ⊢ <;> omega
end Go.Proofs.YtglnldopnoafoaaGreatDoor

namespace Go.Proofs.YtglnldopnoafoaaGreatDoor
open Go
set_option linter.unusedSimpArgs false
set_option linter.unusedVariables false

theorem op_of (g : ByteArray) (h : rfc g = 0) : ∃ y o, Op g y o := by
  obtain ⟨⟨h1, h2⟩, h3⟩ := (rfc_iff g).1 h
  have hf := fil_any _ h3
  have key : ∀ l : List Bs, Fil l → ∃ y o, l = y ++ tl o ∧ ∀ a ∈ y, ¬ a = [35] := by
    intro l
    induction l with
    | nil => intro _; exact ⟨[], false, rfl, by simp⟩
    | cons c r ih =>
      intro hl
      by_cases e : c = [35]
      · refine ⟨[], true, ?_, by simp⟩
        rw [hl.1 e, e]; rfl
      · obtain ⟨y, o, h1, h2⟩ := ih hl.2.2
        refine ⟨c :: y, o, by rw [h1]; rfl, ?_⟩
        intro a ha
        rcases List.mem_cons.1 ha with rfl | ha
        · exact e
        · exact h2 a ha
  obtain ⟨y, o, h4, h5⟩ := key _ hf
  exact ⟨y, o, h4, h5⟩
/-- A candidate: what f says, and where it says nothing a short level. -/
theorem cand {f : ByteArray} (hf : rfc f = 0) {x : List Bs} {o : Bool} (h : Op f x o) (d : List Bs) (hlen : if o then x.length ≤ d.length else x.length = d.length) (hj : joinL d ≠ []) (hl : (joinL d).length ≤ 65535)
    (hd : ∀ (k : Nat) (b : Bs), d[k]? = some b → (∃ a, x[k]? = some a ∧ ¬ a = [43] ∧ b = a) ∨ ((∀ a, x[k]? = some a → a = [43]) ∧ (b = [] ∨ b = [97] ∨ b = [98]))) : mch f (mkB (joinL d)) = true ∧ split (unB (mkB (joinL d))) = d ∧ fitB d = true := by
  have hne : d ≠ [] := by intro e; rw [e] at hj; exact hj rfl
  have hmem : ∀ (k : Nat) (a : Bs), x[k]? = some a → a ∈ split (unB f) ∧ ¬ a = [35] := by
    intro k a ha
    have := List.mem_of_getElem? ha
    exact ⟨by rw [h.sp]; exact List.mem_append_left _ this, h.no a this⟩
  have hq : ∀ c ∈ d, Lvl c := by
    intro c hc
    obtain ⟨k, hk⟩ := List.getElem?_of_mem hc
    rcases hd k c hk with ⟨a, h1, h2, rfl⟩ | ⟨_, h2⟩
    · obtain ⟨m1, m2⟩ := hmem k c h1
      exact split_lvl hf c m1 ((sgB_no c).2 ⟨h2, m2⟩)
    · rcases h2 with rfl | rfl | rfl
      · exact lvl_nil
      · exact lvl_a
      · exact lvl_b
  obtain ⟨_, hs⟩ := is_topic d hne hj hl hq
  refine ⟨topicS hf h d hne hj hl hq hlen ?_ ?_, hs, (fitB_iff d).2 ⟨hj, hl⟩⟩
  · intro i a b ha hb
    rcases hd i b hb with ⟨a', h1, h2, rfl⟩ | ⟨h1, _⟩
    · rw [h1] at ha
      simp only [Option.some.injEq] at ha
      exact .inr ha.symm
    · exact .inl (h1 a ha)
  · intro c r e hdc
    have h0 : d[0]? = some c := by rw [e]; rfl
    rcases hd 0 c h0 with ⟨a, h1, h2, rfl⟩ | ⟨_, h2⟩
    · obtain ⟨m1, m2⟩ := hmem 0 c h1
      rw [hd_dol h]
      cases x with
      | nil => simp at h1
      | cons p q =>
        simp at h1
        subst h1
        exact (sgB_no p).2 ⟨h2, m2⟩
    · rcases h2 with rfl | rfl | rfl
      · exact absurd hdc (by decide)
      · exact absurd hdc (by decide)
      · exact absurd hdc (by decide)
theorem sho_no {c : List Bs} {f g : ByteArray} (h : ¬ shoB c f g = true) (h1 : mch f (mkB (joinL c)) = true) (h2 : fitB c = true) : mch g (mkB (joinL c)) = true := by
  apply Classical.byContradiction
  intro hn
  apply h
  unfold shoB
  rw [h1, h2]
  simpa using hn
theorem sho_yes {c : List Bs} {f g : ByteArray} (h : shoB c f g = true) : ∃ T, mch f T = true ∧ mch g T = false := by
  unfold shoB at h
  simp only [Bool.and_eq_true, Bool.not_eq_true'] at h
  exact ⟨_, h.1.2, h.2⟩
theorem sh_of : ∀ (d u : List Bs), d.length ≤ u.length → (∀ (k : Nat) (p q : Bs), d[k]? = some p → u[k]? = some q → p.length ≤ q.length) → Sh d u := by
  intro d
  induction d with
  | nil => intro u _ _; trivial
  | cons p r ih =>
    intro u h1 h2
    cases u with
    | nil => simp at h1
    | cons q s => exact ⟨h2 0 p q rfl rfl, ih s (by simpa using h1) (fun k a b ha hb => h2 (k + 1) a b (by simpa using ha) (by simpa using hb))⟩
theorem fill_at (x : List Bs) (n k : Nat) (b : Bs) (h : (fillR x n)[k]? = some b) : (∃ a, x[k]? = some a ∧ b = fz a) ∨ (x[k]? = none ∧ b = []) := by
  unfold fillR at h
  by_cases hk : k < x.length
  · rw [List.getElem?_append_left (by simpa using hk), List.getElem?_map, List.getElem?_eq_getElem hk] at h
    simp at h
    exact .inl ⟨x[k], List.getElem?_eq_getElem hk, h.symm⟩
  · rw [List.getElem?_append_right (by simpa using hk)] at h
    have := List.mem_of_getElem? h
    rw [List.mem_replicate] at this
    exact .inr ⟨List.getElem?_eq_none (by omega), this.2⟩
theorem fill_len' (x : List Bs) (n : Nat) : (fillR x n).length = max x.length n := by
  unfold fillR; simp; omega
theorem fill_ok (x : List Bs) (n k : Nat) (b : Bs) (h : (fillR x n)[k]? = some b) : (∃ a, x[k]? = some a ∧ ¬ a = [43] ∧ b = a) ∨ ((∀ a, x[k]? = some a → a = [43]) ∧ (b = [] ∨ b = [97] ∨ b = [98])) := by
  rcases fill_at x n k b h with ⟨a, h1, h2⟩ | ⟨h1, h2⟩
  · by_cases e : a = [43]
    · right
      refine ⟨fun c hc => ?_, .inl (by rw [h2, e]; rfl)⟩
      rw [h1] at hc; simp only [Option.some.injEq] at hc; rw [← hc]; exact e
    · left
      exact ⟨a, h1, e, by rw [h2]; simp [fz, e]⟩
  · right
    exact ⟨fun c hc => (by rw [h1] at hc; cases hc), .inl h2⟩
theorem set_ok (x d : List Bs) (i k : Nat) (b : Bs) (hd : ∀ (k : Nat) (b : Bs), d[k]? = some b → (∃ a, x[k]? = some a ∧ ¬ a = [43] ∧ b = a) ∨ ((∀ a, x[k]? = some a → a = [43]) ∧ (b = [] ∨ b = [97] ∨ b = [98]))) (hi : ∀ a, x[i]? = some a → a = [43]) (h : (d.set i [97])[k]? = some b) : (∃ a, x[k]? = some a ∧ ¬ a = [43] ∧ b = a) ∨ ((∀ a, x[k]? = some a → a = [43]) ∧ (b = [] ∨ b = [97] ∨ b = [98])) := by
  rw [List.getElem?_set] at h
  split at h
  · rename_i e
    subst e
    split at h
    · simp only [Option.some.injEq] at h
      exact .inr ⟨hi, .inr (.inl h.symm)⟩
    · cases h
  · exact hd k b h
/-- What g says of a topic made of levels that it matches. -/
theorem inG {g : ByteArray} {y : List Bs} {o : Bool} (h : Op g y o) (d : List Bs) (hs : split (unB (mkB (joinL d))) = d) (hm : mch g (mkB (joinL d)) = true) : (∀ c r, d = c :: r → dol c = true → hd0 (split (unB g)) = false) ∧ (if o then y.length ≤ d.length else y.length = d.length) ∧ ∀ (i : Nat) (a b : Bs), y[i]? = some a → d[i]? = some b → a = [43] ∨ a = b := by
  obtain ⟨_, _, h3, h4, h5⟩ := inS h hm
  rw [hs] at h3 h4 h5
  exact ⟨h3, h4, h5⟩
theorem one_len {x : List Bs} (h : fillR x (max x.length 1) = [[]]) : x = [] ∨ x = [[43]] ∨ x = [[]] := by
  have hl := congrArg List.length h
  rw [fill_len'] at hl
  cases x with
  | nil => exact .inl rfl
  | cons a r =>
    have hr : r = [] := List.eq_nil_of_length_eq_zero (by simp only [List.length_cons, List.length_nil] at hl; omega)
    subst hr
    right
    have : fz a = [] := by simpa [fillR] using h
    unfold fz at this
    split at this
    · rename_i e; exact .inl (by rw [e])
    · exact .inr (by rw [this])
set_option maxHeartbeats 1000000 in
theorem ref_out {f g T : ByteArray} {x : List Bs} {ox : Bool} (hf : Op f x ox) (h1 : mch f T = true) (h2 : mch g T = false)
    (N1 : ¬ shoB (aliveR (fillR x (max x.length 1)) false) f g = true) (N2 : ¬ shoB (aliveR (fillR x (max x.length 1)) true) f g = true) (N3 : ox = true → ¬ shoB (fillR x (max x.length 1 + 1)) f g = true)
    (N4 : rfc g = 0 → ∀ y oy, Op g y oy → ox = true → ∀ n, max x.length 1 + 2 ≤ n → n ≤ max (max x.length 1) y.length + 1 → ¬ shoB (fillR x n) f g = true)
    (N5 : rfc g = 0 → ∀ y oy, Op g y oy → ∀ i, i < y.length → ¬ (i < x.length ∧ ¬ x[i]? = some [43]) → ¬ (x.length ≤ i ∧ ox = false) → y[i]? = some [] → ¬ shoB ((fillR x (max (max x.length 1) (i + 1))).set i [97]) f g = true) : False := by
  obtain ⟨f1, ht, fd, a1, a2⟩ := inS hf h1
  obtain ⟨τ, hτ⟩ : ∃ τ, split (unB T) = τ := ⟨_, rfl⟩
  have hTj : joinL τ = unB T := by rw [← hτ, join_split]
  have hTz := tcode_zero ht
  have hpos : 0 < τ.length := by rw [← hτ]; exact List.length_pos_iff.2 (split_ne _)
  rw [hτ] at fd a1 a2
  have l1 := len_of a1
  have hfl : (joinL (split (unB f))).length ≤ 65535 := by rw [join_split, un_size]; exact (rfc_zero f1).1
  -- what would make T a topic of g
  have fin : ∀ y oy, Op g y oy → rfc g = 0 → (∀ c r, τ = c :: r → dol c = true → hd0 (split (unB g)) = false) → (if oy then y.length ≤ τ.length else y.length = τ.length) → (∀ (i : Nat) (a b : Bs), y[i]? = some a → τ[i]? = some b → a = [43] ∨ a = b) → False := by
    intro y oy hg g1 q1 q2 q3
    have : mch g T = true := by
      rw [mch_iff]
      refine ⟨g1, ht, ?_, ?_⟩
      · rintro ⟨h3, h4⟩
        cases hc : τ with
        | nil => rw [hc] at hpos; simp at hpos
        | cons c r =>
          rw [at_dol c r T (by rw [← hTj, hc])] at h3
          rw [q1 c r hc h3] at h4
          cases h4
      · rw [hτ, hg.sp]
        exact (mt_open y τ oy hg.no).2 ⟨q2, q3⟩
    rw [this] at h2; cases h2
  obtain ⟨d0, hd00⟩ : ∃ d, fillR x (max x.length 1) = d := ⟨_, rfl⟩
  have hd0l : d0.length = max x.length 1 := by rw [← hd00, fill_len']; omega
  have ok0 := fun k b h => fill_ok x (max x.length 1) k b h
  rw [hd00] at ok0 N1 N2
  by_cases hz : d0 = [[]]
  · rw [hz] at N1 N2
    have hx := one_len (hd00.trans hz)
    have small : ∀ d : List Bs, (d = [[97]] ∨ d = [[98]] ∨ d = [[], []]) → joinL d ≠ [] ∧ (joinL d).length ≤ 65535 := by
      rintro d (rfl | rfl | rfl) <;> exact ⟨by simp [joinL], by simp [joinL]⟩
    have hcase : (x = [] ∨ x = [[43]]) ∨ x = [[]] := by
      rcases hx with h | h | h
      · exact .inl (.inl h)
      · exact .inl (.inr h)
      · exact .inr h
    rcases hcase with hx | hx
    · have hx0 : ∀ (k : Nat) (a : Bs), x[k]? = some a → a = [43] := by
        intro k a ha
        rcases hx with rfl | rfl
        · simp at ha
        · cases k with
          | zero => simp at ha; exact ha.symm
          | succ k => simp at ha
      have hxl : x.length ≤ 1 := by rcases hx with rfl | rfl <;> simp
      have okS : ∀ d : List Bs, (∀ b ∈ d, b = [] ∨ b = [97] ∨ b = [98]) → ∀ (k : Nat) (b : Bs), d[k]? = some b → (∃ a, x[k]? = some a ∧ ¬ a = [43] ∧ b = a) ∨ ((∀ a, x[k]? = some a → a = [43]) ∧ (b = [] ∨ b = [97] ∨ b = [98])) := fun d hd k b hb => .inr ⟨hx0 k, hd b (List.mem_of_getElem? hb)⟩
      have lenS : if ox then x.length ≤ 1 else x.length = 1 := opp_len a1 (by omega) hxl
      obtain ⟨c1, c2, c3⟩ := cand f1 hf [[97]] lenS (small _ (.inl rfl)).1 (small _ (.inl rfl)).2 (okS _ (by simp))
      obtain ⟨e1, e2, e3⟩ := cand f1 hf [[98]] lenS (small _ (.inr (.inl rfl))).1 (small _ (.inr (.inl rfl))).2 (okS _ (by simp))
      have g97 := sho_no (c := [[97]]) (f := f) (g := g) (by simpa [aliveR] using N1) c1 c3
      have g98 := sho_no (c := [[98]]) (f := f) (g := g) (by simpa [aliveR] using N2) e1 e3
      have g1 : rfc g = 0 := ((mch_iff g _).1 g97).1
      obtain ⟨y, oy, hg⟩ := op_of g g1
      obtain ⟨_, p2, p3⟩ := inG hg _ c2 g97
      obtain ⟨_, q2, q3⟩ := inG hg _ e2 g98
      have yl : y.length ≤ 1 := len_of p2
      have y0 : ∀ (i : Nat) (a : Bs), y[i]? = some a → a = [43] := by
        intro i a ha
        have hi := (List.getElem?_eq_some_iff.1 ha).1
        obtain rfl : i = 0 := by omega
        rcases p3 0 a [97] ha rfl with h | h
        · exact h
        · rcases q3 0 a [98] ha rfl with h' | h'
          · exact h'
          · rw [h] at h'; simp at h'
      have nodol : ∀ c r, τ = c :: r → dol c = true → hd0 (split (unB g)) = false := by
        intro c r e hdc
        have h5 := fd c r e hdc
        rw [hd_dol hf] at h5
        rcases hx with rfl | rfl
        · have h6 : ox = false := h5
          subst h6
          simp at a1
          omega
        · exact absurd h5 (by show ¬ sgB [43] = false; decide)
      refine fin y oy hg g1 nodol ?_ (fun i a b ha hb => .inl (y0 i a ha))
      cases hox : ox with
      | true =>
        obtain ⟨s1, s2, s3⟩ := cand f1 hf [[], []] (by simp [hox]; omega) (small _ (.inr (.inr rfl))).1 (small _ (.inr (.inr rfl))).2 (okS _ (by simp))
        have e : fillR x (max x.length 1 + 1) = [[], []] := by rcases hx with rfl | rfl <;> rfl
        have n3 := N3 hox
        rw [e] at n3
        have gg := sho_no n3 s1 s3
        obtain ⟨_, r2, _⟩ := inG hg _ s2 gg
        cases oy with
        | true => simp; omega
        | false => simp at r2 p2; omega
      | false =>
        rw [hox] at a1 lenS
        simp at a1 lenS
        cases oy with
        | true => simp; omega
        | false => simp at p2 ⊢; omega
    · subst hx
      have hτ0 : τ[0]? = some [] := by
        obtain ⟨b, hb⟩ : ∃ b, τ[0]? = some b := ⟨_, List.getElem?_eq_getElem hpos⟩
        rcases a2 0 [] b rfl hb with h | h
        · simp at h
        · rw [hb, ← h]
      have hτ2 : 2 ≤ τ.length := by
        apply Classical.byContradiction
        intro h
        cases τ with
        | nil => simp at hpos
        | cons p r =>
          cases r with
          | nil =>
            have hp : p = [] := by simpa using hτ0
            rw [hp] at hTj
            have hu : unB T = [] := hTj.symm
            have h9 := un_size T
            rw [hu] at h9
            simp at h9
            omega
          | cons p2 r2 => simp at h
      have hox : ox = true := by cases ox with
        | true => rfl
        | false => simp at a1; omega
      subst hox
      have okS : ∀ r : List Bs, (∀ b ∈ r, b = [] ∨ b = [97] ∨ b = [98]) → ∀ (k : Nat) (b : Bs), ([] :: r : List Bs)[k]? = some b → (∃ a, ([[]] : List Bs)[k]? = some a ∧ ¬ a = [43] ∧ b = a) ∨ ((∀ a, ([[]] : List Bs)[k]? = some a → a = [43]) ∧ (b = [] ∨ b = [97] ∨ b = [98])) := by
        intro r hr k b hb
        cases k with
        | zero => left; exact ⟨[], rfl, by simp, by simpa using hb.symm⟩
        | succ k => right; exact ⟨fun a ha => by simp at ha, hr b (List.mem_of_getElem? (by simpa using hb))⟩
      obtain ⟨s1, s2, s3⟩ := cand f1 hf [[], []] (by simp) (by simp [joinL]) (by simp [joinL]) (okS _ (by simp))
      have n3 := N3 rfl
      rw [show fillR [[]] (max ([[]] : List Bs).length 1 + 1) = [[], []] from rfl] at n3
      have gg := sho_no n3 s1 s3
      have g1 : rfc g = 0 := ((mch_iff g _).1 gg).1
      obtain ⟨y, oy, hg⟩ := op_of g g1
      obtain ⟨_, r2, r3⟩ := inG hg _ s2 gg
      have hoy : oy = true := by
        cases oy with
        | true => rfl
        | false =>
          exfalso
          have yl : y.length = 2 := by simpa using r2
          have n4 := N4 g1 y false hg rfl 3 (by simp) (by rw [yl]; simp)
          rw [show fillR [[]] 3 = [[], [], []] from rfl] at n4
          obtain ⟨t1, t2, t3⟩ := cand f1 hf [[], [], []] (by simp) (by simp [joinL]) (by simp [joinL]) (okS _ (by simp))
          have g3 := sho_no n4 t1 t3
          obtain ⟨_, u2, _⟩ := inG hg _ t2 g3
          simp at u2
          omega
      subst hoy
      have yl : y.length ≤ 2 := by simpa using r2
      refine fin y true hg g1 ?_ (by simp; omega) ?_
      · intro c r e hdc
        rw [e] at hτ0
        simp at hτ0
        rw [hτ0] at hdc
        exact absurd hdc (by decide)
      · intro i a b ha hb
        have hi := (List.getElem?_eq_some_iff.1 ha).1
        have hi2 : i = 0 ∨ i = 1 := by omega
        rcases hi2 with rfl | rfl
        · rw [hτ0] at hb
          simp only [Option.some.injEq] at hb
          rw [← hb]
          exact r3 0 a [] ha rfl
        · rcases r3 1 a [] ha rfl with h | h
          · exact .inl h
          · exfalso
            have n5 := N5 g1 y true hg 1 hi (by simp) (by simp) (by rw [ha, h])
            rw [show (fillR [[]] (max (max ([[]] : List Bs).length 1) (1 + 1))).set 1 [97] = [[], [97]] from rfl] at n5
            obtain ⟨t1, t2, t3⟩ := cand f1 hf [[], [97]] (by simp) (by simp [joinL]) (by simp [joinL]) (okS _ (by simp))
            have g3 := sho_no n5 t1 t3
            obtain ⟨_, _, u3⟩ := inG hg _ t2 g3
            rcases u3 1 a [97] ha rfl with q | q
            · rw [h] at q; simp at q
            · rw [h] at q; simp at q
  · -- the shortest topic has more than an empty level
    have hne : d0 ≠ [] := by intro e; rw [e] at hd0l; simp at hd0l; omega
    have hj0 : joinL d0 ≠ [] := fun e => hz (join_nil e hne)
    have hxpos : 0 < x.length := by
      apply Classical.byContradiction
      intro h
      have : x = [] := List.eq_nil_of_length_eq_zero (by omega)
      apply hz
      rw [← hd00, this]
      rfl
    have hleast : max x.length 1 = x.length := by omega
    have hd0l' : d0.length = x.length := by omega
    have hsp : (split (unB f)).length = x.length + (tl ox).length := by rw [hf.sp]; simp
    have hxs : ∀ (k : Nat) (a : Bs), x[k]? = some a → (split (unB f))[k]? = some a := by
      intro k a ha
      rw [hf.sp, List.getElem?_append_left (List.getElem?_eq_some_iff.1 ha).1]
      exact ha
    have alive0 : ∀ b, aliveR d0 b = d0 := fun b => by simp [aliveR, hz]
    rw [alive0] at N1
    have bound : ∀ d : List Bs, d.length = x.length → (∀ (k : Nat) (b : Bs), d[k]? = some b → (∃ a, x[k]? = some a ∧ ¬ a = [43] ∧ b = a) ∨ ((∀ a, x[k]? = some a → a = [43]) ∧ (b = [] ∨ b = [97] ∨ b = [98]))) → (joinL d).length ≤ 65535 := by
      intro d hdl hok
      have hs : Sh d (split (unB f)) := by
        refine sh_of _ _ (by omega) ?_
        intro k p q hp hq
        have hk : k < x.length := by have := (List.getElem?_eq_some_iff.1 hp).1; omega
        obtain ⟨a, ha⟩ : ∃ a, x[k]? = some a := ⟨_, List.getElem?_eq_getElem hk⟩
        rw [hxs k a ha] at hq
        simp only [Option.some.injEq] at hq
        subst hq
        rcases hok k p hp with ⟨a', h3, _, rfl⟩ | ⟨h3, h4⟩
        · rw [h3] at ha; simp only [Option.some.injEq] at ha; rw [ha]; exact Nat.le_refl _
        · rw [h3 a ha]
          rcases h4 with rfl | rfl | rfl <;> simp
      exact Nat.le_trans (sh_join _ _ hs) hfl
    obtain ⟨c1, c2, c3⟩ := cand f1 hf d0 (by rw [hd0l']; cases ox <;> simp) hj0 (bound d0 hd0l' ok0) ok0
    have g0 := sho_no N1 c1 c3
    have g1 : rfc g = 0 := ((mch_iff g _).1 g0).1
    obtain ⟨y, oy, hg⟩ := op_of g g1
    obtain ⟨p1, p2, p3⟩ := inG hg _ c2 g0
    have yl : y.length ≤ x.length := by have := len_of p2; omega
    refine fin y oy hg g1 ?_ ?_ ?_
    · intro c r e hdc
      have h5 := fd c r e hdc
      rw [hd_dol hf] at h5
      cases hx : x with
      | nil => rw [hx] at hxpos; simp at hxpos
      | cons a q =>
        rw [hx] at h5
        have h5' : sgB a = false := h5
        obtain ⟨s1, s2⟩ := (sgB_no a).1 h5'
        have hx0 : x[0]? = some a := by rw [hx]; rfl
        have ht0 : τ[0]? = some c := by rw [e]; rfl
        have hac : a = c := by
          rcases a2 0 a c hx0 ht0 with q | q
          · exact absurd q s1
          · exact q
        cases hd : d0 with
        | nil => exact absurd hd hne
        | cons b q2 =>
          refine p1 b q2 hd ?_
          have hb0 : d0[0]? = some b := by rw [hd]; rfl
          rcases ok0 0 b hb0 with ⟨a', h6, _, rfl⟩ | ⟨h6, _⟩
          · rw [hx0] at h6; simp only [Option.some.injEq] at h6; rw [← h6, hac]; exact hdc
          · exact absurd (h6 a hx0) s1
    · cases hox : ox with
      | true =>
        have hd1l : (fillR x (max x.length 1 + 1)).length = x.length + 1 := by rw [fill_len']; omega
        have hb1 : (joinL (fillR x (max x.length 1 + 1))).length ≤ 65535 := by
          have hs : Sh (fillR x (max x.length 1 + 1)) (split (unB f)) := by
            refine sh_of _ _ (by rw [hd1l, hsp, hox]; simp [tl]) ?_
            intro k p q hp hq
            rcases fill_at x _ k p hp with ⟨a, h6, h7⟩ | ⟨_, h7⟩
            · rw [hxs k a h6] at hq
              simp only [Option.some.injEq] at hq
              rw [h7, ← hq]; exact fz_len a
            · rw [h7]; simp
          exact Nat.le_trans (sh_join _ _ hs) hfl
        have hj1 : joinL (fillR x (max x.length 1 + 1)) ≠ [] := by
          intro e
          have := congrArg List.length (join_nil e (by intro e2; rw [e2] at hd1l; simp at hd1l))
          rw [hd1l] at this
          simp only [List.length_cons, List.length_nil] at this
          omega
        obtain ⟨s1, s2, s3⟩ := cand f1 hf _ (by rw [hox, hd1l]; simp) hj1 hb1 (fill_ok x _)
        have gg := sho_no (N3 hox) s1 s3
        obtain ⟨_, r2, _⟩ := inG hg _ s2 gg
        cases oy with
        | true => simp; omega
        | false => simp at r2 p2; omega
      | false =>
        rw [hox] at a1
        simp at a1
        cases oy with
        | true => simp; omega
        | false => simp at p2 ⊢; omega
    · intro i a b ha hb
      have hi := (List.getElem?_eq_some_iff.1 ha).1
      obtain ⟨e, he⟩ : ∃ e, d0[i]? = some e := ⟨_, List.getElem?_eq_getElem (by omega)⟩
      rcases p3 i a e ha he with q | q
      · exact .inl q
      · rcases ok0 i e he with ⟨p, h6, h7, h8⟩ | ⟨h6, h7⟩
        · right
          rcases a2 i p b h6 hb with q2 | q2
          · exact absurd q2 h7
          · rw [q, h8, q2]
        · exfalso
          obtain ⟨p, hp⟩ : ∃ p, x[i]? = some p := ⟨_, List.getElem?_eq_getElem (by omega)⟩
          have hp43 := h6 p hp
          have hai : a = [] := by
            rw [q]
            have h9 : (fillR x (max x.length 1))[i]? = some e := by rw [hd00]; exact he
            rcases fill_at x _ i e h9 with ⟨p', h10, h11⟩ | ⟨h10, _⟩
            · rw [hp] at h10; simp only [Option.some.injEq] at h10; rw [h11, ← h10, hp43]; rfl
            · rw [hp] at h10; cases h10
          have n5 := N5 g1 y oy hg i hi (by rw [hp, hp43]; simp) (by omega) (by rw [ha, hai])
          rw [show max (max x.length 1) (i + 1) = max x.length 1 by omega, hd00] at n5
          have ok5 := fun k b h => set_ok x d0 i k b ok0 h6 h
          have hl5 : (d0.set i [97]).length = x.length := by simp; exact hd0l'
          have h5i : (d0.set i [97])[i]? = some [97] := by rw [List.getElem?_set_self (by omega)]
          have hj5 : joinL (d0.set i [97]) ≠ [] := by
            intro e5
            have := join_nil e5 (by intro e6; rw [e6] at hl5; simp at hl5; omega)
            rw [this] at h5i
            cases i with
            | zero => simp at h5i
            | succ i => simp at h5i
          obtain ⟨t1, t2, t3⟩ := cand f1 hf _ (by rw [hl5]; cases ox <;> simp) hj5 (bound _ hl5 ok5) ok5
          have g5 := sho_no n5 t1 t3
          obtain ⟨_, _, u3⟩ := inG hg _ t2 g5
          rcases u3 i a [97] ha h5i with q | q
          · rw [hai] at q; simp at q
          · rw [hai] at q; simp at q
end Go.Proofs.YtglnldopnoafoaaGreatDoor

