import Derived.Test.YtglnldopnoafoaaCl
namespace Go.Proofs.Ytglnldopnoafoaa
open Go
set_option linter.unusedSimpArgs false
set_option linter.unusedVariables false

/-- Is a level a sign? -/
def sgB (x : Bs) : Bool := decide (x = [43]) || decide (x = [35])
theorem sgB_iff (x : Bs) : sgB x = true ↔ x = [43] ∨ x = [35] := by simp [sgB]
theorem sgB_no (x : Bs) : sgB x = false ↔ ¬ x = [43] ∧ ¬ x = [35] := by simp [sgB]
def mayE : List Bs → Bool
  | [] => true
  | x :: _ => decide (x = [35])
def behL : List Bs → List Bs
  | [] => []
  | x :: r => if x = [35] then x :: r else r
theorem beh_cons (x : Bs) (r : List Bs) : behL (x :: r) = if x = [35] then x :: r else r := rfl
def comL (a b : Bs) : Option Bs := if sgB a && sgB b then some [] else if sgB a then some b else if sgB b || decide (a = b) then some a else none
/-- The levels that both have. -/
def com : Nat → List Bs → List Bs → Option (List Bs)
  | 0, _, _ => none
  | n + 1, f, g => if mayE f && mayE g then some [] else
    match f, g with
    | [], _ => none
    | _ :: _, [] => none
    | a :: r, b :: s =>
      match comL a b with
      | none => none
      | some l => (com n (behL (a :: r)) (behL (b :: s))).map (l :: ·)
/-- Levels of a filter. -/
def Fil : List Bs → Prop
  | [] => True
  | x :: r => (x = [35] → r = []) ∧ (43 ∈ x ∨ 35 ∈ x → sgB x = true) ∧ Fil r
theorem Fil.beh {f : List Bs} (h : Fil f) : Fil (behL f) := by
  cases f with
  | nil => exact h
  | cons x r =>
    rw [beh_cons]
    split
    · exact h
    · exact h.2.2
theorem fil_any : ∀ (l : List Bs), anyL l = false → Fil l
  | [], _ => trivial
  | x :: r, h => by
    simp only [anyL, Bool.or_eq_false_iff] at h
    refine ⟨fun e => ?_, fun hs => ?_, fil_any r h.2⟩
    · have := h.1
      simp only [badL, e, decide_true, Bool.true_and, Bool.or_eq_false_iff] at this
      cases r with
      | nil => rfl
      | cons a b => simp at this
    · have := h.1
      simp only [badL, hs, decide_true, Bool.true_and, Bool.or_eq_false_iff, decide_eq_false_iff_not] at this
      have hl := this.1
      match x, hs, hl with
      | [], hs, _ => simp at hs
      | [c], hs, _ =>
        simp only [List.mem_cons, List.not_mem_nil, or_false] at hs
        rw [sgB_iff]
        rcases hs with e | e
        · left; rw [e]
        · right; rw [e]
      | c :: d :: t, _, hl => simp at hl
theorem fil_plain {x : Bs} {r : List Bs} (h : Fil (x :: r)) (hx : sgB x = false) : ¬ 43 ∈ x ∧ ¬ 35 ∈ x := by
  constructor
  · intro hm; have := h.2.1 (.inl hm); rw [hx] at this; cases this
  · intro hm; have := h.2.1 (.inr hm); rw [hx] at this; cases this

theorem beh_len (f : List Bs) : (behL f).length ≤ f.length := by
  cases f with
  | nil => exact Nat.le_refl _
  | cons x r =>
    rw [beh_cons]; split
    · exact Nat.le_refl _
    · simp
theorem beh_less (a b : Bs) (r s : List Bs) (h : ¬ (a = [35] ∧ b = [35])) : (behL (a :: r)).length + (behL (b :: s)).length < (a :: r).length + (b :: s).length := by
  rw [beh_cons, beh_cons]
  by_cases ha : a = [35]
  · have hb : ¬ b = [35] := fun e => h ⟨ha, e⟩
    rw [if_pos ha, if_neg hb]; simp
  · rw [if_neg ha]
    split
    · simp
    · simp; omega
theorem mt_beh {a : Bs} {r : List Bs} {x : Bs} {xs : List Bs} (h : mt (a :: r) (x :: xs) = true) : mt (behL (a :: r)) xs = true ∧ (sgB a = true ∨ a = x) := by
  rw [beh_cons]
  by_cases ha : a = [35]
  · rw [if_pos ha]
    exact ⟨by simp [mt, ha], .inl ((sgB_iff a).2 (.inr ha))⟩
  · rw [if_neg ha]
    simp only [mt, ha, if_false] at h
    split at h
    · cases h
    · rename_i hn
      refine ⟨h, ?_⟩
      by_cases hp : a = [43]
      · exact .inl ((sgB_iff a).2 (.inl hp))
      · right
        apply Classical.byContradiction
        intro hx
        exact hn ⟨hp, hx⟩
/-- One list of levels is level for level no longer than the other. -/
def Sh : List Bs → List Bs → Prop
  | [], _ => True
  | _ :: _, [] => False
  | x :: t, y :: u => x.length ≤ y.length ∧ Sh t u
theorem sh_join : ∀ (t u : List Bs), Sh t u → (joinL t).length ≤ (joinL u).length
  | [], _, _ => by simp [joinL]
  | _ :: _, [], h => h.elim
  | [x], [y], h => h.1
  | [x], y :: z :: r, h => by
    simp only [joinL, List.length_append, List.length_cons]; have := h.1; omega
  | x :: y :: t, [z], h => h.2.elim
  | x :: y :: t, z :: v :: u, h => by
    have := sh_join (y :: t) (v :: u) h.2
    have := h.1
    simp only [joinL, List.length_append, List.length_cons] at *; omega
theorem com_full : ∀ (n : Nat) (f g T : List Bs), f.length + g.length < n → mt f T = true → mt g T = true → ∃ t, com n f g = some t ∧ Sh t T
  | 0, f, g, T, hn, _, _ => by omega
  | n + 1, f, g, T, hn, hf, hg => by
    unfold com
    by_cases hm : (mayE f && mayE g) = true
    · rw [if_pos hm]; exact ⟨[], rfl, trivial⟩
    · rw [if_neg hm]
      cases f with
      | nil =>
        have hT : T = [] := by cases T with
          | nil => rfl
          | cons a b => simp [mt] at hf
        subst hT
        cases g with
        | nil => simp [mayE] at hm
        | cons b s =>
          have : ¬ b = [35] := fun e => hm (by simp [mayE, e])
          simp [mt, this] at hg
      | cons a r =>
        cases g with
        | nil =>
          have hT : T = [] := by cases T with
            | nil => rfl
            | cons a b => simp [mt] at hg
          subst hT
          have : ¬ a = [35] := fun e => hm (by simp [mayE, e])
          simp [mt, this] at hf
        | cons b s =>
          have hab : ¬ (a = [35] ∧ b = [35]) := fun h => hm (by simp [mayE, h.1, h.2])
          cases T with
          | nil =>
            exfalso
            apply hab
            constructor
            · apply Classical.byContradiction; intro h; simp [mt, h] at hf
            · apply Classical.byContradiction; intro h; simp [mt, h] at hg
          | cons x xs =>
            obtain ⟨h1, h2⟩ := mt_beh hf
            obtain ⟨h3, h4⟩ := mt_beh hg
            have hl := beh_less a b r s hab
            obtain ⟨t, e, hs⟩ := com_full n (behL (a :: r)) (behL (b :: s)) xs (by omega) h1 h3
            have hc : ∃ l, comL a b = some l ∧ l.length ≤ x.length := by
              unfold comL
              by_cases sa : sgB a = true
              · by_cases sb : sgB b = true
                · exact ⟨[], by simp [sa, sb], by simp⟩
                · refine ⟨b, by simp [sa, sb], ?_⟩
                  rcases h4 with h4 | h4
                  · exact absurd h4 sb
                  · rw [h4]; exact Nat.le_refl _
              · have ea : a = x := by
                  rcases h2 with h2 | h2
                  · exact absurd h2 sa
                  · exact h2
                refine ⟨a, ?_, by rw [ea]; exact Nat.le_refl _⟩
                rcases h4 with h4 | h4
                · simp [sa, h4]
                · have hab2 : a = b := ea.trans h4.symm
                  rw [← hab2]; simp [sa]
            obtain ⟨l, e2, hl2⟩ := hc
            simp only [e2, e]
            exact ⟨l :: t, rfl, hl2, hs⟩
theorem may_nil {f : List Bs} (h : mayE f = true) : mt f [] = true := by
  cases f with
  | nil => rfl
  | cons x r => simp [mayE] at h; simp [mt, h]
theorem mt_cons {a : Bs} {r : List Bs} {l : Bs} {t : List Bs} (h : mt (behL (a :: r)) t = true) (hl : sgB a = true ∨ a = l) : mt (a :: r) (l :: t) = true := by
  rw [beh_cons] at h
  by_cases ha : a = [35]
  · simp [mt, ha]
  · rw [if_neg ha] at h
    simp only [mt, ha, if_false]
    rw [if_neg ?_]
    · exact h
    · rintro ⟨h1, h2⟩
      rcases hl with hl | hl
      · rcases (sgB_iff a).1 hl with e | e
        · exact h1 e
        · exact ha e
      · exact h2 hl
theorem comL_right {a b l : Bs} (h : comL a b = some l) : (sgB a = true ∨ a = l) ∧ (sgB b = true ∨ b = l) ∧ (l = [] ∨ (l = a ∧ sgB a = false) ∨ (l = b ∧ sgB b = false)) ∧ l.length ≤ a.length + b.length := by
  unfold comL at h
  by_cases sa : sgB a = true
  · by_cases sb : sgB b = true
    · simp [sa, sb] at h; subst h; exact ⟨.inl sa, .inl sb, .inl rfl, by simp⟩
    · simp [sa, sb] at h; subst h
      exact ⟨.inl sa, .inr rfl, .inr (.inr ⟨rfl, by simpa using sb⟩), by omega⟩
  · have sa' : sgB a = false := by simpa using sa
    simp only [sa', Bool.false_and, Bool.false_eq_true, if_false] at h
    split at h
    · rename_i hh
      simp only [Option.some.injEq] at h; subst h
      refine ⟨.inr rfl, ?_, .inr (.inl ⟨rfl, sa'⟩), by omega⟩
      simp only [Bool.or_eq_true, decide_eq_true_eq] at hh
      rcases hh with hh | hh
      · exact .inl hh
      · exact .inr hh.symm
    · cases h
theorem com_right : ∀ (n : Nat) (f g t : List Bs), com n f g = some t → mt f t = true ∧ mt g t = true
  | 0, f, g, t, h => by simp [com] at h
  | n + 1, f, g, t, h => by
    unfold com at h
    by_cases hm : (mayE f && mayE g) = true
    · rw [if_pos hm] at h
      simp only [Option.some.injEq] at h; subst h
      rw [Bool.and_eq_true] at hm
      exact ⟨may_nil hm.1, may_nil hm.2⟩
    · rw [if_neg hm] at h
      cases f with
      | nil => simp at h
      | cons a r =>
        cases g with
        | nil => simp at h
        | cons b s =>
          simp only at h
          cases e : comL a b with
          | none => rw [e] at h; cases h
          | some l =>
            rw [e] at h
            cases e2 : com n (behL (a :: r)) (behL (b :: s)) with
            | none => rw [e2] at h; cases h
            | some u =>
              rw [e2] at h
              simp only [Option.map_some, Option.some.injEq] at h
              subst h
              obtain ⟨h1, h2⟩ := com_right n _ _ _ e2
              obtain ⟨c1, c2, _⟩ := comL_right e
              exact ⟨mt_cons h1 c1, mt_cons h2 c2⟩
/-- What all plain levels of both have all levels told have. -/
theorem com_all (Q : Bs → Prop) (h0 : Q []) : ∀ (n : Nat) (f g t : List Bs), com n f g = some t → (∀ x ∈ f, sgB x = false → Q x) → (∀ x ∈ g, sgB x = false → Q x) → ∀ x ∈ t, Q x
  | 0, f, g, t, h, _, _ => by simp [com] at h
  | n + 1, f, g, t, h, hf, hg => by
    unfold com at h
    by_cases hm : (mayE f && mayE g) = true
    · rw [if_pos hm] at h
      simp only [Option.some.injEq] at h; subst h
      intro x hx; cases hx
    · rw [if_neg hm] at h
      cases f with
      | nil => simp at h
      | cons a r =>
        cases g with
        | nil => simp at h
        | cons b s =>
          simp only at h
          cases e : comL a b with
          | none => rw [e] at h; cases h
          | some l =>
            rw [e] at h
            cases e2 : com n (behL (a :: r)) (behL (b :: s)) with
            | none => rw [e2] at h; cases h
            | some u =>
              rw [e2] at h
              simp only [Option.map_some, Option.some.injEq] at h
              subst h
              have hb : ∀ (f : List Bs), ∀ x ∈ behL f, x ∈ f := by
                intro f x hx
                cases f with
                | nil => exact hx
                | cons y z =>
                  rw [beh_cons] at hx
                  split at hx
                  · exact hx
                  · exact List.mem_cons_of_mem _ hx
              have ih := com_all Q h0 n _ _ _ e2 (fun x hx => hf x (hb _ x hx)) (fun x hx => hg x (hb _ x hx))
              obtain ⟨_, _, c3, _⟩ := comL_right e
              intro x hx
              rcases List.mem_cons.1 hx with rfl | hx
              · rcases c3 with rfl | ⟨rfl, c⟩ | ⟨rfl, c⟩
                · exact h0
                · exact hf _ List.mem_cons_self c
                · exact hg _ List.mem_cons_self c
              · exact ih x hx
/-- How much room levels take. -/
def tot : List Bs → Nat
  | [] => 0
  | x :: r => x.length + 1 + tot r
theorem join_tot : ∀ (l : List Bs), (joinL l).length ≤ tot l
  | [] => by simp [joinL]
  | [x] => by simp [joinL, tot]
  | x :: y :: r => by
    have := join_tot (y :: r)
    simp only [joinL, tot, List.length_append, List.length_cons] at *; omega
theorem tot_join : ∀ (l : List Bs), tot l ≤ (joinL l).length + 1
  | [] => by simp [tot]
  | [x] => by simp [joinL, tot]
  | x :: y :: r => by
    have := tot_join (y :: r)
    simp only [joinL, tot, List.length_append, List.length_cons] at *; omega
theorem com_tot : ∀ (n : Nat) (f g t : List Bs), com n f g = some t → tot t ≤ tot f + tot g
  | 0, f, g, t, h => by simp [com] at h
  | n + 1, f, g, t, h => by
    unfold com at h
    by_cases hm : (mayE f && mayE g) = true
    · rw [if_pos hm] at h
      simp only [Option.some.injEq] at h; subst h
      simp [tot]
    · rw [if_neg hm] at h
      cases f with
      | nil => simp at h
      | cons a r =>
        cases g with
        | nil => simp at h
        | cons b s =>
          simp only at h
          cases e : comL a b with
          | none => rw [e] at h; cases h
          | some l =>
            rw [e] at h
            cases e2 : com n (behL (a :: r)) (behL (b :: s)) with
            | none => rw [e2] at h; cases h
            | some u =>
              rw [e2] at h
              simp only [Option.map_some, Option.some.injEq] at h
              subst h
              have ih := com_tot n _ _ _ e2
              obtain ⟨c1, c2, c3, c4⟩ := comL_right e
              have hab : ¬ (a = [35] ∧ b = [35]) := fun h => hm (by simp [mayE, h.1, h.2])
              simp only [tot]
              by_cases ha : a = [35]
              · have hb : ¬ b = [35] := fun e => hab ⟨ha, e⟩
                have sa : sgB a = true := (sgB_iff a).2 (.inr ha)
                have hl : l.length ≤ b.length := by
                  rcases c3 with rfl | ⟨rfl, c⟩ | ⟨rfl, c⟩
                  · simp
                  · rw [sa] at c; cases c
                  · exact Nat.le_refl _
                simp only [beh_cons, ha, hb, if_true, if_false, tot] at ih
                rw [ha]
                simp only [List.length_cons, List.length_nil] at ih ⊢
                omega
              · by_cases hb : b = [35]
                · have sb : sgB b = true := (sgB_iff b).2 (.inr hb)
                  have hl : l.length ≤ a.length := by
                    rcases c3 with rfl | ⟨rfl, c⟩ | ⟨rfl, c⟩
                    · simp
                    · exact Nat.le_refl _
                    · rw [sb] at c; cases c
                  simp only [beh_cons, ha, hb, if_true, if_false, tot] at ih
                  rw [hb]
                  simp only [List.length_cons, List.length_nil] at ih ⊢
                  omega
                · simp only [beh_cons, ha, hb, if_false] at ih
                  omega

/-- A level in a sign's place. -/
def fillB (x : Bs) : Bs := if sgB x then [97] else x
def lvlB (a b : Bs) : Bs × Bool := if sgB b then (fillB a, false) else if sgB a && decide (b = [97]) then ([98], true) else (fillB a, decide (fillB a ≠ b))
/-- Levels that the first match and the second don't. -/
def bey : List Bs → List Bs → Option (List Bs)
  | [], [] => none
  | a :: r, [] => some ((a :: r).map fillB)
  | [], b :: s => if b = [35] then none else some []
  | a :: r, b :: s => if b = [35] then none else if a = [35] then some [] else
    if (lvlB a b).2 then some ((lvlB a b).1 :: r.map fillB) else (bey r s).map ((lvlB a b).1 :: ·)
theorem fill_len (x : Bs) : (fillB x).length = x.length := by
  unfold fillB
  split
  · rename_i h
    rcases (sgB_iff x).1 h with e | e <;> simp [e]
  · rfl
theorem lvlB_len (a b : Bs) : (lvlB a b).1.length = a.length := by
  unfold lvlB
  split
  · exact fill_len a
  · split
    · rename_i h
      simp only [Bool.and_eq_true] at h
      rcases (sgB_iff a).1 h.1 with e | e <;> simp [e]
    · exact fill_len a
theorem lvlB_goes (a b : Bs) : sgB a = true ∨ (lvlB a b).1 = a := by
  by_cases h : sgB a = true
  · exact .inl h
  · right
    unfold lvlB
    have e : fillB a = a := by simp [fillB, h]
    rw [e]
    split
    · rfl
    · simp [h]
theorem sh_fill : ∀ (l : List Bs), Sh (l.map fillB) l
  | [] => trivial
  | x :: r => ⟨by rw [fill_len]; exact Nat.le_refl _, sh_fill r⟩
theorem mt_fill : ∀ (l : List Bs), mt l (l.map fillB) = true
  | [] => rfl
  | x :: r => by
    simp only [List.map_cons, mt]
    split
    · rfl
    · rw [if_neg ?_]
      · exact mt_fill r
      · rintro ⟨h1, h2⟩
        rename_i h3
        apply h2
        have : sgB x = false := (sgB_no x).2 ⟨h1, h3⟩
        simp [fillB, this]
theorem bey_right : ∀ (f g t : List Bs), bey f g = some t → mt f t = true ∧ mt g t = false ∧ Sh t f
  | [], [], t, h => by simp [bey] at h
  | a :: r, [], t, h => by
    simp only [bey, Option.some.injEq] at h
    subst h
    exact ⟨mt_fill _, by simp [mt], sh_fill _⟩
  | [], b :: s, t, h => by
    unfold bey at h
    split at h
    · cases h
    · rename_i hb
      simp only [Option.some.injEq] at h; subst h
      exact ⟨rfl, by simp [mt, hb], trivial⟩
  | a :: r, b :: s, t, h => by
    unfold bey at h
    split at h
    · cases h
    · rename_i hb
      split at h
      · rename_i ha
        simp only [Option.some.injEq] at h; subst h
        exact ⟨by simp [mt, ha], by simp [mt, hb], trivial⟩
      · rename_i ha
        have hg := lvlB_goes a b
        have hl := lvlB_len a b
        split at h
        · rename_i hp
          simp only [Option.some.injEq] at h; subst h
          refine ⟨mt_cons (by rw [beh_cons, if_neg ha]; exact mt_fill r) (by rcases hg with e | e; exact .inl e; exact .inr e.symm), ?_, by rw [hl]; exact Nat.le_refl _, sh_fill r⟩
          unfold lvlB at hp ⊢
          by_cases sb : sgB b = true
          · simp [sb] at hp
          · have sb' := (sgB_no b).1 (by simpa using sb)
            by_cases hh : (sgB a && decide (b = [97])) = true
            · simp only [sb, hh, if_true, Bool.false_eq_true, if_false, mt, hb]
              simp only [Bool.and_eq_true, decide_eq_true_eq] at hh
              simp [hh.2]
            · simp only [sb, hh, Bool.false_eq_true, if_false, decide_eq_true_eq] at hp ⊢
              simp only [mt, hb, if_false]
              rw [if_pos ⟨sb'.1, fun e => hp e.symm⟩]
        · rename_i hp
          cases e : bey r s with
          | none => rw [e] at h; cases h
          | some u =>
            rw [e] at h
            simp only [Option.map_some, Option.some.injEq] at h; subst h
            obtain ⟨h1, h2, h3⟩ := bey_right r s u e
            refine ⟨mt_cons (by rw [beh_cons, if_neg ha]; exact h1) (by rcases hg with e | e; exact .inl e; exact .inr e.symm), ?_, by rw [hl]; exact Nat.le_refl _, h3⟩
            simp only [mt, hb, if_false]
            split
            · rfl
            · exact h2
theorem bey_full : ∀ (f g T : List Bs), mt f T = true → mt g T = false → ∃ t, bey f g = some t
  | [], [], T, hf, hg => by rw [hf] at hg; cases hg
  | a :: r, [], T, _, _ => ⟨_, rfl⟩
  | [], b :: s, T, hf, hg => by
    unfold bey
    have : ¬ b = [35] := fun e => by simp [mt, e] at hg
    rw [if_neg this]; exact ⟨_, rfl⟩
  | a :: r, b :: s, T, hf, hg => by
    unfold bey
    have hb : ¬ b = [35] := fun e => by simp [mt, e] at hg
    rw [if_neg hb]
    split
    · exact ⟨_, rfl⟩
    · rename_i ha
      split
      · exact ⟨_, rfl⟩
      · rename_i hp
        cases T with
        | nil => simp [mt, ha] at hf
        | cons x xs =>
          obtain ⟨h1, h2⟩ := mt_beh hf
          rw [beh_cons, if_neg ha] at h1
          have h3 : mt s xs = false := by
            apply Bool.eq_false_iff.2
            intro hs
            have : mt (b :: s) (x :: xs) = true := by
              refine mt_cons (by rw [beh_cons, if_neg hb]; exact hs) ?_
              unfold lvlB at hp
              by_cases sb : sgB b = true
              · exact .inl sb
              · right
                by_cases hh : (sgB a && decide (b = [97])) = true
                · simp [sb, hh] at hp
                · simp only [sb, hh, Bool.false_eq_true, if_false, decide_eq_true_eq, Classical.not_not] at hp
                  by_cases sa : sgB a = true
                  · have : fillB a = [97] := by simp [fillB, sa]
                    rw [this] at hp
                    exact absurd (by simp [sa, hp]) hh
                  · have : fillB a = a := by simp [fillB, sa]
                    rw [this] at hp
                    rcases h2 with h2 | h2
                    · exact absurd h2 sa
                    · rw [← hp, h2]
            rw [this] at hg; cases hg
          obtain ⟨t, e⟩ := bey_full r s xs h1 h3
          rw [e]; exact ⟨_, rfl⟩
theorem bey_all (Q : Bs → Prop) (h1 : Q [97]) (h2 : Q [98]) : ∀ (f g t : List Bs), bey f g = some t → (∀ x ∈ f, sgB x = false → Q x) → ∀ x ∈ t, Q x := by
  have hF : ∀ (f : List Bs), (∀ x ∈ f, sgB x = false → Q x) → ∀ x ∈ f.map fillB, Q x := by
    intro f hf x hx
    obtain ⟨y, hy, rfl⟩ := List.mem_map.1 hx
    unfold fillB
    split
    · exact h1
    · rename_i h
      exact hf y hy (by simpa using h)
  have hL : ∀ a b, (sgB a = false → Q a) → Q (lvlB a b).1 := by
    intro a b ha
    have hf : Q (fillB a) := by
      unfold fillB
      split
      · exact h1
      · rename_i h
        exact ha (by simpa using h)
    unfold lvlB
    split
    · exact hf
    · split
      · exact h2
      · exact hf
  intro f
  induction f with
  | nil =>
    intro g t h _
    cases g with
    | nil => simp [bey] at h
    | cons b s =>
      unfold bey at h
      split at h
      · cases h
      · simp only [Option.some.injEq] at h; subst h
        intro x hx; cases hx
  | cons a r ih =>
    intro g t h hf
    cases g with
    | nil =>
      simp only [bey, Option.some.injEq] at h; subst h
      exact hF _ hf
    | cons b s =>
      unfold bey at h
      split at h
      · cases h
      · split at h
        · simp only [Option.some.injEq] at h; subst h
          intro x hx; cases hx
        · have hr : ∀ x ∈ r, sgB x = false → Q x := fun x hx => hf x (List.mem_cons_of_mem _ hx)
          have ha := hL a b (hf a List.mem_cons_self)
          split at h
          · simp only [Option.some.injEq] at h; subst h
            intro x hx
            rcases List.mem_cons.1 hx with rfl | hx
            · exact ha
            · exact hF r hr x hx
          · cases e : bey r s with
            | none => rw [e] at h; cases h
            | some u =>
              rw [e] at h
              simp only [Option.map_some, Option.some.injEq] at h; subst h
              intro x hx
              rcases List.mem_cons.1 hx with rfl | hx
              · exact ha
              · exact ih s u e hr x hx
end Go.Proofs.Ytglnldopnoafoaa
