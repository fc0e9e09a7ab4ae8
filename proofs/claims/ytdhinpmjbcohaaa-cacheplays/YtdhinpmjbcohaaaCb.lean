import Derived.Test.YtdhinpmjbcohaaaCa
namespace Go.Proofs.Ytdhinpmjbcohaaa
open Go Go.RowKit
set_option linter.unusedSimpArgs false
set_option linter.unusedVariables false

/-! ### What was used since -/
def Since {K : Type} (U : List K) (k : K) (s : List K) : Prop := k ∉ s ∧ (U = s ∨ ∃ A, U = A ++ k :: s)
theorem since_snoc {K : Type} {U : List K} {k x : K} {s' : List K} (h : Since (U ++ [x]) k s') (hne : x ≠ k) : ∃ s, s' = s ++ [x] ∧ Since U k s := by
  obtain ⟨h1, h2⟩ := h
  rcases List.eq_nil_or_concat s' with rfl | ⟨s, y, rfl⟩
  · rcases h2 with h2 | ⟨A, h2⟩
    · simp at h2
    · have := congrArg List.getLast? h2
      simp at this
      exact absurd this hne
  · rw [List.concat_eq_append] at h1 h2 ⊢
    rcases h2 with h2 | ⟨A, h2⟩
    · obtain ⟨rfl, e⟩ := List.append_inj' h2 rfl
      simp at e
      subst e
      exact ⟨_, rfl, fun q => h1 (by simp [q]), .inl rfl⟩
    · have e2 : U ++ [x] = (A ++ k :: s) ++ [y] := by simpa using h2
      obtain ⟨rfl, e⟩ := List.append_inj' e2 rfl
      simp at e
      subst e
      exact ⟨_, rfl, fun q => h1 (by simp [q]), .inr ⟨A, rfl⟩⟩

/-! ### What a cache holds: the one used last first -/
section
variable {K V : Type} [DecidableEq K]
def lget (l : List (K × V)) (k : K) : Option V := (l.find? (fun p => decide (p.1 = k))).map (·.2)
def lout (l : List (K × V)) (k : K) : List (K × V) := l.filter (fun p => !decide (p.1 = k))
def ltop (k : K) (v : V) (l : List (K × V)) : List (K × V) := (k, v) :: lout l k
theorem lget_none {l : List (K × V)} {k : K} (h : lget l k = none) : k ∉ l.map (·.1) := by
  intro q
  obtain ⟨p, hp, rfl⟩ := List.mem_map.1 q
  simp only [lget, Option.map_eq_none_iff, List.find?_eq_none] at h
  exact h p hp (by simp)
theorem lget_of_not {l : List (K × V)} {k : K} (h : k ∉ l.map (·.1)) : lget l k = none := by
  simp only [lget, Option.map_eq_none_iff, List.find?_eq_none]
  intro p hp q
  exact h (List.mem_map.2 ⟨p, hp, by simpa using q⟩)
theorem lget_some {l : List (K × V)} {k : K} {v : V} (h : lget l k = some v) : (k, v) ∈ l := by
  simp only [lget, Option.map_eq_some_iff] at h
  obtain ⟨p, h1, rfl⟩ := h
  have h2 := List.mem_of_find?_eq_some h1
  have h3 := List.find?_some h1
  simp at h3
  subst h3
  exact h2
theorem lget_mid {l1 l2 : List (K × V)} {k : K} {v : V} (h : k ∉ l1.map (·.1)) : lget (l1 ++ (k, v) :: l2) k = some v := by
  have : (l1.find? (fun p => decide (p.1 = k))) = none := by
    rw [List.find?_eq_none]
    intro p hp q
    exact h (List.mem_map.2 ⟨p, hp, by simpa using q⟩)
  simp [lget, List.find?_append, this]
theorem lout_not {l : List (K × V)} {k : K} (h : k ∉ l.map (·.1)) : lout l k = l := by
  refine List.filter_eq_self.2 (fun p hp => ?_)
  simp
  intro q
  exact h (List.mem_map.2 ⟨p, hp, q⟩)
theorem lout_mid {l1 l2 : List (K × V)} {k : K} {v : V} (h1 : k ∉ l1.map (·.1)) (h2 : k ∉ l2.map (·.1)) : lout (l1 ++ (k, v) :: l2) k = l1 ++ l2 := by
  have a := lout_not h1
  have b := lout_not h2
  unfold lout at a b ⊢
  rw [List.filter_append, List.filter_cons, a, b]
  simp
theorem lout_mem {l : List (K × V)} {k : K} {p : K × V} : p ∈ lout l k ↔ p ∈ l ∧ p.1 ≠ k := by simp [lout]
theorem lout_keys {l : List (K × V)} {k k' : K} : k' ∈ (lout l k).map (·.1) ↔ k' ∈ l.map (·.1) ∧ k' ≠ k := by
  constructor
  · intro h
    obtain ⟨p, hp, rfl⟩ := List.mem_map.1 h
    obtain ⟨h1, h2⟩ := lout_mem.1 hp
    exact ⟨List.mem_map.2 ⟨p, h1, rfl⟩, h2⟩
  · rintro ⟨h, hne⟩
    obtain ⟨p, hp, rfl⟩ := List.mem_map.1 h
    exact List.mem_map.2 ⟨p, lout_mem.2 ⟨hp, hne⟩, rfl⟩
theorem lout_sub (l : List (K × V)) (k : K) : ((lout l k).map (·.1)).Sublist (l.map (·.1)) := List.filter_sublist.map _

/-! ### How many different ones -/
def dc : List K → Nat
  | [] => 0
  | x :: t => if x ∈ t then dc t else dc t + 1
theorem dc_snoc (x : K) : ∀ s : List K, dc (s ++ [x]) = if x ∈ s then dc s else dc s + 1
  | [] => by simp [dc]
  | y :: s => by
    have ih := dc_snoc x s
    show (if y ∈ s ++ [x] then dc (s ++ [x]) else dc (s ++ [x]) + 1) = if x ∈ y :: s then (if y ∈ s then dc s else dc s + 1) else (if y ∈ s then dc s else dc s + 1) + 1
    rw [ih]
    by_cases h1 : x ∈ s <;> by_cases h2 : y ∈ s <;> by_cases h3 : y = x
    all_goals first | (subst h3; simp_all) | (have h4 : ¬ x = y := fun q => h3 q.symm; simp_all)
theorem dc_mono (x : K) (s : List K) : dc s ≤ dc (s ++ [x]) := by
  rw [dc_snoc]
  split <;> omega
theorem dc_ge : ∀ (s l : List K), l.Nodup → (∀ a ∈ l, a ∈ s) → l.length ≤ dc s
  | [], l, _, h => by
    cases l with
    | nil => simp [dc]
    | cons a t => exact absurd (h a (by simp)) (by simp)
  | x :: s, l, hd, h => by
    unfold dc
    split
    · rename_i hx
      refine dc_ge s l hd (fun a ha => ?_)
      rcases List.mem_cons.1 (h a ha) with rfl | q
      · exact hx
      · exact q
    · have h1 := dc_ge s (l.erase x) (hd.erase x) (fun a ha => by
        have ha' := (hd.mem_erase_iff).1 ha
        rcases List.mem_cons.1 (h a ha'.2) with q | q
        · exact absurd q ha'.1
        · exact q)
      have h2 : l.length ≤ (l.erase x).length + 1 := by
        rw [List.length_erase]
        split <;> omega
      omega

/-- What holds of a cache, of what was laid, and of the uses. -/
structure Inv (room : Nat) (l : List (K × V)) (lm : K → Option V) (U : List K) : Prop where
  nd : (l.map (·.1)).Nodup
  len : l.length ≤ room
  i1 : ∀ p ∈ l, lm p.1 = some p.2
  i2 : ∀ k, (lm k).isSome → k ∉ l.map (·.1) → ∀ s, Since U k s → room ≤ dc s
  i3 : (l.map (·.1)).Pairwise (fun a b => ∀ s, Since U b s → a ∈ s)
def setF (lm : K → Option V) (k : K) (x : Option V) : K → Option V := fun j => if j = k then x else lm j
theorem inv_start (room : Nat) : Inv (V := V) (K := K) room [] (fun _ => none) [] := ⟨by simp, by simp, by simp, by simp, by simp⟩
theorem inv_miss {room : Nat} {l : List (K × V)} {lm : K → Option V} {U : List K} (h : Inv room l lm U) {k : K} (hk : lget l k = none) : Inv room l (setF lm k none) U := by
  have hn := lget_none hk
  refine ⟨h.nd, h.len, fun p hp => ?_, fun k' hs hn' => ?_, h.i3⟩
  · have : p.1 ≠ k := fun q => hn (List.mem_map.2 ⟨p, hp, q⟩)
    simp [setF, this, h.i1 p hp]
  · by_cases q : k' = k
    · simp [setF, q] at hs
    · simp [setF, q] at hs
      exact h.i2 k' hs hn'
theorem inv_drop {room : Nat} {l : List (K × V)} {lm : K → Option V} {U : List K} (h : Inv room l lm U) (k : K) : Inv room (lout l k) (setF lm k none) U := by
  refine ⟨h.nd.sublist (lout_sub l k), Nat.le_trans (List.length_filter_le _ _) h.len, fun p hp => ?_, fun k' hs hn' => ?_, h.i3.sublist (lout_sub l k)⟩
  · obtain ⟨h1, h2⟩ := lout_mem.1 hp
    simp [setF, h2, h.i1 p h1]
  · by_cases q : k' = k
    · simp [setF, q] at hs
    · simp [setF, q] at hs
      exact h.i2 k' hs (fun r => hn' (lout_keys.2 ⟨r, q⟩))
theorem top_nd {l : List (K × V)} (h : (l.map (·.1)).Nodup) (k : K) (v : V) : ((ltop k v l).map (·.1)).Nodup := by
  show (k :: (lout l k).map (·.1)).Nodup
  refine List.nodup_cons.2 ⟨fun q => (lout_keys.1 q).2 rfl, h.sublist (lout_sub l k)⟩
theorem top_i3 {l : List (K × V)} {U : List K} (h : (l.map (·.1)).Pairwise (fun a b => ∀ s, Since U b s → a ∈ s)) (k : K) (v : V) : ((ltop k v l).map (·.1)).Pairwise (fun a b => ∀ s, Since (U ++ [k]) b s → a ∈ s) := by
  show (k :: (lout l k).map (·.1)).Pairwise _
  refine List.pairwise_cons.2 ⟨fun b hb s hs => ?_, ?_⟩
  · obtain ⟨s0, rfl, _⟩ := since_snoc hs (fun q => (lout_keys.1 hb).2 q.symm)
    simp
  · refine List.Pairwise.imp_of_mem (fun {a b} ha hb hab s hs => ?_) (h.sublist (lout_sub l k))
    obtain ⟨s0, rfl, h0⟩ := since_snoc hs (fun q => (lout_keys.1 hb).2 q.symm)
    simp [hab s0 h0]
theorem inv_put {room : Nat} {l : List (K × V)} {lm : K → Option V} {U : List K} (h : Inv room l lm U) (k : K) (v : V) : Inv room ((ltop k v l).take room) (setF lm k (some v)) (U ++ [k]) := by
  have hnd := top_nd h.nd k v
  have h3 := top_i3 h.i3 k v
  have hsub : (((ltop k v l).take room).map (·.1)).Sublist ((ltop k v l).map (·.1)) := (List.take_sublist _ _).map _
  refine ⟨hnd.sublist hsub, by simp only [List.length_take]; omega, fun p hp => ?_, fun k' hs hn' s hS => ?_, h3.sublist hsub⟩
  · have hp' := List.mem_of_mem_take hp
    rcases List.mem_cons.1 hp' with rfl | hp'
    · simp [setF]
    · obtain ⟨h1, h2⟩ := lout_mem.1 hp'
      simp [setF, h2, h.i1 p h1]
  · by_cases q : k' = k
    · subst q
      cases room with
      | zero => omega
      | succ m => exact absurd (by simp [ltop]) hn'
    · simp [setF, q] at hs
      obtain ⟨s0, rfl, h0⟩ := since_snoc hS (fun r => q r.symm)
      by_cases hin : k' ∈ l.map (·.1)
      · have hmem : k' ∈ (ltop k v l).map (·.1) := List.mem_cons_of_mem _ (lout_keys.2 ⟨hin, q⟩)
        have hsplit : (ltop k v l).map (·.1) = ((ltop k v l).take room).map (·.1) ++ ((ltop k v l).drop room).map (·.1) := by rw [← List.map_append, List.take_append_drop]
        have hd : k' ∈ ((ltop k v l).drop room).map (·.1) := by
          rw [hsplit] at hmem
          exact (List.mem_append.1 hmem).resolve_left hn'
        rw [hsplit, List.pairwise_append] at h3
        have hlen : room ≤ (((ltop k v l).take room).map (·.1)).length := by
          have : 0 < ((ltop k v l).drop room).length := by
            rw [← List.length_map (f := (·.1))]
            exact List.length_pos_of_mem hd
          simp only [List.length_drop] at this
          simp only [List.length_map, List.length_take]
          omega
        exact Nat.le_trans hlen (dc_ge _ _ (hnd.sublist hsub) (fun a ha => h3.2.2 a ha k' hd _ hS))
      · exact Nat.le_trans (h.i2 k' hs hin s0 h0) (dc_mono k s0)
theorem top_len {l : List (K × V)} {k : K} {v u : V} (hk : lget l k = some u) : (ltop k v l).length ≤ l.length := by
  have h1 := lget_some hk
  obtain ⟨a, b, rfl⟩ := List.append_of_mem h1
  show (lout (a ++ (k, u) :: b) k).length + 1 ≤ _
  have e1 : (lout (a ++ (k, u) :: b) k) = lout a k ++ lout b k := by
    unfold lout
    rw [List.filter_append, List.filter_cons]
    simp
  rw [e1]
  have h2 : (lout a k).length ≤ a.length := List.length_filter_le _ _
  have h3 : (lout b k).length ≤ b.length := List.length_filter_le _ _
  simp only [List.length_append, List.length_cons]
  omega
theorem top_take {room : Nat} {l : List (K × V)} {k : K} {v u : V} (hk : lget l k = some u) (hl : l.length ≤ room) : (ltop k v l).take room = ltop k v l := List.take_of_length_le (Nat.le_trans (top_len hk) hl)
theorem inv_hit {room : Nat} {l : List (K × V)} {lm : K → Option V} {U : List K} (h : Inv room l lm U) {k : K} {v : V} (hk : lget l k = some v) : Inv room (ltop k v l) lm (U ++ [k]) := by
  have h1 := inv_put h k v
  rw [top_take hk h.len] at h1
  have e : setF lm k (some v) = lm := by
    funext j
    unfold setF
    split
    · rename_i q
      subst q
      exact (h.i1 _ (lget_some hk)).symm
    · rfl
  rwa [e] at h1
end
end Go.Proofs.Ytdhinpmjbcohaaa
