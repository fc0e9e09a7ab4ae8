import Derived.Test.YtepjcfhbbcaldaaGreatKie
namespace Go.Proofs.YtepjcfhbbcaldaaGreat.Li
open Go Go.RowKit
set_option linter.unusedSimpArgs false
set_option linter.unusedVariables false
theorem pre_anti {A B : List ByteArray} (h1 : A <+: B) (h2 : B <+: A) : A = B := by
  obtain ⟨t, e⟩ := h1
  have l1 := congrArg List.length e
  have l2 := h2.length_le
  rw [List.length_append] at l1
  have : t = [] := List.length_eq_zero_iff.1 (by omega)
  rw [← e, this, List.append_nil]
theorem lcp_comm (F G : List ByteArray) : lcp F G = lcp G F :=
  pre_anti (pre_lcp (lcp_pre F G).2 (lcp_pre F G).1) (pre_lcp (lcp_pre G F).2 (lcp_pre G F).1)
theorem pre_len {A B C : List ByteArray} (h1 : A <+: C) (h2 : B <+: C) (e : A.length = B.length) : A = B := pre_anti (prefix_le h1 h2 (by omega)) (prefix_le h2 h1 (by omega))
/-- The one of a list that has most in common with H. -/
def best (H : List ByteArray) : List (List ByteArray) → List ByteArray
  | [] => []
  | G :: L => if (lcp H (best H L)).length ≤ (lcp H G).length then G else best H L
theorem best_mem (H : List ByteArray) : ∀ {L : List (List ByteArray)}, L ≠ [] → best H L ∈ L
  | [], h => (h rfl).elim
  | G :: L, _ => by
    unfold best
    by_cases c : (lcp H (best H L)).length ≤ (lcp H G).length
    · rw [if_pos c]; exact List.mem_cons_self
    · rw [if_neg c]
      refine List.mem_cons_of_mem _ (best_mem H (fun e => c ?_))
      rw [e]
      simp [best, lcp, alk]
theorem best_le (H : List ByteArray) : ∀ {L : List (List ByteArray)} {G : List ByteArray}, G ∈ L → (lcp H G).length ≤ (lcp H (best H L)).length
  | [], G, h => by cases h
  | G' :: L, G, h => by
    unfold best
    by_cases c : (lcp H (best H L)).length ≤ (lcp H G').length
    · rw [if_pos c]
      rcases List.mem_cons.1 h with rfl | h
      · exact Nat.le_refl _
      · exact Nat.le_trans (best_le H h) c
    · rw [if_neg c]
      rcases List.mem_cons.1 h with rfl | h
      · omega
      · exact best_le H h
/-- All that filters have in common, two by two. -/
def cov : List (List ByteArray) → List (List ByteArray)
  | [] => []
  | H :: L => H :: lcp H (best H L) :: cov L
theorem cov_len : ∀ L : List (List ByteArray), (cov L).length = 2 * L.length
  | [] => rfl
  | H :: L => by
    have := cov_len L
    unfold cov
    simp only [List.length_cons]
    omega
theorem pre_next {A C : List ByteArray} (p : A <+: C) (l : A.length < C.length) : ∃ x, (A ++ [x]) <+: C := by
  obtain ⟨t, e⟩ := p
  cases t with
  | nil => rw [List.append_nil] at e; rw [e] at l; omega
  | cons x t => exact ⟨x, t, by rw [← e]; simp⟩
theorem lcp_short {H G G' : List ByteArray} (h : (lcp H G).length < (lcp H G').length) : lcp H G = lcp G' G := by
  have p := lcp_pre H G
  have p' := lcp_pre H G'
  have pp : lcp H G <+: lcp H G' := prefix_le p.1 p'.1 (by omega)
  have le : lcp H G <+: lcp G' G := pre_lcp (pp.trans p'.2) p.2
  refine Classical.byContradiction fun ne => ?_
  have lt : (lcp H G).length < (lcp G' G).length := by
    rcases Nat.lt_or_ge (lcp H G).length (lcp G' G).length with q | q
    · exact q
    · exact absurd (pre_len le (List.prefix_refl _) (Nat.le_antisymm le.length_le q)) ne
  obtain ⟨x, hx⟩ := pre_next pp h
  obtain ⟨y, hy⟩ := pre_next le lt
  have q := lcp_pre G' G
  have e : lcp H G ++ [x] = lcp H G ++ [y] := pre_len (hx.trans p'.2) (hy.trans q.1) (by rw [List.length_append, List.length_append]; rfl)
  have := (pre_lcp (hx.trans p'.1) (by rw [e]; exact hy.trans q.2)).length_le
  rw [List.length_append, List.length_singleton] at this
  omega
theorem cov_all : ∀ {L : List (List ByteArray)} {F G : List ByteArray}, F ∈ L → G ∈ L → lcp F G ∈ cov L
  | [], _, _, h, _ => by cases h
  | H :: L, F, G, hF, hG => by
    have one : ∀ {G}, G ∈ L → lcp H G ∈ cov (H :: L) := fun {G} h => by
      have le := best_le H h
      rcases Nat.lt_or_ge (lcp H G).length (lcp H (best H L)).length with c | c
      · rw [lcp_short c]
        exact List.mem_cons_of_mem _ (List.mem_cons_of_mem _ (cov_all (best_mem H (fun e => by rw [e] at h; cases h)) h))
      · rw [pre_len (lcp_pre H G).1 (lcp_pre H (best H L)).1 (by omega)]
        exact List.mem_cons_of_mem _ List.mem_cons_self
    rcases List.mem_cons.1 hF with e1 | h1
    · rw [e1]
      rcases List.mem_cons.1 hG with e2 | h2
      · rw [e2, lcp_self]; exact List.mem_cons_self
      · exact one h2
    · rcases List.mem_cons.1 hG with e2 | h2
      · rw [e2, lcp_comm]; exact one h1
      · exact List.mem_cons_of_mem _ (List.mem_cons_of_mem _ (cov_all h1 h2))
variable {w : World} {tb m r P : Nat} {nf nn : Int} {T : List Fn}
/-- NO MORE NODES THAN TWICE THE FILTERS AND THE ROOT. -/
theorem bound_tm (h : TM w tb m r nf nn T) (fx : FormX T []) (cn : CN T nf) : (T.length : Int) ≤ 2 * nf + 1 := by
  obtain ⟨Fs, f1, f2, f3⟩ := cn
  have nd : (T.map (fun f => f.s.A)).Nodup := by
    have := h.inv.dis
    rw [List.pairwise_map] at this
    exact List.pairwise_map.2 this
  have := nodup_le (T.map (fun f => f.s.A)) ([] :: cov Fs) nd (fun A hA => by
    obtain ⟨f, hf, e⟩ := List.mem_map.1 hA
    rcases (nodes_iff h fx A).1 ⟨f, hf, e⟩ with rfl | ⟨f, hf, g, hg, h1, h2, rfl⟩
    · exact List.mem_cons_self
    · exact List.mem_cons_of_mem _ (cov_all ((f2 _).2 ⟨f, hf, rfl, h1⟩) ((f2 _).2 ⟨g, hg, rfl, h2⟩)))
  rw [List.length_map, List.length_cons, cov_len] at this
  omega
end Go.Proofs.YtepjcfhbbcaldaaGreat.Li
