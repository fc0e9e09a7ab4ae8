import Derived.Test.YtmdlplaadelaoaaCl
import Derived.Test.YtmdlplaadelaoaaCi
namespace Go.Proofs.Ytmdlplaadelaoaa
open Go Go.RowKit
set_option linter.unusedSimpArgs false
set_option linter.unusedVariables false

theorem mch_iff (f t : ByteArray) : mch f t = true ↔ rfc f = 0 ∧ tcode t = 0 ∧ ¬ (atB t 0 = 36 ∧ hd0 (split (unB f)) = true) ∧ mt (split (unB f)) (split (unB t)) = true := by
  simp only [mch, Bool.and_eq_true, decide_eq_true_eq, Bool.not_eq_true', Bool.and_eq_false_iff, decide_eq_false_iff_not, not_and, Bool.not_eq_true]
  constructor
  · rintro ⟨⟨⟨a, b⟩, c⟩, d⟩
    refine ⟨a, b, fun h => ?_, d⟩
    rcases c with c | c
    · exact absurd h c
    · exact c
  · rintro ⟨a, b, c, d⟩
    refine ⟨⟨⟨a, b⟩, ?_⟩, d⟩
    by_cases h : atB t 0 = 36
    · exact .inr (c h)
    · exact .inl h
theorem joinL_ne (l : List Bs) (i : Nat) (hi : i < l.length) (h : l ≠ []) : 0 < (joinL (l.set i [43])).length := by
  have : ∀ (l : List Bs) (i : Nat), i < l.length → 0 < (joinL (l.set i [43])).length := by
    intro l
    induction l with
    | nil => intro i hi; simp at hi
    | cons x r ih =>
      intro i hi
      cases i with
      | zero =>
        cases r with
        | nil => simp [joinL]
        | cons y u => simp [joinL]
      | succ i =>
        cases r with
        | nil => simp at hi
        | cons y u =>
          simp only [List.set_cons_succ]
          cases hs : (y :: u).set i [43] with
          | nil => have := congrArg List.length hs; simp at this
          | cons p q =>
            simp only [joinL, List.length_append, List.length_cons]
            omega
  exact this l i hi
theorem none_set (l : List Bs) (i : Nat) (z : Bs) (h : ∀ x ∈ l, 47 ∉ x) (hz : 47 ∉ z) : ∀ x ∈ l.set i z, 47 ∉ x := by
  intro x hx
  rcases List.mem_or_eq_of_mem_set hx with hx | rfl
  · exact h x hx
  · exact hz
theorem hd_set (l : List Bs) (i : Nat) (z : Bs) (hi : ¬ i = 0) : hd0 (l.set i z) = hd0 l := by
  cases l with
  | nil => rfl
  | cons x r =>
    cases i with
    | zero => exact absurd rfl hi
    | succ i => rfl
theorem plain_set (f t : ByteArray) (hf : f.size ≤ 5000) (i : Nat) (y : Bs) (h : mch f t = true) (hi : (split (unB f))[i]? = some y) (hy : ¬ y = [35]) (h0 : ¬ (i = 0 ∧ atB t 0 = 36)) : mch (mkB (joinL ((split (unB f)).set i [43]))) t = true := by
  obtain ⟨h1, h2, h3, h4⟩ := (mch_iff f t).1 h
  obtain ⟨⟨p1, p2⟩, p3⟩ := (rfc_iff f).1 h1
  have hne := split_ne (unB f)
  have hlt : i < (split (unB f)).length := by
    rcases Nat.lt_or_ge i (split (unB f)).length with h | h
    · exact h
    · rw [List.getElem?_eq_none h] at hi; cases hi
  have hset : (split (unB f)).set i [43] ≠ [] := by
    intro e; have := congrArg List.length e; simp at this; exact hne this
  have hs : split (joinL ((split (unB f)).set i [43])) = (split (unB f)).set i [43] := split_join _ hset (none_set _ _ _ (split_none _) (by decide))
  have hlen := join_set_len (split (unB f)) i [43]
  rw [join_split, un_size] at hlen
  have hlen' : (joinL ((split (unB f)).set i [43])).length ≤ 5001 := by simp at hlen; omega
  refine (mch_iff _ t).2 ⟨(rfc_iff _).2 ⟨⟨by rw [mk_size]; exact joinL_ne _ i hlt hne, ?_⟩, by rw [un_mk, hs]; exact any_set _ i p3⟩, h2, ?_, by rw [un_mk, hs]; exact mt_set _ _ i y hi hy h4⟩
  · rw [txt_gd, un_mk]
    refine (gd_levels _ hset (by omega)).2 (fun x hx => ?_)
    rcases List.mem_or_eq_of_mem_set hx with hx | rfl
    · refine (gd_levels _ hne (by rw [join_split, un_size]; omega)).1 ?_ x hx
      rw [join_split]; exact (txt_gd f).1 p2
    · exact gd_plus
  · rw [un_mk, hs]
    rintro ⟨a, b⟩
    by_cases i0 : i = 0
    · exact h0 ⟨i0, a⟩
    · rw [hd_set _ i _ i0] at b
      exact h3 ⟨a, b⟩
theorem un_lit (a : ByteArray) (l : Bs) : unB (a ++ ⟨(47 :: l).toArray⟩) = unB a ++ 47 :: l := by
  rw [un_append]; rfl
theorem more_filter (f : ByteArray) (l : Bs) (hf : f.size ≤ 5000) (hl : l.length ≤ 5) (h : rfc f = 0) (hx : ∀ x ∈ split (unB f), ¬ x = [35]) (hg : Gd (47 :: l)) (ha : anyL (split l) = false) : rfc (f ++ ⟨(47 :: l).toArray⟩) = 0 := by
  obtain ⟨⟨p1, p2⟩, p3⟩ := (rfc_iff f).1 h
  refine (rfc_iff _).2 ⟨⟨by rw [← un_size, un_lit]; simp only [List.length_append, List.length_cons]; omega, ?_⟩, ?_⟩
  · rw [txt_gd, un_lit]
    exact (gd_join _ _ (by rw [un_size]; omega) (by simp; omega) ((txt_gd f).1 p2)).1 hg
  · rw [un_lit, split_append]
    exact any_more _ _ p3 hx ha
theorem plain_more (f t : ByteArray) (hf : f.size ≤ 5000) (h : rfc f = 0) (hl : ∀ y, (split (unB f)).getLast? = some y → ¬ y = [35]) : mch (f ++ ⟨#[47, 35]⟩) t = (mch f t || mch (f ++ ⟨#[47, 43, 47, 35]⟩) t) := by
  have p3 := ((rfc_iff f).1 h).2
  have hx := no_hash _ p3 hl
  have r1 : rfc (f ++ ⟨#[47, 35]⟩) = 0 := more_filter f [35] hf (by decide) h hx (by unfold Gd good; kernel_rfl) (by decide)
  have r2 : rfc (f ++ ⟨#[47, 43, 47, 35]⟩) = 0 := more_filter f [43, 47, 35] hf (by decide) h hx (by unfold Gd good; kernel_rfl) (by decide)
  have s1 : split (unB (f ++ ⟨#[47, 35]⟩)) = split (unB f) ++ [[35]] := by rw [show (⟨#[47, 35]⟩ : ByteArray) = ⟨(47 :: [35] : Bs).toArray⟩ from rfl, un_lit, split_append]; rfl
  have s2 : split (unB (f ++ ⟨#[47, 43, 47, 35]⟩)) = split (unB f) ++ [[43], [35]] := by rw [show (⟨#[47, 43, 47, 35]⟩ : ByteArray) = ⟨(47 :: [43, 47, 35] : Bs).toArray⟩ from rfl, un_lit, split_append]; rfl
  unfold mch
  rw [r1, r2, h, s1, s2, hd_more _ _ (split_ne _), hd_more _ _ (split_ne _), mt_more _ _ hx]
  cases decide (tcode t = 0) <;> cases (decide (atB t 0 = 36) && hd0 (split (unB f))) <;> simp
theorem swap_pure (f t z : ByteArray) (i : Nat) (x y : Bs) (ht : tcode t = 0) (h1 : (split (unB f))[i]? = some y) (h2 : (split (unB t))[i]? = some x) (hx : ¬ x = y) (hz : ¬ unB z = y) (h47 : 47 ∉ unB z) (u : ByteArray) (hu : u = mkB (joinL ((split (unB t)).set i (unB z)))) (hut : tcode u = 0) (h36 : atB u 0 = 36 ↔ atB t 0 = 36) : mch f t = mch f u := by
  have hne : (split (unB t)).set i (unB z) ≠ [] := by
    intro e; have := congrArg List.length e; simp at this; exact split_ne _ this
  have hs : split (unB u) = (split (unB t)).set i (unB z) := by
    rw [hu, un_mk]; exact split_join _ hne (none_set _ _ _ (split_none _) h47)
  unfold mch
  rw [ht, hut, hs, ← mt_swap _ _ i x y (unB z) h1 h2 hx hz, decide_eq_decide.2 h36]

theorem tmod_range (k : Int) (n : Nat) (h : 0 < n) : -(n : Int) < k.tmod n ∧ k.tmod n < n := by
  rw [tmod_eq_if]
  have h1 := Int.emod_nonneg k (b := (n : Int)) (by omega)
  have h2 := Int.emod_lt_of_pos k (b := (n : Int)) (by omega)
  have h3 := Int.emod_nonneg (-k) (b := (n : Int)) (by omega)
  have h4 := Int.emod_lt_of_pos (-k) (b := (n : Int)) (by omega)
  split <;> omega
set_option maxHeartbeats 1000000 in
set_option maxRecDepth 100000 in
theorem place_any (k : Int) (n : Nat) (w : World) (h : 0 < n) (hn : n ≤ 1000001) : Calls Try.prog 16 #[.int .i64 k, .int .i64 n] w fun e w' => (∃ i : Nat, e = .returned (.int .i64 i) ∧ i < n) ∧ w' = w := by
  have hr := tmod_range k n h
  have nz : ¬ ((n : Int) = 0) := by omega
  by_cases hneg : k.tmod n < 0
  · go_enter Try.func16, Try.ntmps16
    go_wp2
    go_ret
    exact ⟨⟨(k.tmod n + n).toNat, by show Ending.returned (.int .i64 (k.tmod n + n)) = _; congr 2; omega, by omega⟩, rfl⟩
  · go_enter Try.func16, Try.ntmps16
    go_wp2
    go_ret
    exact ⟨⟨(k.tmod n).toNat, by show Ending.returned (.int .i64 (k.tmod n)) = _; congr 2; omega, by omega⟩, rfl⟩
theorem lib_join : ∀ (l : List Bs), Lib.join l [47] = joinL l
  | [] => rfl
  | [x] => by rw [Lib.join_one]; rfl
  | x :: y :: r => by
    rw [Lib.join_cons]
    have h := lib_join (y :: r)
    rw [Lib.join_cons] at h
    simp only [joinL]
    rw [← h]
    simp [Lib.joinTail]
set_option maxHeartbeats 1000000 in
set_option maxRecDepth 100000 in
theorem join_any (xs : List ByteArray) (v : Value) (w : World) (R : Row w v xs) (hne : xs ≠ []) (hl : xs.length ≤ 1000001) (hj : (joinL (xs.map unB)).length ≤ 1000001) : Calls Try.prog 17 #[v] w fun e w' => e = .returned (.string (mkB (joinL (xs.map unB)))) ∧ Below w.heap.size w w' := by
  obtain ⟨a, n, cap, rfl, hn, hc, hrow⟩ := R
  obtain ⟨g, o, rfl, hg, hcells⟩ := hrow hne
  subst hn
  have e : (⟨#[47]⟩ : ByteArray).data.toList = [47] := rfl
  have hJ := Try.strings_Join g o cap xs ⟨#[47]⟩ w hcells hg (by omega) hc (by rw [e]; exact Nat.le_trans (by rw [show (xs.map (·.data.toList)) = xs.map unB from rfl, lib_join]; exact hj) (by decide))
  rw [e, show (xs.map (·.data.toList)) = xs.map unB from rfl, lib_join] at hJ
  have HJ : Hid (Calls Try.prog 29 #[.slice (some ⟨g, o, none⟩) xs.length cap, .string ⟨#[47]⟩] w fun e w' => e = .returned (.string (mkB (joinL (xs.map unB)))) ∧ Below w.heap.size w w') := hJ
  clear hJ hcells hrow e
  go_enter Try.func17, Try.ntmps17
  go_wp2_with fail
  go_must (go_at_call 29)
  refine HJ.out.mono ?_
  rintro e w1 ⟨rfl, hb⟩
  have B1 : Hid (Below w.heap.size w w1) := hb
  clear hb
  go_wp2_with fail
  go_ret
  exact ⟨rfl, B1.out⟩
end Go.Proofs.Ytmdlplaadelaoaa
