import Derived.Test.YtepjcfhbbcaldaaRk
namespace Go.Proofs.Ytepjcfhbbcaldaa
open Go
set_option linter.unusedSimpArgs false
set_option linter.unusedVariables false

abbrev Bs := List UInt8
/-- A text's levels, xa lists. -/
def split : Bs → List Bs
  | [] => [[]]
  | c :: r => if c = 47 then [] :: split r else
    match split r with
    | [] => [[c]]
    | h :: t => (c :: h) :: t
/-- The text of levels. -/
def joinL : List Bs → Bs
  | [] => []
  | [x] => x
  | x :: y :: r => x ++ 47 :: joinL (y :: r)

theorem split_ne (l : Bs) : split l ≠ [] := by
  cases l with
  | nil => simp [split]
  | cons c r =>
    unfold split
    split
    · simp
    · split <;> simp
theorem split_some (l : Bs) : ∃ h t, split l = h :: t := by
  cases h : split l with
  | nil => exact absurd h (split_ne l)
  | cons a t => exact ⟨a, t, rfl⟩
theorem split_slash (r : Bs) : split (47 :: r) = [] :: split r := by simp [split]
theorem split_plain (c : UInt8) (r h : Bs) (t : List Bs) (hc : ¬ c = 47) (e : split r = h :: t) : split (c :: r) = (c :: h) :: t := by
  simp [split, hc, e]
theorem join_split (l : Bs) : joinL (split l) = l := by
  induction l with
  | nil => rfl
  | cons c r ih =>
    obtain ⟨h, t, e⟩ := split_some r
    by_cases hc : c = 47
    · subst hc
      rw [split_slash, e]
      simp only [joinL, List.nil_append]
      rw [← e, ih]
    · rw [split_plain c r h t hc e]
      rw [e] at ih
      cases t with
      | nil => simp only [joinL] at ih ⊢; rw [ih]
      | cons y u => simp only [joinL] at ih ⊢; rw [List.cons_append, ih]
theorem split_append (a c : Bs) : split (a ++ 47 :: c) = split a ++ split c := by
  induction a with
  | nil => rw [List.nil_append, split_slash]; rfl
  | cons x r ih =>
    rw [List.cons_append]
    by_cases hx : x = 47
    · subst hx; rw [split_slash, split_slash, ih]; rfl
    · obtain ⟨h, t, e⟩ := split_some r
      rw [split_plain x _ h (t ++ split c) hx (by rw [ih, e]; rfl), split_plain x r h t hx e]
      rfl
theorem split_one (l : Bs) (h : 47 ∉ l) : split l = [l] := by
  induction l with
  | nil => rfl
  | cons c r ih =>
    simp only [List.mem_cons, not_or] at h
    rw [split_plain c r r [] (fun e => h.1 e.symm) (ih h.2)]
theorem split_none (l : Bs) : ∀ x ∈ split l, 47 ∉ x := by
  induction l with
  | nil => simp [split]
  | cons c r ih =>
    obtain ⟨h, t, e⟩ := split_some r
    rw [e] at ih
    by_cases hc : c = 47
    · subst hc; rw [split_slash, e]
      intro x hx
      rcases List.mem_cons.1 hx with rfl | hx
      · simp
      · exact ih x hx
    · rw [split_plain c r h t hc e]
      intro x hx
      rcases List.mem_cons.1 hx with rfl | hx
      · simp only [List.mem_cons, not_or]
        exact ⟨fun e => hc e.symm, ih h (by simp)⟩
      · exact ih x (by simp [hx])
theorem split_join : ∀ (l : List Bs), l ≠ [] → (∀ x ∈ l, 47 ∉ x) → split (joinL l) = l
  | [], h, _ => absurd rfl h
  | [x], _, h => split_one x (h x (by simp))
  | x :: y :: r, _, h => by
    simp only [joinL]
    rw [split_append, split_one x (h x (by simp)), split_join (y :: r) (by simp) (fun z hz => h z (by simp at hz ⊢; exact .inr hz))]
    rfl
theorem split_inj {a b : Bs} (h : split a = split b) : a = b := by
  rw [← join_split a, ← join_split b, h]
theorem split_one_iff (l : Bs) : (split l).length = 1 ↔ 47 ∉ l := by
  constructor
  · intro h
    obtain ⟨x, t, e⟩ := split_some l
    rw [e] at h
    have ht : t = [] := by cases t with
      | nil => rfl
      | cons a b => simp at h
    have hx := split_none l x (by rw [e]; simp)
    have hj := join_split l
    rw [e, ht] at hj
    simp only [joinL] at hj
    rw [← hj]; exact hx
  · intro h; rw [split_one l h]; rfl

/-- A text out of a list of its bytes. -/
def mkB (l : Bs) : ByteArray := ⟨l.toArray⟩
def unB (s : ByteArray) : Bs := s.data.toList
theorem un_mk (l : Bs) : unB (mkB l) = l := by simp [unB, mkB]
theorem mk_un (s : ByteArray) : mkB (unB s) = s := by
  obtain ⟨⟨l⟩⟩ := s; rfl
theorem un_inj {a b : ByteArray} (h : unB a = unB b) : a = b := by rw [← mk_un a, ← mk_un b, h]
theorem un_size (s : ByteArray) : (unB s).length = s.size := by simp [unB]
theorem un_extract (s : ByteArray) (i j : Nat) : unB (s.extract i j) = ((unB s).take j).drop i := by
  show (s.extract i j).data.toList = _
  rw [Lib.extract_data]
  simp [unB, List.drop_take]
theorem atB_un (s : ByteArray) (i : Nat) : atB s i = ((unB s)[i]?.getD 0).toNat := atB_list s i

theorem lvs_split (s : ByteArray) : ∀ (b f i : Nat), f ≤ i → i ≤ s.size → s.size ≤ i + b →
    ∃ h t, split ((unB s).drop i) = h :: t ∧ (lvs s b f i).map unB = (((unB s).take i).drop f ++ h) :: t
  | 0, f, i, hf, hi, hb => by
    have e : i = s.size := by omega
    subst e
    refine ⟨[], [], ?_, ?_⟩
    · rw [List.drop_eq_nil_of_le (by rw [un_size]; exact Nat.le_refl _)]; rfl
    · simp only [lvs, List.map_cons, List.map_nil, un_extract, List.append_nil]
  | b + 1, f, i, hf, hi, hb => by
    by_cases hlt : i < s.size
    · have hl : i < (unB s).length := by rw [un_size]; exact hlt
      have hd : (unB s).drop i = (unB s)[i] :: (unB s).drop (i + 1) := List.drop_eq_getElem_cons hl
      have hat : atB s i = ((unB s)[i]).toNat := by rw [atB_un, List.getElem?_eq_getElem hl]; rfl
      have ht : (unB s).take (i + 1) = (unB s).take i ++ [(unB s)[i]] := (List.take_succ_eq_append_getElem hl)
      by_cases hc : atB s i = 47
      · have hc' : (unB s)[i] = 47 := by
          rw [hat] at hc
          exact UInt8.toNat_inj.1 hc
        obtain ⟨h, t, e1, e2⟩ := lvs_split s b (i + 1) (i + 1) (Nat.le_refl _) (by omega) (by omega)
        refine ⟨[], h :: t, ?_, ?_⟩
        · rw [hd, hc', split_slash, e1]
        · simp only [lvs, hlt, hc, if_true, List.map_cons]
          rw [e2, un_extract]
          have : ((unB s).take (i + 1)).drop (i + 1) = [] := List.drop_eq_nil_of_le (by simp; omega)
          rw [this]
          simp
      · have hc' : ¬ (unB s)[i] = 47 := fun h => hc (by rw [hat, h]; rfl)
        obtain ⟨h, t, e1, e2⟩ := lvs_split s b f (i + 1) (by omega) (by omega) (by omega)
        refine ⟨(unB s)[i] :: h, t, ?_, ?_⟩
        · rw [hd]; exact split_plain _ _ _ _ hc' e1
        · simp only [lvs, hlt, hc, if_true, if_false]
          rw [e2, ht, List.drop_append_of_le_length (by simp; omega)]
          simp
    · have e : i = s.size := by omega
      subst e
      refine ⟨[], [], ?_, ?_⟩
      · rw [List.drop_eq_nil_of_le (by rw [un_size]; exact Nat.le_refl _)]; rfl
      · rw [lvs_end s _ f _ hlt]
        simp only [List.map_cons, List.map_nil, un_extract, List.append_nil]
theorem levels_split (s : ByteArray) : (levels s).map unB = split (unB s) := by
  obtain ⟨h, t, e1, e2⟩ := lvs_split s s.size 0 0 (Nat.le_refl _) (Nat.zero_le _) (by omega)
  rw [levels, e2]
  simp at e1 ⊢
  exact e1.symm
theorem levels_mk (s : ByteArray) : levels s = (split (unB s)).map mkB := by
  rw [← levels_split, List.map_map]
  conv => lhs; rw [← List.map_id (levels s)]
  exact List.map_congr_left fun x _ => (mk_un x).symm

/-- A byte's place in the order. -/
def rk (c : UInt8) : Int := if c = 47 then -1 else (c.toNat : Int)
theorem rk_inj {a b : UInt8} (h : rk a = rk b) : a = b := by
  unfold rk at h
  split at h
  · split at h
    · rename_i h1 h2; rw [h1, h2]
    · have := Int.natCast_nonneg b.toNat; omega
  · split at h
    · have := Int.natCast_nonneg a.toNat; omega
    · exact UInt8.toNat_inj.1 (by omega)
/-- The order of texts, byte by byte. -/
def cmpL : Bs → Bs → Int
  | [], [] => 0
  | [], _ :: _ => -1
  | _ :: _, [] => 1
  | a :: xa, b :: bs => if a = b then cmpL xa bs else if rk a < rk b then -1 else 1
theorem cmpL_range : ∀ a b, cmpL a b = -1 ∨ cmpL a b = 0 ∨ cmpL a b = 1
  | [], [] => by simp [cmpL]
  | [], _ :: _ => by simp [cmpL]
  | _ :: _, [] => by simp [cmpL]
  | a :: xa, b :: bs => by
    unfold cmpL
    split
    · exact cmpL_range xa bs
    · split <;> simp
theorem cmpL_flip : ∀ a b, cmpL b a = - cmpL a b
  | [], [] => by simp [cmpL]
  | [], _ :: _ => by simp [cmpL]
  | _ :: _, [] => by simp [cmpL]
  | a :: xa, b :: bs => by
    unfold cmpL
    by_cases h : a = b
    · subst h; simp; exact cmpL_flip xa bs
    · have h' : ¬ b = a := fun e => h e.symm
      have hn : ¬ rk a = rk b := fun e => h (rk_inj e)
      rw [if_neg h, if_neg h']
      by_cases hr : rk a < rk b
      · rw [if_pos hr, if_neg (by omega)]; rfl
      · rw [if_neg hr, if_pos (by omega)]
theorem cmpL_zero : ∀ a b, cmpL a b = 0 ↔ a = b
  | [], [] => by simp [cmpL]
  | [], _ :: _ => by simp [cmpL]
  | _ :: _, [] => by simp [cmpL]
  | a :: xa, b :: bs => by
    unfold cmpL
    by_cases h : a = b
    · subst h; simp; exact cmpL_zero xa bs
    · rw [if_neg h]
      have : ¬ a :: xa = b :: bs := fun e => h (List.cons.inj e).1
      simp only [this, iff_false]
      split <;> simp
theorem cmpL_trans : ∀ a b c, cmpL a b ≤ 0 → cmpL b c ≤ 0 → cmpL a c ≤ 0
  | [], b, [], _, _ => by simp [cmpL]
  | [], b, _ :: _, _, _ => by simp [cmpL]
  | a :: xa, [], c, h, _ => by simp [cmpL] at h
  | a :: xa, b :: bs, [], _, h => by simp [cmpL] at h
  | a :: xa, b :: bs, c :: cs, h1, h2 => by
    unfold cmpL at h1 h2 ⊢
    by_cases e1 : a = b
    · subst e1
      rw [if_pos rfl] at h1
      by_cases e2 : a = c
      · subst e2
        rw [if_pos rfl] at h2 ⊢
        exact cmpL_trans xa bs cs h1 h2
      · rw [if_neg e2] at h2 ⊢
        exact h2
    · rw [if_neg e1] at h1
      by_cases e2 : b = c
      · subst e2
        rw [if_neg e1]; exact h1
      · rw [if_neg e2] at h2
        have r1 : rk a < rk b := by
          apply Classical.byContradiction; intro hn; rw [if_neg hn] at h1; omega
        have r2 : rk b < rk c := by
          apply Classical.byContradiction; intro hn; rw [if_neg hn] at h2; omega
        have e3 : ¬ a = c := fun e => by subst e; omega
        rw [if_neg e3, if_pos (by omega)]; omega
theorem cmpL_longer : ∀ a z, cmpL a (a ++ 47 :: z) = -1
  | [], z => by simp [cmpL]
  | a :: xa, z => by
    rw [List.cons_append]
    unfold cmpL
    rw [if_pos rfl]
    exact cmpL_longer xa z
theorem cmpL_between : ∀ a b z, cmpL a b = -1 → cmpL b (a ++ 47 :: z) = -1 → ∃ c, b = a ++ 47 :: c
  | [], [], z, h, _ => by simp [cmpL] at h
  | [], c :: r, z, _, h => by
    rw [List.nil_append] at h
    unfold cmpL at h
    by_cases e : c = 47
    · subst e; exact ⟨r, rfl⟩
    · rw [if_neg e] at h
      have : ¬ rk c < rk 47 := by
        have h1 : rk 47 = -1 := rfl
        have h2 : rk c = c.toNat := by simp [rk, e]
        have := Int.natCast_nonneg c.toNat
        omega
      rw [if_neg this] at h; omega
  | a :: xa, [], z, h, _ => by simp [cmpL] at h
  | a :: xa, b :: bs, z, h1, h2 => by
    rw [List.cons_append] at h2
    unfold cmpL at h1 h2
    by_cases e : a = b
    · subst e
      rw [if_pos rfl] at h1 h2
      obtain ⟨c, rfl⟩ := cmpL_between xa bs z h1 h2
      exact ⟨c, rfl⟩
    · have e' : ¬ b = a := fun x => e x.symm
      rw [if_neg e] at h1
      rw [if_neg e'] at h2
      have r1 : rk a < rk b := by
        apply Classical.byContradiction; intro hn; rw [if_neg hn] at h1; omega
      rw [if_neg (by omega)] at h2; omega

/-- Bytes in their own order. -/
def ltL : Bs → Bs → Bool
  | _, [] => false
  | [], _ :: _ => true
  | a :: xa, b :: bs => if a = b then ltL xa bs else decide (a.toNat < b.toNat)
/-- The order of levels. -/
def cmpV : List Bs → List Bs → Int
  | [], [] => 0
  | [], _ :: _ => -1
  | _ :: _, [] => 1
  | a :: xa, b :: bs => if a = b then cmpV xa bs else if ltL a b then -1 else 1
theorem cmpV_cons (c : UInt8) (h g : Bs) (t u : List Bs) : cmpV ((c :: h) :: t) ((c :: g) :: u) = cmpV (h :: t) (g :: u) := by
  simp only [cmpV, ltL, if_true, List.cons.injEq, true_and]
theorem cmpV_split : ∀ a b, cmpV (split a) (split b) = cmpL a b
  | [], [] => by simp [split, cmpV, cmpL]
  | [], c :: r => by
    by_cases hc : c = 47
    · subst hc; rw [split_slash]; obtain ⟨h, t, e⟩ := split_some r; rw [e]; simp [split, cmpV, cmpL]
    · obtain ⟨h, t, e⟩ := split_some r; rw [split_plain c r h t hc e]; simp [split, cmpV, cmpL, ltL]
  | c :: r, [] => by
    by_cases hc : c = 47
    · subst hc; rw [split_slash]; obtain ⟨h, t, e⟩ := split_some r; rw [e]; simp [split, cmpV, cmpL]
    · obtain ⟨h, t, e⟩ := split_some r; rw [split_plain c r h t hc e]; simp [split, cmpV, cmpL, ltL]
  | c :: r, d :: q => by
    have ih := cmpV_split r q
    obtain ⟨h, t, e⟩ := split_some r
    obtain ⟨g, u, e'⟩ := split_some q
    by_cases hc : c = 47
    · by_cases hd : d = 47
      · subst hc; subst hd
        rw [split_slash, split_slash]
        simp only [cmpV, cmpL, if_true]; exact ih
      · subst hc
        rw [split_slash, split_plain d q g u hd e']
        have n1 : ¬ (47 : UInt8) = d := fun x => hd x.symm
        have n2 : rk 47 < rk d := by
          have h1 : rk 47 = -1 := rfl
          have h2 : rk d = d.toNat := by simp [rk, hd]
          have := Int.natCast_nonneg d.toNat
          omega
        simp [cmpV, cmpL, ltL, n1, n2]
    · by_cases hd : d = 47
      · subst hd
        rw [split_slash, split_plain c r h t hc e]
        have n2 : ¬ rk c < rk 47 := by
          have h1 : rk 47 = -1 := rfl
          have h2 : rk c = c.toNat := by simp [rk, hc]
          have := Int.natCast_nonneg c.toNat
          omega
        simp [cmpV, cmpL, ltL, hc, n2]
      · rw [split_plain c r h t hc e, split_plain d q g u hd e']
        by_cases hcd : c = d
        · subst hcd
          rw [cmpV_cons]
          simp only [cmpL, if_true]
          rw [← ih, e, e']
        · have hr : (rk c < rk d) ↔ c.toNat < d.toNat := by
            simp only [rk, hc, hd, if_false]; omega
          simp only [cmpV, cmpL, ltL, hcd, if_false, List.cons.injEq, false_and, hr, decide_eq_true_eq]
end Go.Proofs.Ytepjcfhbbcaldaa
