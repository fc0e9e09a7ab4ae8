import Derived.Test.YtglnldopnoafoaaGreatDoorCm
import Derived.Test.YtglnldopnoafoaaGreatDoorShelf
import Derived.Lib.Slices
import Derived.Laws.Strings3
namespace Go.Proofs.YtglnldopnoafoaaGreatDoor
open Go
set_option linter.unusedSimpArgs false
set_option linter.unusedVariables false

/-- A filter's levels as cover has them. -/
def lvO (f : ByteArray) : List Bs := if rfc f = 0 then (if unB f = [35] then [[43], [35]] else if unB f = [47, 35] then [[], [43], [35]] else split (unB f)) else []
/-- A level that a topic may have. -/
def Lvl (x : Bs) : Prop := Gd x ∧ 47 ∉ x ∧ 43 ∉ x ∧ 35 ∉ x
structure Lv (L : List Bs) : Prop where
  fil : Fil L
  ok : ∀ x ∈ L, sgB x = false → Lvl x
  ne : L ≠ []
  head : ∀ x r, L = x :: r → ¬ x = [35] ∧ (x = [] → mayE r = false)
  room : (joinL L).length ≤ 65535
theorem gd_nil : Gd [] := by unfold Gd good; kernel_rfl
theorem gd_a : Gd [97] := by unfold Gd good; kernel_rfl
theorem gd_b : Gd [98] := by unfold Gd good; kernel_rfl
theorem lvl_nil : Lvl [] := ⟨gd_nil, by simp, by simp, by simp⟩
theorem lvl_a : Lvl [97] := ⟨gd_a, by decide, by decide, by decide⟩
theorem lvl_b : Lvl [98] := ⟨gd_b, by decide, by decide, by decide⟩
theorem fil_mem : ∀ {l : List Bs}, Fil l → ∀ x ∈ l, sgB x = false → ¬ 43 ∈ x ∧ ¬ 35 ∈ x
  | [], _, x, hx, _ => by cases hx
  | y :: r, h, x, hx, hs => by
    rcases List.mem_cons.1 hx with rfl | hx
    · exact fil_plain h hs
    · exact fil_mem h.2.2 x hx hs
theorem lvO_no {f : ByteArray} (h : ¬ rfc f = 0) : lvO f = [] := by simp [lvO, h]
theorem lvO_lv {f : ByteArray} (h : rfc f = 0) : Lv (lvO f) := by
  obtain ⟨⟨h1, h2⟩, h3⟩ := (rfc_iff f).1 h
  have hz := (rfc_zero h).1
  unfold lvO
  rw [if_pos h]
  by_cases e1 : unB f = [35]
  · rw [if_pos e1]
    refine ⟨?_, ?_, by simp, ?_, by decide⟩
    · simp [Fil, sgB]
    · intro x hx hs
      simp only [List.mem_cons, List.not_mem_nil, or_false] at hx
      rcases hx with rfl | rfl <;> simp [sgB] at hs
    · intro x r e
      simp only [List.cons.injEq] at e
      obtain ⟨rfl, rfl⟩ := e
      exact ⟨by decide, by intro h; cases h⟩
  · rw [if_neg e1]
    by_cases e2 : unB f = [47, 35]
    · rw [if_pos e2]
      refine ⟨?_, ?_, by simp, ?_, by decide⟩
      · simp [Fil, sgB]
      · intro x hx hs
        simp only [List.mem_cons, List.not_mem_nil, or_false] at hx
        rcases hx with rfl | rfl | rfl
        · exact lvl_nil
        · simp [sgB] at hs
        · simp [sgB] at hs
      · intro x r e
        simp only [List.cons.injEq] at e
        obtain ⟨rfl, rfl⟩ := e
        exact ⟨by decide, fun _ => by decide⟩
    · rw [if_neg e2]
      have hf := fil_any _ h3
      have hj := join_split (unB f)
      have hg : ∀ x ∈ split (unB f), Gd x := by
        have := (gd_levels (split (unB f)) (split_ne _) (by rw [hj, un_size]; exact hz)).1
        rw [hj] at this
        exact this ((txt_gd f).1 h2)
      refine ⟨hf, fun x hx hs => ⟨hg x hx, split_none _ x hx, (fil_mem hf x hx hs).1, (fil_mem hf x hx hs).2⟩, split_ne _, ?_, by rw [hj, un_size]; exact hz⟩
      intro x r e
      rw [e] at hf hj
      constructor
      · intro hx
        have hr := hf.1 hx
        rw [hx, hr] at hj
        exact e1 hj.symm
      · intro hx
        cases r with
        | nil =>
          rw [hx] at hj
          simp only [joinL] at hj
          have := un_size f
          rw [← hj] at this
          simp at this
          omega
        | cons y z =>
          simp only [mayE, decide_eq_false_iff_not]
          intro hy
          have hr := hf.2.2.1 hy
          rw [hx, hy, hr] at hj
          exact e2 hj.symm
/-- Does a level begin with a dollar? -/
def dol (x : Bs) : Bool := List.isPrefixOf [36] x
theorem dol_iff (x : Bs) : dol x = true ↔ ∃ r, x = 36 :: r := by
  cases x with
  | nil => simp [dol]
  | cons c r => simp [dol, List.isPrefixOf]; exact eq_comm
theorem at_dol (x : Bs) (r : List Bs) (t : ByteArray) (h : unB t = joinL (x :: r)) : atB t 0 = 36 ↔ dol x = true := by
  rw [atB_un, h, dol_iff]
  have key : ∀ (c : UInt8), c.toNat = 36 ↔ c = 36 := fun c => ⟨fun h => UInt8.toNat_inj.1 h, fun h => by rw [h]; rfl⟩
  cases x with
  | nil =>
    cases r with
    | nil => simp [joinL]
    | cons y z => simp [joinL]
  | cons c d =>
    cases r with
    | nil => simp only [joinL, List.getElem?_cons_zero, Option.getD_some, key]; simp
    | cons y z => simp only [joinL, List.cons_append, List.getElem?_cons_zero, Option.getD_some, key]; simp
theorem split_head (t : ByteArray) : ∃ x r, split (unB t) = x :: r ∧ unB t = joinL (x :: r) := by
  obtain ⟨x, r, e⟩ := split_some (unB t)
  exact ⟨x, r, e, by rw [← e, join_split]⟩
/-- Match, by these levels. -/
theorem mem_lv (f t : ByteArray) : mch f t = true ↔ rfc f = 0 ∧ tcode t = 0 ∧ ¬ (atB t 0 = 36 ∧ hd0 (lvO f) = true) ∧ mt (lvO f) (split (unB t)) = true := by
  rw [mch_iff]
  by_cases h1 : rfc f = 0
  · by_cases h2 : tcode t = 0
    · have hsz := (tcode_zero h2).2
      obtain ⟨x, xs, e, ej⟩ := split_head t
      have hne : ¬ (x = [] ∧ xs = []) := by
        rintro ⟨rfl, rfl⟩
        have := un_size t
        rw [ej] at this
        simp [joinL] at this
        omega
      unfold lvO
      rw [if_pos h1]
      by_cases e1 : unB f = [35]
      · rw [if_pos e1, e1, e]
        have : split [35] = [[35]] := by decide
        rw [this]
        simp [hd0, mt]
      · rw [if_neg e1]
        by_cases e2 : unB f = [47, 35]
        · rw [if_pos e2, e2, e]
          have : split [47, 35] = [[], [35]] := by decide
          rw [this]
          have hm : mt [[], [35]] (x :: xs) = mt [[], [43], [35]] (x :: xs) := by
            cases x with
            | nil =>
              cases xs with
              | nil => exact absurd ⟨rfl, rfl⟩ hne
              | cons y z => simp [mt]
            | cons c d => simp [mt]
          rw [hm]
          simp [hd0]
        · rw [if_neg e2]
    · simp [h2]
  · simp [h1]
def hidL : List Bs → List Bs → Bool
  | a :: _, b :: _ => sgB a && dol b
  | _, _ => false
/-- What Meet tells, of levels. -/
def meetL (a b : List Bs) : Option Bs :=
  if a = [] ∨ b = [] then none else if hidL a b || hidL b a then none else
  match com (a.length + b.length + 1) a b with
  | none => none
  | some t => if joinL t = [] then some [97] else if 65535 < (joinL t).length then none else some (joinL t)
def meetP (f g : ByteArray) : Option Bs := meetL (lvO f) (lvO g)
/-- What Outside tells, of levels. -/
def outL (a b : List Bs) : Option (List Bs) := if a = [] then none else if b = [] ∨ hidL b a = true then some (a.map fillB) else bey a b
def outP (f g : ByteArray) : Option Bs := (outL (lvO f) (lvO g)).map joinL

theorem mem_join : ∀ (l : List Bs) (c : UInt8), c ∈ joinL l → c = 47 ∨ ∃ x ∈ l, c ∈ x
  | [], c, h => by simp [joinL] at h
  | [x], c, h => .inr ⟨x, List.mem_cons_self, h⟩
  | x :: y :: r, c, h => by
    simp only [joinL, List.mem_append, List.mem_cons] at h
    rcases h with h | h | h
    · exact .inr ⟨x, List.mem_cons_self, h⟩
    · exact .inl h
    · rcases mem_join (y :: r) c h with h | ⟨z, hz, hc⟩
      · exact .inl h
      · exact .inr ⟨z, List.mem_cons_of_mem _ hz, hc⟩
theorem is_topic (t : List Bs) (hne : t ≠ []) (hj : joinL t ≠ []) (hl : (joinL t).length ≤ 65535) (hq : ∀ x ∈ t, Lvl x) : tcode (mkB (joinL t)) = 0 ∧ split (unB (mkB (joinL t))) = t := by
  constructor
  · rw [tcode_iff, mk_size, un_mk, txt_gd, un_mk]
    refine ⟨⟨List.length_pos_iff.2 hj, (gd_levels t hne hl).2 fun x hx => (hq x hx).1⟩, ?_, ?_⟩
    · intro h
      rcases mem_join t _ h with h | ⟨x, hx, hc⟩
      · cases h
      · exact (hq x hx).2.2.1 hc
    · intro h
      rcases mem_join t _ h with h | ⟨x, hx, hc⟩
      · cases h
      · exact (hq x hx).2.2.2 hc
  · rw [un_mk]
    exact split_join t hne fun x hx => (hq x hx).2.1
theorem join_nil {t : List Bs} (h : joinL t = []) (hne : t ≠ []) : t = [[]] := by
  match t, h, hne with
  | [], _, hne => exact absurd rfl hne
  | [x], h, _ => simp only [joinL] at h; rw [h]
  | x :: y :: r, h, _ => simp [joinL] at h
theorem hd0_sg (x : Bs) (r : List Bs) : hd0 (x :: r) = sgB x := rfl
theorem topic_in {L t : List Bs} {f : ByteArray} (hf : rfc f = 0) (hL : lvO f = L) (hne : t ≠ []) (hj : joinL t ≠ []) (hl : (joinL t).length ≤ 65535) (hq : ∀ x ∈ t, Lvl x) (hm : mt L t = true) (hd : ∀ x r, t = x :: r → ¬ (dol x = true ∧ hd0 L = true)) : mch f (mkB (joinL t)) = true := by
  obtain ⟨ht, hs⟩ := is_topic t hne hj hl hq
  rw [mem_lv]
  refine ⟨hf, ht, ?_, by rw [hL, hs]; exact hm⟩
  rw [hL]
  cases t with
  | nil => exact absurd rfl hne
  | cons x r =>
    rw [at_dol x r (mkB (joinL (x :: r))) (un_mk _)]
    exact hd x r rfl
theorem mt_first {a x : Bs} {r xs : List Bs} (h : mt (a :: r) (x :: xs) = true) (hs : sgB a = false) : a = x := by
  rcases (mt_beh h).2 with h | h
  · rw [hs] at h; cases h
  · exact h
theorem dol_sg {x : Bs} (h : dol x = true) : sgB x = false := by
  obtain ⟨r, e⟩ := (dol_iff x).1 h
  rw [sgB_no, e]
  constructor <;> (intro h; simp at h)
theorem sgB_fill (x : Bs) (h : sgB x = true) : dol (fillB x) = false := by
  unfold fillB
  rw [if_pos h]
  decide
theorem out_shape {A B t : List Bs} (L : Lv A) (hB : ∀ b s, B = b :: s → ¬ b = [35]) (h : outL A B = some t) : t ≠ [] ∧ joinL t ≠ [] ∧ (joinL t).length ≤ 65535 ∧ (∀ x ∈ t, Lvl x) ∧ mt A t = true ∧ (∀ x r, t = x :: r → ¬ (dol x = true ∧ hd0 A = true)) := by
  have key : ∀ (a : Bs) (r : List Bs) (l : Bs) (u : List Bs), A = a :: r → l.length = a.length → (a = [] → u ≠ []) → joinL (l :: u) ≠ [] := by
    intro a r l u eA hl hu hj
    have := join_nil hj (by simp)
    simp only [List.cons.injEq] at this
    obtain ⟨rfl, rfl⟩ := this
    have ha : a = [] := List.eq_nil_of_length_eq_zero (by simp at hl; omega)
    exact hu ha rfl
  unfold outL at h
  rw [if_neg L.ne] at h
  cases A with
  | nil => exact absurd rfl L.ne
  | cons a r =>
  have hh := L.head a r rfl
  have hr : a = [] → r ≠ [] := by
    intro e e2
    have := hh.2 e
    rw [e2] at this
    cases this
  have hL : ∀ b, (dol (lvlB a b).1 = true ∧ sgB a = true) → False := by
    rintro b ⟨h1, h2⟩
    have hf := sgB_fill a h2
    unfold lvlB at h1
    split at h1
    · rw [hf] at h1; cases h1
    · split at h1
      · simp [dol] at h1
      · rw [hf] at h1; cases h1
  have hS : Sh t (a :: r) := by
    split at h
    · simp only [Option.some.injEq] at h; subst h; exact sh_fill _
    · exact (bey_right _ _ _ h).2.2
  have hM : mt (a :: r) t = true := by
    split at h
    · simp only [Option.some.injEq] at h; subst h; exact mt_fill _
    · exact (bey_right _ _ _ h).1
  have hQ : ∀ x ∈ t, Lvl x := by
    split at h
    · exact bey_all Lvl lvl_a lvl_b (a :: r) [] t h L.ok
    · exact bey_all Lvl lvl_a lvl_b (a :: r) B t h L.ok
  have hT : ∃ l u, t = l :: u ∧ joinL t ≠ [] ∧ ¬ (dol l = true ∧ sgB a = true) := by
    split at h
    · simp only [Option.some.injEq] at h; subst h
      refine ⟨fillB a, r.map fillB, rfl, ?_, ?_⟩
      · exact key a r _ _ rfl (fill_len a) (fun e => by simp; exact hr e)
      · rintro ⟨h1, h2⟩
        rw [sgB_fill a h2] at h1; cases h1
    · rename_i hn
      simp only [not_or] at hn
      cases B with
      | nil => exact absurd rfl hn.1
      | cons b s =>
        unfold bey at h
        rw [if_neg (hB b s rfl), if_neg hh.1] at h
        split at h
        · simp only [Option.some.injEq] at h; subst h
          exact ⟨_, _, rfl, key a r _ _ rfl (lvlB_len a b) (fun e => by simp; exact hr e), hL b⟩
        · cases e : bey r s with
          | none => rw [e] at h; cases h
          | some u =>
            rw [e] at h
            simp only [Option.map_some, Option.some.injEq] at h; subst h
            refine ⟨_, _, rfl, key a r _ _ rfl (lvlB_len a b) (fun ea => ?_), hL b⟩
            intro hu
            subst hu
            have hm := hh.2 ea
            cases r with
            | nil => simp [mayE] at hm
            | cons c d =>
              simp only [mayE, decide_eq_false_iff_not] at hm
              have := (bey_right _ _ _ e).1
              simp [mt, hm] at this
  obtain ⟨l, u, et, hj, hd⟩ := hT
  refine ⟨by rw [et]; simp, hj, Nat.le_trans (sh_join _ _ hS) L.room, hQ, hM, ?_⟩
  intro x z e
  rw [et] at e
  simp only [List.cons.injEq] at e
  obtain ⟨rfl, rfl⟩ := e
  rw [hd0_sg]
  exact hd
theorem lv_first {g : ByteArray} (b : Bs) (s : List Bs) (h : lvO g = b :: s) : ¬ b = [35] := by
  have hg : rfc g = 0 := Classical.byContradiction fun e => by rw [lvO_no e] at h; cases h
  exact ((lvO_lv hg).head b s h).1
theorem out_right (f g : ByteArray) (s : Bs) (h : outP f g = some s) : mch f (mkB s) = true ∧ mch g (mkB s) = false := by
  unfold outP at h
  cases e : outL (lvO f) (lvO g) with
  | none => rw [e] at h; cases h
  | some t =>
    rw [e] at h
    simp only [Option.map_some, Option.some.injEq] at h; subst h
    have hf : rfc f = 0 := Classical.byContradiction fun h => by simp [outL, lvO_no h] at e
    obtain ⟨s1, s2, s3, s4, s5, s6⟩ := out_shape (lvO_lv hf) (fun b s => lv_first b s) e
    refine ⟨topic_in hf rfl s1 s2 s3 s4 s5 s6, ?_⟩
    apply Bool.eq_false_iff.2
    intro hg
    obtain ⟨h1, h2, h3, h4⟩ := (mem_lv g _).1 hg
    obtain ⟨_, hs⟩ := is_topic t s1 s2 s3 s4
    rw [hs] at h4
    unfold outL at e
    rw [if_neg (lvO_lv hf).ne] at e
    split at e
    · rename_i hh
      rcases hh with hh | hh
      · exact (lvO_lv h1).ne hh
      · simp only [Option.some.injEq] at e
        subst e
        cases eA : lvO f with
        | nil => exact (lvO_lv hf).ne eA
        | cons a r =>
          cases eB : lvO g with
          | nil => exact (lvO_lv h1).ne eB
          | cons b q =>
            rw [eA, eB] at hh
            simp only [hidL, Bool.and_eq_true] at hh
            apply h3
            rw [eA, eB, hd0_sg]
            refine ⟨?_, hh.1⟩
            rw [List.map_cons, at_dol (fillB a) (r.map fillB) _ (un_mk _)]
            have : fillB a = a := by simp [fillB, dol_sg hh.2]
            rw [this]; exact hh.2
    · rw [(bey_right _ _ _ e).2.1] at h4; cases h4
theorem out_full (f g T : ByteArray) (h1 : mch f T = true) (h2 : mch g T = false) : ∃ s, outP f g = some s := by
  obtain ⟨hf, ht, d1, m1⟩ := (mem_lv f T).1 h1
  unfold outP outL
  rw [if_neg (lvO_lv hf).ne]
  split
  · exact ⟨_, rfl⟩
  · rename_i hh
    simp only [not_or] at hh
    have hg : rfc g = 0 := Classical.byContradiction fun e => hh.1 (lvO_no e)
    have hm : mt (lvO g) (split (unB T)) = false := by
      apply Bool.eq_false_iff.2
      intro hm
      have : mch g T = true := by
        rw [mem_lv]
        refine ⟨hg, ht, ?_, hm⟩
        rintro ⟨hd, hs⟩
        apply hh.2
        obtain ⟨x, xs, e, ej⟩ := split_head T
        rw [e] at m1
        rw [at_dol x xs T ej] at d1 hd
        cases eA : lvO f with
        | nil => exact absurd eA (lvO_lv hf).ne
        | cons a r =>
          cases eB : lvO g with
          | nil => exact absurd eB hh.1
          | cons b q =>
            rw [eA] at d1 m1
            rw [eB] at hs
            rw [hd0_sg] at hs d1
            have : sgB a = false := by
              apply Bool.eq_false_iff.2
              intro h; exact d1 ⟨hd, h⟩
            have := mt_first m1 this
            subst this
            simp [hidL, hs, hd]
      rw [this] at h2; cases h2
    obtain ⟨t, e⟩ := bey_full _ _ _ m1 hm
    rw [e]; exact ⟨_, rfl⟩
theorem out_iff (f g : ByteArray) : (outP f g).isSome = true ↔ ∃ T, mch f T = true ∧ mch g T = false := by
  constructor
  · intro h
    obtain ⟨s, e⟩ := Option.isSome_iff_exists.1 h
    exact ⟨_, out_right f g s e⟩
  · rintro ⟨T, h1, h2⟩
    obtain ⟨s, e⟩ := out_full f g T h1 h2
    rw [e]; rfl
end Go.Proofs.YtglnldopnoafoaaGreatDoor

namespace Go.Proofs.YtglnldopnoafoaaGreatDoor
open Go Go.RowKit
set_option linter.unusedSimpArgs false
set_option linter.unusedVariables false

set_option maxRecDepth 100000 in
set_option maxHeartbeats 1000000 in
theorem isSign_any (s : ByteArray) (w : World) : Calls Tryz.prog 139 #[.string s] w fun e w' => e = .returned (.bool (sgB (unB s))) ∧ w' = w := by
  have e0 : sgB (unB s) = ((s.toList == [43]) || (s.toList == [35])) := by rw [eq_one', eq_one']; rfl
  rw [e0]
  clear e0
  obtain ⟨b1, h1⟩ : ∃ b, (s.toList == [43]) = b := ⟨_, rfl⟩
  obtain ⟨b2, h2⟩ : ∃ b, (s.toList == [35]) = b := ⟨_, rfl⟩
  go_enter Tryz.func139, Tryz.ntmps139
  rw [h1, h2]
  cases b1 <;> cases b2 <;> (go_wp2_with fail; go_ret; exact ⟨by simp [h1, h2], rfl⟩)
set_option maxRecDepth 100000 in
set_option maxHeartbeats 1000000 in
theorem fill_any (s : ByteArray) (w : World) : Calls Tryz.prog 142 #[.string s] w fun e w' => e = .returned (.string (mkB (fillB (unB s)))) ∧ w' = w := by
  obtain ⟨b, hb⟩ : ∃ b, sgB (unB s) = b := ⟨_, rfl⟩
  have HS : Hid (∀ w, Calls Tryz.prog 139 #[.string s] w fun e w' => e = .returned (.bool b) ∧ w' = w) := by intro w; have := isSign_any s w; rw [hb] at this; exact this
  have e0 : fillB (unB s) = if b then [97] else unB s := by rw [fillB, hb]
  rw [e0]
  clear e0 hb
  go_enter Tryz.func142, Tryz.ntmps142
  cases b with
  | true =>
    go_wp2_with (go_at_call 139; refine (HS.out _).mono ?_; rintro e w1 ⟨rfl, rfl⟩)
    go_ret
    exact ⟨rfl, rfl⟩
  | false =>
    go_wp2_with (go_at_call 139; refine (HS.out _).mono ?_; rintro e w1 ⟨rfl, rfl⟩)
    go_ret
    exact ⟨by simp [mk_un], rfl⟩
set_option maxRecDepth 100000 in
set_option maxHeartbeats 1000000 in
theorem mayEnd_any (xs : List ByteArray) (v : Value) (w : World) (R : Row w v xs) : Calls Tryz.prog 143 #[v] w fun e w' => e = .returned (.bool (mayE (xs.map unB))) ∧ w' = w := by
  cases xs with
  | nil =>
    obtain ⟨a, cap, rfl⟩ := R.nil
    clear R
    go_enter Tryz.func143, Tryz.ntmps143
    go_wp2_with fail
    go_ret
    exact ⟨rfl, rfl⟩
  | cons x r =>
    obtain ⟨g, o, n, cap, rfl, hn, hc, hg, c0, hk⟩ := R.cons
    have e0 : mayE ((x :: r).map unB) = (x.toList == [35]) := by rw [eq_one']; rfl
    rw [e0]
    obtain ⟨b, hb⟩ : ∃ b, (x.toList == [35]) = b := ⟨_, rfl⟩
    have q0 : ((n : Int) == 0) = false := by rw [beq_eq_false_iff_ne]; omega
    have q1 : (0 : Int) < n := by omega
    clear R hk e0 hn hc hg
    go_enter Tryz.func143, Tryz.ntmps143
    rw [hb]
    cases b <;> (go_wp2_with fail; go_ret; exact ⟨by simp [hb], rfl⟩)
set_option maxRecDepth 100000 in
set_option maxHeartbeats 1000000 in
theorem lvl_any (s t : ByteArray) (w : World) : Calls Tryz.prog 144 #[.string s, .string t] w fun e w' => e = .returned (.tuple #[.string (mkB (lvlB (unB s) (unB t)).1), .bool (lvlB (unB s) (unB t)).2]) ∧ w' = w := by
  obtain ⟨b, hb⟩ : ∃ b, sgB (unB s) = b := ⟨_, rfl⟩
  obtain ⟨c, hc⟩ : ∃ c, sgB (unB t) = c := ⟨_, rfl⟩
  obtain ⟨d, hd⟩ : ∃ d, (t.toList == [97]) = d := ⟨_, rfl⟩
  obtain ⟨q, hq⟩ : ∃ q, fillB (unB s) = q := ⟨_, rfl⟩
  obtain ⟨k, hk⟩ : ∃ k, ((mkB q).toList != t.toList) = k := ⟨_, rfl⟩
  have e0 : lvlB (unB s) (unB t) = if c then (q, false) else if b && d then ([98], true) else (q, k) := by
    rw [lvlB, hb, hc, hq]
    have h1 : decide (unB t = [97]) = d := by rw [← eq_one', hd]
    have h2 : decide (q ≠ unB t) = k := by rw [← hk, bne, eq_two, un_mk]; simp
    rw [h1, h2]
  rw [e0]
  have HD : Hid ((t.toList == [97]) = d) := hd
  have HB : Hid (sgB (unB s) = b) := hb
  have HC : Hid (sgB (unB t) = c) := hc
  have HK : Hid (((mkB q).toList != t.toList) = k) := hk
  have HQ : Hid (∀ w, Calls Tryz.prog 142 #[.string s] w fun e w' => e = .returned (.string (mkB q)) ∧ w' = w) := by intro w; have := fill_any s w; rw [hq] at this; exact this
  clear e0 hb hc hd hk hq
  go_enter Tryz.func144, Tryz.ntmps144
  cases c with
  | true =>
    go_wp2_with (first | (go_at_call 139; refine (isSign_any _ _).mono ?_; rintro e w1 ⟨rfl, rfl⟩; first | rw [HB.out] | rw [HC.out]) | (go_at_call 142; refine (HQ.out _).mono ?_; rintro e w1 ⟨rfl, rfl⟩))
    go_ret2
    exact ⟨rfl, rfl⟩
  | false =>
    have hd := HD.out
    have hk := HK.out
    have hk2 : ((mkB q).toList == t.toList) = !k := by rw [← hk]; simp [bne]
    cases b with
    | true =>
      cases d with
      | true =>
        go_wp2_with (first | (go_at_call 139; refine (isSign_any _ _).mono ?_; rintro e w1 ⟨rfl, rfl⟩; first | rw [HB.out] | rw [HC.out]) | (go_at_call 142; refine (HQ.out _).mono ?_; rintro e w1 ⟨rfl, rfl⟩))
        go_ret2
        exact ⟨rfl, rfl⟩
      | false =>
        go_wp2_with (first | (go_at_call 139; refine (isSign_any _ _).mono ?_; rintro e w1 ⟨rfl, rfl⟩; first | rw [HB.out] | rw [HC.out]) | (go_at_call 142; refine (HQ.out _).mono ?_; rintro e w1 ⟨rfl, rfl⟩))
        go_ret2
        exact ⟨by simp [hk2], rfl⟩
    | false =>
      go_wp2_with (first | (go_at_call 139; refine (isSign_any _ _).mono ?_; rintro e w1 ⟨rfl, rfl⟩; first | rw [HB.out] | rw [HC.out]) | (go_at_call 142; refine (HQ.out _).mono ?_; rintro e w1 ⟨rfl, rfl⟩))
      go_ret2
      exact ⟨by simp [hk2], rfl⟩
end Go.Proofs.YtglnldopnoafoaaGreatDoor

namespace Go.Proofs.YtglnldopnoafoaaGreatDoor
open Go Go.RowKit
set_option linter.unusedSimpArgs false
set_option linter.unusedVariables false

set_option maxRecDepth 100000 in
set_option maxHeartbeats 1000000 in
theorem prefix60_any (s p : ByteArray) (w : World) : Calls Tryz.prog 153 #[.string s, .string p] w fun e w' => e = .returned (.bool (Lib.hasPrefix s.data.toList p.data.toList)) ∧ w' = w := by
  rw [← Lib.hasPrefix_of_take, ← Lib.size_eq, ← Lib.size_eq]
  go_enter Tryz.func153, Tryz.ntmps153
  go_wp2
  · rename_i h
    go_ret
    refine ⟨?_, rfl⟩
    show Ending.returned (Value.bool ((s.extract 0 p.size).toList == p.toList)) = _
    rw [Lib.extract_toList, Lib.toList_data]
    simp [h]
  · rename_i h
    go_ret
    refine ⟨?_, rfl⟩
    show Ending.returned (Value.bool false) = _
    simp [h]
set_option maxRecDepth 100000 in
set_option maxHeartbeats 1000000 in
theorem dollar_any (s : ByteArray) (w : World) : Calls Tryz.prog 140 #[.string s, .string ⟨#[36]⟩] w fun e w' => e = .returned (.bool (dol (unB s))) ∧ w' = w := by
  have e0 : dol (unB s) = Lib.hasPrefix s.data.toList [36] := rfl
  have HP : Hid (∀ w, Calls Tryz.prog 153 #[.string s, .string ⟨#[36]⟩] w fun e w' => e = .returned (.bool (dol (unB s))) ∧ w' = w) := fun w => prefix60_any s ⟨#[36]⟩ w
  obtain ⟨b, hb⟩ : ∃ b, dol (unB s) = b := ⟨_, rfl⟩
  rw [hb] at HP ⊢
  clear e0 hb
  go_enter Tryz.func140, Tryz.ntmps140
  go_wp2_with (go_at_call 153; refine (HP.out _).mono ?_; rintro e w1 ⟨rfl, rfl⟩)
  go_ret
  exact ⟨rfl, rfl⟩
set_option maxRecDepth 100000 in
set_option maxHeartbeats 1000000 in
theorem hides_any (x y : ByteArray) (r s : List ByteArray) (vf vg : Value) (w : World) (Rf : Row w vf (x :: r)) (Rg : Row w vg (y :: s)) : Calls Tryz.prog 87 #[vf, vg] w fun e w' => e = .returned (.bool (hidL ((x :: r).map unB) ((y :: s).map unB))) ∧ w' = w := by
  obtain ⟨g, o, n, cap, rfl, hn, hc, hg, c0, hk⟩ := Rf.cons
  obtain ⟨g2, o2, n2, cap2, rfl, hn2, hc2, hg2, c2, hk2⟩ := Rg.cons
  have e0 : hidL ((x :: r).map unB) ((y :: s).map unB) = (sgB (unB x) && dol (unB y)) := rfl
  rw [e0]
  obtain ⟨b, hb⟩ : ∃ b, sgB (unB x) = b := ⟨_, rfl⟩
  obtain ⟨d, hd⟩ : ∃ d, dol (unB y) = d := ⟨_, rfl⟩
  have HS : Hid (∀ w, Calls Tryz.prog 139 #[.string x] w fun e w' => e = .returned (.bool b) ∧ w' = w) := by intro w; have := isSign_any x w; rw [hb] at this; exact this
  have HD : Hid (∀ w, Calls Tryz.prog 140 #[.string y, .string ⟨#[36]⟩] w fun e w' => e = .returned (.bool d) ∧ w' = w) := by intro w; have := dollar_any y w; rw [hd] at this; exact this
  rw [hb, hd]
  have q0 : (0 : Int) < n := by omega
  have q1 : (0 : Int) < n2 := by omega
  clear e0 hb hd Rf Rg hk hk2 hn hn2 hc hc2 hg hg2
  go_enter Tryz.func87, Tryz.ntmps87
  cases b with
  | true =>
    go_wp2_with (first | (go_at_call 139; refine (HS.out _).mono ?_; rintro e w1 ⟨rfl, hee⟩; obtain rfl := hee.symm) | (go_at_call 140; refine (HD.out _).mono ?_; rintro e w1 ⟨rfl, hee⟩; obtain rfl := hee.symm))
    go_ret
    exact ⟨by simp, rfl⟩
  | false =>
    go_wp2_with (first | (go_at_call 139; refine (HS.out _).mono ?_; rintro e w1 ⟨rfl, hee⟩; obtain rfl := hee.symm) | (go_at_call 140; refine (HD.out _).mono ?_; rintro e w1 ⟨rfl, hee⟩; obtain rfl := hee.symm))
    go_ret
    exact ⟨rfl, rfl⟩

/-- A row of levels, the last one first, or none. -/
def Told (w' : World) (B : Nat) (v : Value) (x : Option (List Bs)) : Prop := ∀ t, x = some t → w'.ownsRow B 9 1 v t.length ((t.reverse.map mkB).map Value.string)
theorem told_nil (w : World) (B : Nat) : Told w B (.slice none 0 0) (some []) := by
  intro t ht
  simp only [Option.some.injEq] at ht
  subst ht
  exact World.ownsRow_nil _ _ _ _
theorem told_none (w : World) (B : Nat) (v : Value) : Told w B v none := by intro t ht; cases ht

end Go.Proofs.YtglnldopnoafoaaGreatDoor

