import Derived.Test.YtenaliaefbkbcaaGreatNc
import Derived.Test.YtenaliaefbkbcaaGreatCbd
namespace Go.Proofs.YtenaliaefbkbcaaGreat.Li
open Go Go.RowKit
set_option linter.unusedSimpArgs false
set_option linter.unusedVariables false
/-! ### The order of calls does not show, purely -/
theorem sorted_eq {α : Type} {r : α → α → Prop} (ir : ∀ x, ¬ r x x) (tr : ∀ x y z, r x y → r y z → r x z) : ∀ {l m : List α}, l.Pairwise r → m.Pairwise r → (∀ x, x ∈ l ↔ x ∈ m) → l = m
  | [], [], _, _, _ => rfl
  | [], y :: m, _, _, h => absurd ((h y).2 (by simp)) (by simp)
  | x :: l, [], _, _, h => absurd ((h x).1 (by simp)) (by simp)
  | x :: l, y :: m, hl, hm, h => by
    obtain ⟨l1, l2⟩ := List.pairwise_cons.1 hl
    obtain ⟨m1, m2⟩ := List.pairwise_cons.1 hm
    have e : x = y := by
      rcases List.mem_cons.1 ((h x).1 (by simp)) with q | q
      · exact q
      · rcases List.mem_cons.1 ((h y).2 (by simp)) with z | z
        · exact z.symm
        · exact absurd (tr _ _ _ (l1 y z) (m1 x q)) (ir x)
    subst e
    have hh : ∀ z, z ∈ l ↔ z ∈ m := fun z => by
      constructor
      · intro q
        rcases List.mem_cons.1 ((h z).1 (List.mem_cons_of_mem _ q)) with w | w
        · subst w
          exact absurd (l1 z q) (ir z)
        · exact w
      · intro q
        rcases List.mem_cons.1 ((h z).2 (List.mem_cons_of_mem _ q)) with w | w
        · subst w
          exact absurd (m1 z q) (ir z)
        · exact w
    rw [sorted_eq ir tr l2 m2 hh]
theorem mem_found {L : List Fl} {t : ByteArray} {ys : List En} (hp : ys.Perm (ents (ms L t))) (k : ByteArray) (q : Int) : (k, q) ∈ ys ↔ ∃ f, Has (L.map Fl.p) f k q ∧ mch f t = true := by
  rw [hp.mem_iff]
  constructor
  · intro z
    simp only [ents, List.mem_flatMap, ms, List.mem_filter] at z
    obtain ⟨x, ⟨x1, x2⟩, x3⟩ := z
    exact ⟨x.f, ⟨x.es, List.mem_map.2 ⟨x, x1, rfl⟩, x3⟩, x2⟩
  · rintro ⟨f, ⟨es, z3, z4⟩, z2⟩
    obtain ⟨x, x1, x2⟩ := List.mem_map.1 z3
    simp only [Fl.p, Prod.mk.injEq] at x2
    obtain ⟨rfl, rfl⟩ := x2
    simp only [ents, List.mem_flatMap, ms, List.mem_filter]
    exact ⟨x, ⟨x1, z2⟩, z4⟩
def SameH (A B : List Fp) : Prop := ∀ f k q, Has A f k q ↔ Has B f k q
theorem found_same {A B : List Fl} {t : ByteArray} (hh : SameH (A.map Fl.p) (B.map Fl.p)) {ya yb : List En} (pa : ya.Perm (ents (ms A t))) (pb : yb.Perm (ents (ms B t))) (sa : ByF ya) (sb : ByF yb) : cmpct ya = cmpct yb := by
  obtain ⟨a1, a2⟩ := cmpct_spec ya sa
  obtain ⟨b1, b2⟩ := cmpct_spec yb sb
  have hm : ∀ k q, (k, q) ∈ ya ↔ (k, q) ∈ yb := fun k q => by
    rw [mem_found pa, mem_found pb]
    constructor
    · rintro ⟨f, h1, h2⟩
      exact ⟨f, (hh f k q).1 h1, h2⟩
    · rintro ⟨f, h1, h2⟩
      exact ⟨f, (hh f k q).2 h1, h2⟩
  refine sorted_eq (r := fun a b : En => kl1 a.1 b.1 < 0) (fun x h => ?_) (fun x y z h k => kl_lt_trans h k) a1 b1 (fun ⟨k, q⟩ => ?_)
  · have : cb x.1.data.toList x.1.data.toList < 0 := h
    rw [cb_self] at this
    omega
  · rw [a2, b2]
    unfold Mx
    constructor
    · rintro ⟨h1, h2⟩
      exact ⟨(hm k q).1 h1, fun q' hq => h2 q' ((hm k q').2 hq)⟩
    · rintro ⟨h1, h2⟩
      exact ⟨(hm k q).2 h1, fun q' hq => h2 q' ((hm k q').1 hq)⟩
theorem has_filter {L : List Fp} (hw : Wf L) (f : ByteArray) : f ∈ L.map (·.1) ↔ ∃ k q, Has L f k q := by
  constructor
  · intro h
    obtain ⟨⟨f', es⟩, h1, h2⟩ := List.mem_map.1 h
    simp only at h2
    subst h2
    have := (hw.es _ h1).2
    obtain ⟨⟨k, q⟩, r, e⟩ := List.exists_cons_of_ne_nil this
    exact ⟨k, q, es, h1, by simp only at e; rw [e]; simp⟩
  · rintro ⟨k, q, es, h1, -⟩
    exact List.mem_map.2 ⟨_, h1, rfl⟩
theorem len_same {A B : List Fp} (ha : Wf A) (hb : Wf B) (hh : SameH A B) : A.length = B.length := by
  have pm : (A.map (·.1)).Perm (B.map (·.1)) := by
    rw [List.perm_ext_iff_of_nodup ha.nd hb.nd]
    intro f
    rw [has_filter ha, has_filter hb]
    constructor
    · rintro ⟨k, q, h⟩
      exact ⟨k, q, (hh f k q).1 h⟩
    · rintro ⟨k, q, h⟩
      exact ⟨k, q, (hh f k q).2 h⟩
  simpa using pm.length_eq
/-! ### All rows -/
abbrev Rw := ByteArray × En
def rowsOf (P : List Fp) : List Rw := P.flatMap (fun x => x.2.map (fun e => (x.1, e)))
theorem rowsOf_app (P Q : List Fp) : rowsOf (P ++ Q) = rowsOf P ++ rowsOf Q := by simp [rowsOf]
theorem mem_rowsOf {P : List Fp} {f k : ByteArray} {q : Int} : (f, (k, q)) ∈ rowsOf P ↔ Has P f k q := by
  simp only [rowsOf, List.mem_flatMap, List.mem_map]
  constructor
  · rintro ⟨⟨f', es⟩, h1, e, h2, h3⟩
    simp only [Prod.mk.injEq] at h3
    obtain ⟨rfl, rfl⟩ := h3
    exact ⟨es, h1, h2⟩
  · rintro ⟨es, h1, h2⟩
    exact ⟨(f, es), h1, (k, q), h2, rfl⟩
def rLt (a b : Rw) : Prop := cmpB a.1 b.1 < 0 ∨ (a.1 = b.1 ∧ kl1 a.2.1 b.2.1 < 0)
theorem cmpB_lt_trans {a b c : ByteArray} (h : cmpB a b < 0) (k : cmpB b c < 0) : cmpB a c < 0 := by
  have t := cmpB_trans (a := a) (b := b) (c := c) (by omega) (by omega)
  by_cases e : cmpB a c = 0
  · have e' := cmpB_zero e
    subst e'
    have := cmpB_flip a b
    omega
  · omega
theorem rLt_irr (x : Rw) : ¬ rLt x x := by
  rintro (h | ⟨-, h⟩)
  · rw [cmpB_self] at h
    omega
  · have : cb x.2.1.data.toList x.2.1.data.toList < 0 := h
    rw [cb_self] at this
    omega
theorem rLt_trans (x y z : Rw) (h : rLt x y) (k : rLt y z) : rLt x z := by
  rcases h with h | ⟨h1, h2⟩
  · rcases k with k | ⟨k1, k2⟩
    · exact .inl (cmpB_lt_trans h k)
    · exact .inl (by rw [← k1]; exact h)
  · rcases k with k | ⟨k1, k2⟩
    · exact .inl (by rw [h1]; exact k)
    · exact .inr ⟨h1.trans k1, kl_lt_trans h2 k2⟩
/-- What All gives of these filters. -/
def Sr (x : Fl) (y : Fp) : Prop := y.1 = x.f ∧ y.2.Perm x.es ∧ ByF y.2
inductive Srs : List Fl → List Fp → Prop where
  | nil : Srs [] []
  | snoc {M : List Fl} {P : List Fp} {x : Fl} {y : Fp} : Srs M P → Sr x y → Srs (M ++ [x]) (P ++ [y])
theorem Srs.left {M : List Fl} {P : List Fp} (h : Srs M P) : ∀ y ∈ P, ∃ x ∈ M, Sr x y := by
  induction h with
  | nil => intro y hy; cases hy
  | snoc h1 h2 ih =>
    intro y hy
    rcases List.mem_append.1 hy with q | q
    · obtain ⟨x, h3, h4⟩ := ih y q
      exact ⟨x, List.mem_append.2 (.inl h3), h4⟩
    · simp at q
      subst q
      exact ⟨_, by simp, h2⟩
theorem Srs.right {M : List Fl} {P : List Fp} (h : Srs M P) : ∀ x ∈ M, ∃ y ∈ P, Sr x y := by
  induction h with
  | nil => intro y hy; cases hy
  | snoc h1 h2 ih =>
    intro y hy
    rcases List.mem_append.1 hy with q | q
    · obtain ⟨x, h3, h4⟩ := ih y q
      exact ⟨x, List.mem_append.2 (.inl h3), h4⟩
    · simp at q
      subst q
      exact ⟨_, by simp, h2⟩
theorem Srs.keys {M : List Fl} {P : List Fp} (h : Srs M P) : P.map (·.1) = M.map (·.f) := by
  induction h with
  | nil => rfl
  | snoc h1 h2 ih => simp [ih, h2.1]
theorem Srs.has {M : List Fl} {P : List Fp} (h : Srs M P) : SameH P (M.map Fl.p) := fun f k q => by
  constructor
  · rintro ⟨es, h1, h2⟩
    obtain ⟨x, h3, h4, h5, h6⟩ := h.left _ h1
    simp only at h4 h5
    exact ⟨x.es, List.mem_map.2 ⟨x, h3, by rw [h4]; rfl⟩, (h5.mem_iff).1 h2⟩
  · rintro ⟨es, h1, h2⟩
    obtain ⟨x, h3, h4⟩ := List.mem_map.1 h1
    obtain ⟨⟨f', es'⟩, h5, h6, h7, h8⟩ := h.right x h3
    simp only [Fl.p, Prod.mk.injEq] at h4
    obtain ⟨rfl, rfl⟩ := h4
    simp only at h6 h7
    subst h6
    exact ⟨es', h5, (h7.mem_iff).2 h2⟩
def ByK (M : List Fl) : Prop := M.Pairwise fun a b => cmpB a.f b.f ≤ 0
theorem pair_lt {α : Type} {l : List α} {g : α → ByteArray} {c : ByteArray → ByteArray → Int} (hz : ∀ a b, c a b = 0 → a = b) (hn : (l.map g).Nodup) (hp : l.Pairwise fun a b => c (g a) (g b) ≤ 0) : l.Pairwise fun a b => c (g a) (g b) < 0 := by
  unfold List.Nodup at hn
  rw [List.pairwise_map] at hn
  refine (hn.and hp).imp (fun {a b} h => ?_)
  have : c (g a) (g b) ≠ 0 := fun q => h.1 (hz _ _ q)
  have := h.2
  omega
theorem all_sorted {L M : List Fl} {P : List Fp} (hw : Wf (L.map Fl.p)) (hm : M.Perm L) (hk : ByK M) (h : Srs M P) : (rowsOf P).Pairwise rLt ∧ SameH P (L.map Fl.p) := by
  have hnd : (M.map (·.f)).Nodup := by
    have : (L.map (·.f)).Nodup := by
      have := hw.nd
      rw [List.map_map] at this
      exact this
    exact (hm.map _).nodup_iff.2 this
  have hs : SameH P (L.map Fl.p) := fun f k q => by
    rw [h.has f k q]
    constructor
    · rintro ⟨es, h1, h2⟩
      exact ⟨es, ((hm.map _).mem_iff).1 h1, h2⟩
    · rintro ⟨es, h1, h2⟩
      exact ⟨es, ((hm.map _).mem_iff).2 h1, h2⟩
  have hlt : P.Pairwise fun a b => cmpB a.1 b.1 < 0 := by
    have h1 := pair_lt (g := fun x : Fl => x.f) (c := cmpB) (fun a b q => cmpB_zero q) hnd hk
    rw [← List.pairwise_map (f := fun x : Fl => x.f) (R := fun a b => cmpB a b < 0), ← h.keys, List.pairwise_map] at h1
    exact h1
  refine ⟨?_, hs⟩
  unfold rowsOf
  rw [List.pairwise_flatMap]
  refine ⟨fun y hy => ?_, hlt.imp (fun {a b} q x hx z hz => ?_)⟩
  · obtain ⟨x, h1, h2, h3, h4⟩ := h.left y hy
    have hx : x ∈ L := (hm.mem_iff).1 h1
    have hn : (y.2.map (·.1)).Nodup := ((h3.map _).nodup_iff).2 (hw.es x.p (List.mem_map.2 ⟨x, hx, rfl⟩)).1
    rw [List.pairwise_map]
    unfold List.Nodup at hn
    rw [List.pairwise_map] at hn
    refine (hn.and h4).imp (fun {a b} q => .inr ⟨rfl, ?_⟩)
    show kl1 a.1 b.1 < 0
    rcases (cE_le a b).1 q.2 with z | z
    · exact z
    · exact absurd z.1 q.1
  · obtain ⟨e1, -, rfl⟩ := List.mem_map.1 hx
    obtain ⟨e2, -, rfl⟩ := List.mem_map.1 hz
    exact .inl q
theorem all_same {A B M N : List Fl} {P Q : List Fp} (ha : Wf (A.map Fl.p)) (hb : Wf (B.map Fl.p)) (hh : SameH (A.map Fl.p) (B.map Fl.p)) (m1 : M.Perm A) (m2 : ByK M) (m3 : Srs M P) (n1 : N.Perm B) (n2 : ByK N) (n3 : Srs N Q) : rowsOf P = rowsOf Q := by
  obtain ⟨p1, p2⟩ := all_sorted ha m1 m2 m3
  obtain ⟨q1, q2⟩ := all_sorted hb n1 n2 n3
  refine sorted_eq rLt_irr rLt_trans p1 q1 (fun ⟨f, k, q⟩ => ?_)
  rw [mem_rowsOf, mem_rowsOf, p2, q2]
  exact hh f k q
/-! ### The calls of Put, in an order -/
def Gop (o : Ow) : Prop := rfc o.a = 0 ∧ 0 ≤ o.n ∧ o.n ≤ 2
def Lay (ops : List Ow) (σ : Nat → Nat) (i : Nat) (f k : ByteArray) (q : Int) : Prop := ∃ j, j < i ∧ ∃ o, ops[σ j]? = some o ∧ Gop o ∧ o.a = f ∧ o.b = k ∧ o.n = q
def Dif (ops : List Ow) : Prop := ∀ (i j : Nat) (x y : Ow), ops[i]? = some x → ops[j]? = some y → i ≠ j → ¬ (x.a = y.a ∧ x.b = y.b)
theorem lay_none (ops : List Ow) (σ : Nat → Nat) (f k : ByteArray) (q : Int) : ¬ Lay ops σ 0 f k q := fun ⟨j, h, _⟩ => by omega
theorem lay_bad {ops : List Ow} {σ : Nat → Nat} {i : Nat} {o : Ow} (ho : ops[σ i]? = some o) (hb : ¬ Gop o) (f k : ByteArray) (q : Int) : Lay ops σ (i + 1) f k q ↔ Lay ops σ i f k q := by
  constructor
  · rintro ⟨j, hj, o', h1, h2, h3⟩
    by_cases e : j = i
    · subst e
      rw [ho] at h1
      cases h1
      exact absurd h2 hb
    · exact ⟨j, by omega, o', h1, h2, h3⟩
  · rintro ⟨j, hj, o', h1⟩
    exact ⟨j, by omega, o', h1⟩
theorem lay_put {ops : List Ow} {σ : Nat → Nat} {i : Nat} {o : Ow} (hd : Dif ops) (hinj : ∀ j, j < i → σ j ≠ σ i) (ho : ops[σ i]? = some o) (hg : Gop o) {L L' : List Fp} {r : Int} (pk : PutOk L L' o.a o.b o.n r) (hL : ∀ f k q, Has L f k q ↔ Lay ops σ i f k q) (f k : ByteArray) (q : Int) : Has L' f k q ↔ Lay ops σ (i + 1) f k q := by
  rw [pk.has]
  constructor
  · rintro (⟨rfl, rfl, rfl⟩ | ⟨_, h⟩)
    · exact ⟨i, by omega, o, ho, hg, rfl, rfl, rfl⟩
    · obtain ⟨j, hj, h1⟩ := (hL f k q).1 h
      exact ⟨j, by omega, h1⟩
  · rintro ⟨j, hj, o', h1, h2, h3, h4, h5⟩
    by_cases e : j = i
    · subst e
      rw [ho] at h1
      cases h1
      exact .inl ⟨h3.symm, h4.symm, h5.symm⟩
    · refine .inr ⟨fun z => hd _ _ _ _ h1 ho (hinj j (by omega)) ⟨h3.trans z.1, h4.trans z.2⟩, (hL f k q).2 ⟨j, by omega, o', h1, h2, h3, h4, h5⟩⟩
/-! ### The turning round -/
def rot (n c i : Nat) : Nat := (i + c) % n
theorem rot_lt {n c i : Nat} (hn : 0 < n) : rot n c i < n := Nat.mod_lt _ hn
theorem rot_inj {n c i j : Nat} (hi : i < n) (hj : j < n) (h : rot n c i = rot n c j) : i = j := by
  unfold rot at h
  have h1 := Nat.div_add_mod (i + c) n
  have h2 := Nat.div_add_mod (j + c) n
  rw [h] at h1
  rcases Nat.lt_trichotomy ((i + c) / n) ((j + c) / n) with q | q | q
  · have := Nat.mul_le_mul_left n (show (i + c) / n + 1 ≤ (j + c) / n from q)
    rw [Nat.mul_add, Nat.mul_one] at this
    omega
  · rw [q] at h1
    omega
  · have := Nat.mul_le_mul_left n (show (j + c) / n + 1 ≤ (i + c) / n from q)
    rw [Nat.mul_add, Nat.mul_one] at this
    omega
theorem rot_sur {n c k : Nat} (hk : k < n) : ∃ j, j < n ∧ rot n c j = k := by
  have hn : 0 < n := by omega
  refine ⟨(k + (n - c % n)) % n, Nat.mod_lt _ hn, ?_⟩
  unfold rot
  rw [Nat.mod_add_mod]
  have h1 := Nat.div_add_mod c n
  have h2 := Nat.mod_lt c hn
  have e : k + (n - c % n) + c = k + n * (1 + c / n) := by rw [Nat.mul_add, Nat.mul_one]; omega
  rw [e, Nat.add_mul_mod_self_left, Nat.mod_eq_of_lt hk]
theorem lay_rot {ops : List Ow} (c : Nat) (f k : ByteArray) (q : Int) : Lay ops (rot ops.length c) ops.length f k q ↔ Lay ops (fun i => i) ops.length f k q := by
  constructor
  · rintro ⟨j, hj, o, h1, h2⟩
    exact ⟨rot ops.length c j, rot_lt (by omega), o, h1, h2⟩
  · rintro ⟨j, hj, o, h1, h2⟩
    obtain ⟨i, hi, e⟩ := rot_sur (c := c) hj
    exact ⟨i, hi, o, by rw [e]; exact h1, h2⟩
end Go.Proofs.YtenaliaefbkbcaaGreat.Li
