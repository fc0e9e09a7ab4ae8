import Derived.Test.YtipagdhoeocjeaaGreatKf
/-! A trie by its nodes: each with all levels from the root on. -/
namespace Go.Proofs.YtipagdhoeocjeaaGreat.Li
set_option linter.unusedVariables false
set_option linter.unusedSimpArgs false
/-- A node's shape: its block, the levels from the root on, how many of them its edge has. -/
structure Nd where
  p : Nat
  A : List ByteArray
  m : Nat
def Nd.top (d : Nd) : Nat := d.A.length - d.m
def Nd.edge (d : Nd) : List ByteArray := d.A.drop d.top
/-- e hangs right below d. -/
def Kid (d e : Nd) : Prop := 0 < e.m ∧ e.top = d.A.length ∧ e.A.take e.top = d.A
def Apart (a b : Nd) : Prop := a.A ≠ b.A
structure Inv (T : List Nd) : Prop where
  root : ∃ r ∈ T, r.A = []
  dis : T.Pairwise Apart
  le : ∀ d ∈ T, d.m ≤ d.A.length ∧ (d.A = [] ↔ d.m = 0)
  par : ∀ d ∈ T, 0 < d.m → ∃ a ∈ T, Kid a d
  one : ∀ d ∈ T, ∀ e ∈ T, 0 < d.m → 0 < e.m → d.top = e.top → d.A.take (d.top + 1) = e.A.take (e.top + 1) → d = e
theorem Apart.symm {a b : Nd} (h : Apart a b) : Apart b a := fun e => h e.symm
theorem Inv.same {T : List Nd} (h : Inv T) {a b : Nd} (ha : a ∈ T) (hb : b ∈ T) (e : a.A = b.A) : a = b := by
  have := h.dis
  clear h
  induction T with
  | nil => cases ha
  | cons x T ih =>
    rw [List.pairwise_cons] at this
    rcases List.mem_cons.1 ha with rfl | ha'
    · rcases List.mem_cons.1 hb with rfl | hb'
      · rfl
      · exact absurd e (this.1 b hb')
    · rcases List.mem_cons.1 hb with rfl | hb'
      · exact absurd e.symm (this.1 a ha')
      · exact ih ha' hb' this.2
theorem Inv.apart {T : List Nd} (h : Inv T) {a b : Nd} (ha : a ∈ T) (hb : b ∈ T) (ne : a ≠ b) : Apart a b := by
  have := h.dis
  clear h
  induction T with
  | nil => cases ha
  | cons x T ih =>
    rw [List.pairwise_cons] at this
    rcases List.mem_cons.1 ha with rfl | ha'
    · rcases List.mem_cons.1 hb with rfl | hb'
      · exact absurd rfl ne
      · exact this.1 b hb'
    · rcases List.mem_cons.1 hb with rfl | hb'
      · exact (this.1 a ha').symm
      · exact ih ha' hb' this.2
/-- L goes on from d. -/
def Goes (d : Nd) (L : List ByteArray) : Prop := d.A <+: L
theorem prefix_take {a b : List ByteArray} (h : a <+: b) : b.take a.length = a := by
  obtain ⟨c, rfl⟩ := h
  simp
theorem prefix_le {a b L : List ByteArray} (h1 : a <+: L) (h2 : b <+: L) (h : a.length ≤ b.length) : a <+: b := by
  rw [← prefix_take h1, ← prefix_take h2]
  refine ⟨(L.take b.length).drop a.length, ?_⟩
  have : L.take a.length = (L.take b.length).take a.length := by rw [List.take_take, Nat.min_eq_left h]
  rw [this, List.take_append_drop]
theorem Kid.goes {d e : Nd} (h : Kid d e) : d.A <+: e.A := ⟨e.A.drop e.top, by rw [← h.2.2, List.take_append_drop]⟩
theorem Kid.lt {d e : Nd} (h : Kid d e) (hm : e.m ≤ e.A.length) : d.A.length < e.A.length := by
  have h1 := h.1
  have h2 := h.2.1
  unfold Nd.top at h2
  omega
theorem top_lt {e : Nd} (h0 : 0 < e.m) (hm : e.m ≤ e.A.length) : e.top < e.A.length := by
  unfold Nd.top
  omega
/-- Kids with one first level are one. -/
theorem Inv.kid {T : List Nd} (h : Inv T) {d a b : Nd} (ha : a ∈ T) (hb : b ∈ T) (ka : Kid d a) (kb : Kid d b) {L : List ByteArray} (ga : a.A <+: L ∨ a.A.take (a.top + 1) <+: L) (gb : b.A <+: L ∨ b.A.take (b.top + 1) <+: L) : a = b := by
  have la := top_lt ka.1 (h.le a ha).1
  have lb := top_lt kb.1 (h.le b hb).1
  refine h.one a ha b hb ka.1 kb.1 (ka.2.1.trans kb.2.1.symm) ?_
  have pa : a.A.take (a.top + 1) <+: L := ga.elim (fun g => (List.take_prefix _ _).trans g) id
  have pb : b.A.take (b.top + 1) <+: L := gb.elim (fun g => (List.take_prefix _ _).trans g) id
  have e1 := prefix_take pa
  have e2 := prefix_take pb
  rw [← e1, ← e2]
  congr 1
  rw [List.length_take, List.length_take, ka.2.1, kb.2.1]
  have := ka.2.1
  have := kb.2.1
  omega
/-- THE WAY DOWN: from a node on whose levels another one's go on there is an edge that leads there. -/
theorem Inv.way {T : List Nd} (h : Inv T) : ∀ (n : Nat) (q : Nd), q ∈ T → q.A.length ≤ n → ∀ d ∈ T, d.A <+: q.A → d.A.length < q.A.length → ∃ e ∈ T, Kid d e ∧ e.A <+: q.A
  | 0, q, hq, hn, d, hd, hp, hl => by omega
  | n + 1, q, hq, hn, d, hd, hp, hl => by
    have hm : 0 < q.m := by
      rcases Nat.eq_zero_or_pos q.m with e | e
      · have := ((h.le q hq).2).2 e
        rw [this] at hl
        simp at hl
      · exact e
    obtain ⟨a, ha, ka⟩ := h.par q hq hm
    have hlt := ka.lt (h.le q hq).1
    rcases Nat.lt_trichotomy d.A.length a.A.length with c | c | c
    · obtain ⟨e, he, ke, pe⟩ := h.way n a ha (by omega) d hd (prefix_le hp ka.goes (by omega)) c
      exact ⟨e, he, ke, pe.trans ka.goes⟩
    · have : d.A = a.A := by rw [← prefix_take hp, ← prefix_take ka.goes, c]
      obtain rfl := h.same hd ha this
      exact ⟨q, hq, ka, List.prefix_refl _⟩
    · obtain ⟨e, he, ke, pe⟩ := h.way n d hd (by omega) a ha (prefix_le ka.goes hp (by omega)) c
      have := h.kid he hq ke ka (L := q.A) (.inl (pe.trans hp)) (.inl (List.prefix_refl _))
      subst this
      have := pe.length_le
      omega
/-- The kid whose edge begins with a level. -/
def AtK (T : List Nd) (d : Nd) (x : ByteArray) (e : Nd) : Prop := e ∈ T ∧ Kid d e ∧ e.A[e.top]? = some x
theorem atk_take {d e : Nd} {x : ByteArray} (k : Kid d e) (h : e.A[e.top]? = some x) : e.A.take (e.top + 1) = d.A ++ [x] := by
  rw [List.take_add_one, h, k.2.2]
  rfl
theorem Inv.atk {T : List Nd} (h : Inv T) {d a b : Nd} {x : ByteArray} (ha : AtK T d x a) (hb : AtK T d x b) : a = b :=
  h.one a ha.1 b hb.1 ha.2.1.1 hb.2.1.1 (ha.2.1.2.1.trans hb.2.1.2.1.symm) ((atk_take ha.2.1 ha.2.2).trans (atk_take hb.2.1 hb.2.2).symm)
/-- Where no edge begins so, no node lies that way. -/
theorem Inv.none_ {T : List Nd} (h : Inv T) {d : Nd} (hd : d ∈ T) {x : ByteArray} (hx : ∀ e, ¬ AtK T d x e) {R : List ByteArray} : ∀ q ∈ T, ¬ (d.A ++ x :: R) <+: q.A := by
  intro q hq hp
  have hl := hp.length_le
  simp at hl
  have hdq : d.A <+: q.A := (List.prefix_append _ _).trans hp
  obtain ⟨e, he, ke, pe⟩ := h.way _ q hq (Nat.le_refl _) d hd hdq (by omega)
  refine hx e ⟨he, ke, ?_⟩
  have lt := top_lt ke.1 (h.le e he).1
  have e1 : e.A[e.top]? = q.A[e.top]? := by
    obtain ⟨c, hc⟩ := pe
    rw [← hc, List.getElem?_append_left lt]
  have e2 : q.A[e.top]? = (d.A ++ x :: R)[e.top]? := by
    obtain ⟨c, hc⟩ := hp
    rw [← hc, List.getElem?_append_left (by rw [ke.2.1]; simp)]
  rw [e1, e2, ke.2.1]
  simp
theorem len_take (d : Nd) (h : d.m ≤ d.A.length) : d.top + d.m = d.A.length := by unfold Nd.top; omega
/-- A leaf is hung below d. -/
theorem Inv.leaf {T : List Nd} (h : Inv T) {d : Nd} (hd : d ∈ T) {x : ByteArray} {r : List ByteArray} (hx : ∀ e, ¬ AtK T d x e) (g : Nat) : Inv (⟨g, d.A ++ x :: r, r.length + 1⟩ :: T) := by
  have no := h.none_ hd hx (R := r)
  have lt : (⟨g, d.A ++ x :: r, r.length + 1⟩ : Nd).top = d.A.length := by simp [Nd.top]
  have kd : Kid d ⟨g, d.A ++ x :: r, r.length + 1⟩ := ⟨Nat.succ_pos _, lt, by rw [lt]; exact List.take_left⟩
  have clash : ∀ e ∈ T, 0 < e.m → (⟨g, d.A ++ x :: r, r.length + 1⟩ : Nd).top = e.top → (d.A ++ x :: r).take ((⟨g, d.A ++ x :: r, r.length + 1⟩ : Nd).top + 1) = e.A.take (e.top + 1) → False := fun e he em et ek => by
    rw [lt] at et ek
    have e1 : (d.A ++ x :: r).take (d.A.length + 1) = d.A ++ [x] := by rw [List.take_length_add_append]; rfl
    rw [e1] at ek
    have tl := top_lt em (h.le e he).1
    refine hx e ⟨he, ⟨em, et.symm, ?_⟩, ?_⟩
    · have := congrArg (List.take e.top) ek
      rw [List.take_take, Nat.min_eq_left (by omega)] at this
      rw [← this, ← et]
      simp
    · have := congrArg (fun l => l[e.top]?) ek
      simp only [List.getElem?_take] at this
      rw [if_pos (by omega)] at this
      rw [← this, ← et]
      simp
  refine ⟨?_, ?_, ?_, ?_, ?_⟩
  · obtain ⟨q, hq, e⟩ := h.root
    exact ⟨q, List.mem_cons_of_mem _ hq, e⟩
  · rw [List.pairwise_cons]
    exact ⟨fun q hq e => no q hq (by rw [show d.A ++ x :: r = q.A from e]; exact List.prefix_refl _), h.dis⟩
  · intro e he
    rcases List.mem_cons.1 he with rfl | he
    · exact ⟨by simp, by simp⟩
    · exact h.le e he
  · intro e he em
    rcases List.mem_cons.1 he with rfl | he
    · exact ⟨d, List.mem_cons_of_mem _ hd, kd⟩
    · obtain ⟨a, ha, k⟩ := h.par e he em
      exact ⟨a, List.mem_cons_of_mem _ ha, k⟩
  · intro a ha b hb am bm et ek
    rcases List.mem_cons.1 ha with rfl | ha
    · rcases List.mem_cons.1 hb with rfl | hb
      · rfl
      · exact (clash b hb bm et ek).elim
    · rcases List.mem_cons.1 hb with rfl | hb
      · exact (clash a ha am et.symm ek.symm).elim
      · exact h.one a ha b hb am bm et ek
/-- Whose kids the leaf changes. -/
theorem Inv.leaf_atk {T : List Nd} (h : Inv T) {d : Nd} (hd : d ∈ T) {x : ByteArray} {r : List ByteArray} (g : Nat) {a : Nd} (ha : a ∈ T) (y : ByteArray) (e : Nd) : AtK (⟨g, d.A ++ x :: r, r.length + 1⟩ :: T) a y e ↔ AtK T a y e ∨ (e = ⟨g, d.A ++ x :: r, r.length + 1⟩ ∧ a.A = d.A ∧ y = x) := by
  have lt : (⟨g, d.A ++ x :: r, r.length + 1⟩ : Nd).top = d.A.length := by simp [Nd.top]
  constructor
  · rintro ⟨he, hk, hy⟩
    rcases List.mem_cons.1 he with rfl | he
    · refine .inr ⟨rfl, ?_, ?_⟩
      · have := hk.2.2
        rw [lt] at this
        simp at this
        exact this.symm
      · rw [lt] at hy
        simp at hy
        exact hy.symm
    · exact .inl ⟨he, hk, hy⟩
  · rintro (⟨he, hk, hy⟩ | ⟨rfl, ea, rfl⟩)
    · exact ⟨List.mem_cons_of_mem _ he, hk, hy⟩
    · refine ⟨List.mem_cons_self, ⟨by simp, by rw [lt, ea], by rw [lt, ea]; simp⟩, by rw [lt]; simp⟩
theorem Inv.leaf_none {T : List Nd} (h : Inv T) {d : Nd} (hd : d ∈ T) {x : ByteArray} {r : List ByteArray} (hx : ∀ e, ¬ AtK T d x e) (g : Nat) (y : ByteArray) (e : Nd) : ¬ AtK (⟨g, d.A ++ x :: r, r.length + 1⟩ :: T) ⟨g, d.A ++ x :: r, r.length + 1⟩ y e := by
  rintro ⟨he, hk, hy⟩
  have hp : (d.A ++ x :: r) <+: e.A := hk.goes
  rcases List.mem_cons.1 he with rfl | he
  · have := hk.2.1
    have l2 := hk.1
    simp [Nd.top] at this
  · exact h.none_ hd hx (R := r) e he hp
/-- A node whose edge is made shorter, from above. -/
def cutm (B : List ByteArray) (k : Nat) (e : Nd) : Nd := if e.A = B then { e with m := e.m - k } else e
theorem cutm_A (B : List ByteArray) (k : Nat) (e : Nd) : (cutm B k e).A = e.A := by unfold cutm; split <;> rfl
theorem cutm_p (B : List ByteArray) (k : Nat) (e : Nd) : (cutm B k e).p = e.p := by unfold cutm; split <;> rfl
/-- The node at which an edge is parted. -/
def upr (g : Nat) (q : Nd) (k : Nat) : Nd := ⟨g, q.A.take (q.top + k), k⟩
section
variable {T : List Nd} {d q : Nd} {k : Nat}
theorem upr_len (g : Nat) (hq : q.m ≤ q.A.length) (hk : k < q.m) : (upr g q k).A.length = q.top + k ∧ (upr g q k).top = q.top := by
  have := len_take q hq
  have e : (upr g q k).A.length = q.top + k := by unfold upr; rw [List.length_take]; omega
  exact ⟨e, by unfold Nd.top at *; rw [e]; show _ - k = _; omega⟩
/-- No node lies within an edge. -/
theorem Inv.within (h : Inv T) (hd : d ∈ T) (hq : q ∈ T) (hk : Kid d q) (k0 : 0 < k) (kl : k < q.m) (g : Nat) : ∀ e ∈ T, e.A ≠ (upr g q k).A := fun e he ee => by
  have hm := (h.le q hq).1
  have ul := (upr_len g hm kl).1
  have hp : e.A <+: q.A := by rw [ee]; exact List.take_prefix _ _
  have el : e.A.length = q.top + k := by rw [ee, ul]
  have hdl : d.A.length = q.top := hk.2.1.symm
  have lq := len_take q hm
  obtain ⟨f, hf, kf, pf⟩ := h.way _ e he (Nat.le_refl _) d hd (prefix_le hk.goes hp (by omega)) (by omega)
  have := h.kid hf hq kf hk (L := q.A) (.inl (pf.trans hp)) (.inl (List.prefix_refl _))
  subst this
  have := pf.length_le
  omega
theorem cutm_ne {B : List ByteArray} {e : Nd} (h : e.A ≠ B) : cutm B k e = e := if_neg h
theorem cutm_at (e : Nd) : cutm e.A k e = { e with m := e.m - k } := if_pos rfl
theorem cut_top (hq : q.m ≤ q.A.length) (hk : k < q.m) : ({ q with m := q.m - k } : Nd).top = q.top + k := by unfold Nd.top; show q.A.length - (q.m - k) = q.A.length - q.m + k; omega
/-- An edge is parted. -/
theorem Inv.part (h : Inv T) (hd : d ∈ T) (hq : q ∈ T) (hk : Kid d q) (k0 : 0 < k) (kl : k < q.m) (g : Nat) : Inv (upr g q k :: T.map (cutm q.A k)) := by
  have hm := (h.le q hq).1
  obtain ⟨ul, ut⟩ := upr_len g hm kl
  have wi := h.within hd hq hk k0 kl g
  have lq := len_take q hm
  have hdq : d.A ≠ q.A := fun e => by have := hk.lt hm; rw [e] at this; omega
  have u1 : (upr g q k).A.take ((upr g q k).top + 1) = q.A.take (q.top + 1) := by
    rw [ut]
    show (q.A.take (q.top + k)).take (q.top + 1) = _
    rw [List.take_take, Nat.min_eq_left (by omega)]
  have mem : ∀ e, e ∈ T.map (cutm q.A k) → ∃ a ∈ T, e = cutm q.A k a ∧ ((a = q ∧ e = { q with m := q.m - k }) ∨ (a ≠ q ∧ e = a)) := fun e he => by
    obtain ⟨a, ha, rfl⟩ := List.mem_map.1 he
    refine ⟨a, ha, rfl, ?_⟩
    by_cases c : a.A = q.A
    · obtain rfl := h.same ha hq c
      exact .inl ⟨rfl, cutm_at a⟩
    · exact .inr ⟨fun e => c (by rw [e]), cutm_ne c⟩
  have ct := cut_top (q := q) (k := k) hm kl
  have c1 : ∀ b ∈ T, b ≠ q → 0 < b.m → q.top = b.top → q.A.take (q.top + 1) = b.A.take (b.top + 1) → False := fun b hb bq bm et ek => bq (h.one q hq b hb (by omega) bm et ek).symm
  have c2 : ∀ b ∈ T, 0 < b.m → q.top + k = b.top → q.A.take (q.top + k + 1) = b.A.take (b.top + 1) → False := fun b hb bm et ek => by
    obtain ⟨a, ha, ka⟩ := h.par b hb bm
    refine wi a ha ?_
    rw [← ka.2.2, ← et]
    have := congrArg (List.take (q.top + k)) ek
    rw [List.take_take, List.take_take, Nat.min_eq_left (by omega), Nat.min_eq_left (by omega)] at this
    exact this.symm
  refine ⟨?_, ?_, ?_, ?_, ?_⟩
  · obtain ⟨r, hr, e⟩ := h.root
    exact ⟨_, List.mem_cons_of_mem _ (List.mem_map_of_mem hr), by rw [cutm_A]; exact e⟩
  · rw [List.pairwise_cons]
    refine ⟨fun e he => ?_, ?_⟩
    · obtain ⟨a, ha, rfl, _⟩ := mem e he
      intro c
      rw [cutm_A] at c
      exact wi a ha c.symm
    · rw [List.pairwise_map]
      refine h.dis.imp (fun {a b} c => ?_)
      show (cutm q.A k a).A ≠ (cutm q.A k b).A
      rw [cutm_A, cutm_A]
      exact c
  · intro e he
    rcases List.mem_cons.1 he with rfl | he
    · refine ⟨by rw [ul]; show k ≤ _; omega, ⟨fun c => ?_, fun c => ?_⟩⟩
      · rw [c] at ul; simp at ul; omega
      · have : k = 0 := c
        omega
    · obtain ⟨a, ha, rfl, ⟨rfl, e2⟩ | ⟨_, e2⟩⟩ := mem e he
      · rw [e2]
        refine ⟨by show a.m - k ≤ a.A.length; omega, ⟨fun c => ?_, fun c => ?_⟩⟩
        · have := (h.le a ha).2.1 c
          omega
        · have : a.m - k = 0 := c
          omega
      · rw [e2]
        exact h.le a ha
  · intro e he em
    rcases List.mem_cons.1 he with rfl | he
    · refine ⟨cutm q.A k d, List.mem_cons_of_mem _ (List.mem_map_of_mem hd), ⟨k0, ?_, ?_⟩⟩
      · rw [ut, cutm_A]
        exact hk.2.1
      · rw [ut, cutm_A]
        show (q.A.take (q.top + k)).take q.top = _
        rw [List.take_take, Nat.min_eq_left (by omega)]
        exact hk.2.2
    · obtain ⟨a, ha, rfl, ⟨rfl, e2⟩ | ⟨aq, e2⟩⟩ := mem e he
      · rw [e2]
        exact ⟨_, List.mem_cons_self, ⟨by show 0 < a.m - k; omega, by rw [ct, ul], by rw [ct]; rfl⟩⟩
      · rw [e2] at em ⊢
        obtain ⟨b, hb, kb⟩ := h.par a ha em
        exact ⟨cutm q.A k b, List.mem_cons_of_mem _ (List.mem_map_of_mem hb), ⟨kb.1, by rw [cutm_A]; exact kb.2.1, by rw [cutm_A]; exact kb.2.2⟩⟩
  · intro a ha b hb am bm et ek
    rcases List.mem_cons.1 ha with rfl | ha
    · rcases List.mem_cons.1 hb with rfl | hb
      · rfl
      · rw [u1] at ek
        rw [ut] at et
        obtain ⟨b, hb0, rfl, ⟨rfl, e2⟩ | ⟨bq, e2⟩⟩ := mem b hb
        · rw [e2, ct] at et
          omega
        · rw [e2] at et ek bm
          exact (c1 b hb0 bq bm et ek).elim
    · obtain ⟨a, ha0, rfl, ea⟩ := mem a ha
      rcases List.mem_cons.1 hb with rfl | hb
      · rw [u1] at ek
        rw [ut] at et
        rcases ea with ⟨rfl, e2⟩ | ⟨aq, e2⟩
        · rw [e2, ct] at et
          omega
        · rw [e2] at et ek am
          exact (c1 a ha0 aq am et.symm ek.symm).elim
      · obtain ⟨b, hb0, rfl, eb⟩ := mem b hb
        rcases ea with ⟨rfl, e2⟩ | ⟨aq, e2⟩ <;> rcases eb with ⟨rfl, e3⟩ | ⟨bq, e3⟩
        · rfl
        · rw [e2, e3, ct] at et ek
          rw [e3] at bm
          exact (c2 b hb0 bm et ek).elim
        · rw [e2, e3, ct] at et ek
          rw [e2] at am
          exact (c2 a ha0 am et.symm ek.symm).elim
        · rw [e2, e3] at et ek ⊢
          rw [e2] at am
          rw [e3] at bm
          exact h.one a ha0 b hb0 am bm et ek
theorem Inv.mem_cut (h : Inv T) (hq : q ∈ T) {e : Nd} (he : e ∈ T.map (cutm q.A k)) : e = { q with m := q.m - k } ∨ (e ∈ T ∧ e.A ≠ q.A) := by
  obtain ⟨a, ha, rfl⟩ := List.mem_map.1 he
  by_cases c : a.A = q.A
  · obtain rfl := h.same ha hq c
    exact .inl (cutm_at a)
  · rw [cutm_ne c]
    exact .inr ⟨ha, c⟩
theorem cut_mem (hq : q ∈ T) : ({ q with m := q.m - k } : Nd) ∈ T.map (cutm q.A k) := by
  have := List.mem_map_of_mem (f := cutm q.A k) hq
  rwa [cutm_at] at this
theorem upr_at (g : Nat) (k0 : 0 < k) : (upr g q k).A[q.top]? = q.A[q.top]? ∧ (upr g q k).A.take q.top = q.A.take q.top := by
  refine ⟨?_, ?_⟩
  · show (q.A.take (q.top + k))[q.top]? = _
    rw [List.getElem?_take, if_pos (by omega)]
  · show (q.A.take (q.top + k)).take q.top = _
    rw [List.take_take, Nat.min_eq_left (by omega)]
/-- Whose kids the parting changes. -/
theorem Inv.part_atk (h : Inv T) (hd : d ∈ T) (hq : q ∈ T) (hk : Kid d q) (k0 : 0 < k) (kl : k < q.m) (g : Nat) {a : Nd} (ha : a ∈ T) (y : ByteArray) (e : Nd) :
    AtK (upr g q k :: T.map (cutm q.A k)) (cutm q.A k a) y e ↔ ∃ e0, AtK T a y e0 ∧ e = if e0.A = q.A then upr g q k else e0 := by
  have hm := (h.le q hq).1
  obtain ⟨ul, ut⟩ := upr_len g hm kl
  obtain ⟨ua, ub⟩ := upr_at (q := q) (k := k) g k0
  have wi := h.within hd hq hk k0 kl g
  constructor
  · rintro ⟨he, hk', hy⟩
    unfold Kid at hk'
    rw [cutm_A] at hk'
    rcases List.mem_cons.1 he with rfl | he
    · rw [ut, ub] at hk'
      rw [ut, ua] at hy
      exact ⟨q, ⟨hq, ⟨by omega, hk'.2.1, hk'.2.2⟩, hy⟩, by rw [if_pos rfl]⟩
    · rcases h.mem_cut hq he with rfl | ⟨he, c⟩
      · rw [cut_top hm kl] at hk'
        exact (wi a ha hk'.2.2.symm).elim
      · exact ⟨e, ⟨he, hk', hy⟩, by rw [if_neg c]⟩
  · rintro ⟨e0, ⟨he, hk', hy⟩, rfl⟩
    by_cases c : e0.A = q.A
    · obtain rfl := h.same he hq c
      rw [if_pos rfl]
      refine ⟨List.mem_cons_self, ⟨k0, ?_, ?_⟩, ?_⟩
      · rw [ut, cutm_A]
        exact hk'.2.1
      · rw [ut, cutm_A, ub]
        exact hk'.2.2
      · rw [ut, ua]
        exact hy
    · rw [if_neg c]
      refine ⟨List.mem_cons_of_mem _ ?_, ⟨hk'.1, by rw [cutm_A]; exact hk'.2.1, by rw [cutm_A]; exact hk'.2.2⟩, hy⟩
      have := List.mem_map_of_mem (f := cutm q.A k) he
      rwa [cutm_ne c] at this
theorem Inv.part_up (h : Inv T) (hd : d ∈ T) (hq : q ∈ T) (hk : Kid d q) (k0 : 0 < k) (kl : k < q.m) (g : Nat) (y : ByteArray) (e : Nd) :
    AtK (upr g q k :: T.map (cutm q.A k)) (upr g q k) y e ↔ e = { q with m := q.m - k } ∧ q.A[q.top + k]? = some y := by
  have hm := (h.le q hq).1
  obtain ⟨ul, ut⟩ := upr_len g hm kl
  have wi := h.within hd hq hk k0 kl g
  constructor
  · rintro ⟨he, hk', hy⟩
    rcases List.mem_cons.1 he with rfl | he
    · have := hk'.2.1
      rw [ut, ul] at this
      omega
    · rcases h.mem_cut hq he with rfl | ⟨he, c⟩
      · rw [cut_top hm kl] at hy
        exact ⟨rfl, hy⟩
      · obtain ⟨b, hb, kb⟩ := h.par e he hk'.1
        exact (wi b hb (kb.2.2.symm.trans hk'.2.2)).elim
  · rintro ⟨rfl, hy⟩
    refine ⟨List.mem_cons_of_mem _ (cut_mem hq), ⟨by show 0 < q.m - k; omega, by rw [cut_top hm kl, ul], by rw [cut_top hm kl]; rfl⟩, by rw [cut_top hm kl]; exact hy⟩
end
end Go.Proofs.YtipagdhoeocjeaaGreat.Li
namespace Go.Proofs.YtipagdhoeocjeaaGreat.Li
open Go Go.RowKit
set_option linter.unusedSimpArgs false
set_option linter.unusedVariables false
/-- A message. -/
structure Msg where
  t : ByteArray
  xs : List Int
  q : Int
  r : Bool
def Msg.cs (m : Msg) (v : Value) : Array Value := #[.string m.t, v, .int .i64 m.q, .bool m.r]
/-- A list of bytes in a block of its own, or none. -/
def Pl (w : World) (v : Value) (xs : List Int) : Prop := w.ownsRow 0 5 1 v xs.length (xs.map (Value.int .u8))
/-- A node's message in memory. -/
def MsAt (w : World) (ev : Value) (ms : Option Msg) : Prop := (ev = .pointer none ∧ ms = none) ∨ ∃ m k v, ms = some m ∧ ev = ptr k ∧ w.heap[k]? = some (.cells (m.cs v) 30 (0, 0)) ∧ Pl w v m.xs
/-- A node: its shape, its message, its levels, where its message lies, its map. -/
structure Fn where
  s : Nd
  ms : Option Msg
  lv : Value
  ev : Value
  kv : Value
/-- The blocks that are a node's own and may change. -/
def Fn.has (f : Fn) (k : Nat) : Prop := k = f.s.p ∨ f.ev = ptr k ∨ f.kv = .map (some k)
def FA (a b : Fn) : Prop := ∀ k, a.has k → ¬ b.has k
/-- A node's kids' map. -/
def Kds (S : List Nd) (d : Nd) (kd : ByteArray → Option Value) : Prop := ∀ x v, okT x → (kd x = some v ↔ ∃ e, AtK S d x e ∧ v = ptr e.p)
/-- A block that is no row of texts and none of bytes. -/
def No9 (w : World) (k : Nat) : Prop := ∀ cur, w.heap[k]? ≠ some (.cells cur 9 (0, 0)) ∧ w.heap[k]? ≠ some (.cells cur 5 (0, 0))
theorem no9_cells {w : World} {k t : Nat} {cs : Array Value} {fz : Nat × Nat} (h : w.heap[k]? = some (.cells cs t fz)) (ht : t ≠ 9 ∧ t ≠ 5) : No9 w k := fun cur => ⟨fun e => by
  rw [h] at e
  simp at e
  exact ht.1 e.2.1, fun e => by
  rw [h] at e
  simp at e
  exact ht.2 e.2.1⟩
theorem MG.no9 {w : World} {mv : Value} {n : Nat} {f : ByteArray → Option Value} (h : MG w mv n f) {k : Nat} (hk : mv = .map (some k)) : No9 w k := fun cur => by
  obtain ⟨es, c, q⟩ := h.block hk
  rw [q]
  exact ⟨(fun e => by cases e), (fun e => by cases e)⟩
theorem Pl.keep {w w' : World} {v : Value} {xs : List Int} {C : Nat → Prop} (h : Pl w v xs) (hc : Ch C w w') (h9 : ∀ k, C k → No9 w k) : Pl w' v xs :=
  own_ch h hc (fun g hg c => by
    obtain ⟨cur, e⟩ := own_lt h hg
    exact (h9 g c cur).2 e)
theorem Pl.below {w w' : World} {v : Value} {xs : List Int} (h : Pl w v xs) (hb : Below w.heap.size w w') : Pl w' v xs := own_below h hb
theorem ptr_inj {a b : Nat} (h : ptr a = ptr b) : a = b := by
  unfold ptr at h
  simpa using h
theorem MsAt.block {w : World} {ev : Value} {ms : Option Msg} (h : MsAt w ev ms) {k : Nat} (hk : ev = ptr k) : ∃ m v, ms = some m ∧ w.heap[k]? = some (.cells (m.cs v) 30 (0, 0)) ∧ Pl w v m.xs := by
  rcases h with ⟨h1, _⟩ | ⟨m, k', v, h1, h2, h3, h4⟩
  · rw [hk] at h1; cases h1
  · rw [hk] at h2
    rw [← ptr_inj h2] at h3
    exact ⟨m, v, h1, h3, h4⟩
theorem MsAt.lt {w : World} {ev : Value} {ms : Option Msg} (h : MsAt w ev ms) {k : Nat} (hk : ev = ptr k) : k < w.heap.size := by
  obtain ⟨m, v, _, h1, _⟩ := h.block hk
  exact (Array.getElem?_eq_some_iff.1 h1).1
theorem MsAt.no9 {w : World} {ev : Value} {ms : Option Msg} (h : MsAt w ev ms) {k : Nat} (hk : ev = ptr k) : No9 w k := by
  obtain ⟨m, v, _, h1, _⟩ := h.block hk
  exact no9_cells h1 (by decide)
theorem MsAt.keep {w w' : World} {ev : Value} {ms : Option Msg} {C : Nat → Prop} (h : MsAt w ev ms) (hc : Ch C w w') (hf : ∀ k, ev = ptr k → ¬ C k) (h9 : ∀ k, C k → No9 w k) : MsAt w' ev ms := by
  rcases h with h | ⟨m, k, v, h1, h2, h3, h4⟩
  · exact .inl h
  · exact .inr ⟨m, k, v, h1, h2, (hc.block k (Array.getElem?_eq_some_iff.1 h3).1 (hf k h2)).trans h3, h4.keep hc h9⟩
structure FnM (w : World) (S : List Nd) (N : Nat) (f : Fn) : Prop where
  at_ : w.heap[f.s.p]? = some (.cells #[f.lv, f.ev, f.kv] 75 (0, 0))
  lv : w.ownsRow 0 9 1 f.lv f.s.m (f.s.edge.map Value.string)
  ev : MsAt w f.ev f.ms
  kv : ∃ nk kd, nk ≤ N ∧ MG w f.kv nk kd ∧ Kds S f.s kd
/-- What a message must be at a node. -/
def MsOk (A : List ByteArray) (m : Msg) : Prop := tcode m.t = 0 ∧ levels m.t = A ∧ (0 ≤ m.q ∧ m.q ≤ 2) ∧ m.xs.length ≤ 60000 ∧ m.t.size ≤ 65535
structure TM (w : World) (tb r : Nat) (nf nn : Int) (T : List Fn) : Prop where
  tr : w.heap[tb]? = some (.cells #[ptr r, .int .i64 nf, .int .i64 nn] 65 (0, 0))
  inv : Inv (T.map Fn.s)
  rt : ∃ f ∈ T, f.s.A = [] ∧ f.s.p = r
  nd : ∀ f ∈ T, FnM w (T.map Fn.s) T.length f
  dis : T.Pairwise FA
  ok : ∀ f ∈ T, (∀ t ∈ f.s.A, t.size ≤ 65535) ∧ f.s.A.length ≤ 65536
theorem FnM.lt {w : World} {N : Nat} {S : List Nd} {f : Fn} (h : FnM w S N f) {k : Nat} (hk : f.has k) : k < w.heap.size := by
  rcases hk with rfl | e | e
  · exact (Array.getElem?_eq_some_iff.1 h.at_).1
  · exact h.ev.lt e
  · obtain ⟨nk, kd, _, hm, _⟩ := h.kv
    exact hm.lt e
theorem FnM.no9 {w : World} {N : Nat} {S : List Nd} {f : Fn} (h : FnM w S N f) {k : Nat} (hk : f.has k) : No9 w k := by
  rcases hk with rfl | e | e
  · exact no9_cells h.at_ (by decide)
  · exact h.ev.no9 e
  · obtain ⟨nk, kd, _, hm, _⟩ := h.kv
    exact hm.no9 e
/-- A node that nothing of stays. -/
theorem FnM.keep {w w' : World} {N N' : Nat} {S S' : List Nd} {f : Fn} {C : Nat → Prop} (h : FnM w S N f) (hc : Ch C w w') (hf : ∀ k, f.has k → ¬ C k) (h9 : ∀ k, C k → No9 w k) (hN : N ≤ N') (hS : ∀ x e, AtK S f.s x e ↔ AtK S' f.s x e) : FnM w' S' N' f := by
  have blk : ∀ k, f.has k → w'.heap[k]? = w.heap[k]? := fun k hk => hc.block k (h.lt hk) (hf k hk)
  refine ⟨(blk _ (.inl rfl)).trans h.at_, ?_, h.ev.keep hc (fun k e => hf k (.inr (.inl e))) h9, ?_⟩
  · refine own_ch h.lv hc (fun g hg c => ?_)
    obtain ⟨cur, e⟩ := own_lt h.lv hg
    exact (h9 g c cur).1 e
  · obtain ⟨nk, kd, h1, h2, h3⟩ := h.kv
    refine ⟨nk, kd, Nat.le_trans h1 hN, h2.keep (fun b e => blk b (.inr (.inr e))), fun x v hx => (h3 x v hx).trans ?_⟩
    constructor
    · rintro ⟨e, h4, h5⟩
      exact ⟨e, (hS x e).1 h4, h5⟩
    · rintro ⟨e, h4, h5⟩
      exact ⟨e, (hS x e).2 h4, h5⟩
theorem TM.same {w : World} {tb r : Nat} {nf nn : Int} {T : List Fn} (h : TM w tb r nf nn T) {a b : Fn} (ha : a ∈ T) (hb : b ∈ T) (e : a.s.A = b.s.A) : a = b := by
  have hs : a.s = b.s := h.inv.same (List.mem_map_of_mem ha) (List.mem_map_of_mem hb) e
  by_cases q : a = b
  · exact q
  · have : FA a b ∨ FA b a := by
      have hd := h.dis
      clear h
      induction T with
      | nil => cases ha
      | cons x T ih =>
        rw [List.pairwise_cons] at hd
        rcases List.mem_cons.1 ha with rfl | ha'
        · rcases List.mem_cons.1 hb with rfl | hb'
          · exact absurd rfl q
          · exact .inl (hd.1 b hb')
        · rcases List.mem_cons.1 hb with rfl | hb'
          · exact .inr (hd.1 a ha')
          · exact ih ha' hb' hd.2
    rcases this with t | t
    · exact (t a.s.p (.inl rfl) (.inl (by rw [hs]))).elim
    · exact (t b.s.p (.inl rfl) (.inl (by rw [hs]))).elim
theorem TM.apart {w : World} {tb r : Nat} {nf nn : Int} {T : List Fn} (h : TM w tb r nf nn T) {a b : Fn} (ha : a ∈ T) (hb : b ∈ T) (q : a ≠ b) : FA a b := by
  have hd := h.dis
  clear h
  have sy : ∀ {a b : Fn}, FA a b → FA b a := fun h k h1 h2 => h k h2 h1
  induction T with
  | nil => cases ha
  | cons x T ih =>
    rw [List.pairwise_cons] at hd
    rcases List.mem_cons.1 ha with rfl | ha'
    · rcases List.mem_cons.1 hb with rfl | hb'
      · exact absurd rfl q
      · exact hd.1 b hb'
    · rcases List.mem_cons.1 hb with rfl | hb'
      · exact sy (hd.1 a ha')
      · exact ih ha' hb' hd.2
/-- A world in which nothing of the trie has changed. -/
theorem TM.keep {w w' : World} {tb r : Nat} {nf nn : Int} {T : List Fn} {C : Nat → Prop} (h : TM w tb r nf nn T) (hc : Ch C w w') (ht : ¬ C tb) (hf : ∀ f ∈ T, ∀ k, f.has k → ¬ C k) (h9 : ∀ k, C k → No9 w k) : TM w' tb r nf nn T :=
  ⟨(hc.block tb (Array.getElem?_eq_some_iff.1 h.tr).1 ht).trans h.tr, h.inv, h.rt, fun f hf' => (h.nd f hf').keep hc (hf f hf') h9 (Nat.le_refl _) (fun _ _ => Iff.rfl), h.dis, h.ok⟩
theorem TM.below {w w' : World} {tb r : Nat} {nf nn : Int} {T : List Fn} (h : TM w tb r nf nn T) (hb : Below w.heap.size w w') : TM w' tb r nf nn T := h.keep (Below.ch (S := fun _ => False) hb) (fun q => q) (fun _ _ _ _ q => q) (fun _ q => q.elim)
/-- A kid, looked up. -/
theorem TM.look {w : World} {tb r : Nat} {nf nn : Int} {T : List Fn} (h : TM w tb r nf nn T) {d : Fn} (hd : d ∈ T) {x : ByteArray} (hx : okT x) : ∃ nk kd, nk ≤ T.length ∧ MG w d.kv nk kd ∧ Kds (T.map Fn.s) d.s kd ∧ ((∃ q ∈ T, AtK (T.map Fn.s) d.s x q.s ∧ kd x = some (ptr q.s.p)) ∨ (kd x = none ∧ ∀ e, ¬ AtK (T.map Fn.s) d.s x e)) := by
  obtain ⟨nk, kd, h1, h2, h3⟩ := (h.nd d hd).kv
  refine ⟨nk, kd, h1, h2, h3, ?_⟩
  cases c : kd x with
  | none =>
    refine .inr ⟨rfl, fun e he => ?_⟩
    have := (h3 x (ptr e.p) hx).2 ⟨e, he, rfl⟩
    rw [c] at this
    cases this
  | some v =>
    obtain ⟨e, he, rfl⟩ := (h3 x v hx).1 c
    obtain ⟨q, hq, rfl⟩ := List.mem_map.1 he.1
    exact .inl ⟨q, hq, he, rfl⟩
end Go.Proofs.YtipagdhoeocjeaaGreat.Li
namespace Go.Proofs.YtipagdhoeocjeaaGreat.Li
open Go Go.RowKit
set_option linter.unusedSimpArgs false
set_option linter.unusedVariables false
def Fn.kvd (f : Fn) (kv : Value) : Fn := { f with kv := kv }
/-- The blocks that hang changes. -/
def hgC (d : Fn) (j : Nat) : Prop := j = d.s.p ∨ d.kv = .map (some j)
theorem hgC_has {d : Fn} {j : Nat} (h : hgC d j) : d.has j := h.elim .inl (fun q => .inr (.inr q))
/-- A node on which another one was hung. -/
theorem FnM.hung {w w' : World} {N N' nk q : Nat} {S S' : List Nd} {d : Fn} {kd : ByteArray → Option Value} {x : ByteArray} (h : FnM w S N d) (hm : MG w d.kv nk kd) (g : Hg w w' d.s.p d.lv d.ev d.kv nk kd x q) (hN : szG kd x nk ≤ N') (hK : Kds S' d.s (setG kd x (some (ptr q)))) :
    ∃ kv', FnM w' S' N' (d.kvd kv') ∧ (kv' = d.kv ∨ d.kv = .map none ∧ kv' = .map (some w.heap.size)) := by
  obtain ⟨⟨mb, g1, g2, g3⟩, hc⟩ := g
  have hc' : Ch (hgC d) w w' := hc
  refine ⟨.map (some mb), ⟨g1, ?_, h.ev.keep hc' (fun k e c => ?_) (fun k c => h.no9 (hgC_has c)), ⟨_, _, hN, g2, hK⟩⟩, ?_⟩
  · refine own_ch h.lv hc' (fun j hj c => ?_)
    obtain ⟨cur, e⟩ := own_lt h.lv hj
    exact (h.no9 (hgC_has c) cur).1 e
  · obtain ⟨m, v, _, h1, _⟩ := h.ev.block e
    rcases c with c | c
    · rw [c, h.at_] at h1
      simp at h1
    · obtain ⟨es, cl, q⟩ := hm.block c
      rw [q] at h1
      cases h1
  · rcases g3 with c | ⟨c1, c2⟩
    · exact .inl c.symm
    · exact .inr ⟨c1, by rw [c2]⟩
theorem hg_no9 {w : World} {N : Nat} {S : List Nd} {d : Fn} (h : FnM w S N d) : ∀ k, hgC d k → No9 w k := fun k hk => h.no9 (hgC_has hk)
section
variable {w w1 w' : World} {tb r nk : Nat} {nf nn : Int} {T : List Fn} {d q : Fn} {kd : ByteArray → Option Value} {x : ByteArray}
theorem TM.tb_ne (h : TM w tb r nf nn T) {f : Fn} (hf : f ∈ T) : ¬ f.has tb := fun c => by
  have ht := h.tr
  rcases c with c | c | c
  · rw [c, (h.nd f hf).at_] at ht
    simp at ht
  · obtain ⟨m, v, _, e, _⟩ := (h.nd f hf).ev.block c
    rw [e] at ht
    simp at ht
  · obtain ⟨nk, kd, _, hm, _⟩ := (h.nd f hf).kv
    obtain ⟨es, cl, e⟩ := hm.block c
    rw [e] at ht
    cases ht
/-- A kid is hung again where it hung. -/
theorem TM.rehang (h : TM w tb r nf nn T) (hd : d ∈ T) (hk : AtK (T.map Fn.s) d.s x q.s) (hx : okT x) (hm : MG w d.kv nk kd) (hnk : nk ≤ T.length) (hK : Kds (T.map Fn.s) d.s kd) (g : Hg w w' d.s.p d.lv d.ev d.kv nk kd x q.s.p) : TM w' tb r nf nn T := by
  have hkx : kd x = some (ptr q.s.p) := (hK x _ hx).2 ⟨_, hk, rfl⟩
  have hset : ∀ y, setG kd x (some (ptr q.s.p)) y = kd y := fun y => by
    unfold setG
    split
    · rename_i e; rw [e, hkx]
    · rfl
  have fd := h.nd d hd
  have hgc : Ch (hgC d) w w' := g.ch
  obtain ⟨kv', f1, f2⟩ := fd.hung (S' := T.map Fn.s) (N' := T.length) hm g (by unfold szG; rw [hkx]; exact hnk) (fun y v hy => by rw [hset]; exact hK y v hy)
  have hsome : d.kv ≠ .map none := fun e => by
    rcases hm with ⟨_, _, c⟩ | ⟨mb, D, c, _⟩
    · rw [c x hx] at hkx; cases hkx
    · rw [c] at e; cases e
  have ekv : kv' = d.kv := f2.elim id (fun c => (hsome c.1).elim)
  rw [ekv] at f1
  have f1' : FnM w' (T.map Fn.s) T.length d := f1
  refine ⟨(hgc.block tb (Array.getElem?_eq_some_iff.1 h.tr).1 (fun c => h.tb_ne hd (hgC_has c))).trans h.tr, h.inv, h.rt, fun f hf => ?_, h.dis, h.ok⟩
  by_cases e : f = d
  · rw [e]
    exact f1'
  · exact (h.nd f hf).keep hgc (fun k c1 c2 => h.apart hf hd e k c1 (hgC_has c2)) (hg_no9 fd) (Nat.le_refl _) (fun _ _ => Iff.rfl)
end
end Go.Proofs.YtipagdhoeocjeaaGreat.Li
namespace Go.Proofs.YtipagdhoeocjeaaGreat.Li
open Go Go.RowKit
set_option linter.unusedSimpArgs false
set_option linter.unusedVariables false
def ukv (A : List ByteArray) (kv : Value) (f : Fn) : Fn := if f.s.A = A then f.kvd kv else f
theorem ukv_s (A : List ByteArray) (kv : Value) (f : Fn) : (ukv A kv f).s = f.s := by unfold ukv; split <;> rfl
theorem ukv_map (A : List ByteArray) (kv : Value) (T : List Fn) : (T.map (ukv A kv)).map Fn.s = T.map Fn.s := by
  rw [List.map_map]
  exact List.map_congr_left (fun f _ => ukv_s A kv f)
theorem ukv_ne {A : List ByteArray} {kv : Value} {f : Fn} (h : f.s.A ≠ A) : ukv A kv f = f := if_neg h
theorem ukv_at {A : List ByteArray} {kv : Value} {f : Fn} (h : f.s.A = A) : ukv A kv f = f.kvd kv := if_pos h
theorem ukv_has {A : List ByteArray} {kv : Value} {f : Fn} {k : Nat} (h : (ukv A kv f).has k) : f.has k ∨ (f.s.A = A ∧ kv = .map (some k)) := by
  by_cases c : f.s.A = A
  · rw [ukv_at c] at h
    rcases h with h | h | h
    · exact .inl (.inl h)
    · exact .inl (.inr (.inl h))
    · exact .inr ⟨c, h⟩
  · rw [ukv_ne c] at h
    exact .inl h
section
variable {w w1 w' : World} {tb r nk g : Nat} {nf nn : Int} {T : List Fn} {d q : Fn} {kd : ByteArray → Option Value} {x : ByteArray} {rr : List ByteArray}
/-- The nodes stay apart when one gets a new map. -/
theorem TM.dis_kv (h : TM w tb r nf nn T) (hd : d ∈ T) {kv : Value} {N : Nat} (hN : w.heap.size ≤ N) (hv : kv = d.kv ∨ kv = .map (some N)) : (T.map (ukv d.s.A kv)).Pairwise FA := by
  rw [List.pairwise_map]
  refine h.dis.imp_of_mem (fun {a b} ha hb c => ?_)
  have one : ∀ f ∈ T, ∀ k, (ukv d.s.A kv f).has k → f.has k ∨ (f = d ∧ k = N) := fun f hf k hk => by
    rcases ukv_has hk with e | ⟨e1, e2⟩
    · exact .inl e
    · obtain rfl := h.same hf hd e1
      rcases hv with v | v
      · exact .inl (.inr (.inr (by rw [← v]; exact e2)))
      · rw [v] at e2
        cases e2
        exact .inr ⟨rfl, rfl⟩
  intro k hka hkb
  rcases one a ha k hka with e1 | ⟨e1, e2⟩ <;> rcases one b hb k hkb with e3 | ⟨e3, e4⟩
  · exact c k e1 e3
  · have := (h.nd a ha).lt e1
    omega
  · have := (h.nd b hb).lt e3
    omega
  · rw [e1, e3] at c
    exact c d.s.p (.inl rfl) (.inl rfl)
def leafN (g : Nat) (A : List ByteArray) (x : ByteArray) (rr : List ByteArray) (lv : Value) : Fn := ⟨⟨g, A ++ x :: rr, rr.length + 1⟩, none, lv, .pointer none, .map none⟩
theorem leafN_edge (g : Nat) (A : List ByteArray) (x : ByteArray) (rr : List ByteArray) (lv : Value) : (leafN g A x rr lv).s.edge = x :: rr := by
  unfold leafN Nd.edge Nd.top
  simp
/-- A leaf is made and hung. -/
theorem TM.leafed (h : TM w tb r nf nn T) (hd : d ∈ T) (hx : okT x) (no : ∀ e, ¬ AtK (T.map Fn.s) d.s x e) (hm : MG w d.kv nk kd) (hnk : nk ≤ T.length) (hK : Kds (T.map Fn.s) d.s kd) (lf : Lf w w1 tb g (ptr r) nf nn (x :: rr)) (gh : Hg w1 w' d.s.p d.lv d.ev d.kv nk kd x g) (okL : ∀ t ∈ x :: rr, t.size ≤ 65535) (okl : d.s.A.length + (rr.length + 1) ≤ 65536) :
    ∃ kv lv, (kv = d.kv ∨ kv = .map (some w1.heap.size)) ∧ TM w' tb r nf (nn + 1) (leafN g d.s.A x rr lv :: T.map (ukv d.s.A kv)) := by
  obtain ⟨lv, l1, l2⟩ := lf.nd
  have fd := h.nd d hd
  have ht9 : ∀ k, k = tb → No9 w k := fun k e => by rw [e]; exact no9_cells h.tr (by decide)
  have k1 : ∀ f ∈ T, FnM w1 (T.map Fn.s) T.length f := fun f hf => (h.nd f hf).keep lf.ch (fun k c e => h.tb_ne hf (by rw [← e]; exact c)) ht9 (Nat.le_refl _) (fun _ _ => Iff.rfl)
  have fd1 := k1 d hd
  have hm1 : MG w1 d.kv nk kd := hm.keep (fun b e => lf.ch.block b (hm.lt e) (fun c => h.tb_ne hd (.inr (.inr (by rw [← c]; exact e)))))
  have hg1 : g < w1.heap.size := (Array.getElem?_eq_some_iff.1 l1).1
  have hgc : Ch (hgC d) w1 w' := gh.ch
  have SE : ∀ kv, (leafN g d.s.A x rr lv :: T.map (ukv d.s.A kv)).map Fn.s = ⟨g, d.s.A ++ x :: rr, rr.length + 1⟩ :: T.map Fn.s := fun kv => by
    rw [List.map_cons, ukv_map]
    rfl
  have LE : ∀ kv, (leafN g d.s.A x rr lv :: T.map (ukv d.s.A kv)).length = T.length + 1 := fun kv => by simp
  have la := fun (a : Fn) (ha : a ∈ T) => h.inv.leaf_atk (x := x) (r := rr) (List.mem_map_of_mem hd) g (List.mem_map_of_mem (f := Fn.s) ha)
  have hKd : Kds (⟨g, d.s.A ++ x :: rr, rr.length + 1⟩ :: T.map Fn.s) d.s (setG kd x (some (ptr g))) := fun y v hy => by
    by_cases e : y = x
    · subst e
      unfold setG
      rw [if_pos rfl]
      constructor
      · intro c
        cases c
        exact ⟨_, (la d hd y _).2 (.inr ⟨rfl, rfl, rfl⟩), rfl⟩
      · rintro ⟨e, he, rfl⟩
        rcases (la d hd y e).1 he with c | ⟨c, _, _⟩
        · exact (no e c).elim
        · rw [c]
    · unfold setG
      rw [if_neg e, hK y v hy]
      constructor
      · rintro ⟨f, hf, ev⟩
        exact ⟨f, (la d hd y f).2 (.inl hf), ev⟩
      · rintro ⟨f, hf, ev⟩
        rcases (la d hd y f).1 hf with c | ⟨_, _, c⟩
        · exact ⟨f, c, ev⟩
        · exact (e c).elim
  obtain ⟨kv, f1, f2⟩ := fd1.hung (N' := T.length + 1) hm1 gh (by unfold szG; split <;> omega) hKd
  have f2' : kv = d.kv ∨ kv = .map (some w1.heap.size) := f2.imp id (fun c => c.2)
  have hdl : ∀ k, hgC d k → k < w.heap.size := fun k c => fd.lt (hgC_has c)
  have hge := lf.ge
  refine ⟨kv, lv, f2', ?_, ?_, ?_, ?_, ?_, ?_⟩
  · exact (hgc.block tb (Array.getElem?_eq_some_iff.1 lf.tr).1 (fun c => h.tb_ne hd (hgC_has c))).trans lf.tr
  · rw [SE]
    exact h.inv.leaf (List.mem_map_of_mem hd) no g
  · obtain ⟨f, hf, e1, e2⟩ := h.rt
    exact ⟨_, List.mem_cons_of_mem _ (List.mem_map_of_mem hf), by rw [ukv_s]; exact e1, by rw [ukv_s]; exact e2⟩
  · rw [SE, LE]
    intro f hf
    rcases List.mem_cons.1 hf with rfl | hf
    · refine ⟨?_, ?_, .inl ⟨rfl, rfl⟩, ⟨0, fun _ => none, Nat.zero_le _, .inl ⟨rfl, rfl, fun _ _ => rfl⟩, fun y v hy => ?_⟩⟩
      · exact (hgc.block g hg1 (fun c => by have := hdl g c; omega)).trans l1
      · rw [leafN_edge]
        have := own_ch l2 hgc (fun j hj c => by have := row_ge l2 hj; have := hdl j c; omega)
        exact own0 this
      · constructor
        · intro c; cases c
        · rintro ⟨e, he, _⟩
          exact (h.inv.leaf_none (List.mem_map_of_mem hd) no g y e he).elim
    · obtain ⟨a, ha, rfl⟩ := List.mem_map.1 hf
      by_cases e : a.s.A = d.s.A
      · obtain rfl := h.same ha hd e
        rw [ukv_at rfl]
        exact f1
      · rw [ukv_ne e]
        have ad : a ≠ d := fun c => e (by rw [c])
        refine (k1 a ha).keep hgc (fun k c1 c2 => h.apart ha hd ad k c1 (hgC_has c2)) (hg_no9 fd1) (by omega) (fun y f => ?_)
        rw [la a ha y f]
        constructor
        · exact .inl
        · rintro (c | ⟨_, c, _⟩)
          · exact c
          · exact (e c).elim
  · rw [List.pairwise_cons]
    refine ⟨fun f hf k c1 c2 => ?_, h.dis_kv hd lf.ch.size f2'⟩
    obtain ⟨a, ha, rfl⟩ := List.mem_map.1 hf
    have kg : k = g := by
      rcases c1 with c | c | c
      · exact c
      · cases c
      · cases c
    rcases ukv_has c2 with c | ⟨c, c'⟩
    · have := (h.nd a ha).lt c
      omega
    · rcases f2' with v | v
      · have := hdl k (.inr (by rw [← v]; exact c'))
        omega
      · rw [v] at c'
        cases c'
        omega
  · intro f hf
    rcases List.mem_cons.1 hf with rfl | hf
    · refine ⟨fun t ht => ?_, ?_⟩
      · rcases List.mem_append.1 (show t ∈ d.s.A ++ x :: rr from ht) with c | c
        · exact (h.ok d hd).1 t c
        · exact okL t c
      · show (d.s.A ++ x :: rr).length ≤ _
        simp
        omega
    · obtain ⟨a, ha, rfl⟩ := List.mem_map.1 hf
      rw [ukv_s]
      exact h.ok a ha
end
end Go.Proofs.YtipagdhoeocjeaaGreat.Li
namespace Go.Proofs.YtipagdhoeocjeaaGreat.Li
open Go Go.RowKit
set_option linter.unusedSimpArgs false
set_option linter.unusedVariables false
def upt (A : List ByteArray) (k : Nat) (lp : Value) (f : Fn) : Fn := if f.s.A = A then { f with s := { f.s with m := f.s.m - k }, lv := lp } else f
theorem upt_s (A : List ByteArray) (k : Nat) (lp : Value) (f : Fn) : (upt A k lp f).s = cutm A k f.s := by unfold upt cutm; split <;> rfl
theorem upt_map (A : List ByteArray) (k : Nat) (lp : Value) (T : List Fn) : (T.map (upt A k lp)).map Fn.s = (T.map Fn.s).map (cutm A k) := by
  rw [List.map_map, List.map_map]
  exact List.map_congr_left (fun f _ => upt_s A k lp f)
theorem upt_ne {A : List ByteArray} {k : Nat} {lp : Value} {f : Fn} (h : f.s.A ≠ A) : upt A k lp f = f := if_neg h
theorem upt_at {k : Nat} {lp : Value} (f : Fn) : upt f.s.A k lp f = { f with s := { f.s with m := f.s.m - k }, lv := lp } := if_pos rfl
theorem upt_has {A : List ByteArray} {k j : Nat} {lp : Value} {f : Fn} : (upt A k lp f).has j ↔ f.has j := by
  by_cases c : f.s.A = A
  · subst c
    rw [upt_at]
    exact Iff.rfl
  · rw [upt_ne c]
def uprN (u : Nat) (q : Nd) (k : Nat) (lu kv : Value) : Fn := ⟨upr u q k, none, lu, .pointer none, kv⟩
theorem upr_edge (u : Nat) (q : Nd) (k : Nat) (hq : q.m ≤ q.A.length) (hk : k < q.m) : (upr u q k).edge = q.edge.take k := by
  unfold Nd.edge
  rw [(upr_len u hq hk).2]
  show (q.A.take (q.top + k)).drop q.top = _
  rw [List.drop_take]
  congr 1
  omega
theorem cut_edge (q : Nd) (k : Nat) (hq : q.m ≤ q.A.length) (hk : k < q.m) : ({ q with m := q.m - k } : Nd).edge = q.edge.drop k := by
  unfold Nd.edge
  rw [cut_top hq hk]
  show q.A.drop (q.top + k) = _
  rw [List.drop_drop]
theorem edge_len (q : Nd) (hq : q.m ≤ q.A.length) : q.edge.length = q.m := by
  unfold Nd.edge
  rw [List.length_drop]
  have := len_take q hq
  omega
theorem edge_at (q : Nd) (k : Nat) : q.edge[k]? = q.A[q.top + k]? := by
  unfold Nd.edge
  rw [List.getElem?_drop]
section
variable {w w1 w' : World} {tb r nk u k : Nat} {nf nn : Int} {T : List Fn} {d q : Fn} {kd : ByteArray → Option Value} {x y : ByteArray}
/-- An edge is parted, and the upper node hung in its place. -/
theorem TM.parted (h : TM w tb r nf nn T) (hd : d ∈ T) (hq : q ∈ T) (hk : AtK (T.map Fn.s) d.s x q.s) (hx : okT x) (hm : MG w d.kv nk kd) (hnk : nk ≤ T.length) (hK : Kds (T.map Fn.s) d.s kd) (k0 : 0 < k) (kl : k < q.s.m) (hy : q.s.edge[k]? = some y) (pr : Pr w w1 tb q.s.p u k (ptr r) q.ev q.kv nf nn q.s.edge y) (gh : Hg w1 w' d.s.p d.lv d.ev d.kv nk kd x u) :
    ∃ lp lu mb, w.heap.size ≤ mb ∧ TM w' tb r nf (nn + 1) (uprN u q.s k lu (.map (some mb)) :: T.map (upt q.s.A k lp)) := by
  obtain ⟨lp, n1, n2⟩ := pr.nd
  obtain ⟨lu, mb, u1, u2, u3, u4⟩ := pr.up
  have fd := h.nd d hd
  have fq := h.nd q hq
  have hds : d.s ∈ T.map Fn.s := List.mem_map_of_mem hd
  have hqs : q.s ∈ T.map Fn.s := List.mem_map_of_mem hq
  have qm := (h.inv.le q.s hqs).1
  have hdq : d.s.A ≠ q.s.A := fun e => by have := hk.2.1.lt qm; rw [e] at this; omega
  have dq : d ≠ q := fun e => hdq (by rw [e])
  have elen := edge_len q.s qm
  have C9 : ∀ j, (j = tb ∨ j = q.s.p) → No9 w j := fun j e => by
    rcases e with e | e
    · rw [e]; exact no9_cells h.tr (by decide)
    · rw [e]; exact no9_cells fq.at_ (by decide)
  have k1 : ∀ f ∈ T, f ≠ q → FnM w1 (T.map Fn.s) T.length f := fun f hf fn => (h.nd f hf).keep pr.ch (fun j c e => by
    rcases e with e | e
    · exact h.tb_ne hf (by rw [← e]; exact c)
    · exact h.apart hf hq fn j c (.inl e)) C9 (Nat.le_refl _) (fun _ _ => Iff.rfl)
  have fd1 := k1 d hd dq
  have hm1 : MG w1 d.kv nk kd := hm.keep (fun b e => pr.ch.block b (hm.lt e) (fun c => by
    rcases c with c | c
    · exact h.tb_ne hd (.inr (.inr (by rw [← c]; exact e)))
    · exact h.apart hd hq dq b (.inr (.inr e)) (.inl c)))
  have hgc : Ch (hgC d) w1 w' := gh.ch
  have hdl : ∀ j, hgC d j → j < w.heap.size := fun j c => fd.lt (hgC_has c)
  have hge := pr.ge
  have SE : ∀ kv, (uprN u q.s k lu kv :: T.map (upt q.s.A k lp)).map Fn.s = upr u q.s k :: (T.map Fn.s).map (cutm q.s.A k) := fun kv => by
    rw [List.map_cons, upt_map]
    rfl
  have LE : ∀ kv, (uprN u q.s k lu kv :: T.map (upt q.s.A k lp)).length = T.length + 1 := fun kv => by simp
  have pa := fun (a : Fn) (ha : a ∈ T) => h.inv.part_atk hds hqs hk.2.1 k0 kl u (List.mem_map_of_mem (f := Fn.s) ha)
  have pd := pa d hd
  rw [cutm_ne hdq] at pd
  have hKd : Kds (upr u q.s k :: (T.map Fn.s).map (cutm q.s.A k)) d.s (setG kd x (some (ptr u))) := fun z v hz => by
    by_cases e : z = x
    · subst e
      unfold setG
      rw [if_pos rfl]
      constructor
      · intro c
        cases c
        exact ⟨_, (pd z _).2 ⟨q.s, hk, rfl⟩, by rw [if_pos rfl]; rfl⟩
      · rintro ⟨e, he, rfl⟩
        obtain ⟨e0, h0, rfl⟩ := (pd z e).1 he
        obtain rfl := h.inv.atk h0 hk
        rw [if_pos rfl]
        rfl
    · unfold setG
      rw [if_neg e, hK z v hz]
      have nq : ∀ e0, AtK (T.map Fn.s) d.s z e0 → e0.A ≠ q.s.A := fun e0 h0 c => by
        obtain rfl := h.inv.same h0.1 hqs c
        have := h0.2.2.symm.trans hk.2.2
        cases this
        exact e rfl
      constructor
      · rintro ⟨f, hf, ev⟩
        exact ⟨f, (pd z f).2 ⟨f, hf, by rw [if_neg (nq f hf)]⟩, ev⟩
      · rintro ⟨f, hf, ev⟩
        obtain ⟨e0, h0, e1⟩ := (pd z f).1 hf
        rw [if_neg (nq e0 h0)] at e1
        rw [e1] at ev
        exact ⟨e0, h0, ev⟩
  obtain ⟨kv, f1, f2⟩ := fd1.hung (N' := T.length + 1) hm1 gh (by unfold szG; split <;> omega) hKd
  have hkx : kd x = some (ptr q.s.p) := (hK x _ hx).2 ⟨_, hk, rfl⟩
  have hsome : d.kv ≠ .map none := fun e => by
    rcases hm with ⟨_, _, c⟩ | ⟨mb, D, c, _⟩
    · rw [c x hx] at hkx; cases hkx
    · rw [c] at e; cases e
  have ekv : kv = d.kv := f2.elim id (fun c => (hsome c.1).elim)
  rw [ekv] at f1
  have f1' : FnM w' (upr u q.s k :: (T.map Fn.s).map (cutm q.s.A k)) (T.length + 1) d := f1
  have hul : u < w1.heap.size := (Array.getElem?_eq_some_iff.1 u1).1
  refine ⟨lp, lu, mb, u4, ?_, ?_, ?_, ?_, ?_, ?_⟩
  · exact (hgc.block tb (Array.getElem?_eq_some_iff.1 pr.tr).1 (fun c => h.tb_ne hd (hgC_has c))).trans pr.tr
  · rw [SE]
    exact h.inv.part hds hqs hk.2.1 k0 kl u
  · obtain ⟨f, hf, e1, e2⟩ := h.rt
    exact ⟨_, List.mem_cons_of_mem _ (List.mem_map_of_mem hf), by rw [upt_s, cutm_A]; exact e1, by rw [upt_s, cutm_p]; exact e2⟩
  · rw [SE, LE]
    intro f hf
    rcases List.mem_cons.1 hf with rfl | hf
    · refine ⟨?_, ?_, .inl ⟨rfl, rfl⟩, ⟨1, setG (fun _ => none) y (some (ptr q.s.p)), by omega, ?_, fun z v hz => ?_⟩⟩
      · exact (hgc.block u hul (fun c => by have := hdl u c; omega)).trans u1
      · show w'.ownsRow 0 9 1 lu k ((upr u q.s k).edge.map Value.string)
        rw [upr_edge u q.s k qm kl]
        have := own_ch u2 hgc (fun j hj c => by have := row_ge u2 hj; have := hdl j c; omega)
        exact own0 this
      · exact u3.keep (fun b e => by
          cases e
          exact hgc.block mb (u3.lt rfl) (fun c => by have := hdl mb c; omega))
      · have up := h.inv.part_up hds hqs hk.2.1 k0 kl u z
        rw [edge_at] at hy
        unfold setG
        constructor
        · intro c
          split at c
          · rename_i e
            cases c
            exact ⟨_, (up _).2 ⟨rfl, by rw [e]; exact hy⟩, rfl⟩
          · cases c
        · rintro ⟨e, he, rfl⟩
          obtain ⟨rfl, e2⟩ := (up e).1 he
          rw [hy] at e2
          cases e2
          rw [if_pos rfl]
    · obtain ⟨a, ha, rfl⟩ := List.mem_map.1 hf
      by_cases aq : a = q
      · subst aq
        rw [upt_at]
        have hev : ∀ b, a.has b → b ≠ a.s.p → w'.heap[b]? = w.heap[b]? := fun b hb hbp => by
          have hbl := fq.lt hb
          have s1 := pr.ch.size
          refine (hgc.block b (by omega) (fun c => h.apart hd ha dq b (hgC_has c) hb)).trans (pr.ch.block b hbl (fun c => ?_))
          rcases c with c | c
          · exact h.tb_ne ha (by rw [← c]; exact hb)
          · exact hbp c
        have mp : ∀ b, (∃ es cl, w.heap[b]? = some (.map es cl)) → b ≠ a.s.p := fun b ⟨es, cl, e⟩ c => by
          rw [c, fq.at_] at e
          cases e
        refine ⟨?_, ?_, (fq.ev.keep pr.ch (fun k e c => ?_) C9).keep hgc (fun k e c => h.apart hd ha dq k (hgC_has c) (.inr (.inl e))) (hg_no9 fd1), ?_⟩
        rotate_left 2
        · rcases c with c | c
          · exact h.tb_ne ha (.inr (.inl (by rw [← c]; exact e)))
          · obtain ⟨m, v, _, h1, _⟩ := fq.ev.block e
            rw [c, fq.at_] at h1
            simp at h1
        rotate_left 1
        · exact (hgc.block a.s.p (Array.getElem?_eq_some_iff.1 n1).1 (fun c => h.apart hd ha dq _ (hgC_has c) (.inl rfl))).trans n1
        · show w'.ownsRow 0 9 1 lp (a.s.m - k) ((({ a.s with m := a.s.m - k } : Nd).edge).map Value.string)
          rw [cut_edge a.s k qm kl, ← elen]
          have := own_ch n2 hgc (fun j hj c => by have := row_ge n2 hj; have := hdl j c; omega)
          exact own0 this
        · obtain ⟨nk2, kd2, b1, b2, b3⟩ := fq.kv
          refine ⟨nk2, kd2, by omega, b2.keep (fun b e => hev b (.inr (.inr e)) (mp b (b2.block e))), fun z v hz => (b3 z v hz).trans ?_⟩
          have pq := pa a ha z
          rw [cutm_at] at pq
          have nq : ∀ e0, AtK (T.map Fn.s) a.s z e0 → e0.A ≠ a.s.A := fun e0 h0 c => by
            have := h0.2.1.lt (h.inv.le e0 h0.1).1
            rw [c] at this
            omega
          constructor
          · rintro ⟨f, hf, ev⟩
            exact ⟨f, (pq f).2 ⟨f, hf, by rw [if_neg (nq f hf)]⟩, ev⟩
          · rintro ⟨f, hf, ev⟩
            obtain ⟨e0, h0, e1⟩ := (pq f).1 hf
            rw [if_neg (nq e0 h0)] at e1
            rw [e1] at ev
            exact ⟨e0, h0, ev⟩
      · have aA : a.s.A ≠ q.s.A := fun c => aq (h.same ha hq c)
        rw [upt_ne aA]
        by_cases ad : a = d
        · rw [ad]
          exact f1'
        · refine (k1 a ha aq).keep hgc (fun j c1 c2 => h.apart ha hd ad j c1 (hgC_has c2)) (hg_no9 fd1) (by omega) (fun z f => ?_)
          have pq := pa a ha z f
          rw [cutm_ne aA] at pq
          rw [pq]
          have nq : ∀ e0, AtK (T.map Fn.s) a.s z e0 → e0.A ≠ q.s.A := fun e0 h0 c => by
            obtain rfl := h.inv.same h0.1 hqs c
            exact ad (h.same ha hd (h0.2.1.2.2.symm.trans hk.2.1.2.2))
          constructor
          · intro hf
            exact ⟨f, hf, by rw [if_neg (nq f hf)]⟩
          · rintro ⟨e0, h0, e1⟩
            rw [if_neg (nq e0 h0)] at e1
            rw [e1]
            exact h0
  · rw [List.pairwise_cons]
    refine ⟨fun f hf j c1 c2 => ?_, ?_⟩
    · obtain ⟨a, ha, rfl⟩ := List.mem_map.1 hf
      have := (h.nd a ha).lt (upt_has.1 c2)
      rcases c1 with c | c | c
      · have : j = u := c
        omega
      · cases c
      · cases c
        omega
    · rw [List.pairwise_map]
      exact h.dis.imp (fun {a b} c j c1 c2 => c j (upt_has.1 c1) (upt_has.1 c2))
  · intro f hf
    rcases List.mem_cons.1 hf with rfl | hf
    · refine ⟨fun t ht => (h.ok q hq).1 t (List.mem_of_mem_take ht), ?_⟩
      have := (h.ok q hq).2
      show (q.s.A.take (q.s.top + k)).length ≤ _
      rw [List.length_take]
      omega
    · obtain ⟨a, ha, rfl⟩ := List.mem_map.1 hf
      rw [upt_s, cutm_A]
      exact h.ok a ha
end
end Go.Proofs.YtipagdhoeocjeaaGreat.Li
