import Derived.Test.YtepjcfhbbcaldaaGreatKzb
import Derived.Sort.KeysCollected
import Derived.Test.YtepjcfhbbcaldaaGreatCg
namespace Go.Proofs.YtepjcfhbbcaldaaGreat.Li
open Go Go.RowKit Go.Maps
set_option linter.unusedSimpArgs false
set_option linter.unusedVariables false
/-- The keys of a map, as a list. -/
theorem MG.keys {w : World} {mv : Value} {n : Nat} {f : ByteArray → Option Value} (h : MG w mv n f) : ∃ K : List ByteArray, K.Nodup ∧ K.length = n ∧ ∀ y, y ∈ K ↔ (okT y ∧ (f y).isSome = true) := by
  rcases h with ⟨rfl, rfl, h2⟩ | ⟨mb, D, rfl, hown, hsz, hD⟩
  · exact ⟨[], List.nodup_nil, rfl, fun y => ⟨fun c => (by cases c), fun c => by have c2 := c.2; rw [h2 y c.1] at c2; cases c2⟩⟩
  · obtain ⟨es, hD0, hpw, _⟩ := hown.entries law9
    obtain ⟨es', hD', hko⟩ := hown.keysOf
    obtain rfl : es = es' := by rw [hD0] at hD'; simpa using hD'
    have hk : ∀ p ∈ es, ∃ x : ByteArray, p.1 = kt x ∧ okT x := fun p hp => by
      obtain ⟨v, hv⟩ := hko p hp
      obtain ⟨x, _, hx, hw⟩ := Go.WideMaps.string_of_keyOf Tryz.underlying9 hv
      exact ⟨x, hx, hw⟩
    have hmem : ∀ x : ByteArray, (∃ p ∈ es, p.1 = kt x ∧ okT x) ↔ (okT x ∧ (f x).isSome = true) := fun x => by
      constructor
      · rintro ⟨p, hp, e, ox⟩
        refine ⟨ox, ?_⟩
        rw [← (hD x ox).1, hD0, has_eq, List.any_eq_true]
        exact ⟨p, hp, by rw [e]; simp [Lit.sameKey, kt]⟩
      · rintro ⟨ox, hs⟩
        rw [← (hD x ox).1, hD0, has_eq, List.any_eq_true] at hs
        obtain ⟨p, hp, hs⟩ := hs
        obtain ⟨a, ha, hw⟩ := hk p hp
        refine ⟨p, hp, ?_, ox⟩
        rw [ha] at hs ⊢
        have hs2 : (a.data.toList == x.data.toList) = true := hs
        unfold kt
        rw [eq_of_beq hs2]
    refine ⟨es.map (fun p => (⟨(strOf p.1).toArray⟩ : ByteArray)), ?_, ?_, fun y => ?_⟩
    · refine List.pairwise_map.2 (hpw.imp_of_mem fun {p q} hp' hq' hne e => hne ?_)
      obtain ⟨a, ha, _⟩ := hk p hp'
      obtain ⟨b, hb, _⟩ := hk q hq'
      rw [ha, hb] at e ⊢
      simp [strOf, kt] at e
      rw [show a = b by cases a; cases b; simpa using e]
    · rw [List.length_map, ← hsz, hD0]
      simp [Maps.size]
    · rw [← hmem y, List.mem_map]
      constructor
      · rintro ⟨p, hp, rfl⟩
        obtain ⟨a, ha, ok⟩ := hk p hp
        rw [ha]
        have : (⟨(strOf (kt a)).toArray⟩ : ByteArray) = a := by cases a; simp [strOf, kt]
        rw [this]
        exact ⟨p, hp, ha, ok⟩
      · rintro ⟨p, hp, e, _⟩
        refine ⟨p, hp, ?_⟩
        rw [e]
        cases y
        simp [strOf, kt]
theorem nodup_le {α : Type} [DecidableEq α] : ∀ (l k : List α), l.Nodup → (∀ x ∈ l, x ∈ k) → l.length ≤ k.length
  | [], _, _, _ => Nat.zero_le _
  | a :: l, k, hn, hs => by
    have ha := hs a List.mem_cons_self
    have := nodup_le l (k.erase a) (List.nodup_cons.1 hn).2 (fun x hx => (List.mem_erase_of_ne (fun e => (List.nodup_cons.1 hn).1 (by rw [← e]; exact hx))).2 (hs x (List.mem_cons_of_mem _ hx)))
    rw [List.length_erase_of_mem ha] at this
    have := List.length_pos_of_mem ha
    simp
    omega
theorem MG.few {w : World} {mv : Value} {n : Nat} {f : ByteArray → Option Value} (h : MG w mv n f) {K : List ByteArray} (hK : ∀ y, okT y → (f y).isSome = true → y ∈ K) : n ≤ K.length := by
  obtain ⟨L, l1, l2, l3⟩ := h.keys
  rw [← l2]
  exact nodup_le L K l1 (fun x hx => hK x ((l3 x).1 hx).1 ((l3 x).1 hx).2)
theorem MG.some_ {w : World} {mv : Value} {n : Nat} {f : ByteArray → Option Value} (h : MG w mv n f) (hn : 0 < n) : ∃ y, okT y ∧ (f y).isSome = true := by
  obtain ⟨L, l1, l2, l3⟩ := h.keys
  cases L with
  | nil => simp at l2; omega
  | cons a l => exact ⟨a, (l3 a).1 List.mem_cons_self⟩
variable {w : World} {tb m r P : Nat} {nf nn : Int} {T : List Fn}
/-- Every node leads on to one that has entries. -/
theorem leads (ok : ∀ f ∈ T, f.s.A.length ≤ 65536) (frm : ∀ f ∈ T, f.s.A = [] ∨ 0 < f.ne ∨ Fork T f.s.A) : ∀ (n : Nat) (f : Fn), f ∈ T → 65537 ≤ f.s.A.length + n → f.s.A ≠ [] → ∃ g ∈ T, f.s.A <+: g.s.A ∧ 0 < g.ne
  | 0, f, hf, hn, _ => by have := ok f hf; omega
  | n + 1, f, hf, hn, h0 => by
    rcases frm f hf with c | c | ⟨x, y, a, b, ne, ha, hb, pa, pb⟩
    · exact absurd c h0
    · exact ⟨f, hf, List.prefix_refl _, c⟩
    · have la := pa.length_le
      simp at la
      obtain ⟨g, hg, pg, hne⟩ := leads ok frm n a ha (by omega) (fun c => by rw [c] at la; simp at la)
      exact ⟨g, hg, ((List.prefix_append _ _).trans pa).trans pg, hne⟩
theorem TS.leads (h : TS w tb m r P nf T) {f : Fn} (hf : f ∈ T) (h0 : f.s.A ≠ []) : ∃ g ∈ T, f.s.A <+: g.s.A ∧ ∃ y z, okT y ∧ g.en y = some z := by
  obtain ⟨g, hg, p, ne⟩ := Li.leads (fun f hf => (h.tm.ok f hf).2) h.frm 65537 f hf (by omega) h0
  obtain ⟨y, oy, s⟩ := (h.tm.nd g hg).ev.some_ ne
  cases e : g.en y with
  | none => rw [e] at s; cases s
  | some z => exact ⟨g, hg, p, y, z, oy, e⟩
end Go.Proofs.YtepjcfhbbcaldaaGreat.Li
namespace Go.Proofs.YtepjcfhbbcaldaaGreat.Li
open Go Go.RowKit
set_option linter.unusedSimpArgs false
set_option linter.unusedVariables false
def hsh : ByteArray := ⟨#[35]⟩
def pls : ByteArray := ⟨#[43]⟩
theorem un_hsh {x : ByteArray} : unB x = [35] ↔ x = hsh := ⟨fun h => un_inj h, fun h => by rw [h]; rfl⟩
theorem un_pls {x : ByteArray} : unB x = [43] ↔ x = pls := ⟨fun h => un_inj h, fun h => by rw [h]; rfl⟩
/-- An edge's levels against what is left of a topic. -/
def wk : List ByteArray → List ByteArray → Option (List ByteArray)
  | [], L => some L
  | x :: xs, L => if unB x = [35] then some [] else match L with
    | [] => none
    | y :: ys => if unB x ≠ [43] ∧ unB x ≠ unB y then none else wk xs ys
def wkm (rest : List ByteArray) : Option (List ByteArray) → Bool
  | none => false
  | some M => mt (rest.map unB) (M.map unB)
theorem wk_mt : ∀ (e L rest : List ByteArray), (∀ i x, e[i]? = some x → unB x = [35] → i + 1 = e.length ∧ rest = []) → mt ((e ++ rest).map unB) (L.map unB) = wkm rest (wk e L)
  | [], L, rest, _ => rfl
  | x :: xs, L, rest, h => by
    rw [List.cons_append, List.map_cons]
    unfold mt wk
    by_cases c : unB x = [35]
    · rw [if_pos c, if_pos c]
      have := h 0 x rfl c
      rw [this.2]
      rfl
    · rw [if_neg c, if_neg c]
      cases L with
      | nil => rfl
      | cons y ys =>
        simp only [List.map_cons]
        by_cases d : unB x ≠ [43] ∧ unB x ≠ unB y
        · rw [if_pos d, if_pos d]
          rfl
        · rw [if_neg d, if_neg d]
          exact wk_mt xs ys rest (fun i z hz hu => by
            have := h (i + 1) z (by simpa using hz) hu
            simp at this
            exact ⟨by omega, this.2⟩)
theorem mt_head {x : ByteArray} {rs M : List ByteArray} (h : mt ((x :: rs).map unB) (M.map unB) = true) : x = hsh ∨ ∃ t ts, M = t :: ts ∧ (x = pls ∨ x = t) := by
  rw [List.map_cons] at h
  unfold mt at h
  by_cases c : unB x = [35]
  · exact .inl (un_hsh.1 c)
  · rw [if_neg c] at h
    cases M with
    | nil => cases h
    | cons t ts =>
      simp only [List.map_cons] at h
      by_cases d : unB x ≠ [43] ∧ unB x ≠ unB t
      · rw [if_pos d] at h; cases h
      · refine .inr ⟨t, ts, rfl, ?_⟩
        by_cases e : unB x = [43]
        · exact .inl (un_pls.1 e)
        · exact .inr (un_inj (Classical.byContradiction fun q => d ⟨e, q⟩))
def HashLast (T : List Fn) : Prop := ∀ f ∈ T, ∀ i x, f.s.A[i]? = some x → unB x = [35] → i + 1 = f.s.A.length
/-- What is at the filters, from a node's edge on, that match what is left. -/
def Sel (T : List Fn) (f : Fn) (L : List ByteArray) (y : ByteArray) (z : Int) : Prop := ∃ g ∈ T, f.s.A <+: g.s.A ∧ mt ((g.s.A.drop f.s.top).map unB) (L.map unB) = true ∧ g.en y = some z
/-- The same by the edge that begins with a level. -/
def SelK (T : List Fn) (f : Fn) (x : ByteArray) (L : List ByteArray) (y : ByteArray) (z : Int) : Prop := ∃ q ∈ T, AtK (T.map Fn.s) f.s x q.s ∧ Sel T q L y z
variable {w : World} {tb m r P : Nat} {nf nn : Int} {T : List Fn}
theorem drop_rest {f g : Fn} (p : f.s.A <+: g.s.A) : ∃ rest, g.s.A = f.s.A ++ rest ∧ g.s.A.drop f.s.top = f.s.edge ++ rest := by
  obtain ⟨rest, e⟩ := p
  refine ⟨rest, e.symm, ?_⟩
  rw [← e]
  unfold Nd.edge
  rw [List.drop_append_of_le_length (by unfold Nd.top; omega)]
theorem edge_get (d : Nd) (i : Nat) : d.edge[i]? = d.A[d.top + i]? := by unfold Nd.edge; rw [List.getElem?_drop]
theorem sel_edge (hl : HashLast T) {f g : Fn} (hf : f ∈ T) (hg : g ∈ T) {rest : List ByteArray} (e : g.s.A = f.s.A ++ rest) (L : List ByteArray) : mt ((f.s.edge ++ rest).map unB) (L.map unB) = wkm rest (wk f.s.edge L) := by
  refine wk_mt _ L rest (fun i x hi hx => ?_)
  rw [edge_get] at hi
  have h1 := hl f hf _ x hi hx
  have lt : f.s.top + i < f.s.A.length := by
    have := (List.getElem?_eq_some_iff.1 hi).1
    exact this
  have h2 := hl g hg (f.s.top + i) x (by rw [e, List.getElem?_append_left lt]; exact hi) hx
  have le : f.s.edge.length = f.s.A.length - f.s.top := by unfold Nd.edge; rw [List.length_drop]
  refine ⟨by omega, List.length_eq_zero_iff.1 ?_⟩
  rw [e, List.length_append] at h2
  omega
theorem sel_none (hl : HashLast T) {f : Fn} (hf : f ∈ T) {L : List ByteArray} (h : wk f.s.edge L = none) (y : ByteArray) (z : Int) : ¬ Sel T f L y z := by
  rintro ⟨g, hg, p, hm, _⟩
  obtain ⟨rest, e1, e2⟩ := drop_rest p
  rw [e2, sel_edge hl hf hg e1, h] at hm
  cases hm
theorem atk_rest (ht : TM w tb m r nf nn T) {f g : Fn} (hf : f ∈ T) (hg : g ∈ T) {x : ByteArray} {rs : List ByteArray} (e : g.s.A = f.s.A ++ x :: rs) : ∃ q ∈ T, AtK (T.map Fn.s) f.s x q.s ∧ q.s.A <+: g.s.A := by
  obtain ⟨e0, he0, hk, hp⟩ := ht.inv.way g.s.A.length g.s (List.mem_map_of_mem hg) (Nat.le_refl _) f.s (List.mem_map_of_mem hf) ⟨_, e.symm⟩ (by rw [e]; simp)
  obtain ⟨q, hq, rfl⟩ := List.mem_map.1 he0
  refine ⟨q, hq, ⟨he0, hk, ?_⟩, hp⟩
  have hlt := hk.lt (ht.inv.le q.s he0).1
  obtain ⟨t, et⟩ := hp
  have : g.s.A[f.s.A.length]? = some x := by rw [e, List.getElem?_append_right (Nat.le_refl _)]; simp
  rw [← et, List.getElem?_append_left hlt] at this
  rw [hk.2.1]
  exact this
theorem selK_of (ht : TM w tb m r nf nn T) {f g : Fn} (hf : f ∈ T) (hg : g ∈ T) {x : ByteArray} {rs M : List ByteArray} (e : g.s.A = f.s.A ++ x :: rs) (hm : mt ((x :: rs).map unB) (M.map unB) = true) {y : ByteArray} {z : Int} (hz : g.en y = some z) : SelK T f x M y z := by
  obtain ⟨q, hq, hk, hp⟩ := atk_rest ht hf hg e
  refine ⟨q, hq, hk, g, hg, hp, ?_, hz⟩
  rw [hk.2.1.2.1, e, List.drop_left]
  exact hm
theorem selK_to {f : Fn} {x : ByteArray} {M : List ByteArray} {y : ByteArray} {z : Int} (h : SelK T f x M y z) : ∃ g ∈ T, ∃ rest, g.s.A = f.s.A ++ rest ∧ mt (rest.map unB) (M.map unB) = true ∧ g.en y = some z := by
  obtain ⟨q, hq, hk, g, hg, hp, hm, hz⟩ := h
  obtain ⟨rest, er⟩ := hk.2.1.goes.trans hp
  refine ⟨g, hg, rest, er.symm, ?_, hz⟩
  rw [hk.2.1.2.1, ← er, List.drop_left] at hm
  exact hm
theorem sel_some (ht : TM w tb m r nf nn T) (hl : HashLast T) {f : Fn} (hf : f ∈ T) {L M : List ByteArray} (h : wk f.s.edge L = some M) (y : ByteArray) (z : Int) :
    Sel T f L y z ↔ (M = [] ∧ f.en y = some z) ∨ SelK T f hsh M y z ∨ ∃ t ts, M = t :: ts ∧ (SelK T f pls M y z ∨ SelK T f t M y z) := by
  have on : ∀ g ∈ T, ∀ rest, g.s.A = f.s.A ++ rest → mt (rest.map unB) (M.map unB) = true → ∀ {y z}, g.en y = some z → Sel T f L y z := fun g hg rest e hm y z hz => by
    refine ⟨g, hg, ⟨rest, e.symm⟩, ?_, hz⟩
    obtain ⟨rest', e1, e2⟩ := drop_rest (f := f) (g := g) ⟨rest, e.symm⟩
    rw [e2, sel_edge hl hf hg e1, h]
    have : rest' = rest := List.append_cancel_left (e1.symm.trans e)
    rw [this]
    exact hm
  constructor
  · rintro ⟨g, hg, p, hm, hz⟩
    obtain ⟨rest, e1, e2⟩ := drop_rest p
    rw [e2, sel_edge hl hf hg e1, h] at hm
    have hm : mt (rest.map unB) (M.map unB) = true := hm
    cases rest with
    | nil =>
      rw [List.append_nil] at e1
      obtain rfl := ht.same hg hf e1
      refine .inl ⟨?_, hz⟩
      have : (M.map unB).isEmpty = true := hm
      simpa using this
    | cons x rs =>
      rcases mt_head hm with rfl | ⟨t, ts, e, rfl | rfl⟩
      · exact .inr (.inl (selK_of ht hf hg e1 hm hz))
      · exact .inr (.inr ⟨t, ts, e, .inl (selK_of ht hf hg e1 hm hz)⟩)
      · exact .inr (.inr ⟨x, ts, e, .inr (selK_of ht hf hg e1 hm hz)⟩)
  · rintro (⟨rfl, hz⟩ | c | ⟨t, ts, e, c | c⟩)
    · exact on f hf [] (by simp) rfl hz
    all_goals
      obtain ⟨g, hg, rest, e1, hm, hz⟩ := selK_to c
      exact on g hg rest e1 hm hz
/-- The greatest of some numbers. -/
def Best (S : Int → Prop) : Option Int → Prop
  | none => ∀ z, ¬ S z
  | some z => S z ∧ ∀ z', S z' → z' ≤ z
theorem Best.congr {S S' : Int → Prop} {o : Option Int} (h : Best S o) (e : ∀ z, S z ↔ S' z) : Best S' o := by
  cases o with
  | none => exact fun z c => h z ((e z).2 c)
  | some z => exact ⟨(e z).1 h.1, fun z' c => h.2 z' ((e z').2 c)⟩
theorem Best.add {S : Int → Prop} {o : Option Int} (h : Best S o) {q : Int} (q0 : 0 ≤ q) (s0 : ∀ z, S z → 0 ≤ z) : Best (fun z => S z ∨ z = q) (some (max (o.getD 0) q)) := by
  cases o with
  | none =>
    refine ⟨.inr ?_, fun z' c => ?_⟩
    · show max 0 q = q
      omega
    · rcases c with c | c
      · exact absurd c (h z')
      · rw [c]; show q ≤ max 0 q; omega
  | some z =>
    show (S (max z q) ∨ max z q = q) ∧ ∀ z', S z' ∨ z' = q → z' ≤ max z q
    refine ⟨?_, fun z' c => ?_⟩
    · by_cases c : z ≤ q
      · right; omega
      · left; rw [show max z q = z by omega]; exact h.1
    · rcases c with c | c
      · have := h.2 z' c; omega
      · omega
theorem Best.uniq {S : Int → Prop} {o o' : Option Int} (h : Best S o) (h' : Best S o') : o = o' := by
  cases o with
  | none =>
    cases o' with
    | none => rfl
    | some z => exact absurd h'.1 (h z)
  | some z =>
    cases o' with
    | none => exact absurd h.1 (h' z)
    | some z' =>
      have := h.2 z' h'.1
      have := h'.2 z h.1
      rw [show z = z' by omega]
end Go.Proofs.YtepjcfhbbcaldaaGreat.Li
