import Derived.Test.YtepjcfhbbcaldaaKp
namespace Go.Proofs.Ytepjcfhbbcaldaa.Li
open Go Go.RowKit
set_option linter.unusedSimpArgs false
set_option linter.unusedVariables false
/-- A node: its shape, its entries and how many, its levels and its maps. -/
structure Fn where
  s : Nd
  en : ByteArray → Option Int
  ne : Nat
  lv : Value
  ev : Value
  kv : Value
/-- The blocks that are a node's own and may change. -/
def Fn.has (f : Fn) (k : Nat) : Prop := k = f.s.p ∨ f.ev = .map (some k) ∨ f.kv = .map (some k)
def FA (a b : Fn) : Prop := ∀ k, a.has k → ¬ b.has k
/-- A node's kids' map. -/
def Kds (S : List Nd) (d : Nd) (kd : ByteArray → Option Value) : Prop := ∀ x v, okT x → (kd x = some v ↔ ∃ e, AtK S d x e ∧ v = ptr e.p)
structure FnM (w : World) (m : Nat) (S : List Nd) (N : Nat) (f : Fn) : Prop where
  at_ : w.heap[f.s.p]? = some (.cells #[ptr m, f.lv, f.ev, f.kv] 62 (0, 0))
  lv : w.ownsRow 0 9 1 f.lv f.s.m (f.s.edge.map Value.string)
  ev : MG w f.ev f.ne (fun k => (f.en k).map (.int .i64))
  e0 : f.ev = .map none ∨ 0 < f.ne
  kv : ∃ nk kd, nk ≤ N ∧ MG w f.kv nk kd ∧ Kds S f.s kd
  nb : ∀ k, f.ev = .map (some k) → f.kv ≠ .map (some k)
structure TM (w : World) (tb m r : Nat) (nf nn : Int) (T : List Fn) : Prop where
  tr : w.heap[tb]? = some (.cells #[ptr r, ptr m, .int .i64 nf, .int .i64 nn] 64 (0, 0))
  inv : Inv (T.map Fn.s)
  rt : ∃ f ∈ T, f.s.A = [] ∧ f.s.p = r
  nd : ∀ f ∈ T, FnM w m (T.map Fn.s) T.length f
  dis : T.Pairwise FA
  ok : ∀ f ∈ T, (∀ t ∈ f.s.A, t.size ≤ 65535) ∧ f.s.A.length ≤ 65536
/-- A block that is no row of texts. -/
def No9 (w : World) (k : Nat) : Prop := ∀ cur, w.heap[k]? ≠ some (.cells cur 9 (0, 0))
theorem no9_cells {w : World} {k t : Nat} {cs : Array Value} {fz : Nat × Nat} (h : w.heap[k]? = some (.cells cs t fz)) (ht : t ≠ 9) : No9 w k := fun cur e => by
  rw [h] at e
  simp at e
  exact ht e.2.1
theorem MG.no9 {w : World} {mv : Value} {n : Nat} {f : ByteArray → Option Value} (h : MG w mv n f) {k : Nat} (hk : mv = .map (some k)) : No9 w k := fun cur e => by
  obtain ⟨es, c, q⟩ := h.block hk
  rw [q] at e
  cases e
theorem FnM.lt {w : World} {m N : Nat} {S : List Nd} {f : Fn} (h : FnM w m S N f) {k : Nat} (hk : f.has k) : k < w.heap.size := by
  rcases hk with rfl | e | e
  · exact (Array.getElem?_eq_some_iff.1 h.at_).1
  · exact h.ev.lt e
  · obtain ⟨nk, kd, _, hm, _⟩ := h.kv
    exact hm.lt e
theorem FnM.no9 {w : World} {m N : Nat} {S : List Nd} {f : Fn} (h : FnM w m S N f) {k : Nat} (hk : f.has k) : No9 w k := by
  rcases hk with rfl | e | e
  · exact no9_cells h.at_ (by decide)
  · exact h.ev.no9 e
  · obtain ⟨nk, kd, _, hm, _⟩ := h.kv
    exact hm.no9 e
/-- A node that nothing of stays. -/
theorem FnM.keep {w w' : World} {m N N' : Nat} {S S' : List Nd} {f : Fn} {C : Nat → Prop} (h : FnM w m S N f) (hc : Ch C w w') (hf : ∀ k, f.has k → ¬ C k) (h9 : ∀ k, C k → No9 w k) (hN : N ≤ N') (hS : ∀ x e, AtK S f.s x e ↔ AtK S' f.s x e) : FnM w' m S' N' f := by
  have blk : ∀ k, f.has k → w'.heap[k]? = w.heap[k]? := fun k hk => hc.block k (h.lt hk) (hf k hk)
  refine ⟨(blk _ (.inl rfl)).trans h.at_, ?_, h.ev.keep (fun b e => blk b (.inr (.inl e))), h.e0, ?_, h.nb⟩
  · refine own_ch h.lv hc (fun g hg c => ?_)
    obtain ⟨cur, e⟩ := own_lt h.lv hg
    exact h9 g c cur e
  · obtain ⟨nk, kd, h1, h2, h3⟩ := h.kv
    refine ⟨nk, kd, Nat.le_trans h1 hN, h2.keep (fun b e => blk b (.inr (.inr e))), fun x v hx => (h3 x v hx).trans ?_⟩
    constructor
    · rintro ⟨e, h4, h5⟩
      exact ⟨e, (hS x e).1 h4, h5⟩
    · rintro ⟨e, h4, h5⟩
      exact ⟨e, (hS x e).2 h4, h5⟩
theorem TM.same {w : World} {tb m r : Nat} {nf nn : Int} {T : List Fn} (h : TM w tb m r nf nn T) {a b : Fn} (ha : a ∈ T) (hb : b ∈ T) (e : a.s.A = b.s.A) : a = b := by
  have hs : a.s = b.s := h.inv.same (List.mem_map_of_mem ha) (List.mem_map_of_mem hb) e
  by_cases q : a = b
  · exact q
  · have : FA a b ∨ FA b a := by
      have hd := h.dis
      clear h
      induction T with
      | nil => cases ha
      | cons x T ih =>
        rw [List.pairwise_cons] at hd
        rcases List.mem_cons.1 ha with rfl | ha'
        · rcases List.mem_cons.1 hb with rfl | hb'
          · exact absurd rfl q
          · exact .inl (hd.1 b hb')
        · rcases List.mem_cons.1 hb with rfl | hb'
          · exact .inr (hd.1 a ha')
          · exact ih ha' hb' hd.2
    rcases this with t | t
    · exact (t a.s.p (.inl rfl) (.inl (by rw [hs]))).elim
    · exact (t b.s.p (.inl rfl) (.inl (by rw [hs]))).elim
theorem TM.apart {w : World} {tb m r : Nat} {nf nn : Int} {T : List Fn} (h : TM w tb m r nf nn T) {a b : Fn} (ha : a ∈ T) (hb : b ∈ T) (q : a ≠ b) : FA a b := by
  have hd := h.dis
  clear h
  have sy : ∀ {a b : Fn}, FA a b → FA b a := fun h k h1 h2 => h k h2 h1
  induction T with
  | nil => cases ha
  | cons x T ih =>
    rw [List.pairwise_cons] at hd
    rcases List.mem_cons.1 ha with rfl | ha'
    · rcases List.mem_cons.1 hb with rfl | hb'
      · exact absurd rfl q
      · exact hd.1 b hb'
    · rcases List.mem_cons.1 hb with rfl | hb'
      · exact sy (hd.1 a ha')
      · exact ih ha' hb' hd.2
/-- A world in which nothing of the trie has changed. -/
theorem TM.keep {w w' : World} {tb m r : Nat} {nf nn : Int} {T : List Fn} {C : Nat → Prop} (h : TM w tb m r nf nn T) (hc : Ch C w w') (ht : ¬ C tb) (hf : ∀ f ∈ T, ∀ k, f.has k → ¬ C k) (h9 : ∀ k, C k → No9 w k) : TM w' tb m r nf nn T :=
  ⟨(hc.block tb (Array.getElem?_eq_some_iff.1 h.tr).1 ht).trans h.tr, h.inv, h.rt, fun f hf' => (h.nd f hf').keep hc (hf f hf') h9 (Nat.le_refl _) (fun _ _ => Iff.rfl), h.dis, h.ok⟩
theorem TM.below {w w' : World} {tb m r : Nat} {nf nn : Int} {T : List Fn} (h : TM w tb m r nf nn T) (hb : Below w.heap.size w w') : TM w' tb m r nf nn T := h.keep (Below.ch (S := fun _ => False) hb) (fun q => q) (fun _ _ _ _ q => q) (fun _ q => q.elim)
/-- A kid, looked up. -/
theorem TM.look {w : World} {tb m r : Nat} {nf nn : Int} {T : List Fn} (h : TM w tb m r nf nn T) {d : Fn} (hd : d ∈ T) {x : ByteArray} (hx : okT x) : ∃ nk kd, nk ≤ T.length ∧ MG w d.kv nk kd ∧ Kds (T.map Fn.s) d.s kd ∧ ((∃ q ∈ T, AtK (T.map Fn.s) d.s x q.s ∧ kd x = some (ptr q.s.p)) ∨ (kd x = none ∧ ∀ e, ¬ AtK (T.map Fn.s) d.s x e)) := by
  obtain ⟨nk, kd, h1, h2, h3⟩ := (h.nd d hd).kv
  refine ⟨nk, kd, h1, h2, h3, ?_⟩
  cases c : kd x with
  | none =>
    refine .inr ⟨rfl, fun e he => ?_⟩
    have := (h3 x (ptr e.p) hx).2 ⟨e, he, rfl⟩
    rw [c] at this
    cases this
  | some v =>
    obtain ⟨e, he, rfl⟩ := (h3 x v hx).1 c
    obtain ⟨q, hq, rfl⟩ := List.mem_map.1 he.1
    exact .inl ⟨q, hq, he, rfl⟩
end Go.Proofs.Ytepjcfhbbcaldaa.Li
namespace Go.Proofs.Ytepjcfhbbcaldaa.Li
open Go Go.RowKit
set_option linter.unusedSimpArgs false
set_option linter.unusedVariables false
def Fn.kvd (f : Fn) (kv : Value) : Fn := { f with kv := kv }
/-- The blocks that hang changes. -/
def hgC (d : Fn) (j : Nat) : Prop := j = d.s.p ∨ d.kv = .map (some j)
theorem hgC_has {d : Fn} {j : Nat} (h : hgC d j) : d.has j := h.elim .inl (fun q => .inr (.inr q))
/-- A node on which another one was hung. -/
theorem FnM.hung {w w' : World} {m N N' nk q : Nat} {S S' : List Nd} {d : Fn} {kd : ByteArray → Option Value} {x : ByteArray} (h : FnM w m S N d) (hm : MG w d.kv nk kd) (g : Hg w w' d.s.p (ptr m) d.lv d.ev d.kv nk kd x q) (hN : szG kd x nk ≤ N') (hK : Kds S' d.s (setG kd x (some (ptr q)))) :
    ∃ kv', FnM w' m S' N' (d.kvd kv') ∧ (kv' = d.kv ∨ d.kv = .map none ∧ kv' = .map (some w.heap.size)) := by
  obtain ⟨⟨mb, g1, g2, g3⟩, hc⟩ := g
  have hc' : Ch (hgC d) w w' := hc
  refine ⟨.map (some mb), ⟨g1, ?_, ?_, h.e0, ⟨_, _, hN, g2, hK⟩, ?_⟩, ?_⟩
  · refine own_ch h.lv hc' (fun j hj c => ?_)
    obtain ⟨cur, e⟩ := own_lt h.lv hj
    exact h.no9 (hgC_has c) cur e
  · refine h.ev.keep (fun b e => hc'.block b (h.ev.lt e) (fun c => ?_))
    rcases c with c | c
    · obtain ⟨es, cl, q⟩ := h.ev.block e
      rw [c, h.at_] at q
      cases q
    · exact h.nb b e c
  · intro k hk e
    have e' : Value.map (some mb) = .map (some k) := e
    have hk' : d.ev = .map (some k) := hk
    rw [← e'] at hk'
    rcases g3 with c | ⟨_, c⟩
    · exact h.nb mb hk' c
    · have := h.ev.lt hk'
      omega
  · rcases g3 with c | ⟨c1, c2⟩
    · exact .inl c.symm
    · exact .inr ⟨c1, by rw [c2]⟩
theorem hg_no9 {w : World} {m N : Nat} {S : List Nd} {d : Fn} (h : FnM w m S N d) : ∀ k, hgC d k → No9 w k := fun k hk => h.no9 (hgC_has hk)
section
variable {w w1 w' : World} {tb m r nk : Nat} {nf nn : Int} {T : List Fn} {d q : Fn} {kd : ByteArray → Option Value} {x : ByteArray}
theorem TM.tb_ne (h : TM w tb m r nf nn T) {f : Fn} (hf : f ∈ T) : ¬ f.has tb := fun c => by
  have ht := h.tr
  rcases c with c | c | c
  · rw [c, (h.nd f hf).at_] at ht
    simp at ht
  · obtain ⟨es, cl, e⟩ := (h.nd f hf).ev.block c
    rw [e] at ht
    cases ht
  · obtain ⟨nk, kd, _, hm, _⟩ := (h.nd f hf).kv
    obtain ⟨es, cl, e⟩ := hm.block c
    rw [e] at ht
    cases ht
/-- A kid is hung again where it hung. -/
theorem TM.rehang (h : TM w tb m r nf nn T) (hd : d ∈ T) (hk : AtK (T.map Fn.s) d.s x q.s) (hx : okT x) (hm : MG w d.kv nk kd) (hnk : nk ≤ T.length) (hK : Kds (T.map Fn.s) d.s kd) (g : Hg w w' d.s.p (ptr m) d.lv d.ev d.kv nk kd x q.s.p) : TM w' tb m r nf nn T := by
  have hkx : kd x = some (ptr q.s.p) := (hK x _ hx).2 ⟨_, hk, rfl⟩
  have hset : ∀ y, setG kd x (some (ptr q.s.p)) y = kd y := fun y => by
    unfold setG
    split
    · rename_i e; rw [e, hkx]
    · rfl
  have fd := h.nd d hd
  have hgc : Ch (hgC d) w w' := g.ch
  obtain ⟨kv', f1, f2⟩ := fd.hung (S' := T.map Fn.s) (N' := T.length) hm g (by unfold szG; rw [hkx]; exact hnk) (fun y v hy => by rw [hset]; exact hK y v hy)
  have hsome : d.kv ≠ .map none := fun e => by
    rcases hm with ⟨_, _, c⟩ | ⟨mb, D, c, _⟩
    · rw [c x hx] at hkx; cases hkx
    · rw [c] at e; cases e
  have ekv : kv' = d.kv := f2.elim id (fun c => (hsome c.1).elim)
  rw [ekv] at f1
  have f1' : FnM w' m (T.map Fn.s) T.length d := f1
  refine ⟨(hgc.block tb (Array.getElem?_eq_some_iff.1 h.tr).1 (fun c => h.tb_ne hd (hgC_has c))).trans h.tr, h.inv, h.rt, fun f hf => ?_, h.dis, h.ok⟩
  by_cases e : f = d
  · rw [e]
    exact f1'
  · exact (h.nd f hf).keep hgc (fun k c1 c2 => h.apart hf hd e k c1 (hgC_has c2)) (hg_no9 fd) (Nat.le_refl _) (fun _ _ => Iff.rfl)
end
end Go.Proofs.Ytepjcfhbbcaldaa.Li
namespace Go.Proofs.Ytepjcfhbbcaldaa.Li
open Go Go.RowKit
set_option linter.unusedSimpArgs false
set_option linter.unusedVariables false
def ukv (A : List ByteArray) (kv : Value) (f : Fn) : Fn := if f.s.A = A then f.kvd kv else f
theorem ukv_s (A : List ByteArray) (kv : Value) (f : Fn) : (ukv A kv f).s = f.s := by unfold ukv; split <;> rfl
theorem ukv_map (A : List ByteArray) (kv : Value) (T : List Fn) : (T.map (ukv A kv)).map Fn.s = T.map Fn.s := by
  rw [List.map_map]
  exact List.map_congr_left (fun f _ => ukv_s A kv f)
theorem ukv_ne {A : List ByteArray} {kv : Value} {f : Fn} (h : f.s.A ≠ A) : ukv A kv f = f := if_neg h
theorem ukv_at {A : List ByteArray} {kv : Value} {f : Fn} (h : f.s.A = A) : ukv A kv f = f.kvd kv := if_pos h
theorem ukv_has {A : List ByteArray} {kv : Value} {f : Fn} {k : Nat} (h : (ukv A kv f).has k) : f.has k ∨ (f.s.A = A ∧ kv = .map (some k)) := by
  by_cases c : f.s.A = A
  · rw [ukv_at c] at h
    rcases h with h | h | h
    · exact .inl (.inl h)
    · exact .inl (.inr (.inl h))
    · exact .inr ⟨c, h⟩
  · rw [ukv_ne c] at h
    exact .inl h
section
variable {w w1 w' : World} {tb m r nk g : Nat} {nf nn : Int} {T : List Fn} {d q : Fn} {kd : ByteArray → Option Value} {x : ByteArray} {rr : List ByteArray}
/-- The nodes stay apart when one gets a new map. -/
theorem TM.dis_kv (h : TM w tb m r nf nn T) (hd : d ∈ T) {kv : Value} {N : Nat} (hN : w.heap.size ≤ N) (hv : kv = d.kv ∨ kv = .map (some N)) : (T.map (ukv d.s.A kv)).Pairwise FA := by
  rw [List.pairwise_map]
  refine h.dis.imp_of_mem (fun {a b} ha hb c => ?_)
  have one : ∀ f ∈ T, ∀ k, (ukv d.s.A kv f).has k → f.has k ∨ (f = d ∧ k = N) := fun f hf k hk => by
    rcases ukv_has hk with e | ⟨e1, e2⟩
    · exact .inl e
    · obtain rfl := h.same hf hd e1
      rcases hv with v | v
      · exact .inl (.inr (.inr (by rw [← v]; exact e2)))
      · rw [v] at e2
        cases e2
        exact .inr ⟨rfl, rfl⟩
  intro k hka hkb
  rcases one a ha k hka with e1 | ⟨e1, e2⟩ <;> rcases one b hb k hkb with e3 | ⟨e3, e4⟩
  · exact c k e1 e3
  · have := (h.nd a ha).lt e1
    omega
  · have := (h.nd b hb).lt e3
    omega
  · rw [e1, e3] at c
    exact c d.s.p (.inl rfl) (.inl rfl)
def leafN (g : Nat) (A : List ByteArray) (x : ByteArray) (rr : List ByteArray) (lv : Value) : Fn := ⟨⟨g, A ++ x :: rr, rr.length + 1⟩, fun _ => none, 0, lv, .map none, .map none⟩
theorem leafN_edge (g : Nat) (A : List ByteArray) (x : ByteArray) (rr : List ByteArray) (lv : Value) : (leafN g A x rr lv).s.edge = x :: rr := by
  unfold leafN Nd.edge Nd.top
  simp
/-- A leaf is made and hung. -/
theorem TM.leafed (h : TM w tb m r nf nn T) (hd : d ∈ T) (hx : okT x) (no : ∀ e, ¬ AtK (T.map Fn.s) d.s x e) (hm : MG w d.kv nk kd) (hnk : nk ≤ T.length) (hK : Kds (T.map Fn.s) d.s kd) (lf : Lf w w1 tb g (ptr r) (ptr m) nf nn (x :: rr)) (gh : Hg w1 w' d.s.p (ptr m) d.lv d.ev d.kv nk kd x g) (okL : ∀ t ∈ x :: rr, t.size ≤ 65535) (okl : d.s.A.length + (rr.length + 1) ≤ 65536) :
    ∃ kv lv, (kv = d.kv ∨ kv = .map (some w1.heap.size)) ∧ TM w' tb m r nf (nn + 1) (leafN g d.s.A x rr lv :: T.map (ukv d.s.A kv)) := by
  obtain ⟨lv, l1, l2⟩ := lf.nd
  have fd := h.nd d hd
  have ht9 : ∀ k, k = tb → No9 w k := fun k e => by rw [e]; exact no9_cells h.tr (by decide)
  have k1 : ∀ f ∈ T, FnM w1 m (T.map Fn.s) T.length f := fun f hf => (h.nd f hf).keep lf.ch (fun k c e => h.tb_ne hf (by rw [← e]; exact c)) ht9 (Nat.le_refl _) (fun _ _ => Iff.rfl)
  have fd1 := k1 d hd
  have hm1 : MG w1 d.kv nk kd := hm.keep (fun b e => lf.ch.block b (hm.lt e) (fun c => h.tb_ne hd (.inr (.inr (by rw [← c]; exact e)))))
  have hg1 : g < w1.heap.size := (Array.getElem?_eq_some_iff.1 l1).1
  have hgc : Ch (hgC d) w1 w' := gh.ch
  have SE : ∀ kv, (leafN g d.s.A x rr lv :: T.map (ukv d.s.A kv)).map Fn.s = ⟨g, d.s.A ++ x :: rr, rr.length + 1⟩ :: T.map Fn.s := fun kv => by
    rw [List.map_cons, ukv_map]
    rfl
  have LE : ∀ kv, (leafN g d.s.A x rr lv :: T.map (ukv d.s.A kv)).length = T.length + 1 := fun kv => by simp
  have la := fun (a : Fn) (ha : a ∈ T) => h.inv.leaf_atk (x := x) (r := rr) (List.mem_map_of_mem hd) g (List.mem_map_of_mem (f := Fn.s) ha)
  have hKd : Kds (⟨g, d.s.A ++ x :: rr, rr.length + 1⟩ :: T.map Fn.s) d.s (setG kd x (some (ptr g))) := fun y v hy => by
    by_cases e : y = x
    · subst e
      unfold setG
      rw [if_pos rfl]
      constructor
      · intro c
        cases c
        exact ⟨_, (la d hd y _).2 (.inr ⟨rfl, rfl, rfl⟩), rfl⟩
      · rintro ⟨e, he, rfl⟩
        rcases (la d hd y e).1 he with c | ⟨c, _, _⟩
        · exact (no e c).elim
        · rw [c]
    · unfold setG
      rw [if_neg e, hK y v hy]
      constructor
      · rintro ⟨f, hf, ev⟩
        exact ⟨f, (la d hd y f).2 (.inl hf), ev⟩
      · rintro ⟨f, hf, ev⟩
        rcases (la d hd y f).1 hf with c | ⟨_, _, c⟩
        · exact ⟨f, c, ev⟩
        · exact (e c).elim
  obtain ⟨kv, f1, f2⟩ := fd1.hung (N' := T.length + 1) hm1 gh (by unfold szG; split <;> omega) hKd
  have f2' : kv = d.kv ∨ kv = .map (some w1.heap.size) := f2.imp id (fun c => c.2)
  have hdl : ∀ k, hgC d k → k < w.heap.size := fun k c => fd.lt (hgC_has c)
  have hge := lf.ge
  refine ⟨kv, lv, f2', ?_, ?_, ?_, ?_, ?_, ?_⟩
  · exact (hgc.block tb (Array.getElem?_eq_some_iff.1 lf.tr).1 (fun c => h.tb_ne hd (hgC_has c))).trans lf.tr
  · rw [SE]
    exact h.inv.leaf (List.mem_map_of_mem hd) no g
  · obtain ⟨f, hf, e1, e2⟩ := h.rt
    exact ⟨_, List.mem_cons_of_mem _ (List.mem_map_of_mem hf), by rw [ukv_s]; exact e1, by rw [ukv_s]; exact e2⟩
  · rw [SE, LE]
    intro f hf
    rcases List.mem_cons.1 hf with rfl | hf
    · refine ⟨?_, ?_, .inl ⟨rfl, rfl, fun _ _ => rfl⟩, .inl rfl, ⟨0, fun _ => none, Nat.zero_le _, .inl ⟨rfl, rfl, fun _ _ => rfl⟩, fun y v hy => ?_⟩, fun k c => by cases c⟩
      · exact (hgc.block g hg1 (fun c => by have := hdl g c; omega)).trans l1
      · rw [leafN_edge]
        have := own_ch l2 hgc (fun j hj c => by have := row_ge l2 hj; have := hdl j c; omega)
        exact own0 this
      · constructor
        · intro c; cases c
        · rintro ⟨e, he, _⟩
          exact (h.inv.leaf_none (List.mem_map_of_mem hd) no g y e he).elim
    · obtain ⟨a, ha, rfl⟩ := List.mem_map.1 hf
      by_cases e : a.s.A = d.s.A
      · obtain rfl := h.same ha hd e
        rw [ukv_at rfl]
        exact f1
      · rw [ukv_ne e]
        have ad : a ≠ d := fun c => e (by rw [c])
        refine (k1 a ha).keep hgc (fun k c1 c2 => h.apart ha hd ad k c1 (hgC_has c2)) (hg_no9 fd1) (by omega) (fun y f => ?_)
        rw [la a ha y f]
        constructor
        · exact .inl
        · rintro (c | ⟨_, c, _⟩)
          · exact c
          · exact (e c).elim
  · rw [List.pairwise_cons]
    refine ⟨fun f hf k c1 c2 => ?_, h.dis_kv hd lf.ch.size f2'⟩
    obtain ⟨a, ha, rfl⟩ := List.mem_map.1 hf
    have kg : k = g := by
      rcases c1 with c | c | c
      · exact c
      · cases c
      · cases c
    rcases ukv_has c2 with c | ⟨c, c'⟩
    · have := (h.nd a ha).lt c
      omega
    · rcases f2' with v | v
      · have := hdl k (.inr (by rw [← v]; exact c'))
        omega
      · rw [v] at c'
        cases c'
        omega
  · intro f hf
    rcases List.mem_cons.1 hf with rfl | hf
    · refine ⟨fun t ht => ?_, ?_⟩
      · rcases List.mem_append.1 (show t ∈ d.s.A ++ x :: rr from ht) with c | c
        · exact (h.ok d hd).1 t c
        · exact okL t c
      · show (d.s.A ++ x :: rr).length ≤ _
        simp
        omega
    · obtain ⟨a, ha, rfl⟩ := List.mem_map.1 hf
      rw [ukv_s]
      exact h.ok a ha
end
end Go.Proofs.Ytepjcfhbbcaldaa.Li
namespace Go.Proofs.Ytepjcfhbbcaldaa.Li
open Go Go.RowKit
set_option linter.unusedSimpArgs false
set_option linter.unusedVariables false
def upt (A : List ByteArray) (k : Nat) (lp : Value) (f : Fn) : Fn := if f.s.A = A then { f with s := { f.s with m := f.s.m - k }, lv := lp } else f
theorem upt_s (A : List ByteArray) (k : Nat) (lp : Value) (f : Fn) : (upt A k lp f).s = cutm A k f.s := by unfold upt cutm; split <;> rfl
theorem upt_map (A : List ByteArray) (k : Nat) (lp : Value) (T : List Fn) : (T.map (upt A k lp)).map Fn.s = (T.map Fn.s).map (cutm A k) := by
  rw [List.map_map, List.map_map]
  exact List.map_congr_left (fun f _ => upt_s A k lp f)
theorem upt_ne {A : List ByteArray} {k : Nat} {lp : Value} {f : Fn} (h : f.s.A ≠ A) : upt A k lp f = f := if_neg h
theorem upt_at {k : Nat} {lp : Value} (f : Fn) : upt f.s.A k lp f = { f with s := { f.s with m := f.s.m - k }, lv := lp } := if_pos rfl
theorem upt_has {A : List ByteArray} {k j : Nat} {lp : Value} {f : Fn} : (upt A k lp f).has j ↔ f.has j := by
  by_cases c : f.s.A = A
  · subst c
    rw [upt_at]
    exact Iff.rfl
  · rw [upt_ne c]
def uprN (u : Nat) (q : Nd) (k : Nat) (lu kv : Value) : Fn := ⟨upr u q k, fun _ => none, 0, lu, .map none, kv⟩
theorem upr_edge (u : Nat) (q : Nd) (k : Nat) (hq : q.m ≤ q.A.length) (hk : k < q.m) : (upr u q k).edge = q.edge.take k := by
  unfold Nd.edge
  rw [(upr_len u hq hk).2]
  show (q.A.take (q.top + k)).drop q.top = _
  rw [List.drop_take]
  congr 1
  omega
theorem cut_edge (q : Nd) (k : Nat) (hq : q.m ≤ q.A.length) (hk : k < q.m) : ({ q with m := q.m - k } : Nd).edge = q.edge.drop k := by
  unfold Nd.edge
  rw [cut_top hq hk]
  show q.A.drop (q.top + k) = _
  rw [List.drop_drop]
theorem edge_len (q : Nd) (hq : q.m ≤ q.A.length) : q.edge.length = q.m := by
  unfold Nd.edge
  rw [List.length_drop]
  have := len_take q hq
  omega
theorem edge_at (q : Nd) (k : Nat) : q.edge[k]? = q.A[q.top + k]? := by
  unfold Nd.edge
  rw [List.getElem?_drop]
section
variable {w w1 w' : World} {tb m r nk u k : Nat} {nf nn : Int} {T : List Fn} {d q : Fn} {kd : ByteArray → Option Value} {x y : ByteArray}
/-- An edge is parted, and the upper node hung in its place. -/
theorem TM.parted (h : TM w tb m r nf nn T) (hd : d ∈ T) (hq : q ∈ T) (hk : AtK (T.map Fn.s) d.s x q.s) (hx : okT x) (hm : MG w d.kv nk kd) (hnk : nk ≤ T.length) (hK : Kds (T.map Fn.s) d.s kd) (k0 : 0 < k) (kl : k < q.s.m) (hy : q.s.edge[k]? = some y) (pr : Pr w w1 tb q.s.p m u k (ptr r) q.ev q.kv nf nn q.s.edge y) (gh : Hg w1 w' d.s.p (ptr m) d.lv d.ev d.kv nk kd x u) :
    ∃ lp lu mb, w.heap.size ≤ mb ∧ TM w' tb m r nf (nn + 1) (uprN u q.s k lu (.map (some mb)) :: T.map (upt q.s.A k lp)) := by
  obtain ⟨lp, n1, n2⟩ := pr.nd
  obtain ⟨lu, mb, u1, u2, u3, u4⟩ := pr.up
  have fd := h.nd d hd
  have fq := h.nd q hq
  have hds : d.s ∈ T.map Fn.s := List.mem_map_of_mem hd
  have hqs : q.s ∈ T.map Fn.s := List.mem_map_of_mem hq
  have qm := (h.inv.le q.s hqs).1
  have hdq : d.s.A ≠ q.s.A := fun e => by have := hk.2.1.lt qm; rw [e] at this; omega
  have dq : d ≠ q := fun e => hdq (by rw [e])
  have elen := edge_len q.s qm
  have C9 : ∀ j, (j = tb ∨ j = q.s.p) → No9 w j := fun j e => by
    rcases e with e | e
    · rw [e]; exact no9_cells h.tr (by decide)
    · rw [e]; exact no9_cells fq.at_ (by decide)
  have k1 : ∀ f ∈ T, f ≠ q → FnM w1 m (T.map Fn.s) T.length f := fun f hf fn => (h.nd f hf).keep pr.ch (fun j c e => by
    rcases e with e | e
    · exact h.tb_ne hf (by rw [← e]; exact c)
    · exact h.apart hf hq fn j c (.inl e)) C9 (Nat.le_refl _) (fun _ _ => Iff.rfl)
  have fd1 := k1 d hd dq
  have hm1 : MG w1 d.kv nk kd := hm.keep (fun b e => pr.ch.block b (hm.lt e) (fun c => by
    rcases c with c | c
    · exact h.tb_ne hd (.inr (.inr (by rw [← c]; exact e)))
    · exact h.apart hd hq dq b (.inr (.inr e)) (.inl c)))
  have hgc : Ch (hgC d) w1 w' := gh.ch
  have hdl : ∀ j, hgC d j → j < w.heap.size := fun j c => fd.lt (hgC_has c)
  have hge := pr.ge
  have SE : ∀ kv, (uprN u q.s k lu kv :: T.map (upt q.s.A k lp)).map Fn.s = upr u q.s k :: (T.map Fn.s).map (cutm q.s.A k) := fun kv => by
    rw [List.map_cons, upt_map]
    rfl
  have LE : ∀ kv, (uprN u q.s k lu kv :: T.map (upt q.s.A k lp)).length = T.length + 1 := fun kv => by simp
  have pa := fun (a : Fn) (ha : a ∈ T) => h.inv.part_atk hds hqs hk.2.1 k0 kl u (List.mem_map_of_mem (f := Fn.s) ha)
  have pd := pa d hd
  rw [cutm_ne hdq] at pd
  have hKd : Kds (upr u q.s k :: (T.map Fn.s).map (cutm q.s.A k)) d.s (setG kd x (some (ptr u))) := fun z v hz => by
    by_cases e : z = x
    · subst e
      unfold setG
      rw [if_pos rfl]
      constructor
      · intro c
        cases c
        exact ⟨_, (pd z _).2 ⟨q.s, hk, rfl⟩, by rw [if_pos rfl]; rfl⟩
      · rintro ⟨e, he, rfl⟩
        obtain ⟨e0, h0, rfl⟩ := (pd z e).1 he
        obtain rfl := h.inv.atk h0 hk
        rw [if_pos rfl]
        rfl
    · unfold setG
      rw [if_neg e, hK z v hz]
      have nq : ∀ e0, AtK (T.map Fn.s) d.s z e0 → e0.A ≠ q.s.A := fun e0 h0 c => by
        obtain rfl := h.inv.same h0.1 hqs c
        have := h0.2.2.symm.trans hk.2.2
        cases this
        exact e rfl
      constructor
      · rintro ⟨f, hf, ev⟩
        exact ⟨f, (pd z f).2 ⟨f, hf, by rw [if_neg (nq f hf)]⟩, ev⟩
      · rintro ⟨f, hf, ev⟩
        obtain ⟨e0, h0, e1⟩ := (pd z f).1 hf
        rw [if_neg (nq e0 h0)] at e1
        rw [e1] at ev
        exact ⟨e0, h0, ev⟩
  obtain ⟨kv, f1, f2⟩ := fd1.hung (N' := T.length + 1) hm1 gh (by unfold szG; split <;> omega) hKd
  have hkx : kd x = some (ptr q.s.p) := (hK x _ hx).2 ⟨_, hk, rfl⟩
  have hsome : d.kv ≠ .map none := fun e => by
    rcases hm with ⟨_, _, c⟩ | ⟨mb, D, c, _⟩
    · rw [c x hx] at hkx; cases hkx
    · rw [c] at e; cases e
  have ekv : kv = d.kv := f2.elim id (fun c => (hsome c.1).elim)
  rw [ekv] at f1
  have f1' : FnM w' m (upr u q.s k :: (T.map Fn.s).map (cutm q.s.A k)) (T.length + 1) d := f1
  have hul : u < w1.heap.size := (Array.getElem?_eq_some_iff.1 u1).1
  refine ⟨lp, lu, mb, u4, ?_, ?_, ?_, ?_, ?_, ?_⟩
  · exact (hgc.block tb (Array.getElem?_eq_some_iff.1 pr.tr).1 (fun c => h.tb_ne hd (hgC_has c))).trans pr.tr
  · rw [SE]
    exact h.inv.part hds hqs hk.2.1 k0 kl u
  · obtain ⟨f, hf, e1, e2⟩ := h.rt
    exact ⟨_, List.mem_cons_of_mem _ (List.mem_map_of_mem hf), by rw [upt_s, cutm_A]; exact e1, by rw [upt_s, cutm_p]; exact e2⟩
  · rw [SE, LE]
    intro f hf
    rcases List.mem_cons.1 hf with rfl | hf
    · refine ⟨?_, ?_, .inl ⟨rfl, rfl, fun _ _ => rfl⟩, .inl rfl, ⟨1, setG (fun _ => none) y (some (ptr q.s.p)), by omega, ?_, fun z v hz => ?_⟩, fun j c => by cases c⟩
      · exact (hgc.block u hul (fun c => by have := hdl u c; omega)).trans u1
      · show w'.ownsRow 0 9 1 lu k ((upr u q.s k).edge.map Value.string)
        rw [upr_edge u q.s k qm kl]
        have := own_ch u2 hgc (fun j hj c => by have := row_ge u2 hj; have := hdl j c; omega)
        exact own0 this
      · exact u3.keep (fun b e => by
          cases e
          exact hgc.block mb (u3.lt rfl) (fun c => by have := hdl mb c; omega))
      · have up := h.inv.part_up hds hqs hk.2.1 k0 kl u z
        rw [edge_at] at hy
        unfold setG
        constructor
        · intro c
          split at c
          · rename_i e
            cases c
            exact ⟨_, (up _).2 ⟨rfl, by rw [e]; exact hy⟩, rfl⟩
          · cases c
        · rintro ⟨e, he, rfl⟩
          obtain ⟨rfl, e2⟩ := (up e).1 he
          rw [hy] at e2
          cases e2
          rw [if_pos rfl]
    · obtain ⟨a, ha, rfl⟩ := List.mem_map.1 hf
      by_cases aq : a = q
      · subst aq
        rw [upt_at]
        have hev : ∀ b, a.has b → b ≠ a.s.p → w'.heap[b]? = w.heap[b]? := fun b hb hbp => by
          have hbl := fq.lt hb
          have s1 := pr.ch.size
          refine (hgc.block b (by omega) (fun c => h.apart hd ha dq b (hgC_has c) hb)).trans (pr.ch.block b hbl (fun c => ?_))
          rcases c with c | c
          · exact h.tb_ne ha (by rw [← c]; exact hb)
          · exact hbp c
        have mp : ∀ b, (∃ es cl, w.heap[b]? = some (.map es cl)) → b ≠ a.s.p := fun b ⟨es, cl, e⟩ c => by
          rw [c, fq.at_] at e
          cases e
        refine ⟨?_, ?_, fq.ev.keep (fun b e => hev b (.inr (.inl e)) (mp b (fq.ev.block e))), fq.e0, ?_, fq.nb⟩
        · exact (hgc.block a.s.p (Array.getElem?_eq_some_iff.1 n1).1 (fun c => h.apart hd ha dq _ (hgC_has c) (.inl rfl))).trans n1
        · show w'.ownsRow 0 9 1 lp (a.s.m - k) ((({ a.s with m := a.s.m - k } : Nd).edge).map Value.string)
          rw [cut_edge a.s k qm kl, ← elen]
          have := own_ch n2 hgc (fun j hj c => by have := row_ge n2 hj; have := hdl j c; omega)
          exact own0 this
        · obtain ⟨nk2, kd2, b1, b2, b3⟩ := fq.kv
          refine ⟨nk2, kd2, by omega, b2.keep (fun b e => hev b (.inr (.inr e)) (mp b (b2.block e))), fun z v hz => (b3 z v hz).trans ?_⟩
          have pq := pa a ha z
          rw [cutm_at] at pq
          have nq : ∀ e0, AtK (T.map Fn.s) a.s z e0 → e0.A ≠ a.s.A := fun e0 h0 c => by
            have := h0.2.1.lt (h.inv.le e0 h0.1).1
            rw [c] at this
            omega
          constructor
          · rintro ⟨f, hf, ev⟩
            exact ⟨f, (pq f).2 ⟨f, hf, by rw [if_neg (nq f hf)]⟩, ev⟩
          · rintro ⟨f, hf, ev⟩
            obtain ⟨e0, h0, e1⟩ := (pq f).1 hf
            rw [if_neg (nq e0 h0)] at e1
            rw [e1] at ev
            exact ⟨e0, h0, ev⟩
      · have aA : a.s.A ≠ q.s.A := fun c => aq (h.same ha hq c)
        rw [upt_ne aA]
        by_cases ad : a = d
        · rw [ad]
          exact f1'
        · refine (k1 a ha aq).keep hgc (fun j c1 c2 => h.apart ha hd ad j c1 (hgC_has c2)) (hg_no9 fd1) (by omega) (fun z f => ?_)
          have pq := pa a ha z f
          rw [cutm_ne aA] at pq
          rw [pq]
          have nq : ∀ e0, AtK (T.map Fn.s) a.s z e0 → e0.A ≠ q.s.A := fun e0 h0 c => by
            obtain rfl := h.inv.same h0.1 hqs c
            exact ad (h.same ha hd (h0.2.1.2.2.symm.trans hk.2.1.2.2))
          constructor
          · intro hf
            exact ⟨f, hf, by rw [if_neg (nq f hf)]⟩
          · rintro ⟨e0, h0, e1⟩
            rw [if_neg (nq e0 h0)] at e1
            rw [e1]
            exact h0
  · rw [List.pairwise_cons]
    refine ⟨fun f hf j c1 c2 => ?_, ?_⟩
    · obtain ⟨a, ha, rfl⟩ := List.mem_map.1 hf
      have := (h.nd a ha).lt (upt_has.1 c2)
      rcases c1 with c | c | c
      · have : j = u := c
        omega
      · cases c
      · cases c
        omega
    · rw [List.pairwise_map]
      exact h.dis.imp (fun {a b} c j c1 c2 => c j (upt_has.1 c1) (upt_has.1 c2))
  · intro f hf
    rcases List.mem_cons.1 hf with rfl | hf
    · refine ⟨fun t ht => (h.ok q hq).1 t (List.mem_of_mem_take ht), ?_⟩
      have := (h.ok q hq).2
      show (q.s.A.take (q.s.top + k)).length ≤ _
      rw [List.length_take]
      omega
    · obtain ⟨a, ha, rfl⟩ := List.mem_map.1 hf
      rw [upt_s, cutm_A]
      exact h.ok a ha
end
end Go.Proofs.Ytepjcfhbbcaldaa.Li
