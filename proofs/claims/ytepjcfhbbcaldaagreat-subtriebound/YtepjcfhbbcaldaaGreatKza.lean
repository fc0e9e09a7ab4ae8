import Derived.Test.YtepjcfhbbcaldaaGreatKt
namespace Go.Proofs.YtepjcfhbbcaldaaGreat.Li
open Go Go.RowKit
set_option linter.unusedSimpArgs false
set_option linter.unusedVariables false
def upt (A : List ByteArray) (k : Nat) (lp : Value) (f : Fn) : Fn := if f.s.A = A then { f with s := { f.s with m := f.s.m - k }, lv := lp } else f
theorem upt_s (A : List ByteArray) (k : Nat) (lp : Value) (f : Fn) : (upt A k lp f).s = cutm A k f.s := by unfold upt cutm; split <;> rfl
theorem upt_map (A : List ByteArray) (k : Nat) (lp : Value) (T : List Fn) : (T.map (upt A k lp)).map Fn.s = (T.map Fn.s).map (cutm A k) := by
  rw [List.map_map, List.map_map]
  exact List.map_congr_left (fun f _ => upt_s A k lp f)
theorem upt_ne {A : List ByteArray} {k : Nat} {lp : Value} {f : Fn} (h : f.s.A ≠ A) : upt A k lp f = f := if_neg h
theorem upt_at {k : Nat} {lp : Value} (f : Fn) : upt f.s.A k lp f = { f with s := { f.s with m := f.s.m - k }, lv := lp } := if_pos rfl
theorem upt_has {A : List ByteArray} {k j : Nat} {lp : Value} {f : Fn} : (upt A k lp f).has j ↔ f.has j := by
  by_cases c : f.s.A = A
  · subst c
    rw [upt_at]
    exact Iff.rfl
  · rw [upt_ne c]
def uprN (u : Nat) (q : Nd) (k : Nat) (lu kv : Value) : Fn := ⟨upr u q k, fun _ => none, 0, lu, .map none, kv⟩
theorem upr_edge (u : Nat) (q : Nd) (k : Nat) (hq : q.m ≤ q.A.length) (hk : k < q.m) : (upr u q k).edge = q.edge.take k := by
  unfold Nd.edge
  rw [(upr_len u hq hk).2]
  show (q.A.take (q.top + k)).drop q.top = _
  rw [List.drop_take]
  congr 1
  omega
theorem cut_edge (q : Nd) (k : Nat) (hq : q.m ≤ q.A.length) (hk : k < q.m) : ({ q with m := q.m - k } : Nd).edge = q.edge.drop k := by
  unfold Nd.edge
  rw [cut_top hq hk]
  show q.A.drop (q.top + k) = _
  rw [List.drop_drop]
theorem edge_len (q : Nd) (hq : q.m ≤ q.A.length) : q.edge.length = q.m := by
  unfold Nd.edge
  rw [List.length_drop]
  have := len_take q hq
  omega
theorem edge_at (q : Nd) (k : Nat) : q.edge[k]? = q.A[q.top + k]? := by
  unfold Nd.edge
  rw [List.getElem?_drop]
section
variable {w w1 w' : World} {tb m r nk u k : Nat} {nf nn : Int} {T : List Fn} {d q : Fn} {kd : ByteArray → Option Value} {x y : ByteArray}
/-- An edge is parted, and the upper node hung in its place. -/
theorem TM.parted (h : TM w tb m r nf nn T) (hd : d ∈ T) (hq : q ∈ T) (hk : AtK (T.map Fn.s) d.s x q.s) (hx : okT x) (hm : MG w d.kv nk kd) (hnk : nk ≤ T.length) (hK : Kds (T.map Fn.s) d.s kd) (k0 : 0 < k) (kl : k < q.s.m) (hy : q.s.edge[k]? = some y) (pr : Pr w w1 tb q.s.p m u k (ptr r) q.ev q.kv nf nn q.s.edge y) (gh : Hg w1 w' d.s.p (ptr m) d.lv d.ev d.kv nk kd x u) :
    ∃ lp lu mb, w.heap.size ≤ mb ∧ TM w' tb m r nf (nn + 1) (uprN u q.s k lu (.map (some mb)) :: T.map (upt q.s.A k lp)) := by
  obtain ⟨lp, n1, n2⟩ := pr.nd
  obtain ⟨lu, mb, u1, u2, u3, u4⟩ := pr.up
  have fd := h.nd d hd
  have fq := h.nd q hq
  have hds : d.s ∈ T.map Fn.s := List.mem_map_of_mem hd
  have hqs : q.s ∈ T.map Fn.s := List.mem_map_of_mem hq
  have qm := (h.inv.le q.s hqs).1
  have hdq : d.s.A ≠ q.s.A := fun e => by have := hk.2.1.lt qm; rw [e] at this; omega
  have dq : d ≠ q := fun e => hdq (by rw [e])
  have elen := edge_len q.s qm
  have C9 : ∀ j, (j = tb ∨ j = q.s.p) → No9 w j := fun j e => by
    rcases e with e | e
    · rw [e]; exact no9_cells h.tr (by decide)
    · rw [e]; exact no9_cells fq.at_ (by decide)
  have k1 : ∀ f ∈ T, f ≠ q → FnM w1 m (T.map Fn.s) T.length f := fun f hf fn => (h.nd f hf).keep pr.ch (fun j c e => by
    rcases e with e | e
    · exact h.tb_ne hf (by rw [← e]; exact c)
    · exact h.apart hf hq fn j c (.inl e)) C9 (Nat.le_refl _) (fun _ _ => Iff.rfl)
  have fd1 := k1 d hd dq
  have hm1 : MG w1 d.kv nk kd := hm.keep (fun b e => pr.ch.block b (hm.lt e) (fun c => by
    rcases c with c | c
    · exact h.tb_ne hd (.inr (.inr (by rw [← c]; exact e)))
    · exact h.apart hd hq dq b (.inr (.inr e)) (.inl c)))
  have hgc : Ch (hgC d) w1 w' := gh.ch
  have hdl : ∀ j, hgC d j → j < w.heap.size := fun j c => fd.lt (hgC_has c)
  have hge := pr.ge
  have SE : ∀ kv, (uprN u q.s k lu kv :: T.map (upt q.s.A k lp)).map Fn.s = upr u q.s k :: (T.map Fn.s).map (cutm q.s.A k) := fun kv => by
    rw [List.map_cons, upt_map]
    rfl
  have LE : ∀ kv, (uprN u q.s k lu kv :: T.map (upt q.s.A k lp)).length = T.length + 1 := fun kv => by simp
  have pa := fun (a : Fn) (ha : a ∈ T) => h.inv.part_atk hds hqs hk.2.1 k0 kl u (List.mem_map_of_mem (f := Fn.s) ha)
  have pd := pa d hd
  rw [cutm_ne hdq] at pd
  have hKd : Kds (upr u q.s k :: (T.map Fn.s).map (cutm q.s.A k)) d.s (setG kd x (some (ptr u))) := fun z v hz => by
    by_cases e : z = x
    · subst e
      unfold setG
      rw [if_pos rfl]
      constructor
      · intro c
        cases c
        exact ⟨_, (pd z _).2 ⟨q.s, hk, rfl⟩, by rw [if_pos rfl]; rfl⟩
      · rintro ⟨e, he, rfl⟩
        obtain ⟨e0, h0, rfl⟩ := (pd z e).1 he
        obtain rfl := h.inv.atk h0 hk
        rw [if_pos rfl]
        rfl
    · unfold setG
      rw [if_neg e, hK z v hz]
      have nq : ∀ e0, AtK (T.map Fn.s) d.s z e0 → e0.A ≠ q.s.A := fun e0 h0 c => by
        obtain rfl := h.inv.same h0.1 hqs c
        have := h0.2.2.symm.trans hk.2.2
        cases this
        exact e rfl
      constructor
      · rintro ⟨f, hf, ev⟩
        exact ⟨f, (pd z f).2 ⟨f, hf, by rw [if_neg (nq f hf)]⟩, ev⟩
      · rintro ⟨f, hf, ev⟩
        obtain ⟨e0, h0, e1⟩ := (pd z f).1 hf
        rw [if_neg (nq e0 h0)] at e1
        rw [e1] at ev
        exact ⟨e0, h0, ev⟩
  obtain ⟨kv, f1, f2⟩ := fd1.hung (N' := T.length + 1) hm1 gh (by unfold szG; split <;> omega) hKd
  have hkx : kd x = some (ptr q.s.p) := (hK x _ hx).2 ⟨_, hk, rfl⟩
  have hsome : d.kv ≠ .map none := fun e => by
    rcases hm with ⟨_, _, c⟩ | ⟨mb, D, c, _⟩
    · rw [c x hx] at hkx; cases hkx
    · rw [c] at e; cases e
  have ekv : kv = d.kv := f2.elim id (fun c => (hsome c.1).elim)
  rw [ekv] at f1
  have f1' : FnM w' m (upr u q.s k :: (T.map Fn.s).map (cutm q.s.A k)) (T.length + 1) d := f1
  have hul : u < w1.heap.size := (Array.getElem?_eq_some_iff.1 u1).1
  refine ⟨lp, lu, mb, u4, ?_, ?_, ?_, ?_, ?_, ?_⟩
  · exact (hgc.block tb (Array.getElem?_eq_some_iff.1 pr.tr).1 (fun c => h.tb_ne hd (hgC_has c))).trans pr.tr
  · rw [SE]
    exact h.inv.part hds hqs hk.2.1 k0 kl u
  · obtain ⟨f, hf, e1, e2⟩ := h.rt
    exact ⟨_, List.mem_cons_of_mem _ (List.mem_map_of_mem hf), by rw [upt_s, cutm_A]; exact e1, by rw [upt_s, cutm_p]; exact e2⟩
  · rw [SE, LE]
    intro f hf
    rcases List.mem_cons.1 hf with rfl | hf
    · refine ⟨?_, ?_, .inl ⟨rfl, rfl, fun _ _ => rfl⟩, .inl rfl, ⟨1, setG (fun _ => none) y (some (ptr q.s.p)), by omega, ?_, fun z v hz => ?_⟩, fun j c => by cases c⟩
      · exact (hgc.block u hul (fun c => by have := hdl u c; omega)).trans u1
      · show w'.ownsRow 0 9 1 lu k ((upr u q.s k).edge.map Value.string)
        rw [upr_edge u q.s k qm kl]
        have := own_ch u2 hgc (fun j hj c => by have := row_ge u2 hj; have := hdl j c; omega)
        exact own0 this
      · exact u3.keep (fun b e => by
          cases e
          exact hgc.block mb (u3.lt rfl) (fun c => by have := hdl mb c; omega))
      · have up := h.inv.part_up hds hqs hk.2.1 k0 kl u z
        rw [edge_at] at hy
        unfold setG
        constructor
        · intro c
          split at c
          · rename_i e
            cases c
            exact ⟨_, (up _).2 ⟨rfl, by rw [e]; exact hy⟩, rfl⟩
          · cases c
        · rintro ⟨e, he, rfl⟩
          obtain ⟨rfl, e2⟩ := (up e).1 he
          rw [hy] at e2
          cases e2
          rw [if_pos rfl]
    · obtain ⟨a, ha, rfl⟩ := List.mem_map.1 hf
      by_cases aq : a = q
      · subst aq
        rw [upt_at]
        have hev : ∀ b, a.has b → b ≠ a.s.p → w'.heap[b]? = w.heap[b]? := fun b hb hbp => by
          have hbl := fq.lt hb
          have s1 := pr.ch.size
          refine (hgc.block b (by omega) (fun c => h.apart hd ha dq b (hgC_has c) hb)).trans (pr.ch.block b hbl (fun c => ?_))
          rcases c with c | c
          · exact h.tb_ne ha (by rw [← c]; exact hb)
          · exact hbp c
        have mp : ∀ b, (∃ es cl, w.heap[b]? = some (.map es cl)) → b ≠ a.s.p := fun b ⟨es, cl, e⟩ c => by
          rw [c, fq.at_] at e
          cases e
        refine ⟨?_, ?_, fq.ev.keep (fun b e => hev b (.inr (.inl e)) (mp b (fq.ev.block e))), fq.e0, ?_, fq.nb⟩
        · exact (hgc.block a.s.p (Array.getElem?_eq_some_iff.1 n1).1 (fun c => h.apart hd ha dq _ (hgC_has c) (.inl rfl))).trans n1
        · show w'.ownsRow 0 9 1 lp (a.s.m - k) ((({ a.s with m := a.s.m - k } : Nd).edge).map Value.string)
          rw [cut_edge a.s k qm kl, ← elen]
          have := own_ch n2 hgc (fun j hj c => by have := row_ge n2 hj; have := hdl j c; omega)
          exact own0 this
        · obtain ⟨nk2, kd2, b1, b2, b3⟩ := fq.kv
          refine ⟨nk2, kd2, by omega, b2.keep (fun b e => hev b (.inr (.inr e)) (mp b (b2.block e))), fun z v hz => (b3 z v hz).trans ?_⟩
          have pq := pa a ha z
          rw [cutm_at] at pq
          have nq : ∀ e0, AtK (T.map Fn.s) a.s z e0 → e0.A ≠ a.s.A := fun e0 h0 c => by
            have := h0.2.1.lt (h.inv.le e0 h0.1).1
            rw [c] at this
            omega
          constructor
          · rintro ⟨f, hf, ev⟩
            exact ⟨f, (pq f).2 ⟨f, hf, by rw [if_neg (nq f hf)]⟩, ev⟩
          · rintro ⟨f, hf, ev⟩
            obtain ⟨e0, h0, e1⟩ := (pq f).1 hf
            rw [if_neg (nq e0 h0)] at e1
            rw [e1] at ev
            exact ⟨e0, h0, ev⟩
      · have aA : a.s.A ≠ q.s.A := fun c => aq (h.same ha hq c)
        rw [upt_ne aA]
        by_cases ad : a = d
        · rw [ad]
          exact f1'
        · refine (k1 a ha aq).keep hgc (fun j c1 c2 => h.apart ha hd ad j c1 (hgC_has c2)) (hg_no9 fd1) (by omega) (fun z f => ?_)
          have pq := pa a ha z f
          rw [cutm_ne aA] at pq
          rw [pq]
          have nq : ∀ e0, AtK (T.map Fn.s) a.s z e0 → e0.A ≠ q.s.A := fun e0 h0 c => by
            obtain rfl := h.inv.same h0.1 hqs c
            exact ad (h.same ha hd (h0.2.1.2.2.symm.trans hk.2.1.2.2))
          constructor
          · intro hf
            exact ⟨f, hf, by rw [if_neg (nq f hf)]⟩
          · rintro ⟨e0, h0, e1⟩
            rw [if_neg (nq e0 h0)] at e1
            rw [e1]
            exact h0
  · rw [List.pairwise_cons]
    refine ⟨fun f hf j c1 c2 => ?_, ?_⟩
    · obtain ⟨a, ha, rfl⟩ := List.mem_map.1 hf
      have := (h.nd a ha).lt (upt_has.1 c2)
      rcases c1 with c | c | c
      · have : j = u := c
        omega
      · cases c
      · cases c
        omega
    · rw [List.pairwise_map]
      exact h.dis.imp (fun {a b} c j c1 c2 => c j (upt_has.1 c1) (upt_has.1 c2))
  · intro f hf
    rcases List.mem_cons.1 hf with rfl | hf
    · refine ⟨fun t ht => (h.ok q hq).1 t (List.mem_of_mem_take ht), ?_⟩
      have := (h.ok q hq).2
      show (q.s.A.take (q.s.top + k)).length ≤ _
      rw [List.length_take]
      omega
    · obtain ⟨a, ha, rfl⟩ := List.mem_map.1 hf
      rw [upt_s, cutm_A]
      exact h.ok a ha
end
end Go.Proofs.YtepjcfhbbcaldaaGreat.Li
namespace Go.Proofs.YtepjcfhbbcaldaaGreat.Li
open Go Go.RowKit
set_option linter.unusedSimpArgs false
set_option linter.unusedVariables false
theorem Rw.drop {w : World} {g o n cap k : Nat} {L : List ByteArray} (h : Rw w (.slice (some ⟨g, o, none⟩) n cap) L) (hk : k ≤ n) : Rw w (.slice (if cap = k then some ⟨g, o, none⟩ else some ⟨g, o + k, none⟩) (n - k) (cap - k)) (L.drop k) := by
  obtain ⟨a, n', cap', e, hn, hc, hx⟩ := h.row
  simp only [Value.slice.injEq] at e
  obtain ⟨rfl, rfl, rfl⟩ := e
  refine ⟨⟨_, _, _, rfl, by rw [List.length_drop, hn], by omega, fun ne => ?_⟩, fun j hj => ?_⟩
  · have hlt : k < L.length := by
      rcases Nat.lt_or_ge k L.length with c | c
      · exact c
      · exact (ne (List.drop_eq_nil_of_le c)).elim
    obtain ⟨g', o', e, hg, hcell⟩ := hx (fun c => by rw [c] at hlt; simp at hlt)
    simp only [Option.some.injEq, Addr.mk.injEq, and_true] at e
    obtain ⟨rfl, rfl⟩ := e
    refine ⟨g, o + k, by rw [if_neg (by omega)], hg, fun i y hi => ?_⟩
    rw [List.getElem?_drop] at hi
    have := hcell (k + i) y hi
    rw [show o + k + i = o + (k + i) by omega]
    exact this
  · refine h.ty j ?_
    split at hj <;> exact hj
/-- What the trie holds is as it was; nodes without entries may have come. -/
structure Grow (T T' : List Fn) : Prop where
  old : ∀ f ∈ T, ∃ f' ∈ T', f'.s.A = f.s.A ∧ f'.en = f.en ∧ f'.ne = f.ne ∧ f'.s.p = f.s.p
  new : ∀ f' ∈ T', (∃ f ∈ T, f.s.A = f'.s.A) ∨ (f'.ne = 0 ∧ f'.en = fun _ => none)
  le : T.length ≤ T'.length
theorem Grow.refl (T : List Fn) : Grow T T := ⟨fun f hf => ⟨f, hf, rfl, rfl, rfl, rfl⟩, fun f hf => .inl ⟨f, hf, rfl⟩, Nat.le_refl _⟩
theorem Grow.trans {w : World} {tb m r : Nat} {nf nn : Int} {T U V : List Fn} (hV : TM w tb m r nf nn V) (h : Grow T U) (k : Grow U V) : Grow T V := by
  refine ⟨fun f hf => ?_, fun f hf => ?_, Nat.le_trans h.le k.le⟩
  · obtain ⟨a, ha, e1, e2, e3, e4⟩ := h.old f hf
    obtain ⟨b, hb, g1, g2, g3, g4⟩ := k.old a ha
    exact ⟨b, hb, g1.trans e1, g2.trans e2, g3.trans e3, g4.trans e4⟩
  · rcases k.new f hf with ⟨a, ha, e⟩ | c
    · rcases h.new a ha with ⟨b, hb, e'⟩ | c
      · exact .inl ⟨b, hb, e'.trans e⟩
      · obtain ⟨b, hb, g1, g2, g3, g4⟩ := k.old a ha
        obtain rfl := hV.same hb hf (g1.trans e)
        exact .inr ⟨g3.trans c.1, g2.trans c.2⟩
    · exact .inr c
theorem grow_leaf {g : Nat} {A : List ByteArray} {x : ByteArray} {rr : List ByteArray} {lv kv : Value} {B : List ByteArray} (T : List Fn) : Grow T (leafN g A x rr lv :: T.map (ukv B kv)) := by
  have u : ∀ f : Fn, (ukv B kv f).en = f.en ∧ (ukv B kv f).ne = f.ne := fun f => by unfold ukv; split <;> exact ⟨rfl, rfl⟩
  refine ⟨fun f hf => ⟨_, List.mem_cons_of_mem _ (List.mem_map_of_mem hf), by rw [ukv_s], (u f).1, (u f).2, by rw [ukv_s]⟩, fun f hf => ?_, by simp⟩
  rcases List.mem_cons.1 hf with rfl | hf
  · exact .inr ⟨rfl, rfl⟩
  · obtain ⟨a, ha, rfl⟩ := List.mem_map.1 hf
    exact .inl ⟨a, ha, by rw [ukv_s]⟩
theorem grow_part {u k : Nat} {q : Nd} {lu kv lp : Value} {B : List ByteArray} (T : List Fn) : Grow T (uprN u q k lu kv :: T.map (upt B k lp)) := by
  have p : ∀ f : Fn, (upt B k lp f).en = f.en ∧ (upt B k lp f).ne = f.ne := fun f => by unfold upt; split <;> exact ⟨rfl, rfl⟩
  refine ⟨fun f hf => ⟨_, List.mem_cons_of_mem _ (List.mem_map_of_mem hf), by rw [upt_s, cutm_A], (p f).1, (p f).2, by rw [upt_s, cutm_p]⟩, fun f hf => ?_, by simp⟩
  rcases List.mem_cons.1 hf with rfl | hf
  · exact .inr ⟨rfl, rfl⟩
  · obtain ⟨a, ha, rfl⟩ := List.mem_map.1 hf
    exact .inl ⟨a, ha, by rw [upt_s, cutm_A]⟩
/-- The blocks that are a trie's. -/
def isT (tb : Nat) (T : List Fn) (j : Nat) : Prop := j = tb ∨ ∃ f ∈ T, f.has j
/-- Two ways part at these levels. -/
def Fork (T : List Fn) (A : List ByteArray) : Prop := ∃ x y a b, x ≠ y ∧ a ∈ T ∧ b ∈ T ∧ (A ++ [x]) <+: a.s.A ∧ (A ++ [y]) <+: b.s.A
theorem Fork.mono {T T' : List Fn} {A : List ByteArray} (h : Fork T A) (ho : ∀ f ∈ T, ∃ f' ∈ T', f'.s.A = f.s.A) : Fork T' A := by
  obtain ⟨x, y, a, b, ne, ha, hb, pa, pb⟩ := h
  obtain ⟨a', ha', ea⟩ := ho a ha
  obtain ⟨b', hb', eb⟩ := ho b hb
  exact ⟨x, y, a', b', ne, ha', hb', by rw [ea]; exact pa, by rw [eb]; exact pb⟩
/-- Which nodes have come. -/
def Frm (T T' : List Fn) (F : List ByteArray) : Prop := ∀ f ∈ T', (∃ f0 ∈ T, f0.s.A = f.s.A) ∨ f.s.A = F ∨ Fork T' f.s.A
theorem Frm.refl (T : List Fn) (F : List ByteArray) : Frm T T F := fun f hf => .inl ⟨f, hf, rfl⟩
/-- What reach leaves. -/
structure Rch (w w' : World) (tb m r : Nat) (nf : Int) (T : List Fn) (F : List ByteArray) (n g : Nat) : Prop where
  ex : ∃ T' q, q ∈ T' ∧ q.s.A = F ∧ q.s.p = g ∧ TM w' tb m r nf (T'.length : Int) T' ∧ Grow T T' ∧ T'.length ≤ T.length + n ∧ (q.ne = 0 ∨ (T'.length = T.length ∧ ∃ f ∈ T, f.s.A = F)) ∧ Frm T T' F ∧ ∀ j, isT tb T' j → isT tb T j ∨ w.heap.size ≤ j
  ch : Ch (isT tb T) w w'
set_option maxRecDepth 100000 in
set_option maxHeartbeats 4000000 in
theorem reach_zero {w : World} {tb m r : Nat} {nf : Int} {T : List Fn} {d : Fn} {v : Value} (h : TM w tb m r nf (T.length : Int) T) (hd : d ∈ T) (R : Rw w v []) :
    Calls Tryz.prog 22 #[ptr tb, ptr d.s.p, v] w fun e w' => ∃ g, e = .returned (ptr g) ∧ Rch w w' tb m r nf T (d.s.A ++ []) 0 g := by
  obtain ⟨a, cap, rfl⟩ := R.row.nil
  have H := hidi h
  have HD := hidi hd
  unfold ptr at *
  clear h hd R
  go_enter Tryz.func22, Tryz.ntmps22
  go_wp2_with fail
  go_ret
  exact ⟨d.s.p, rfl, ⟨T, d, HD.out, by simp, rfl, H.out, Grow.refl T, by omega, .inr ⟨rfl, d, HD.out, by simp⟩, Frm.refl _ _, fun j c => .inl c⟩, Ch.refl _ _⟩
theorem zero59 (w : World) : (zeroValue 52).run Tryz.prog w = .ok (.pointer none) w := by kernel_rfl
set_option maxRecDepth 100000 in
set_option maxHeartbeats 4000000 in
theorem reach_leaf {w : World} {tb m r : Nat} {nf : Int} {T : List Fn} {d : Fn} {v : Value} {x : ByteArray} {rr : List ByteArray} (h : TM w tb m r nf (T.length : Int) T) (hd : d ∈ T) (R : Rw w v (x :: rr)) (no : ∀ e, ¬ AtK (T.map Fn.s) d.s x e) (okL : ∀ t ∈ x :: rr, t.size ≤ 65535) (okl : d.s.A.length + (rr.length + 1) ≤ 65536) (hT : T.length < 900000) :
    Calls Tryz.prog 22 #[ptr tb, ptr d.s.p, v] w fun e w' => ∃ g, e = .returned (ptr g) ∧ Rch w w' tb m r nf T (d.s.A ++ x :: rr) 1 g := by
  have hx : okT x := by have := okL x List.mem_cons_self; unfold okT maxLen; omega
  obtain ⟨nk, kd, b1, b2, b3, b4⟩ := h.look hd hx
  have hkx : kd x = none := by
    rcases b4 with ⟨q, hq, c, _⟩ | ⟨c, _⟩
    · exact (no _ c).elim
    · exact c
  obtain ⟨g, o, n, cap, rfl, hn, hcap, hgl, hc0, -⟩ := R.row.cons
  have fd := h.nd d hd
  obtain ⟨mo, hmo⟩ : ∃ mo, d.kv = .map mo := by
    rcases b2.mk with e | ⟨mb, e⟩
    · exact ⟨_, e⟩
    · exact ⟨_, e⟩
  have c3 : w.cell? ⟨d.s.p, 3, none⟩ = some (.map mo) := by rw [← hmo]; exact box_cells fd.at_ 3 _ rfl
  have hlook : ∀ N, (Instr.lookup 69 (.map mo) (.string x) false).run Tryz.prog (w.drewN N) = .ok (.pointer none) (w.drewN N) := fun N => by
    have bd : Below w.heap.size w (w.drewN N) := below_drewN (Below.refl _ _)
    have := (b2.keep (w' := w.drewN N) (fun b e => bd.block b (b2.lt e))).look Tryz.underlying69 zero59 hx
    rw [hkx, hmo] at this
    exact this
  have e0 : ((n : Int) == 0) = false := by rw [beq_eq_false_iff_ne]; omega
  have p0 : (0 : Int) < n := by omega
  have LF := hidi (fun (w1 : World) (hb : Below w.heap.size w w1) => leaf_any (h.below hb).tr (R.below hb) (by simp; omega) (fun t ht => by have := okL t ht; omega) (by omega) (by omega))
  have HG := hidi (fun (w1 w2 : World) (g2 : Nat) (hb : Below w.heap.size w w1) (lf : Lf w1 w2 tb g2 (ptr r) (ptr m) nf (T.length : Int) (x :: rr)) => (show Calls Tryz.prog 37 #[ptr d.s.p, ptr g2] w2 fun e w3 => e = .returned (.tuple #[]) ∧ Rch w w3 tb m r nf T (d.s.A ++ x :: rr) 1 g2 from by
    have h1 := h.below hb
    have fd1 := h1.nd d hd
    obtain ⟨lv, l1, l2⟩ := lf.nd
    have dne : d.s.p ≠ tb := fun c => h.tb_ne hd (.inl c.symm)
    have dl1 : d.s.p < w1.heap.size := fd1.lt (.inl rfl)
    have b2' : MG w1 d.kv nk kd := b2.keep (fun b e => hb.block b (b2.lt e))
    have b2'' : MG w2 d.kv nk kd := b2'.keep (fun b e => lf.ch.block b (b2'.lt e) (fun c => h.tb_ne hd (.inr (.inr (by rw [← c]; exact e)))))
    refine (hang_any (lv := d.lv) (ev := d.ev) (kv := d.kv) (lq := lv) (o2 := ptr m) (e2 := .map none) (k2 := .map none) ((lf.ch.block _ dl1 dne).trans fd1.at_) l1 (fun c => by have := lf.ge; omega) (own0 l2) hx b2'' (by omega)).mono ?_
    rintro e w3 ⟨rfl, gh⟩
    obtain ⟨kv, lv', hkv, tm⟩ := h1.leafed hd hx no b2' b1 b3 lf gh okL okl
    have hs1 := hb.size
    have hs2 := lf.ch.size
    refine ⟨rfl, ⟨leafN g2 d.s.A x rr lv' :: T.map (ukv d.s.A kv), leafN g2 d.s.A x rr lv', List.mem_cons_self, rfl, rfl, ?_, grow_leaf T, by simp, .inl rfl, fun f hf => ?_, ?_⟩, ?_⟩
    · rw [show ((leafN g2 d.s.A x rr lv' :: T.map (ukv d.s.A kv)).length : Int) = (T.length : Int) + 1 by simp]
      exact tm
    · rcases List.mem_cons.1 hf with rfl | hf
      · exact .inr (.inl rfl)
      · obtain ⟨a, ha, rfl⟩ := List.mem_map.1 hf
        exact .inl ⟨a, ha, by rw [ukv_s]⟩
    · rintro j (c | ⟨f, hf, c⟩)
      · exact .inl (.inl c)
      · rcases List.mem_cons.1 hf with rfl | hf
        · rcases c with c | c | c
          · have : j = g2 := c
            have := lf.ge
            exact .inr (by omega)
          · cases c
          · cases c
        · obtain ⟨a, ha, rfl⟩ := List.mem_map.1 hf
          rcases ukv_has c with c | ⟨_, c⟩
          · exact .inl (.inr ⟨a, ha, c⟩)
          · rcases hkv with e | e
            · exact .inl (.inr ⟨d, hd, .inr (.inr (by rw [← e]; exact c))⟩)
            · rw [e] at c
              cases c
              exact .inr (by omega)
    · exact ((Below.ch hb).trans lf.ch (fun j _ e => .inl e)).trans gh.ch (fun j _ e => .inr ⟨d, hd, hgC_has e⟩)))
  unfold ptr at *
  clear h hd R no okL okl hT hx b1 b2 b3 b4 hkx hn hgl fd hmo
  go_enter Tryz.func22, Tryz.ntmps22
  go_wp2_with fail
  go_quiet (fail)
  obtain ⟨w1, hw1⟩ : ∃ w1, w1 = w.drewN nq := ⟨_, rfl⟩
  have B1 : Hid (Below w.heap.size w w1) := by show Below _ _ _; rw [hw1]; exact below_drewN (Below.refl _ _)
  rw [← hw1]
  clear hw1 hlook
  go_wp2_with (first
    | (go_at_call 36; refine (LF.out w1 B1.out).mono ?_; rintro e w2 ⟨g2, rfl, lf⟩; have CC := hidi (HG.out w1 w2 g2 B1.out lf); clear lf LF HG)
    | (go_at_call 37; refine CC.out.mono ?_; rintro e w3 ⟨rfl, hg⟩; have HH := hidi hg; clear hg CC))
  go_ret
  exact ⟨g2, rfl, HH.out⟩
end Go.Proofs.YtepjcfhbbcaldaaGreat.Li
namespace Go.Proofs.YtepjcfhbbcaldaaGreat.Li
open Go Go.RowKit
set_option linter.unusedSimpArgs false
set_option linter.unusedVariables false
/-- What reach does from any node, with at most so many levels left. -/
def ReachOk (tb m r : Nat) (nf : Int) (N : Nat) : Prop := ∀ (w : World) (T : List Fn) (d : Fn) (v : Value) (L : List ByteArray), L.length ≤ N → TM w tb m r nf (T.length : Int) T → d ∈ T → Rw w v L → (∀ t ∈ L, t.size ≤ 65535) → d.s.A.length + L.length ≤ 65536 → T.length + L.length < 900000 →
    Calls Tryz.prog 22 #[ptr tb, ptr d.s.p, v] w fun e w' => ∃ g, e = .returned (ptr g) ∧ Rch w w' tb m r nf T (d.s.A ++ L) 2 g
theorem TM.no9 {w : World} {tb m r : Nat} {nf nn : Int} {T : List Fn} (h : TM w tb m r nf nn T) {j : Nat} (hj : isT tb T j) : No9 w j := by
  rcases hj with e | ⟨f, hf, c⟩
  · rw [e]; exact no9_cells h.tr (by decide)
  · exact (h.nd f hf).no9 c
/-- A kid was hung again. -/
structure Sm (w w' : World) (tb m r : Nat) (nf : Int) (T : List Fn) : Prop where
  tm : TM w' tb m r nf (T.length : Int) T
  ch : Ch (isT tb T) w w'
/-- An edge was parted. -/
structure Pm (w w' : World) (tb m r u k : Nat) (nf : Int) (T : List Fn) (q : Fn) : Prop where
  ex : ∃ lp lu mb, w.heap.size ≤ mb ∧ TM w' tb m r nf ((T.length : Int) + 1) (uprN u q.s k lu (.map (some mb)) :: T.map (upt q.s.A k lp))
  ge : w.heap.size ≤ u
  ch : Ch (isT tb T) w w'
theorem rw_stay {w w5 : World} {tb m r : Nat} {nf nn : Int} {T : List Fn} {v : Value} {L : List ByteArray} (h : TM w tb m r nf nn T) (hc : Ch (isT tb T) w w5) (R : Rw w v L) : Rw w5 v L := R.ch hc (fun j hj c => by
  obtain ⟨cur, e⟩ := R.ty j hj
  exact h.no9 c cur e)
/-- The way on from a kid. -/
theorem reach_on {w w5 : World} {tb m r k N g o n cap : Nat} {nf : Int} {T : List Fn} {A : List ByteArray} {L : List ByteArray} {q : Fn} (IH : ReachOk tb m r nf N) (h : TM w tb m r nf (T.length : Int) T) (hq : q ∈ T) (sm : Sm w w5 tb m r nf T) (eA : q.s.A = A ++ L.take k) (R : Rw w (.slice (some ⟨g, o, none⟩) n cap) L) (hn : n = L.length) (k0 : 0 < k) (kl : k ≤ n) (hN : L.length ≤ N + 1) (okL : ∀ t ∈ L, t.size ≤ 65535) (okl : A.length + L.length ≤ 65536) (hT : T.length + L.length < 900000) :
    Calls Tryz.prog 22 #[ptr tb, ptr q.s.p, .slice (if cap = k then some ⟨g, o, none⟩ else some ⟨g, o + k, none⟩) (n - k) (cap - k)] w5 fun e w' => ∃ g, e = .returned (ptr g) ∧ Rch w w' tb m r nf T (A ++ L) 2 g := by
  have R5 := rw_stay h sm.ch R
  have e1 : q.s.A ++ L.drop k = A ++ L := by rw [eA, List.append_assoc, List.take_append_drop]
  have lk : (L.drop k).length = L.length - k := by rw [List.length_drop]
  have la : q.s.A.length = A.length + k := by rw [eA, List.length_append, List.length_take]; omega
  refine (IH w5 T q _ (L.drop k) (by omega) sm.tm hq (R5.drop kl) (fun t ht => okL t (List.mem_of_mem_drop ht)) (by omega) (by omega)).mono ?_
  rintro e w6 ⟨g6, rfl, ⟨T6, q6, n1, n2, n3, n4, n5, n6, n8, nf7, n7⟩, nc⟩
  have s5 := sm.ch.size
  rw [e1] at n8 nf7
  exact ⟨g6, rfl, ⟨T6, q6, n1, n2.trans e1, n3, n4, n5, n6, n8, nf7, fun j c => (n7 j c).imp id (fun c => by omega)⟩, sm.ch.trans nc (fun j _ c => c)⟩
/-- The way on from the upper node of a parted edge. -/
theorem reach_part {w w5 : World} {tb m r u k g o n cap : Nat} {nf : Int} {T : List Fn} {A : List ByteArray} {L : List ByteArray} {d q : Fn} {y : ByteArray} (h : TM w tb m r nf (T.length : Int) T) (hd : d ∈ T) (hq : q ∈ T) (hk : Kid d.s q.s) (pm : Pm w w5 tb m r u k nf T q) (eA : q.s.A.take (q.s.top + k) = A ++ L.take k) (k0 : 0 < k) (km : k < q.s.m) (hy : q.s.edge[k]? = some y) (hne : L[k]? ≠ some y) (R : Rw w (.slice (some ⟨g, o, none⟩) n cap) L) (hn : n = L.length) (kl : k ≤ n) (okL : ∀ t ∈ L, t.size ≤ 65535) (okl : A.length + L.length ≤ 65536) (hT : T.length + L.length < 900000) :
    Calls Tryz.prog 22 #[ptr tb, ptr u, .slice (if cap = k then some ⟨g, o, none⟩ else some ⟨g, o + k, none⟩) (n - k) (cap - k)] w5 fun e w' => ∃ g, e = .returned (ptr g) ∧ Rch w w' tb m r nf T (A ++ L) 2 g := by
  obtain ⟨⟨lp, lu, mb, p1, tm⟩, pge, pc⟩ := pm
  have R5 := (rw_stay h pc R).drop kl
  obtain ⟨T2, hT2⟩ : ∃ T2, T2 = uprN u q.s k lu (.map (some mb)) :: T.map (upt q.s.A k lp) := ⟨_, rfl⟩
  obtain ⟨U, hU⟩ : ∃ U, U = uprN u q.s k lu (.map (some mb)) := ⟨_, rfl⟩
  have UT : U ∈ T2 := by rw [hT2, hU]; exact List.mem_cons_self
  have U0 : U.ne = 0 := by rw [hU]; rfl
  have UA : U.s.A = A ++ L.take k := by rw [hU]; exact eA
  have Up : U.s.p = u := by rw [hU]; rfl
  have l2 : T2.length = T.length + 1 := by rw [hT2]; simp
  have gr : Grow T T2 := by rw [hT2]; exact grow_part T
  have s5 := pc.size
  have is2 : ∀ j, isT tb T2 j → isT tb T j ∨ w.heap.size ≤ j := by
    rw [hT2]
    rintro j (c | ⟨f, hf, c⟩)
    · exact .inl (.inl c)
    · rcases List.mem_cons.1 hf with rfl | hf
      · rcases c with c | c | c
        · have : j = u := c
          exact .inr (by omega)
        · cases c
        · cases c
          exact .inr (by omega)
      · obtain ⟨a, ha, rfl⟩ := List.mem_map.1 hf
        exact .inl (.inr ⟨a, ha, upt_has.1 c⟩)
  have tm2 : TM w5 tb m r nf (T2.length : Int) T2 := by
    rw [l2, hT2]
    exact tm
  have no : ∀ z, L[k]? = some z → ∀ e, ¬ AtK (T2.map Fn.s) U.s z e := fun z hz e he => by
    rw [hT2, hU, List.map_cons, upt_map] at he
    have := (h.inv.part_up (List.mem_map_of_mem hd) (List.mem_map_of_mem hq) hk k0 km u z e).1 he
    rw [edge_at] at hy
    rw [hy] at this
    exact hne (by rw [hz, this.2])
  have e1 : U.s.A ++ L.drop k = A ++ L := by rw [UA, List.append_assoc, List.take_append_drop]
  have la : U.s.A.length = A.length + k := by rw [UA, List.length_append, List.length_take]; omega
  have fin : ∀ (w6 : World) (g6 c : Nat), c ≤ 1 → Rch w5 w6 tb m r nf T2 (U.s.A ++ L.drop k) c g6 → ((L.drop k = []) ∨ c = 1 ∧ ∀ f ∈ T2, f.s.A ≠ A ++ L) → Rch w w6 tb m r nf T (A ++ L) 2 g6 := fun w6 g6 c hc rc hw => by
    obtain ⟨⟨T6, q6, n1, n2, n3, n4, n5, n6, n8, nf7, n7⟩, nc⟩ := rc
    rw [e1] at n2 n8 nf7
    refine ⟨⟨T6, q6, n1, n2, n3, n4, gr.trans n4 n5, by omega, .inl ?_, fun f hf => ?_, fun j c => ?_⟩, pc.trans nc (fun j hj c => (is2 j c).elim id (fun c => by omega))⟩
    · rcases n8 with c | ⟨_, f, hf, ef⟩
      · exact c
      · rcases hw with hw | ⟨_, hw⟩
        · obtain ⟨b, hb, g1, g2, g3, g4⟩ := n5.old U UT
          rw [hw, List.append_nil] at e1
          obtain rfl := n4.same hb n1 (by rw [g1, n2, e1])
          exact g3.trans U0
        · exact (hw f hf ef).elim
    · rcases nf7 f hf with ⟨f2, hf2, e2⟩ | c | c
      · rw [hT2] at hf2
        rcases List.mem_cons.1 hf2 with rfl | hf2
        · have eU : U.s.A = f.s.A := by rw [hU]; exact e2
          cases hD : L.drop k with
          | nil =>
            rw [hD, List.append_nil] at e1
            exact .inr (.inl (by rw [← eU, e1]))
          | cons z zs =>
            obtain ⟨q', hq', hqA, -⟩ := (gr.trans n4 n5).old q hq
            have hz : L[k]? = some z := by
              have := List.getElem?_drop (xs := L) (i := k) (j := 0)
              rw [hD] at this
              simpa using this.symm
            refine .inr (.inr ⟨z, y, q6, q', fun e => hne (by rw [hz, e]), n1, hq', ?_, ?_⟩)
            · rw [n2, ← e1, hD, ← eU]
              exact ⟨zs, by simp⟩
            · rw [hqA, ← eU, UA, ← eA]
              rw [edge_at] at hy
              obtain ⟨hi, ei⟩ := List.getElem?_eq_some_iff.1 hy
              refine ⟨q.s.A.drop (q.s.top + k + 1), ?_⟩
              conv => rhs; rw [← List.take_append_drop (q.s.top + k) q.s.A, List.drop_eq_getElem_cons hi, ei]
              simp
        · obtain ⟨a, ha, rfl⟩ := List.mem_map.1 hf2
          exact .inl ⟨a, ha, by rw [← e2, upt_s, cutm_A]⟩
      · exact .inr (.inl c)
      · exact .inr (.inr c)
    · rcases n7 j c with c | c
      · exact is2 j c
      · exact .inr (by omega)
  cases hL : L.drop k with
  | nil =>
    rw [hL] at R5
    have := reach_zero tm2 UT R5
    rw [Up] at this
    refine this.mono ?_
    rintro e w6 ⟨g6, rfl, rc⟩
    exact ⟨g6, rfl, fin w6 g6 0 (by omega) (by rw [hL]; exact rc) (.inl hL)⟩
  | cons z zs =>
    have hz : L[k]? = some z := by
      have := List.getElem?_drop (xs := L) (i := k) (j := 0)
      rw [hL] at this
      simpa using this.symm
    rw [hL] at R5
    have lz : L.length = k + (zs.length + 1) := by
      have := congrArg List.length hL
      rw [List.length_drop] at this
      simp at this
      omega
    have := reach_leaf tm2 UT R5 (no z hz) (fun t ht => okL t (List.mem_of_mem_drop (i := k) (by rw [hL]; exact ht))) (by omega) (by omega)
    rw [Up] at this
    refine this.mono ?_
    rintro e w6 ⟨g6, rfl, rc⟩
    refine ⟨g6, rfl, fin w6 g6 1 (by omega) (by rw [hL]; exact rc) (.inr ⟨rfl, fun f hf ef => ?_⟩)⟩
    refine tm2.inv.none_ (List.mem_map_of_mem UT) (no z hz) (R := zs) f.s (List.mem_map_of_mem hf) ?_
    rw [ef, ← e1, hL]
    exact List.prefix_refl _
/-- A kid is hung again. -/
theorem hang_same {w w3 : World} {tb m r : Nat} {nf : Int} {T : List Fn} {d q : Fn} {x : ByteArray} (h : TM w tb m r nf (T.length : Int) T) (hb : Below w.heap.size w w3) (hd : d ∈ T) (hq : q ∈ T) (hk : AtK (T.map Fn.s) d.s x q.s) (hx : okT x) (hT : T.length < 900000) :
    Calls Tryz.prog 37 #[ptr d.s.p, ptr q.s.p] w3 fun e w' => e = .returned (.tuple #[]) ∧ Sm w w' tb m r nf T := by
  have h3 := h.below hb
  have fd := h3.nd d hd
  have fq := h3.nd q hq
  obtain ⟨nk, kd, b1, b2, b3⟩ := fd.kv
  have qm := (h.inv.le q.s (List.mem_map_of_mem hq)).1
  have hdq : d ≠ q := fun e => by have := hk.2.1.lt qm; rw [e] at this; omega
  obtain ⟨rr, er⟩ : ∃ rr, q.s.edge = x :: rr := by
    have := edge_at q.s 0
    rw [Nat.add_zero, hk.2.2] at this
    cases c : q.s.edge with
    | nil => rw [c] at this; simp at this
    | cons a l => rw [c] at this; simp at this; exact ⟨l, by rw [this]⟩
  have R := fq.lv
  rw [er] at R
  refine (hang_any (lv := d.lv) (ev := d.ev) (kv := d.kv) (lq := q.lv) (o2 := ptr m) (e2 := q.ev) (k2 := q.kv) fd.at_ fq.at_ (fun c => h3.apart hd hq hdq d.s.p (.inl rfl) (.inl c.symm)) R hx b2 (by omega)).mono ?_
  rintro e w4 ⟨rfl, gh⟩
  exact ⟨rfl, h3.rehang hd hk hx b2 b1 b3 gh, (Below.ch hb).trans gh.ch (fun j _ e => .inr ⟨d, hd, hgC_has e⟩)⟩
/-- The upper node of a parted edge is hung. -/
theorem hang_part {w w3 w4 : World} {tb m r u k : Nat} {nf : Int} {T : List Fn} {d q : Fn} {x y : ByteArray} (h : TM w tb m r nf (T.length : Int) T) (hb : Below w.heap.size w w3) (hd : d ∈ T) (hq : q ∈ T) (hk : AtK (T.map Fn.s) d.s x q.s) (hx : okT x) (hT : T.length < 900000) (k0 : 0 < k) (kl : k < q.s.m) (hy : q.s.edge[k]? = some y) (pr : Pr w3 w4 tb q.s.p m u k (ptr r) q.ev q.kv nf (T.length : Int) q.s.edge y) :
    Calls Tryz.prog 37 #[ptr d.s.p, ptr u] w4 fun e w' => e = .returned (.tuple #[]) ∧ Pm w w' tb m r u k nf T q := by
  have h3 := h.below hb
  have fd := h3.nd d hd
  have fq := h3.nd q hq
  obtain ⟨nk, kd, b1, b2, b3⟩ := fd.kv
  have qm := (h.inv.le q.s (List.mem_map_of_mem hq)).1
  have hdq : d ≠ q := fun e => by have := hk.2.1.lt qm; rw [e] at this; omega
  obtain ⟨rr, er⟩ : ∃ rr, q.s.edge.take k = x :: rr := by
    have := edge_at q.s 0
    rw [Nat.add_zero, hk.2.2] at this
    cases c : q.s.edge with
    | nil => rw [c] at this; simp at this
    | cons a l =>
      rw [c] at this
      simp at this
      cases k with
      | zero => omega
      | succ k => exact ⟨l.take k, by rw [this]; rfl⟩
  obtain ⟨lu, mb, u1, u2, u3, u4⟩ := pr.up
  have u2' := u2
  rw [er] at u2'
  have stay : ∀ j, d.has j → w4.heap[j]? = w3.heap[j]? := fun j c => pr.ch.block j (fd.lt c) (fun e => by
    rcases e with e | e
    · exact h3.tb_ne hd (by rw [← e]; exact c)
    · exact h3.apart hd hq hdq j c (.inl e))
  have b2' : MG w4 d.kv nk kd := b2.keep (fun b e => stay b (.inr (.inr e)))
  refine (hang_any (lv := d.lv) (ev := d.ev) (kv := d.kv) (lq := lu) (o2 := ptr m) (e2 := .map none) (k2 := .map (some mb)) ((stay _ (.inl rfl)).trans fd.at_) u1 (fun c => by have := pr.ge; have := fd.lt (.inl rfl); omega) (own0 u2') hx b2' (by omega)).mono ?_
  rintro e w5 ⟨rfl, gh⟩
  obtain ⟨lp, lu', mb', p1, tm⟩ := h3.parted hd hq hk hx b2 b1 b3 k0 kl hy pr gh
  have hs := hb.size
  refine ⟨rfl, ⟨lp, lu', mb', by omega, tm⟩, by have := pr.ge; omega, ?_⟩
  · refine ((Below.ch hb).trans pr.ch (fun j _ e => ?_)).trans gh.ch (fun j _ e => .inr ⟨d, hd, hgC_has e⟩)
    rcases e with e | e
    · exact .inl e
    · exact .inr ⟨q, hq, .inl e⟩
end Go.Proofs.YtepjcfhbbcaldaaGreat.Li
namespace Go.Proofs.YtepjcfhbbcaldaaGreat.Li
open Go Go.RowKit
set_option linter.unusedSimpArgs false
set_option linter.unusedVariables false
set_option maxRecDepth 100000 in
set_option maxHeartbeats 4000000 in
theorem reach_kid {w : World} {tb m r N : Nat} {nf : Int} {T : List Fn} {d q : Fn} {v : Value} {x : ByteArray} {rr : List ByteArray} (IH : ReachOk tb m r nf N) (h : TM w tb m r nf (T.length : Int) T) (hd : d ∈ T) (R : Rw w v (x :: rr)) (hq : q ∈ T) (hk : AtK (T.map Fn.s) d.s x q.s) (hN : rr.length ≤ N) (okL : ∀ t ∈ x :: rr, t.size ≤ 65535) (okl : d.s.A.length + (rr.length + 1) ≤ 65536) (hT : T.length + (rr.length + 1) < 900000) :
    Calls Tryz.prog 22 #[ptr tb, ptr d.s.p, v] w fun e w' => ∃ g, e = .returned (ptr g) ∧ Rch w w' tb m r nf T (d.s.A ++ x :: rr) 2 g := by
  have hx : okT x := by have := okL x List.mem_cons_self; unfold okT maxLen; omega
  obtain ⟨nk, kd, b1, b2, b3⟩ := (h.nd d hd).kv
  have hkx : kd x = some (ptr q.s.p) := (b3 x _ hx).2 ⟨_, hk, rfl⟩
  obtain ⟨g, o, n, cap, rfl, hn, hcap, hgl, hc0, -⟩ := R.row.cons
  have fd := h.nd d hd
  have fq := h.nd q hq
  have qm := (h.inv.le q.s (List.mem_map_of_mem hq)).1
  have qok := h.ok q hq
  have elen := edge_len q.s qm
  obtain ⟨mo, hmo⟩ : ∃ mo, d.kv = .map mo := by
    rcases b2.mk with e | ⟨mb, e⟩
    · exact ⟨_, e⟩
    · exact ⟨_, e⟩
  obtain ⟨qa, qc, hlv⟩ : ∃ qa qc, q.lv = .slice qa q.s.m qc := own_sl fq.lv
  have c3 : w.cell? ⟨d.s.p, 3, none⟩ = some (.map mo) := by rw [← hmo]; exact box_cells fd.at_ 3 _ rfl
  have hlook : ∀ M, (Instr.lookup 69 (.map mo) (.string x) false).run Tryz.prog (w.drewN M) = .ok (ptr q.s.p) (w.drewN M) := fun M => by
    have bd : Below w.heap.size w (w.drewN M) := below_drewN (Below.refl _ _)
    have := (b2.keep (w' := w.drewN M) (fun b e => bd.block b (b2.lt e))).look Tryz.underlying69 zero59 hx
    rw [hkx, hmo] at this
    exact this
  have e0 : ((n : Int) == 0) = false := by rw [beq_eq_false_iff_ne]; omega
  have p0 : (0 : Int) < n := by omega
  obtain ⟨er, her⟩ : ∃ er, q.s.edge = x :: er := by
    have := edge_at q.s 0
    rw [Nat.add_zero, hk.2.2] at this
    cases c : q.s.edge with
    | nil => rw [c] at this; simp at this
    | cons a l => rw [c] at this; simp at this; exact ⟨l, by rw [this]⟩
  obtain ⟨k, hka⟩ : ∃ k, k = alk q.s.edge (x :: rr) := ⟨_, rfl⟩
  have k0 : 0 < k := by rw [hka, her]; unfold alk; rw [if_pos rfl]; omega
  have kle := alk_le q.s.edge (x :: rr)
  rw [← hka] at kle
  have ktk := alk_take q.s.edge (x :: rr)
  rw [← hka] at ktk
  have kL : k ≤ n := by have := kle.2; simp at this; omega
  have kq : k ≤ q.s.m := by have := kle.1; omega
  have LQ := hidi (fun (w2 : World) (hb : Below w.heap.size w w2) => (show w2.cell? ⟨q.s.p, 1, none⟩ = some (.slice qa q.s.m qc) from by rw [← hlv]; exact box_cells ((h.below hb).nd q hq).at_ 1 _ rfl))
  have OW := hidi (fun (w1 : World) (hb : Below w.heap.size w w1) => own_any (h.below hb).tr ((h.below hb).nd q hq).at_)
  have AL := hidi (fun (w2 : World) (hb : Below w.heap.size w w2) => (show Calls Tryz.prog 38 #[.slice qa q.s.m qc, .slice (some ⟨g, o, none⟩) n cap] w2 fun e w' => e = .returned (.int .i64 k) ∧ Below w2.heap.size w2 w' from by
    rw [hka, ← hlv]
    exact alike_any q.s.edge (x :: rr) _ _ w2 (row_own ((h.below hb).nd q hq).lv) (R.below hb).row (by omega) (by simp; omega)))
  have topd : q.s.top = d.s.A.length := hk.2.1.2.1
  have takd : q.s.A.take q.s.top = d.s.A := hk.2.1.2.2
  have atk : q.s.A.take (q.s.top + k) = d.s.A ++ (x :: rr).take k := by
    rw [← ktk, ← takd]
    unfold Nd.edge
    rw [List.take_add]
  have hki : (k : Int) ≤ n := by omega
  have hki2 : (k : Int) ≤ cap := by omega
  have hk0i : (0 : Int) ≤ k := by omega
  by_cases km : k < q.s.m
  · have kmi : (k : Int) < q.s.m := by omega
    obtain ⟨y, hy⟩ : ∃ y, q.s.edge[k]? = some y := ⟨_, List.getElem?_eq_getElem (by omega)⟩
    have hyo : okT y := by
      have : y ∈ q.s.A := List.mem_of_mem_drop (List.mem_of_getElem? hy)
      have := qok.1 y this
      unfold okT maxLen
      omega
    have PT := hidi (fun (w3 : World) (hb : Below w.heap.size w w3) => part_any (h.below hb).tr ((h.below hb).nd q hq).at_ ((h.below hb).nd q hq).lv k0 km (by omega) hy hyo (by omega) (by omega))
    have HP := hidi (fun (w3 w4 : World) (u : Nat) (hb : Below w.heap.size w w3) (pr : Pr w3 w4 tb q.s.p m u k (ptr r) q.ev q.kv nf (T.length : Int) q.s.edge y) => hang_part h hb hd hq hk hx (by omega) k0 km hy pr)
    have hnx : (x :: rr)[k]? ≠ some y := by rw [hka]; exact alk_next q.s.edge (x :: rr) y (by rw [← hka]; exact hy)
    have ON := hidi (fun (w5 : World) (u : Nat) (pm : Pm w w5 tb m r u k nf T q) => reach_part h hd hq hk.2.1 pm atk k0 km hy hnx R (by simpa using hn) kL okL (by simpa using okl) (by simpa using hT))
    unfold ptr at *
    clear h hd R hq hk hN okL okl hT hx b1 b2 b3 hkx hn hgl fd fq qm qok elen hmo hlv her hka k0 kle ktk kL kq topd takd atk hy hyo IH km hnx
    go_enter Tryz.func22, Tryz.ntmps22
    go_wp2_with fail
    go_quiet (fail)
    obtain ⟨w1, hw1⟩ : ∃ w1, w1 = w.drewN nq := ⟨_, rfl⟩
    have B1 : Hid (Below w.heap.size w w1) := by show Below _ _ _; rw [hw1]; exact below_drewN (Below.refl _ _)
    rw [← hw1]
    clear hw1 hlook c3 hc0
    go_wp2_with (first
      | (go_at_call 20; refine (OW.out w1 B1.out).mono ?_; rintro e w2 ⟨rfl, hb⟩; have B2 := hidi (B1.out.trans (hb.mono B1.out.size)); clear hb OW; have l2 := LQ.out w2 B2.out)
      | (go_at_call 38; refine (AL.out w2 B2.out).mono ?_; rintro e w3 ⟨rfl, hb⟩; have B3 := hidi (B2.out.trans (hb.mono B2.out.size)); clear hb AL l2; have l3 := LQ.out w3 B3.out)
      | (go_at_call 39; refine (PT.out w3 B3.out).mono ?_; rintro e w4 ⟨u, rfl, pr⟩; have CC := hidi (HP.out w3 w4 u B3.out pr); clear pr PT HP l3)
      | (go_at_call 37; refine CC.out.mono ?_; rintro e w5 ⟨rfl, mid⟩; have CR := hidi (ON.out w5 u mid); clear mid CC ON)
      | (go_at_call 22; refine CR.out.mono ?_; rintro e w6 ⟨g6, rfl, rc⟩; have RC := hidi rc; clear rc CR))
    all_goals go_ret
    all_goals exact ⟨g6, rfl, RC.out⟩
  · have kmi : ¬ (k : Int) < q.s.m := by omega
    have eA : q.s.A = d.s.A ++ (x :: rr).take k := by
      rw [← atk]
      have := len_take q.s qm
      rw [show q.s.top + k = q.s.A.length by omega, List.take_length]
    have HP := hidi (fun (w3 : World) (hb : Below w.heap.size w w3) => hang_same h hb hd hq hk hx (by omega))
    have ON := hidi (fun (w5 : World) (sm : Sm w w5 tb m r nf T) => reach_on IH h hq sm eA R (by simpa using hn) k0 kL (by simp; omega) okL (by simpa using okl) (by simpa using hT))
    unfold ptr at *
    clear h hd R hq hk hN okL okl hT hx b1 b2 b3 hkx hn hgl fd fq qm qok elen hmo hlv her hka k0 kle ktk kL kq topd takd atk IH km eA
    go_enter Tryz.func22, Tryz.ntmps22
    go_wp2_with fail
    go_quiet (fail)
    obtain ⟨w1, hw1⟩ : ∃ w1, w1 = w.drewN nq := ⟨_, rfl⟩
    have B1 : Hid (Below w.heap.size w w1) := by show Below _ _ _; rw [hw1]; exact below_drewN (Below.refl _ _)
    rw [← hw1]
    clear hw1 hlook c3 hc0
    go_wp2_with (first
      | (go_at_call 20; refine (OW.out w1 B1.out).mono ?_; rintro e w2 ⟨rfl, hb⟩; have B2 := hidi (B1.out.trans (hb.mono B1.out.size)); clear hb OW; have l2 := LQ.out w2 B2.out)
      | (go_at_call 38; refine (AL.out w2 B2.out).mono ?_; rintro e w3 ⟨rfl, hb⟩; have B3 := hidi (B2.out.trans (hb.mono B2.out.size)); clear hb AL l2; have l3 := LQ.out w3 B3.out)
      | (go_at_call 37; refine (HP.out w3 B3.out).mono ?_; rintro e w5 ⟨rfl, mid⟩; have CR := hidi (ON.out w5 mid); clear mid HP ON)
      | (go_at_call 22; refine CR.out.mono ?_; rintro e w6 ⟨g6, rfl, rc⟩; have RC := hidi rc; clear rc CR))
    all_goals go_ret
    all_goals exact ⟨g6, rfl, RC.out⟩
/-- REACH WHOLE. -/
theorem reach_any (tb m r : Nat) (nf : Int) : ∀ N, ReachOk tb m r nf N
  | 0 => fun w T d v L hL h hd R okL okl hT => by
    obtain rfl : L = [] := List.length_eq_zero_iff.1 (by omega)
    refine (reach_zero h hd R).mono ?_
    rintro e w' ⟨g, rfl, ⟨T', q, c1, c2, c3, c4, c5, c6, c9, c10, c7⟩, c8⟩
    exact ⟨g, rfl, ⟨T', q, c1, c2, c3, c4, c5, by omega, c9, c10, c7⟩, c8⟩
  | N + 1 => fun w T d v L hL h hd R okL okl hT => by
    cases L with
    | nil =>
      refine (reach_zero h hd R).mono ?_
      rintro e w' ⟨g, rfl, ⟨T', q, c1, c2, c3, c4, c5, c6, c9, c10, c7⟩, c8⟩
      exact ⟨g, rfl, ⟨T', q, c1, c2, c3, c4, c5, by omega, c9, c10, c7⟩, c8⟩
    | cons x rr =>
      have hx : okT x := by have := okL x List.mem_cons_self; unfold okT maxLen; omega
      simp only [List.length_cons] at hL okl hT
      obtain ⟨nk, kd, b1, b2, b3, b4⟩ := h.look hd hx
      rcases b4 with ⟨q, hq, hk, _⟩ | ⟨_, no⟩
      · exact reach_kid (reach_any tb m r nf N) h hd R hq hk (by omega) okL okl hT
      · refine (reach_leaf h hd R no okL okl (by omega)).mono ?_
        rintro e w' ⟨g, rfl, ⟨T', q, c1, c2, c3, c4, c5, c6, c9, c10, c7⟩, c8⟩
        exact ⟨g, rfl, ⟨T', q, c1, c2, c3, c4, c5, by omega, c9, c10, c7⟩, c8⟩
end Go.Proofs.YtepjcfhbbcaldaaGreat.Li
namespace Go.Proofs.YtepjcfhbbcaldaaGreat.Li
open Go Go.RowKit
set_option linter.unusedSimpArgs false
set_option linter.unusedVariables false
def setE (en : ByteArray → Option Int) (x : ByteArray) (q : Int) : ByteArray → Option Int := fun y => if y = x then some q else en y
def une (A : List ByteArray) (x : ByteArray) (q : Int) (n : Nat) (ev : Value) (f : Fn) : Fn := if f.s.A = A then { f with en := setE f.en x q, ne := n, ev := ev } else f
theorem une_s (A : List ByteArray) (x : ByteArray) (q : Int) (n : Nat) (ev : Value) (f : Fn) : (une A x q n ev f).s = f.s := by unfold une; split <;> rfl
theorem une_map (A : List ByteArray) (x : ByteArray) (q : Int) (n : Nat) (ev : Value) (T : List Fn) : (T.map (une A x q n ev)).map Fn.s = T.map Fn.s := by
  rw [List.map_map]
  exact List.map_congr_left (fun f _ => une_s A x q n ev f)
theorem une_ne {A : List ByteArray} {x : ByteArray} {q : Int} {n : Nat} {ev : Value} {f : Fn} (h : f.s.A ≠ A) : une A x q n ev f = f := if_neg h
theorem une_at {x : ByteArray} {q : Int} {n : Nat} {ev : Value} (f : Fn) : une f.s.A x q n ev f = { f with en := setE f.en x q, ne := n, ev := ev } := if_pos rfl
theorem une_has {A : List ByteArray} {x : ByteArray} {q : Int} {n : Nat} {ev : Value} {f : Fn} {k : Nat} (h : (une A x q n ev f).has k) : f.has k ∨ (f.s.A = A ∧ ev = .map (some k)) := by
  by_cases c : f.s.A = A
  · subst c
    rw [une_at] at h
    rcases h with h | h | h
    · exact .inl (.inl h)
    · exact .inr ⟨rfl, h⟩
    · exact .inl (.inr (.inr h))
  · rw [une_ne c] at h
    exact .inl h
section
variable {w w' : World} {tb m r : Nat} {nf nn : Int} {T : List Fn} {f : Fn} {x : ByteArray} {q : Int}
/-- A key is noted at a node. -/
theorem TM.noted (h : TM w tb m r nf nn T) (hf : f ∈ T) (hx : okT x) (nt : Nt w w' tb f.s.p m (ptr r) f.lv f.ev f.kv nf nn f.ne (fun k => (f.en k).map (.int .i64)) x q) :
    ∃ n mb, TM w' tb m r (nf + if f.ne = 0 then 1 else 0) nn (T.map (une f.s.A x q n (.map (some mb)))) ∧ 0 < n ∧ n ≤ f.ne + 1 ∧ (f.ev = .map (some mb) ∨ w.heap.size ≤ mb) := by
  obtain ⟨tr, ⟨mb, n1, n2, n3⟩, nc⟩ := nt
  have ff := h.nd f hf
  have nC : ∀ j, (j = tb ∨ j = f.s.p ∨ f.ev = .map (some j)) → j = tb ∨ f.has j := fun j c => c.imp id (fun c => c.elim .inl (fun c => .inr (.inl c)))
  have n9 : ∀ j, (j = tb ∨ j = f.s.p ∨ f.ev = .map (some j)) → No9 w j := fun j c => by
    rcases nC j c with c | c
    · rw [c]; exact no9_cells h.tr (by decide)
    · exact ff.no9 c
  have hv : f.ev = .map (some mb) ∨ w.heap.size ≤ mb := n3.imp id (fun c => c.2)
  have hpos : 0 < szG (fun k => (f.en k).map (Value.int .i64)) x f.ne := by
    unfold szG
    split
    · rename_i c
      rcases ff.e0 with e | e
      · have := ff.ev
        rw [e] at this
        rcases this with ⟨_, _, b⟩ | ⟨mb, D, a, _⟩
        · rw [b x hx] at c; cases c
        · cases a
      · exact e
    · omega
  refine ⟨szG (fun k => (f.en k).map (Value.int .i64)) x f.ne, mb, ⟨tr, ?_, ?_, ?_, ?_, ?_⟩, hpos, by unfold szG; split <;> omega, hv⟩
  · rw [une_map]; exact h.inv
  · obtain ⟨a, ha, e1, e2⟩ := h.rt
    exact ⟨_, List.mem_map_of_mem ha, by rw [une_s]; exact e1, by rw [une_s]; exact e2⟩
  · rw [une_map, List.length_map]
    intro b0 hb0
    obtain ⟨a, ha, rfl⟩ := List.mem_map.1 hb0
    by_cases e : a.s.A = f.s.A
    · obtain rfl := h.same ha hf e
      rw [une_at]
      have kvs : ∀ b, a.kv = .map (some b) → w'.heap[b]? = w.heap[b]? := fun b e => nc.block b (ff.lt (.inr (.inr e))) (fun c => by
        rcases c with c | c | c
        · exact h.tb_ne ha (.inr (.inr (by rw [← c]; exact e)))
        · obtain ⟨nk, kd, _, hm, _⟩ := ff.kv
          obtain ⟨es, cl, q⟩ := hm.block e
          rw [c, ff.at_] at q
          cases q
        · exact ff.nb b c e)
      refine ⟨n1, ?_, ?_, .inr hpos, ?_, fun k c e => ?_⟩
      · refine own_ch ff.lv nc (fun g hg c => ?_)
        obtain ⟨cur, e⟩ := own_lt ff.lv hg
        exact n9 g c cur e
      · refine n2.congr (fun k hk => ?_)
        show (setE a.en x q k).map (Value.int .i64) = setG (fun k => (a.en k).map (Value.int .i64)) x (some (.int .i64 q)) k
        unfold setG setE
        by_cases c : k = x
        · rw [if_pos c, if_pos c]; rfl
        · rw [if_neg c, if_neg c]
      · obtain ⟨nk, kd, b1, b2, b3⟩ := ff.kv
        exact ⟨nk, kd, b1, b2.keep kvs, b3⟩
      · have e' : a.kv = .map (some k) := e
        have c' : Value.map (some mb) = .map (some k) := c
        cases c'
        rcases hv with v | v
        · exact ff.nb mb v e'
        · have := ff.lt (.inr (.inr e'))
          omega
    · rw [une_ne e]
      have af : a ≠ f := fun c => e (by rw [c])
      refine (h.nd a ha).keep nc (fun k c1 c2 => ?_) n9 (Nat.le_refl _) (fun _ _ => Iff.rfl)
      rcases nC k c2 with c | c
      · exact h.tb_ne ha (by rw [← c]; exact c1)
      · exact h.apart ha hf af k c1 c
  · rw [List.pairwise_map]
    refine h.dis.imp_of_mem (fun {a b} ha hb c => ?_)
    have one : ∀ g ∈ T, ∀ k, (une f.s.A x q (szG (fun k => (f.en k).map (Value.int .i64)) x f.ne) (.map (some mb)) g).has k → g.has k ∨ (g = f ∧ w.heap.size ≤ k) := fun g hg k hk => by
      rcases une_has hk with e | ⟨e1, e2⟩
      · exact .inl e
      · obtain rfl := h.same hg hf e1
        cases e2
        rcases hv with v | v
        · exact .inl (.inr (.inl v))
        · exact .inr ⟨rfl, v⟩
    intro k hka hkb
    rcases one a ha k hka with e1 | ⟨e1, e2⟩ <;> rcases one b hb k hkb with e3 | ⟨e3, e4⟩
    · exact c k e1 e3
    · have := (h.nd a ha).lt e1
      omega
    · have := (h.nd b hb).lt e3
      omega
    · rw [e1, e3] at c
      exact c f.s.p (.inl rfl) (.inl rfl)
  · intro b0 hb0
    obtain ⟨a, ha, rfl⟩ := List.mem_map.1 hb0
    rw [une_s]
    exact h.ok a ha
end
/-- What a trie holds. -/
def HasE (T : List Fn) (F : List ByteArray) (y : ByteArray) (z : Int) : Prop := ∃ f ∈ T, f.s.A = F ∧ f.en y = some z
theorem Grow.has {w : World} {tb m r : Nat} {nf nn : Int} {T T' : List Fn} (h' : TM w tb m r nf nn T') (g : Grow T T') (F : List ByteArray) (y : ByteArray) (z : Int) : HasE T' F y z ↔ HasE T F y z := by
  constructor
  · rintro ⟨f, hf, e1, e2⟩
    rcases g.new f hf with ⟨a, ha, e⟩ | ⟨_, c⟩
    · obtain ⟨b, hb, g1, g2, g3, g4⟩ := g.old a ha
      obtain rfl := h'.same hb hf (g1.trans e)
      exact ⟨a, ha, e.trans e1, by rw [← g2]; exact e2⟩
    · rw [c] at e2; cases e2
  · rintro ⟨f, hf, e1, e2⟩
    obtain ⟨b, hb, g1, g2, g3, g4⟩ := g.old f hf
    exact ⟨b, hb, g1.trans e1, by rw [g2]; exact e2⟩
theorem noted_has {w : World} {tb m r : Nat} {nf nn : Int} {T : List Fn} (h : TM w tb m r nf nn T) {f : Fn} (hf : f ∈ T) (x : ByteArray) (q : Int) (n : Nat) (ev : Value) (F : List ByteArray) (y : ByteArray) (z : Int) : HasE (T.map (une f.s.A x q n ev)) F y z ↔ (F = f.s.A ∧ y = x ∧ z = q) ∨ (¬ (F = f.s.A ∧ y = x) ∧ HasE T F y z) := by
  constructor
  · rintro ⟨b0, hb0, e1, e2⟩
    obtain ⟨a, ha, rfl⟩ := List.mem_map.1 hb0
    rw [une_s] at e1
    by_cases c : a.s.A = f.s.A
    · obtain rfl := h.same ha hf c
      rw [une_at] at e2
      have e2' : setE a.en x q y = some z := e2
      unfold setE at e2'
      split at e2'
      · rename_i e
        cases e2'
        exact .inl ⟨e1.symm, e, rfl⟩
      · rename_i e
        exact .inr ⟨fun c => e c.2, a, ha, e1, e2'⟩
    · rw [une_ne c] at e2
      exact .inr ⟨fun d => c (e1.trans d.1), a, ha, e1, e2⟩
  · rintro (⟨rfl, rfl, rfl⟩ | ⟨hn, a, ha, e1, e2⟩)
    · refine ⟨_, List.mem_map_of_mem hf, by rw [une_s], ?_⟩
      rw [une_at]
      show setE f.en y z y = some z
      unfold setE
      rw [if_pos rfl]
    · refine ⟨_, List.mem_map_of_mem ha, by rw [une_s]; exact e1, ?_⟩
      by_cases c : a.s.A = f.s.A
      · obtain rfl := h.same ha hf c
        rw [une_at]
        show setE a.en x q y = some z
        unfold setE
        rw [if_neg (fun d => hn ⟨e1.symm, d⟩)]
        exact e2
      · rw [une_ne c]
        exact e2
end Go.Proofs.YtepjcfhbbcaldaaGreat.Li
