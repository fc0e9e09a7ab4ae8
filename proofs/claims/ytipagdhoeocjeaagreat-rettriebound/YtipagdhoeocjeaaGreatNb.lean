import Derived.Test.YtipagdhoeocjeaaGreatKu
import Derived.LaidEqlPtr
namespace Go.Proofs.YtipagdhoeocjeaaGreat.Li
open Go Go.RowKit
set_option linter.unusedSimpArgs false
set_option linter.unusedVariables false
theorem Rw.drop {w : World} {g o n cap k : Nat} {L : List ByteArray} (h : Rw w (.slice (some ⟨g, o, none⟩) n cap) L) (hk : k ≤ n) : Rw w (.slice (if cap = k then some ⟨g, o, none⟩ else some ⟨g, o + k, none⟩) (n - k) (cap - k)) (L.drop k) := by
  obtain ⟨a, n', cap', e, hn, hc, hx⟩ := h.row
  simp only [Value.slice.injEq] at e
  obtain ⟨rfl, rfl, rfl⟩ := e
  refine ⟨⟨_, _, _, rfl, by rw [List.length_drop, hn], by omega, fun ne => ?_⟩, fun j hj => ?_⟩
  · have hlt : k < L.length := by
      rcases Nat.lt_or_ge k L.length with c | c
      · exact c
      · exact (ne (List.drop_eq_nil_of_le c)).elim
    obtain ⟨g', o', e, hg, hcell⟩ := hx (fun c => by rw [c] at hlt; simp at hlt)
    simp only [Option.some.injEq, Addr.mk.injEq, and_true] at e
    obtain ⟨rfl, rfl⟩ := e
    refine ⟨g, o + k, by rw [if_neg (by omega)], hg, fun i y hi => ?_⟩
    rw [List.getElem?_drop] at hi
    have := hcell (k + i) y hi
    rw [show o + k + i = o + (k + i) by omega]
    exact this
  · refine h.ty j ?_
    split at hj <;> exact hj
/-- What the trie holds is as it was; nodes without entries may have come. -/
structure Grow (T T' : List Fn) : Prop where
  old : ∀ f ∈ T, ∃ f' ∈ T', f'.s.A = f.s.A ∧ f'.ms = f.ms ∧ f'.s.p = f.s.p
  new : ∀ f' ∈ T', (∃ f ∈ T, f.s.A = f'.s.A) ∨ f'.ms = none
  le : T.length ≤ T'.length
theorem Grow.refl (T : List Fn) : Grow T T := ⟨fun f hf => ⟨f, hf, rfl, rfl, rfl⟩, fun f hf => .inl ⟨f, hf, rfl⟩, Nat.le_refl _⟩
theorem Grow.trans {w : World} {tb r : Nat} {nf nn : Int} {T U V : List Fn} (hV : TM w tb r nf nn V) (h : Grow T U) (k : Grow U V) : Grow T V := by
  refine ⟨fun f hf => ?_, fun f hf => ?_, Nat.le_trans h.le k.le⟩
  · obtain ⟨a, ha, e1, e2, e3⟩ := h.old f hf
    obtain ⟨b, hb, g1, g2, g3⟩ := k.old a ha
    exact ⟨b, hb, g1.trans e1, g2.trans e2, g3.trans e3⟩
  · rcases k.new f hf with ⟨a, ha, e⟩ | c
    · rcases h.new a ha with ⟨b, hb, e'⟩ | c
      · exact .inl ⟨b, hb, e'.trans e⟩
      · obtain ⟨b, hb, g1, g2, g3⟩ := k.old a ha
        obtain rfl := hV.same hb hf (g1.trans e)
        exact .inr (g2.trans c)
    · exact .inr c
theorem grow_leaf {g : Nat} {A : List ByteArray} {x : ByteArray} {rr : List ByteArray} {lv kv : Value} {B : List ByteArray} (T : List Fn) : Grow T (leafN g A x rr lv :: T.map (ukv B kv)) := by
  have u : ∀ f : Fn, (ukv B kv f).ms = f.ms := fun f => by unfold ukv; split <;> rfl
  refine ⟨fun f hf => ⟨_, List.mem_cons_of_mem _ (List.mem_map_of_mem hf), by rw [ukv_s], u f, by rw [ukv_s]⟩, fun f hf => ?_, by simp⟩
  rcases List.mem_cons.1 hf with rfl | hf
  · exact .inr rfl
  · obtain ⟨a, ha, rfl⟩ := List.mem_map.1 hf
    exact .inl ⟨a, ha, by rw [ukv_s]⟩
theorem grow_part {u k : Nat} {q : Nd} {lu kv lp : Value} {B : List ByteArray} (T : List Fn) : Grow T (uprN u q k lu kv :: T.map (upt B k lp)) := by
  have p : ∀ f : Fn, (upt B k lp f).ms = f.ms := fun f => by unfold upt; split <;> rfl
  refine ⟨fun f hf => ⟨_, List.mem_cons_of_mem _ (List.mem_map_of_mem hf), by rw [upt_s, cutm_A], p f, by rw [upt_s, cutm_p]⟩, fun f hf => ?_, by simp⟩
  rcases List.mem_cons.1 hf with rfl | hf
  · exact .inr rfl
  · obtain ⟨a, ha, rfl⟩ := List.mem_map.1 hf
    exact .inl ⟨a, ha, by rw [upt_s, cutm_A]⟩
/-- The blocks that are a trie's. -/
def isT (tb : Nat) (T : List Fn) (j : Nat) : Prop := j = tb ∨ ∃ f ∈ T, f.has j
/-- Two ways part at these levels. -/
def Fork (T : List Fn) (A : List ByteArray) : Prop := ∃ x y a b, x ≠ y ∧ a ∈ T ∧ b ∈ T ∧ (A ++ [x]) <+: a.s.A ∧ (A ++ [y]) <+: b.s.A
theorem Fork.mono {T T' : List Fn} {A : List ByteArray} (h : Fork T A) (ho : ∀ f ∈ T, ∃ f' ∈ T', f'.s.A = f.s.A) : Fork T' A := by
  obtain ⟨x, y, a, b, ne, ha, hb, pa, pb⟩ := h
  obtain ⟨a', ha', ea⟩ := ho a ha
  obtain ⟨b', hb', eb⟩ := ho b hb
  exact ⟨x, y, a', b', ne, ha', hb', by rw [ea]; exact pa, by rw [eb]; exact pb⟩
/-- Which nodes have come. -/
def Frm (T T' : List Fn) (F : List ByteArray) : Prop := ∀ f ∈ T', (∃ f0 ∈ T, f0.s.A = f.s.A) ∨ f.s.A = F ∨ Fork T' f.s.A
theorem Frm.refl (T : List Fn) (F : List ByteArray) : Frm T T F := fun f hf => .inl ⟨f, hf, rfl⟩
/-- What reach leaves. -/
structure Rch (w w' : World) (tb r : Nat) (nf : Int) (T : List Fn) (F : List ByteArray) (n g : Nat) : Prop where
  ex : ∃ T' q, q ∈ T' ∧ q.s.A = F ∧ q.s.p = g ∧ TM w' tb r nf (T'.length : Int) T' ∧ Grow T T' ∧ T'.length ≤ T.length + n ∧ (q.ms = none ∨ (T'.length = T.length ∧ ∃ f ∈ T, f.s.A = F)) ∧ Frm T T' F ∧ ∀ j, isT tb T' j → isT tb T j ∨ w.heap.size ≤ j
  ch : Ch (isT tb T) w w'
theorem zero60 (w : World) : (zeroValue 60).run Tryz.prog w = .ok (.pointer none) w := by kernel_rfl
theorem Lf.below {w w1 w2 : World} {tb g : Nat} {rt : Value} {nf nn : Int} {L : List ByteArray} (h : Lf w w1 tb g rt nf nn L) (hb : Below w1.heap.size w1 w2) : Lf w w2 tb g rt nf nn L := by
  obtain ⟨h1, ⟨lv, h2, h3⟩, h4, h5⟩ := h
  exact ⟨later_at h1 hb, ⟨lv, later_at h2 hb, own_below h3 hb⟩, h4, h5.then (Below.ch hb)⟩
/-- A leaf is hung. -/
theorem hang_leaf {w w2 : World} {tb r g2 : Nat} {nf : Int} {T : List Fn} {d : Fn} {x : ByteArray} {rr : List ByteArray} (h : TM w tb r nf (T.length : Int) T) (hd : d ∈ T) (no : ∀ e, ¬ AtK (T.map Fn.s) d.s x e) (okL : ∀ t ∈ x :: rr, t.size ≤ 65535) (okl : d.s.A.length + (rr.length + 1) ≤ 65536) (hT : T.length < 900000) (w1 : World) (hb : Below w.heap.size w w1) (lf : Lf w1 w2 tb g2 (ptr r) nf (T.length : Int) (x :: rr)) :
    Calls Tryz.prog 50 #[ptr d.s.p, ptr g2] w2 fun e w3 => e = .returned (.tuple #[]) ∧ Rch w w3 tb r nf T (d.s.A ++ x :: rr) 1 g2 := by
  have hx : okT x := by have := okL x List.mem_cons_self; unfold okT maxLen; omega
  obtain ⟨nk, kd, b1, b2, b3, b4⟩ := h.look hd hx
  have h1 := h.below hb
  have fd1 := h1.nd d hd
  obtain ⟨lv, l1, l2⟩ := lf.nd
  have dne : d.s.p ≠ tb := fun c => h.tb_ne hd (.inl c.symm)
  have dl1 : d.s.p < w1.heap.size := fd1.lt (.inl rfl)
  have b2' : MG w1 d.kv nk kd := b2.keep (fun b e => hb.block b (b2.lt e))
  have b2'' : MG w2 d.kv nk kd := b2'.keep (fun b e => lf.ch.block b (b2'.lt e) (fun c => h.tb_ne hd (.inr (.inr (by rw [← c]; exact e)))))
  refine (hang_any (lv := d.lv) (ev := d.ev) (kv := d.kv) (lq := lv) (e2 := .pointer none) (k2 := .map none) ((lf.ch.block _ dl1 dne).trans fd1.at_) l1 (fun c => by have := lf.ge; omega) (own0 l2) hx b2'' (by omega)).mono ?_
  rintro e w3 ⟨rfl, gh⟩
  obtain ⟨kv, lv', hkv, tm⟩ := h1.leafed hd hx no b2' b1 b3 lf gh okL okl
  have hs1 := hb.size
  have hs2 := lf.ch.size
  refine ⟨rfl, ⟨leafN g2 d.s.A x rr lv' :: T.map (ukv d.s.A kv), leafN g2 d.s.A x rr lv', List.mem_cons_self, rfl, rfl, ?_, grow_leaf T, by simp, .inl rfl, fun f hf => ?_, ?_⟩, ?_⟩
  · rw [show ((leafN g2 d.s.A x rr lv' :: T.map (ukv d.s.A kv)).length : Int) = (T.length : Int) + 1 by simp]
    exact tm
  · rcases List.mem_cons.1 hf with rfl | hf
    · exact .inr (.inl rfl)
    · obtain ⟨a, ha, rfl⟩ := List.mem_map.1 hf
      exact .inl ⟨a, ha, by rw [ukv_s]⟩
  · rintro j (c | ⟨f, hf, c⟩)
    · exact .inl (.inl c)
    · rcases List.mem_cons.1 hf with rfl | hf
      · rcases c with c | c | c
        · have : j = g2 := c
          have := lf.ge
          exact .inr (by omega)
        · cases c
        · cases c
      · obtain ⟨a, ha, rfl⟩ := List.mem_map.1 hf
        rcases ukv_has c with c | ⟨_, c⟩
        · exact .inl (.inr ⟨a, ha, c⟩)
        · rcases hkv with e | e
          · exact .inl (.inr ⟨d, hd, .inr (.inr (by rw [← e]; exact c))⟩)
          · rw [e] at c
            cases c
            exact .inr (by omega)
  · exact ((Below.ch hb).trans lf.ch (fun j _ e => .inl e)).trans gh.ch (fun j _ e => .inr ⟨d, hd, hgC_has e⟩)
end Go.Proofs.YtipagdhoeocjeaaGreat.Li
namespace Go.Proofs.YtipagdhoeocjeaaGreat.Li
open Go Go.RowKit
set_option linter.unusedSimpArgs false
set_option linter.unusedVariables false
theorem TM.no9 {w : World} {tb r : Nat} {nf nn : Int} {T : List Fn} (h : TM w tb r nf nn T) {j : Nat} (hj : isT tb T j) : No9 w j := by
  rcases hj with e | ⟨f, hf, c⟩
  · rw [e]; exact no9_cells h.tr (by decide)
  · exact (h.nd f hf).no9 c
/-- A kid was hung again. -/
structure Sm (w w' : World) (tb r : Nat) (nf : Int) (T : List Fn) : Prop where
  tm : TM w' tb r nf (T.length : Int) T
  ch : Ch (isT tb T) w w'
/-- An edge was parted. -/
structure Pm (w w' : World) (tb r u k : Nat) (nf : Int) (T : List Fn) (q : Fn) : Prop where
  ex : ∃ lp lu mb, w.heap.size ≤ mb ∧ TM w' tb r nf ((T.length : Int) + 1) (uprN u q.s k lu (.map (some mb)) :: T.map (upt q.s.A k lp))
  ge : w.heap.size ≤ u
  ch : Ch (isT tb T) w w'
theorem rw_stay {w w5 : World} {tb r : Nat} {nf nn : Int} {T : List Fn} {v : Value} {L : List ByteArray} (h : TM w tb r nf nn T) (hc : Ch (isT tb T) w w5) (R : Rw w v L) : Rw w5 v L := R.ch hc (fun j hj c => by
  obtain ⟨cur, e⟩ := R.ty j hj
  exact (h.no9 c cur).1 e)
/-- A kid is hung again. -/
theorem hang_same {w w3 : World} {tb r : Nat} {nf : Int} {T : List Fn} {d q : Fn} {x : ByteArray} (h : TM w tb r nf (T.length : Int) T) (hb : Below w.heap.size w w3) (hd : d ∈ T) (hq : q ∈ T) (hk : AtK (T.map Fn.s) d.s x q.s) (hx : okT x) (hT : T.length < 900000) :
    Calls Tryz.prog 50 #[ptr d.s.p, ptr q.s.p] w3 fun e w' => e = .returned (.tuple #[]) ∧ Sm w w' tb r nf T := by
  have h3 := h.below hb
  have fd := h3.nd d hd
  have fq := h3.nd q hq
  obtain ⟨nk, kd, b1, b2, b3⟩ := fd.kv
  have qm := (h.inv.le q.s (List.mem_map_of_mem hq)).1
  have hdq : d ≠ q := fun e => by have := hk.2.1.lt qm; rw [e] at this; omega
  obtain ⟨rr, er⟩ : ∃ rr, q.s.edge = x :: rr := by
    have := edge_at q.s 0
    rw [Nat.add_zero, hk.2.2] at this
    cases c : q.s.edge with
    | nil => rw [c] at this; simp at this
    | cons a l => rw [c] at this; simp at this; exact ⟨l, by rw [this]⟩
  have R := fq.lv
  rw [er] at R
  refine (hang_any (lv := d.lv) (ev := d.ev) (kv := d.kv) (lq := q.lv) (e2 := q.ev) (k2 := q.kv) fd.at_ fq.at_ (fun c => h3.apart hd hq hdq d.s.p (.inl rfl) (.inl c.symm)) R hx b2 (by omega)).mono ?_
  rintro e w4 ⟨rfl, gh⟩
  exact ⟨rfl, h3.rehang hd hk hx b2 b1 b3 gh, (Below.ch hb).trans gh.ch (fun j _ e => .inr ⟨d, hd, hgC_has e⟩)⟩
/-- The upper node of a parted edge is hung. -/
theorem hang_part {w w3 w4 : World} {tb r u k : Nat} {nf : Int} {T : List Fn} {d q : Fn} {x y : ByteArray} (h : TM w tb r nf (T.length : Int) T) (hb : Below w.heap.size w w3) (hd : d ∈ T) (hq : q ∈ T) (hk : AtK (T.map Fn.s) d.s x q.s) (hx : okT x) (hT : T.length < 900000) (k0 : 0 < k) (kl : k < q.s.m) (hy : q.s.edge[k]? = some y) (pr : Pr w3 w4 tb q.s.p u k (ptr r) q.ev q.kv nf (T.length : Int) q.s.edge y) :
    Calls Tryz.prog 50 #[ptr d.s.p, ptr u] w4 fun e w' => e = .returned (.tuple #[]) ∧ Pm w w' tb r u k nf T q := by
  have h3 := h.below hb
  have fd := h3.nd d hd
  have fq := h3.nd q hq
  obtain ⟨nk, kd, b1, b2, b3⟩ := fd.kv
  have qm := (h.inv.le q.s (List.mem_map_of_mem hq)).1
  have hdq : d ≠ q := fun e => by have := hk.2.1.lt qm; rw [e] at this; omega
  obtain ⟨rr, er⟩ : ∃ rr, q.s.edge.take k = x :: rr := by
    have := edge_at q.s 0
    rw [Nat.add_zero, hk.2.2] at this
    cases c : q.s.edge with
    | nil => rw [c] at this; simp at this
    | cons a l =>
      rw [c] at this
      simp at this
      cases k with
      | zero => omega
      | succ k => exact ⟨l.take k, by rw [this]; rfl⟩
  obtain ⟨lu, mb, u1, u2, u3, u4⟩ := pr.up
  have u2' := u2
  rw [er] at u2'
  have stay : ∀ j, d.has j → w4.heap[j]? = w3.heap[j]? := fun j c => pr.ch.block j (fd.lt c) (fun e => by
    rcases e with e | e
    · exact h3.tb_ne hd (by rw [← e]; exact c)
    · exact h3.apart hd hq hdq j c (.inl e))
  have b2' : MG w4 d.kv nk kd := b2.keep (fun b e => stay b (.inr (.inr e)))
  refine (hang_any (lv := d.lv) (ev := d.ev) (kv := d.kv) (lq := lu) (e2 := .pointer none) (k2 := .map (some mb)) ((stay _ (.inl rfl)).trans fd.at_) u1 (fun c => by have := pr.ge; have := fd.lt (.inl rfl); omega) (own0 u2') hx b2' (by omega)).mono ?_
  rintro e w5 ⟨rfl, gh⟩
  obtain ⟨lp, lu', mb', p1, tm⟩ := h3.parted hd hq hk hx b2 b1 b3 k0 kl hy pr gh
  have hs := hb.size
  refine ⟨rfl, ⟨lp, lu', mb', by omega, tm⟩, by have := pr.ge; omega, ?_⟩
  · refine ((Below.ch hb).trans pr.ch (fun j _ e => ?_)).trans gh.ch (fun j _ e => .inr ⟨d, hd, hgC_has e⟩)
    rcases e with e | e
    · exact .inl e
    · exact .inr ⟨q, hq, .inl e⟩
/-- What reach has done, when these levels are left: an edge was parted. -/
structure RP (w wx : World) (tb r : Nat) (nf : Int) (T : List Fn) (F : List ByteArray) (g : Nat) (rest : List ByteArray) : Prop where
  ex : ∃ T2 U y, U ∈ T2 ∧ U.s.p = g ∧ U.s.A ++ rest = F ∧ U.ms = none ∧ TM wx tb r nf (T2.length : Int) T2 ∧ Grow T T2 ∧ T2.length = T.length + 1 ∧ (∀ z, rest[0]? = some z → z ≠ y ∧ ∀ e, ¬ AtK (T2.map Fn.s) U.s z e) ∧ (∀ f ∈ T2, (∃ f0 ∈ T, f0.s.A = f.s.A) ∨ f = U) ∧ (∃ b ∈ T2, (U.s.A ++ [y]) <+: b.s.A) ∧ ∀ j, isT tb T2 j → isT tb T j ∨ w.heap.size ≤ j
  ch : Ch (isT tb T) w wx
def RI (w : World) (tb r : Nat) (nf : Int) (T : List Fn) (F : List ByteArray) (wx : World) (g : Nat) (rest : List ByteArray) : Prop :=
  (∃ q ∈ T, q.s.p = g ∧ q.s.A ++ rest = F ∧ TM wx tb r nf (T.length : Int) T ∧ Ch (isT tb T) w wx) ∨ RP w wx tb r nf T F g rest ∨ (rest = [] ∧ Rch w wx tb r nf T F 2 g)
section
variable {w wr : World} {tb r g : Nat} {nf : Int} {T : List Fn} {F rr : List ByteArray} {x : ByteArray}
theorem RI.done (h : RI w tb r nf T F wr g []) : Rch w wr tb r nf T F 2 g := by
  rcases h with ⟨q, hq, e1, e2, tm, ch⟩ | ⟨⟨T2, U, y, u1, u2, u3, u4, tm, gr, l2, no, fr, bb, is⟩, ch⟩ | ⟨_, h⟩
  · rw [List.append_nil] at e2
    exact ⟨⟨T, q, hq, e2, e1, tm, Grow.refl T, by omega, .inr ⟨rfl, q, hq, e2⟩, Frm.refl _ _, fun j c => .inl c⟩, ch⟩
  · rw [List.append_nil] at u3
    refine ⟨⟨T2, U, u1, u3, u2, tm, gr, by omega, .inl u4, fun f hf => ?_, is⟩, ch⟩
    rcases fr f hf with c | c
    · exact .inl c
    · exact .inr (.inl (by rw [c]; exact u3))
  · exact h
/-- The leaf behind a parted edge. -/
theorem RP.leaf {w6 : World} {T2 : List Fn} {U : Fn} {y : ByteArray} {g6 : Nat} (u1 : U ∈ T2) (u3 : U.s.A ++ x :: rr = F) (tm : TM wr tb r nf (T2.length : Int) T2) (gr : Grow T T2) (l2 : T2.length = T.length + 1) (no : ∀ z, (x :: rr)[0]? = some z → z ≠ y ∧ ∀ e, ¬ AtK (T2.map Fn.s) U.s z e) (fr : ∀ f ∈ T2, (∃ f0 ∈ T, f0.s.A = f.s.A) ∨ f = U) (bb : ∃ b ∈ T2, (U.s.A ++ [y]) <+: b.s.A) (is : ∀ j, isT tb T2 j → isT tb T j ∨ w.heap.size ≤ j) (ch : Ch (isT tb T) w wr)
    (rc : Rch wr w6 tb r nf T2 (U.s.A ++ x :: rr) 1 g6) : Rch w w6 tb r nf T F 2 g6 := by
  obtain ⟨⟨T6, q6, n1, n2, n3, n4, n5, n6, n8, nf7, n7⟩, nc⟩ := rc
  obtain ⟨xy, nox⟩ := no x rfl
  have s5 := ch.size
  rw [u3] at n2 n8 nf7
  refine ⟨⟨T6, q6, n1, n2, n3, n4, gr.trans n4 n5, by omega, .inl ?_, fun f hf => ?_, fun j c => ?_⟩, ch.trans nc (fun j hj c => (is j c).elim id (fun c => by omega))⟩
  · rcases n8 with c | ⟨_, f, hf, ef⟩
    · exact c
    · refine (tm.inv.none_ (List.mem_map_of_mem u1) nox (R := rr) f.s (List.mem_map_of_mem hf) ?_).elim
      rw [ef, ← u3]
      exact List.prefix_refl _
  · rcases nf7 f hf with ⟨f2, hf2, e2⟩ | c | c
    · rcases fr f2 hf2 with ⟨a, ha, e⟩ | c
      · exact .inl ⟨a, ha, e.trans e2⟩
      · subst c
        obtain ⟨b, hb, pb⟩ := bb
        obtain ⟨b', hb', eb, -⟩ := n5.old b hb
        refine .inr (.inr ⟨x, y, q6, b', xy, n1, hb', ?_, ?_⟩)
        · rw [n2, ← u3, e2]
          exact ⟨rr, by simp⟩
        · rw [eb, ← e2]
          exact pb
    · exact .inr (.inl c)
    · exact .inr (.inr c)
  · rcases n7 j c with c | c
    · exact is j c
    · exact .inr (by omega)
/-- A kid is hung again, and the way goes on from it. -/
theorem ri_on {w5 : World} {k : Nat} {d q : Fn} {L : List ByteArray} (hq : q ∈ T) (ch : Ch (isT tb T) w wr) (sm : Sm wr w5 tb r nf T) (eF : d.s.A ++ L = F) (eA : q.s.A = d.s.A ++ L.take k) : RI w tb r nf T F w5 q.s.p (L.drop k) :=
  .inl ⟨q, hq, rfl, by rw [eA, List.append_assoc, List.take_append_drop]; exact eF, sm.tm, ch.trans sm.ch (fun j _ c => c)⟩
/-- An edge was parted, and the way goes on from the upper node. -/
theorem ri_part {w5 : World} {u k : Nat} {d q : Fn} {L : List ByteArray} {y : ByteArray} (h : TM wr tb r nf (T.length : Int) T) (hd : d ∈ T) (hq : q ∈ T) (hk : Kid d.s q.s) (ch : Ch (isT tb T) w wr) (pm : Pm wr w5 tb r u k nf T q) (eF : d.s.A ++ L = F) (eA : q.s.A.take (q.s.top + k) = d.s.A ++ L.take k) (k0 : 0 < k) (km : k < q.s.m) (hy : q.s.edge[k]? = some y) (hne : L[k]? ≠ some y) : RI w tb r nf T F w5 u (L.drop k) := by
  obtain ⟨⟨lp, lu, mb, p1, tm⟩, pge, pc⟩ := pm
  obtain ⟨T2, hT2⟩ : ∃ T2, T2 = uprN u q.s k lu (.map (some mb)) :: T.map (upt q.s.A k lp) := ⟨_, rfl⟩
  obtain ⟨U, hU⟩ : ∃ U, U = uprN u q.s k lu (.map (some mb)) := ⟨_, rfl⟩
  have UT : U ∈ T2 := by rw [hT2, hU]; exact List.mem_cons_self
  have U0 : U.ms = none := by rw [hU]; rfl
  have UA : U.s.A = d.s.A ++ L.take k := by rw [hU]; exact eA
  have Up : U.s.p = u := by rw [hU]; rfl
  have l2 : T2.length = T.length + 1 := by rw [hT2]; simp
  have gr : Grow T T2 := by rw [hT2]; exact grow_part T
  have s5 := ch.size
  have s6 := pc.size
  refine .inr (.inl ⟨⟨T2, U, y, UT, Up, by rw [UA, List.append_assoc, List.take_append_drop]; exact eF, U0, ?_, gr, l2, fun z hz => ⟨fun c => ?_, fun e he => ?_⟩, ?_, ?_, ?_⟩, ch.trans pc (fun j _ c => c)⟩)
  · rw [l2, hT2]
    exact tm
  · rw [List.getElem?_drop, Nat.add_zero] at hz
    exact hne (by rw [hz, c])
  · rw [List.getElem?_drop, Nat.add_zero] at hz
    rw [hT2, hU, List.map_cons, upt_map] at he
    have := (h.inv.part_up (List.mem_map_of_mem hd) (List.mem_map_of_mem hq) hk k0 km u z e).1 he
    rw [edge_at] at hy
    rw [hy] at this
    exact hne (by rw [hz, this.2])
  · intro f hf
    rw [hT2] at hf
    rcases List.mem_cons.1 hf with e | hf
    · exact .inr (by rw [e, hU])
    · obtain ⟨a, ha, rfl⟩ := List.mem_map.1 hf
      exact .inl ⟨a, ha, by rw [upt_s, cutm_A]⟩
  · obtain ⟨q', hq', hqA, -⟩ := gr.old q hq
    refine ⟨q', hq', ?_⟩
    rw [hqA, UA, ← eA]
    rw [edge_at] at hy
    obtain ⟨hi, ei⟩ := List.getElem?_eq_some_iff.1 hy
    refine ⟨q.s.A.drop (q.s.top + k + 1), ?_⟩
    conv => rhs; rw [← List.take_append_drop (q.s.top + k) q.s.A, List.drop_eq_getElem_cons hi, ei]
    simp
  · rw [hT2]
    rintro j (c | ⟨f, hf, c⟩)
    · exact .inl (.inl c)
    · rcases List.mem_cons.1 hf with rfl | hf
      · rcases c with c | c | c
        · have : j = u := c
          exact .inr (by omega)
        · cases c
        · cases c
          exact .inr (by omega)
      · obtain ⟨a, ha, rfl⟩ := List.mem_map.1 hf
        exact .inl (.inr ⟨a, ha, upt_has.1 c⟩)
/-- What a round finds: no kid, or one. -/
theorem RI.step (h : RI w tb r nf T F wr g (x :: rr)) (hF : F.length ≤ 65536) (hx : okT x) (hT : T.length < 800000) :
    (∃ T2 d, d ∈ T2 ∧ d.s.p = g ∧ TM wr tb r nf (T2.length : Int) T2 ∧ (∀ e, ¬ AtK (T2.map Fn.s) d.s x e) ∧ d.s.A.length + (rr.length + 1) ≤ 65536 ∧ T2.length < 900000 ∧ ∀ w6 g6, Rch wr w6 tb r nf T2 (d.s.A ++ x :: rr) 1 g6 → RI w tb r nf T F w6 g6 [])
    ∨ (∃ d q, d ∈ T ∧ q ∈ T ∧ d.s.p = g ∧ TM wr tb r nf (T.length : Int) T ∧ AtK (T.map Fn.s) d.s x q.s ∧ d.s.A ++ x :: rr = F ∧ Ch (isT tb T) w wr) := by
  rcases h with ⟨d, hd, e1, e2, tm, ch⟩ | ⟨⟨T2, U, y, u1, u2, u3, u4, tm, gr, l2, no, fr, bb, is⟩, ch⟩ | ⟨c, _⟩
  · have hl : d.s.A.length + (rr.length + 1) ≤ 65536 := by rw [← e2] at hF; simpa using hF
    obtain ⟨nk, kd, b1, b2, b3, b4⟩ := tm.look hd hx
    rcases b4 with ⟨q, hq, c, _⟩ | ⟨_, c⟩
    · exact .inr ⟨d, q, hd, hq, e1, tm, c, e2, ch⟩
    · refine .inl ⟨T, d, hd, e1, tm, c, hl, by omega, fun w6 g6 rc => .inr (.inr ⟨rfl, ?_⟩)⟩
      obtain ⟨⟨T6, q6, n1, n2, n3, n4, n5, n6, n8, nf7, n7⟩, nc⟩ := rc
      rw [e2] at n2 n8 nf7
      have := ch.size
      exact ⟨⟨T6, q6, n1, n2, n3, n4, n5, by omega, n8, nf7, fun j c => (n7 j c).imp id (fun c => by omega)⟩, ch.trans nc (fun j _ c => c)⟩
  · have hl : U.s.A.length + (rr.length + 1) ≤ 65536 := by rw [← u3] at hF; simpa using hF
    exact .inl ⟨T2, U, u1, u2, tm, (no x rfl).2, hl, by omega, fun w6 g6 rc => .inr (.inr ⟨rfl, RP.leaf u1 u3 tm gr l2 no fr bb is ch rc⟩)⟩
  · cases c
end
end Go.Proofs.YtipagdhoeocjeaaGreat.Li
namespace Go.Proofs.YtipagdhoeocjeaaGreat.Li
open Go Go.RowKit
set_option linter.unusedSimpArgs false
set_option linter.unusedVariables false
theorem alk_self : ∀ (l : List ByteArray), alk l l = l.length
  | [] => rfl
  | a :: l => by
    unfold alk
    rw [if_pos rfl, alk_self l]
    rfl
theorem Rch.below {w w1 w2 : World} {tb r n g : Nat} {nf : Int} {T : List Fn} {F : List ByteArray} (h : Rch w w1 tb r nf T F n g) (hb : Below w1.heap.size w1 w2) : Rch w w2 tb r nf T F n g := by
  obtain ⟨⟨T', q, c1, c2, c3, c4, c5⟩, c8⟩ := h
  exact ⟨⟨T', q, c1, c2, c3, c4.below hb, c5⟩, c8.then (Below.ch hb)⟩
theorem RI.below {w w1 w2 : World} {tb r g : Nat} {nf : Int} {T : List Fn} {F rest : List ByteArray} (h : RI w tb r nf T F w1 g rest) (hb : Below w1.heap.size w1 w2) : RI w tb r nf T F w2 g rest := by
  rcases h with ⟨q, hq, e1, e2, tm, ch⟩ | ⟨⟨T2, U, y, u1, u2, u3, u4, tm, c⟩, ch⟩ | ⟨c, h⟩
  · exact .inl ⟨q, hq, e1, e2, tm.below hb, ch.then (Below.ch hb)⟩
  · exact .inr (.inl ⟨⟨T2, U, y, u1, u2, u3, u4, tm.below hb, c⟩, ch.then (Below.ch hb)⟩)
  · exact .inr (.inr ⟨c, h.below hb⟩)
theorem RI.ch {w w1 : World} {tb r g : Nat} {nf : Int} {T : List Fn} {F rest : List ByteArray} (h : RI w tb r nf T F w1 g rest) : Ch (isT tb T) w w1 := by
  rcases h with ⟨q, hq, e1, e2, tm, ch⟩ | ⟨_, ch⟩ | ⟨c, h⟩
  · exact ch
  · exact ch
  · exact h.ch
/-- What a round of reach leaves. -/
def RQ (w : World) (tb r : Nat) (nf : Int) (T : List Fn) (F : List ByteArray) (wx : World) (g : Nat) (vv : Value) (rest : List ByteArray) : Prop :=
  RI w tb r nf T F wx g rest ∧ Rw wx vv rest ∧ rest.length ≤ 65536 ∧ ∀ t ∈ rest, t.size ≤ 65535
theorem rw_of_ri {w wx wr : World} {tb r : Nat} {nf nn : Int} {T : List Fn} {v : Value} {L : List ByteArray} (h : TM wr tb r nf nn T) (R : Rw wr v L) (hc : Ch (isT tb T) wr wx) : Rw wx v L := rw_stay h hc R
set_option maxRecDepth 100000 in
set_option maxHeartbeats 8000000 in
/-- REACH WHOLE. -/
theorem reach_any {w : World} {tb r : Nat} {nf : Int} {T : List Fn} {v : Value} {L : List ByteArray} (h : TM w tb r nf (T.length : Int) T) (R : Rw w v L) (okL : ∀ t ∈ L, t.size ≤ 65535) (okl : L.length ≤ 65536) (hT : T.length < 800000) :
    Calls Tryz.prog 27 #[ptr tb, v] w fun e w' => ∃ g, e = .returned (ptr g) ∧ Rch w w' tb r nf T L 2 g := by
  have c0 := box_cells h.tr 0 _ rfl
  have Q0 : Hid (RQ w tb r nf T L w r v L) := by
    obtain ⟨f, hf, e1, e2⟩ := h.rt
    exact ⟨.inl ⟨f, hf, e2, by rw [e1]; rfl, h, Ch.refl _ _⟩, R, okl, okL⟩
  have HL := hidi (And.intro okl hT)
  clear h R okL okl hT
  unfold ptr at *
  go_enter Tryz.func27, Tryz.ntmps27
  go_wp2_with fail
  go_loopg [1, 5, 6, 7, 8] L.length (fun gk s1 s5 s6 s7 s8 wx => ∃ (rest : List ByteArray) (g : Nat), rest.length = gk ∧ s5 = .pointer (some ⟨g, 0, none⟩) ∧ Hid (RQ w tb r nf T L wx g s1 rest))
  case atStart => exact ⟨L, r, rfl, rfl, Q0⟩
  case round =>
    obtain ⟨rest, g, hr, rfl, Q⟩ := hrel
    cases rest with
    | nil =>
      obtain ⟨a, cap, rfl⟩ := Q.out.2.1.row.nil
      have FIN := hidi (Q.out.1.done)
      go_wp2_with fail
      go_ret
      exact ⟨g, rfl, FIN.out⟩
    | cons x rr =>
      obtain ⟨ri, R, rl, okL⟩ := Q.out
      have hx : okT x := by have := okL x List.mem_cons_self; unfold okT maxLen; omega
      have NXT := hidi (fun (wx : World) (M : Nat) (g5 k : Nat) (g0 o n cap : Nat) (hri : RI w tb r nf T L wx g5 ((x :: rr).drop k)) (hR : Rw wx (.slice (some ⟨g0, o, none⟩) n cap) (x :: rr)) (hk : k ≤ n) (ad : Option Addr) (had : (if cap = k then (some ⟨g0, o, none⟩ : Option Addr) else some ⟨g0, o + k, none⟩) = ad) => (show RQ w tb r nf T L (wx.drewN M) g5 (.slice ad (n - k) (cap - k)) ((x :: rr).drop k) from by
        subst had
        have b : Below wx.heap.size wx (wx.drewN M) := below_drewN (Below.refl _ _)
        exact ⟨hri.below b, (hR.drop hk).below b, by rw [List.length_drop]; omega, fun t ht => okL t (List.mem_of_mem_drop ht)⟩))
      rcases ri.step HL.out.1 hx HL.out.2 with ⟨T2, d, hd, rfl, tm, no, okd, hT2, NX⟩ | ⟨d, q, hd, hq, rfl, tm, hk, eF, ch⟩
      · obtain ⟨nk, kd, b1, b2, b3, b4⟩ := tm.look hd hx
        have hkx : kd x = none := by
          rcases b4 with ⟨q, hq, c, _⟩ | ⟨c, _⟩
          · exact (no _ c).elim
          · exact c
        have RW := hidi R
        obtain ⟨g0, o, n, cap, rfl, hn, hcap, hgl, hc0, -⟩ := R.row.cons
        have hnr : n = rr.length + 1 := by simpa using hn
        have fd := tm.nd d hd
        obtain ⟨mo, hmo⟩ : ∃ mo, d.kv = .map mo := by
          rcases b2.mk with e | ⟨mb, e⟩
          · exact ⟨_, e⟩
          · exact ⟨_, e⟩
        have c3 : wr.cell? ⟨d.s.p, 2, none⟩ = some (.map mo) := by rw [← hmo]; exact box_cells fd.at_ 2 _ rfl
        have hlook : ∀ N, (Instr.lookup 73 (.map mo) (.string x) true).run Tryz.prog (wr.drewN N) = .ok (.tuple #[.pointer none, .bool false]) (wr.drewN N) := fun N => by
          have bd : Below wr.heap.size wr (wr.drewN N) := below_drewN (Below.refl _ _)
          have := (b2.keep (w' := wr.drewN N) (fun b e => bd.block b (b2.lt e))).look2 Tryz.underlying73 zero60 hx
          rw [hkx, hmo] at this
          exact this
        have p0 : (0 : Int) < n := by omega
        have LF := hidi (fun (w1 : World) (hb : Below wr.heap.size wr w1) => leaf_any (tm.below hb).tr (RW.out.below hb) (by simp; omega) (fun t ht => by have := okL t ht; omega) (by omega) (by omega))
        have AL := hidi (fun (w1 w2 : World) (g2 : Nat) (hb : Below wr.heap.size wr w1) (lf : Lf w1 w2 tb g2 (.pointer (some ⟨r, 0, none⟩)) nf (T2.length : Int) (x :: rr)) => (show ∃ la lc, w2.cell? ⟨g2, 0, none⟩ = some (.slice la n lc) ∧ (∀ w3, Below w2.heap.size w2 w3 → w3.cell? ⟨g2, 0, none⟩ = some (.slice la n lc)) ∧ Calls Tryz.prog 48 #[.slice la n lc, .slice (some ⟨g0, o, none⟩) n cap] w2 fun e w' => e = .returned (.int .i64 n) ∧ Below w2.heap.size w2 w' from by
          obtain ⟨lv, l1, l2⟩ := lf.nd
          obtain ⟨la, lc, e⟩ := own_sl l2
          rw [List.length_cons, ← hnr] at e
          subst e
          refine ⟨la, lc, box_cells l1 0 _ rfl, fun w3 hb3 => box_cells (later_at l1 hb3) 0 _ rfl, ?_⟩
          have R2 : Rw w2 (.slice (some ⟨g0, o, none⟩) n cap) (x :: rr) := (RW.out.below hb).ch lf.ch (fun j hj e => by subst e; exact (RW.out.below hb).ne (tm.below hb).tr (by decide) hj rfl)
          have := alike_any (x :: rr) (x :: rr) _ _ w2 (row_own (own0 l2)) R2.row (by simp; omega) (by simp; omega)
          rw [alk_self, List.length_cons, ← hnr] at this
          exact this))
        have HG := hidi (fun (w1 w2 w3 : World) (g2 : Nat) (hb : Below wr.heap.size wr w1) (lf : Lf w1 w2 tb g2 (.pointer (some ⟨r, 0, none⟩)) nf (T2.length : Int) (x :: rr)) (hb3 : Below w2.heap.size w2 w3) => (show Calls Tryz.prog 50 #[.pointer (some ⟨d.s.p, 0, none⟩), .pointer (some ⟨g2, 0, none⟩)] w3 fun e w' => e = .returned (.tuple #[]) ∧ RI w tb r nf T L w' g2 ((x :: rr).drop n) ∧ Rw w' (.slice (some ⟨g0, o, none⟩) n cap) (x :: rr) from by
          refine (hang_leaf tm hd no okL okd hT2 w1 hb (lf.below hb3)).mono ?_
          rintro e w' ⟨rfl, rc⟩
          refine ⟨rfl, ?_, rw_stay tm rc.ch RW.out⟩
          rw [show (x :: rr).drop n = [] from List.drop_eq_nil_of_le (by simp; omega)]
          exact NX w' g2 rc))
        have i1 : (n : Int) ≤ n := by omega
        have i2 : (n : Int) ≤ cap := by omega
        have i3 : (0 : Int) ≤ n := by omega
        have i4 : ¬ (n : Int) < n := by omega
        have i5 := hidi (show n ≤ n from Nat.le_refl n)
        obtain ⟨ad, had⟩ : ∃ ad, (if cap = n then (some ⟨g0, o, none⟩ : Option Addr) else some ⟨g0, o + n, none⟩) = ad := ⟨_, rfl⟩
        have HAD := hidi had
        have HR := hidi hr
        have HN := hidi hnr
        clear ri RW okL hx tm hd no okd hT2 NX b1 b2 b3 b4 hkx hn hnr hgl fd hmo R Q rl hr hcap HL Q0
        unfold ptr at *
        go_wp2_with fail
        go_quiet (fail)
        obtain ⟨w1, hw1⟩ : ∃ w1, w1 = wr.drewN nq := ⟨_, rfl⟩
        have B1 : Hid (Below wr.heap.size wr w1) := by show Below _ _ _; rw [hw1]; exact below_drewN (Below.refl _ _)
        rw [← hw1]
        clear hw1 hlook c3 hc0
        go_wp2_with (first
          | (go_at_call 47; refine (LF.out w1 B1.out).mono ?_; rintro e w2 ⟨g2, rfl, lf⟩; obtain ⟨la, lc, a1, a2, a3⟩ := AL.out w1 w2 g2 B1.out lf; have A2 := hidi a2; have A3 := hidi a3; have LL := hidi lf; clear a2 a3 lf LF AL)
          | (go_at_call 48; refine A3.out.mono ?_; rintro e w3 ⟨rfl, hb⟩; have CC := hidi (HG.out w1 w2 w3 g2 B1.out LL.out hb); have a4 := A2.out w3 hb; clear hb A2 A3 LL HG a1)
          | (go_at_call 50; refine CC.out.mono ?_; rintro e w4 ⟨rfl, hri, hrw⟩; have HH := hidi (And.intro hri hrw); clear hri hrw CC a4))
        go_quiet (fail)
        go_wp2_with fail
        go_roundg 0
        case measure => have := HR.out; simp at this; omega
        case rel => exact ⟨[], g2, rfl, rfl, by have := NXT.out w4 nq g2 n g0 o n cap HH.out.1 HH.out.2 i5.out ad HAD.out; rw [show (x :: rr).drop n = [] from List.drop_eq_nil_of_le (by have := HN.out; simp; omega), Nat.sub_self] at this; exact this⟩
      · obtain ⟨nk, kd, b1, b2, b3⟩ := (tm.nd d hd).kv
        have hkx : kd x = some (ptr q.s.p) := (b3 x _ hx).2 ⟨_, hk, rfl⟩
        have RW := hidi R
        obtain ⟨g0, o, n, cap, rfl, hn, hcap, hgl, hc0, -⟩ := R.row.cons
        have hnr : n = rr.length + 1 := by simpa using hn
        have fd := tm.nd d hd
        have fq := tm.nd q hq
        have qm := (tm.inv.le q.s (List.mem_map_of_mem hq)).1
        have qok := tm.ok q hq
        have elen := edge_len q.s qm
        obtain ⟨mo, hmo⟩ : ∃ mo, d.kv = .map mo := by
          rcases b2.mk with e | ⟨mb, e⟩
          · exact ⟨_, e⟩
          · exact ⟨_, e⟩
        obtain ⟨qa, qc, hlv⟩ : ∃ qa qc, q.lv = .slice qa q.s.m qc := own_sl fq.lv
        have c3 : wr.cell? ⟨d.s.p, 2, none⟩ = some (.map mo) := by rw [← hmo]; exact box_cells fd.at_ 2 _ rfl
        have hlook : ∀ N, (Instr.lookup 73 (.map mo) (.string x) true).run Tryz.prog (wr.drewN N) = .ok (.tuple #[ptr q.s.p, .bool true]) (wr.drewN N) := fun N => by
          have bd : Below wr.heap.size wr (wr.drewN N) := below_drewN (Below.refl _ _)
          have := (b2.keep (w' := wr.drewN N) (fun b e => bd.block b (b2.lt e))).look2 Tryz.underlying73 zero60 hx
          rw [hkx, hmo] at this
          exact this
        have p0 : (0 : Int) < n := by omega
        obtain ⟨er, her⟩ : ∃ er, q.s.edge = x :: er := by
          have := edge_at q.s 0
          rw [Nat.add_zero, hk.2.2] at this
          cases c : q.s.edge with
          | nil => rw [c] at this; simp at this
          | cons a l => rw [c] at this; simp at this; exact ⟨l, by rw [this]⟩
        obtain ⟨k, hka⟩ : ∃ k, k = alk q.s.edge (x :: rr) := ⟨_, rfl⟩
        have k0 : 0 < k := by rw [hka, her]; unfold alk; rw [if_pos rfl]; omega
        have kle := alk_le q.s.edge (x :: rr)
        rw [← hka] at kle
        have ktk := alk_take q.s.edge (x :: rr)
        rw [← hka] at ktk
        have kL : k ≤ n := by have := kle.2; simp at this; omega
        have kq : k ≤ q.s.m := by have := kle.1; omega
        have LQ := hidi (fun (w2 : World) (hb : Below wr.heap.size wr w2) => (show w2.cell? ⟨q.s.p, 0, none⟩ = some (.slice qa q.s.m qc) from by rw [← hlv]; exact box_cells ((tm.below hb).nd q hq).at_ 0 _ rfl))
        have AL := hidi (fun (w2 : World) (hb : Below wr.heap.size wr w2) => (show Calls Tryz.prog 48 #[.slice qa q.s.m qc, .slice (some ⟨g0, o, none⟩) n cap] w2 fun e w' => e = .returned (.int .i64 k) ∧ Below w2.heap.size w2 w' from by
          rw [hka, ← hlv]
          exact alike_any q.s.edge (x :: rr) _ _ w2 (row_own ((tm.below hb).nd q hq).lv) (RW.out.below hb).row (by omega) (by have := rl; simp at this ⊢; omega)))
        have takd : q.s.A.take q.s.top = d.s.A := hk.2.1.2.2
        have atk : q.s.A.take (q.s.top + k) = d.s.A ++ (x :: rr).take k := by
          rw [← ktk, ← takd]
          unfold Nd.edge
          rw [List.take_add]
        have hki : (k : Int) ≤ n := by omega
        have hki2 : (k : Int) ≤ cap := by omega
        have hk0i : (0 : Int) ≤ k := by omega
        have HK := hidi (show k ≤ n ∧ 0 < k ∧ rr.length + 1 = n from ⟨kL, k0, hnr.symm⟩)
        have HR := hidi hr
        have l0 := LQ.out wr (Below.refl _ _)
        obtain ⟨ad, had⟩ : ∃ ad, (if cap = k then (some ⟨g0, o, none⟩ : Option Addr) else some ⟨g0, o + k, none⟩) = ad := ⟨_, rfl⟩
        have HAD := hidi had
        by_cases km : k < q.s.m
        · have kmi : (k : Int) < q.s.m := by omega
          obtain ⟨y, hy⟩ : ∃ y, q.s.edge[k]? = some y := ⟨_, List.getElem?_eq_getElem (by omega)⟩
          have hyo : okT y := by
            have : y ∈ q.s.A := List.mem_of_mem_drop (List.mem_of_getElem? hy)
            have := qok.1 y this
            unfold okT maxLen
            omega
          have hT8 := HL.out.2
          have PT := hidi (fun (w3 : World) (hb : Below wr.heap.size wr w3) => part_any (tm.below hb).tr ((tm.below hb).nd q hq).at_ ((tm.below hb).nd q hq).lv k0 km (by omega) hy hyo (by omega) (by omega))
          have hnx : (x :: rr)[k]? ≠ some y := by rw [hka]; exact alk_next q.s.edge (x :: rr) y (by rw [← hka]; exact hy)
          have HP := hidi (fun (w3 w4 : World) (u : Nat) (hb : Below wr.heap.size wr w3) (pr : Pr w3 w4 tb q.s.p u k (ptr r) q.ev q.kv nf (T.length : Int) q.s.edge y) => (show Calls Tryz.prog 50 #[ptr d.s.p, ptr u] w4 fun e w' => e = .returned (.tuple #[]) ∧ RI w tb r nf T L w' u ((x :: rr).drop k) ∧ Rw w' (.slice (some ⟨g0, o, none⟩) n cap) (x :: rr) from by
            refine (hang_part tm hb hd hq hk hx (by omega) k0 km hy pr).mono ?_
            rintro e w' ⟨rfl, pm⟩
            exact ⟨rfl, ri_part tm hd hq hk.2.1 ch pm eF atk k0 km hy hnx, rw_stay tm pm.ch RW.out⟩))
          unfold ptr at *
          clear ri RW okL hx tm hd hq hk eF ch b1 b2 b3 hkx hn hnr hgl fd fq qm qok elen hmo hlv her hka k0 kle ktk kL kq takd atk hy hyo hnx km hT8 R Q rl hr hcap HL Q0
          go_wp2_with fail
          go_quiet (fail)
          obtain ⟨w1, hw1⟩ : ∃ w1, w1 = wr.drewN nq := ⟨_, rfl⟩
          have B1 : Hid (Below wr.heap.size wr w1) := by show Below _ _ _; rw [hw1]; exact below_drewN (Below.refl _ _)
          rw [← hw1]
          have l1 := LQ.out w1 B1.out
          clear hw1 hlook c3 hc0 l0
          go_wp2_with (first
            | (go_at_call 48; refine (AL.out w1 B1.out).mono ?_; rintro e w3 ⟨rfl, hb⟩; have B3 := hidi (B1.out.trans (hb.mono B1.out.size)); clear hb AL l1; have l3 := LQ.out w3 B3.out)
            | (go_at_call 49; refine (PT.out w3 B3.out).mono ?_; rintro e w4 ⟨u, rfl, pr⟩; have CC := hidi (HP.out w3 w4 u B3.out pr); clear pr PT HP l3 LQ)
            | (go_at_call 50; refine CC.out.mono ?_; rintro e w5 ⟨rfl, hri, hrw⟩; have HH := hidi (And.intro hri hrw); clear hri hrw CC))
          go_quiet (fail)
          go_wp2_with fail
          go_roundg ((x :: rr).drop k).length
          case measure => have := HR.out; have := HK.out; simp at *; omega
          case rel => exact ⟨(x :: rr).drop k, u, rfl, rfl, NXT.out w5 nq u k g0 o n cap HH.out.1 HH.out.2 HK.out.1 ad HAD.out⟩
        · have kmi : ¬ (k : Int) < q.s.m := by omega
          have eA : q.s.A = d.s.A ++ (x :: rr).take k := by
            rw [← atk]
            have := len_take q.s qm
            rw [show q.s.top + k = q.s.A.length by omega, List.take_length]
          have hT8 := HL.out.2
          have HP := hidi (fun (w3 : World) (hb : Below wr.heap.size wr w3) => (show Calls Tryz.prog 50 #[ptr d.s.p, ptr q.s.p] w3 fun e w' => e = .returned (.tuple #[]) ∧ RI w tb r nf T L w' q.s.p ((x :: rr).drop k) ∧ Rw w' (.slice (some ⟨g0, o, none⟩) n cap) (x :: rr) from by
            refine (hang_same tm hb hd hq hk hx (by omega)).mono ?_
            rintro e w' ⟨rfl, sm⟩
            exact ⟨rfl, ri_on hq ch sm eF eA, rw_stay tm sm.ch RW.out⟩))
          unfold ptr at *
          clear ri RW okL hx tm hd hq hk eF ch b1 b2 b3 hkx hn hnr hgl fd fq qm qok elen hmo hlv her hka k0 kle ktk kL kq takd atk eA km hT8 R Q rl hr hcap HL Q0
          go_wp2_with fail
          go_quiet (fail)
          obtain ⟨w1, hw1⟩ : ∃ w1, w1 = wr.drewN nq := ⟨_, rfl⟩
          have B1 : Hid (Below wr.heap.size wr w1) := by show Below _ _ _; rw [hw1]; exact below_drewN (Below.refl _ _)
          rw [← hw1]
          have l1 := LQ.out w1 B1.out
          clear hw1 hlook c3 hc0 l0
          go_wp2_with (first
            | (go_at_call 48; refine (AL.out w1 B1.out).mono ?_; rintro e w3 ⟨rfl, hb⟩; have B3 := hidi (B1.out.trans (hb.mono B1.out.size)); clear hb AL l1; have l3 := LQ.out w3 B3.out)
            | (go_at_call 50; refine (HP.out w3 B3.out).mono ?_; rintro e w5 ⟨rfl, hri, hrw⟩; have HH := hidi (And.intro hri hrw); clear hri hrw HP l3 LQ))
          go_quiet (fail)
          go_wp2_with fail
          go_roundg ((x :: rr).drop k).length
          case measure => have := HR.out; have := HK.out; simp at *; omega
          case rel => exact ⟨(x :: rr).drop k, q.s.p, rfl, rfl, NXT.out w5 nq q.s.p k g0 o n cap HH.out.1 HH.out.2 HK.out.1 ad HAD.out⟩
end Go.Proofs.YtipagdhoeocjeaaGreat.Li
namespace Go.Proofs.YtipagdhoeocjeaaGreat.Li
open Go Go.RowKit
set_option linter.unusedSimpArgs false
set_option linter.unusedVariables false
/-- A payload as it comes in. -/
def PR (w : World) (v : Value) (xs : List Int) : Prop :=
  (v = .slice none 0 0 ∧ xs = []) ∨ ∃ a n c, v = .slice (some a) n c ∧ xs.length = n ∧ n ≤ maxLen ∧ ∀ i, i < n → w.cell? (a.add i) = some (.int .u8 (xs.getD i 0))
theorem PR.sl {w : World} {v : Value} {xs : List Int} (h : PR w v xs) : ∃ a c, v = .slice a xs.length c ∧ xs.length ≤ maxLen := by
  rcases h with ⟨h, rfl⟩ | ⟨a, n, c, h, rfl, h3, -⟩
  · exact ⟨_, _, h, by unfold maxLen; simp⟩
  · exact ⟨_, _, h, h3⟩
theorem PR.keep {w w' : World} {v : Value} {xs : List Int} (h : PR w v xs) (hk : ∀ b, b < w.heap.size → w'.heap[b]? = w.heap[b]?) : PR w' v xs := by
  rcases h with h | ⟨a, n, c, h1, h2, h3, h4⟩
  · exact .inl h
  · exact .inr ⟨a, n, c, h1, h2, h3, fun i hi => (cell_heap (hk _ (World.block_lt_of_cell? _ _ (h4 i hi)))).trans (h4 i hi)⟩
theorem PR.below {w w' : World} {v : Value} {xs : List Int} (h : PR w v xs) (hb : Below w.heap.size w w') : PR w' v xs := h.keep (fun b hl => hb.block b hl)
theorem plain_add (b off j : Nat) : (⟨b, off, none⟩ : Addr).add j = ⟨b, off + j, none⟩ := by
  unfold Addr.add
  split <;> simp_all
theorem Pl.pr {w : World} {v : Value} {xs : List Int} (h : Pl w v xs) (hl : xs.length ≤ maxLen) : PR w v xs := by
  rcases h with ⟨h1, ⟨h2, h3⟩ | ⟨g, cap, cur, hv, hb, hg, hc1, hc2, hc3, hc4⟩⟩
  · refine .inl ⟨h2, ?_⟩
    exact List.length_eq_zero_iff.1 h3
  · refine .inr ⟨_, xs.length, cap, hv, rfl, hl, fun i hi => ?_⟩
    rw [plain_add]
    refine box_cells hg (0 + i) _ ?_
    rw [Nat.zero_add, ← Array.getElem?_toList]
    have e : (cur.toList.take (xs.length * 1))[i]? = some (.int .u8 (xs.getD i 0)) := by
      rw [hc4, List.getElem?_map, List.getElem?_eq_getElem hi, List.getD_eq_getElem?_getD, List.getElem?_eq_getElem hi]
      rfl
    rw [List.getElem?_take, if_pos (by omega)] at e
    exact e
theorem bclone_any {w : World} {v : Value} {xs : List Int} (h : PR w v xs) (hl : xs.length ≤ 1000000) : Calls Tryz.prog 63 #[v] w fun e w' => ∃ v', e = .returned v' ∧ w'.ownsRow w.heap.size 5 1 v' xs.length (xs.map (Value.int .u8)) ∧ Below w.heap.size w w' := by
  rcases h with ⟨rfl, rfl⟩ | ⟨a, n, c, rfl, h2, h3, h4⟩
  · refine (Tryz.bytes_Clone_nil 0 0 w).mono ?_
    rintro e w' ⟨rfl, rfl⟩
    exact ⟨_, rfl, ⟨rfl, .inl ⟨rfl, rfl⟩⟩, Below.refl _ _⟩
  · refine (Tryz.bytes_Clone_at a n c xs w h2 (by omega) h4).mono ?_
    rintro e w' ⟨v', rfl, ho, -, hb⟩
    rw [h2]
    exact ⟨v', rfl, ho, hb⟩
theorem two_alloc (w : World) (o1 o2 : Obj) : ((w.alloc o1).alloc o2).heap[w.heap.size]? = some o1 ∧ ((w.alloc o1).alloc o2).heap[w.heap.size + 1]? = some o2 ∧ ((w.alloc o1).alloc o2).heap.size = w.heap.size + 2 := by
  refine ⟨?_, ?_, by simp⟩
  · show ((w.heap.push o1).push o2)[w.heap.size]? = _
    simp [Array.getElem?_push]
  · show ((w.heap.push o1).push o2)[w.heap.size + 1]? = _
    have := Array.getElem?_push_size (xs := w.heap.push o1) (x := o2)
    simpa using this
theorem two_below (w : World) (o1 o2 : Obj) : Below w.heap.size w ((w.alloc o1).alloc o2) := ((Below.refl _ _).alloc (Nat.le_refl _) _).alloc (by simp) _
theorem mset4 {w : World} {b t : Nat} {x0 x1 x2 x3 : Value} (hb : w.heap[b]? = some (.cells #[x0, x1, x2, x3] t (0, 0))) (y0 y1 y2 y3 : Value) : ((((w.setCell ⟨b, 0, none⟩ y0).setCell ⟨b, 1, none⟩ y1).setCell ⟨b, 2, none⟩ y2).setCell ⟨b, 3, none⟩ y3).heap[b]? = some (.cells #[y0, y1, y2, y3] t (0, 0)) := by
  rw [heap_set (heap_set (heap_set (heap_set hb _) _) _) _]
  simp
def Msg.val (m : Msg) (v : Value) : Value := .agg (m.cs v)
theorem ownat_sl {w : World} {B n : Nat} {v : Value} {xs : List Value} (h : w.ownsRow B 5 1 v n xs) : ∃ a c, v = .slice a n c := own_sl h
theorem own_to {w w' : World} {B n : Nat} {v : Value} {xs : List Value} {S : Nat → Prop} (h : w.ownsRow B 5 1 v n xs) (hc : Ch S w w') (h5 : ∀ g, S g → ∀ cur, w.heap[g]? ≠ some (.cells cur 5 (0, 0))) : w'.ownsRow B 5 1 v n xs :=
  own_ch h hc (fun g hg c => by
    obtain ⟨cur, e⟩ := own_lt h hg
    exact h5 g c cur e)
theorem no5 {w : World} {k t : Nat} {cs : Array Value} {fz : Nat × Nat} (h : w.heap[k]? = some (.cells cs t fz)) (ht : t ≠ 5) : ∀ cur, w.heap[k]? ≠ some (.cells cur 5 (0, 0)) := fun cur e => by
  rw [h] at e
  simp at e
  exact ht e.2.1
set_option maxRecDepth 100000 in
set_option maxHeartbeats 1000000 in
theorem apart_any {w : World} {v : Value} (m : Msg) (h : PR w v m.xs) (hl : m.xs.length ≤ 1000000) : Calls Tryz.prog 45 #[m.val v] w fun e w' => ∃ v', e = .returned (m.val v') ∧ w'.ownsRow w.heap.size 5 1 v' m.xs.length (m.xs.map (Value.int .u8)) ∧ Below w.heap.size w w' := by
  obtain ⟨t, xs, q, r⟩ := m
  simp only at h hl
  obtain ⟨a, c, rfl, -⟩ := h.sl
  have H : Hid (PR w (.slice a xs.length c) xs ∧ xs.length ≤ 1000000) := ⟨h, hl⟩
  obtain ⟨n, hn⟩ : ∃ n, n = xs.length := ⟨_, rfl⟩
  rw [← hn] at H ⊢
  have HN := hidi hn
  clear h hl hn
  unfold Msg.val Msg.cs
  simp only
  go_enter Tryz.func45, Tryz.ntmps45
  go_wp2_with fail
  go_must (go_at_call 63)
  obtain ⟨h1, h2, h3⟩ := two_alloc w (.cells #[.string t, .slice a n c, .int .i64 q, .bool r] 30) (.cells #[.string ⟨#[]⟩, .slice none 0 0, .int .i64 0, .bool false] 30)
  have B0 := two_below w (.cells #[.string t, .slice a n c, .int .i64 q, .bool r] 30) (.cells #[.string ⟨#[]⟩, .slice none 0 0, .int .i64 0, .bool false] 30)
  refine (bclone_any (H.out.1.below B0) (by rw [← HN.out]; exact H.out.2)).mono ?_
  rintro e w1 ⟨v1, rfl, hp, hb⟩
  rw [← HN.out] at hp
  obtain ⟨a1, c1, rfl⟩ := own_sl hp
  replace h1 := later_at h1 hb
  replace h2 := later_at h2 hb
  have c0 := box_cells h1 0 _ rfl
  have c1' := box_cells h1 1 _ rfl
  have c2 := box_cells h1 2 _ rfl
  have c3 := box_cells h1 3 _ rfl
  have d0 := box_cells h2 0 _ rfl
  have d1 := box_cells h2 1 _ rfl
  have d2 := box_cells h2 2 _ rfl
  have d3 := box_cells h2 3 _ rfl
  have f0 := box_frozen h1
  have f1 := box_frozen h2
  have HB : Hid (Below w.heap.size w w1) := B0.trans (hb.mono (by omega))
  have HP : Hid (w1.ownsRow w.heap.size 5 1 (.slice a1 n c1) n (xs.map (Value.int .u8))) := by
    refine row_base hp (fun j hj => ?_)
    have := row_ge hp hj
    omega
  have H2 : Hid (w1.heap[w.heap.size + 1]? = some (.cells #[.string ⟨#[]⟩, .slice none 0 0, .int .i64 0, .bool false] 30 (0, 0))) := h2
  have H1 : Hid (w1.heap[w.heap.size]? = some (.cells #[.string t, .slice a n c, .int .i64 q, .bool r] 30 (0, 0))) := h1
  clear h1 h2 h3 hb hp B0
  go_wp2_with fail
  refine bodyPost_ret (results_cell_row rfl _ _ _ _ _ _ _ rfl (mset4 (by rw [heap_set_ne _ (by omega)]; exact H2.out) _ _ _ _) Tryz.underlying30 rfl (by kernel_rfl)) rfl ⟨_, rfl, ?_, ?_⟩
  · have cc : Ch (fun j => j = w.heap.size ∨ j = w.heap.size + 1) w1 (((((w1.setCell ⟨w.heap.size, 1, none⟩ (.slice a1 n c1)).setCell ⟨w.heap.size + 1, 0, none⟩ (.string t)).setCell ⟨w.heap.size + 1, 1, none⟩ (.slice a1 n c1)).setCell ⟨w.heap.size + 1, 2, none⟩ (.int .i64 q)).setCell ⟨w.heap.size + 1, 3, none⟩ (.bool r)) :=
      ((((((ch_set _ _ _).mono (fun j _ e => .inl e)).trans (ch_set _ _ _) (fun j _ e => .inr e)).trans (ch_set _ _ _) (fun j _ e => .inr e)).trans (ch_set _ _ _) (fun j _ e => .inr e))).trans (ch_set _ _ _) (fun j _ e => .inr e)
    refine own_to HP.out cc (fun g hg => ?_)
    rcases hg with rfl | rfl
    · exact no5 H1.out (by decide)
    · exact no5 H2.out (by decide)
  · exact ((((HB.out.setCell (Nat.le_refl _) _).setCell (Nat.le_succ _) _).setCell (Nat.le_succ _) _).setCell (Nat.le_succ _) _).setCell (Nat.le_succ _) _
end Go.Proofs.YtipagdhoeocjeaaGreat.Li
namespace Go.Proofs.YtipagdhoeocjeaaGreat.Li
open Go Go.RowKit
set_option linter.unusedSimpArgs false
set_option linter.unusedVariables false
theorem cell_of {w : World} {ad : Addr} {cs : Array Value} {t : Nat} {fz : Nat × Nat} {u : Value} (h : w.heap[ad.block]? = some (.cells cs t fz)) (hu : w.cell? ad = some u) : u ∈ cs.toList := by
  unfold World.cell? at hu
  rw [h] at hu
  simp only at hu
  split at hu
  · cases hu
  · exact List.mem_of_getElem? (by rw [Array.getElem?_toList]; exact hu)
theorem PR.ch {w w' : World} {v : Value} {xs : List Int} {S : Nat → Prop} (h : PR w v xs) (hc : Ch S w w') (hS : ∀ b, S b → ∃ cs t fz, w.heap[b]? = some (.cells cs t fz) ∧ ∀ u ∈ cs.toList, ∀ x, u ≠ .int .u8 x) : PR w' v xs := by
  rcases h with h | ⟨a, n, c, h1, h2, h3, h4⟩
  · exact .inl h
  · refine .inr ⟨a, n, c, h1, h2, h3, fun i hi => (cell_heap (hc.block _ (World.block_lt_of_cell? _ _ (h4 i hi)) (fun e => ?_))).trans (h4 i hi)⟩
    obtain ⟨cs, t, fz, e1, e2⟩ := hS _ e
    exact e2 _ (cell_of e1 (h4 i hi)) _ rfl
theorem tr_u8 {w : World} {tb r : Nat} {nf nn : Int} (h : w.heap[tb]? = some (.cells #[ptr r, .int .i64 nf, .int .i64 nn] 65 (0, 0))) : ∀ b, b = tb → ∃ cs t fz, w.heap[b]? = some (.cells cs t fz) ∧ ∀ u ∈ cs.toList, ∀ x, u ≠ .int .u8 x := by
  rintro b rfl
  refine ⟨_, _, _, h, fun u hu x e => ?_⟩
  subst e
  simp [ptr] at hu
/-- What note leaves. -/
structure Nt (w w' : World) (tb p : Nat) (rt lv kv : Value) (nf nn : Int) (had : Bool) (m : Msg) : Prop where
  tr : w'.heap[tb]? = some (.cells #[rt, .int .i64 (nf + if had then 0 else 1), .int .i64 nn] 65 (0, 0))
  nd : ∃ mb v', w'.heap[p]? = some (.cells #[lv, ptr mb, kv] 75 (0, 0)) ∧ w'.heap[mb]? = some (.cells (m.cs v') 30 (0, 0)) ∧ Pl w' v' m.xs ∧ w.heap.size ≤ mb
  ch : Ch (fun j => j = tb ∨ j = p) w w'
theorem note_end {w w1 wx : World} {tb p mb : Nat} {rt lv ev kv v' : Value} {nf nn : Int} {had : Bool} {m : Msg} (hT : w1.heap[tb]? = some (.cells #[rt, .int .i64 (nf + if had then 0 else 1), .int .i64 nn] 65 (0, 0))) (hp : w1.heap[p]? = some (.cells #[lv, ev, kv] 75 (0, 0))) (hm : w1.heap[mb]? = some (.cells (m.cs v') 30 (0, 0))) (hv : Pl w1 v' m.xs) (hc : Ch (fun j => j = tb ∨ j = p) w w1) (hg : w.heap.size ≤ mb) (e : wx = w1.setCell ⟨p, 1, none⟩ (ptr mb)) : Nt w wx tb p rt lv kv nf nn had m := by
  subst e
  have n1 : tb ≠ p := fun q => by rw [q, hp] at hT; simp at hT
  have n2 : mb ≠ p := fun q => by rw [q, hp] at hm; simp at hm
  refine ⟨(heap_set_ne _ n1).trans hT, ⟨mb, v', ?_, (heap_set_ne _ n2).trans hm, ?_, hg⟩, hc.trans (ch_set p 1 _) (fun j _ q => .inr q)⟩
  · rw [heap_set hp]; rfl
  · exact own_to hv (ch_set p 1 (ptr mb)) (fun g q => by rw [q]; exact no5 hp (by decide))
set_option maxRecDepth 100000 in
set_option maxHeartbeats 4000000 in
theorem note_any {w : World} {tb p rp : Nat} {lv ev kv v : Value} {nf nn : Int} {had : Bool} (m : Msg) (h : w.heap[tb]? = some (.cells #[ptr rp, .int .i64 nf, .int .i64 nn] 65 (0, 0))) (hp : w.heap[p]? = some (.cells #[lv, ev, kv] 75 (0, 0)))
    (hev : (ev = .pointer none ∧ had = false) ∨ (∃ k, ev = ptr k) ∧ had = true) (hv : PR w v m.xs) (hl : m.xs.length ≤ 1000000) (ht : m.t.size ≤ 1000000) (h0 : 0 ≤ nf) (hnf : nf < 1000000000) :
    Calls Tryz.prog 26 #[ptr tb, ptr p, m.val v] w fun e w' => e = .returned (.bool had) ∧ Nt w w' tb p (ptr rp) lv kv nf nn had m := by
  obtain ⟨t, xs, q, r⟩ := m
  simp only at hv hl ht
  obtain ⟨a, c, rfl, -⟩ := hv.sl
  obtain ⟨n, hn⟩ : ∃ n, n = xs.length := ⟨_, rfl⟩
  rw [← hn] at hv ⊢
  have hpl : p < w.heap.size := (Array.getElem?_eq_some_iff.1 hp).1
  have htl : tb < w.heap.size := (Array.getElem?_eq_some_iff.1 h).1
  obtain ⟨wa, hwa⟩ : ∃ wa, wa = w.alloc (.cells #[.string t, .slice a n c, .int .i64 q, .bool r] 30) := ⟨_, rfl⟩
  have ba : Below w.heap.size w wa := by rw [hwa]; exact (Below.refl _ _).alloc (Nat.le_refl _) _
  have hma : wa.heap[w.heap.size]? = some (.cells #[.string t, .slice a n c, .int .i64 q, .bool r] 30 (0, 0)) := by rw [hwa]; exact heap_alloc_new _ _
  have hta := later_at h ba
  have hpa := later_at hp ba
  have ntp : tb ≠ p := fun e => by rw [e, hp] at h; simp at h
  obtain ⟨nf', hnf'⟩ : ∃ nf' : Int, nf' = nf + if had then 0 else 1 := ⟨_, rfl⟩
  have MID := hidi (fun (wb : World) (hc : Ch (fun j => j = tb) wa wb) (htb : wb.heap[tb]? = some (.cells #[ptr rp, .int .i64 nf', .int .i64 nn] 65 (0, 0))) => (show wb.heap[w.heap.size]? = some (.cells #[.string t, .slice a n c, .int .i64 q, .bool r] 30 (0, 0)) ∧ wb.heap[p]? = some (.cells #[lv, ev, kv] 75 (0, 0)) ∧ PR wb (.slice a n c) xs ∧ Ch (fun j => j = tb ∨ j = p) w wb from by
    have hs := ba.size
    have hnm : w.heap.size ≠ tb := by omega
    refine ⟨(hc.block _ (Array.getElem?_eq_some_iff.1 hma).1 hnm).trans hma, (hc.block _ (by omega) (fun e => ntp e.symm)).trans hpa, ?_, ((Below.ch ba).trans hc (fun j _ e => .inl e))⟩
    exact (hv.below ba).ch hc (tr_u8 hta)))
  have HT := hidi (And.intro hn hl)
  have AP := hidi (fun (wb : World) (hpr : PR wb (.slice a n c) xs) => (show Calls Tryz.prog 45 #[.agg #[.string t, .slice a n c, .int .i64 q, .bool r]] wb fun e w' => ∃ a' c', e = .returned (.agg #[.string t, .slice a' n c', .int .i64 q, .bool r]) ∧ w'.ownsRow wb.heap.size 5 1 (.slice a' n c') n (xs.map (Value.int .u8)) ∧ Below wb.heap.size wb w' from by
    refine (apart_any ⟨t, xs, q, r⟩ hpr hl).mono ?_
    rintro e w' ⟨v', rfl, ho, hb⟩
    simp only at ho
    rw [← hn] at ho
    obtain ⟨a', c', rfl⟩ := own_sl ho
    exact ⟨a', c', rfl, ho, hb⟩))
  have SC := hidi (fun w => sclone_any t w ht)
  have WA := hidi (And.intro ba (And.intro hma (And.intro hta (And.intro hpa ntp))))
  have HNF := hidi hnf'
  have HW := hidi hwa
  have hw3 : IntKind.i64.wrap (nf + 1) = nf + 1 := by rw [IntKind.wrap_i64]; omega
  have t1 := box_cells hta 1 _ rfl
  have t1f := box_frozen hta 1
  have p1 := box_cells hpa 1 _ rfl
  obtain ⟨mb, hmb⟩ : ∃ mb, mb = w.heap.size := ⟨_, rfl⟩
  have HMB := hidi hmb
  have END := hidi (fun (wb w1 : World) (a' : Option Addr) (c' : Nat) (M : wb.heap[w.heap.size]? = some (.cells #[.string t, .slice a n c, .int .i64 q, .bool r] 30 (0, 0)) ∧ wb.heap[p]? = some (.cells #[lv, ev, kv] 75 (0, 0)) ∧ PR wb (.slice a n c) xs ∧ Ch (fun j => j = tb ∨ j = p) w wb) (htb : wb.heap[tb]? = some (.cells #[ptr rp, .int .i64 nf', .int .i64 nn] 65 (0, 0))) (ho : w1.ownsRow wb.heap.size 5 1 (.slice a' n c') n (xs.map (Value.int .u8))) (hb : Below wb.heap.size wb w1) =>
    (show w1.heap[mb]? = some (.cells #[.string t, .slice a n c, .int .i64 q, .bool r] 30 (0, 0)) ∧ ∀ w2 w3, w2 = ((((w1.setCell ⟨mb, 0, none⟩ (.string t)).setCell ⟨mb, 1, none⟩ (.slice a' n c')).setCell ⟨mb, 2, none⟩ (.int .i64 q)).setCell ⟨mb, 3, none⟩ (.bool r)) → Below w2.heap.size w2 w3 → (w3.heap[mb]? = some (.cells #[.string t, .slice a' n c', .int .i64 q, .bool r] 30 (0, 0)) ∧ (w3.setCell ⟨mb, 0, none⟩ (.string t)).heap[p]? = some (.cells #[lv, ev, kv] 75 (0, 0))) ∧ ∀ wx, wx = (w3.setCell ⟨mb, 0, none⟩ (.string t)).setCell ⟨p, 1, none⟩ (.pointer (some ⟨mb, 0, none⟩)) → Nt w wx tb p (ptr rp) lv kv nf nn had ⟨t, xs, q, r⟩ from by
      obtain ⟨M1, M2, M3, M4⟩ := M
      rw [← hmb] at M1
      have z1 := later_at M1 hb
      have z2 := later_at M2 hb
      have z3 := later_at htb hb
      refine ⟨z1, fun w2 w3 e2 b3 => ?_⟩
      have hmp : mb ≠ p := by omega
      have hmt : mb ≠ tb := by omega
      have c2 : Ch (fun j => j = mb) w1 w2 := by
        rw [e2]
        exact (((ch_set _ _ _).then (ch_set _ _ _)).then (ch_set _ _ _)).then (ch_set _ _ _)
      have m2 : w2.heap[mb]? = some (.cells #[.string t, .slice a' n c', .int .i64 q, .bool r] 30 (0, 0)) := by rw [e2]; exact mset4 z1 _ _ _ _
      have m3 := later_at m2 b3
      obtain ⟨w4, e4⟩ : ∃ w4, w4 = w3.setCell ⟨mb, 0, none⟩ (.string t) := ⟨_, rfl⟩
      rw [← e4]
      have m4 : w4.heap[mb]? = some (.cells #[.string t, .slice a' n c', .int .i64 q, .bool r] 30 (0, 0)) := by rw [e4, heap_set m3]; rfl
      have c4 : Ch (fun j => j = mb) w1 w4 := (c2.then (Below.ch b3)).trans (by rw [e4]; exact ch_set mb 0 _) (fun j _ e => e)
      have l1 := (Array.getElem?_eq_some_iff.1 z1).1
      have z4 := (c4.block p (Array.getElem?_eq_some_iff.1 z2).1 (fun e => hmp e.symm)).trans z2
      refine ⟨⟨m3, z4⟩, fun wx ex => ?_⟩
      refine note_end (w1 := w4) (mb := mb) (v' := .slice a' n c') ?_ z4 m4 ?_ ?_ (by omega) ex
      · rw [← hnf']
        exact (c4.block tb (Array.getElem?_eq_some_iff.1 z3).1 (fun e => hmt e.symm)).trans z3
      · show w4.ownsRow 0 5 1 _ xs.length _
        rw [← hn]
        exact own_to (own0 ho) c4 (fun g e => by rw [e]; exact no5 z1 (by decide))
      · refine (M4.then (Below.ch hb)).trans c4 (fun j hj e => ?_)
        omega))
  have hcr : Ch (fun j => j = tb) wa wa := Ch.refl _ _
  unfold Msg.val Msg.cs
  simp only
  unfold ptr at *
  rcases hev with ⟨rfl, rfl⟩ | ⟨⟨k, rfl⟩, rfl⟩
  · have hnf1 : nf' = nf + 1 := by rw [hnf']; simp
    have htb := heap_set hta (k := 1) (.int .i64 (nf + 1))
    have htb' : (wa.setCell ⟨tb, 1, none⟩ (.int .i64 (nf + 1))).heap[tb]? = some (.cells #[.pointer (some ⟨rp, 0, none⟩), .int .i64 nf', .int .i64 nn] 65 (0, 0)) := by rw [htb, hnf1]; rfl
    have M := MID.out _ (ch_set tb 1 (.int .i64 (nf + 1))) htb'
    rw [hwa] at t1 t1f p1 M htb'
    have HM := hidi (And.intro M htb')
    have b0 := box_cells HM.out.1.1 0 _ rfl
    have b1 := box_cells HM.out.1.1 1 _ rfl
    have b2 := box_cells HM.out.1.1 2 _ rfl
    have b3 := box_cells HM.out.1.1 3 _ rfl
    clear hv hl ht hn hpl htl ba hma hta hpa ntp h hp h0 hnf hnf' hnf1 htb htb' M MID hwa hmb hcr
    go_enter Tryz.func26, Tryz.ntmps26
    go_wp2_with (first
      | (go_at_call 45; refine (AP.out _ HM.out.1.2.2.1).mono ?_; rintro e w1 ⟨a', c', rfl, ho, hb⟩; obtain ⟨y1, y2⟩ := END.out _ w1 a' c' HM.out.1 HM.out.2 ho hb; rw [HMB.out] at y1; have Y2 := hidi y2; have f1 := box_frozen y1; have g0 := box_cells y1 0 _ rfl; have g1 := box_cells y1 1 _ rfl; have g2 := box_cells y1 2 _ rfl; have g3 := box_cells y1 3 _ rfl; clear y1 y2 ho hb b0 b1 b2 b3 t1 t1f p1)
      | (go_at_call 46; refine (SC.out _).mono ?_; rintro e w2 ⟨rfl, hb⟩; rw [← HMB.out] at hb; obtain ⟨⟨x1, x2⟩, x3⟩ := Y2.out _ w2 rfl hb; rw [HMB.out] at x1 x2 x3; have X3 := hidi x3; have k1 := box_frozen x1; have k2 := box_frozen x2; have k3 := box_cells x1 0 _ rfl; have k4 := box_cells x2 1 _ rfl; clear x1 x2 x3 hb f1 g0 g1 g2 g3))
    go_ret
    exact ⟨rfl, X3.out _ rfl⟩
  · have hnf1 : nf' = nf := by rw [hnf']; simp
    have htb' : wa.heap[tb]? = some (.cells #[.pointer (some ⟨rp, 0, none⟩), .int .i64 nf', .int .i64 nn] 65 (0, 0)) := by rw [hnf1]; exact hta
    have M := MID.out _ hcr htb'
    rw [hwa] at p1 M htb'
    have HM := hidi (And.intro M htb')
    have b0 := box_cells HM.out.1.1 0 _ rfl
    have b1 := box_cells HM.out.1.1 1 _ rfl
    have b2 := box_cells HM.out.1.1 2 _ rfl
    have b3 := box_cells HM.out.1.1 3 _ rfl
    clear hv hl ht hn hpl htl ba hma hta hpa ntp h hp h0 hnf hnf' hnf1 htb' M MID hwa hmb hcr t1 t1f
    go_enter Tryz.func26, Tryz.ntmps26
    go_wp2_with (first
      | (go_at_call 45; refine (AP.out _ HM.out.1.2.2.1).mono ?_; rintro e w1 ⟨a', c', rfl, ho, hb⟩; obtain ⟨y1, y2⟩ := END.out _ w1 a' c' HM.out.1 HM.out.2 ho hb; rw [HMB.out] at y1; have Y2 := hidi y2; have f1 := box_frozen y1; have g0 := box_cells y1 0 _ rfl; have g1 := box_cells y1 1 _ rfl; have g2 := box_cells y1 2 _ rfl; have g3 := box_cells y1 3 _ rfl; clear y1 y2 ho hb b0 b1 b2 b3 p1)
      | (go_at_call 46; refine (SC.out _).mono ?_; rintro e w2 ⟨rfl, hb⟩; rw [← HMB.out] at hb; obtain ⟨⟨x1, x2⟩, x3⟩ := Y2.out _ w2 rfl hb; rw [HMB.out] at x1 x2 x3; have X3 := hidi x3; have k1 := box_frozen x1; have k2 := box_frozen x2; have k3 := box_cells x1 0 _ rfl; have k4 := box_cells x2 1 _ rfl; clear x1 x2 x3 hb f1 g0 g1 g2 g3))
    go_ret
    exact ⟨rfl, X3.out _ rfl⟩
end Go.Proofs.YtipagdhoeocjeaaGreat.Li
