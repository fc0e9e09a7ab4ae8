import Derived.Test.YtbjhblnagmpnfaaDoorOc
namespace Go.Proofs.YtbjhblnagmpnfaaDoor
open Go Go.RowKit Go.Shelf Go.Maps Go.Sort
set_option linter.unusedSimpArgs false
set_option linter.unusedVariables false
/-! ### A window in memory -/
structure WI where
  most : Nat
  queue : Nat
  on : Bool
  last : Nat
  la : Nat
  fs : List Fm
  mu : Value
  lv : Value
  Z : List Ms
  L : List Ms
  mt : Value
  R : List Nat
  N : Nat
def WI.cs (i : WI) : Array Value := #[.int .i64 i.most, .int .i64 i.queue, .bool i.on, .int .i64 i.last, .int .i64 i.la, i.mu, i.lv, .int .i64 i.Z.length, i.mt, .int .i64 i.R.length]
def WI.ids (i : WI) : List Nat := i.fs.map (·.id)
def WI.T (i : WI) (j : Nat) : Bool := decide (j ∈ i.ids) || decide (j ∈ i.R)
/-- A message that is forgotten. -/
def Ms.zero (m : Ms) : Prop := m.t = ⟨#[]⟩ ∧ m.q = 0 ∧ m.r = false ∧ m.xs = []
def Sn (q : Int) : Prop := q = 1 ∨ q = 2
structure WS (w : World) (wb : Nat) (i : WI) (c : Nat) : Prop where
  blk : w.heap[wb]? = some (.cells i.cs 75 (0, 0))
  und : MI w i.mu i.fs.length (fun k => (lookF i.fs k).map pt)
  fls : ∀ f ∈ i.fs, FB w f
  tkn : NT w i.mt i.T i.N
  row : w.ownsRow 0 30 4 i.lv (i.Z.length + i.L.length) (mrow (i.Z ++ i.L))
  pay : ∀ m ∈ i.L, PB w m.v m.xs
  half : i.Z.length < i.L.length ∨ i.Z = []
  apt : ∀ j, i.mu = .map (some j) → i.mt ≠ .map (some j)
  nd : (i.ids ++ i.R).Nodup
  rng : ∀ j ∈ i.ids ++ i.R, 1 ≤ j ∧ j ≤ 65535
  srt : i.fs.Pairwise (fun a b => a.tn < b.tn)
  tns : ∀ f ∈ i.fs, f.tn < i.la
  snf : ∀ f ∈ i.fs, (f.rel = true → f.m.zero) ∧ (f.rel = false → Sn f.m.q)
  snl : ∀ m ∈ i.L, Sn m.q
  bm : 1 ≤ i.most ∧ i.most ≤ 65535
  bq : i.queue ≤ 65536
  bf : i.fs.length ≤ i.most
  bl : i.L.length ≤ i.queue
  br : i.R.length ≤ 65535 - i.most
  bs : i.last ≤ 65535
  bc : i.la + i.L.length ≤ c ∧ i.N + i.L.length ≤ c
/-- Its blocks. -/
def WI.U (i : WI) (wb j : Nat) : Prop := j = wb ∨ i.mu = .map (some j) ∨ i.mt = .map (some j) ∨ i.lv.ownBlock = some j ∨ ∃ f ∈ i.fs, f.b = j
/-- A block that no window has. -/
def Other (o : Obj) : Prop := ∃ cs t fz, o = .cells cs t fz ∧ t ≠ 75 ∧ t ≠ 90 ∧ t ≠ 30
theorem WS.other {w : World} {wb : Nat} {i : WI} {c : Nat} (h : WS w wb i c) {j : Nat} {o : Obj} (ho : w.heap[j]? = some o) (hO : Other o) : ¬ i.U wb j := by
  obtain ⟨cs, t, fz, rfl, h1, h2, h3⟩ := hO
  rintro (rfl | q | q | q | ⟨f, hf, rfl⟩)
  · rw [h.blk] at ho; simp at ho; exact h1 ho.2.1.symm
  · obtain ⟨es, cl, e⟩ := h.und.block q; rw [e] at ho; cases ho
  · obtain ⟨es, cl, e⟩ := h.tkn.block q; rw [e] at ho; cases ho
  · obtain ⟨cur, e⟩ := own_lt h.row q; rw [e] at ho; simp at ho; exact h3 ho.2.1.symm
  · rw [(h.fls f hf).blk] at ho; simp at ho; exact h2 ho.2.1.symm
theorem WS.lt {w : World} {wb : Nat} {i : WI} {c : Nat} (h : WS w wb i c) {j : Nat} (hj : i.U wb j) : j < w.heap.size := by
  rcases hj with rfl | q | q | q | ⟨f, hf, rfl⟩
  · exact (Array.getElem?_eq_some_iff.1 h.blk).1
  · exact h.und.lt q
  · obtain ⟨es, cl, e⟩ := h.tkn.block q; exact (Array.getElem?_eq_some_iff.1 e).1
  · obtain ⟨cur, e⟩ := own_lt h.row q; exact (Array.getElem?_eq_some_iff.1 e).1
  · exact (Array.getElem?_eq_some_iff.1 (h.fls f hf).blk).1
theorem WS.kb {w w' : World} {wb : Nat} {i : WI} {c : Nat} (h : WS w wb i c) (hc : Ch (i.U wb) w w') : Kb w w' := Kb.ch hc (fun j hj cs fz q => h.other q ⟨cs, 5, fz, rfl, by decide, by decide, by decide⟩ hj)
theorem WS.keep {w w' : World} {wb : Nat} {i : WI} {c : Nat} (h : WS w wb i c) {S : Nat → Prop} (hc : Ch S w w') (hs : ∀ j, i.U wb j → ¬ S j) (hk : Kb w w') : WS w' wb i c := by
  have hst : ∀ j, i.U wb j → w'.heap[j]? = w.heap[j]? := fun j hj => hc.block j (h.lt hj) (hs j hj)
  exact { h with
    blk := (hst _ (.inl rfl)).trans h.blk
    und := h.und.keep (fun b hb => hst b (.inr (.inl hb)))
    fls := fun f hf => ⟨(hst f.b (.inr (.inr (.inr (.inr ⟨f, hf, rfl⟩))))).trans (h.fls f hf).blk, (h.fls f hf).pay.keep hk⟩
    tkn := h.tkn.keep (fun b hb => hst b (.inr (.inr (.inl hb))))
    row := own_ch h.row hc (fun g hg => hs g (.inr (.inr (.inr (.inl hg)))))
    pay := fun m hm => (h.pay m hm).keep hk }
theorem WS.below {w w' : World} {wb : Nat} {i : WI} {c : Nat} (h : WS w wb i c) (hb : Below w.heap.size w w') : WS w' wb i c := h.keep (Below.ch (S := fun _ => False) hb) (fun _ _ q => q) (Kb.below hb)
theorem WS.more {w : World} {wb : Nat} {i : WI} {c c' : Nat} (h : WS w wb i c) (hc : c ≤ c') : WS w wb i c' := { h with bc := ⟨Nat.le_trans h.bc.1 hc, Nat.le_trans h.bc.2 hc⟩ }
/-- A step of a window. -/
structure St (w w' : World) (wb : Nat) (i i' : WI) (c' : Nat) : Prop where
  ws : WS w' wb i' c'
  ch : Ch (i.U wb) w w'
  bl : ∀ j, i'.U wb j → i.U wb j ∨ w.heap.size ≤ j
theorem St.trans {w w1 w2 : World} {wb : Nat} {i i1 i2 : WI} {c1 c2 : Nat} (h : St w w1 wb i i1 c1) (k : St w1 w2 wb i1 i2 c2) : St w w2 wb i i2 c2 :=
  ⟨k.ws, h.ch.trans k.ch (fun j hj q => (h.bl j q).elim id (fun e => absurd hj (by omega))), fun j hj => (k.bl j hj).elim (h.bl j) (fun e => .inr (Nat.le_trans h.ch.size e))⟩
theorem St.below {w w1 : World} {wb : Nat} {i : WI} {c : Nat} (h : WS w wb i c) (hb : Below w.heap.size w w1) : St w w1 wb i i c := ⟨h.below hb, Below.ch hb, fun j hj => .inl hj⟩
theorem WS.freeN {w : World} {wb : Nat} {i : WI} {c : Nat} (h : WS w wb i c) (hl : i.fs.length + i.R.length < 65535) : ∃ j, 1 ≤ j ∧ j ≤ 65535 ∧ i.T j = false := by
  by_cases hq : ∃ j, 1 ≤ j ∧ j ≤ 65535 ∧ j ∉ i.ids ++ i.R
  · obtain ⟨j, h1, h2, h3⟩ := hq
    refine ⟨j, h1, h2, ?_⟩
    simp only [List.mem_append, not_or] at h3
    simp [WI.T, h3.1, h3.2]
  · exfalso
    have hsub : List.range' 1 65535 ⊆ i.ids ++ i.R := fun j hj => by
      rw [List.mem_range'_1] at hj
      exact Classical.byContradiction fun hn => hq ⟨j, hj.1, by omega, hn⟩
    have := List.Nodup.length_le_of_subset (List.nodup_range' (s := 1) (n := 65535)) hsub
    simp only [List.length_range', List.length_append, WI.ids, List.length_map] at this
    omega
/-- A block that nobody writes. -/
def Far (o : Obj) : Prop := ∃ cs t fz, o = .cells cs t fz ∧ t ≠ 75 ∧ t ≠ 90 ∧ t ≠ 30 ∧ t ≠ 51 ∧ t ≠ 45
theorem Far.other {o : Obj} (h : Far o) : Other o := by
  obtain ⟨cs, t, fz, h1, h2, h3, h4, -⟩ := h
  exact ⟨cs, t, fz, h1, h2, h3, h4⟩
/-- The laid table. -/
structure Gd (w : World) : Prop where
  tab : TabAt 0 Lib.deBruijn64tab w
  oth : ∃ o, w.heap[0]? = some o ∧ Far o
theorem Gd.ch {w w' : World} {wb : Nat} {i : WI} {c : Nat} (g : Gd w) (h : WS w wb i c) (hc : Ch (i.U wb) w w') : Gd w' := by
  obtain ⟨o, ho, hO⟩ := g.oth
  have he : w'.heap[0]? = w.heap[0]? := hc.block 0 (Array.getElem?_eq_some_iff.1 ho).1 (h.other ho hO.other)
  exact ⟨fun j hj => (cell_heap (by exact he)).trans (g.tab j hj), o, he.trans ho, hO⟩
theorem Gd.below {w w' : World} (g : Gd w) (hb : Below w.heap.size w w') : Gd w' := by
  obtain ⟨o, ho, hO⟩ := g.oth
  have he : w'.heap[0]? = w.heap[0]? := hb.block 0 (Array.getElem?_eq_some_iff.1 ho).1
  exact ⟨fun j hj => (cell_heap (by exact he)).trans (g.tab j hj), o, he.trans ho, hO⟩
end Go.Proofs.YtbjhblnagmpnfaaDoor
