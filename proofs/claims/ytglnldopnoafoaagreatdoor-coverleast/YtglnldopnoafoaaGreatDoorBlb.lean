import Derived.Test.YtglnldopnoafoaaGreatDoorBki
import Derived.Deep.Onto
import Derived.OneCell
namespace Go.Proofs.YtglnldopnoafoaaGreatDoor
open Go Go.RowKit
set_option linter.unusedSimpArgs false
set_option linter.unusedVariables false

/-! ### The book's rows -/
/-- All but some blocks is as it was. -/
structure Ch (S : Nat → Prop) (w w' : World) : Prop where
  os : w'.os = w.os
  tape : w'.tape = w.tape
  output : w'.output = w.output
  size : w.heap.size ≤ w'.heap.size
  block : ∀ k, k < w.heap.size → ¬ S k → w'.heap[k]? = w.heap[k]?
theorem Ch.refl (S : Nat → Prop) (w : World) : Ch S w w := ⟨rfl, rfl, rfl, Nat.le_refl _, fun _ _ _ => rfl⟩
theorem Ch.trans {S S' : Nat → Prop} {a b c : World} (h : Ch S a b) (k : Ch S' b c) (hs : ∀ j, j < a.heap.size → S' j → S j) : Ch S a c :=
  ⟨k.os.trans h.os, k.tape.trans h.tape, k.output.trans h.output, Nat.le_trans h.size k.size, fun j hj hn => (k.block j (by have := h.size; omega) (fun q => hn (hs j hj q))).trans (h.block j hj hn)⟩
theorem Ch.mono {S S' : Nat → Prop} {a b : World} (h : Ch S a b) (hs : ∀ j, j < a.heap.size → S j → S' j) : Ch S' a b := (Ch.refl S' a).trans h hs
theorem Below.ch {S : Nat → Prop} {a b : World} (h : Below a.heap.size a b) : Ch S a b := ⟨h.os, h.tape, h.output, h.size, fun k hk _ => h.block k hk⟩
theorem ch_set {w : World} (hb i : Nat) (v : Value) : Ch (fun k => k = hb) w (w.setCell ⟨hb, i, none⟩ v) := ⟨rfl, rfl, rfl, by simp [World.setCell], fun k hk hn => Below.heap_setCell _ _ _ _ hn⟩
theorem ch_grown {w w' : World} {r : Option Nat} (h : w.grownBy w' r) : Ch (fun k => r = some k) w w' := ⟨h.os, h.tape, h.output, h.size, fun k hk hn => h.block k hk (fun e => hn e.symm)⟩
theorem blk_ne {w : World} {g g' : Nat} {c c' : Array Value} {t t' : TypeId} {f f' : Nat × Nat} (h : w.heap[g]? = some (.cells c t f)) (h' : w.heap[g']? = some (.cells c' t' f')) (ht : t ≠ t') : g ≠ g' := by
  intro e
  subst e
  rw [h] at h'
  simp at h'
  exact ht h'.2.1
theorem own_blk {w : World} {B e s n : Nat} {v : Value} {xs : List Value} (h : w.ownsRow B e s v n xs) {k : Nat} (hk : v.ownBlock = some k) : ∃ c, w.heap[k]? = some (.cells c e (0, 0)) := by
  rcases h.2 with ⟨r, _⟩ | ⟨g, cap, cur, r, _, hg, _⟩
  · rw [r] at hk; cases hk
  · rw [r] at hk
    have e' : g = k := by simpa [Value.ownBlock] using hk
    subst e'
    exact ⟨_, hg⟩
theorem own_keep {w w' : World} {B e s n : Nat} {v : Value} {xs : List Value} (h : w.ownsRow B e s v n xs) (hk : ∀ k, v.ownBlock = some k → w'.heap[k]? = w.heap[k]?) : w'.ownsRow B e s v n xs := by
  refine ⟨h.1, ?_⟩
  rcases h.2 with h0 | ⟨g, cap, cur, rfl, h1, hg, h2⟩
  · exact .inl h0
  · exact .inr ⟨g, cap, cur, rfl, h1, (hk g rfl).trans hg, h2⟩
/-- The element's type of the eight rows of a kind. -/
def et (i : Nat) : Nat := if i < 5 then 22 else 3
def upd {α : Type} (f : Nat → α) (i : Nat) (x : α) : Nat → α := fun j => if j = i then x else f j
theorem upd_same {α : Type} (f : Nat → α) (i : Nat) (x : α) : upd f i x i = x := by simp [upd]
theorem upd_ne {α : Type} (f : Nat → α) {i j : Nat} (x : α) (h : j ≠ i) : upd f i x j = f j := by simp [upd, h]
/-- The book's eight rows of a kind, each in a block of its own. -/
structure BR (w : World) (bb B : Nat) (cs : Array Value) (rv : Nat → Value) (xs : Nat → List Value) : Prop where
  at_ : BkAt w bb cs
  fld : ∀ i, i < 8 → cs[22 + i]? = some (rv i)
  own : ∀ i, i < 8 → w.ownsRow B (et i) 1 (rv i) (xs i).length (xs i)
  sep : ∀ i j, i < 8 → j < 8 → i ≠ j → ∀ k, (rv i).ownBlock = some k → (rv j).ownBlock ≠ some k
theorem et_ne (i : Nat) : et i ≠ 51 ∧ et i ≠ 9 := by unfold et; split <;> exact ⟨by decide, by decide⟩
theorem BR.ne {w : World} {bb B : Nat} {cs : Array Value} {rv : Nat → Value} {xs : Nat → List Value} (h : BR w bb B cs rv xs) (i : Nat) (hi : i < 8) : (rv i).ownBlock ≠ some bb := by
  intro e
  obtain ⟨c, hc⟩ := own_blk (h.own i hi) e
  exact blk_ne hc h.at_ (et_ne i).1 rfl
theorem BR.keep {w w' : World} {bb B : Nat} {cs : Array Value} {rv : Nat → Value} {xs : Nat → List Value} (h : BR w bb B cs rv xs) (h1 : w'.heap[bb]? = w.heap[bb]?) (h2 : ∀ i, i < 8 → ∀ k, (rv i).ownBlock = some k → w'.heap[k]? = w.heap[k]?) : BR w' bb B cs rv xs :=
  ⟨h1.trans h.at_, h.fld, fun i hi => own_keep (h.own i hi) (h2 i hi), h.sep⟩
theorem BR.below {w w' : World} {bb B : Nat} {cs : Array Value} {rv : Nat → Value} {xs : Nat → List Value} (h : BR w bb B cs rv xs) (hb : Below w.heap.size w w') : BR w' bb B cs rv xs :=
  h.keep (hb.block _ (lt_of_block h.at_)) (fun i hi k e => hb.block _ ((h.own i hi).lt k e).2)
/-- One more in a row. -/
theorem BR.push {w w' : World} {bb B : Nat} {cs : Array Value} {rv : Nat → Value} {xs : Nat → List Value} (h : BR w bb B cs rv xs) (i : Nat) (hi : i < 8) (x v' : Value) (ho : w'.ownsRow B (et i) 1 v' ((xs i).length + 1) (xs i ++ [x])) (hg : w.grownBy w' (rv i).ownBlock) (hv : v'.ownBlock = (rv i).ownBlock ∨ v'.ownBlock = some w.heap.size) :
    BR (w'.setCell ⟨bb, 22 + i, none⟩ v') bb B (cs.setIfInBounds (22 + i) v') (upd rv i v') (upd xs i (xs i ++ [x])) := by
  have hbb : w'.heap[bb]? = some (.cells cs 51 (0, 0)) := (hg.block bb (lt_of_block h.at_) (fun e => h.ne i hi e.symm)).trans h.at_
  have hne' : v'.ownBlock ≠ some bb := by
    intro e
    obtain ⟨c, hc⟩ := own_blk ho e
    exact blk_ne hc hbb (et_ne i).1 rfl
  have hcs : 22 + i < cs.size := (Array.getElem?_eq_some_iff.1 (h.fld i hi)).1
  have others : ∀ j, j < 8 → j ≠ i → w'.ownsRow B (et j) 1 (rv j) (xs j).length (xs j) := fun j hj hji => own_keep (h.own j hj) (fun k e => hg.block k ((h.own j hj).lt k e).2 (fun q => h.sep j i hj hi hji k e q.symm))
  refine ⟨heap_set (i := 22 + i) hbb v', fun j hj => ?_, fun j hj => ?_, fun a b ha hb hab k ea eb => ?_⟩
  · by_cases e : j = i
    · subst e; rw [upd_same]; simp [hcs]
    · rw [upd_ne _ _ e, Array.getElem?_setIfInBounds_ne (by omega)]; exact h.fld j hj
  · by_cases e : j = i
    · subst e
      rw [upd_same, upd_same, List.length_append, List.length_singleton]
      exact ownsRow_setCell_other ho hne' _
    · rw [upd_ne _ _ e, upd_ne _ _ e]
      refine ownsRow_setCell_other (others j hj e) ?_ _
      exact h.ne j hj
  · by_cases e1 : a = i
    · subst e1
      rw [upd_same] at ea
      rw [upd_ne _ _ (Ne.symm hab)] at eb
      rcases hv with q | q
      · exact h.sep a b ha hb hab k (q ▸ ea) eb
      · rw [q] at ea; cases ea
        have := ((h.own b hb).lt _ eb).2
        omega
    · rw [upd_ne _ _ e1] at ea
      by_cases e2 : b = i
      · subst e2
        rw [upd_same] at eb
        rcases hv with q | q
        · exact h.sep a b ha hb hab k ea (q ▸ eb)
        · rw [q] at eb; cases eb
          have := ((h.own a ha).lt _ ea).2
          omega
      · rw [upd_ne _ _ e2] at eb
        exact h.sep a b ha hb hab k ea eb
end Go.Proofs.YtglnldopnoafoaaGreatDoor
namespace Go.Proofs.YtglnldopnoafoaaGreatDoor
open Go Go.RowKit
set_option linter.unusedSimpArgs false
set_option linter.unusedVariables false

/-! ### What the book's lists hold -/
/-- A list of cells in memory. -/
def CL (w : World) (a : Option Addr) (l c : Nat) (L : List Value) : Prop :=
  l ≤ c ∧ L.length = l ∧ (l = 0 ∨ ∃ g off, a = some ⟨g, off, none⟩ ∧ ∀ j, j < l → w.cell? ⟨g, off + j, none⟩ = L[j]?)
/-- All its cells are among those that nobody writes. -/
def InD (D : Nat → Nat → Prop) (a : Option Addr) (l : Nat) : Prop := ∀ g off, a = some ⟨g, off, none⟩ → ∀ j, j < l → D g (off + j)
/-- Cells that nobody writes lie in rows of bytes, and stay. -/
structure Dk (w : World) (D : Nat → Nat → Prop) : Prop where
  typ : ∀ g j, D g j → ∃ c, w.heap[g]? = some (.cells c 9 (0, 0))
def Keeps (D : Nat → Nat → Prop) (w w' : World) : Prop := ∀ g j, D g j → w'.cell? ⟨g, j, none⟩ = w.cell? ⟨g, j, none⟩
theorem CL.keep {w w' : World} {D : Nat → Nat → Prop} {a : Option Addr} {l c : Nat} {L : List Value} (h : CL w a l c L) (hd : InD D a l) (hk : Keeps D w w') : CL w' a l c L := by
  refine ⟨h.1, h.2.1, ?_⟩
  rcases h.2.2 with h0 | ⟨g, off, e, hc⟩
  · exact .inl h0
  · exact .inr ⟨g, off, e, fun j hj => (hk g (off + j) (hd g off e j hj)).trans (hc j hj)⟩
theorem InD.mono {D D' : Nat → Nat → Prop} {a : Option Addr} {l : Nat} (h : InD D a l) (hd : ∀ g j, D g j → D' g j) : InD D' a l := fun g off e j hj => hd _ _ (h g off e j hj)
/-- A byte. -/
def Bv (u : Value) : Prop := ∃ x : ByteArray, u = .string x ∧ True ∧ True
theorem Bv.one {u : Value} (h : Bv u) : u.oneCell' = true := by obtain ⟨x, rfl, _⟩ := h; rfl
/-- Lists, each with one that tells what it must hold. -/
def PD (w : World) (D : Nat → Nat → Prop) (xo xt : List Value) : Prop :=
  xo.length = xt.length ∧ ∀ i, i < xo.length → ∃ a b l c c' L, xo[i]? = some (.slice a l c) ∧ xt[i]? = some (.slice b l c') ∧ l ≤ 1000000 ∧ CL w a l c L ∧ CL w b l c' L ∧ InD D a l ∧ InD D b l ∧ ∀ u ∈ L, Bv u
theorem PD.keep {w w' : World} {D D' : Nat → Nat → Prop} {xo xt : List Value} (h : PD w D xo xt) (hk : Keeps D w w') (hd : ∀ g j, D g j → D' g j) : PD w' D' xo xt := by
  refine ⟨h.1, fun i hi => ?_⟩
  obtain ⟨a, b, l, c, c', L, h1, h2, h3, h4, h5, h6, h7, h8⟩ := h.2 i hi
  exact ⟨a, b, l, c, c', L, h1, h2, h3, h4.keep h6 hk, h5.keep h7 hk, h6.mono hd, h7.mono hd, h8⟩
theorem PD.snoc {w : World} {D : Nat → Nat → Prop} {xo xt : List Value} (h : PD w D xo xt) {a b : Option Addr} {l c c' : Nat} {L : List Value} (hl : l ≤ 1000000) (h1 : CL w a l c L) (h2 : CL w b l c' L) (d1 : InD D a l) (d2 : InD D b l) (hb : ∀ u ∈ L, Bv u) : PD w D (xo ++ [.slice a l c]) (xt ++ [.slice b l c']) := by
  refine ⟨by simp [h.1], fun i hi => ?_⟩
  by_cases q : i < xo.length
  · obtain ⟨a', b', l', k, k', L', e1, e2, rest⟩ := h.2 i q
    exact ⟨a', b', l', k, k', L', by rw [List.getElem?_append_left q]; exact e1, by rw [List.getElem?_append_left (by rw [← h.1]; exact q)]; exact e2, rest⟩
  · have hi' : i = xo.length := by simp at hi; omega
    subst hi'
    exact ⟨a, b, l, c, c', L, by simp, by rw [h.1]; simp, hl, h1, h2, d1, d2, hb⟩
theorem PD.nil (w : World) (D : Nat → Nat → Prop) : PD w D [] [] := ⟨rfl, fun i hi => by simp at hi⟩
/-- A list that waits: in a block of its own that nothing else of the book lies in; and its note. -/
structure Wt (w : World) (B : Nat) (D : Nat → Nat → Prop) (v vn : Value) : Prop where
  ex : ∃ n L b c', n ≤ 900000 ∧ w.ownsRow B 9 1 v n L ∧ vn = .slice b n c' ∧ CL w b n c' L ∧ InD D b n ∧ ∀ u ∈ L, Bv u
  off : ∀ g, v.ownBlock = some g → ∀ j, ¬ D g j
theorem Wt.keep {w w' : World} {B : Nat} {D : Nat → Nat → Prop} {v vn : Value} (h : Wt w B D v vn) (h1 : ∀ k, v.ownBlock = some k → w'.heap[k]? = w.heap[k]?) (hk : Keeps D w w') {D' : Nat → Nat → Prop} (hd : ∀ g j, D g j → D' g j) (hn : ∀ g, v.ownBlock = some g → ∀ j, D' g j → D g j) : Wt w' B D' v vn := by
  obtain ⟨n, L, b, c', hn', ho, e, hc, hi, hb⟩ := h.ex
  exact ⟨⟨n, L, b, c', hn', own_keep ho h1, e, hc.keep hi hk, hi.mono hd, hb⟩, fun g e j q => h.off g e j (hn g e j q)⟩
end Go.Proofs.YtglnldopnoafoaaGreatDoor
