import Derived.Test.YtglnldopnoafoaaWl
namespace Go.Proofs.Ytglnldopnoafoaa
open Go Go.RowKit
set_option linter.unusedSimpArgs false
set_option linter.unusedVariables false

abbrev Sx := Option Addr × Nat × Nat
/-- A slice as a value. -/
def encSl (x : Sx) : Value := .slice x.1 x.2.1 x.2.2
theorem row_put {α : Type} [Inhabited α] (enc : α → Value) {w : World} {v : Value} {xs : List ByteArray} (h : Row w v xs) (q blk off : Nat) (d : Array α) (hne : ∀ g, v.ownBlock = some g → g ≠ blk) : Row (Sort.putRow enc (Sort.ahead w q) blk off d) v xs := by
  obtain ⟨a, n, cap, rfl, hn, hc, hx⟩ := h
  refine ⟨a, n, cap, rfl, hn, hc, fun hn2 => ?_⟩
  obtain ⟨g, o, rfl, hg, hk⟩ := hx hn2
  refine ⟨g, o, rfl, by simpa using hg, fun k x hkx => ?_⟩
  rw [Sort.cell?_putRow_other _ _ _ _ _ _ (.inl (hne g rfl))]
  exact hk k x hkx
theorem holds_put {α β : Type} [Inhabited α] [Inhabited β] (enc : α → Value) (enc2 : β → Value) {w : World} {b2 : Nat} {d2 : Array β} (h : Sort.Holds enc2 w b2 0 d2) (q blk : Nat) (d : Array α) (hne : b2 ≠ blk) : Sort.Holds enc2 (Sort.putRow enc (Sort.ahead w q) blk 0 d) b2 0 d2 := by
  intro j hj
  have := h j hj
  refine ⟨?_, by rw [Sort.frozen?_putRow]; exact this.2⟩
  rw [Sort.cell?_putRow_other _ _ _ _ _ _ (.inl hne)]
  exact this.1
theorem holds_pre {α : Type} [Inhabited α] (enc : α → Value) {w : World} {b : Nat} {l m : List α} (h : Sort.Holds enc w b 0 (l ++ m).toArray) : Sort.Holds enc w b 0 l.toArray := by
  intro j hj
  have hj' : j < l.length := by simpa using hj
  have := h j (by simp; omega)
  refine ⟨?_, this.2⟩
  rw [this.1]
  simp [hj', List.getElem?_append_left hj']
theorem holds_below {α : Type} [Inhabited α] (enc : α → Value) {w w' : World} {b : Nat} {d : Array α} (h : Sort.Holds enc w b 0 d) (hb : Below w.heap.size w w') (hlt : b < w.heap.size) : Sort.Holds enc w' b 0 d := by
  intro j hj
  have := h j hj
  refine ⟨by rw [hb.cell (p := ⟨b, 0 + j, none⟩) hlt]; exact this.1, ?_⟩
  have e : w'.heap[b]? = w.heap[b]? := hb.block b hlt
  have h2 := this.2
  simp only [World.frozen?] at h2 ⊢
  rw [e]; exact h2
/-- Both lists of Least in memory. -/
structure St (w0 w : World) (lb sb lc sc : Nat) (L : List ByteArray) (D : List Sx) : Prop where
  bel : Below w0.heap.size w0 w
  l0 : w0.heap.size ≤ lb
  l1 : lb < w.heap.size
  s0 : w0.heap.size ≤ sb
  s1 : sb < w.heap.size
  ne : lb ≠ sb
  hl : Sort.Holds encStr w lb 0 (L.map unB).toArray
  hs : Sort.Holds encSl w sb 0 D.toArray
  len : D.length = L.length
  lc1 : L.length ≤ lc
  lc2 : lc ≤ 9223372036854775807
  sc1 : L.length ≤ sc
  sc2 : sc ≤ 9223372036854775807
  rows : ∀ (j : Nat) (x : ByteArray) (d : Sx), L[j]? = some x → D[j]? = some d → Row w (encSl d) ((lvO x).map mkB) ∧ ∀ g, (encSl d).ownBlock = some g → g ≠ lb ∧ g ≠ sb
theorem St.later {w0 w w' : World} {lb sb lc sc : Nat} {L : List ByteArray} {D : List Sx} (h : St w0 w lb sb lc sc L D) (hb : Below w.heap.size w w') : St w0 w' lb sb lc sc L D :=
  ⟨h.bel.trans (hb.mono h.bel.size), h.l0, Nat.lt_of_lt_of_le h.l1 hb.size, h.s0, Nat.lt_of_lt_of_le h.s1 hb.size, h.ne, holds_below _ h.hl hb h.l1, holds_below _ h.hs hb h.s1, h.len, h.lc1, h.lc2, h.sc1, h.sc2, fun j x d h1 h2 => ⟨(h.rows j x d h1 h2).1.later hb, (h.rows j x d h1 h2).2⟩⟩
theorem below_putG {α : Type} [Inhabited α] (enc : α → Value) {B : Nat} {w : World} {g : Nat} (hg : B ≤ g) (q : Nat) (d : Array α) : Below B w (Sort.putRow enc (Sort.ahead w q) g 0 d) := by
  refine ⟨rfl, rfl, rfl, by simp, fun k hk => ?_⟩
  have : k ≠ g := by omega
  simp [Sort.putRow, Sort.mapBlock]
  rw [Array.getElem?_modify]
  simp [this.symm]
theorem cut_at {α : Type} (l : List α) (i : Nat) : l.eraseIdx i = l.take i ++ l.drop (i + 1) := List.eraseIdx_eq_take_drop_succ l i
theorem St.del {w0 w : World} {lb sb lc sc : Nat} {L : List ByteArray} {D : List Sx} (h : St w0 w lb sb lc sc L D) (i q1 q2 : Nat) (hi : i < L.length) (z1 : List Bs) (z2 : List Sx) (w1 w2 : World) (h1 : w1 = Sort.putRow encStr (Sort.ahead w q1) lb 0 ((L.map unB).take i ++ (L.map unB).drop (i + 1) ++ z1).toArray) (hz1 : z1.length = 1) (h2 : w2 = Sort.putRow encSl (Sort.ahead w1 q2) sb 0 (D.take i ++ D.drop (i + 1) ++ z2).toArray) (hz2 : z2.length = 1) : St w0 w2 lb sb lc sc (L.eraseIdx i) (D.eraseIdx i) := by
  have hlen := h.len
  have e1 : w1.heap.size = w.heap.size := by rw [h1]; simp
  have e2 : w2.heap.size = w1.heap.size := by rw [h2]; simp
  have b1 : Below w0.heap.size w0 w1 := h.bel.trans (by rw [h1]; exact below_putG _ h.l0 _ _)
  have b2 : Below w0.heap.size w0 w2 := b1.trans (by rw [h2]; exact below_putG _ h.s0 _ _)
  have hs1 : Sort.Holds encSl w1 sb 0 D.toArray := by rw [h1]; exact holds_put _ _ h.hs _ _ _ (Ne.symm h.ne)
  have hl1 : Sort.Holds encStr w1 lb 0 ((L.map unB).take i ++ (L.map unB).drop (i + 1) ++ z1).toArray := by
    rw [h1]
    exact Sort.holds_putRow _ _ _ _ _ _ (Sort.holds_ahead _ _ _ _ _ _ h.hl) (by simp; omega)
  have hl2 : Sort.Holds encStr w2 lb 0 ((L.map unB).take i ++ (L.map unB).drop (i + 1) ++ z1).toArray := by rw [h2]; exact holds_put _ _ hl1 _ _ _ h.ne
  have hs2 : Sort.Holds encSl w2 sb 0 (D.take i ++ D.drop (i + 1) ++ z2).toArray := by
    rw [h2]
    exact Sort.holds_putRow _ _ _ _ _ _ (Sort.holds_ahead _ _ _ _ _ _ hs1) (by simp; omega)
  have hl : (L.eraseIdx i).length = L.length - 1 := by rw [List.length_eraseIdx]; simp [hi]
  have hd : (D.eraseIdx i).length = D.length - 1 := by rw [List.length_eraseIdx]; simp [hlen, hi]
  refine ⟨b2, h.l0, by rw [e2, e1]; exact h.l1, h.s0, by rw [e2, e1]; exact h.s1, h.ne, ?_, ?_, by omega, by have := h.lc1; omega, h.lc2, by have := h.sc1; omega, h.sc2, ?_⟩
  · have : (L.eraseIdx i).map unB = (L.map unB).take i ++ (L.map unB).drop (i + 1) := by rw [cut_at]; simp
    rw [this]
    exact holds_pre _ hl2
  · rw [cut_at]
    exact holds_pre _ hs2
  · intro j x d hx hd2
    have key : ∃ k : Nat, L[k]? = some x ∧ D[k]? = some d := by
      rw [List.getElem?_eraseIdx] at hx hd2
      by_cases hj : j < i
      · rw [if_pos hj] at hx hd2; exact ⟨j, hx, hd2⟩
      · rw [if_neg hj] at hx hd2; exact ⟨j + 1, hx, hd2⟩
    obtain ⟨k, k1, k2⟩ := key
    obtain ⟨r1, r2⟩ := h.rows k x d k1 k2
    refine ⟨?_, r2⟩
    rw [h2]
    refine row_put _ ?_ _ _ _ _ (fun g hg => (r2 g hg).2)
    rw [h1]
    exact row_put _ r1 _ _ _ _ (fun g hg => (r2 g hg).1)
end Go.Proofs.Ytglnldopnoafoaa
