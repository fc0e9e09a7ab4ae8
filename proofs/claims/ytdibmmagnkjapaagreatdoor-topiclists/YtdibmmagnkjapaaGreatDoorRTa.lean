import Derived.Test.YtdibmmagnkjapaaGreatDoorProg
import Derived.WalkKit
import Derived.WalkSpells
import Derived.WalkLawsBesides
import Derived.Laws.BitsAllLaws
import Derived.Laws.AppendOwnNone
namespace Go.Proofs.YtdibmmagnkjapaaGreatDoor.Rm
open Go Go.RowKit
set_option linter.unusedSimpArgs false
set_option linter.unusedVariables false

/-- The mark at a place behind a list of texts. -/
def mark (i : Nat) : ByteArray := if i % 2 = 0 then ⟨#[60, 111, 110, 101, 62]⟩ else ⟨#[60, 116, 119, 111, 62]⟩
theorem lot_any (i : Nat) (hi : i ≤ 1000000) (w : World) :
    Calls Tryz.prog 98 #[.int .i64 i] w fun e w' => e = .returned (.string (if i % 2 = 0 then ⟨#[60, 111, 110, 101, 62]⟩ else ⟨#[60, 116, 119, 111, 62]⟩)) ∧ w' = w := by
  by_cases h : i % 2 = 0
  · rw [if_pos h]
    have h' : ((i : Int) % 2 == 0) = true := by simp; omega
    clear h
    go_enter Tryz.func98, Tryz.ntmps98
    go_wp2
    go_ret
    exact ⟨rfl, rfl⟩
  · rw [if_neg h]
    have h' : ((i : Int) % 2 == 0) = false := by simp; omega
    clear h
    go_enter Tryz.func98, Tryz.ntmps98
    go_wp2
    go_ret
    exact ⟨rfl, rfl⟩
theorem Tryz.info9 : (Tryz.prog.info? 9).map (fun i => (i.zero, i.size, i.bytes)) = some (some (.string ⟨#[]⟩), 1, 16) := by kernel_rfl
theorem Tryz.info22 : (Tryz.prog.info? 22).map (fun i => (i.zero, i.size, i.bytes)) = some (some (.slice none 0 0), 1, 24) := by kernel_rfl
theorem Tryz.info3 : (Tryz.prog.info? 3).map (fun i => (i.zero, i.size, i.bytes)) = some (some (.int .i64 0), 1, 8) := by kernel_rfl

/-- A slice of bytes that came in: nil, or these bytes lie from its address on. -/
def Came (w : World) (ao : Option Addr) (len cap : Nat) (z : Nat → ByteArray) : Prop :=
  len ≤ cap ∧ True ∧ ((ao = none ∧ len = 0 ∧ cap = 0) ∨ ∃ ad, ao = some ad ∧ ∀ i, i < len → w.cell? (ad.add i) = some (.string (z i)))

/-- The cells of so many bytes. -/
def cellsOf (z : Nat → ByteArray) (n : Nat) : List Value := (List.range n).map fun i => .string (z i)
theorem cellsOf_length (z : Nat → ByteArray) (n : Nat) : (cellsOf z n).length = n := by simp [cellsOf]
theorem cellsOf_get (z : Nat → ByteArray) (n j : Nat) (u : Value) (h : (cellsOf z n)[j]? = some u) : j < n ∧ u = .string (z j) := by
  unfold cellsOf at h
  rw [List.getElem?_map] at h
  by_cases hj : j < n
  · rw [List.getElem?_range hj] at h
    simp at h
    exact ⟨hj, h.symm⟩
  · rw [List.getElem?_eq_none (by simpa using hj)] at h
    simp at h
theorem cellsOf_at (z : Nat → ByteArray) (n j : Nat) (hj : j < n) : (cellsOf z n)[j]? = some (.string (z j)) := by
  unfold cellsOf
  rw [List.getElem?_map, List.getElem?_range hj]
  rfl
theorem cellsOf_succ (z : Nat → ByteArray) (n : Nat) : cellsOf z (n + 1) = cellsOf z n ++ [.string (z n)] := by
  simp [cellsOf, List.range_succ]
theorem cellsOf_one (z : Nat → ByteArray) (n : Nat) (u : Value) (h : u ∈ cellsOf z n) : u.oneCell' = true := by
  unfold cellsOf at h
  obtain ⟨i, _, rfl⟩ := List.mem_map.1 h
  rfl

theorem own_ne {w : World} {base e size n R t : Nat} {v : Value} {xs : List Value} {cs : Array Value} (h : w.ownsRow base e size v n xs) (hR : w.heap[R]? = some (.cells cs t (0, 0))) (hne : e ≠ t) : v.ownBlock ≠ some R := by
  obtain ⟨_, h | ⟨g, cp, cur, rfl, _, hh, _⟩⟩ := h
  · rw [h.1]; simp [Value.ownBlock]
  · intro k
    simp [Value.ownBlock] at k
    subst k
    rw [hh] at hR
    simp at hR
    exact hne hR.2
theorem own_two {w : World} {base e e' size n n' : Nat} {v v' : Value} {xs xs' : List Value} (h : w.ownsRow base e size v n xs) (h' : w.ownsRow base e' size v' n' xs') (hne : e ≠ e') : v.ownBlock = none ∨ v.ownBlock ≠ v'.ownBlock := by
  obtain ⟨_, k | ⟨g, cp, cur, rfl, _, hh, _⟩⟩ := h
  · rw [k.1]; exact .inl rfl
  · right
    have := own_ne h' hh (Ne.symm hne)
    exact fun q => this q.symm
theorem heap_set {w : World} {R i t : Nat} {cs : Array Value} (h : w.heap[R]? = some (.cells cs t (0, 0))) (v : Value) : (w.setCell ⟨R, i, none⟩ v).heap[R]? = some (.cells (cs.setIfInBounds i v) t (0, 0)) := by
  simp [World.setCell, Array.getElem?_modify, h]

theorem own_shape {w : World} {base e size n : Nat} {v : Value} {xs : List Value} (h : w.ownsRow base e size v n xs) (hn : ¬ v = .slice none 0 0) : ∃ g cp, v = .slice (some ⟨g, 0, none⟩) n cp := by
  obtain ⟨_, k | ⟨g, cp, cur, hv, _⟩⟩ := h
  · exact absurd k.1 hn
  · exact ⟨g, cp, hv⟩

/-- All below stays, and so does every row of bytes. -/
def BelF (base : Nat) (w w' : World) : Prop := Below base w w' ∧ ∀ (g : Nat) (k : Array Value) (t : TypeId), t = 9 ∨ t = 44 → w.heap[g]? = some (.cells k t (0, 0)) → w'.heap[g]? = w.heap[g]?
/-- What stands behind the two appends and stores of layBytes. -/
theorem lay_end {w wr w3 : World} {R base m g : Nat} {cs cur : Array Value} {vb va v3 : Value} {xsb xsa news : List Value} {b1 : Array Value}
    (hbel : Below w.heap.size w wr) (hRlt : R < w.heap.size) (hbase : base ≤ R) (hR : wr.heap[R]? = some (.cells cs 59 (0, 0))) (ob : wr.ownsRow base 22 1 vb m xsb) (oa : wr.ownsRow base 3 1 va m xsa)
    (hg : w.heap.size ≤ g) (hh : wr.heap[g]? = some (.cells cur 9 (0, 0)))
    (hown3 : w3.ownsRow base 22 1 v3 (m + 1) (xsb ++ news)) (hgrow3 : (wr.alloc (.cells b1 22)).grownBy w3 vb.ownBlock) :
    w3.heap[R]? = some (.cells cs 59 (0, 0)) ∧ w3.ownsRow base 3 1 va m xsa ∧ w3.heap[g]? = some (.cells cur 9 (0, 0)) ∧ BelF base w w3 ∧ (w3.setCell ⟨R, 4, none⟩ v3).ownsRow base 3 1 va m xsa ∧ base ≤ w3.heap.size := by
  have hlt : wr.heap.size ≤ w3.heap.size := Nat.le_trans (by simp) hgrow3.size
  have hRr : R < wr.heap.size := lt_of_block hR
  have hgr : g < wr.heap.size := lt_of_block hh
  have e1 : w3.heap[R]? = some (.cells cs 59 (0, 0)) := by
    rw [hgrow3.block R (by simp; omega) (fun q => own_ne ob hR (by decide) q.symm), Below.heap_alloc wr _ R hRr, hR]
  have e2 : w3.ownsRow base 3 1 va m xsa := (oa.alloc _).kept hgrow3 (own_two oa ob (by decide))
  have e3 : w3.heap[g]? = some (.cells cur 9 (0, 0)) := by
    rw [hgrow3.block g (by simp; omega) (fun q => own_ne ob hh (by decide) q.symm), Below.heap_alloc wr _ g hgr, hh]
  have hs := hbel.size
  refine ⟨e1, e2, e3, ?_, ownsRow_setCell_other e2 (own_ne e2 e1 (by decide)) _, by omega⟩
  refine ⟨((hbel.mono (by omega)).alloc (by omega) _).grown hgrow3 (by simp; omega) (fun k hk => (ob.lt k hk).1), fun q kk t ht hq => ?_⟩
  have q1 := (hbel.block q (lt_of_block hq)).trans hq
  rw [hgrow3.block q (by have := lt_of_block q1; simp; omega) (fun e => own_ne ob q1 (by rcases ht with rfl | rfl <;> decide) e.symm), Below.heap_alloc wr _ q (lt_of_block q1), q1, hq]

theorem lay_end2 {w w3 w5 : World} {R base m g : Nat} {cs cur : Array Value} {va v3 v5 : Value} {xsb xsa news : List Value} {b1 : Array Value}
    (hR : w3.heap[R]? = some (.cells cs 59 (0, 0))) (oa : w3.ownsRow base 3 1 va m xsa) (hh : w3.heap[g]? = some (.cells cur 9 (0, 0))) (hbel : BelF base w w3) (hbase : base ≤ R)
    (hown3 : w3.ownsRow base 22 1 v3 (m + 1) xsb) (hown5 : w5.ownsRow base 3 1 v5 (m + 1) (xsa ++ news)) (hgrow5 : ((w3.setCell ⟨R, 4, none⟩ v3).alloc (.cells b1 3)).grownBy w5 va.ownBlock) :
    w5.heap[R]? = some (.cells (cs.setIfInBounds 4 v3) 59 (0, 0)) ∧ (w5.setCell ⟨R, 5, none⟩ v5).heap[R]? = some (.cells ((cs.setIfInBounds 4 v3).setIfInBounds 5 v5) 59 (0, 0)) ∧ (w5.setCell ⟨R, 5, none⟩ v5).ownsRow base 22 1 v3 (m + 1) xsb ∧ (w5.setCell ⟨R, 5, none⟩ v5).ownsRow base 3 1 v5 (m + 1) (xsa ++ news) ∧
      (w5.setCell ⟨R, 5, none⟩ v5).heap[g]? = some (.cells cur 9 (0, 0)) ∧ BelF base w (w5.setCell ⟨R, 5, none⟩ v5) := by
  have hRr : R < w3.heap.size := lt_of_block hR
  have hgr : g < w3.heap.size := lt_of_block hh
  have hgR : g ≠ R := by
    rintro rfl
    rw [hh] at hR
    simp at hR
  have sz : (w3.setCell ⟨R, 4, none⟩ v3).heap.size = w3.heap.size := by simp [World.setCell]
  have r4 := heap_set (i := 4) hR v3
  have o4 : (w3.setCell ⟨R, 4, none⟩ v3).ownsRow base 22 1 v3 (m + 1) xsb := ownsRow_setCell_other hown3 (own_ne hown3 hR (by decide)) _
  have a4 : (w3.setCell ⟨R, 4, none⟩ v3).ownsRow base 3 1 va m xsa := ownsRow_setCell_other oa (own_ne oa hR (by decide)) _
  have g4 : (w3.setCell ⟨R, 4, none⟩ v3).heap[g]? = some (.cells cur 9 (0, 0)) := (Below.heap_setCell w3 _ v3 g (by simpa using hgR)).trans hh
  have b4 : Below base w (w3.setCell ⟨R, 4, none⟩ v3) := hbel.1.setCell (by simpa using hbase) _
  have r5 : w5.heap[R]? = some (.cells (cs.setIfInBounds 4 v3) 59 (0, 0)) := by
    rw [hgrow5.block R (by simp; omega) (fun q => own_ne oa hR (by decide) q.symm), Below.heap_alloc _ _ R (by omega), r4]
  have o5 : w5.ownsRow base 22 1 v3 (m + 1) xsb := (o4.alloc _).kept hgrow5 (own_two o4 a4 (by decide))
  have g5 : w5.heap[g]? = some (.cells cur 9 (0, 0)) := by
    rw [hgrow5.block g (by simp; omega) (fun q => own_ne a4 g4 (by decide) q.symm), Below.heap_alloc _ _ g (by omega), g4]
  have b5 : Below base w w5 := (b4.alloc (by omega) _).grown hgrow5 (by simp; omega) (fun k hk => (oa.lt k hk).1)
  refine ⟨r5, heap_set r5 v5, ownsRow_setCell_other o5 (own_ne o5 r5 (by decide)) _, ownsRow_setCell_other hown5 (own_ne hown5 r5 (by decide)) _, (Below.heap_setCell w5 _ v5 g (by simpa using hgR)).trans g5, b5.setCell (by simpa using hbase) _, fun q kk t ht hq => ?_⟩
  have q1 : w3.heap[q]? = some (.cells kk t (0, 0)) := (hbel.2 q kk t ht hq).trans hq
  have qR : q ≠ R := by
    rintro rfl
    rw [q1] at hR
    rcases ht with rfl | rfl <;> simp at hR
  have q2 : (w3.setCell ⟨R, 4, none⟩ v3).heap[q]? = some (.cells kk t (0, 0)) := (Below.heap_setCell w3 _ v3 q (by simpa using qR)).trans q1
  rw [Below.heap_setCell w5 _ v5 q (by simpa using qR), hgrow5.block q (by have := lt_of_block q2; simp at this ⊢; omega) (fun e => own_ne a4 q2 (by rcases ht with rfl | rfl <;> decide) e.symm), Below.heap_alloc _ _ q (lt_of_block q2), q2, hq]

theorem one_new_set (w : World) (a : Addr) (v x : Value) (t : TypeId) : ∀ (j : Nat) (u : Value), [x][j]? = some u → ((w.setCell a v).alloc (.cells #[x] t)).cell? ((⟨w.heap.size, 0, none⟩ : Addr).add j) = some u := by
  have e : (w.setCell a v).heap.size = w.heap.size := by simp [World.setCell]
  rw [← e]
  exact cell_one_new _ _ _
end Go.Proofs.YtdibmmagnkjapaaGreatDoor.Rm
