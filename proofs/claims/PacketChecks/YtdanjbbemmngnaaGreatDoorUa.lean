import Derived.Test.YtdanjbbemmngnaaGreatDoorRs
import Derived.Laws.AppendOwn
import Derived.Laws.OwnMore
import Derived.Laws.AppendOwnNone
import Derived.OwnWalk
namespace Go.Proofs.YtdanjbbemmngnaaGreatDoor
open Go Go.RowKit Go.Sort
set_option linter.unusedSimpArgs false
set_option linter.unusedVariables false

/-! ### Lists with spare room: the marks, and what stays where one is made -/
def lotI (i : Nat) : Int := if i % 2 = 0 then -7701 else -7702
def wordB (i : Nat) : ByteArray := if i % 2 = 0 then ⟨#[60, 111, 110, 101, 62]⟩ else ⟨#[60, 116, 119, 111, 62]⟩
def markU (i : Nat) : Int := if i % 2 = 0 then 235 else 234
theorem lot_two (i : Nat) : (lotI i = -7701 ∧ markU i = 235) ∨ (lotI i = -7702 ∧ markU i = 234) := by
  unfold lotI markU
  by_cases h : i % 2 = 0
  · exact .inl ⟨if_pos h, if_pos h⟩
  · exact .inr ⟨if_neg h, if_neg h⟩
theorem lot_any (i : Nat) (hi : i ≤ 1000000) (w : World) : Calls Tryz.prog 106 #[.int .i64 i] w fun e w' => e = .returned (.int .i64 (lotI i)) ∧ w' = w := by
  unfold lotI
  by_cases h : i % 2 = 0
  · rw [if_pos h]
    have h' : ((i : Int) % 2 == 0) = true := by simp; omega
    clear h
    go_enter Tryz.func106, Tryz.ntmps106
    go_wp2
    go_ret
    exact ⟨rfl, rfl⟩
  · rw [if_neg h]
    have h' : ((i : Int) % 2 == 0) = false := by simp; omega
    clear h
    go_enter Tryz.func106, Tryz.ntmps106
    go_wp2
    go_ret
    exact ⟨rfl, rfl⟩
theorem word_any (i : Nat) (hi : i ≤ 1000000) (w : World) : Calls Tryz.prog 107 #[.int .i64 i] w fun e w' => e = .returned (.string (wordB i)) ∧ w' = w := by
  unfold wordB
  by_cases h : i % 2 = 0
  · rw [if_pos h]
    have h' : ((i : Int) % 2 == 0) = true := by simp; omega
    clear h
    go_enter Tryz.func107, Tryz.ntmps107
    go_wp2
    go_ret
    exact ⟨rfl, rfl⟩
  · rw [if_neg h]
    have h' : ((i : Int) % 2 == 0) = false := by simp; omega
    clear h
    go_enter Tryz.func107, Tryz.ntmps107
    go_wp2
    go_ret
    exact ⟨rfl, rfl⟩

def mB (k : Nat) : List Value := (List.range k).map fun i => .int .u8 (markU i)
def mI (k : Nat) : List Value := (List.range k).map fun i => .int .i64 (lotI i)
def mS (k : Nat) : List Value := (List.range k).map fun i => .string (wordB i)
def mA (k : Nat) : List Value := (List.range k).flatMap fun i => [.string (wordB i), .int .i64 0]
theorem mB_succ (k : Nat) : mB (k + 1) = mB k ++ [.int .u8 (markU k)] := by simp [mB, List.range_succ]
theorem mI_succ (k : Nat) : mI (k + 1) = mI k ++ [.int .i64 (lotI k)] := by simp [mI, List.range_succ]
theorem mS_succ (k : Nat) : mS (k + 1) = mS k ++ [.string (wordB k)] := by simp [mS, List.range_succ]
theorem mA_succ (k : Nat) : mA (k + 1) = mA k ++ [.string (wordB k), .int .i64 0] := by simp [mA, List.range_succ]

theorem own_ne {w : World} {base e size n R t : Nat} {v : Value} {xs : List Value} {cs : Array Value} (h : w.ownsRow base e size v n xs) (hR : w.heap[R]? = some (.cells cs t (0, 0))) (hne : e ≠ t) : v.ownBlock ≠ some R := by
  obtain ⟨_, h | ⟨g, cp, cur, rfl, _, hh, _⟩⟩ := h
  · rw [h.1]; simp [Value.ownBlock]
  · intro k
    simp [Value.ownBlock] at k
    subst k
    rw [hh] at hR
    simp at hR
    exact hne hR.2
theorem own_two {w : World} {base e e' size n n' : Nat} {v v' : Value} {xs xs' : List Value} (h : w.ownsRow base e size v n xs) (h' : w.ownsRow base e' size v' n' xs') (hne : e ≠ e') : v.ownBlock = none ∨ v.ownBlock ≠ v'.ownBlock := by
  obtain ⟨_, k | ⟨g, cp, cur, rfl, _, hh, _⟩⟩ := h
  · rw [k.1]; exact .inl rfl
  · right
    have := own_ne h' hh (Ne.symm hne)
    exact fun q => this q.symm
theorem grown_of_below {w w' : World} (h : Below w.heap.size w w') : w.grownBy w' none := ⟨h.os, h.tape, h.output, h.size, fun k hk _ => h.block k hk⟩
theorem own_below {w w' : World} {base e size n : Nat} {v : Value} {xs : List Value} (h : w.ownsRow base e size v n xs) (hb : Below w.heap.size w w') : w'.ownsRow base e size v n xs := h.kept (grown_of_below hb) (by cases v.ownBlock <;> simp)
theorem heap_set {w : World} {R i t : Nat} {cs : Array Value} (h : w.heap[R]? = some (.cells cs t (0, 0))) (v : Value) : (w.setCell ⟨R, i, none⟩ v).heap[R]? = some (.cells (cs.setIfInBounds i v) t (0, 0)) := by
  simp [World.setCell, Array.getElem?_modify, h]
theorem own_shape {w : World} {base e size n : Nat} {v : Value} {xs : List Value} (h : w.ownsRow base e size v n xs) (hn : ¬ v = .slice none 0 0) : ∃ g cp, v = .slice (some ⟨g, 0, none⟩) n cp := by
  obtain ⟨_, k | ⟨g, cp, cur, hv, _⟩⟩ := h
  · exact absurd k.1 hn
  · exact ⟨g, cp, hv⟩
theorem one_new_set (w : World) (a : Addr) (v x : Value) (t : TypeId) : ∀ (j : Nat) (u : Value), [x][j]? = some u → ((w.setCell a v).alloc (.cells #[x] t)).cell? ((⟨w.heap.size, 0, none⟩ : Addr).add j) = some u := by
  have e : (w.setCell a v).heap.size = w.heap.size := by simp [World.setCell]
  rw [← e]
  exact cell_one_new _ _ _

/-- All older blocks but a room's own and its two rows are as they were. -/
def Frm (w w' : World) (R : Nat) (vb va : Value) : Prop := ∀ k, k < w.heap.size → k ≠ R → vb.ownBlock ≠ some k → va.ownBlock ≠ some k → w'.heap[k]? = w.heap[k]?

/-- What stands behind the two appends and stores of a lay. -/
theorem lay_end {w wr w3 : World} {R base m g te tl i : Nat} {cs cur : Array Value} {vb va v3 : Value} {xsb xsa news : List Value} {b1 : Array Value} (hte : te ≠ 47) (hte3 : te ≠ 3)
    (hbel : Below w.heap.size w wr) (hRlt : R < w.heap.size) (hbase : base ≤ R) (hR : wr.heap[R]? = some (.cells cs 47 (0, 0))) (ob : wr.ownsRow base te 1 vb m xsb) (oa : wr.ownsRow base 3 1 va m xsa)
    (kb : ∀ k, vb.ownBlock = some k → k < w.heap.size) (hg : w.heap.size ≤ g) (hh : wr.heap[g]? = some (.cells cur tl (0, 0)))
    (hown3 : w3.ownsRow base te 1 v3 (m + 1) (xsb ++ news)) (hgrow3 : (wr.alloc (.cells b1 te)).grownBy w3 vb.ownBlock) :
    w3.heap[R]? = some (.cells cs 47 (0, 0)) ∧ w3.ownsRow base 3 1 va m xsa ∧ w3.heap[g]? = some (.cells cur tl (0, 0)) ∧ Below base w w3 ∧ (w3.setCell ⟨R, i, none⟩ v3).ownsRow base 3 1 va m xsa ∧ base ≤ w3.heap.size ∧ Frm w w3 R vb va := by
  have hlt : wr.heap.size ≤ w3.heap.size := Nat.le_trans (by simp) hgrow3.size
  have hRr : R < wr.heap.size := lt_of_block hR
  have hgr : g < wr.heap.size := lt_of_block hh
  have e1 : w3.heap[R]? = some (.cells cs 47 (0, 0)) := by
    rw [hgrow3.block R (by simp; omega) (fun q => own_ne ob hR hte q.symm), Below.heap_alloc wr _ R hRr, hR]
  have e2 : w3.ownsRow base 3 1 va m xsa := (oa.alloc _).kept hgrow3 (own_two oa ob (Ne.symm hte3))
  have e3 : w3.heap[g]? = some (.cells cur tl (0, 0)) := by
    rw [hgrow3.block g (by simp; omega) (fun q => by have := kb g q.symm; omega), Below.heap_alloc wr _ g hgr, hh]
  have hs := hbel.size
  refine ⟨e1, e2, e3, ?_, ownsRow_setCell_other e2 (own_ne e2 e1 (by decide)) _, by omega, ?_⟩
  · exact ((hbel.mono (by omega)).alloc (by omega) _).grown hgrow3 (by simp; omega) (fun k hk => (ob.lt k hk).1)
  · intro k hk _ hb _
    rw [hgrow3.block k (by simp; omega) (fun q => hb q.symm), Below.heap_alloc wr _ k (by omega), hbel.block k hk]
theorem lay_end2 {w w3 w5 : World} {R base m g te tl i : Nat} {cs cur : Array Value} {vb va v3 v5 : Value} {xsb xsa news : List Value} {b1 : Array Value} (hte : te ≠ 47) (hte3 : te ≠ 3)
    (hR : w3.heap[R]? = some (.cells cs 47 (0, 0))) (oa : w3.ownsRow base 3 1 va m xsa) (hh : w3.heap[g]? = some (.cells cur tl (0, 0))) (hbel : Below base w w3) (hbase : base ≤ R) (hws : w.heap.size ≤ w3.heap.size)
    (ka : ∀ k, va.ownBlock = some k → k < w.heap.size) (hg : w.heap.size ≤ g) (hRlt : R < w.heap.size) (hF : Frm w w3 R vb va)
    (hown3 : w3.ownsRow base te 1 v3 (m + 1) xsb) (hown5 : w5.ownsRow base 3 1 v5 (m + 1) (xsa ++ news)) (hgrow5 : ((w3.setCell ⟨R, i, none⟩ v3).alloc (.cells b1 3)).grownBy w5 va.ownBlock) :
    w5.heap[R]? = some (.cells (cs.setIfInBounds i v3) 47 (0, 0)) ∧ (w5.setCell ⟨R, i + 1, none⟩ v5).heap[R]? = some (.cells ((cs.setIfInBounds i v3).setIfInBounds (i + 1) v5) 47 (0, 0)) ∧ (w5.setCell ⟨R, i + 1, none⟩ v5).ownsRow base te 1 v3 (m + 1) xsb ∧ (w5.setCell ⟨R, i + 1, none⟩ v5).ownsRow base 3 1 v5 (m + 1) (xsa ++ news) ∧
      (w5.setCell ⟨R, i + 1, none⟩ v5).heap[g]? = some (.cells cur tl (0, 0)) ∧ Below base w (w5.setCell ⟨R, i + 1, none⟩ v5) ∧ Frm w (w5.setCell ⟨R, i + 1, none⟩ v5) R vb va ∧ w.heap.size ≤ (w5.setCell ⟨R, i + 1, none⟩ v5).heap.size := by
  have hRr : R < w3.heap.size := lt_of_block hR
  have hgr : g < w3.heap.size := lt_of_block hh
  have hgR : g ≠ R := by omega
  have sz : (w3.setCell ⟨R, i, none⟩ v3).heap.size = w3.heap.size := by simp [World.setCell]
  have r4 := heap_set (i := i) hR v3
  have o4 : (w3.setCell ⟨R, i, none⟩ v3).ownsRow base te 1 v3 (m + 1) xsb := ownsRow_setCell_other hown3 (own_ne hown3 hR hte) _
  have a4 : (w3.setCell ⟨R, i, none⟩ v3).ownsRow base 3 1 va m xsa := ownsRow_setCell_other oa (own_ne oa hR (by decide)) _
  have g4 : (w3.setCell ⟨R, i, none⟩ v3).heap[g]? = some (.cells cur tl (0, 0)) := (Below.heap_setCell w3 _ v3 g (by simpa using hgR)).trans hh
  have b4 : Below base w (w3.setCell ⟨R, i, none⟩ v3) := hbel.setCell (by simpa using hbase) _
  have r5 : w5.heap[R]? = some (.cells (cs.setIfInBounds i v3) 47 (0, 0)) := by
    rw [hgrow5.block R (by simp; omega) (fun q => own_ne oa hR (by decide) q.symm), Below.heap_alloc _ _ R (by omega), r4]
  have o5 : w5.ownsRow base te 1 v3 (m + 1) xsb := (o4.alloc _).kept hgrow5 (own_two o4 a4 hte3)
  have g5 : w5.heap[g]? = some (.cells cur tl (0, 0)) := by
    rw [hgrow5.block g (by simp; omega) (fun q => by have := ka g q.symm; omega), Below.heap_alloc _ _ g (by omega), g4]
  have hs5 : w3.heap.size ≤ w5.heap.size := by have := hgrow5.size; simp at this; omega
  have b5 : Below base w w5 := (b4.alloc (by omega) _).grown hgrow5 (by simp; omega) (fun k hk => (oa.lt k hk).1)
  refine ⟨r5, heap_set r5 v5, ownsRow_setCell_other o5 (own_ne o5 r5 hte) _, ownsRow_setCell_other hown5 (own_ne hown5 r5 (by decide)) _, (Below.heap_setCell w5 _ v5 g (by simpa using hgR)).trans g5, b5.setCell (by simpa using hbase) _, ?_, by simp [World.setCell]; omega⟩
  intro k hk hkR hb ha
  rw [Below.heap_setCell w5 _ v5 k (by simpa using hkR), hgrow5.block k (by simp; omega) (fun q => ha q.symm), Below.heap_alloc _ _ k (by omega), Below.heap_setCell w3 _ v3 k (by simpa using hkR), hF k hk hkR hb ha]

/-- append of what came in: nil, or so many elements from its address on. -/
theorem append_any {P : Program} {w : World} {ops : Array Oper} {rest : List Oper} {o : Oper} {a : Act} {Q : Exit → Act → World → Prop} (hgd : o.guard = none) (s x : Operand) (t : TypeId)
    (ho : o.op = .call { callee := .builtin .append, args := #[s, x], argTypes := #[t, t] })
    (base : Nat) (e : TypeId) (i : TypeInfo) (z : Value) (size bytes : Nat) (ht : P.underlying t = some (.slice e)) (hi : P.info? e = some i) (hz : i.zero = some z)
    (hsize : i.size = size) (hby : i.bytes = bytes) (hzs : z.cells.size = size) (hsz : 0 < size)
    (v : Value) (n : Nat) (xs : List Value) (hs : a.eval s = v) (hown : w.ownsRow base e size v n xs)
    (ao : Option Addr) (m c : Nat) (news : List Value) (hx : a.eval x = .slice ao m c) (hl : news.length = m * size) (hsrc : (ao = none ∧ m = 0 ∧ c = 0) ∨ ∃ ad, ao = some ad ∧ ∀ j u, news[j]? = some u → w.cell? (ad.add j) = some u) (h1 : ∀ u ∈ news, u.oneCell' = true)
    (h63 : n + m ≤ maxLen) (hbytes : (n + m) * bytes ≤ 140737488355328) (hbase : base ≤ w.heap.size) (hnn : v ≠ .slice none 0 0)
    (h : ∀ v' w', w'.ownsRow base e size v' (n + m) (xs ++ news) → w.grownBy w' v.ownBlock → v' ≠ .slice none 0 0 → wpList P ops Q rest (a.put o.dst v') w') : wpList P ops Q (o :: rest) a w := by
  rcases hsrc with ⟨rfl, rfl, rfl⟩ | ⟨ad, rfl, hc⟩
  · obtain rfl : news = [] := List.length_eq_zero_iff.1 (by omega)
    refine wpList_append_own_none hgd s x t ho base e i size ht hi v n xs hs hown hx (h v w ?_ ⟨rfl, rfl, rfl, Nat.le_refl _, fun _ _ _ => rfl⟩ hnn)
    rw [List.append_nil]; exact hown
  · exact wpList_append_own w hgd s x t ho base e i z size bytes ht hi hz hsize hby hzs hsz v n xs hs hown ad m c news hx hl hc h1 h63 hbytes hbase (fun v' w' h2 h3 h4 => h v' w' h2 h3 (fun q => hnn (h4.1 q).1))
/-- A list that came in: nil, or its cells lie from its address on. -/
def Src (w : World) (s : Sl) (xs : List Value) : Prop := (s.a = none ∧ s.n = 0 ∧ s.c = 0) ∨ ∃ ad, s.a = some ad ∧ ∀ j u, xs[j]? = some u → w.cell? (ad.add j) = some u
theorem Src.below {w w' : World} {s : Sl} {xs : List Value} (h : Src w s xs) (hb : Below w.heap.size w w') : Src w' s xs := by
  rcases h with h | ⟨ad, e, h⟩
  · exact .inl h
  · exact .inr ⟨ad, e, fun j u hj => cell_later hb (h j u hj)⟩
end Go.Proofs.YtdanjbbemmngnaaGreatDoor
