import Derived.Test.YtcoccggimbficaaGreatDoorRs
import Derived.Laws.AppendOwn
import Derived.Laws.OwnMore
import Derived.Laws.AppendOwnNone
import Derived.OwnWalk
namespace Go.Proofs.YtcoccggimbficaaGreatDoor
open Go Go.RowKit Go.Sort
set_option linter.unusedSimpArgs false
set_option linter.unusedVariables false

/-! ### Lists with spare room: the marks, and what stays where one is made -/
def lotI (i : Nat) : Int := if i % 2 = 0 then -7701 else -7702
def wordB (i : Nat) : ByteArray := if i % 2 = 0 then ⟨#[60, 111, 110, 101, 62]⟩ else ⟨#[60, 116, 119, 111, 62]⟩
def markU (i : Nat) : Int := if i % 2 = 0 then 235 else 234
theorem lot_two (i : Nat) : (lotI i = -7701 ∧ markU i = 235) ∨ (lotI i = -7702 ∧ markU i = 234) := by
  unfold lotI markU
  by_cases h : i % 2 = 0
  · exact .inl ⟨if_pos h, if_pos h⟩
  · exact .inr ⟨if_neg h, if_neg h⟩
theorem lot_any (i : Nat) (hi : i ≤ 1000000) (w : World) : Calls Tryz.prog 106 #[.int .i64 i] w fun e w' => e = .returned (.int .i64 (lotI i)) ∧ w' = w := by
  unfold lotI
  by_cases h : i % 2 = 0
  · rw [if_pos h]
    have h' : ((i : Int) % 2 == 0) = true := by simp; omega
    clear h
    go_enter Tryz.func106, Tryz.ntmps106
    go_wp2
    go_ret
    exact ⟨rfl, rfl⟩
  · rw [if_neg h]
    have h' : ((i : Int) % 2 == 0) = false := by simp; omega
    clear h
    go_enter Tryz.func106, Tryz.ntmps106
    go_wp2
    go_ret
    exact ⟨rfl, rfl⟩
theorem word_any (i : Nat) (hi : i ≤ 1000000) (w : World) : Calls Tryz.prog 107 #[.int .i64 i] w fun e w' => e = .returned (.string (wordB i)) ∧ w' = w := by
  unfold wordB
  by_cases h : i % 2 = 0
  · rw [if_pos h]
    have h' : ((i : Int) % 2 == 0) = true := by simp; omega
    clear h
    go_enter Tryz.func107, Tryz.ntmps107
    go_wp2
    go_ret
    exact ⟨rfl, rfl⟩
  · rw [if_neg h]
    have h' : ((i : Int) % 2 == 0) = false := by simp; omega
    clear h
    go_enter Tryz.func107, Tryz.ntmps107
    go_wp2
    go_ret
    exact ⟨rfl, rfl⟩

def mB (k : Nat) : List Value := (List.range k).map fun i => .int .u8 (markU i)
def mI (k : Nat) : List Value := (List.range k).map fun i => .int .i64 (lotI i)
def mS (k : Nat) : List Value := (List.range k).map fun i => .string (wordB i)
def mA (k : Nat) : List Value := (List.range k).flatMap fun i => [.string (wordB i), .int .i64 0]
theorem mB_succ (k : Nat) : mB (k + 1) = mB k ++ [.int .u8 (markU k)] := by simp [mB, List.range_succ]
theorem mI_succ (k : Nat) : mI (k + 1) = mI k ++ [.int .i64 (lotI k)] := by simp [mI, List.range_succ]
theorem mS_succ (k : Nat) : mS (k + 1) = mS k ++ [.string (wordB k)] := by simp [mS, List.range_succ]
theorem mA_succ (k : Nat) : mA (k + 1) = mA k ++ [.string (wordB k), .int .i64 0] := by simp [mA, List.range_succ]

theorem own_ne {w : World} {base e size n R t : Nat} {v : Value} {xs : List Value} {cs : Array Value} (h : w.ownsRow base e size v n xs) (hR : w.heap[R]? = some (.cells cs t (0, 0))) (hne : e ≠ t) : v.ownBlock ≠ some R := by
  obtain ⟨_, h | ⟨g, cp, cur, rfl, _, hh, _⟩⟩ := h
  · rw [h.1]; simp [Value.ownBlock]
  · intro k
    simp [Value.ownBlock] at k
    subst k
    rw [hh] at hR
    simp at hR
    exact hne hR.2
theorem own_two {w : World} {base e e' size n n' : Nat} {v v' : Value} {xs xs' : List Value} (h : w.ownsRow base e size v n xs) (h' : w.ownsRow base e' size v' n' xs') (hne : e ≠ e') : v.ownBlock = none ∨ v.ownBlock ≠ v'.ownBlock := by
  obtain ⟨_, k | ⟨g, cp, cur, rfl, _, hh, _⟩⟩ := h
  · rw [k.1]; exact .inl rfl
  · right
    have := own_ne h' hh (Ne.symm hne)
    exact fun q => this q.symm
theorem grown_of_below {w w' : World} (h : Below w.heap.size w w') : w.grownBy w' none := ⟨h.os, h.tape, h.output, h.size, fun k hk _ => h.block k hk⟩
theorem own_below {w w' : World} {base e size n : Nat} {v : Value} {xs : List Value} (h : w.ownsRow base e size v n xs) (hb : Below w.heap.size w w') : w'.ownsRow base e size v n xs := h.kept (grown_of_below hb) (by cases v.ownBlock <;> simp)
theorem heap_set {w : World} {R i t : Nat} {cs : Array Value} (h : w.heap[R]? = some (.cells cs t (0, 0))) (v : Value) : (w.setCell ⟨R, i, none⟩ v).heap[R]? = some (.cells (cs.setIfInBounds i v) t (0, 0)) := by
  simp [World.setCell, Array.getElem?_modify, h]
theorem own_shape {w : World} {base e size n : Nat} {v : Value} {xs : List Value} (h : w.ownsRow base e size v n xs) (hn : ¬ v = .slice none 0 0) : ∃ g cp, v = .slice (some ⟨g, 0, none⟩) n cp := by
  obtain ⟨_, k | ⟨g, cp, cur, hv, _⟩⟩ := h
  · exact absurd k.1 hn
  · exact ⟨g, cp, hv⟩
theorem one_new_set (w : World) (a : Addr) (v x : Value) (t : TypeId) : ∀ (j : Nat) (u : Value), [x][j]? = some u → ((w.setCell a v).alloc (.cells #[x] t)).cell? ((⟨w.heap.size, 0, none⟩ : Addr).add j) = some u := by
  have e : (w.setCell a v).heap.size = w.heap.size := by simp [World.setCell]
  rw [← e]
  exact cell_one_new _ _ _

/-- All older blocks but a room's own and its two rows are as they were. -/
def Frm (w w' : World) (R : Nat) (vb va : Value) : Prop := ∀ k, k < w.heap.size → k ≠ R → vb.ownBlock ≠ some k → va.ownBlock ≠ some k → w'.heap[k]? = w.heap[k]?

/-- What stands behind the two appends and stores of a lay. -/
theorem lay_end {w wr w3 : World} {R base m g te tl i : Nat} {cs cur : Array Value} {vb va v3 : Value} {xsb xsa news : List Value} {b1 : Array Value} (hte : te ≠ 47) (hte3 : te ≠ 3)
    (hbel : Below w.heap.size w wr) (hRlt : R < w.heap.size) (hbase : base ≤ R) (hR : wr.heap[R]? = some (.cells cs 47 (0, 0))) (ob : wr.ownsRow base te 1 vb m xsb) (oa : wr.ownsRow base 3 1 va m xsa)
    (kb : ∀ k, vb.ownBlock = some k → k < w.heap.size) (hg : w.heap.size ≤ g) (hh : wr.heap[g]? = some (.cells cur tl (0, 0)))
    (hown3 : w3.ownsRow base te 1 v3 (m + 1) (xsb ++ news)) (hgrow3 : (wr.alloc (.cells b1 te)).grownBy w3 vb.ownBlock) :
    w3.heap[R]? = some (.cells cs 47 (0, 0)) ∧ w3.ownsRow base 3 1 va m xsa ∧ w3.heap[g]? = some (.cells cur tl (0, 0)) ∧ Below base w w3 ∧ (w3.setCell ⟨R, i, none⟩ v3).ownsRow base 3 1 va m xsa ∧ base ≤ w3.heap.size ∧ Frm w w3 R vb va := by
  have hlt : wr.heap.size ≤ w3.heap.size := Nat.le_trans (by simp) hgrow3.size
  have hRr : R < wr.heap.size := lt_of_block hR
  have hgr : g < wr.heap.size := lt_of_block hh
  have e1 : w3.heap[R]? = some (.cells cs 47 (0, 0)) := by
    rw [hgrow3.block R (by simp; omega) (fun q => own_ne ob hR hte q.symm), Below.heap_alloc wr _ R hRr, hR]
  have e2 : w3.ownsRow base 3 1 va m xsa := (oa.alloc _).kept hgrow3 (own_two oa ob (Ne.symm hte3))
  have e3 : w3.heap[g]? = some (.cells cur tl (0, 0)) := by
    rw [hgrow3.block g (by simp; omega) (fun q => by have := kb g q.symm; omega), Below.heap_alloc wr _ g hgr, hh]
  have hs := hbel.size
  refine ⟨e1, e2, e3, ?_, ownsRow_setCell_other e2 (own_ne e2 e1 (by decide)) _, by omega, ?_⟩
  · exact ((hbel.mono (by omega)).alloc (by omega) _).grown hgrow3 (by simp; omega) (fun k hk => (ob.lt k hk).1)
  · intro k hk _ hb _
    rw [hgrow3.block k (by simp; omega) (fun q => hb q.symm), Below.heap_alloc wr _ k (by omega), hbel.block k hk]
theorem lay_end2 {w w3 w5 : World} {R base m g te tl i : Nat} {cs cur : Array Value} {vb va v3 v5 : Value} {xsb xsa news : List Value} {b1 : Array Value} (hte : te ≠ 47) (hte3 : te ≠ 3)
    (hR : w3.heap[R]? = some (.cells cs 47 (0, 0))) (oa : w3.ownsRow base 3 1 va m xsa) (hh : w3.heap[g]? = some (.cells cur tl (0, 0))) (hbel : Below base w w3) (hbase : base ≤ R) (hws : w.heap.size ≤ w3.heap.size)
    (ka : ∀ k, va.ownBlock = some k → k < w.heap.size) (hg : w.heap.size ≤ g) (hRlt : R < w.heap.size) (hF : Frm w w3 R vb va)
    (hown3 : w3.ownsRow base te 1 v3 (m + 1) xsb) (hown5 : w5.ownsRow base 3 1 v5 (m + 1) (xsa ++ news)) (hgrow5 : ((w3.setCell ⟨R, i, none⟩ v3).alloc (.cells b1 3)).grownBy w5 va.ownBlock) :
    w5.heap[R]? = some (.cells (cs.setIfInBounds i v3) 47 (0, 0)) ∧ (w5.setCell ⟨R, i + 1, none⟩ v5).heap[R]? = some (.cells ((cs.setIfInBounds i v3).setIfInBounds (i + 1) v5) 47 (0, 0)) ∧ (w5.setCell ⟨R, i + 1, none⟩ v5).ownsRow base te 1 v3 (m + 1) xsb ∧ (w5.setCell ⟨R, i + 1, none⟩ v5).ownsRow base 3 1 v5 (m + 1) (xsa ++ news) ∧
      (w5.setCell ⟨R, i + 1, none⟩ v5).heap[g]? = some (.cells cur tl (0, 0)) ∧ Below base w (w5.setCell ⟨R, i + 1, none⟩ v5) ∧ Frm w (w5.setCell ⟨R, i + 1, none⟩ v5) R vb va ∧ w.heap.size ≤ (w5.setCell ⟨R, i + 1, none⟩ v5).heap.size := by
  have hRr : R < w3.heap.size := lt_of_block hR
  have hgr : g < w3.heap.size := lt_of_block hh
  have hgR : g ≠ R := by omega
  have sz : (w3.setCell ⟨R, i, none⟩ v3).heap.size = w3.heap.size := by simp [World.setCell]
  have r4 := heap_set (i := i) hR v3
  have o4 : (w3.setCell ⟨R, i, none⟩ v3).ownsRow base te 1 v3 (m + 1) xsb := ownsRow_setCell_other hown3 (own_ne hown3 hR hte) _
  have a4 : (w3.setCell ⟨R, i, none⟩ v3).ownsRow base 3 1 va m xsa := ownsRow_setCell_other oa (own_ne oa hR (by decide)) _
  have g4 : (w3.setCell ⟨R, i, none⟩ v3).heap[g]? = some (.cells cur tl (0, 0)) := (Below.heap_setCell w3 _ v3 g (by simpa using hgR)).trans hh
  have b4 : Below base w (w3.setCell ⟨R, i, none⟩ v3) := hbel.setCell (by simpa using hbase) _
  have r5 : w5.heap[R]? = some (.cells (cs.setIfInBounds i v3) 47 (0, 0)) := by
    rw [hgrow5.block R (by simp; omega) (fun q => own_ne oa hR (by decide) q.symm), Below.heap_alloc _ _ R (by omega), r4]
  have o5 : w5.ownsRow base te 1 v3 (m + 1) xsb := (o4.alloc _).kept hgrow5 (own_two o4 a4 hte3)
  have g5 : w5.heap[g]? = some (.cells cur tl (0, 0)) := by
    rw [hgrow5.block g (by simp; omega) (fun q => by have := ka g q.symm; omega), Below.heap_alloc _ _ g (by omega), g4]
  have hs5 : w3.heap.size ≤ w5.heap.size := by have := hgrow5.size; simp at this; omega
  have b5 : Below base w w5 := (b4.alloc (by omega) _).grown hgrow5 (by simp; omega) (fun k hk => (oa.lt k hk).1)
  refine ⟨r5, heap_set r5 v5, ownsRow_setCell_other o5 (own_ne o5 r5 hte) _, ownsRow_setCell_other hown5 (own_ne hown5 r5 (by decide)) _, (Below.heap_setCell w5 _ v5 g (by simpa using hgR)).trans g5, b5.setCell (by simpa using hbase) _, ?_, by simp [World.setCell]; omega⟩
  intro k hk hkR hb ha
  rw [Below.heap_setCell w5 _ v5 k (by simpa using hkR), hgrow5.block k (by simp; omega) (fun q => ha q.symm), Below.heap_alloc _ _ k (by omega), Below.heap_setCell w3 _ v3 k (by simpa using hkR), hF k hk hkR hb ha]

/-- append of what came in: nil, or so many elements from its address on. -/
theorem append_any {P : Program} {w : World} {ops : Array Oper} {rest : List Oper} {o : Oper} {a : Act} {Q : Exit → Act → World → Prop} (hgd : o.guard = none) (s x : Operand) (t : TypeId)
    (ho : o.op = .call { callee := .builtin .append, args := #[s, x], argTypes := #[t, t] })
    (base : Nat) (e : TypeId) (i : TypeInfo) (z : Value) (size bytes : Nat) (ht : P.underlying t = some (.slice e)) (hi : P.info? e = some i) (hz : i.zero = some z)
    (hsize : i.size = size) (hby : i.bytes = bytes) (hzs : z.cells.size = size) (hsz : 0 < size)
    (v : Value) (n : Nat) (xs : List Value) (hs : a.eval s = v) (hown : w.ownsRow base e size v n xs)
    (ao : Option Addr) (m c : Nat) (news : List Value) (hx : a.eval x = .slice ao m c) (hl : news.length = m * size) (hsrc : (ao = none ∧ m = 0 ∧ c = 0) ∨ ∃ ad, ao = some ad ∧ ∀ j u, news[j]? = some u → w.cell? (ad.add j) = some u) (h1 : ∀ u ∈ news, u.oneCell' = true)
    (h63 : n + m ≤ maxLen) (hbytes : (n + m) * bytes ≤ 140737488355328) (hbase : base ≤ w.heap.size) (hnn : v ≠ .slice none 0 0)
    (h : ∀ v' w', w'.ownsRow base e size v' (n + m) (xs ++ news) → w.grownBy w' v.ownBlock → v' ≠ .slice none 0 0 → wpList P ops Q rest (a.put o.dst v') w') : wpList P ops Q (o :: rest) a w := by
  rcases hsrc with ⟨rfl, rfl, rfl⟩ | ⟨ad, rfl, hc⟩
  · obtain rfl : news = [] := List.length_eq_zero_iff.1 (by omega)
    refine wpList_append_own_none hgd s x t ho base e i size ht hi v n xs hs hown hx (h v w ?_ ⟨rfl, rfl, rfl, Nat.le_refl _, fun _ _ _ => rfl⟩ hnn)
    rw [List.append_nil]; exact hown
  · exact wpList_append_own w hgd s x t ho base e i z size bytes ht hi hz hsize hby hzs hsz v n xs hs hown ad m c news hx hl hc h1 h63 hbytes hbase (fun v' w' h2 h3 h4 => h v' w' h2 h3 (fun q => hnn (h4.1 q).1))
/-- A list that came in: nil, or its cells lie from its address on. -/
def Src (w : World) (s : Sl) (xs : List Value) : Prop := (s.a = none ∧ s.n = 0 ∧ s.c = 0) ∨ ∃ ad, s.a = some ad ∧ ∀ j u, xs[j]? = some u → w.cell? (ad.add j) = some u
theorem Src.below {w w' : World} {s : Sl} {xs : List Value} (h : Src w s xs) (hb : Below w.heap.size w w') : Src w' s xs := by
  rcases h with h | ⟨ad, e, h⟩
  · exact .inl h
  · exact .inr ⟨ad, e, fun j u hj => cell_later hb (h j u hj)⟩
end Go.Proofs.YtcoccggimbficaaGreatDoor
namespace Go.Proofs.YtcoccggimbficaaGreatDoor
open Go Go.RowKit Go.Sort
set_option linter.unusedSimpArgs false
set_option linter.unusedVariables false

theorem Tryz.infoBe : (Tryz.prog.info? 5).map (fun i => (i.zero, i.size, i.bytes)) = some (some (.int .u8 0), 1, 1) := by kernel_rfl
theorem Tryz.infoBt : (Tryz.prog.info? 22).map (fun i => (i.zero, i.size, i.bytes)) = some (some (.slice none 0 0), 1, 24) := by kernel_rfl
theorem Tryz.infoBn : (Tryz.prog.info? 3).map (fun i => (i.zero, i.size, i.bytes)) = some (some (.int .i64 0), 1, 8) := by kernel_rfl

set_option maxRecDepth 100000 in
set_option maxHeartbeats 4000000 in
theorem layB (R base m : Nat) (cs : Array Value) (vb va : Value) (xsb xsa : List Value) (s : Sl) (xs : List Value) (w : World) (hm : s.n ≤ 1000000) (hm1 : m ≤ 1000) (hl : xs.length = s.n * 1) (h1 : ∀ u ∈ xs, u.oneCell' = true) (hc : Src w s xs)
    (hR : w.heap[R]? = some (.cells cs 47 (0, 0))) (hb : cs[0]? = some vb) (ha : cs[1]? = some va) (hbase : base ≤ R) (hob : w.ownsRow base 22 1 vb m xsb) (hoa : w.ownsRow base 3 1 va m xsa) :
    Calls Tryz.prog 81 #[.pointer (some ⟨R, 0, none⟩), .slice s.a s.n s.c, .int .i64 600] w fun e w' => ∃ g cp cur vb' va', e = .returned (.slice (some ⟨g, 0, none⟩) s.n (s.n + 600)) ∧
      w.heap.size ≤ g ∧ w'.heap[g]? = some (.cells cur 5 (0, 0)) ∧ cur.size = cp * 1 ∧ s.n + 600 ≤ cp ∧ cur.toList.take ((s.n + 600) * 1) = xs ++ mB 600 ∧
      w'.heap[R]? = some (.cells ((cs.setIfInBounds 0 vb').setIfInBounds 1 va') 47 (0, 0)) ∧ w'.ownsRow base 22 1 vb' (m + 1) (xsb ++ [.slice (some ⟨g, 0, none⟩) (s.n + 600) cp]) ∧ w'.ownsRow base 3 1 va' (m + 1) (xsa ++ [.int .i64 s.n]) ∧
      Below base w w' ∧ Frm w w' R vb va ∧ w.heap.size ≤ w'.heap.size := by
  obtain ⟨sa, len, sc⟩ := s
  simp only at hm hl ⊢
  have HR : Hid (w.heap[R]? = some (.cells cs 47 (0, 0)) ∧ cs[0]? = some vb ∧ cs[1]? = some va ∧ base ≤ R ∧ w.ownsRow base 22 1 vb m xsb ∧ w.ownsRow base 3 1 va m xsa) := ⟨hR, hb, ha, hbase, hob, hoa⟩
  have KB : Hid (∀ k, vb.ownBlock = some k → k < w.heap.size) := fun k hk => (hob.lt k hk).2
  have KA : Hid (∀ k, va.ownBlock = some k → k < w.heap.size) := fun k hk => (hoa.lt k hk).2
  have HL : Hid (xs.length = len * 1 ∧ (∀ u ∈ xs, u.oneCell' = true) ∧ Src w ⟨sa, len, sc⟩ xs) := ⟨hl, h1, hc⟩
  clear hR hb ha hbase hob hoa hl h1 hc
  obtain ⟨j0, hj, hj0, hj1, hj2⟩ := info_parts Tryz.infoBt
  obtain ⟨l0, hl, hl0, hl1, hl2⟩ := info_parts Tryz.infoBn
  obtain ⟨i0, hi, hz0, hz1, hz2⟩ := info_parts Tryz.infoBe
  have OWN0 : Hid ((w.alloc (.cells #[] 5)).ownsRow w.heap.size 5 1 (.slice (some ⟨w.heap.size, 0, none⟩) 0 0) 0 []) := World.ownsRow_made w #[] 0 (Nat.le_refl _) (by decide) (by decide)
  go_enter Tryz.func81, Tryz.ntmps81
  go_wp2_with (at_builtin; refine append_any rfl (.tmp 10) (.tmp 11) 22 rfl w.heap.size 5 i0 (.int .u8 0) 1 1 Tryz.underlying22 hi hz0 hz1 hz2 rfl (by decide) _ _ _ rfl OWN0.out sa len sc xs rfl HL.out.1 ?c1 HL.out.2.1 ?c3 ?c4 ?c5 ?c6 ?_)
  case c1 => exact HL.out.2.2.below (below1 _ _)
  case c3 => unfold maxLen; omega
  case c4 => omega
  case c5 => simp
  case c6 => show (Value.slice (some ⟨w.heap.size, 0, none⟩) 0 0) ≠ _; simp
  intro v1 w1 hown1 hgrow1 hnil1
  have hb1 : Below w.heap.size w w1 := ((Below.refl w.heap.size w).alloc (Nat.le_refl _) _).grown hgrow1 (by simp) (by intro k hk; simp [Value.ownBlock] at hk; omega)
  have HS : Hid (w1.ownsRow w.heap.size 5 1 v1 (len + 0) (xs ++ mB 0) ∧ Below w.heap.size w w1 ∧ v1 ≠ .slice none 0 0) := ⟨by simpa [mB] using hown1, hb1, hnil1⟩
  clear hown1 hgrow1 hnil1 hb1
  go_wp2
  go_loopw [7, 8] (fun v i wr => ∃ k : Nat, k ≤ 600 ∧ i = .int .i64 k ∧ wr.ownsRow w.heap.size 5 1 v (len + k) (xs ++ mB k) ∧ Below w.heap.size w wr ∧ v ≠ .slice none 0 0) (fun _ i _ => 600 - (intOf i).toNat)
  case atStart => exact ⟨0, by omega, rfl, HS.out⟩
  case round =>
    obtain ⟨k, hk, rfl, hown, hbel, hnn⟩ := hrel
    have HO : Hid (wr.ownsRow w.heap.size 5 1 u7 (len + k) (xs ++ mB k)) := hown
    have HB : Hid (Below w.heap.size w wr) := hbel
    have HN : Hid (u7 ≠ .slice none 0 0) := hnn
    clear hown hbel hnn
    by_cases hlt : k < 600
    · have HZ : Hid (∀ w, Calls Tryz.prog 106 #[.int .i64 k] w fun e w' => e = .returned (.int .i64 (lotI k)) ∧ w' = w) := fun w => lot_any k (by omega) w
      rcases lot_two k with ⟨q1, q2⟩ | ⟨q1, q2⟩
      · rw [q1] at HZ
        have HL0 := HZ
        have HM : Hid (markU k = 235) := q2
        clear q1 q2 HZ
        go_wp2_with (first | (go_at_call 106; refine (HL0.out _).mono ?_; rintro e w' ⟨rfl, rfl⟩) | (at_builtin; refine wpList_append_own _ rfl (.tmp 18) (.tmp 22) 22 rfl w.heap.size 5 i0 (.int .u8 0) 1 1 Tryz.underlying22 hi hz0 hz1 hz2 rfl (by decide) _ _ _ rfl (HO.out.alloc _) ⟨_, 0, none⟩ 1 1 [.int .u8 235] rfl rfl ?d1 ?d2 ?d3 ?d4 ?d5 ?_))
        case d1 => exact cell_one_new _ _ _
        case d2 => intro u hu; simp at hu; subst hu; rfl
        case d3 => unfold maxLen; omega
        case d4 => omega
        case d5 => have := HB.out.size; simp; omega
        intro v2 w2 hown2 hgrow2 hnil2
        have hb2 := (HB.out.alloc HB.out.size _).grown hgrow2 (by have := HB.out.size; simp; omega) (by intro q hq; exact (HO.out.lt _ hq).1)
        have HS2 : Hid (w2.ownsRow w.heap.size 5 1 v2 (len + (k + 1)) (xs ++ mB (k + 1)) ∧ Below w.heap.size w w2 ∧ v2 ≠ .slice none 0 0) := ⟨by rw [mB_succ, HM.out]; exact hown2, hb2, hnil2⟩
        clear hown2 hgrow2 hnil2 hb2
        go_wp2
        go_roundw
        case rel => exact ⟨k + 1, by omega, by go_num, HS2.out⟩
        case measure => simp [intOf]; omega
      · rw [q1] at HZ
        have HL0 := HZ
        have HM : Hid (markU k = 234) := q2
        clear q1 q2 HZ
        go_wp2_with (first | (go_at_call 106; refine (HL0.out _).mono ?_; rintro e w' ⟨rfl, rfl⟩) | (at_builtin; refine wpList_append_own _ rfl (.tmp 18) (.tmp 22) 22 rfl w.heap.size 5 i0 (.int .u8 0) 1 1 Tryz.underlying22 hi hz0 hz1 hz2 rfl (by decide) _ _ _ rfl (HO.out.alloc _) ⟨_, 0, none⟩ 1 1 [.int .u8 234] rfl rfl ?d1 ?d2 ?d3 ?d4 ?d5 ?_))
        case d1 => exact cell_one_new _ _ _
        case d2 => intro u hu; simp at hu; subst hu; rfl
        case d3 => unfold maxLen; omega
        case d4 => omega
        case d5 => have := HB.out.size; simp; omega
        intro v2 w2 hown2 hgrow2 hnil2
        have hb2 := (HB.out.alloc HB.out.size _).grown hgrow2 (by have := HB.out.size; simp; omega) (by intro q hq; exact (HO.out.lt _ hq).1)
        have HS2 : Hid (w2.ownsRow w.heap.size 5 1 v2 (len + (k + 1)) (xs ++ mB (k + 1)) ∧ Below w.heap.size w w2 ∧ v2 ≠ .slice none 0 0) := ⟨by rw [mB_succ, HM.out]; exact hown2, hb2, hnil2⟩
        clear hown2 hgrow2 hnil2 hb2
        go_wp2
        go_roundw
        case rel => exact ⟨k + 1, by omega, by go_num, HS2.out⟩
        case measure => simp [intOf]; omega
    · obtain rfl : k = 600 := by omega
      obtain ⟨hlen, h | ⟨g, cp, cur, rfl, hg, hh, h1, h2, h3, h4⟩⟩ := HO.out
      · exact absurd h.1 HN.out
      obtain ⟨hR, hb, ha, hbase, hob, hoa⟩ := HR.out
      have hRlt : R < w.heap.size := lt_of_block hR
      have OB : Hid (wr.ownsRow base 22 1 vb m xsb) := own_below hob HB.out
      have OA : Hid (wr.ownsRow base 3 1 va m xsa) := own_below hoa HB.out
      have hR' : wr.heap[R]? = some (.cells cs 47 (0, 0)) := (HB.out.block R hRlt).trans hR
      have cR0 : wr.cell? ⟨R, 0, none⟩ = some vb := by simp [World.cell?, hR', hb]
      have HG : Hid (w.heap.size ≤ g ∧ wr.heap[g]? = some (.cells cur 5 (0, 0)) ∧ len + 600 ≤ cp ∧ cur.size = cp * 1 ∧ cur.toList.take ((len + 600) * 1) = xs ++ mB 600 ∧ R < w.heap.size ∧ wr.heap[R]? = some (.cells cs 47 (0, 0))) := ⟨hg, hh, h1, h3, h4, hRlt, hR'⟩
      clear hR hb ha hbase hob hoa hg hh h2 h3 h4 hlen hR'
      have hbs : base ≤ wr.heap.size := by have := HB.out.size; have := HR.out.2.2.2.1; have := HG.out.2.2.2.2.2.1; omega
      go_wp2_with (at_builtin; refine wpList_append_own _ rfl (.tmp 28) (.tmp 30) 32 rfl base 22 j0 (.slice none 0 0) 1 24 Tryz.underlying32 hj hj0 hj1 hj2 rfl (by decide) _ _ _ rfl (OB.out.alloc _) ⟨_, 0, none⟩ 1 1 [.slice (some ⟨g, 0, none⟩) (len + 600) cp] rfl rfl ?f1 ?f2 ?f3 ?f4 ?f5 ?_)
      case f1 => exact cell_one_new _ _ _
      case f2 => intro u hu; simp at hu; subst hu; rfl
      case f3 => unfold maxLen; omega
      case f4 => omega
      case f5 => simp; omega
      intro v3 w3 hown3 hgrow3 hnil3
      obtain ⟨gv, cv, rfl⟩ := own_shape hown3 hnil3
      clear hnil3
      have L := lay_end (i := 0) (by decide) (by decide) HB.out HG.out.2.2.2.2.2.1 HR.out.2.2.2.1 HG.out.2.2.2.2.2.2 OB.out OA.out KB.out HG.out.1 HG.out.2.1 hown3 hgrow3
      have f3 : w3.frozen? ⟨R, 0, none⟩ = false := by simp [World.frozen?, L.1]
      have g3 : w3.cell? ⟨R, 0, none⟩ = some vb := by simp [World.cell?, L.1, HR.out.2.1]
      have k3 : w3.cell? ⟨R, 1, none⟩ = some va := by simp [World.cell?, L.1, HR.out.2.2.1]
      have HX : Hid (w3.ownsRow base 22 1 (.slice (some ⟨gv, 0, none⟩) (m + 1) cv) (m + 1) (xsb ++ [.slice (some ⟨g, 0, none⟩) (len + 600) cp])) := hown3
      have hws3 : Hid (w.heap.size ≤ w3.heap.size) := Nat.le_trans HB.out.size (Nat.le_trans (by simp) hgrow3.size)
      clear hown3 hgrow3
      obtain ⟨l1, l2, l3, l4, l5, l6, l7⟩ := L
      have HLL : Hid (w3.heap[R]? = some (.cells cs 47 (0, 0)) ∧ w3.ownsRow base 3 1 va m xsa ∧ w3.heap[g]? = some (.cells cur 5 (0, 0)) ∧ Below base w w3 ∧ (w3.setCell ⟨R, 0, none⟩ (.slice (some ⟨gv, 0, none⟩) (m + 1) cv)).ownsRow base 3 1 va m xsa) := ⟨l1, l2, l3, l4, l5⟩
      have HF : Hid (Frm w w3 R vb va) := l7
      clear l1 l2 l3 l4 l5 l7
      go_wp2_with (at_builtin; refine wpList_append_own _ rfl (.tmp 38) (.tmp 41) 26 rfl base 3 l0 (.int .i64 0) 1 8 Tryz.underlying26 hl hl0 hl1 hl2 rfl (by decide) _ _ _ rfl (HLL.out.2.2.2.2.alloc _) ⟨_, 0, none⟩ 1 1 [.int .i64 len] rfl rfl ?q1 ?q2 ?q3 ?q4 ?q5 ?_)
      case q1 => exact one_new_set _ _ _ _ _
      case q2 => intro u hu; simp at hu; subst hu; rfl
      case q3 => unfold maxLen; omega
      case q4 => omega
      case q5 => simp; omega
      intro v5 w5 hown5 hgrow5 hnil5
      obtain ⟨ga, ca, rfl⟩ := own_shape hown5 hnil5
      clear hnil5
      have M := lay_end2 (by decide) (by decide) HLL.out.1 HLL.out.2.1 HLL.out.2.2.1 HLL.out.2.2.2.1 HR.out.2.2.2.1 hws3.out KA.out HG.out.1 HG.out.2.2.2.2.2.1 HF.out HX.out hown5 hgrow5
      have f5 : w5.frozen? ⟨R, 1, none⟩ = false := by simp [World.frozen?, M.1]
      have g5 : w5.cell? ⟨R, 1, none⟩ = some va := by have h := HR.out.2.2.1; simp [World.cell?, M.1, h]
      obtain ⟨_, m2, m3, m4, m5, m6, m7, m8⟩ := M
      have HM : Hid (w.heap.size ≤ g ∧ (w5.setCell ⟨R, 1, none⟩ (.slice (some ⟨ga, 0, none⟩) (m + 1) ca)).heap[g]? = some (.cells cur 5 (0, 0)) ∧ cur.size = cp * 1 ∧ len + 600 ≤ cp ∧ cur.toList.take ((len + 600) * 1) = xs ++ mB 600 ∧
        (w5.setCell ⟨R, 1, none⟩ (.slice (some ⟨ga, 0, none⟩) (m + 1) ca)).heap[R]? = some (.cells ((cs.setIfInBounds 0 (.slice (some ⟨gv, 0, none⟩) (m + 1) cv)).setIfInBounds 1 (.slice (some ⟨ga, 0, none⟩) (m + 1) ca)) 47 (0, 0)) ∧
        (w5.setCell ⟨R, 1, none⟩ (.slice (some ⟨ga, 0, none⟩) (m + 1) ca)).ownsRow base 22 1 (.slice (some ⟨gv, 0, none⟩) (m + 1) cv) (m + 1) (xsb ++ [.slice (some ⟨g, 0, none⟩) (len + 600) cp]) ∧ (w5.setCell ⟨R, 1, none⟩ (.slice (some ⟨ga, 0, none⟩) (m + 1) ca)).ownsRow base 3 1 (.slice (some ⟨ga, 0, none⟩) (m + 1) ca) (m + 1) (xsa ++ [.int .i64 len]) ∧
        Below base w (w5.setCell ⟨R, 1, none⟩ (.slice (some ⟨ga, 0, none⟩) (m + 1) ca)) ∧ Frm w (w5.setCell ⟨R, 1, none⟩ (.slice (some ⟨ga, 0, none⟩) (m + 1) ca)) R vb va ∧ w.heap.size ≤ (w5.setCell ⟨R, 1, none⟩ (.slice (some ⟨ga, 0, none⟩) (m + 1) ca)).heap.size) := ⟨HG.out.1, m5, HG.out.2.2.2.1, h1, HG.out.2.2.2.2.1, m2, m3, m4, m6, m7, m8⟩
      clear hown5 hgrow5 m2 m3 m4 m5 m6 m7 m8
      go_wp2
      go_ret
      exact ⟨g, cp, cur, _, _, rfl, HM.out⟩
end Go.Proofs.YtcoccggimbficaaGreatDoor
namespace Go.Proofs.YtcoccggimbficaaGreatDoor
open Go Go.RowKit Go.Sort
set_option linter.unusedSimpArgs false
set_option linter.unusedVariables false

theorem Tryz.infoAe : (Tryz.prog.info? 78).map (fun i => (i.zero, i.size, i.bytes)) = some (some (.agg #[.string ⟨#[]⟩, .int .i64 0]), 2, 24) := by kernel_rfl
theorem Tryz.infoAt : (Tryz.prog.info? 25).map (fun i => (i.zero, i.size, i.bytes)) = some (some (.slice none 0 0), 1, 24) := by kernel_rfl
theorem Tryz.infoAn : (Tryz.prog.info? 3).map (fun i => (i.zero, i.size, i.bytes)) = some (some (.int .i64 0), 1, 8) := by kernel_rfl

set_option maxRecDepth 100000 in
set_option maxHeartbeats 4000000 in
theorem layA (R base m : Nat) (cs : Array Value) (vb va : Value) (xsb xsa : List Value) (s : Sl) (xs : List Value) (w : World) (hm : s.n ≤ 1000000) (hm1 : m ≤ 1000) (hl : xs.length = s.n * 2) (h1 : ∀ u ∈ xs, u.oneCell' = true) (hc : Src w s xs)
    (hR : w.heap[R]? = some (.cells cs 47 (0, 0))) (hb : cs[6]? = some vb) (ha : cs[7]? = some va) (hbase : base ≤ R) (hob : w.ownsRow base 25 1 vb m xsb) (hoa : w.ownsRow base 3 1 va m xsa) :
    Calls Tryz.prog 82 #[.pointer (some ⟨R, 0, none⟩), .slice s.a s.n s.c, .int .i64 40] w fun e w' => ∃ g cp cur vb' va', e = .returned (.slice (some ⟨g, 0, none⟩) s.n (s.n + 40)) ∧
      w.heap.size ≤ g ∧ w'.heap[g]? = some (.cells cur 78 (0, 0)) ∧ cur.size = cp * 2 ∧ s.n + 40 ≤ cp ∧ cur.toList.take ((s.n + 40) * 2) = xs ++ mA 40 ∧
      w'.heap[R]? = some (.cells ((cs.setIfInBounds 6 vb').setIfInBounds 7 va') 47 (0, 0)) ∧ w'.ownsRow base 25 1 vb' (m + 1) (xsb ++ [.slice (some ⟨g, 0, none⟩) (s.n + 40) cp]) ∧ w'.ownsRow base 3 1 va' (m + 1) (xsa ++ [.int .i64 s.n]) ∧
      Below base w w' ∧ Frm w w' R vb va ∧ w.heap.size ≤ w'.heap.size := by
  obtain ⟨sa, len, sc⟩ := s
  simp only at hm hl ⊢
  have HR : Hid (w.heap[R]? = some (.cells cs 47 (0, 0)) ∧ cs[6]? = some vb ∧ cs[7]? = some va ∧ base ≤ R ∧ w.ownsRow base 25 1 vb m xsb ∧ w.ownsRow base 3 1 va m xsa) := ⟨hR, hb, ha, hbase, hob, hoa⟩
  have KB : Hid (∀ k, vb.ownBlock = some k → k < w.heap.size) := fun k hk => (hob.lt k hk).2
  have KA : Hid (∀ k, va.ownBlock = some k → k < w.heap.size) := fun k hk => (hoa.lt k hk).2
  have HL : Hid (xs.length = len * 2 ∧ (∀ u ∈ xs, u.oneCell' = true) ∧ Src w ⟨sa, len, sc⟩ xs) := ⟨hl, h1, hc⟩
  clear hR hb ha hbase hob hoa hl h1 hc
  obtain ⟨j0, hj, hj0, hj1, hj2⟩ := info_parts Tryz.infoAt
  obtain ⟨l0, hl, hl0, hl1, hl2⟩ := info_parts Tryz.infoAn
  obtain ⟨i0, hi, hz0, hz1, hz2⟩ := info_parts Tryz.infoAe
  have OWN0 : Hid ((w.alloc (.cells #[] 78)).ownsRow w.heap.size 78 2 (.slice (some ⟨w.heap.size, 0, none⟩) 0 0) 0 []) := World.ownsRow_made w #[] 0 (Nat.le_refl _) (by decide) (by decide)
  go_enter Tryz.func82, Tryz.ntmps82
  go_wp2_with (at_builtin; refine append_any rfl (.tmp 10) (.tmp 11) 25 rfl w.heap.size 78 i0 (.agg #[.string ⟨#[]⟩, .int .i64 0]) 2 24 Tryz.underlying25 hi hz0 hz1 hz2 rfl (by decide) _ _ _ rfl OWN0.out sa len sc xs rfl HL.out.1 ?c1 HL.out.2.1 ?c3 ?c4 ?c5 ?c6 ?_)
  case c1 => exact HL.out.2.2.below (below1 _ _)
  case c3 => unfold maxLen; omega
  case c4 => omega
  case c5 => simp
  case c6 => show (Value.slice (some ⟨w.heap.size, 0, none⟩) 0 0) ≠ _; simp
  intro v1 w1 hown1 hgrow1 hnil1
  have hb1 : Below w.heap.size w w1 := ((Below.refl w.heap.size w).alloc (Nat.le_refl _) _).grown hgrow1 (by simp) (by intro k hk; simp [Value.ownBlock] at hk; omega)
  have HS : Hid (w1.ownsRow w.heap.size 78 2 v1 (len + 0) (xs ++ mA 0) ∧ Below w.heap.size w w1 ∧ v1 ≠ .slice none 0 0) := ⟨by simpa [mA] using hown1, hb1, hnil1⟩
  clear hown1 hgrow1 hnil1 hb1
  go_wp2
  go_loopw [7, 8] (fun v i wr => ∃ k : Nat, k ≤ 40 ∧ i = .int .i64 k ∧ wr.ownsRow w.heap.size 78 2 v (len + k) (xs ++ mA k) ∧ Below w.heap.size w wr ∧ v ≠ .slice none 0 0) (fun _ i _ => 40 - (intOf i).toNat)
  case atStart => exact ⟨0, by omega, rfl, HS.out⟩
  case round =>
    obtain ⟨k, hk, rfl, hown, hbel, hnn⟩ := hrel
    have HO : Hid (wr.ownsRow w.heap.size 78 2 u7 (len + k) (xs ++ mA k)) := hown
    have HB : Hid (Below w.heap.size w wr) := hbel
    have HN : Hid (u7 ≠ .slice none 0 0) := hnn
    clear hown hbel hnn
    by_cases hlt : k < 40
    · have HL0 : Hid (∀ w, Calls Tryz.prog 107 #[.int .i64 k] w fun e w' => e = .returned (.string (wordB k)) ∧ w' = w) := fun w => word_any k (by omega) w
      go_wp2_with (first | (go_at_call 107; refine (HL0.out _).mono ?_; rintro e w' ⟨rfl, rfl⟩) | (at_builtin; refine wpList_append_own _ rfl (.tmp 18) (.tmp 22) 25 rfl w.heap.size 78 i0 (.agg #[.string ⟨#[]⟩, .int .i64 0]) 2 24 Tryz.underlying25 hi hz0 hz1 hz2 rfl (by decide) _ _ _ rfl (HO.out.alloc _) ⟨_, 0, none⟩ 1 1 [.string (wordB k), .int .i64 0] rfl rfl ?d1 ?d2 ?d3 ?d4 ?d5 ?_))
      case d1 => exact cell_two_new _ _ _ _
      case d2 => intro u hu; simp at hu; rcases hu with rfl | rfl <;> rfl
      case d3 => unfold maxLen; omega
      case d4 => omega
      case d5 => have := HB.out.size; simp; omega
      intro v2 w2 hown2 hgrow2 hnil2
      have hb2 := (HB.out.alloc HB.out.size _).grown hgrow2 (by have := HB.out.size; simp; omega) (by intro q hq; exact (HO.out.lt _ hq).1)
      have HS2 : Hid (w2.ownsRow w.heap.size 78 2 v2 (len + (k + 1)) (xs ++ mA (k + 1)) ∧ Below w.heap.size w w2 ∧ v2 ≠ .slice none 0 0) := ⟨by rw [mA_succ]; exact hown2, hb2, hnil2⟩
      clear hown2 hgrow2 hnil2 hb2
      go_wp2
      go_roundw
      case rel => exact ⟨k + 1, by omega, by go_num, HS2.out⟩
      case measure => simp [intOf]; omega
    · obtain rfl : k = 40 := by omega
      obtain ⟨hlen, h | ⟨g, cp, cur, rfl, hg, hh, h1, h2, h3, h4⟩⟩ := HO.out
      · exact absurd h.1 HN.out
      obtain ⟨hR, hb, ha, hbase, hob, hoa⟩ := HR.out
      have hRlt : R < w.heap.size := lt_of_block hR
      have OB : Hid (wr.ownsRow base 25 1 vb m xsb) := own_below hob HB.out
      have OA : Hid (wr.ownsRow base 3 1 va m xsa) := own_below hoa HB.out
      have hR' : wr.heap[R]? = some (.cells cs 47 (0, 0)) := (HB.out.block R hRlt).trans hR
      have cR0 : wr.cell? ⟨R, 6, none⟩ = some vb := by simp [World.cell?, hR', hb]
      have HG : Hid (w.heap.size ≤ g ∧ wr.heap[g]? = some (.cells cur 78 (0, 0)) ∧ len + 40 ≤ cp ∧ cur.size = cp * 2 ∧ cur.toList.take ((len + 40) * 2) = xs ++ mA 40 ∧ R < w.heap.size ∧ wr.heap[R]? = some (.cells cs 47 (0, 0))) := ⟨hg, hh, h1, h3, h4, hRlt, hR'⟩
      clear hR hb ha hbase hob hoa hg hh h2 h3 h4 hlen hR'
      have hbs : base ≤ wr.heap.size := by have := HB.out.size; have := HR.out.2.2.2.1; have := HG.out.2.2.2.2.2.1; omega
      go_wp2_with (at_builtin; refine wpList_append_own _ rfl (.tmp 28) (.tmp 30) 35 rfl base 25 j0 (.slice none 0 0) 1 24 Tryz.underlying35 hj hj0 hj1 hj2 rfl (by decide) _ _ _ rfl (OB.out.alloc _) ⟨_, 0, none⟩ 1 1 [.slice (some ⟨g, 0, none⟩) (len + 40) cp] rfl rfl ?f1 ?f2 ?f3 ?f4 ?f5 ?_)
      case f1 => exact cell_one_new _ _ _
      case f2 => intro u hu; simp at hu; subst hu; rfl
      case f3 => unfold maxLen; omega
      case f4 => omega
      case f5 => simp; omega
      intro v3 w3 hown3 hgrow3 hnil3
      obtain ⟨gv, cv, rfl⟩ := own_shape hown3 hnil3
      clear hnil3
      have L := lay_end (i := 6) (by decide) (by decide) HB.out HG.out.2.2.2.2.2.1 HR.out.2.2.2.1 HG.out.2.2.2.2.2.2 OB.out OA.out KB.out HG.out.1 HG.out.2.1 hown3 hgrow3
      have f3 : w3.frozen? ⟨R, 6, none⟩ = false := by simp [World.frozen?, L.1]
      have g3 : w3.cell? ⟨R, 6, none⟩ = some vb := by simp [World.cell?, L.1, HR.out.2.1]
      have k3 : w3.cell? ⟨R, 7, none⟩ = some va := by simp [World.cell?, L.1, HR.out.2.2.1]
      have HX : Hid (w3.ownsRow base 25 1 (.slice (some ⟨gv, 0, none⟩) (m + 1) cv) (m + 1) (xsb ++ [.slice (some ⟨g, 0, none⟩) (len + 40) cp])) := hown3
      have hws3 : Hid (w.heap.size ≤ w3.heap.size) := Nat.le_trans HB.out.size (Nat.le_trans (by simp) hgrow3.size)
      clear hown3 hgrow3
      obtain ⟨l1, l2, l3, l4, l5, l6, l7⟩ := L
      have HLL : Hid (w3.heap[R]? = some (.cells cs 47 (0, 0)) ∧ w3.ownsRow base 3 1 va m xsa ∧ w3.heap[g]? = some (.cells cur 78 (0, 0)) ∧ Below base w w3 ∧ (w3.setCell ⟨R, 6, none⟩ (.slice (some ⟨gv, 0, none⟩) (m + 1) cv)).ownsRow base 3 1 va m xsa) := ⟨l1, l2, l3, l4, l5⟩
      have HF : Hid (Frm w w3 R vb va) := l7
      clear l1 l2 l3 l4 l5 l7
      go_wp2_with (at_builtin; refine wpList_append_own _ rfl (.tmp 38) (.tmp 41) 26 rfl base 3 l0 (.int .i64 0) 1 8 Tryz.underlying26 hl hl0 hl1 hl2 rfl (by decide) _ _ _ rfl (HLL.out.2.2.2.2.alloc _) ⟨_, 0, none⟩ 1 1 [.int .i64 len] rfl rfl ?q1 ?q2 ?q3 ?q4 ?q5 ?_)
      case q1 => exact one_new_set _ _ _ _ _
      case q2 => intro u hu; simp at hu; subst hu; rfl
      case q3 => unfold maxLen; omega
      case q4 => omega
      case q5 => simp; omega
      intro v5 w5 hown5 hgrow5 hnil5
      obtain ⟨ga, ca, rfl⟩ := own_shape hown5 hnil5
      clear hnil5
      have M := lay_end2 (by decide) (by decide) HLL.out.1 HLL.out.2.1 HLL.out.2.2.1 HLL.out.2.2.2.1 HR.out.2.2.2.1 hws3.out KA.out HG.out.1 HG.out.2.2.2.2.2.1 HF.out HX.out hown5 hgrow5
      have f5 : w5.frozen? ⟨R, 7, none⟩ = false := by simp [World.frozen?, M.1]
      have g5 : w5.cell? ⟨R, 7, none⟩ = some va := by have h := HR.out.2.2.1; simp [World.cell?, M.1, h]
      obtain ⟨_, m2, m3, m4, m5, m6, m7, m8⟩ := M
      have HM : Hid (w.heap.size ≤ g ∧ (w5.setCell ⟨R, 7, none⟩ (.slice (some ⟨ga, 0, none⟩) (m + 1) ca)).heap[g]? = some (.cells cur 78 (0, 0)) ∧ cur.size = cp * 2 ∧ len + 40 ≤ cp ∧ cur.toList.take ((len + 40) * 2) = xs ++ mA 40 ∧
        (w5.setCell ⟨R, 7, none⟩ (.slice (some ⟨ga, 0, none⟩) (m + 1) ca)).heap[R]? = some (.cells ((cs.setIfInBounds 6 (.slice (some ⟨gv, 0, none⟩) (m + 1) cv)).setIfInBounds 7 (.slice (some ⟨ga, 0, none⟩) (m + 1) ca)) 47 (0, 0)) ∧
        (w5.setCell ⟨R, 7, none⟩ (.slice (some ⟨ga, 0, none⟩) (m + 1) ca)).ownsRow base 25 1 (.slice (some ⟨gv, 0, none⟩) (m + 1) cv) (m + 1) (xsb ++ [.slice (some ⟨g, 0, none⟩) (len + 40) cp]) ∧ (w5.setCell ⟨R, 7, none⟩ (.slice (some ⟨ga, 0, none⟩) (m + 1) ca)).ownsRow base 3 1 (.slice (some ⟨ga, 0, none⟩) (m + 1) ca) (m + 1) (xsa ++ [.int .i64 len]) ∧
        Below base w (w5.setCell ⟨R, 7, none⟩ (.slice (some ⟨ga, 0, none⟩) (m + 1) ca)) ∧ Frm w (w5.setCell ⟨R, 7, none⟩ (.slice (some ⟨ga, 0, none⟩) (m + 1) ca)) R vb va ∧ w.heap.size ≤ (w5.setCell ⟨R, 7, none⟩ (.slice (some ⟨ga, 0, none⟩) (m + 1) ca)).heap.size) := ⟨HG.out.1, m5, HG.out.2.2.2.1, h1, HG.out.2.2.2.2.1, m2, m3, m4, m6, m7, m8⟩
      clear hown5 hgrow5 m2 m3 m4 m5 m6 m7 m8
      go_wp2
      go_ret
      exact ⟨g, cp, cur, _, _, rfl, HM.out⟩
end Go.Proofs.YtcoccggimbficaaGreatDoor
