import Derived.Test.YtphofgnehdlafaaGreatDoorPRqd
import Derived.Test.YtphofgnehdlafaaGreatDoorPRt
import Derived.Laws.AppendOwn
import Derived.Laws.OwnMore
import Derived.Laws.AppendOwnNone
import Derived.OwnWalk
import Derived.Deep.LoopGhost
namespace Go.Proofs.YtphofgnehdlafaaGreatDoor.Pkt
open Go Go.RowKit Go.Sort
set_option linter.unusedSimpArgs false
set_option linter.unusedVariables false
theorem rcheck2_any (p : Pk) (c : Cn) (w : World) (hin : In w p c) (hs : Small p c) : Calls Tryz.prog 98 #[p.v] w fun e w' => e = .returned (.int .i64 (ck TT p c)) ∧ Below w.heap.size w w' := by
 rw [← rck_ck]
 cases hbad : (!isK p.kind || rbad1 p || bad2 TT p || !rtps p || !rflts p c || !rqls p c)
 case true => exact rcheck_one p c w hin hs hbad
 simp only [Bool.or_eq_false_iff] at hbad
 obtain ⟨⟨⟨⟨⟨h0, h1⟩, h2⟩, h3⟩, h4⟩, h5⟩ := hbad
 cases hbad : (rbad6 p || rbad7 p c)
 case true => exact rcheck_two p c w hin hs h0 h1 h2 h3 h4 h5 hbad
 rw [Bool.or_eq_false_iff] at hbad
 exact rcheck_three p c w hin hs h0 h1 h2 h3 h4 h5 hbad.1 hbad.2
theorem fg_three : ∀ q : Int, (q = 0 ∨ q = 1 ∨ q = 2) → ∀ d r : Bool, bits .or .i64 (bits .or .i64 (bits .or .i64 (form (3 : Int).toNat).2.1 (mkI d 8)) (2 * q)) (mkI r 1) = 2 * q + mkI d 8 + mkI r 1 := by
 rintro q (rfl | rfl | rfl) d r <;> cases d <;> cases r <;> decide
theorem fg_pub {T : Tx} {p : Pk} {c : Cn} (h : Right T p c) (k : p.kind = 3) : fg p = 2 * p.mQ + mkI p.dup 8 + mkI p.mR 1 := by
 unfold fg
 rw [k]
 exact fg_three _ h.q2 _ _
theorem fg_other : ∀ n : Nat, n < 15 → bits .or .i64 (bits .or .i64 (bits .or .i64 (form n).2.1 (mkI false 8)) (2 * 0)) (mkI false 1) = if n = 6 ∨ n = 8 ∨ n = 10 then 2 else 0 := by decide
theorem fg_not {T : Tx} {p : Pk} {c : Cn} (h : Right T p c) (k : p.kind ≠ 3) : fg p = if p.kind = 6 ∨ p.kind = 8 ∨ p.kind = 10 then 2 else 0 := by
 have k1 := h.k1
 have k2 := h.k2
 have m := h.own.msg k
 have d := h.own.dup k
 unfold fg
 rw [m.2.1, m.2.2.1, d, fg_other p.kind.toNat (by omega)]
 by_cases e : p.kind = 6 ∨ p.kind = 8 ∨ p.kind = 10
 ·
  rw [if_pos e, if_pos (by omega)]
 ·
  rw [if_neg e, if_neg (by omega)]
section
variable {p : Pk} {c : Cn} {s1 s2 s3 s4 s5 s6 : Sl} (n1 : s1.n = p.wP.n) (n2 : s2.n = p.pass.n) (n3 : s3.n = p.mP.n) (n4 : s4.n = p.asks.n) (n5 : s5.n = p.codes.n) (n6 : s6.n = p.filters.n)
include n1 n2 n3 n4 n5 n6
theorem ck_re : ck TT (p.re s1 s2 s3 s4 s5 s6) c = ck TT p c := by
 obtain ⟨a1, m1, k1⟩ := s1
 obtain ⟨a2, m2, k2⟩ := s2
 obtain ⟨a3, m3, k3⟩ := s3
 obtain ⟨a4, m4, k4⟩ := s4
 obtain ⟨a5, m5, k5⟩ := s5
 obtain ⟨a6, m6, k6⟩ := s6
 simp only at n1 n2 n3 n4 n5 n6
 subst n1 n2 n3 n4 n5 n6
 rfl
theorem sz_re : sz (p.re s1 s2 s3 s4 s5 s6) c = sz p c := by
 obtain ⟨a1, m1, k1⟩ := s1
 obtain ⟨a2, m2, k2⟩ := s2
 obtain ⟨a3, m3, k3⟩ := s3
 obtain ⟨a4, m4, k4⟩ := s4
 obtain ⟨a5, m5, k5⟩ := s5
 obtain ⟨a6, m6, k6⟩ := s6
 simp only at n1 n2 n3 n4 n5 n6
 subst n1 n2 n3 n4 n5 n6
 rfl
theorem small_re (h : Small p c) : Small (p.re s1 s2 s3 s4 s5 s6) c := by
 obtain ⟨a1, m1, k1⟩ := s1
 obtain ⟨a2, m2, k2⟩ := s2
 obtain ⟨a3, m3, k3⟩ := s3
 obtain ⟨a4, m4, k4⟩ := s4
 obtain ⟨a5, m5, k5⟩ := s5
 obtain ⟨a6, m6, k6⟩ := s6
 simp only at n1 n2 n3 n4 n5 n6
 subst n1 n2 n3 n4 n5 n6
 exact ⟨h.cl, h.us, h.wt, h.mt, h.wp, h.ps, h.mp, h.an, h.cn, h.fn, h.sa, h.sf⟩
end
def lotI (i : Nat) : Int := if i % 2 = 0 then -7701 else -7702
def wordB (i : Nat) : ByteArray := if i % 2 = 0 then ⟨#[60, 111, 110, 101, 62]⟩ else ⟨#[60, 116, 119, 111, 62]⟩
def markU (i : Nat) : Int := if i % 2 = 0 then 235 else 234
theorem lot_two (i : Nat) : (lotI i = -7701 ∧ markU i = 235) ∨ (lotI i = -7702 ∧ markU i = 234) := by
 unfold lotI markU
 by_cases h : i % 2 = 0
 ·
  exact .inl ⟨if_pos h, if_pos h⟩
 ·
  exact .inr ⟨if_neg h, if_neg h⟩
theorem lot_any (i : Nat) (hi : i ≤ 1000000) (w : World) : Calls Tryz.prog 134 #[.int .i64 i] w fun e w' => e = .returned (.int .i64 (lotI i)) ∧ w' = w := by
 unfold lotI
 by_cases h : i % 2 = 0
 ·
  rw [if_pos h]
  have h' : ((i : Int) % 2 == 0) = true := by simp; omega
  clear h
  go_enter Tryz.func134, Tryz.ntmps134
  go_wp2
  go_ret
  exact ⟨rfl, rfl⟩
 ·
  rw [if_neg h]
  have h' : ((i : Int) % 2 == 0) = false := by simp; omega
  clear h
  go_enter Tryz.func134, Tryz.ntmps134
  go_wp2
  go_ret
  exact ⟨rfl, rfl⟩
theorem word_any (i : Nat) (hi : i ≤ 1000000) (w : World) : Calls Tryz.prog 135 #[.int .i64 i] w fun e w' => e = .returned (.string (wordB i)) ∧ w' = w := by
 unfold wordB
 by_cases h : i % 2 = 0
 ·
  rw [if_pos h]
  have h' : ((i : Int) % 2 == 0) = true := by simp; omega
  clear h
  go_enter Tryz.func135, Tryz.ntmps135
  go_wp2
  go_ret
  exact ⟨rfl, rfl⟩
 ·
  rw [if_neg h]
  have h' : ((i : Int) % 2 == 0) = false := by simp; omega
  clear h
  go_enter Tryz.func135, Tryz.ntmps135
  go_wp2
  go_ret
  exact ⟨rfl, rfl⟩
def mB (k : Nat) : List Value := (List.range k).map fun i => .int .u8 (markU i)
def mI (k : Nat) : List Value := (List.range k).map fun i => .int .i64 (lotI i)
def mS (k : Nat) : List Value := (List.range k).map fun i => .string (wordB i)
def mA (k : Nat) : List Value := (List.range k).flatMap fun i => [.string (wordB i), .int .i64 0]
theorem mB_succ (k : Nat) : mB (k + 1) = mB k ++ [.int .u8 (markU k)] := by simp [mB, List.range_succ]
theorem mI_succ (k : Nat) : mI (k + 1) = mI k ++ [.int .i64 (lotI k)] := by simp [mI, List.range_succ]
theorem mS_succ (k : Nat) : mS (k + 1) = mS k ++ [.string (wordB k)] := by simp [mS, List.range_succ]
theorem mA_succ (k : Nat) : mA (k + 1) = mA k ++ [.string (wordB k), .int .i64 0] := by simp [mA, List.range_succ]
theorem own_ne {w : World} {base e size n R t : Nat} {v : Value} {xs : List Value} {cs : Array Value} (h : w.ownsRow base e size v n xs) (hR : w.heap[R]? = some (.cells cs t (0, 0))) (hne : e ≠ t) : v.ownBlock ≠ some R := by
 obtain ⟨_, h | ⟨g, cp, cur, rfl, _, hh, _⟩⟩ := h
 ·
  rw [h.1]; simp [Value.ownBlock]
 ·
  intro k
  simp [Value.ownBlock] at k
  subst k
  rw [hh] at hR
  simp at hR
  exact hne hR.2
theorem own_two {w : World} {base e e' size n n' : Nat} {v v' : Value} {xs xs' : List Value} (h : w.ownsRow base e size v n xs) (h' : w.ownsRow base e' size v' n' xs') (hne : e ≠ e') : v.ownBlock = none ∨ v.ownBlock ≠ v'.ownBlock := by
 obtain ⟨_, k | ⟨g, cp, cur, rfl, _, hh, _⟩⟩ := h
 ·
  rw [k.1]; exact .inl rfl
 ·
  right
  have := own_ne h' hh (Ne.symm hne)
  exact fun q => this q.symm
theorem grown_of_below {w w' : World} (h : Below w.heap.size w w') : w.grownBy w' none := ⟨h.os, h.tape, h.output, h.size, fun k hk _ => h.block k hk⟩
theorem own_below {w w' : World} {base e size n : Nat} {v : Value} {xs : List Value} (h : w.ownsRow base e size v n xs) (hb : Below w.heap.size w w') : w'.ownsRow base e size v n xs := h.kept (grown_of_below hb) (by cases v.ownBlock <;> simp)
theorem heap_set {w : World} {R i t : Nat} {cs : Array Value} (h : w.heap[R]? = some (.cells cs t (0, 0))) (v : Value) : (w.setCell ⟨R, i, none⟩ v).heap[R]? = some (.cells (cs.setIfInBounds i v) t (0, 0)) := by
 simp [World.setCell, Array.getElem?_modify, h]
theorem own_shape {w : World} {base e size n : Nat} {v : Value} {xs : List Value} (h : w.ownsRow base e size v n xs) (hn : ¬ v = .slice none 0 0) : ∃ g cp, v = .slice (some ⟨g, 0, none⟩) n cp := by
 obtain ⟨_, k | ⟨g, cp, cur, hv, _⟩⟩ := h
 ·
  exact absurd k.1 hn
 ·
  exact ⟨g, cp, hv⟩
theorem one_new_set (w : World) (a : Addr) (v x : Value) (t : TypeId) : ∀ (j : Nat) (u : Value), [x][j]? = some u → ((w.setCell a v).alloc (.cells #[x] t)).cell? ((⟨w.heap.size, 0, none⟩ : Addr).add j) = some u := by
 have e : (w.setCell a v).heap.size = w.heap.size := by simp [World.setCell]
 rw [← e]
 exact cell_one_new _ _ _
def Frm (w w' : World) (R : Nat) (vb va : Value) : Prop := ∀ k, k < w.heap.size → k ≠ R → vb.ownBlock ≠ some k → va.ownBlock ≠ some k → w'.heap[k]? = w.heap[k]?
theorem lay_end {w wr w3 : World} {R base m g te tl i : Nat} {cs cur : Array Value} {vb va v3 : Value} {xsb xsa news : List Value} {b1 : Array Value} (hte : te ≠ 48) (hte3 : te ≠ 3)
    (hbel : Below w.heap.size w wr) (hRlt : R < w.heap.size) (hbase : base ≤ R) (hR : wr.heap[R]? = some (.cells cs 48 (0, 0))) (ob : wr.ownsRow base te 1 vb m xsb) (oa : wr.ownsRow base 3 1 va m xsa)
    (kb : ∀ k, vb.ownBlock = some k → k < w.heap.size) (hg : w.heap.size ≤ g) (hh : wr.heap[g]? = some (.cells cur tl (0, 0)))
    (hown3 : w3.ownsRow base te 1 v3 (m + 1) (xsb ++ news)) (hgrow3 : (wr.alloc (.cells b1 te)).grownBy w3 vb.ownBlock) :
    w3.heap[R]? = some (.cells cs 48 (0, 0)) ∧ w3.ownsRow base 3 1 va m xsa ∧ w3.heap[g]? = some (.cells cur tl (0, 0)) ∧ Below base w w3 ∧ (w3.setCell ⟨R, i, none⟩ v3).ownsRow base 3 1 va m xsa ∧ base ≤ w3.heap.size ∧ Frm w w3 R vb va := by
  have hlt : wr.heap.size ≤ w3.heap.size := Nat.le_trans (by simp) hgrow3.size
  have hRr : R < wr.heap.size := lt_of_block hR
  have hgr : g < wr.heap.size := lt_of_block hh
  have e1 : w3.heap[R]? = some (.cells cs 48 (0, 0)) := by
    rw [hgrow3.block R (by simp; omega) (fun q => own_ne ob hR hte q.symm), Below.heap_alloc wr _ R hRr, hR]
  have e2 : w3.ownsRow base 3 1 va m xsa := (oa.alloc _).kept hgrow3 (own_two oa ob (Ne.symm hte3))
  have e3 : w3.heap[g]? = some (.cells cur tl (0, 0)) := by
    rw [hgrow3.block g (by simp; omega) (fun q => by have := kb g q.symm; omega), Below.heap_alloc wr _ g hgr, hh]
  have hs := hbel.size
  refine ⟨e1, e2, e3, ?_, ownsRow_setCell_other e2 (own_ne e2 e1 (by decide)) _, by omega, ?_⟩
  · exact ((hbel.mono (by omega)).alloc (by omega) _).grown hgrow3 (by simp; omega) (fun k hk => (ob.lt k hk).1)
  · intro k hk _ hb _
    rw [hgrow3.block k (by simp; omega) (fun q => hb q.symm), Below.heap_alloc wr _ k (by omega), hbel.block k hk]
theorem lay_end2 {w w3 w5 : World} {R base m g te tl i : Nat} {cs cur : Array Value} {vb va v3 v5 : Value} {xsb xsa news : List Value} {b1 : Array Value} (hte : te ≠ 48) (hte3 : te ≠ 3)
    (hR : w3.heap[R]? = some (.cells cs 48 (0, 0))) (oa : w3.ownsRow base 3 1 va m xsa) (hh : w3.heap[g]? = some (.cells cur tl (0, 0))) (hbel : Below base w w3) (hbase : base ≤ R) (hws : w.heap.size ≤ w3.heap.size)
    (ka : ∀ k, va.ownBlock = some k → k < w.heap.size) (hg : w.heap.size ≤ g) (hRlt : R < w.heap.size) (hF : Frm w w3 R vb va)
    (hown3 : w3.ownsRow base te 1 v3 (m + 1) xsb) (hown5 : w5.ownsRow base 3 1 v5 (m + 1) (xsa ++ news)) (hgrow5 : ((w3.setCell ⟨R, i, none⟩ v3).alloc (.cells b1 3)).grownBy w5 va.ownBlock) :
    w5.heap[R]? = some (.cells (cs.setIfInBounds i v3) 48 (0, 0)) ∧ (w5.setCell ⟨R, i + 1, none⟩ v5).heap[R]? = some (.cells ((cs.setIfInBounds i v3).setIfInBounds (i + 1) v5) 48 (0, 0)) ∧ (w5.setCell ⟨R, i + 1, none⟩ v5).ownsRow base te 1 v3 (m + 1) xsb ∧ (w5.setCell ⟨R, i + 1, none⟩ v5).ownsRow base 3 1 v5 (m + 1) (xsa ++ news) ∧
      (w5.setCell ⟨R, i + 1, none⟩ v5).heap[g]? = some (.cells cur tl (0, 0)) ∧ Below base w (w5.setCell ⟨R, i + 1, none⟩ v5) ∧ Frm w (w5.setCell ⟨R, i + 1, none⟩ v5) R vb va ∧ w.heap.size ≤ (w5.setCell ⟨R, i + 1, none⟩ v5).heap.size := by
  have hRr : R < w3.heap.size := lt_of_block hR
  have hgr : g < w3.heap.size := lt_of_block hh
  have hgR : g ≠ R := by omega
  have sz : (w3.setCell ⟨R, i, none⟩ v3).heap.size = w3.heap.size := by simp [World.setCell]
  have r4 := heap_set (i := i) hR v3
  have o4 : (w3.setCell ⟨R, i, none⟩ v3).ownsRow base te 1 v3 (m + 1) xsb := ownsRow_setCell_other hown3 (own_ne hown3 hR hte) _
  have a4 : (w3.setCell ⟨R, i, none⟩ v3).ownsRow base 3 1 va m xsa := ownsRow_setCell_other oa (own_ne oa hR (by decide)) _
  have g4 : (w3.setCell ⟨R, i, none⟩ v3).heap[g]? = some (.cells cur tl (0, 0)) := (Below.heap_setCell w3 _ v3 g (by simpa using hgR)).trans hh
  have b4 : Below base w (w3.setCell ⟨R, i, none⟩ v3) := hbel.setCell (by simpa using hbase) _
  have r5 : w5.heap[R]? = some (.cells (cs.setIfInBounds i v3) 48 (0, 0)) := by
    rw [hgrow5.block R (by simp; omega) (fun q => own_ne oa hR (by decide) q.symm), Below.heap_alloc _ _ R (by omega), r4]
  have o5 : w5.ownsRow base te 1 v3 (m + 1) xsb := (o4.alloc _).kept hgrow5 (own_two o4 a4 hte3)
  have g5 : w5.heap[g]? = some (.cells cur tl (0, 0)) := by
    rw [hgrow5.block g (by simp; omega) (fun q => by have := ka g q.symm; omega), Below.heap_alloc _ _ g (by omega), g4]
  have hs5 : w3.heap.size ≤ w5.heap.size := by have := hgrow5.size; simp at this; omega
  have b5 : Below base w w5 := (b4.alloc (by omega) _).grown hgrow5 (by simp; omega) (fun k hk => (oa.lt k hk).1)
  refine ⟨r5, heap_set r5 v5, ownsRow_setCell_other o5 (own_ne o5 r5 hte) _, ownsRow_setCell_other hown5 (own_ne hown5 r5 (by decide)) _, (Below.heap_setCell w5 _ v5 g (by simpa using hgR)).trans g5, b5.setCell (by simpa using hbase) _, ?_, by simp [World.setCell]; omega⟩
  intro k hk hkR hb ha
  rw [Below.heap_setCell w5 _ v5 k (by simpa using hkR), hgrow5.block k (by simp; omega) (fun q => ha q.symm), Below.heap_alloc _ _ k (by omega), Below.heap_setCell w3 _ v3 k (by simpa using hkR), hF k hk hkR hb ha]
theorem append_any {P : Program} {w : World} {ops : Array Oper} {rest : List Oper} {o : Oper} {a : Act} {Q : Exit → Act → World → Prop} (hgd : o.guard = none) (s x : Operand) (t : TypeId)
    (ho : o.op = .call { callee := .builtin .append, args := #[s, x], argTypes := #[t, t] })
    (base : Nat) (e : TypeId) (i : TypeInfo) (z : Value) (size bytes : Nat) (ht : P.underlying t = some (.slice e)) (hi : P.info? e = some i) (hz : i.zero = some z)
    (hsize : i.size = size) (hby : i.bytes = bytes) (hzs : z.cells.size = size) (hsz : 0 < size)
    (v : Value) (n : Nat) (xs : List Value) (hs : a.eval s = v) (hown : w.ownsRow base e size v n xs)
    (ao : Option Addr) (m c : Nat) (news : List Value) (hx : a.eval x = .slice ao m c) (hl : news.length = m * size) (hsrc : (ao = none ∧ m = 0 ∧ c = 0) ∨ ∃ ad, ao = some ad ∧ ∀ j u, news[j]? = some u → w.cell? (ad.add j) = some u) (h1 : ∀ u ∈ news, u.oneCell' = true)
    (h63 : n + m ≤ maxLen) (hbytes : (n + m) * bytes ≤ 140737488355328) (hbase : base ≤ w.heap.size) (hnn : v ≠ .slice none 0 0)
    (h : ∀ v' w', w'.ownsRow base e size v' (n + m) (xs ++ news) → w.grownBy w' v.ownBlock → v' ≠ .slice none 0 0 → wpList P ops Q rest (a.put o.dst v') w') : wpList P ops Q (o :: rest) a w := by
  rcases hsrc with ⟨rfl, rfl, rfl⟩ | ⟨ad, rfl, hc⟩
  · obtain rfl : news = [] := List.length_eq_zero_iff.1 (by omega)
    refine wpList_append_own_none hgd s x t ho base e i size ht hi v n xs hs hown hx (h v w ?_ ⟨rfl, rfl, rfl, Nat.le_refl _, fun _ _ _ => rfl⟩ hnn)
    rw [List.append_nil]; exact hown
  · exact wpList_append_own w hgd s x t ho base e i z size bytes ht hi hz hsize hby hzs hsz v n xs hs hown ad m c news hx hl hc h1 h63 hbytes hbase (fun v' w' h2 h3 h4 => h v' w' h2 h3 (fun q => hnn (h4.1 q).1))
def Src (w : World) (s : Sl) (xs : List Value) : Prop := (s.a = none ∧ s.n = 0 ∧ s.c = 0) ∨ ∃ ad, s.a = some ad ∧ ∀ j u, xs[j]? = some u → w.cell? (ad.add j) = some u
theorem Src.below {w w' : World} {s : Sl} {xs : List Value} (h : Src w s xs) (hb : Below w.heap.size w w') : Src w' s xs := by
 rcases h with h | ⟨ad, e, h⟩
 ·
  exact .inl h
 ·
  exact .inr ⟨ad, e, fun j u hj => cell_later hb (h j u hj)⟩
set_option maxRecDepth 100000
set_option maxHeartbeats 1000000
theorem hold38 (R : Nat) (w : World) (h : w.cell? ⟨R, 8, none⟩ = some (.slice none 0 0)) : Calls Tryz.prog 79 #[.pointer (some ⟨R, 0, none⟩)] w fun e w' => e = .returned (.bool true) ∧ w' = w := by
 go_enter Tryz.func79, Tryz.ntmps79
 go_wp2
 go_loop [3] (fun i => i = .int .i64 0) (fun _ => 0)
 case atStart => rfl
 case round =>
  subst hrel
  go_wp2
  go_ret
  exact ⟨rfl, rfl⟩
theorem hold39 (R : Nat) (w : World) (h : w.cell? ⟨R, 10, none⟩ = some (.slice none 0 0)) : Calls Tryz.prog 80 #[.pointer (some ⟨R, 0, none⟩)] w fun e w' => e = .returned (.bool true) ∧ w' = w := by
 go_enter Tryz.func80, Tryz.ntmps80
 go_wp2
 go_loop [3] (fun i => i = .int .i64 0) (fun _ => 0)
 case atStart => rfl
 case round =>
  subst hrel
  go_wp2
  go_ret
  exact ⟨rfl, rfl⟩
theorem hold40 (R : Nat) (w : World) (h : w.cell? ⟨R, 12, none⟩ = some (.slice none 0 0)) : Calls Tryz.prog 81 #[.pointer (some ⟨R, 0, none⟩)] w fun e w' => e = .returned (.bool true) ∧ w' = w := by
 go_enter Tryz.func81, Tryz.ntmps81
 go_wp2
 go_loop [3] (fun i => i = .int .i64 0) (fun _ => 0)
 case atStart => rfl
 case round =>
  subst hrel
  go_wp2
  go_ret
  exact ⟨rfl, rfl⟩
theorem hold41 (R : Nat) (w : World) (h : w.cell? ⟨R, 14, none⟩ = some (.slice none 0 0)) : Calls Tryz.prog 82 #[.pointer (some ⟨R, 0, none⟩)] w fun e w' => e = .returned (.bool true) ∧ w' = w := by
 go_enter Tryz.func82, Tryz.ntmps82
 go_wp2
 go_loop [3] (fun i => i = .int .i64 0) (fun _ => 0)
 case atStart => rfl
 case round =>
  subst hrel
  go_wp2
  go_ret
  exact ⟨rfl, rfl⟩
theorem hold42 (R : Nat) (w : World) (h : w.cell? ⟨R, 16, none⟩ = some (.slice none 0 0)) : Calls Tryz.prog 83 #[.pointer (some ⟨R, 0, none⟩)] w fun e w' => e = .returned (.bool true) ∧ w' = w := by
 go_enter Tryz.func83, Tryz.ntmps83
 go_wp2
 go_loop [3] (fun i => i = .int .i64 0) (fun _ => 0)
 case atStart => rfl
 case round =>
  subst hrel
  go_wp2
  go_ret
  exact ⟨rfl, rfl⟩
theorem hold43 (R : Nat) (w : World) (h : w.cell? ⟨R, 18, none⟩ = some (.slice none 0 0)) : Calls Tryz.prog 84 #[.pointer (some ⟨R, 0, none⟩)] w fun e w' => e = .returned (.bool true) ∧ w' = w := by
 go_enter Tryz.func84, Tryz.ntmps84
 go_wp2
 go_loop [3] (fun i => i = .int .i64 0) (fun _ => 0)
 case atStart => rfl
 case round =>
  subst hrel
  go_wp2
  go_ret
  exact ⟨rfl, rfl⟩
theorem hold44 (R : Nat) (w : World) (h : w.cell? ⟨R, 20, none⟩ = some (.slice none 0 0)) : Calls Tryz.prog 85 #[.pointer (some ⟨R, 0, none⟩)] w fun e w' => e = .returned (.bool true) ∧ w' = w := by
 go_enter Tryz.func85, Tryz.ntmps85
 go_wp2
 go_loop [3] (fun i => i = .int .i64 0) (fun _ => 0)
 case atStart => rfl
 case round =>
  subst hrel
  go_wp2
  go_ret
  exact ⟨rfl, rfl⟩
theorem hold45 (R : Nat) (w : World) (h : w.cell? ⟨R, 22, none⟩ = some (.slice none 0 0)) : Calls Tryz.prog 86 #[.pointer (some ⟨R, 0, none⟩)] w fun e w' => e = .returned (.bool true) ∧ w' = w := by
 go_enter Tryz.func86, Tryz.ntmps86
 go_wp2
 go_loop [3] (fun i => i = .int .i64 0) (fun _ => 0)
 case atStart => rfl
 case round =>
  subst hrel
  go_wp2
  go_ret
  exact ⟨rfl, rfl⟩
theorem hold46 (R : Nat) (w : World) (h : w.cell? ⟨R, 24, none⟩ = some (.slice none 0 0)) : Calls Tryz.prog 87 #[.pointer (some ⟨R, 0, none⟩)] w fun e w' => e = .returned (.bool true) ∧ w' = w := by
 go_enter Tryz.func87, Tryz.ntmps87
 go_wp2
 go_loop [3] (fun i => i = .int .i64 0) (fun _ => 0)
 case atStart => rfl
 case round =>
  subst hrel
  go_wp2
  go_ret
  exact ⟨rfl, rfl⟩
theorem hold47 (R : Nat) (w : World) (h : w.cell? ⟨R, 26, none⟩ = some (.slice none 0 0)) : Calls Tryz.prog 88 #[.pointer (some ⟨R, 0, none⟩)] w fun e w' => e = .returned (.bool true) ∧ w' = w := by
 go_enter Tryz.func88, Tryz.ntmps88
 go_wp2
 go_loop [3] (fun i => i = .int .i64 0) (fun _ => 0)
 case atStart => rfl
 case round =>
  subst hrel
  go_wp2
  go_ret
  exact ⟨rfl, rfl⟩
theorem hold_bytes (R m gb cb ga ca : Nat) (G N C : Nat → Nat) (w : World) (hm : m ≤ 1000) (hN : ∀ i, i < m → N i ≤ 1000000 ∧ N i + 600 ≤ C i) (hmb : m ≤ cb) (hma : m ≤ ca)
    (cR0 : w.cell? ⟨R, 0, none⟩ = some (.slice (some ⟨gb, 0, none⟩) m cb)) (cR1 : w.cell? ⟨R, 1, none⟩ = some (.slice (some ⟨ga, 0, none⟩) m ca))
    (hb : ∀ i, i < m → w.cell? ⟨gb, i, none⟩ = some (.slice (some ⟨G i, 0, none⟩) (N i + 600) (C i))) (ha : ∀ i, i < m → w.cell? ⟨ga, i, none⟩ = some (.int .i64 (N i)))
    (hk : ∀ i, i < m → ∀ k, k < 600 → w.cell? ⟨G i, N i + k, none⟩ = some (.int .u8 (markU k))) :
    Calls Tryz.prog 75 #[.pointer (some ⟨R, 0, none⟩)] w fun e w' => e = .returned (.bool true) ∧ w' = w := by
  have HB : Hid (∀ i, i < m → w.cell? ⟨gb, i, none⟩ = some (.slice (some ⟨G i, 0, none⟩) (N i + 600) (C i))) := hb
  have HA : Hid (∀ i, i < m → w.cell? ⟨ga, i, none⟩ = some (.int .i64 (N i))) := ha
  have HK : Hid (∀ i, i < m → ∀ k, k < 600 → w.cell? ⟨G i, N i + k, none⟩ = some (.int .u8 (markU k))) := hk
  have HN : Hid (∀ i, i < m → N i ≤ 1000000 ∧ N i + 600 ≤ C i) := hN
  clear hb ha hk hN
  go_enter Tryz.func75, Tryz.ntmps75
  go_wp2
  go_loop [3, 4, 5, 6] (fun i _ _ _ => ∃ j : Nat, j ≤ m ∧ i = .int .i64 j) (fun i _ _ _ => m - (intOf i).toNat)
  case atStart => exact ⟨0, by omega, rfl⟩
  case round =>
    obtain ⟨j, hj, rfl⟩ := hrel
    by_cases hlt : j < m
    · have b1 := HB.out j hlt
      have a1 := HA.out j hlt
      have k1 := HK.out j hlt
      have n1 := HN.out j hlt
      obtain ⟨Gj, hG⟩ : ∃ x, G j = x := ⟨_, rfl⟩
      obtain ⟨Nj, hNj⟩ : ∃ x, N j = x := ⟨_, rfl⟩
      obtain ⟨Cj, hC⟩ : ∃ x, C j = x := ⟨_, rfl⟩
      rw [hG, hNj, hC] at b1
      rw [hNj] at a1
      rw [hG, hNj] at k1
      rw [hNj, hC] at n1
      clear hG hNj hC
      have K1 : Hid (∀ k, k < 600 → w.cell? ⟨Gj, Nj + k, none⟩ = some (.int .u8 (markU k))) := k1
      clear k1
      go_wp2
      go_loop [5, 6] (fun x _ => ∃ k : Nat, k ≤ 600 ∧ x = .int .i64 ((Nj + k : Nat) : Int)) (fun x _ => Nj + 600 - (intOf x).toNat)
      case atStart => exact ⟨0, by omega, rfl⟩
      case round =>
        obtain ⟨k, hk, rfl⟩ := hrel
        by_cases hkl : k < 600
        · have ck := K1.out k hkl
          have es : (Nj : Int) + (k : Int) - (Nj : Int) = (k : Int) := by omega
          have HZ : Hid (∀ w, Calls Tryz.prog 134 #[.int .i64 k] w fun e w' => e = .returned (.int .i64 (lotI k)) ∧ w' = w) := fun w => lot_any k (by omega) w
          rcases lot_two k with ⟨q1, q2⟩ | ⟨q1, q2⟩
          all_goals
            rw [q1] at HZ
            rw [q2] at ck
            clear q1 q2
            go_wp2_with (go_at_call 134; refine (HZ.out _).mono ?_; rintro e w' ⟨rfl, rfl⟩)
            go_round
            case rel => exact ⟨k + 1, by omega, by go_num⟩
            case measure => simp [intOf]; omega
        · obtain rfl : k = 600 := by omega
          go_wp2
          go_round
          case rel => exact ⟨j + 1, by omega, by go_num⟩
          case measure => simp [intOf]; omega
    · obtain rfl : j = m := by omega
      go_wp2
      go_ret
      exact ⟨rfl, rfl⟩
theorem hold_ints (R m gb cb ga ca : Nat) (G N C : Nat → Nat) (w : World) (hm : m ≤ 1000) (hN : ∀ i, i < m → N i ≤ 1000000 ∧ N i + 40 ≤ C i) (hmb : m ≤ cb) (hma : m ≤ ca)
    (cR0 : w.cell? ⟨R, 2, none⟩ = some (.slice (some ⟨gb, 0, none⟩) m cb)) (cR1 : w.cell? ⟨R, 3, none⟩ = some (.slice (some ⟨ga, 0, none⟩) m ca))
    (hb : ∀ i, i < m → w.cell? ⟨gb, i, none⟩ = some (.slice (some ⟨G i, 0, none⟩) (N i + 40) (C i))) (ha : ∀ i, i < m → w.cell? ⟨ga, i, none⟩ = some (.int .i64 (N i)))
    (hk : ∀ i, i < m → ∀ k, k < 40 → w.cell? ⟨G i, N i + k, none⟩ = some (.int .i64 (lotI k))) :
    Calls Tryz.prog 76 #[.pointer (some ⟨R, 0, none⟩)] w fun e w' => e = .returned (.bool true) ∧ w' = w := by
  have HB : Hid (∀ i, i < m → w.cell? ⟨gb, i, none⟩ = some (.slice (some ⟨G i, 0, none⟩) (N i + 40) (C i))) := hb
  have HA : Hid (∀ i, i < m → w.cell? ⟨ga, i, none⟩ = some (.int .i64 (N i))) := ha
  have HK : Hid (∀ i, i < m → ∀ k, k < 40 → w.cell? ⟨G i, N i + k, none⟩ = some (.int .i64 (lotI k))) := hk
  have HN : Hid (∀ i, i < m → N i ≤ 1000000 ∧ N i + 40 ≤ C i) := hN
  clear hb ha hk hN
  go_enter Tryz.func76, Tryz.ntmps76
  go_wp2
  go_loop [3, 4, 5, 6] (fun i _ _ _ => ∃ j : Nat, j ≤ m ∧ i = .int .i64 j) (fun i _ _ _ => m - (intOf i).toNat)
  case atStart => exact ⟨0, by omega, rfl⟩
  case round =>
    obtain ⟨j, hj, rfl⟩ := hrel
    by_cases hlt : j < m
    · have b1 := HB.out j hlt
      have a1 := HA.out j hlt
      have k1 := HK.out j hlt
      have n1 := HN.out j hlt
      obtain ⟨Gj, hG⟩ : ∃ x, G j = x := ⟨_, rfl⟩
      obtain ⟨Nj, hNj⟩ : ∃ x, N j = x := ⟨_, rfl⟩
      obtain ⟨Cj, hC⟩ : ∃ x, C j = x := ⟨_, rfl⟩
      rw [hG, hNj, hC] at b1
      rw [hNj] at a1
      rw [hG, hNj] at k1
      rw [hNj, hC] at n1
      clear hG hNj hC
      have K1 : Hid (∀ k, k < 40 → w.cell? ⟨Gj, Nj + k, none⟩ = some (.int .i64 (lotI k))) := k1
      clear k1
      go_wp2
      go_loop [5, 6] (fun x _ => ∃ k : Nat, k ≤ 40 ∧ x = .int .i64 ((Nj + k : Nat) : Int)) (fun x _ => Nj + 40 - (intOf x).toNat)
      case atStart => exact ⟨0, by omega, rfl⟩
      case round =>
        obtain ⟨k, hk, rfl⟩ := hrel
        by_cases hkl : k < 40
        · have ck := K1.out k hkl
          have es : (Nj : Int) + (k : Int) - (Nj : Int) = (k : Int) := by omega
          have HZ : Hid (∀ w, Calls Tryz.prog 134 #[.int .i64 k] w fun e w' => e = .returned (.int .i64 (lotI k)) ∧ w' = w) := fun w => lot_any k (by omega) w
          obtain ⟨x, hx⟩ : ∃ x, lotI k = x := ⟨_, rfl⟩
          rw [hx] at HZ ck
          clear hx
          go_wp2_with (go_at_call 134; refine (HZ.out _).mono ?_; rintro e w' ⟨rfl, rfl⟩)
          go_round
          case rel => exact ⟨k + 1, by omega, by go_num⟩
          case measure => simp [intOf]; omega
        · obtain rfl : k = 40 := by omega
          go_wp2
          go_round
          case rel => exact ⟨j + 1, by omega, by go_num⟩
          case measure => simp [intOf]; omega
    · obtain rfl : j = m := by omega
      go_wp2
      go_ret
      exact ⟨rfl, rfl⟩
theorem hold_texts (R m gb cb ga ca : Nat) (G N C : Nat → Nat) (w : World) (hm : m ≤ 1000) (hN : ∀ i, i < m → N i ≤ 1000000 ∧ N i + 40 ≤ C i) (hmb : m ≤ cb) (hma : m ≤ ca)
    (cR0 : w.cell? ⟨R, 4, none⟩ = some (.slice (some ⟨gb, 0, none⟩) m cb)) (cR1 : w.cell? ⟨R, 5, none⟩ = some (.slice (some ⟨ga, 0, none⟩) m ca))
    (hb : ∀ i, i < m → w.cell? ⟨gb, i, none⟩ = some (.slice (some ⟨G i, 0, none⟩) (N i + 40) (C i))) (ha : ∀ i, i < m → w.cell? ⟨ga, i, none⟩ = some (.int .i64 (N i)))
    (hk : ∀ i, i < m → ∀ k, k < 40 → w.cell? ⟨G i, N i + k, none⟩ = some (.string (wordB k))) :
    Calls Tryz.prog 77 #[.pointer (some ⟨R, 0, none⟩)] w fun e w' => e = .returned (.bool true) ∧ w' = w := by
  have HB : Hid (∀ i, i < m → w.cell? ⟨gb, i, none⟩ = some (.slice (some ⟨G i, 0, none⟩) (N i + 40) (C i))) := hb
  have HA : Hid (∀ i, i < m → w.cell? ⟨ga, i, none⟩ = some (.int .i64 (N i))) := ha
  have HK : Hid (∀ i, i < m → ∀ k, k < 40 → w.cell? ⟨G i, N i + k, none⟩ = some (.string (wordB k))) := hk
  have HN : Hid (∀ i, i < m → N i ≤ 1000000 ∧ N i + 40 ≤ C i) := hN
  clear hb ha hk hN
  go_enter Tryz.func77, Tryz.ntmps77
  go_wp2
  go_loop [3, 4, 5, 6] (fun i _ _ _ => ∃ j : Nat, j ≤ m ∧ i = .int .i64 j) (fun i _ _ _ => m - (intOf i).toNat)
  case atStart => exact ⟨0, by omega, rfl⟩
  case round =>
    obtain ⟨j, hj, rfl⟩ := hrel
    by_cases hlt : j < m
    · have b1 := HB.out j hlt
      have a1 := HA.out j hlt
      have k1 := HK.out j hlt
      have n1 := HN.out j hlt
      obtain ⟨Gj, hG⟩ : ∃ x, G j = x := ⟨_, rfl⟩
      obtain ⟨Nj, hNj⟩ : ∃ x, N j = x := ⟨_, rfl⟩
      obtain ⟨Cj, hC⟩ : ∃ x, C j = x := ⟨_, rfl⟩
      rw [hG, hNj, hC] at b1
      rw [hNj] at a1
      rw [hG, hNj] at k1
      rw [hNj, hC] at n1
      clear hG hNj hC
      have K1 : Hid (∀ k, k < 40 → w.cell? ⟨Gj, Nj + k, none⟩ = some (.string (wordB k))) := k1
      clear k1
      go_wp2
      go_loop [5, 6] (fun x _ => ∃ k : Nat, k ≤ 40 ∧ x = .int .i64 ((Nj + k : Nat) : Int)) (fun x _ => Nj + 40 - (intOf x).toNat)
      case atStart => exact ⟨0, by omega, rfl⟩
      case round =>
        obtain ⟨k, hk, rfl⟩ := hrel
        by_cases hkl : k < 40
        · have ck := K1.out k hkl
          have es : (Nj : Int) + (k : Int) - (Nj : Int) = (k : Int) := by omega
          have HZ : Hid (∀ w, Calls Tryz.prog 135 #[.int .i64 k] w fun e w' => e = .returned (.string (wordB k)) ∧ w' = w) := fun w => word_any k (by omega) w
          obtain ⟨x, hx⟩ : ∃ x, wordB k = x := ⟨_, rfl⟩
          rw [hx] at HZ ck
          clear hx
          go_wp2_with (go_at_call 135; refine (HZ.out _).mono ?_; rintro e w' ⟨rfl, rfl⟩)
          go_round
          case rel => exact ⟨k + 1, by omega, by go_num⟩
          case measure => simp [intOf]; omega
        · obtain rfl : k = 40 := by omega
          go_wp2
          go_round
          case rel => exact ⟨j + 1, by omega, by go_num⟩
          case measure => simp [intOf]; omega
    · obtain rfl : j = m := by omega
      go_wp2
      go_ret
      exact ⟨rfl, rfl⟩
set_option maxHeartbeats 2000000
theorem hold_asks (R m gb cb ga ca : Nat) (G N C : Nat → Nat) (w : World) (hm : m ≤ 1000) (hN : ∀ i, i < m → N i ≤ 1000000 ∧ N i + 40 ≤ C i) (hmb : m ≤ cb) (hma : m ≤ ca)
    (cR0 : w.cell? ⟨R, 6, none⟩ = some (.slice (some ⟨gb, 0, none⟩) m cb)) (cR1 : w.cell? ⟨R, 7, none⟩ = some (.slice (some ⟨ga, 0, none⟩) m ca))
    (hb : ∀ i, i < m → w.cell? ⟨gb, i, none⟩ = some (.slice (some ⟨G i, 0, none⟩) (N i + 40) (C i))) (ha : ∀ i, i < m → w.cell? ⟨ga, i, none⟩ = some (.int .i64 (N i)))
    (hk : ∀ i, i < m → ∀ k, k < 40 → (w.cell? ⟨G i, (N i + k) * 2, none⟩ = some (.string (wordB k)) ∧ w.cell? ⟨G i, (N i + k) * 2 + 1, none⟩ = some (.int .i64 0))) :
    Calls Tryz.prog 78 #[.pointer (some ⟨R, 0, none⟩)] w fun e w' => e = .returned (.bool true) ∧ Below w.heap.size w w' := by
  have HB : Hid (∀ i, i < m → w.cell? ⟨gb, i, none⟩ = some (.slice (some ⟨G i, 0, none⟩) (N i + 40) (C i))) := hb
  have HA : Hid (∀ i, i < m → w.cell? ⟨ga, i, none⟩ = some (.int .i64 (N i))) := ha
  have HK : Hid (∀ i, i < m → ∀ k, k < 40 → (w.cell? ⟨G i, (N i + k) * 2, none⟩ = some (.string (wordB k)) ∧ w.cell? ⟨G i, (N i + k) * 2 + 1, none⟩ = some (.int .i64 0))) := hk
  have HN : Hid (∀ i, i < m → N i ≤ 1000000 ∧ N i + 40 ≤ C i) := hN
  have HR0 : Hid (w.cell? ⟨R, 6, none⟩ = some (.slice (some ⟨gb, 0, none⟩) m cb)) := cR0
  have HR1 : Hid (w.cell? ⟨R, 7, none⟩ = some (.slice (some ⟨ga, 0, none⟩) m ca)) := cR1
  have EG : Tryz.prog.eqGuardType Tryz.prog.depth 98 = false := by kernel_rfl
  have B0 : Hid (Below w.heap.size w w) := Below.refl _ _
  clear hb ha hk hN cR0 cR1
  go_enter Tryz.func78, Tryz.ntmps78
  go_wp2
  go_loopg [3, 4, 5, 6] m (fun gg s3 s4 s5 s6 wx => ∃ j : Nat, s3 = .int .i64 j ∧ j + gg = m ∧ Hid (Below w.heap.size w wx))
  case atStart => exact ⟨0, rfl, by omega, B0⟩
  case round =>
    obtain ⟨j, rfl, hjg, B1⟩ := hrel
    obtain ⟨gj, hgj⟩ : ∃ x, x = gk := ⟨_, rfl⟩
    have r0 := cell_later B1.out HR0.out
    have r1 := cell_later B1.out HR1.out
    by_cases hlt : j < m
    · have hlt' : (j : Int) < m := by omega
      have b1 := cell_later B1.out (HB.out j hlt)
      have a1 := cell_later B1.out (HA.out j hlt)
      have k1 := HK.out j hlt
      have n1 := HN.out j hlt
      obtain ⟨Gj, hG⟩ : ∃ x, G j = x := ⟨_, rfl⟩
      obtain ⟨Nj, hNj⟩ : ∃ x, N j = x := ⟨_, rfl⟩
      obtain ⟨Cj, hC⟩ : ∃ x, C j = x := ⟨_, rfl⟩
      have HB1 : Hid (w.cell? ⟨gb, j, none⟩ = some (.slice (some ⟨Gj, 0, none⟩) (Nj + 40) Cj)) := by have := HB.out j hlt; rw [hG, hNj, hC] at this; exact this
      rw [hG, hNj, hC] at b1
      rw [hNj] at a1
      rw [hG, hNj] at k1
      rw [hNj, hC] at n1
      clear hG hNj hC
      have K1 : Hid (∀ k, k < 40 → (w.cell? ⟨Gj, (Nj + k) * 2, none⟩ = some (.string (wordB k)) ∧ w.cell? ⟨Gj, (Nj + k) * 2 + 1, none⟩ = some (.int .i64 0))) := k1
      clear k1
      go_wp2_with fail
      clear r0 r1 a1 b1
      go_loopg [5, 6] 40 (fun gg s5 s6 wx => ∃ k : Nat, s5 = .int .i64 ((Nj + k : Nat) : Int) ∧ k + gg = 40 ∧ Hid (Below w.heap.size w wx))
      case atStart => exact ⟨0, rfl, by omega, B1⟩
      case round =>
        obtain ⟨k, rfl, hkg, B2⟩ := hrel
        have r0 := cell_later B2.out HR0.out
        have b1 := cell_later B2.out HB1.out
        by_cases hkl : k < 40
        · have hkl' : ((Nj + k : Nat) : Int) < ((Nj + 40 : Nat) : Int) := by omega
          have c0 := cell_later B2.out (K1.out k hkl).1
          have c1 := cell_later B2.out (K1.out k hkl).2
          have es : (Nj : Int) + (k : Int) - (Nj : Int) = (k : Int) := by omega
          have HZ : Hid (∀ w, Calls Tryz.prog 135 #[.int .i64 k] w fun e w' => e = .returned (.string (wordB k)) ∧ w' = w) := fun w => word_any k (by omega) w
          obtain ⟨x, hx⟩ : ∃ x, wordB k = x := ⟨_, rfl⟩
          rw [hx] at HZ c0
          clear hx
          have EQ := neq_ask_eq x 0
          go_wp2_with fail
          obtain ⟨X, hX⟩ : ∃ X, X = wr.alloc (.cells #[.string x, .int .i64 0] 98) := ⟨_, rfl⟩
          have BX : Hid (Below wr.heap.size wr X) := box_below hX
          have g0 : Hid (X.heap[wr.heap.size]? = some (.cells #[.string x, .int .i64 0] 98)) := by show _ = _; rw [hX]; exact heap_alloc_new wr _
          rw [← hX]
          clear hX c0 c1 r0 b1
          have k0 : ∀ d os, (grow (redrawn X d) os).cell? ⟨wr.heap.size, 0, none⟩ = some (.string x) := fun d os => cell_later (below_regrown X d os) (by simp [World.cell?, g0.out])
          have k1 : ∀ d os, (grow (redrawn X d) os).cell? ⟨wr.heap.size, 1, none⟩ = some (.int .i64 0) := fun d os => cell_later (below_regrown X d os) (by simp [World.cell?, g0.out])
          have C1 : Hid (∀ w, Calls Tryz.prog 135 #[.int .i64 k] w fun e w' => e = .returned (.string x) ∧ Below w.heap.size w w') := fun w => (HZ.out w).mono fun e w' ⟨he, hw⟩ => ⟨he, by rw [hw]; exact Below.refl _ _⟩
          have hwk : IntKind.i64.wrap (k : Int) = (k : Int) := by rw [IntKind.wrap_i64]; omega
          obtain ⟨gg, hgg⟩ : ∃ gg, gk = gg + 1 := ⟨gk - 1, by omega⟩
          refine wp_region_quiet_below (by kernel_rfl) (by kernel_rfl) ?_
          repeat (quiet_step ((go_at_call 135; exact Calls.regrown_of (C1.out _))))
          refine wpQuiet_nil ?_
          rintro _ ⟨⟨d, os⟩, rfl⟩
          have B3 : Hid (Below w.heap.size w (grow (redrawn X d) os)) := (B2.out.trans (BX.out.mono B2.out.size)).trans ((below_regrown X d os).mono (B2.out.trans (BX.out.mono B2.out.size)).size)
          go_wp2
          go_roundg gg
          case measure => omega
          case rel => exact ⟨k + 1, by go_num, by omega, B3⟩
        · obtain rfl : k = 40 := by omega
          have hkl' : ¬ ((Nj + 40 : Nat) : Int) < ((Nj + 40 : Nat) : Int) := by omega
          obtain ⟨gg, hgg⟩ : ∃ gg, gj = gg + 1 := ⟨gj - 1, by omega⟩
          go_wp2
          go_roundg gg
          case measure => omega
          case rel => exact ⟨j + 1, by go_num, by omega, B2⟩
    · obtain rfl : j = m := by omega
      have hlt' : ¬ (j : Int) < j := by omega
      go_wp2
      go_ret
      exact ⟨rfl, B1.out⟩
def Keeps (w : World) (R f m room : Nat) (mark : Nat → Nat → Nat → Prop) : Prop :=
 ∃ (gb cb ga ca : Nat) (G N C : Nat → Nat), m ≤ 1000 ∧ (∀ i, i < m → N i ≤ 1000000 ∧ N i + room ≤ C i) ∧ m ≤ cb ∧ m ≤ ca ∧ w.cell? ⟨R, f, none⟩ = some (.slice (some ⟨gb, 0, none⟩) m cb) ∧ w.cell? ⟨R, f + 1, none⟩ = some (.slice (some ⟨ga, 0, none⟩) m ca) ∧
  (∀ i, i < m → w.cell? ⟨gb, i, none⟩ = some (.slice (some ⟨G i, 0, none⟩) (N i + room) (C i))) ∧ (∀ i, i < m → w.cell? ⟨ga, i, none⟩ = some (.int .i64 (N i))) ∧ ∀ i, i < m → ∀ k, k < room → mark (G i) (N i + k) k
theorem Keeps.below {w w' : World} {R f m room : Nat} {mk mk' : Nat → Nat → Nat → Prop} (h : Keeps w R f m room mk) (hb : Below w.heap.size w w') (hmk : ∀ g j k, mk g j k → mk' g j k) : Keeps w' R f m room mk' := by
 obtain ⟨gb, cb, ga, ca, G, N, C, h1, h2, h3, h4, h5, h6, h7, h8, h9⟩ := h
 exact ⟨gb, cb, ga, ca, G, N, C, h1, h2, h3, h4, cell_later hb h5, cell_later hb h6, fun i hi => cell_later hb (h7 i hi), fun i hi => cell_later hb (h8 i hi), fun i hi k hk => hmk _ _ _ (h9 i hi k hk)⟩
def markB (w : World) (g j k : Nat) : Prop := w.cell? ⟨g, j, none⟩ = some (.int .u8 (markU k))
def markI (w : World) (g j k : Nat) : Prop := w.cell? ⟨g, j, none⟩ = some (.int .i64 (lotI k))
def markS (w : World) (g j k : Nat) : Prop := w.cell? ⟨g, j, none⟩ = some (.string (wordB k))
def markA (w : World) (g j k : Nat) : Prop := w.cell? ⟨g, j * 2, none⟩ = some (.string (wordB k)) ∧ w.cell? ⟨g, j * 2 + 1, none⟩ = some (.int .i64 0)
structure RoomOk (w : World) (R mb mi ms ma : Nat) : Prop where
 bytes : Keeps w R 0 mb 600 (markB w)
 ints : Keeps w R 2 mi 40 (markI w)
 texts : Keeps w R 4 ms 40 (markS w)
 asks : Keeps w R 6 ma 40 (markA w)
 none : ∀ i, 8 ≤ i → i < 28 → w.cell? ⟨R, i, none⟩ = some (.slice none 0 0)
theorem RoomOk.below {w w' : World} {R mb mi ms ma : Nat} (h : RoomOk w R mb mi ms ma) (hb : Below w.heap.size w w') : RoomOk w' R mb mi ms ma where
 bytes := h.bytes.below hb fun g j k q => cell_later hb q
 ints := h.ints.below hb fun g j k q => cell_later hb q
 texts := h.texts.below hb fun g j k q => cell_later hb q
 asks := h.asks.below hb fun g j k q => ⟨cell_later hb q.1, cell_later hb q.2⟩
 none i h1 h2 := cell_later hb (h.none i h1 h2)
theorem hold_any (R mb mi ms ma : Nat) (w : World) (h : RoomOk w R mb mi ms ma) : Calls Tryz.prog 19 #[.pointer (some ⟨R, 0, none⟩)] w fun e w' => e = .returned (.bool true) ∧ Below w.heap.size w w' := by
 have H0 : Hid (Calls Tryz.prog 75 #[.pointer (some ⟨R, 0, none⟩)] w fun e w'' => e = .returned (.bool true) ∧ w'' = w) := by
  obtain ⟨gb, cb, ga, ca, G, N, C, h1, h2, h3, h4, h5, h6, h7, h8, h9⟩ := h.bytes
  exact hold_bytes R mb gb cb ga ca G N C w h1 h2 h3 h4 h5 h6 h7 h8 h9
 have H1 : Hid (Calls Tryz.prog 76 #[.pointer (some ⟨R, 0, none⟩)] w fun e w'' => e = .returned (.bool true) ∧ w'' = w) := by
  obtain ⟨gb, cb, ga, ca, G, N, C, h1, h2, h3, h4, h5, h6, h7, h8, h9⟩ := h.ints
  exact hold_ints R mi gb cb ga ca G N C w h1 h2 h3 h4 h5 h6 h7 h8 h9
 have H2 : Hid (Calls Tryz.prog 77 #[.pointer (some ⟨R, 0, none⟩)] w fun e w'' => e = .returned (.bool true) ∧ w'' = w) := by
  obtain ⟨gb, cb, ga, ca, G, N, C, h1, h2, h3, h4, h5, h6, h7, h8, h9⟩ := h.texts
  exact hold_texts R ms gb cb ga ca G N C w h1 h2 h3 h4 h5 h6 h7 h8 h9
 have H3 : Hid (Calls Tryz.prog 78 #[.pointer (some ⟨R, 0, none⟩)] w fun e w'' => e = .returned (.bool true) ∧ Below w.heap.size w w'') := by
  obtain ⟨gb, cb, ga, ca, G, N, C, h1, h2, h3, h4, h5, h6, h7, h8, h9⟩ := h.asks
  exact hold_asks R ma gb cb ga ca G N C w h1 h2 h3 h4 h5 h6 h7 h8 h9
 have HN : Hid (∀ w', Below w.heap.size w w' → ∀ i, 8 ≤ i → i < 28 → w'.cell? ⟨R, i, none⟩ = some (.slice none 0 0)) := fun w' hb => (h.below hb).none
 clear h
 go_enter Tryz.func19, Tryz.ntmps19
 go_wp2_with fail
 go_must (go_at_call 75)
 refine H0.out.mono ?_
 rintro e w' ⟨rfl, hee⟩
 obtain rfl := hee.symm
 clear hee
 go_wp2_with fail
 go_must (go_at_call 76)
 refine H1.out.mono ?_
 rintro e w' ⟨rfl, hee⟩
 obtain rfl := hee.symm
 clear hee
 go_wp2_with fail
 go_must (go_at_call 77)
 refine H2.out.mono ?_
 rintro e w' ⟨rfl, hee⟩
 obtain rfl := hee.symm
 clear hee
 go_wp2_with fail
 go_must (go_at_call 78)
 refine H3.out.mono ?_
 rintro e w1 ⟨rfl, hb⟩
 have B1 : Hid (Below w.heap.size w w1) := hb
 clear hb
 go_wp2_with (first | (go_at_call 79; refine (hold38 R _ (HN.out _ B1.out 8 (by decide) (by decide))).mono ?_; rintro e w' ⟨rfl, hee⟩; obtain rfl := hee.symm; clear hee) | (go_at_call 80; refine (hold39 R _ (HN.out _ B1.out 10 (by decide) (by decide))).mono ?_; rintro e w' ⟨rfl, hee⟩; obtain rfl := hee.symm; clear hee) | (go_at_call 81; refine (hold40 R _ (HN.out _ B1.out 12 (by decide) (by decide))).mono ?_; rintro e w' ⟨rfl, hee⟩; obtain rfl := hee.symm; clear hee) | (go_at_call 82; refine (hold41 R _ (HN.out _ B1.out 14 (by decide) (by decide))).mono ?_; rintro e w' ⟨rfl, hee⟩; obtain rfl := hee.symm; clear hee) | (go_at_call 83; refine (hold42 R _ (HN.out _ B1.out 16 (by decide) (by decide))).mono ?_; rintro e w' ⟨rfl, hee⟩; obtain rfl := hee.symm; clear hee) | (go_at_call 84; refine (hold43 R _ (HN.out _ B1.out 18 (by decide) (by decide))).mono ?_; rintro e w' ⟨rfl, hee⟩; obtain rfl := hee.symm; clear hee) | (go_at_call 85; refine (hold44 R _ (HN.out _ B1.out 20 (by decide) (by decide))).mono ?_; rintro e w' ⟨rfl, hee⟩; obtain rfl := hee.symm; clear hee) | (go_at_call 86; refine (hold45 R _ (HN.out _ B1.out 22 (by decide) (by decide))).mono ?_; rintro e w' ⟨rfl, hee⟩; obtain rfl := hee.symm; clear hee) | (go_at_call 87; refine (hold46 R _ (HN.out _ B1.out 24 (by decide) (by decide))).mono ?_; rintro e w' ⟨rfl, hee⟩; obtain rfl := hee.symm; clear hee) | (go_at_call 88; refine (hold47 R _ (HN.out _ B1.out 26 (by decide) (by decide))).mono ?_; rintro e w' ⟨rfl, hee⟩; obtain rfl := hee.symm; clear hee))
 go_ret
 exact ⟨rfl, B1.out⟩
end Go.Proofs.YtphofgnehdlafaaGreatDoor.Pkt
