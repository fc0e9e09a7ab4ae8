import Derived.Test.YtglnldopnoafoaaGreatDoorProg
import Derived.WalkKit
import Derived.WalkSpells
import Derived.WalkLawsBesides
import Derived.Laws.BitsAllLaws
import Derived.Laws.AppendOwnNone
namespace Go.Proofs.YtglnldopnoafoaaGreatDoor.Rm
open Go Go.RowKit
set_option linter.unusedSimpArgs false
set_option linter.unusedVariables false

/-- The mark at a place behind a list of texts. -/
def mark (i : Nat) : ByteArray := if i % 2 = 0 then ⟨#[60, 111, 110, 101, 62]⟩ else ⟨#[60, 116, 119, 111, 62]⟩
theorem lot_any (i : Nat) (hi : i ≤ 1000000) (w : World) :
    Calls Tryz.prog 56 #[.int .i64 i] w fun e w' => e = .returned (.string (if i % 2 = 0 then ⟨#[60, 111, 110, 101, 62]⟩ else ⟨#[60, 116, 119, 111, 62]⟩)) ∧ w' = w := by
  by_cases h : i % 2 = 0
  · rw [if_pos h]
    have h' : ((i : Int) % 2 == 0) = true := by simp; omega
    clear h
    go_enter Tryz.func56, Tryz.ntmps56
    go_wp2
    go_ret
    exact ⟨rfl, rfl⟩
  · rw [if_neg h]
    have h' : ((i : Int) % 2 == 0) = false := by simp; omega
    clear h
    go_enter Tryz.func56, Tryz.ntmps56
    go_wp2
    go_ret
    exact ⟨rfl, rfl⟩
theorem Tryz.info9 : (Tryz.prog.info? 9).map (fun i => (i.zero, i.size, i.bytes)) = some (some (.string ⟨#[]⟩), 1, 16) := by kernel_rfl
theorem Tryz.info22 : (Tryz.prog.info? 22).map (fun i => (i.zero, i.size, i.bytes)) = some (some (.slice none 0 0), 1, 24) := by kernel_rfl
theorem Tryz.info3 : (Tryz.prog.info? 3).map (fun i => (i.zero, i.size, i.bytes)) = some (some (.int .i64 0), 1, 8) := by kernel_rfl

/-- A slice of bytes that came in: nil, or these bytes lie from its address on. -/
def Came (w : World) (ao : Option Addr) (len cap : Nat) (z : Nat → ByteArray) : Prop :=
  len ≤ cap ∧ True ∧ ((ao = none ∧ len = 0 ∧ cap = 0) ∨ ∃ ad, ao = some ad ∧ ∀ i, i < len → w.cell? (ad.add i) = some (.string (z i)))

/-- The cells of so many bytes. -/
def cellsOf (z : Nat → ByteArray) (n : Nat) : List Value := (List.range n).map fun i => .string (z i)
theorem cellsOf_length (z : Nat → ByteArray) (n : Nat) : (cellsOf z n).length = n := by simp [cellsOf]
theorem cellsOf_get (z : Nat → ByteArray) (n j : Nat) (u : Value) (h : (cellsOf z n)[j]? = some u) : j < n ∧ u = .string (z j) := by
  unfold cellsOf at h
  rw [List.getElem?_map] at h
  by_cases hj : j < n
  · rw [List.getElem?_range hj] at h
    simp at h
    exact ⟨hj, h.symm⟩
  · rw [List.getElem?_eq_none (by simpa using hj)] at h
    simp at h
theorem cellsOf_at (z : Nat → ByteArray) (n j : Nat) (hj : j < n) : (cellsOf z n)[j]? = some (.string (z j)) := by
  unfold cellsOf
  rw [List.getElem?_map, List.getElem?_range hj]
  rfl
theorem cellsOf_succ (z : Nat → ByteArray) (n : Nat) : cellsOf z (n + 1) = cellsOf z n ++ [.string (z n)] := by
  simp [cellsOf, List.range_succ]
theorem cellsOf_one (z : Nat → ByteArray) (n : Nat) (u : Value) (h : u ∈ cellsOf z n) : u.oneCell' = true := by
  unfold cellsOf at h
  obtain ⟨i, _, rfl⟩ := List.mem_map.1 h
  rfl

theorem own_ne {w : World} {base e size n R t : Nat} {v : Value} {xs : List Value} {cs : Array Value} (h : w.ownsRow base e size v n xs) (hR : w.heap[R]? = some (.cells cs t (0, 0))) (hne : e ≠ t) : v.ownBlock ≠ some R := by
  obtain ⟨_, h | ⟨g, cp, cur, rfl, _, hh, _⟩⟩ := h
  · rw [h.1]; simp [Value.ownBlock]
  · intro k
    simp [Value.ownBlock] at k
    subst k
    rw [hh] at hR
    simp at hR
    exact hne hR.2
theorem own_two {w : World} {base e e' size n n' : Nat} {v v' : Value} {xs xs' : List Value} (h : w.ownsRow base e size v n xs) (h' : w.ownsRow base e' size v' n' xs') (hne : e ≠ e') : v.ownBlock = none ∨ v.ownBlock ≠ v'.ownBlock := by
  obtain ⟨_, k | ⟨g, cp, cur, rfl, _, hh, _⟩⟩ := h
  · rw [k.1]; exact .inl rfl
  · right
    have := own_ne h' hh (Ne.symm hne)
    exact fun q => this q.symm
theorem heap_set {w : World} {R i t : Nat} {cs : Array Value} (h : w.heap[R]? = some (.cells cs t (0, 0))) (v : Value) : (w.setCell ⟨R, i, none⟩ v).heap[R]? = some (.cells (cs.setIfInBounds i v) t (0, 0)) := by
  simp [World.setCell, Array.getElem?_modify, h]

theorem own_shape {w : World} {base e size n : Nat} {v : Value} {xs : List Value} (h : w.ownsRow base e size v n xs) (hn : ¬ v = .slice none 0 0) : ∃ g cp, v = .slice (some ⟨g, 0, none⟩) n cp := by
  obtain ⟨_, k | ⟨g, cp, cur, hv, _⟩⟩ := h
  · exact absurd k.1 hn
  · exact ⟨g, cp, hv⟩

/-- All below stays, and so does every row of bytes. -/
def BelF (base : Nat) (w w' : World) : Prop := Below base w w' ∧ ∀ (g : Nat) (k : Array Value) (t : TypeId), t = 9 ∨ t = 51 → w.heap[g]? = some (.cells k t (0, 0)) → w'.heap[g]? = w.heap[g]?
/-- What stands behind the two appends and stores of layBytes. -/
theorem lay_end {w wr w3 : World} {R base m g : Nat} {cs cur : Array Value} {vb va v3 : Value} {xsb xsa news : List Value} {b1 : Array Value}
    (hbel : Below w.heap.size w wr) (hRlt : R < w.heap.size) (hbase : base ≤ R) (hR : wr.heap[R]? = some (.cells cs 44 (0, 0))) (ob : wr.ownsRow base 22 1 vb m xsb) (oa : wr.ownsRow base 3 1 va m xsa)
    (hg : w.heap.size ≤ g) (hh : wr.heap[g]? = some (.cells cur 9 (0, 0)))
    (hown3 : w3.ownsRow base 22 1 v3 (m + 1) (xsb ++ news)) (hgrow3 : (wr.alloc (.cells b1 22)).grownBy w3 vb.ownBlock) :
    w3.heap[R]? = some (.cells cs 44 (0, 0)) ∧ w3.ownsRow base 3 1 va m xsa ∧ w3.heap[g]? = some (.cells cur 9 (0, 0)) ∧ BelF base w w3 ∧ (w3.setCell ⟨R, 4, none⟩ v3).ownsRow base 3 1 va m xsa ∧ base ≤ w3.heap.size := by
  have hlt : wr.heap.size ≤ w3.heap.size := Nat.le_trans (by simp) hgrow3.size
  have hRr : R < wr.heap.size := lt_of_block hR
  have hgr : g < wr.heap.size := lt_of_block hh
  have e1 : w3.heap[R]? = some (.cells cs 44 (0, 0)) := by
    rw [hgrow3.block R (by simp; omega) (fun q => own_ne ob hR (by decide) q.symm), Below.heap_alloc wr _ R hRr, hR]
  have e2 : w3.ownsRow base 3 1 va m xsa := (oa.alloc _).kept hgrow3 (own_two oa ob (by decide))
  have e3 : w3.heap[g]? = some (.cells cur 9 (0, 0)) := by
    rw [hgrow3.block g (by simp; omega) (fun q => own_ne ob hh (by decide) q.symm), Below.heap_alloc wr _ g hgr, hh]
  have hs := hbel.size
  refine ⟨e1, e2, e3, ?_, ownsRow_setCell_other e2 (own_ne e2 e1 (by decide)) _, by omega⟩
  refine ⟨((hbel.mono (by omega)).alloc (by omega) _).grown hgrow3 (by simp; omega) (fun k hk => (ob.lt k hk).1), fun q kk t ht hq => ?_⟩
  have q1 := (hbel.block q (lt_of_block hq)).trans hq
  rw [hgrow3.block q (by have := lt_of_block q1; simp; omega) (fun e => own_ne ob q1 (by rcases ht with rfl | rfl <;> decide) e.symm), Below.heap_alloc wr _ q (lt_of_block q1), q1, hq]

theorem lay_end2 {w w3 w5 : World} {R base m g : Nat} {cs cur : Array Value} {va v3 v5 : Value} {xsb xsa news : List Value} {b1 : Array Value}
    (hR : w3.heap[R]? = some (.cells cs 44 (0, 0))) (oa : w3.ownsRow base 3 1 va m xsa) (hh : w3.heap[g]? = some (.cells cur 9 (0, 0))) (hbel : BelF base w w3) (hbase : base ≤ R)
    (hown3 : w3.ownsRow base 22 1 v3 (m + 1) xsb) (hown5 : w5.ownsRow base 3 1 v5 (m + 1) (xsa ++ news)) (hgrow5 : ((w3.setCell ⟨R, 4, none⟩ v3).alloc (.cells b1 3)).grownBy w5 va.ownBlock) :
    w5.heap[R]? = some (.cells (cs.setIfInBounds 4 v3) 44 (0, 0)) ∧ (w5.setCell ⟨R, 5, none⟩ v5).heap[R]? = some (.cells ((cs.setIfInBounds 4 v3).setIfInBounds 5 v5) 44 (0, 0)) ∧ (w5.setCell ⟨R, 5, none⟩ v5).ownsRow base 22 1 v3 (m + 1) xsb ∧ (w5.setCell ⟨R, 5, none⟩ v5).ownsRow base 3 1 v5 (m + 1) (xsa ++ news) ∧
      (w5.setCell ⟨R, 5, none⟩ v5).heap[g]? = some (.cells cur 9 (0, 0)) ∧ BelF base w (w5.setCell ⟨R, 5, none⟩ v5) := by
  have hRr : R < w3.heap.size := lt_of_block hR
  have hgr : g < w3.heap.size := lt_of_block hh
  have hgR : g ≠ R := by
    rintro rfl
    rw [hh] at hR
    simp at hR
  have sz : (w3.setCell ⟨R, 4, none⟩ v3).heap.size = w3.heap.size := by simp [World.setCell]
  have r4 := heap_set (i := 4) hR v3
  have o4 : (w3.setCell ⟨R, 4, none⟩ v3).ownsRow base 22 1 v3 (m + 1) xsb := ownsRow_setCell_other hown3 (own_ne hown3 hR (by decide)) _
  have a4 : (w3.setCell ⟨R, 4, none⟩ v3).ownsRow base 3 1 va m xsa := ownsRow_setCell_other oa (own_ne oa hR (by decide)) _
  have g4 : (w3.setCell ⟨R, 4, none⟩ v3).heap[g]? = some (.cells cur 9 (0, 0)) := (Below.heap_setCell w3 _ v3 g (by simpa using hgR)).trans hh
  have b4 : Below base w (w3.setCell ⟨R, 4, none⟩ v3) := hbel.1.setCell (by simpa using hbase) _
  have r5 : w5.heap[R]? = some (.cells (cs.setIfInBounds 4 v3) 44 (0, 0)) := by
    rw [hgrow5.block R (by simp; omega) (fun q => own_ne oa hR (by decide) q.symm), Below.heap_alloc _ _ R (by omega), r4]
  have o5 : w5.ownsRow base 22 1 v3 (m + 1) xsb := (o4.alloc _).kept hgrow5 (own_two o4 a4 (by decide))
  have g5 : w5.heap[g]? = some (.cells cur 9 (0, 0)) := by
    rw [hgrow5.block g (by simp; omega) (fun q => own_ne a4 g4 (by decide) q.symm), Below.heap_alloc _ _ g (by omega), g4]
  have b5 : Below base w w5 := (b4.alloc (by omega) _).grown hgrow5 (by simp; omega) (fun k hk => (oa.lt k hk).1)
  refine ⟨r5, heap_set r5 v5, ownsRow_setCell_other o5 (own_ne o5 r5 (by decide)) _, ownsRow_setCell_other hown5 (own_ne hown5 r5 (by decide)) _, (Below.heap_setCell w5 _ v5 g (by simpa using hgR)).trans g5, b5.setCell (by simpa using hbase) _, fun q kk t ht hq => ?_⟩
  have q1 : w3.heap[q]? = some (.cells kk t (0, 0)) := (hbel.2 q kk t ht hq).trans hq
  have qR : q ≠ R := by
    rintro rfl
    rw [q1] at hR
    rcases ht with rfl | rfl <;> simp at hR
  have q2 : (w3.setCell ⟨R, 4, none⟩ v3).heap[q]? = some (.cells kk t (0, 0)) := (Below.heap_setCell w3 _ v3 q (by simpa using qR)).trans q1
  rw [Below.heap_setCell w5 _ v5 q (by simpa using qR), hgrow5.block q (by have := lt_of_block q2; simp at this ⊢; omega) (fun e => own_ne a4 q2 (by rcases ht with rfl | rfl <;> decide) e.symm), Below.heap_alloc _ _ q (lt_of_block q2), q2, hq]

theorem one_new_set (w : World) (a : Addr) (v x : Value) (t : TypeId) : ∀ (j : Nat) (u : Value), [x][j]? = some u → ((w.setCell a v).alloc (.cells #[x] t)).cell? ((⟨w.heap.size, 0, none⟩ : Addr).add j) = some u := by
  have e : (w.setCell a v).heap.size = w.heap.size := by simp [World.setCell]
  rw [← e]
  exact cell_one_new _ _ _
end Go.Proofs.YtglnldopnoafoaaGreatDoor.Rm
namespace Go.Proofs.YtglnldopnoafoaaGreatDoor.Rm
open Go Go.RowKit
set_option linter.unusedSimpArgs false
set_option linter.unusedVariables false

set_option maxRecDepth 100000 in
set_option maxHeartbeats 2000000 in
theorem lay_any (R base m : Nat) (cs : Array Value) (vb va : Value) (xsb xsa : List Value) (ao : Option Addr) (len cap : Nat) (z : Nat → ByteArray) (w : World) (hm : len ≤ 140000) (hm1 : m ≤ 1000) (hc : Came w ao len cap z)
    (hR : w.heap[R]? = some (.cells cs 44 (0, 0))) (hb : cs[4]? = some vb) (ha : cs[5]? = some va) (hbase : base ≤ R) (hob : w.ownsRow base 22 1 vb m xsb) (hoa : w.ownsRow base 3 1 va m xsa) :
    Calls Tryz.prog 15 #[.pointer (some ⟨R, 0, none⟩), .slice ao len cap, .int .i64 40] w fun e w' => ∃ g cp cur vb' va', e = .returned (.slice (some ⟨g, 0, none⟩) len (len + 40)) ∧
      w.heap.size ≤ g ∧ w'.heap[g]? = some (.cells cur 9 (0, 0)) ∧ cur.size = cp ∧ len + 40 ≤ cp ∧ cur.toList.take (len + 40) = cellsOf z len ++ cellsOf mark 40 ∧
      w'.heap[R]? = some (.cells ((cs.setIfInBounds 4 vb').setIfInBounds 5 va') 44 (0, 0)) ∧ w'.ownsRow base 22 1 vb' (m + 1) (xsb ++ [.slice (some ⟨g, 0, none⟩) (len + 40) cp]) ∧ w'.ownsRow base 3 1 va' (m + 1) (xsa ++ [.int .i64 len]) ∧
      BelF base w w' := by
  have HR : Hid (w.heap[R]? = some (.cells cs 44 (0, 0)) ∧ cs[4]? = some vb ∧ cs[5]? = some va ∧ base ≤ R ∧ w.ownsRow base 22 1 vb m xsb ∧ w.ownsRow base 3 1 va m xsa) := ⟨hR, hb, ha, hbase, hob, hoa⟩
  clear hR hb ha hbase hob hoa
  obtain ⟨j0, hj, hj0, hj1, hj2⟩ := info_parts Tryz.info22
  obtain ⟨l0, hl, hl0, hl1, hl2⟩ := info_parts Tryz.info3
  obtain ⟨hcap, hz, hc⟩ := hc
  obtain ⟨i0, hi, hz0, hz1, hz2⟩ := info_parts Tryz.info9
  have own0 : (w.alloc (.cells #[] 9)).ownsRow w.heap.size 9 1 (.slice (some ⟨w.heap.size, 0, none⟩) 0 0) 0 [] := World.ownsRow_made w #[] 0 (Nat.le_refl _) (by decide) (by decide)
  have OWN0 : Hid ((w.alloc (.cells #[] 9)).ownsRow w.heap.size 9 1 (.slice (some ⟨w.heap.size, 0, none⟩) 0 0) 0 []) := own0
  clear own0
  rcases hc with ⟨rfl, rfl, rfl⟩ | ⟨ad, rfl, hcell⟩
  · have HS : Hid ((w.alloc (.cells #[] 9)).ownsRow w.heap.size 9 1 (.slice (some ⟨w.heap.size, 0, none⟩) 0 0) (0 + 0) (cellsOf z 0 ++ cellsOf mark 0) ∧ Below w.heap.size w (w.alloc (.cells #[] 9)) ∧ (Value.slice (some ⟨w.heap.size, 0, none⟩) 0 0) ≠ .slice none 0 0) := ⟨OWN0.out, (Below.refl _ _).alloc (Nat.le_refl _) _, by simp⟩
    go_enter Tryz.func15, Tryz.ntmps15
    go_wp2_with (at_builtin; refine wpList_append_own_none rfl (.tmp 10) (.tmp 11) 22 rfl w.heap.size 9 i0 1 Tryz.underlying22 hi _ 0 [] rfl OWN0.out rfl ?_)
    go_loopw [7, 8] (fun v i wr => ∃ k : Nat, k ≤ 40 ∧ i = .int .i64 k ∧ wr.ownsRow w.heap.size 9 1 v (0 + k) (cellsOf z 0 ++ cellsOf mark k) ∧ Below w.heap.size w wr ∧ v ≠ .slice none 0 0) (fun _ i _ => 40 - (intOf i).toNat)
    case atStart => exact ⟨0, by omega, rfl, HS.out⟩
    case round =>
      obtain ⟨k, hk, rfl, hown, hbel, hnn⟩ := hrel
      have HO : Hid (wr.ownsRow w.heap.size 9 1 u7 (0 + k) (cellsOf z 0 ++ cellsOf mark k)) := hown
      have HB : Hid (Below w.heap.size w wr) := hbel
      have HN : Hid (u7 ≠ .slice none 0 0) := hnn
      clear hown hbel hnn
      by_cases hlt : k < 40
      · by_cases hp : k % 2 = 0
        · have HM : Hid (mark k = ⟨#[60, 111, 110, 101, 62]⟩) := by show mark k = ⟨#[60, 111, 110, 101, 62]⟩; simp [mark, hp]
          have HL : Hid (∀ w, Calls Tryz.prog 56 #[.int .i64 k] w fun e w' => e = .returned (.string ⟨#[60, 111, 110, 101, 62]⟩) ∧ w' = w) := fun w => by have h := lot_any k (by omega) w; rw [if_pos hp] at h; exact h
          clear hp
          go_wp2_with (first | (go_at_call 56; refine (HL.out _).mono ?_; rintro e w' ⟨rfl, rfl⟩) | (at_builtin; refine wpList_append_own _ rfl (.tmp 18) (.tmp 21) 22 rfl w.heap.size 9 i0 (.string ⟨#[]⟩) 1 16 Tryz.underlying22 hi hz0 hz1 hz2 rfl (by decide) _ _ _ rfl (HO.out.alloc _) ⟨_, 0, none⟩ 1 1 [.string ⟨#[60, 111, 110, 101, 62]⟩] rfl rfl ?d1 ?d2 ?d3 ?d4 ?d5 ?_))
          case d1 => exact cell_one_new _ _ _
          case d2 => intro u hu; simp at hu; subst hu; rfl
          case d3 => unfold maxLen; omega
          case d4 => omega
          case d5 => have := HB.out.size; simp; omega
          intro v2 w2 hown2 hgrow2 hnil2
          have hb2 := (HB.out.alloc HB.out.size _).grown hgrow2 (by have := HB.out.size; simp; omega) (by intro q hq; exact (HO.out.lt _ hq).1)
          have HS2 : Hid (w2.ownsRow w.heap.size 9 1 v2 (0 + (k + 1)) (cellsOf z 0 ++ cellsOf mark (k + 1)) ∧ Below w.heap.size w w2 ∧ v2 ≠ .slice none 0 0) := ⟨by rw [cellsOf_succ, HM.out]; first | exact hown2 | (rw [Nat.zero_add]; exact hown2), hb2, hnil2⟩
          clear hown2 hgrow2 hnil2 hb2
          go_wp2
          go_roundw
          case rel => exact ⟨k + 1, by omega, by go_num, HS2.out⟩
          case measure => simp [intOf]; omega
        · have HM : Hid (mark k = ⟨#[60, 116, 119, 111, 62]⟩) := by show mark k = ⟨#[60, 116, 119, 111, 62]⟩; simp [mark, hp]
          have HL : Hid (∀ w, Calls Tryz.prog 56 #[.int .i64 k] w fun e w' => e = .returned (.string ⟨#[60, 116, 119, 111, 62]⟩) ∧ w' = w) := fun w => by have h := lot_any k (by omega) w; rw [if_neg hp] at h; exact h
          clear hp
          go_wp2_with (first | (go_at_call 56; refine (HL.out _).mono ?_; rintro e w' ⟨rfl, rfl⟩) | (at_builtin; refine wpList_append_own _ rfl (.tmp 18) (.tmp 21) 22 rfl w.heap.size 9 i0 (.string ⟨#[]⟩) 1 16 Tryz.underlying22 hi hz0 hz1 hz2 rfl (by decide) _ _ _ rfl (HO.out.alloc _) ⟨_, 0, none⟩ 1 1 [.string ⟨#[60, 116, 119, 111, 62]⟩] rfl rfl ?d1 ?d2 ?d3 ?d4 ?d5 ?_))
          case d1 => exact cell_one_new _ _ _
          case d2 => intro u hu; simp at hu; subst hu; rfl
          case d3 => unfold maxLen; omega
          case d4 => omega
          case d5 => have := HB.out.size; simp; omega
          intro v2 w2 hown2 hgrow2 hnil2
          have hb2 := (HB.out.alloc HB.out.size _).grown hgrow2 (by have := HB.out.size; simp; omega) (by intro q hq; exact (HO.out.lt _ hq).1)
          have HS2 : Hid (w2.ownsRow w.heap.size 9 1 v2 (0 + (k + 1)) (cellsOf z 0 ++ cellsOf mark (k + 1)) ∧ Below w.heap.size w w2 ∧ v2 ≠ .slice none 0 0) := ⟨by rw [cellsOf_succ, HM.out]; first | exact hown2 | (rw [Nat.zero_add]; exact hown2), hb2, hnil2⟩
          clear hown2 hgrow2 hnil2 hb2
          go_wp2
          go_roundw
          case rel => exact ⟨k + 1, by omega, by go_num, HS2.out⟩
          case measure => simp [intOf]; omega
      · obtain rfl : k = 40 := by omega
        obtain ⟨h0, h | ⟨g, cp, cur, rfl, hg, hh, h1, h2, h3, h4⟩⟩ := HO.out
        · exact absurd h.1 HN.out
        obtain ⟨hR, hb, ha, hbase, hob, hoa⟩ := HR.out
        have hRlt : R < w.heap.size := lt_of_block hR
        have gr : w.grownBy wr none := ⟨HB.out.os, HB.out.tape, HB.out.output, HB.out.size, fun k hk _ => HB.out.block k hk⟩
        have OB : Hid (wr.ownsRow base 22 1 vb m xsb) := hob.kept gr (by cases vb.ownBlock <;> simp)
        have OA : Hid (wr.ownsRow base 3 1 va m xsa) := hoa.kept gr (by cases va.ownBlock <;> simp)
        have hR' : wr.heap[R]? = some (.cells cs 44 (0, 0)) := (HB.out.block R hRlt).trans hR
        have cR0 : wr.cell? ⟨R, 4, none⟩ = some vb := by simp [World.cell?, hR', hb]
        have HG : Hid (w.heap.size ≤ g ∧ wr.heap[g]? = some (.cells cur 9 (0, 0)) ∧ 0 + 40 ≤ cp ∧ cur.size = cp * 1 ∧ cur.toList.take ((0 + 40) * 1) = cellsOf z 0 ++ cellsOf mark 40 ∧ R < w.heap.size ∧ wr.heap[R]? = some (.cells cs 44 (0, 0))) := ⟨hg, hh, h1, h3, h4, hRlt, hR'⟩
        clear hR hb ha hbase hob hoa hg hh h2 h3 h4 gr h0 hR'
        have hbs : base ≤ wr.heap.size := by have := HB.out.size; have := HR.out.2.2.2.1; have := HG.out.2.2.2.2.2.1; omega
        go_wp2_with (at_builtin; refine wpList_append_own _ rfl (.tmp 27) (.tmp 29) 31 rfl base 22 j0 (.slice none 0 0) 1 24 Tryz.underlying31 hj hj0 hj1 hj2 rfl (by decide) _ _ _ rfl (OB.out.alloc _) ⟨_, 0, none⟩ 1 1 [.slice (some ⟨g, 0, none⟩) (0 + 40) cp] rfl rfl ?e1 ?e2 ?e3 ?e4 ?e5 ?_)
        case e1 => exact cell_one_new _ _ _
        case e2 => intro u hu; simp at hu; subst hu; rfl
        case e3 => unfold maxLen; omega
        case e4 => omega
        case e5 => simp; omega
        intro v3 w3 hown3 hgrow3 hnil3
        obtain ⟨gv, cv, rfl⟩ := own_shape hown3 hnil3
        clear hnil3
        have L := lay_end HB.out HG.out.2.2.2.2.2.1 HR.out.2.2.2.1 HG.out.2.2.2.2.2.2 OB.out OA.out HG.out.1 HG.out.2.1 hown3 hgrow3
        have f3 : w3.frozen? ⟨R, 4, none⟩ = false := by simp [World.frozen?, L.1]
        have g3 : w3.cell? ⟨R, 4, none⟩ = some vb := by simp [World.cell?, L.1, HR.out.2.1]
        have k3 : w3.cell? ⟨R, 5, none⟩ = some va := by simp [World.cell?, L.1, HR.out.2.2.1]
        have HL3 := L
        have HX : Hid (w3.ownsRow base 22 1 (.slice (some ⟨gv, 0, none⟩) (m + 1) cv) (m + 1) (xsb ++ [.slice (some ⟨g, 0, none⟩) (0 + 40) cp])) := hown3
        clear hown3 hgrow3 L
        obtain ⟨l1, l2, l3, l4, l5, l6⟩ := HL3
        have HLL : Hid (w3.heap[R]? = some (.cells cs 44 (0, 0)) ∧ w3.ownsRow base 3 1 va m xsa ∧ w3.heap[g]? = some (.cells cur 9 (0, 0)) ∧ BelF base w w3 ∧ (w3.setCell ⟨R, 4, none⟩ (.slice (some ⟨gv, 0, none⟩) (m + 1) cv)).ownsRow base 3 1 va m xsa) := ⟨l1, l2, l3, l4, l5⟩
        clear l1 l2 l3 l4 l5
        go_wp2_with (at_builtin; refine wpList_append_own _ rfl (.tmp 37) (.tmp 40) 29 rfl base 3 l0 (.int .i64 0) 1 8 Tryz.underlying29 hl hl0 hl1 hl2 rfl (by decide) _ _ _ rfl (HLL.out.2.2.2.2.alloc _) ⟨_, 0, none⟩ 1 1 [.int .i64 0] rfl rfl ?p1 ?p2 ?p3 ?p4 ?p5 ?_)
        case p1 => exact one_new_set _ _ _ _ _
        case p2 => intro u hu; simp at hu; subst hu; rfl
        case p3 => unfold maxLen; omega
        case p4 => omega
        case p5 => simp; omega
        intro v5 w5 hown5 hgrow5 hnil5
        obtain ⟨ga, ca, rfl⟩ := own_shape hown5 hnil5
        clear hnil5
        have M := lay_end2 HLL.out.1 HLL.out.2.1 HLL.out.2.2.1 HLL.out.2.2.2.1 HR.out.2.2.2.1 HX.out hown5 hgrow5
        have f5 : w5.frozen? ⟨R, 5, none⟩ = false := by simp [World.frozen?, M.1]
        have g5 : w5.cell? ⟨R, 5, none⟩ = some va := by have h := HR.out.2.2.1; simp [World.cell?, M.1, h]
        obtain ⟨_, m2, m3, m4, m5, m6⟩ := M
        have HM : Hid (w.heap.size ≤ g ∧ (w5.setCell ⟨R, 5, none⟩ (.slice (some ⟨ga, 0, none⟩) (m + 1) ca)).heap[g]? = some (.cells cur 9 (0, 0)) ∧ cur.size = cp ∧ 0 + 40 ≤ cp ∧ cur.toList.take (0 + 40) = cellsOf z 0 ++ cellsOf mark 40 ∧
          (w5.setCell ⟨R, 5, none⟩ (.slice (some ⟨ga, 0, none⟩) (m + 1) ca)).heap[R]? = some (.cells ((cs.setIfInBounds 4 (.slice (some ⟨gv, 0, none⟩) (m + 1) cv)).setIfInBounds 5 (.slice (some ⟨ga, 0, none⟩) (m + 1) ca)) 44 (0, 0)) ∧
          (w5.setCell ⟨R, 5, none⟩ (.slice (some ⟨ga, 0, none⟩) (m + 1) ca)).ownsRow base 22 1 (.slice (some ⟨gv, 0, none⟩) (m + 1) cv) (m + 1) (xsb ++ [.slice (some ⟨g, 0, none⟩) (0 + 40) cp]) ∧ (w5.setCell ⟨R, 5, none⟩ (.slice (some ⟨ga, 0, none⟩) (m + 1) ca)).ownsRow base 3 1 (.slice (some ⟨ga, 0, none⟩) (m + 1) ca) (m + 1) (xsa ++ [.int .i64 0]) ∧
          BelF base w (w5.setCell ⟨R, 5, none⟩ (.slice (some ⟨ga, 0, none⟩) (m + 1) ca))) := ⟨HG.out.1, m5, (Nat.mul_one cp) ▸ HG.out.2.2.2.1, h1, (Nat.mul_one (0 + 40)) ▸ HG.out.2.2.2.2.1, m2, m3, m4, m6⟩
        clear hown5 hgrow5 m2 m3 m4 m5 m6
        go_wp2
        go_ret
        exact ⟨g, cp, cur, _, _, rfl, HM.out⟩
  · have HC : Hid (∀ i, i < len → w.cell? (ad.add i) = some (.string (z i))) := hcell
    clear hcell
    go_enter Tryz.func15, Tryz.ntmps15
    go_wp2_with (at_builtin; refine wpList_append_own _ rfl (.tmp 10) (.tmp 11) 22 rfl w.heap.size 9 i0 (.string ⟨#[]⟩) 1 16 Tryz.underlying22 hi hz0 hz1 hz2 rfl (by decide) _ _ _ rfl OWN0.out ad len cap (cellsOf z len) rfl ?c0 ?c1 ?c2 ?c3 ?c4 ?c5 ?_)
    case c0 => simp [cellsOf]
    case c1 =>
      intro j u hj
      obtain ⟨h1, rfl⟩ := cellsOf_get z len j u hj
      exact cell_later ((Below.refl _ _).alloc (Nat.le_refl _) _) (HC.out j h1)
    case c2 => exact fun u hu => cellsOf_one z len u hu
    case c3 => unfold maxLen; omega
    case c4 => omega
    case c5 => simp
    intro v1 w1 hown1 hgrow1 hnil1
    have hb1 : Below w.heap.size w w1 := ((Below.refl w.heap.size w).alloc (Nat.le_refl _) _).grown hgrow1 (by simp) (by intro k hk; simp [Value.ownBlock] at hk; omega)
    have HS : Hid (w1.ownsRow w.heap.size 9 1 v1 (len + 0) (cellsOf z len ++ cellsOf mark 0) ∧ Below w.heap.size w w1 ∧ v1 ≠ .slice none 0 0) := ⟨by simpa [cellsOf] using hown1, hb1, hnil1⟩
    clear hown1 hgrow1 hnil1 hb1
    go_wp2
    go_loopw [7, 8] (fun v i wr => ∃ k : Nat, k ≤ 40 ∧ i = .int .i64 k ∧ wr.ownsRow w.heap.size 9 1 v (len + k) (cellsOf z len ++ cellsOf mark k) ∧ Below w.heap.size w wr ∧ v ≠ .slice none 0 0) (fun _ i _ => 40 - (intOf i).toNat)
    case atStart => exact ⟨0, by omega, rfl, HS.out⟩
    case round =>
      obtain ⟨k, hk, rfl, hown, hbel, hnn⟩ := hrel
      have HO : Hid (wr.ownsRow w.heap.size 9 1 u7 (len + k) (cellsOf z len ++ cellsOf mark k)) := hown
      have HB : Hid (Below w.heap.size w wr) := hbel
      have HN : Hid (u7 ≠ .slice none 0 0) := hnn
      clear hown hbel hnn
      by_cases hlt : k < 40
      · by_cases hp : k % 2 = 0
        · have HM : Hid (mark k = ⟨#[60, 111, 110, 101, 62]⟩) := by show mark k = ⟨#[60, 111, 110, 101, 62]⟩; simp [mark, hp]
          have HL : Hid (∀ w, Calls Tryz.prog 56 #[.int .i64 k] w fun e w' => e = .returned (.string ⟨#[60, 111, 110, 101, 62]⟩) ∧ w' = w) := fun w => by have h := lot_any k (by omega) w; rw [if_pos hp] at h; exact h
          clear hp
          go_wp2_with (first | (go_at_call 56; refine (HL.out _).mono ?_; rintro e w' ⟨rfl, rfl⟩) | (at_builtin; refine wpList_append_own _ rfl (.tmp 18) (.tmp 21) 22 rfl w.heap.size 9 i0 (.string ⟨#[]⟩) 1 16 Tryz.underlying22 hi hz0 hz1 hz2 rfl (by decide) _ _ _ rfl (HO.out.alloc _) ⟨_, 0, none⟩ 1 1 [.string ⟨#[60, 111, 110, 101, 62]⟩] rfl rfl ?d1 ?d2 ?d3 ?d4 ?d5 ?_))
          case d1 => exact cell_one_new _ _ _
          case d2 => intro u hu; simp at hu; subst hu; rfl
          case d3 => unfold maxLen; omega
          case d4 => omega
          case d5 => have := HB.out.size; simp; omega
          intro v2 w2 hown2 hgrow2 hnil2
          have hb2 := (HB.out.alloc HB.out.size _).grown hgrow2 (by have := HB.out.size; simp; omega) (by intro q hq; exact (HO.out.lt _ hq).1)
          have HS2 : Hid (w2.ownsRow w.heap.size 9 1 v2 (len + (k + 1)) (cellsOf z len ++ cellsOf mark (k + 1)) ∧ Below w.heap.size w w2 ∧ v2 ≠ .slice none 0 0) := ⟨by rw [cellsOf_succ, HM.out]; first | exact hown2 | (rw [Nat.zero_add]; exact hown2), hb2, hnil2⟩
          clear hown2 hgrow2 hnil2 hb2
          go_wp2
          go_roundw
          case rel => exact ⟨k + 1, by omega, by go_num, HS2.out⟩
          case measure => simp [intOf]; omega
        · have HM : Hid (mark k = ⟨#[60, 116, 119, 111, 62]⟩) := by show mark k = ⟨#[60, 116, 119, 111, 62]⟩; simp [mark, hp]
          have HL : Hid (∀ w, Calls Tryz.prog 56 #[.int .i64 k] w fun e w' => e = .returned (.string ⟨#[60, 116, 119, 111, 62]⟩) ∧ w' = w) := fun w => by have h := lot_any k (by omega) w; rw [if_neg hp] at h; exact h
          clear hp
          go_wp2_with (first | (go_at_call 56; refine (HL.out _).mono ?_; rintro e w' ⟨rfl, rfl⟩) | (at_builtin; refine wpList_append_own _ rfl (.tmp 18) (.tmp 21) 22 rfl w.heap.size 9 i0 (.string ⟨#[]⟩) 1 16 Tryz.underlying22 hi hz0 hz1 hz2 rfl (by decide) _ _ _ rfl (HO.out.alloc _) ⟨_, 0, none⟩ 1 1 [.string ⟨#[60, 116, 119, 111, 62]⟩] rfl rfl ?d1 ?d2 ?d3 ?d4 ?d5 ?_))
          case d1 => exact cell_one_new _ _ _
          case d2 => intro u hu; simp at hu; subst hu; rfl
          case d3 => unfold maxLen; omega
          case d4 => omega
          case d5 => have := HB.out.size; simp; omega
          intro v2 w2 hown2 hgrow2 hnil2
          have hb2 := (HB.out.alloc HB.out.size _).grown hgrow2 (by have := HB.out.size; simp; omega) (by intro q hq; exact (HO.out.lt _ hq).1)
          have HS2 : Hid (w2.ownsRow w.heap.size 9 1 v2 (len + (k + 1)) (cellsOf z len ++ cellsOf mark (k + 1)) ∧ Below w.heap.size w w2 ∧ v2 ≠ .slice none 0 0) := ⟨by rw [cellsOf_succ, HM.out]; first | exact hown2 | (rw [Nat.zero_add]; exact hown2), hb2, hnil2⟩
          clear hown2 hgrow2 hnil2 hb2
          go_wp2
          go_roundw
          case rel => exact ⟨k + 1, by omega, by go_num, HS2.out⟩
          case measure => simp [intOf]; omega
      · obtain rfl : k = 40 := by omega
        obtain ⟨hlen, h | ⟨g, cp, cur, rfl, hg, hh, h1, h2, h3, h4⟩⟩ := HO.out
        · exact absurd h.1 HN.out
        obtain ⟨hR, hb, ha, hbase, hob, hoa⟩ := HR.out
        have hRlt : R < w.heap.size := lt_of_block hR
        have gr : w.grownBy wr none := ⟨HB.out.os, HB.out.tape, HB.out.output, HB.out.size, fun k hk _ => HB.out.block k hk⟩
        have OB : Hid (wr.ownsRow base 22 1 vb m xsb) := hob.kept gr (by cases vb.ownBlock <;> simp)
        have OA : Hid (wr.ownsRow base 3 1 va m xsa) := hoa.kept gr (by cases va.ownBlock <;> simp)
        have hR' : wr.heap[R]? = some (.cells cs 44 (0, 0)) := (HB.out.block R hRlt).trans hR
        have cR0 : wr.cell? ⟨R, 4, none⟩ = some vb := by simp [World.cell?, hR', hb]
        have HG : Hid (w.heap.size ≤ g ∧ wr.heap[g]? = some (.cells cur 9 (0, 0)) ∧ len + 40 ≤ cp ∧ cur.size = cp * 1 ∧ cur.toList.take ((len + 40) * 1) = cellsOf z len ++ cellsOf mark 40 ∧ R < w.heap.size ∧ wr.heap[R]? = some (.cells cs 44 (0, 0))) := ⟨hg, hh, h1, h3, h4, hRlt, hR'⟩
        clear hR hb ha hbase hob hoa hg hh h2 h3 h4 gr hlen hR'
        have hbs : base ≤ wr.heap.size := by have := HB.out.size; have := HR.out.2.2.2.1; have := HG.out.2.2.2.2.2.1; omega
        go_wp2_with (at_builtin; refine wpList_append_own _ rfl (.tmp 27) (.tmp 29) 31 rfl base 22 j0 (.slice none 0 0) 1 24 Tryz.underlying31 hj hj0 hj1 hj2 rfl (by decide) _ _ _ rfl (OB.out.alloc _) ⟨_, 0, none⟩ 1 1 [.slice (some ⟨g, 0, none⟩) (len + 40) cp] rfl rfl ?f1 ?f2 ?f3 ?f4 ?f5 ?_)
        case f1 => exact cell_one_new _ _ _
        case f2 => intro u hu; simp at hu; subst hu; rfl
        case f3 => unfold maxLen; omega
        case f4 => omega
        case f5 => simp; omega
        intro v3 w3 hown3 hgrow3 hnil3
        obtain ⟨gv, cv, rfl⟩ := own_shape hown3 hnil3
        clear hnil3
        have L := lay_end HB.out HG.out.2.2.2.2.2.1 HR.out.2.2.2.1 HG.out.2.2.2.2.2.2 OB.out OA.out HG.out.1 HG.out.2.1 hown3 hgrow3
        have f3 : w3.frozen? ⟨R, 4, none⟩ = false := by simp [World.frozen?, L.1]
        have g3 : w3.cell? ⟨R, 4, none⟩ = some vb := by simp [World.cell?, L.1, HR.out.2.1]
        have k3 : w3.cell? ⟨R, 5, none⟩ = some va := by simp [World.cell?, L.1, HR.out.2.2.1]
        have HL3 := L
        have HX : Hid (w3.ownsRow base 22 1 (.slice (some ⟨gv, 0, none⟩) (m + 1) cv) (m + 1) (xsb ++ [.slice (some ⟨g, 0, none⟩) (len + 40) cp])) := hown3
        clear hown3 hgrow3 L
        obtain ⟨l1, l2, l3, l4, l5, l6⟩ := HL3
        have HLL : Hid (w3.heap[R]? = some (.cells cs 44 (0, 0)) ∧ w3.ownsRow base 3 1 va m xsa ∧ w3.heap[g]? = some (.cells cur 9 (0, 0)) ∧ BelF base w w3 ∧ (w3.setCell ⟨R, 4, none⟩ (.slice (some ⟨gv, 0, none⟩) (m + 1) cv)).ownsRow base 3 1 va m xsa) := ⟨l1, l2, l3, l4, l5⟩
        clear l1 l2 l3 l4 l5
        go_wp2_with (at_builtin; refine wpList_append_own _ rfl (.tmp 37) (.tmp 40) 29 rfl base 3 l0 (.int .i64 0) 1 8 Tryz.underlying29 hl hl0 hl1 hl2 rfl (by decide) _ _ _ rfl (HLL.out.2.2.2.2.alloc _) ⟨_, 0, none⟩ 1 1 [.int .i64 len] rfl rfl ?q1 ?q2 ?q3 ?q4 ?q5 ?_)
        case q1 => exact one_new_set _ _ _ _ _
        case q2 => intro u hu; simp at hu; subst hu; rfl
        case q3 => unfold maxLen; omega
        case q4 => omega
        case q5 => simp; omega
        intro v5 w5 hown5 hgrow5 hnil5
        obtain ⟨ga, ca, rfl⟩ := own_shape hown5 hnil5
        clear hnil5
        have M := lay_end2 HLL.out.1 HLL.out.2.1 HLL.out.2.2.1 HLL.out.2.2.2.1 HR.out.2.2.2.1 HX.out hown5 hgrow5
        have f5 : w5.frozen? ⟨R, 5, none⟩ = false := by simp [World.frozen?, M.1]
        have g5 : w5.cell? ⟨R, 5, none⟩ = some va := by have h := HR.out.2.2.1; simp [World.cell?, M.1, h]
        obtain ⟨_, m2, m3, m4, m5, m6⟩ := M
        have HM : Hid (w.heap.size ≤ g ∧ (w5.setCell ⟨R, 5, none⟩ (.slice (some ⟨ga, 0, none⟩) (m + 1) ca)).heap[g]? = some (.cells cur 9 (0, 0)) ∧ cur.size = cp ∧ len + 40 ≤ cp ∧ cur.toList.take (len + 40) = cellsOf z len ++ cellsOf mark 40 ∧
          (w5.setCell ⟨R, 5, none⟩ (.slice (some ⟨ga, 0, none⟩) (m + 1) ca)).heap[R]? = some (.cells ((cs.setIfInBounds 4 (.slice (some ⟨gv, 0, none⟩) (m + 1) cv)).setIfInBounds 5 (.slice (some ⟨ga, 0, none⟩) (m + 1) ca)) 44 (0, 0)) ∧
          (w5.setCell ⟨R, 5, none⟩ (.slice (some ⟨ga, 0, none⟩) (m + 1) ca)).ownsRow base 22 1 (.slice (some ⟨gv, 0, none⟩) (m + 1) cv) (m + 1) (xsb ++ [.slice (some ⟨g, 0, none⟩) (len + 40) cp]) ∧ (w5.setCell ⟨R, 5, none⟩ (.slice (some ⟨ga, 0, none⟩) (m + 1) ca)).ownsRow base 3 1 (.slice (some ⟨ga, 0, none⟩) (m + 1) ca) (m + 1) (xsa ++ [.int .i64 len]) ∧
          BelF base w (w5.setCell ⟨R, 5, none⟩ (.slice (some ⟨ga, 0, none⟩) (m + 1) ca))) := ⟨HG.out.1, m5, (Nat.mul_one cp) ▸ HG.out.2.2.2.1, h1, (Nat.mul_one (len + 40)) ▸ HG.out.2.2.2.2.1, m2, m3, m4, m6⟩
        clear hown5 hgrow5 m2 m3 m4 m5 m6
        go_wp2
        go_ret
        exact ⟨g, cp, cur, _, _, rfl, HM.out⟩

end Go.Proofs.YtglnldopnoafoaaGreatDoor.Rm
