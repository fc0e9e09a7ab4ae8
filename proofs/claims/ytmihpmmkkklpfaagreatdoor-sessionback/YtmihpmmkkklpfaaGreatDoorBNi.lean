import Derived.Test.YtmihpmmkkklpfaaGreatDoorNg
import Derived.Test.YtmihpmmkkklpfaaGreatDoorShelf
import Derived.Laws.Rows
import Derived.Laws.ResultCell
namespace Go.Proofs.YtmihpmmkkklpfaaGreatDoor
open Go Go.RowKit
set_option linter.unusedSimpArgs false
set_option linter.unusedVariables false
/-! ### Messages -/
def mg (t : ByteArray) (v : Value) (q : Int) (r : Bool) : Value := .agg #[.string t, v, .int .i64 q, .bool r]
/-- A payload in memory: bytes that nobody writes. -/
def PB (w : World) (v : Value) (xs : List Int) : Prop :=
  (v = .slice none 0 0 ∧ xs = []) ∨ ∃ a n c, v = .slice (some a) n c ∧ xs.length = n ∧ n ≤ 300000 ∧ (∀ i, i < n → w.cell? (a.add i) = some (.int .u8 (xs.getD i 0))) ∧ (0 < n → ∃ cs fz, w.heap[a.block]? = some (.cells cs 5 fz))
/-- Bytes stay. -/
def Kb (w w' : World) : Prop := ∀ (b : Nat) (cs : Array Value) (fz : Nat × Nat), w.heap[b]? = some (Obj.cells cs 5 fz) → w'.heap[b]? = some (Obj.cells cs 5 fz)
theorem Kb.refl (w : World) : Kb w w := fun _ _ _ h => h
theorem Kb.trans {a b c : World} (h : Kb a b) (k : Kb b c) : Kb a c := fun x cs fz q => k x cs fz (h x cs fz q)
theorem add_block (a : Addr) (i : Nat) : (a.add i).block = a.block := by unfold Addr.add; split <;> rfl
theorem cell_heap {w w' : World} {a : Addr} (h : w'.heap[a.block]? = w.heap[a.block]?) : w'.cell? a = w.cell? a := by
  unfold World.cell?
  rw [h]
theorem PB.keep {w w' : World} {v : Value} {xs : List Int} (h : PB w v xs) (k : Kb w w') : PB w' v xs := by
  rcases h with h | ⟨a, n, c, h1, h2, h3, h4, h5⟩
  · exact .inl h
  · refine .inr ⟨a, n, c, h1, h2, h3, fun i hi => ?_, fun hn => ?_⟩
    · obtain ⟨cs, fz, hb⟩ := h5 (by omega)
      rw [← h4 i hi]
      exact cell_heap (by rw [add_block, k _ _ _ hb, hb])
    · obtain ⟨cs, fz, hb⟩ := h5 hn
      exact ⟨cs, fz, k _ _ _ hb⟩
theorem Kb.below {w w' : World} (h : Below w.heap.size w w') : Kb w w' := fun b cs fz q => (h.block b (Array.getElem?_eq_some_iff.1 q).1).trans q
theorem Kb.ch {S : Nat → Prop} {w w' : World} (h : Ch S w w') (hs : ∀ j, S j → ∀ (cs : Array Value) (fz : Nat × Nat), w.heap[j]? ≠ some (Obj.cells cs 5 fz)) : Kb w w' := fun b cs fz q => (h.block b (Array.getElem?_eq_some_iff.1 q).1 (fun e => hs b e cs fz q)).trans q
theorem PB.sl {w : World} {v : Value} {xs : List Int} (h : PB w v xs) : ∃ a n c, v = .slice a n c := by
  rcases h with ⟨h, -⟩ | ⟨a, n, c, h, -⟩
  · exact ⟨_, _, _, h⟩
  · exact ⟨_, _, _, h⟩
theorem two_alloc (w : World) (o1 o2 : Obj) : ((w.alloc o1).alloc o2).heap[w.heap.size]? = some o1 ∧ ((w.alloc o1).alloc o2).heap[w.heap.size + 1]? = some o2 ∧ ((w.alloc o1).alloc o2).heap.size = w.heap.size + 2 := by
  refine ⟨?_, ?_, by simp⟩
  · show ((w.heap.push o1).push o2)[w.heap.size]? = _
    simp [Array.getElem?_push]
  · show ((w.heap.push o1).push o2)[w.heap.size + 1]? = _
    have := Array.getElem?_push_size (xs := w.heap.push o1) (x := o2)
    simpa using this
theorem two_below (w : World) (o1 o2 : Obj) : Below w.heap.size w ((w.alloc o1).alloc o2) := ((Below.refl _ _).alloc (Nat.le_refl _) _).alloc (by simp) _
theorem later_at {w w1 : World} {o : Obj} {b : Nat} (h : w.heap[b]? = some o) (hb : Below w.heap.size w w1) : w1.heap[b]? = some o := (hb.block b (Array.getElem?_eq_some_iff.1 h).1).trans h
theorem mset4 {w : World} {b t : Nat} {x0 x1 x2 x3 : Value} (hb : w.heap[b]? = some (.cells #[x0, x1, x2, x3] t (0, 0))) (y0 y1 y2 y3 : Value) : ((((w.setCell ⟨b, 0, none⟩ y0).setCell ⟨b, 1, none⟩ y1).setCell ⟨b, 2, none⟩ y2).setCell ⟨b, 3, none⟩ y3).heap[b]? = some (.cells #[y0, y1, y2, y3] t (0, 0)) := by
  rw [heap_set (heap_set (heap_set (heap_set hb _) _) _) _]
  simp
theorem PB.own {w : World} {B n : Nat} {v : Value} {xs : List Int} (h : w.ownsRow B 5 1 v n (xs.map (Value.int .u8))) (hl : xs.length = n) (hn : n ≤ 300000) : PB w v xs := by
  rcases h with ⟨h1, ⟨h2, h3⟩ | ⟨g, cap, cur, hv, hb, hg, hc1, hc2, hc3, hc4⟩⟩
  · refine .inl ⟨h2, ?_⟩
    have : xs.length = 0 := by omega
    exact List.length_eq_zero_iff.1 this
  · refine .inr ⟨_, n, cap, hv, hl, hn, fun i hi => ?_, fun _ => ⟨cur, _, hg⟩⟩
    have e3 : cur[i]? = some (Value.int .u8 (xs.getD i 0)) := by
      have := congrArg (fun l => l[i]?) hc4
      simp only [Nat.mul_one, List.getElem?_take, if_pos hi, List.getElem?_map] at this
      rw [List.getElem?_eq_getElem (by omega : i < xs.length)] at this
      simp only [Option.map_some] at this
      rw [List.getD_eq_getElem?_getD, List.getElem?_eq_getElem (by omega : i < xs.length)]
      simpa using this
    have ha : (⟨g, 0, none⟩ : Addr).add i = ⟨g, i, none⟩ := by unfold Addr.add; split <;> simp_all
    rw [ha]
    simp [World.cell?, hg, e3]
/-- A payload as it is read. -/
def PBi (w : World) (v : Value) (xs : List Int) : Prop :=
  (v = .slice none 0 0 ∧ xs = []) ∨ ∃ a n c, v = .slice (some a) n c ∧ xs.length = n ∧ n ≤ 300000 ∧ ∀ i, i < n → w.cell? (a.add i) = some (.int .u8 (xs.getD i 0))
theorem PB.i {w : World} {v : Value} {xs : List Int} (h : PB w v xs) : PBi w v xs := by
  rcases h with h | ⟨a, n, c, h1, h2, h3, h4, h5⟩
  · exact .inl h
  · exact .inr ⟨a, n, c, h1, h2, h3, h4⟩
theorem PBi.keep {w w' : World} {v : Value} {xs : List Int} (h : PBi w v xs) (hk : ∀ b, b < w.heap.size → w'.heap[b]? = w.heap[b]?) : PBi w' v xs := by
  rcases h with h | ⟨a, n, c, h1, h2, h3, h4⟩
  · exact .inl h
  · exact .inr ⟨a, n, c, h1, h2, h3, fun i hi => (cell_heap (hk _ (World.block_lt_of_cell? _ _ (h4 i hi)))).trans (h4 i hi)⟩
theorem PBi.below {w w' : World} {v : Value} {xs : List Int} (h : PBi w v xs) (hb : Below w.heap.size w w') : PBi w' v xs := h.keep (fun b hl => hb.block b hl)
theorem PBi.sl {w : World} {v : Value} {xs : List Int} (h : PBi w v xs) : ∃ a n c, v = .slice a n c := by
  rcases h with ⟨h, -⟩ | ⟨a, n, c, h, -⟩
  · exact ⟨_, _, _, h⟩
  · exact ⟨_, _, _, h⟩
theorem bclone_any {w : World} {v : Value} {xs : List Int} (h : PBi w v xs) : Calls Tryz.prog 100 #[v] w fun e w' => ∃ v', e = .returned v' ∧ PB w' v' xs ∧ Below w.heap.size w w' := by
  rcases h with ⟨rfl, rfl⟩ | ⟨a, n, c, rfl, h2, h3, h4⟩
  · refine (Tryz.bytes_Clone_nil 0 0 w).mono ?_
    rintro e w' ⟨rfl, rfl⟩
    exact ⟨_, rfl, .inl ⟨rfl, rfl⟩, Below.refl _ _⟩
  · refine (Tryz.bytes_Clone_at a n c xs w h2 (by omega) h4).mono ?_
    rintro e w' ⟨v', rfl, ho, -, hb⟩
    exact ⟨v', rfl, PB.own ho h2 h3, hb⟩
set_option maxHeartbeats 1000000 in
theorem sclone_any (s : ByteArray) (w : World) (hs : s.size ≤ 1000000) : Calls Tryz.prog 34 #[.string s] w fun e w' => e = .returned (.string s) ∧ Below w.heap.size w w' := by
  have H := Tryz.stringslite_Clone s w (by omega)
  go_enter Tryz.func34, Tryz.ntmps34
  go_wp2_with (go_at_call 59; refine H.mono ?_; rintro e w' ⟨rfl, hb⟩)
  go_ret
  exact ⟨rfl, hb⟩
set_option maxRecDepth 100000 in
set_option maxHeartbeats 1000000 in
theorem apart_i {w : World} {v : Value} {xs : List Int} (t : ByteArray) (q : Int) (r : Bool) (h : PBi w v xs) : Calls Tryz.prog 73 #[mg t v q r] w fun e w' => ∃ v', e = .returned (mg t v' q r) ∧ PB w' v' xs ∧ Below w.heap.size w w' := by
  obtain ⟨a, n, c, rfl⟩ := h.sl
  have H : Hid (PBi w (.slice a n c) xs) := h
  clear h
  unfold mg
  go_enter Tryz.func73, Tryz.ntmps73
  go_wp2_with fail
  go_must (go_at_call 100)
  obtain ⟨h1, h2, h3⟩ := two_alloc w (.cells #[.string t, .slice a n c, .int .i64 q, .bool r] 45) (.cells #[.string ⟨#[]⟩, .slice none 0 0, .int .i64 0, .bool false] 45)
  have B0 := two_below w (.cells #[.string t, .slice a n c, .int .i64 q, .bool r] 45) (.cells #[.string ⟨#[]⟩, .slice none 0 0, .int .i64 0, .bool false] 45)
  refine (bclone_any (H.out.below B0)).mono ?_
  rintro e w1 ⟨v1, rfl, hp, hb⟩
  obtain ⟨a1, n1, c1, rfl⟩ := hp.sl
  replace h1 := later_at h1 hb
  replace h2 := later_at h2 hb
  have c0 := box_cells h1 0 _ rfl
  have c1' := box_cells h1 1 _ rfl
  have c2 := box_cells h1 2 _ rfl
  have c3 := box_cells h1 3 _ rfl
  have d0 := box_cells h2 0 _ rfl
  have d1 := box_cells h2 1 _ rfl
  have d2 := box_cells h2 2 _ rfl
  have d3 := box_cells h2 3 _ rfl
  have f0 := box_frozen h1
  have f1 := box_frozen h2
  have HB : Hid (Below w.heap.size w w1) := B0.trans (hb.mono (by omega))
  have HP : Hid (PB w1 (.slice a1 n1 c1) xs) := hp
  have H2 : Hid (w1.heap[w.heap.size + 1]? = some (.cells #[.string ⟨#[]⟩, .slice none 0 0, .int .i64 0, .bool false] 45 (0, 0))) := h2
  have H1 : Hid (w1.heap[w.heap.size]? = some (.cells #[.string t, .slice a n c, .int .i64 q, .bool r] 45 (0, 0))) := h1
  clear h1 h2 h3 hb hp B0
  go_wp2_with fail
  refine bodyPost_ret (results_cell_row rfl _ _ _ _ _ _ _ rfl (mset4 (by rw [heap_set_ne _ (by omega)]; exact H2.out) _ _ _ _) Tryz.underlying45 rfl (by kernel_rfl)) rfl ⟨_, rfl, ?_, ?_⟩
  · refine HP.out.keep (fun b cs fz hq => ?_)
    have hb1 : b ≠ w.heap.size := fun e => by subst e; rw [H1.out] at hq; simp at hq
    have hb2 : b ≠ w.heap.size + 1 := fun e => by subst e; rw [H2.out] at hq; simp at hq
    rw [heap_set_ne _ hb2, heap_set_ne _ hb2, heap_set_ne _ hb2, heap_set_ne _ hb2, heap_set_ne _ hb1]
    exact hq
  · exact ((((HB.out.setCell (Nat.le_refl _) _).setCell (Nat.le_succ _) _).setCell (Nat.le_succ _) _).setCell (Nat.le_succ _) _).setCell (Nat.le_succ _) _
theorem apart_any {w : World} {v : Value} {xs : List Int} (t : ByteArray) (q : Int) (r : Bool) (h : PB w v xs) : Calls Tryz.prog 73 #[mg t v q r] w fun e w' => ∃ v', e = .returned (mg t v' q r) ∧ PB w' v' xs ∧ Below w.heap.size w w' := apart_i t q r h.i
end Go.Proofs.YtmihpmmkkklpfaaGreatDoor
namespace Go.Proofs.YtmihpmmkkklpfaaGreatDoor
open Go Go.RowKit
set_option linter.unusedSimpArgs false
set_option linter.unusedVariables false
set_option maxRecDepth 100000 in
set_option maxHeartbeats 1000000 in
theorem kept_any {w : World} {v : Value} {xs : List Int} (t : ByteArray) (q : Int) (r : Bool) (h : PBi w v xs) (ht : t.size ≤ 1000000) : Calls Tryz.prog 65 #[mg t v q r] w fun e w' => ∃ v', e = .returned (mg t v' q r) ∧ PB w' v' xs ∧ Below w.heap.size w w' := by
  obtain ⟨a, n, c, rfl⟩ := h.sl
  have H : Hid (PBi w (.slice a n c) xs) := h
  clear h
  have HA : Hid (∀ (w : World), PBi w (.slice a n c) xs → Calls Tryz.prog 73 #[.agg #[.string t, .slice a n c, .int .i64 q, .bool r]] w fun e w' => ∃ v', e = .returned (mg t v' q r) ∧ PB w' v' xs ∧ Below w.heap.size w w') := fun w h => apart_i t q r h
  unfold mg
  go_enter Tryz.func65, Tryz.ntmps65
  go_wp2_with fail
  go_must (go_at_call 34)
  obtain ⟨h1, h2, h3⟩ := two_alloc w (.cells #[.string t, .slice a n c, .int .i64 q, .bool r] 45) (.cells #[.string ⟨#[]⟩, .slice none 0 0, .int .i64 0, .bool false] 45)
  have B0 := two_below w (.cells #[.string t, .slice a n c, .int .i64 q, .bool r] 45) (.cells #[.string ⟨#[]⟩, .slice none 0 0, .int .i64 0, .bool false] 45)
  refine (sclone_any t _ ht).mono ?_
  rintro e w1 ⟨rfl, hb⟩
  replace h1 := later_at h1 hb
  replace h2 := later_at h2 hb
  have c0 := box_cells h1 0 _ rfl
  have c1' := box_cells h1 1 _ rfl
  have c2 := box_cells h1 2 _ rfl
  have c3 := box_cells h1 3 _ rfl
  have f0 := box_frozen h1
  have HB : Hid (Below w.heap.size w w1) := B0.trans (hb.mono (by omega))
  have HS : Hid (w1.heap.size = w1.heap.size ∧ w.heap.size + 2 ≤ w1.heap.size) := ⟨rfl, by have := hb.size; omega⟩
  have H2 : Hid (w1.heap[w.heap.size + 1]? = some (.cells #[.string ⟨#[]⟩, .slice none 0 0, .int .i64 0, .bool false] 45 (0, 0))) := h2
  have H1 : Hid (w1.heap[w.heap.size]? = some (.cells #[.string t, .slice a n c, .int .i64 q, .bool r] 45 (0, 0))) := h1
  clear h1 h2 h3 hb B0
  go_wp2_with fail
  go_must (go_at_call 73)
  have B1 : Below w.heap.size w (w1.setCell ⟨w.heap.size, 0, none⟩ (.string t)) := HB.out.setCell (Nat.le_refl _) _
  have P1 : PBi (w1.setCell ⟨w.heap.size, 0, none⟩ (.string t)) (.slice a n c) xs := H.out.below B1
  refine (HA.out _ P1).mono ?_
  rintro e w2 ⟨v2, rfl, hp, hb⟩
  obtain ⟨a1, n1, c1, rfl⟩ := hp.sl
  unfold mg
  have h2 : w2.heap[w.heap.size + 1]? = some (.cells #[.string ⟨#[]⟩, .slice none 0 0, .int .i64 0, .bool false] 45 (0, 0)) := later_at (by rw [heap_set_ne _ (by omega)]; exact H2.out) hb
  have d0 := box_cells h2 0 _ rfl
  have d1 := box_cells h2 1 _ rfl
  have d2 := box_cells h2 2 _ rfl
  have d3 := box_cells h2 3 _ rfl
  have f1 := box_frozen h2
  have HB2 : Hid (Below w.heap.size w w2) := B1.trans (hb.mono (by have := B1.size; omega))
  have HP : Hid (PB w2 (.slice a1 n1 c1) xs) := hp
  have H3 : Hid (w2.heap[w.heap.size + 1]? = some (.cells #[.string ⟨#[]⟩, .slice none 0 0, .int .i64 0, .bool false] 45 (0, 0))) := h2
  clear h2 hp hb B1 P1 c0 c1' c2 c3 f0
  go_wp2_with fail
  refine bodyPost_ret (results_cell_row rfl _ _ _ _ _ _ _ rfl (mset4 H3.out _ _ _ _) Tryz.underlying45 rfl (by kernel_rfl)) rfl ⟨_, rfl, ?_, ?_⟩
  · refine HP.out.keep (fun b cs fz hq => ?_)
    have hb2 : b ≠ w.heap.size + 1 := fun e => by subst e; rw [H3.out] at hq; simp at hq
    rw [heap_set_ne _ hb2, heap_set_ne _ hb2, heap_set_ne _ hb2, heap_set_ne _ hb2]
    exact hq
  · exact (((HB2.out.setCell (Nat.le_succ _) _).setCell (Nat.le_succ _) _).setCell (Nat.le_succ _) _).setCell (Nat.le_succ _) _
set_option maxRecDepth 100000 in
set_option maxHeartbeats 1000000 in
theorem sendable_any (t : ByteArray) (a : Option Addr) (n c : Nat) (q : Int) (r : Bool) (w : World) : Calls Tryz.prog 77 #[.agg #[.string t, .slice a n c, .int .i64 q, .bool r]] w fun e w' => e = .returned (.bool (decide (q = 1 ∨ q = 2))) ∧ Below w.heap.size w w' := by
  have B0 : Below w.heap.size w (w.alloc (.cells #[.string t, .slice a n c, .int .i64 q, .bool r] 45)) := (Below.refl _ _).alloc (Nat.le_refl _) _
  by_cases h1 : q = 1
  · subst h1
    go_enter Tryz.func77, Tryz.ntmps77
    go_wp2_with fail
    go_ret
    exact ⟨by simp, B0⟩
  · have e1 : (q == 1) = false := by simpa using h1
    by_cases h2 : q = 2
    · subst h2
      go_enter Tryz.func77, Tryz.ntmps77
      go_wp2_with fail
      go_ret
      exact ⟨by simp, B0⟩
    · have e2 : (q == 2) = false := by simpa using h2
      have e3 : decide (q = 1 ∨ q = 2) = false := by simp [h1, h2]
      rw [e3]
      clear h1 h2 e3
      go_enter Tryz.func77, Tryz.ntmps77
      go_wp2_with fail
      go_ret
      exact ⟨by simp [e1, e2], B0⟩
/-- What is to come back. -/
def awt (q : Int) (rel : Bool) : Int := if rel then 7 else if q = 2 then 5 else 4
set_option maxRecDepth 100000 in
set_option maxHeartbeats 1000000 in
theorem awaited_any (id : Int) (t : ByteArray) (a : Option Addr) (n c : Nat) (q : Int) (r rel : Bool) (w : World) : Calls Tryz.prog 95 #[.agg #[.int .i64 id, .string t, .slice a n c, .int .i64 q, .bool r, .bool rel]] w fun e w' => e = .returned (.int .i64 (awt q rel)) ∧ Below w.heap.size w w' := by
  have B0 : Below w.heap.size w (w.alloc (.cells #[.int .i64 id, .string t, .slice a n c, .int .i64 q, .bool r, .bool rel] 108)) := (Below.refl _ _).alloc (Nat.le_refl _) _
  unfold awt
  cases rel
  · by_cases h2 : q = 2
    · subst h2
      go_enter Tryz.func95, Tryz.ntmps95
      go_wp2_with fail
      go_ret
      exact ⟨by simp, B0⟩
    · have e2 : (q == 2) = false := by simpa using h2
      simp only [h2, if_false]
      clear h2
      go_enter Tryz.func95, Tryz.ntmps95
      go_wp2_with fail
      go_ret
      exact ⟨by simp, B0⟩
  · go_enter Tryz.func95, Tryz.ntmps95
    go_wp2_with fail
    go_ret
    exact ⟨by simp, B0⟩
end Go.Proofs.YtmihpmmkkklpfaaGreatDoor
