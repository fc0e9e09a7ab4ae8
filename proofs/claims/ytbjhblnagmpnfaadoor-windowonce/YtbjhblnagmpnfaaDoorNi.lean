import Derived.Test.YtbjhblnagmpnfaaDoorNh
namespace Go.Proofs.YtbjhblnagmpnfaaDoor
open Go Go.RowKit
set_option linter.unusedSimpArgs false
set_option linter.unusedVariables false
set_option maxRecDepth 100000 in
set_option maxHeartbeats 1000000 in
theorem kept_any {w : World} {v : Value} {xs : List Int} (t : ByteArray) (q : Int) (r : Bool) (h : PBi w v xs) (ht : t.size ≤ 1000000) : Calls Tryd.prog 38 #[mg t v q r] w fun e w' => ∃ v', e = .returned (mg t v' q r) ∧ PB w' v' xs ∧ Below w.heap.size w w' := by
  obtain ⟨a, n, c, rfl⟩ := h.sl
  have H : Hid (PBi w (.slice a n c) xs) := h
  clear h
  have HA : Hid (∀ (w : World), PBi w (.slice a n c) xs → Calls Tryd.prog 55 #[.agg #[.string t, .slice a n c, .int .i64 q, .bool r]] w fun e w' => ∃ v', e = .returned (mg t v' q r) ∧ PB w' v' xs ∧ Below w.heap.size w w') := fun w h => apart_i t q r h
  unfold mg
  go_enter Tryd.func38, Tryd.ntmps38
  go_wp2_with fail
  go_must (go_at_call 56)
  obtain ⟨h1, h2, h3⟩ := two_alloc w (.cells #[.string t, .slice a n c, .int .i64 q, .bool r] 30) (.cells #[.string ⟨#[]⟩, .slice none 0 0, .int .i64 0, .bool false] 30)
  have B0 := two_below w (.cells #[.string t, .slice a n c, .int .i64 q, .bool r] 30) (.cells #[.string ⟨#[]⟩, .slice none 0 0, .int .i64 0, .bool false] 30)
  refine (sclone_any t _ ht).mono ?_
  rintro e w1 ⟨rfl, hb⟩
  replace h1 := later_at h1 hb
  replace h2 := later_at h2 hb
  have c0 := box_cells h1 0 _ rfl
  have c1' := box_cells h1 1 _ rfl
  have c2 := box_cells h1 2 _ rfl
  have c3 := box_cells h1 3 _ rfl
  have f0 := box_frozen h1
  have HB : Hid (Below w.heap.size w w1) := B0.trans (hb.mono (by omega))
  have HS : Hid (w1.heap.size = w1.heap.size ∧ w.heap.size + 2 ≤ w1.heap.size) := ⟨rfl, by have := hb.size; omega⟩
  have H2 : Hid (w1.heap[w.heap.size + 1]? = some (.cells #[.string ⟨#[]⟩, .slice none 0 0, .int .i64 0, .bool false] 30 (0, 0))) := h2
  have H1 : Hid (w1.heap[w.heap.size]? = some (.cells #[.string t, .slice a n c, .int .i64 q, .bool r] 30 (0, 0))) := h1
  clear h1 h2 h3 hb B0
  go_wp2_with fail
  go_must (go_at_call 55)
  have B1 : Below w.heap.size w (w1.setCell ⟨w.heap.size, 0, none⟩ (.string t)) := HB.out.setCell (Nat.le_refl _) _
  have P1 : PBi (w1.setCell ⟨w.heap.size, 0, none⟩ (.string t)) (.slice a n c) xs := H.out.below B1
  refine (HA.out _ P1).mono ?_
  rintro e w2 ⟨v2, rfl, hp, hb⟩
  obtain ⟨a1, n1, c1, rfl⟩ := hp.sl
  unfold mg
  have h2 : w2.heap[w.heap.size + 1]? = some (.cells #[.string ⟨#[]⟩, .slice none 0 0, .int .i64 0, .bool false] 30 (0, 0)) := later_at (by rw [heap_set_ne _ (by omega)]; exact H2.out) hb
  have d0 := box_cells h2 0 _ rfl
  have d1 := box_cells h2 1 _ rfl
  have d2 := box_cells h2 2 _ rfl
  have d3 := box_cells h2 3 _ rfl
  have f1 := box_frozen h2
  have HB2 : Hid (Below w.heap.size w w2) := B1.trans (hb.mono (by have := B1.size; omega))
  have HP : Hid (PB w2 (.slice a1 n1 c1) xs) := hp
  have H3 : Hid (w2.heap[w.heap.size + 1]? = some (.cells #[.string ⟨#[]⟩, .slice none 0 0, .int .i64 0, .bool false] 30 (0, 0))) := h2
  clear h2 hp hb B1 P1 c0 c1' c2 c3 f0
  go_wp2_with fail
  refine bodyPost_ret (results_cell_row rfl _ _ _ _ _ _ _ rfl (mset4 H3.out _ _ _ _) Tryd.underlying30 rfl (by kernel_rfl)) rfl ⟨_, rfl, ?_, ?_⟩
  · refine HP.out.keep (fun b cs fz hq => ?_)
    have hb2 : b ≠ w.heap.size + 1 := fun e => by subst e; rw [H3.out] at hq; simp at hq
    rw [heap_set_ne _ hb2, heap_set_ne _ hb2, heap_set_ne _ hb2, heap_set_ne _ hb2]
    exact hq
  · exact (((HB2.out.setCell (Nat.le_succ _) _).setCell (Nat.le_succ _) _).setCell (Nat.le_succ _) _).setCell (Nat.le_succ _) _
set_option maxRecDepth 100000 in
set_option maxHeartbeats 1000000 in
theorem sendable_any (t : ByteArray) (a : Option Addr) (n c : Nat) (q : Int) (r : Bool) (w : World) : Calls Tryd.prog 36 #[.agg #[.string t, .slice a n c, .int .i64 q, .bool r]] w fun e w' => e = .returned (.bool (decide (q = 1 ∨ q = 2))) ∧ Below w.heap.size w w' := by
  have B0 : Below w.heap.size w (w.alloc (.cells #[.string t, .slice a n c, .int .i64 q, .bool r] 30)) := (Below.refl _ _).alloc (Nat.le_refl _) _
  by_cases h1 : q = 1
  · subst h1
    go_enter Tryd.func36, Tryd.ntmps36
    go_wp2_with fail
    go_ret
    exact ⟨by simp, B0⟩
  · have e1 : (q == 1) = false := by simpa using h1
    by_cases h2 : q = 2
    · subst h2
      go_enter Tryd.func36, Tryd.ntmps36
      go_wp2_with fail
      go_ret
      exact ⟨by simp, B0⟩
    · have e2 : (q == 2) = false := by simpa using h2
      have e3 : decide (q = 1 ∨ q = 2) = false := by simp [h1, h2]
      rw [e3]
      clear h1 h2 e3
      go_enter Tryd.func36, Tryd.ntmps36
      go_wp2_with fail
      go_ret
      exact ⟨by simp [e1, e2], B0⟩
def flv (id : Int) (t : ByteArray) (v : Value) (q : Int) (r rel : Bool) : Value := .agg #[.int .i64 id, .string t, v, .int .i64 q, .bool r, .bool rel]
/-- What is to come back. -/
def awt (q : Int) (rel : Bool) : Int := if rel then 7 else if q = 2 then 5 else 4
set_option maxRecDepth 100000 in
set_option maxHeartbeats 1000000 in
theorem awaited_any (id : Int) (t : ByteArray) (a : Option Addr) (n c : Nat) (q : Int) (r rel : Bool) (w : World) : Calls Tryd.prog 61 #[.agg #[.int .i64 id, .string t, .slice a n c, .int .i64 q, .bool r, .bool rel]] w fun e w' => e = .returned (.int .i64 (awt q rel)) ∧ Below w.heap.size w w' := by
  have B0 : Below w.heap.size w (w.alloc (.cells #[.int .i64 id, .string t, .slice a n c, .int .i64 q, .bool r, .bool rel] 45)) := (Below.refl _ _).alloc (Nat.le_refl _) _
  unfold awt
  cases rel
  · by_cases h2 : q = 2
    · subst h2
      go_enter Tryd.func61, Tryd.ntmps61
      go_wp2_with fail
      go_ret
      exact ⟨by simp, B0⟩
    · have e2 : (q == 2) = false := by simpa using h2
      simp only [h2, if_false]
      clear h2
      go_enter Tryd.func61, Tryd.ntmps61
      go_wp2_with fail
      go_ret
      exact ⟨by simp, B0⟩
  · go_enter Tryd.func61, Tryd.ntmps61
    go_wp2_with fail
    go_ret
    exact ⟨by simp, B0⟩
end Go.Proofs.YtbjhblnagmpnfaaDoor
