import Derived.Test.YtbjhblnagmpnfaaDoorQb
import Derived.Laws.BytesArg
import Derived.Laws.BytesString
namespace Go.Proofs.YtbjhblnagmpnfaaDoor
open Go Go.RowKit Go.Shelf Go.Maps Go.Sort
set_option linter.unusedSimpArgs false
set_option linter.unusedVariables false
/-! ### Two messages held against each other -/
def strL (xs : List Int) : ByteArray := strOfNums xs
theorem conv_i {w : World} {v : Value} {xs : List Int} (h : PBi w v xs) : (convert 28 9 v).run Tryd.prog w = .ok (.string (strL xs)) w := by
  rcases h with ⟨rfl, rfl⟩ | ⟨ad, n, c, rfl, rfl, -, hc⟩
  · rw [run_convert_bytes_nil w 28 5 Tryd.underlying28 Tryd.underlying5 0 0 9 Tryd.underlying9]
    rfl
  · rw [run_convert_bytes_string w 28 9 5 _ xs.length c Tryd.underlying28 Tryd.underlying5 Tryd.underlying9]
    have hl : (loadCells ad xs.length).run Tryd.prog w = .ok (xs.map (Value.int .u8)).toArray w := by
      have := run_loadCells_list (P := Tryd.prog) w ad (xs.map (Value.int .u8)) (fun j v hj => by
        rw [List.getElem?_map] at hj
        obtain ⟨x, hx, rfl⟩ := Option.map_eq_some_iff.1 hj
        have hlt := (List.getElem?_eq_some_iff.1 hx).1
        rw [hc j hlt, List.getD_eq_getElem?_getD, hx]
        rfl)
      simpa using this
    rw [run_bytesToString w ad xs.length c _ hl, foldl_push_bytes]
    simp [strL, strOfNums, ByteArray.empty, ByteArray.emptyWithCapacity]
    try rfl
set_option maxRecDepth 100000 in
set_option maxHeartbeats 1000000 in
theorem sameMsg_any {w : World} {t : ByteArray} {v v' : Value} {q : Int} {r : Bool} {xs : List Int} (h : PBi w v xs) (h' : PBi w v' xs) :
    Calls Tryd.prog 21 #[.agg #[.string t, v, .int .i64 q, .bool r], .agg #[.string t, v', .int .i64 q, .bool r]] w fun e w' => e = .returned (.bool true) ∧ Below w.heap.size w w' := by
  obtain ⟨a1, n1, c1, rfl⟩ := h.sl
  obtain ⟨a2, n2, c2, rfl⟩ := h'.sl
  obtain ⟨w2, hw2⟩ : ∃ w2, w2 = (w.alloc (.cells #[.string t, .slice a1 n1 c1, .int .i64 q, .bool r] 30)).alloc (.cells #[.string t, .slice a2 n2 c2, .int .i64 q, .bool r] 30) := ⟨_, rfl⟩
  obtain ⟨q1, q2, q3⟩ := two_alloc w (.cells #[.string t, .slice a1 n1 c1, .int .i64 q, .bool r] 30) (.cells #[.string t, .slice a2 n2 c2, .int .i64 q, .bool r] 30)
  have b2 := two_below w (.cells #[.string t, .slice a1 n1 c1, .int .i64 q, .bool r] 30) (.cells #[.string t, .slice a2 n2 c2, .int .i64 q, .bool r] 30)
  rw [← hw2] at q1 q2 b2
  have cv1 := conv_i (h.below b2)
  have cv2 := conv_i (h'.below b2)
  obtain ⟨s, hs⟩ : ∃ s, s = strL xs := ⟨_, rfl⟩
  rw [← hs] at cv1 cv2
  have e0 := box_cells q1 0 _ rfl
  have e1 := box_cells q1 1 _ rfl
  have e2 := box_cells q1 2 _ rfl
  have e3 := box_cells q1 3 _ rfl
  have f0 := box_cells q2 0 _ rfl
  have f1 := box_cells q2 1 _ rfl
  have f2 := box_cells q2 2 _ rfl
  have f3 := box_cells q2 3 _ rfl
  have HB := hidi b2
  clear h h' q1 q2 q3 b2 hs
  go_enter Tryd.func21, Tryd.ntmps21
  go_upto_region 1 with fail
  rw [← hw2]
  clear hw2
  go_wp2_with fail
  go_ret
  exact ⟨by simp, HB.out⟩
end Go.Proofs.YtbjhblnagmpnfaaDoor
