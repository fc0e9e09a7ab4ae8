import Derived.Test.YtdanjbbemmngnaaGreatDoorRd
namespace Go.Proofs.YtdanjbbemmngnaaGreatDoor
open Go Go.RowKit Go.Sort
set_option linter.unusedSimpArgs false
set_option linter.unusedVariables false

/-- A packet's box, read. -/
theorem boxed (p : Pk) (w : World) (k : Nat) (v : Value) (h : (pkCells p)[k]? = some v) : (w.alloc (.cells (pkCells p) 29)).cell? ⟨w.heap.size, k, none⟩ = some v := box_cell w _ _ k v h

set_option maxHeartbeats 1000000 in
theorem numbered_any (p : Pk) (w : World) : Calls Tryz.prog 100 #[p.v] w fun e w' => e = .returned (.bool (hasID p)) ∧ Below w.heap.size w w' := by
  obtain ⟨P, hP⟩ : ∃ P, P = pkCells p := ⟨_, rfl⟩
  have c0 : (w.alloc (.cells P 29)).cell? ⟨w.heap.size, 0, none⟩ = some (.int .i64 p.kind) := by rw [hP]; exact boxed p w 0 _ rfl
  have c19 : (w.alloc (.cells P 29)).cell? ⟨w.heap.size, 19, none⟩ = some (.int .i64 p.mQ) := by rw [hP]; exact boxed p w 19 _ rfl
  rw [show p.v = .agg P by rw [hP]; rfl]
  clear hP
  by_cases k3 : p.kind = 3
  · have e3 : (p.kind == 3) = true := by simp [k3]
    by_cases hq : p.mQ = 0
    · have hq' : (p.mQ != 0) = false := by simp [hq]
      rw [show hasID p = false by simp [hasID, k3, hq]]
      clear k3 hq
      go_enter Tryz.func100, Tryz.ntmps100
      go_wp2
      go_ret
      exact ⟨rfl, below1 _ _⟩
    · have hq' : (p.mQ != 0) = true := by simp [hq]
      rw [show hasID p = true by simp [hasID, k3, hq]]
      clear k3 hq
      go_enter Tryz.func100, Tryz.ntmps100
      go_wp2
      go_ret
      exact ⟨rfl, below1 _ _⟩
  have e3 : (p.kind == 3) = false := by simp [k3]
  by_cases k4 : p.kind = 4
  · have e4 : (p.kind == 4) = true := by simp [k4]
    rw [show hasID p = true by simp [hasID, k4]]
    clear k3 k4
    go_enter Tryz.func100, Tryz.ntmps100
    go_wp2
    go_ret
    exact ⟨rfl, below1 _ _⟩
  have e4 : (p.kind == 4) = false := by simp [k4]
  by_cases k5 : p.kind = 5
  · have e5 : (p.kind == 5) = true := by simp [k5]
    rw [show hasID p = true by simp [hasID, k5]]
    clear k3 k4 k5
    go_enter Tryz.func100, Tryz.ntmps100
    go_wp2
    go_ret
    exact ⟨rfl, below1 _ _⟩
  have e5 : (p.kind == 5) = false := by simp [k5]
  by_cases k6 : p.kind = 6
  · have e6 : (p.kind == 6) = true := by simp [k6]
    rw [show hasID p = true by simp [hasID, k6]]
    clear k3 k4 k5 k6
    go_enter Tryz.func100, Tryz.ntmps100
    go_wp2
    go_ret
    exact ⟨rfl, below1 _ _⟩
  have e6 : (p.kind == 6) = false := by simp [k6]
  by_cases k7 : p.kind = 7
  · have e7 : (p.kind == 7) = true := by simp [k7]
    rw [show hasID p = true by simp [hasID, k7]]
    clear k3 k4 k5 k6 k7
    go_enter Tryz.func100, Tryz.ntmps100
    go_wp2
    go_ret
    exact ⟨rfl, below1 _ _⟩
  have e7 : (p.kind == 7) = false := by simp [k7]
  by_cases k8 : p.kind = 8
  · have e8 : (p.kind == 8) = true := by simp [k8]
    rw [show hasID p = true by simp [hasID, k8]]
    clear k3 k4 k5 k6 k7 k8
    go_enter Tryz.func100, Tryz.ntmps100
    go_wp2
    go_ret
    exact ⟨rfl, below1 _ _⟩
  have e8 : (p.kind == 8) = false := by simp [k8]
  by_cases k9 : p.kind = 9
  · have e9 : (p.kind == 9) = true := by simp [k9]
    rw [show hasID p = true by simp [hasID, k9]]
    clear k3 k4 k5 k6 k7 k8 k9
    go_enter Tryz.func100, Tryz.ntmps100
    go_wp2
    go_ret
    exact ⟨rfl, below1 _ _⟩
  have e9 : (p.kind == 9) = false := by simp [k9]
  by_cases k10 : p.kind = 10
  · have e10 : (p.kind == 10) = true := by simp [k10]
    rw [show hasID p = true by simp [hasID, k10]]
    clear k3 k4 k5 k6 k7 k8 k9 k10
    go_enter Tryz.func100, Tryz.ntmps100
    go_wp2
    go_ret
    exact ⟨rfl, below1 _ _⟩
  have e10 : (p.kind == 10) = false := by simp [k10]
  by_cases k11 : p.kind = 11
  · have e11 : (p.kind == 11) = true := by simp [k11]
    rw [show hasID p = true by simp [hasID, k11]]
    clear k3 k4 k5 k6 k7 k8 k9 k10 k11
    go_enter Tryz.func100, Tryz.ntmps100
    go_wp2
    go_ret
    exact ⟨rfl, below1 _ _⟩
  have e11 : (p.kind == 11) = false := by simp [k11]
  rw [show hasID p = false by simp [hasID, k3]; omega]
  clear k3 k4 k5 k6 k7 k8 k9 k10 k11
  go_enter Tryz.func100, Tryz.ntmps100
  go_wp2
  go_ret
  exact ⟨rfl, below1 _ _⟩

/-- What the document's look at topics tells. -/
def rtps (p : Pk) : Bool := !(decide (p.kind = 1) && p.hasWill && (tcode p.wT != 0)) && !(decide (p.kind = 3) && (tcode p.mT != 0))
set_option maxHeartbeats 2000000 in
theorem rtopics_any (p : Pk) (w : World) : Calls Tryz.prog 97 #[p.v] w fun e w' => e = .returned (.bool (rtps p)) ∧ Below w.heap.size w w' := by
  obtain ⟨P, hP⟩ : ∃ P, P = pkCells p := ⟨_, rfl⟩
  have c0 : (w.alloc (.cells P 29)).cell? ⟨w.heap.size, 0, none⟩ = some (.int .i64 p.kind) := by rw [hP]; exact boxed p w 0 _ rfl
  have c5 : (w.alloc (.cells P 29)).cell? ⟨w.heap.size, 5, none⟩ = some (.bool p.hasWill) := by rw [hP]; exact boxed p w 5 _ rfl
  have c6 : (w.alloc (.cells P 29)).cell? ⟨w.heap.size, 6, none⟩ = some (.string p.wT) := by rw [hP]; exact boxed p w 6 _ rfl
  have c17 : (w.alloc (.cells P 29)).cell? ⟨w.heap.size, 17, none⟩ = some (.string p.mT) := by rw [hP]; exact boxed p w 17 _ rfl
  rw [show p.v = .agg P by rw [hP]; rfl]
  clear hP
  by_cases k1 : p.kind = 1
  · have e1 : (p.kind == 1) = true := by simp [k1]
    have e3 : (p.kind == 3) = false := by simp [k1]
    cases hw : p.hasWill with
    | false =>
      rw [hw] at c5
      rw [show rtps p = true by simp [rtps, k1, hw]]
      clear k1
      go_enter Tryz.func97, Tryz.ntmps97
      go_wp2_with (first | (go_at_call 105; refine (rcheck_any _ _).mono ?_; rintro e w' ⟨rfl, hee⟩; obtain rfl := hee.symm; clear hee))
      go_ret
      exact ⟨rfl, below1 _ _⟩
    | true =>
      rw [hw] at c5
      cases ht : (tcode p.wT != 0) with
      | true =>
        rw [show rtps p = false by simp [rtps, k1, hw, ht]]
        clear k1
        go_enter Tryz.func97, Tryz.ntmps97
        go_wp2_with (first | (go_at_call 105; refine (rcheck_any _ _).mono ?_; rintro e w' ⟨rfl, hee⟩; obtain rfl := hee.symm; clear hee))
        go_ret
        exact ⟨rfl, below1 _ _⟩
      | false =>
        rw [show rtps p = true by simp [rtps, k1, hw, ht]]
        clear k1
        go_enter Tryz.func97, Tryz.ntmps97
        go_wp2_with (first | (go_at_call 105; refine (rcheck_any _ _).mono ?_; rintro e w' ⟨rfl, hee⟩; obtain rfl := hee.symm; clear hee))
        go_ret
        exact ⟨rfl, below1 _ _⟩
  have e1 : (p.kind == 1) = false := by simp [k1]
  by_cases k3 : p.kind = 3
  · have e3 : (p.kind == 3) = true := by simp [k3]
    cases ht : (tcode p.mT != 0) with
    | true =>
      rw [show rtps p = false by simp [rtps, k1, k3, ht]]
      clear k1 k3
      go_enter Tryz.func97, Tryz.ntmps97
      go_wp2_with (first | (go_at_call 105; refine (rcheck_any _ _).mono ?_; rintro e w' ⟨rfl, hee⟩; obtain rfl := hee.symm; clear hee))
      go_ret
      exact ⟨rfl, below1 _ _⟩
    | false =>
      rw [show rtps p = true by simp [rtps, k1, k3, ht]]
      clear k1 k3
      go_enter Tryz.func97, Tryz.ntmps97
      go_wp2_with (first | (go_at_call 105; refine (rcheck_any _ _).mono ?_; rintro e w' ⟨rfl, hee⟩; obtain rfl := hee.symm; clear hee))
      go_ret
      exact ⟨rfl, below1 _ _⟩
  · have e3 : (p.kind == 3) = false := by simp [k3]
    rw [show rtps p = true by simp [rtps, k1, k3]]
    clear k1 k3
    go_enter Tryz.func97, Tryz.ntmps97
    go_wp2_with (first | (go_at_call 105; refine (rcheck_any _ _).mono ?_; rintro e w' ⟨rfl, hee⟩; obtain rfl := hee.symm; clear hee))
    go_ret
    exact ⟨rfl, below1 _ _⟩
end Go.Proofs.YtdanjbbemmngnaaGreatDoor
