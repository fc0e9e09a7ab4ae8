import Derived.Test.YtphofgnehdlafaaGreatDoorPRt
import Derived.Deep.Cut
import Derived.Deep.LoopGhost
namespace Go.Proofs.YtphofgnehdlafaaGreatDoor.Pkt
open Go Go.RowKit Go.Sort
set_option linter.unusedSimpArgs false
set_option linter.unusedVariables false
set_option maxHeartbeats 2000000
theorem boxed (p : Pk) (w : World) (k : Nat) (v : Value) (h : (pkCells p)[k]? = some v) : (w.alloc (.cells (pkCells p) 29)).cell? ⟨w.heap.size, k, none⟩ = some v := box_cell w _ _ k v h
theorem numbered_any (p : Pk) (w : World) : Calls Tryz.prog 159 #[p.v] w fun e w' => e = .returned (.bool (hasID p)) ∧ Below w.heap.size w w' := by
 obtain ⟨P, hP⟩ : ∃ P, P = pkCells p := ⟨_, rfl⟩
 have c0 : (w.alloc (.cells P 29)).cell? ⟨w.heap.size, 0, none⟩ = some (.int .i64 p.kind) := by rw [hP]; exact boxed p w 0 _ rfl
 have c19 : (w.alloc (.cells P 29)).cell? ⟨w.heap.size, 19, none⟩ = some (.int .i64 p.mQ) := by rw [hP]; exact boxed p w 19 _ rfl
 rw [show p.v = .agg P by rw [hP]; rfl]
 clear hP
 by_cases k3 : p.kind = 3
 ·
  have e3 : (p.kind == 3) = true := by simp [k3]
  by_cases hq : p.mQ = 0
  ·
   have hq' : (p.mQ != 0) = false := by simp [hq]
   rw [show hasID p = false by simp [hasID, k3, hq]]
   clear k3 hq
   go_enter Tryz.func159, Tryz.ntmps159
   go_wp2
   go_ret
   exact ⟨rfl, below1 _ _⟩
  ·
   have hq' : (p.mQ != 0) = true := by simp [hq]
   rw [show hasID p = true by simp [hasID, k3, hq]]
   clear k3 hq
   go_enter Tryz.func159, Tryz.ntmps159
   go_wp2
   go_ret
   exact ⟨rfl, below1 _ _⟩
 have e3 : (p.kind == 3) = false := by simp [k3]
 by_cases k4 : p.kind = 4
 ·
  have e4 : (p.kind == 4) = true := by simp [k4]
  rw [show hasID p = true by simp [hasID, k4]]
  clear k3 k4
  go_enter Tryz.func159, Tryz.ntmps159
  go_wp2
  go_ret
  exact ⟨rfl, below1 _ _⟩
 have e4 : (p.kind == 4) = false := by simp [k4]
 by_cases k5 : p.kind = 5
 ·
  have e5 : (p.kind == 5) = true := by simp [k5]
  rw [show hasID p = true by simp [hasID, k5]]
  clear k3 k4 k5
  go_enter Tryz.func159, Tryz.ntmps159
  go_wp2
  go_ret
  exact ⟨rfl, below1 _ _⟩
 have e5 : (p.kind == 5) = false := by simp [k5]
 by_cases k6 : p.kind = 6
 ·
  have e6 : (p.kind == 6) = true := by simp [k6]
  rw [show hasID p = true by simp [hasID, k6]]
  clear k3 k4 k5 k6
  go_enter Tryz.func159, Tryz.ntmps159
  go_wp2
  go_ret
  exact ⟨rfl, below1 _ _⟩
 have e6 : (p.kind == 6) = false := by simp [k6]
 by_cases k7 : p.kind = 7
 ·
  have e7 : (p.kind == 7) = true := by simp [k7]
  rw [show hasID p = true by simp [hasID, k7]]
  clear k3 k4 k5 k6 k7
  go_enter Tryz.func159, Tryz.ntmps159
  go_wp2
  go_ret
  exact ⟨rfl, below1 _ _⟩
 have e7 : (p.kind == 7) = false := by simp [k7]
 by_cases k8 : p.kind = 8
 ·
  have e8 : (p.kind == 8) = true := by simp [k8]
  rw [show hasID p = true by simp [hasID, k8]]
  clear k3 k4 k5 k6 k7 k8
  go_enter Tryz.func159, Tryz.ntmps159
  go_wp2
  go_ret
  exact ⟨rfl, below1 _ _⟩
 have e8 : (p.kind == 8) = false := by simp [k8]
 by_cases k9 : p.kind = 9
 ·
  have e9 : (p.kind == 9) = true := by simp [k9]
  rw [show hasID p = true by simp [hasID, k9]]
  clear k3 k4 k5 k6 k7 k8 k9
  go_enter Tryz.func159, Tryz.ntmps159
  go_wp2
  go_ret
  exact ⟨rfl, below1 _ _⟩
 have e9 : (p.kind == 9) = false := by simp [k9]
 by_cases k10 : p.kind = 10
 ·
  have e10 : (p.kind == 10) = true := by simp [k10]
  rw [show hasID p = true by simp [hasID, k10]]
  clear k3 k4 k5 k6 k7 k8 k9 k10
  go_enter Tryz.func159, Tryz.ntmps159
  go_wp2
  go_ret
  exact ⟨rfl, below1 _ _⟩
 have e10 : (p.kind == 10) = false := by simp [k10]
 by_cases k11 : p.kind = 11
 ·
  have e11 : (p.kind == 11) = true := by simp [k11]
  rw [show hasID p = true by simp [hasID, k11]]
  clear k3 k4 k5 k6 k7 k8 k9 k10 k11
  go_enter Tryz.func159, Tryz.ntmps159
  go_wp2
  go_ret
  exact ⟨rfl, below1 _ _⟩
 have e11 : (p.kind == 11) = false := by simp [k11]
 rw [show hasID p = false by simp [hasID, k3]; omega]
 clear k3 k4 k5 k6 k7 k8 k9 k10 k11
 go_enter Tryz.func159, Tryz.ntmps159
 go_wp2
 go_ret
 exact ⟨rfl, below1 _ _⟩
def rtps (p : Pk) : Bool := !(decide (p.kind = 1) && p.hasWill && (tcode p.wT != 0)) && !(decide (p.kind = 3) && (tcode p.mT != 0))
theorem rtopics_any (p : Pk) (w : World) : Calls Tryz.prog 156 #[p.v] w fun e w' => e = .returned (.bool (rtps p)) ∧ Below w.heap.size w w' := by
 obtain ⟨P, hP⟩ : ∃ P, P = pkCells p := ⟨_, rfl⟩
 have c0 : (w.alloc (.cells P 29)).cell? ⟨w.heap.size, 0, none⟩ = some (.int .i64 p.kind) := by rw [hP]; exact boxed p w 0 _ rfl
 have c5 : (w.alloc (.cells P 29)).cell? ⟨w.heap.size, 5, none⟩ = some (.bool p.hasWill) := by rw [hP]; exact boxed p w 5 _ rfl
 have c6 : (w.alloc (.cells P 29)).cell? ⟨w.heap.size, 6, none⟩ = some (.string p.wT) := by rw [hP]; exact boxed p w 6 _ rfl
 have c17 : (w.alloc (.cells P 29)).cell? ⟨w.heap.size, 17, none⟩ = some (.string p.mT) := by rw [hP]; exact boxed p w 17 _ rfl
 rw [show p.v = .agg P by rw [hP]; rfl]
 clear hP
 by_cases k1 : p.kind = 1
 ·
  have e1 : (p.kind == 1) = true := by simp [k1]
  have e3 : (p.kind == 3) = false := by simp [k1]
  cases hw : p.hasWill with
  | false =>
   rw [hw] at c5
   rw [show rtps p = true by simp [rtps, k1, hw]]
   clear k1
   go_enter Tryz.func156, Tryz.ntmps156
   go_wp2_with (first | (go_at_call 242; refine (rcheck_any _ _).mono ?_; rintro e w' ⟨rfl, hee⟩; obtain rfl := hee.symm; clear hee))
   go_ret
   exact ⟨rfl, below1 _ _⟩
  | true =>
   rw [hw] at c5
   cases ht : (tcode p.wT != 0) with
   | true =>
    rw [show rtps p = false by simp [rtps, k1, hw, ht]]
    clear k1
    go_enter Tryz.func156, Tryz.ntmps156
    go_wp2_with (first | (go_at_call 242; refine (rcheck_any _ _).mono ?_; rintro e w' ⟨rfl, hee⟩; obtain rfl := hee.symm; clear hee))
    go_ret
    exact ⟨rfl, below1 _ _⟩
   | false =>
    rw [show rtps p = true by simp [rtps, k1, hw, ht]]
    clear k1
    go_enter Tryz.func156, Tryz.ntmps156
    go_wp2_with (first | (go_at_call 242; refine (rcheck_any _ _).mono ?_; rintro e w' ⟨rfl, hee⟩; obtain rfl := hee.symm; clear hee))
    go_ret
    exact ⟨rfl, below1 _ _⟩
 have e1 : (p.kind == 1) = false := by simp [k1]
 by_cases k3 : p.kind = 3
 ·
  have e3 : (p.kind == 3) = true := by simp [k3]
  cases ht : (tcode p.mT != 0) with
  | true =>
   rw [show rtps p = false by simp [rtps, k1, k3, ht]]
   clear k1 k3
   go_enter Tryz.func156, Tryz.ntmps156
   go_wp2_with (first | (go_at_call 242; refine (rcheck_any _ _).mono ?_; rintro e w' ⟨rfl, hee⟩; obtain rfl := hee.symm; clear hee))
   go_ret
   exact ⟨rfl, below1 _ _⟩
  | false =>
   rw [show rtps p = true by simp [rtps, k1, k3, ht]]
   clear k1 k3
   go_enter Tryz.func156, Tryz.ntmps156
   go_wp2_with (first | (go_at_call 242; refine (rcheck_any _ _).mono ?_; rintro e w' ⟨rfl, hee⟩; obtain rfl := hee.symm; clear hee))
   go_ret
   exact ⟨rfl, below1 _ _⟩
 ·
  have e3 : (p.kind == 3) = false := by simp [k3]
  rw [show rtps p = true by simp [rtps, k1, k3]]
  clear k1 k3
  go_enter Tryz.func156, Tryz.ntmps156
  go_wp2_with (first | (go_at_call 242; refine (rcheck_any _ _).mono ?_; rintro e w' ⟨rfl, hee⟩; obtain rfl := hee.symm; clear hee))
  go_ret
  exact ⟨rfl, below1 _ _⟩
set_option maxRecDepth 100000
set_option maxHeartbeats 8000000
def fA (p : Pk) : Bool := !(p.kind == 1) && (p.level != 0 || p.clean || p.keep != 0 || !p.client.toList.isEmpty || p.hasWill || p.hasUser || p.hasPass)
def fB (p : Pk) : Bool := (!(p.kind == 1 && p.hasWill) && !zmsg p.wT p.wP.n p.wQ p.wR) || (!(p.kind == 1 && p.hasUser) && !p.user.toList.isEmpty) || (!(p.kind == 1 && p.hasPass) && decide (0 < p.pass.n))
def fC (p : Pk) : Bool := p.kind != 2 && (p.present || p.code != 0)
def fD (p : Pk) : Bool := p.kind != 3 && (p.dup || !zmsg p.mT p.mP.n p.mQ p.mR)
def fE (p : Pk) : Bool := (!hasID p && p.id != 0) || (p.kind != 8 && decide (0 < p.asks.n)) || (p.kind != 9 && decide (0 < p.codes.n)) || (p.kind != 10 && decide (0 < p.filters.n))
def forB (p : Pk) : Bool := fA p || fB p || fC p || fD p || fE p
theorem foreign_any (p : Pk) (w : World) : Calls Tryz.prog 153 #[p.v] w fun e w' => e = .returned (.bool (forB p)) ∧ Below w.heap.size w w' := by
 obtain ⟨x, hx⟩ : ∃ x, x = forB p := ⟨_, rfl⟩
 rw [← hx]
 have HX : Hid (x = forB p) := hx
 clear hx
 obtain ⟨P, hP⟩ : ∃ P, P = pkCells p := ⟨_, rfl⟩
 rw [show p.v = .agg P by rw [hP]; rfl]
 have HP : Hid (P = pkCells p) := hP
 have SP : Hid (P.size = 25) := by show _ = _; rw [hP]; rfl
 clear hP
 obtain ⟨W, hW⟩ : ∃ W, W = w.alloc (.cells P 29) := ⟨_, rfl⟩
 have b0 : Hid (Below w.heap.size w W) := box_below hW
 have g0 : Hid (W.heap[w.heap.size]? = some (.cells P 29)) := by show _ = _; rw [hW]; exact heap_alloc_new w _
 have FA : Hid (∀ k v, (pkCells p)[k]? = some v → ∀ w', Below W.heap.size W w' → w'.cell? ⟨w.heap.size, k, none⟩ = some v) := fun k v h w' hb => cell_later hb (by rw [hW]; exact box_cell w P 29 k v (by rw [HP.out]; exact h))
 have BW : Hid (∀ w', Below W.heap.size W w' → Below w.heap.size w w') := fun w' hb => b0.out.trans (hb.mono b0.out.size)
 have R0 : Hid (Below W.heap.size W W) := Below.refl _ _
 go_enter Tryz.func153, Tryz.ntmps153
 go_upto_region 1 with fail
 rw [← hW]
 clear hW
 have c0 := FA.out 0 (.int .i64 p.kind) rfl W R0.out
 obtain ⟨b1, h1⟩ : ∃ b, (p.kind == 1) = b := ⟨_, rfl⟩
 go_upto_region 2 with fail
 clear c0
 go_cut [39] from 7 (fun s39 wx => s39 = .bool (fA p) ∧ Hid (wx = W))
 case first =>
  have c1 := FA.out 1 (.int .i64 p.level) rfl W R0.out
  have c2 := FA.out 2 (.bool p.clean) rfl W R0.out
  have c3 := FA.out 3 (.int .i64 p.keep) rfl W R0.out
  have c4 := FA.out 4 (.string p.client) rfl W R0.out
  have c5 := FA.out 5 (.bool p.hasWill) rfl W R0.out
  have c10 := FA.out 10 (.bool p.hasUser) rfl W R0.out
  have c12 := FA.out 12 (.bool p.hasPass) rfl W R0.out
  cases b1
  case true =>
   go_wp2_with fail
   go_meet
   case rel => exact ⟨by simp [fA, h1], rfl⟩
  cases q0 : (p.level != 0)
  case true =>
   go_wp2_with fail
   go_meet
   case rel => exact ⟨by simp [fA, h1, q0], rfl⟩
  cases q1 : p.clean
  case true =>
   rw [q1] at c2
   go_wp2_with fail
   go_meet
   case rel => exact ⟨by simp [fA, h1, q0, q1], rfl⟩
  rw [q1] at c2
  cases q2 : (p.keep != 0)
  case true =>
   go_wp2_with fail
   go_meet
   case rel => exact ⟨by simp [fA, h1, q0, q1, q2], rfl⟩
  cases q3 : p.client.toList.isEmpty
  case false =>
   go_wp2_with fail
   go_meet
   case rel => exact ⟨by simp [fA, h1, q0, q1, q2, q3], rfl⟩
  cases q4 : p.hasWill
  case true =>
   rw [q4] at c5
   go_wp2_with fail
   go_meet
   case rel => exact ⟨by simp [fA, h1, q0, q1, q2, q3, q4], rfl⟩
  rw [q4] at c5
  cases q5 : p.hasUser
  case true =>
   rw [q5] at c10
   go_wp2_with fail
   go_meet
   case rel => exact ⟨by simp [fA, h1, q0, q1, q2, q3, q4, q5], rfl⟩
  rw [q5] at c10
  cases q6 : p.hasPass
  case true =>
   rw [q6] at c12
   go_wp2_with fail
   go_meet
   case rel => exact ⟨by simp [fA, h1, q0, q1, q2, q3, q4, q5, q6], rfl⟩
  rw [q6] at c12
  go_wp2_with fail
  go_meet
  case rel => exact ⟨by simp [fA, h1, q0, q1, q2, q3, q4, q5, q6], rfl⟩
 case rest =>
 obtain ⟨rfl, hw1⟩ := hcut
 obtain rfl := hw1.out.symm
 clear hw1
 cases tfA : fA p
 case true =>
  go_wp2
  go_ret
  exact ⟨by rw [HX.out, forB, tfA]; rfl, BW.out _ R0.out⟩
 have HfA : Hid (fA p = false) := tfA
 clear tfA
 go_upto_region 4 with fail
 go_cut [78] from 40 (fun s78 wx => s78 = .bool (fB p) ∧ Hid (Below W.heap.size W wx))
 case first =>
  have c5 := FA.out 5 (.bool p.hasWill) rfl W R0.out
  have c6 := FA.out 6 (.string p.wT) rfl W R0.out
  have c7 := FA.out 7 (.slice p.wP.a p.wP.n p.wP.c) rfl W R0.out
  have c8 := FA.out 8 (.int .i64 p.wQ) rfl W R0.out
  have c9 := FA.out 9 (.bool p.wR) rfl W R0.out
  have c10 := FA.out 10 (.bool p.hasUser) rfl W R0.out
  have c11 := FA.out 11 (.string p.user) rfl W R0.out
  have c12 := FA.out 12 (.bool p.hasPass) rfl W R0.out
  have c13 := FA.out 13 (.slice p.pass.a p.pass.n p.pass.c) rfl W R0.out
  cases b1
  case false =>
   cases hz : zmsg p.wT p.wP.n p.wQ p.wR
   case false =>
    go_wp2_with (go_at_call 240; refine (zero_any _ _ _ _ _ _ _).mono ?_; rintro e w1 ⟨rfl, hb⟩; have B1 : Hid (Below W.heap.size W w1) := hb; have d10 := FA.out 10 (.bool p.hasUser) rfl w1 hb; have d11 := FA.out 11 (.string p.user) rfl w1 hb; have d12 := FA.out 12 (.bool p.hasPass) rfl w1 hb; have d13 := FA.out 13 (.slice p.pass.a p.pass.n p.pass.c) rfl w1 hb; clear hb; rw [hz])
    go_meet
    case rel => exact ⟨by simp [fB, h1, hz], B1⟩
   cases he : p.user.toList.isEmpty
   case false =>
    go_wp2_with (go_at_call 240; refine (zero_any _ _ _ _ _ _ _).mono ?_; rintro e w1 ⟨rfl, hb⟩; have B1 : Hid (Below W.heap.size W w1) := hb; have d10 := FA.out 10 (.bool p.hasUser) rfl w1 hb; have d11 := FA.out 11 (.string p.user) rfl w1 hb; have d12 := FA.out 12 (.bool p.hasPass) rfl w1 hb; have d13 := FA.out 13 (.slice p.pass.a p.pass.n p.pass.c) rfl w1 hb; clear hb; rw [hz])
    go_meet
    case rel => exact ⟨by simp [fB, h1, hz, he], B1⟩
   by_cases hn : 0 < p.pass.n
   ·
    have hn' : (0 : Int) < p.pass.n := by omega
    go_wp2_with (go_at_call 240; refine (zero_any _ _ _ _ _ _ _).mono ?_; rintro e w1 ⟨rfl, hb⟩; have B1 : Hid (Below W.heap.size W w1) := hb; have d10 := FA.out 10 (.bool p.hasUser) rfl w1 hb; have d11 := FA.out 11 (.string p.user) rfl w1 hb; have d12 := FA.out 12 (.bool p.hasPass) rfl w1 hb; have d13 := FA.out 13 (.slice p.pass.a p.pass.n p.pass.c) rfl w1 hb; clear hb; rw [hz])
    go_meet
    case rel => exact ⟨by simp [fB, h1, hz, he, hn], B1⟩
   ·
    have hn' : ¬ (0 : Int) < p.pass.n := by omega
    go_wp2_with (go_at_call 240; refine (zero_any _ _ _ _ _ _ _).mono ?_; rintro e w1 ⟨rfl, hb⟩; have B1 : Hid (Below W.heap.size W w1) := hb; have d10 := FA.out 10 (.bool p.hasUser) rfl w1 hb; have d11 := FA.out 11 (.string p.user) rfl w1 hb; have d12 := FA.out 12 (.bool p.hasPass) rfl w1 hb; have d13 := FA.out 13 (.slice p.pass.a p.pass.n p.pass.c) rfl w1 hb; clear hb; rw [hz])
    go_meet
    case rel => exact ⟨by simp [fB, h1, hz, he, hn], B1⟩
  cases hw : p.hasWill
  case true =>
   rw [hw] at c5
   cases hu : p.hasUser
   case true =>
    rw [hu] at c10
    cases hp : p.hasPass
    case true =>
     rw [hp] at c12
     go_wp2_with fail
     go_meet
     case rel => exact ⟨by simp [fB, h1, hw, hu, hp], R0⟩
    rw [hp] at c12
    by_cases hn : 0 < p.pass.n
    ·
     have hn' : (0 : Int) < p.pass.n := by omega
     go_wp2_with fail
     go_meet
     case rel => exact ⟨by simp [fB, h1, hw, hu, hp, hn], R0⟩
    ·
     have hn' : ¬ (0 : Int) < p.pass.n := by omega
     go_wp2_with fail
     go_meet
     case rel => exact ⟨by simp [fB, h1, hw, hu, hp, hn], R0⟩
   rw [hu] at c10
   cases he : p.user.toList.isEmpty
   case false =>
    go_wp2_with fail
    go_meet
    case rel => exact ⟨by simp [fB, h1, hw, hu, he], R0⟩
   cases hp : p.hasPass
   case true =>
    rw [hp] at c12
    go_wp2_with fail
    go_meet
    case rel => exact ⟨by simp [fB, h1, hw, hu, he, hp], R0⟩
   rw [hp] at c12
   by_cases hn : 0 < p.pass.n
   ·
    have hn' : (0 : Int) < p.pass.n := by omega
    go_wp2_with fail
    go_meet
    case rel => exact ⟨by simp [fB, h1, hw, hu, he, hp, hn], R0⟩
   ·
    have hn' : ¬ (0 : Int) < p.pass.n := by omega
    go_wp2_with fail
    go_meet
    case rel => exact ⟨by simp [fB, h1, hw, hu, he, hp, hn], R0⟩
  rw [hw] at c5
  cases hz : zmsg p.wT p.wP.n p.wQ p.wR
  case false =>
   go_wp2_with (go_at_call 240; refine (zero_any _ _ _ _ _ _ _).mono ?_; rintro e w1 ⟨rfl, hb⟩; have B1 : Hid (Below W.heap.size W w1) := hb; have d10 := FA.out 10 (.bool p.hasUser) rfl w1 hb; have d11 := FA.out 11 (.string p.user) rfl w1 hb; have d12 := FA.out 12 (.bool p.hasPass) rfl w1 hb; have d13 := FA.out 13 (.slice p.pass.a p.pass.n p.pass.c) rfl w1 hb; clear hb; rw [hz])
   go_meet
   case rel => exact ⟨by simp [fB, h1, hw, hz], B1⟩
  cases hu : p.hasUser
  case true =>
   rw [hu] at c10
   cases hp : p.hasPass
   case true =>
    rw [hp] at c12
    go_wp2_with (go_at_call 240; refine (zero_any _ _ _ _ _ _ _).mono ?_; rintro e w1 ⟨rfl, hb⟩; have B1 : Hid (Below W.heap.size W w1) := hb; have d10 := FA.out 10 (.bool p.hasUser) rfl w1 hb; have d11 := FA.out 11 (.string p.user) rfl w1 hb; have d12 := FA.out 12 (.bool p.hasPass) rfl w1 hb; have d13 := FA.out 13 (.slice p.pass.a p.pass.n p.pass.c) rfl w1 hb; clear hb; rw [hz]; rw [hu] at d10; rw [hp] at d12)
    go_meet
    case rel => exact ⟨by simp [fB, h1, hw, hz, hu, hp], B1⟩
   rw [hp] at c12
   by_cases hn : 0 < p.pass.n
   ·
    have hn' : (0 : Int) < p.pass.n := by omega
    go_wp2_with (go_at_call 240; refine (zero_any _ _ _ _ _ _ _).mono ?_; rintro e w1 ⟨rfl, hb⟩; have B1 : Hid (Below W.heap.size W w1) := hb; have d10 := FA.out 10 (.bool p.hasUser) rfl w1 hb; have d11 := FA.out 11 (.string p.user) rfl w1 hb; have d12 := FA.out 12 (.bool p.hasPass) rfl w1 hb; have d13 := FA.out 13 (.slice p.pass.a p.pass.n p.pass.c) rfl w1 hb; clear hb; rw [hz]; rw [hu] at d10; rw [hp] at d12)
    go_meet
    case rel => exact ⟨by simp [fB, h1, hw, hz, hu, hp, hn], B1⟩
   ·
    have hn' : ¬ (0 : Int) < p.pass.n := by omega
    go_wp2_with (go_at_call 240; refine (zero_any _ _ _ _ _ _ _).mono ?_; rintro e w1 ⟨rfl, hb⟩; have B1 : Hid (Below W.heap.size W w1) := hb; have d10 := FA.out 10 (.bool p.hasUser) rfl w1 hb; have d11 := FA.out 11 (.string p.user) rfl w1 hb; have d12 := FA.out 12 (.bool p.hasPass) rfl w1 hb; have d13 := FA.out 13 (.slice p.pass.a p.pass.n p.pass.c) rfl w1 hb; clear hb; rw [hz]; rw [hu] at d10; rw [hp] at d12)
    go_meet
    case rel => exact ⟨by simp [fB, h1, hw, hz, hu, hp, hn], B1⟩
  rw [hu] at c10
  cases he : p.user.toList.isEmpty
  case false =>
   go_wp2_with (go_at_call 240; refine (zero_any _ _ _ _ _ _ _).mono ?_; rintro e w1 ⟨rfl, hb⟩; have B1 : Hid (Below W.heap.size W w1) := hb; have d10 := FA.out 10 (.bool p.hasUser) rfl w1 hb; have d11 := FA.out 11 (.string p.user) rfl w1 hb; have d12 := FA.out 12 (.bool p.hasPass) rfl w1 hb; have d13 := FA.out 13 (.slice p.pass.a p.pass.n p.pass.c) rfl w1 hb; clear hb; rw [hz]; rw [hu] at d10)
   go_meet
   case rel => exact ⟨by simp [fB, h1, hw, hz, hu, he], B1⟩
  cases hp : p.hasPass
  case true =>
   rw [hp] at c12
   go_wp2_with (go_at_call 240; refine (zero_any _ _ _ _ _ _ _).mono ?_; rintro e w1 ⟨rfl, hb⟩; have B1 : Hid (Below W.heap.size W w1) := hb; have d10 := FA.out 10 (.bool p.hasUser) rfl w1 hb; have d11 := FA.out 11 (.string p.user) rfl w1 hb; have d12 := FA.out 12 (.bool p.hasPass) rfl w1 hb; have d13 := FA.out 13 (.slice p.pass.a p.pass.n p.pass.c) rfl w1 hb; clear hb; rw [hz]; rw [hu] at d10; rw [hp] at d12)
   go_meet
   case rel => exact ⟨by simp [fB, h1, hw, hz, hu, he, hp], B1⟩
  rw [hp] at c12
  by_cases hn : 0 < p.pass.n
  ·
   have hn' : (0 : Int) < p.pass.n := by omega
   go_wp2_with (go_at_call 240; refine (zero_any _ _ _ _ _ _ _).mono ?_; rintro e w1 ⟨rfl, hb⟩; have B1 : Hid (Below W.heap.size W w1) := hb; have d10 := FA.out 10 (.bool p.hasUser) rfl w1 hb; have d11 := FA.out 11 (.string p.user) rfl w1 hb; have d12 := FA.out 12 (.bool p.hasPass) rfl w1 hb; have d13 := FA.out 13 (.slice p.pass.a p.pass.n p.pass.c) rfl w1 hb; clear hb; rw [hz]; rw [hu] at d10; rw [hp] at d12)
   go_meet
   case rel => exact ⟨by simp [fB, h1, hw, hz, hu, he, hp, hn], B1⟩
  ·
   have hn' : ¬ (0 : Int) < p.pass.n := by omega
   go_wp2_with (go_at_call 240; refine (zero_any _ _ _ _ _ _ _).mono ?_; rintro e w1 ⟨rfl, hb⟩; have B1 : Hid (Below W.heap.size W w1) := hb; have d10 := FA.out 10 (.bool p.hasUser) rfl w1 hb; have d11 := FA.out 11 (.string p.user) rfl w1 hb; have d12 := FA.out 12 (.bool p.hasPass) rfl w1 hb; have d13 := FA.out 13 (.slice p.pass.a p.pass.n p.pass.c) rfl w1 hb; clear hb; rw [hz]; rw [hu] at d10; rw [hp] at d12)
   go_meet
   case rel => exact ⟨by simp [fB, h1, hw, hz, hu, he, hp, hn], B1⟩
 case rest =>
 obtain ⟨rfl, R1⟩ := hcut
 cases tfB : fB p
 case true =>
  go_wp2
  go_ret
  exact ⟨by rw [HX.out, forB, HfA.out, tfB]; rfl, BW.out _ R1.out⟩
 have HfB : Hid (fB p = false) := tfB
 clear tfB
 obtain ⟨W2, hW2⟩ : ∃ W2, W2 = wc := ⟨_, rfl⟩
 subst hW2
 obtain ⟨b2, h2⟩ : ∃ b, (p.kind != 2) = b := ⟨_, rfl⟩
 go_upto_region 6 with fail
 go_cut [90] from 79 (fun s90 wx => s90 = .bool (fC p) ∧ Hid (wx = W2))
 case first =>
  have c0 := FA.out 0 (.int .i64 p.kind) rfl W2 R1.out
  have c14 := FA.out 14 (.bool p.present) rfl W2 R1.out
  have c15 := FA.out 15 (.int .i64 p.code) rfl W2 R1.out
  cases b2
  case false =>
   go_wp2_with fail
   go_meet
   case rel => exact ⟨by simp [fC, h2], rfl⟩
  cases hp : p.present
  case true =>
   rw [hp] at c14
   go_wp2_with fail
   go_meet
   case rel => exact ⟨by simp [fC, h2, hp], rfl⟩
  rw [hp] at c14
  cases hc : (p.code != 0)
  case true =>
   go_wp2_with fail
   go_meet
   case rel => exact ⟨by simp [fC, h2, hp, hc], rfl⟩
  go_wp2_with fail
  go_meet
  case rel => exact ⟨by simp [fC, h2, hp, hc], rfl⟩
 case rest =>
 obtain ⟨rfl, hw1⟩ := hcut
 obtain rfl := hw1.out.symm
 clear hw1 h2
 cases tfC : fC p
 case true =>
  go_wp2
  go_ret
  exact ⟨by rw [HX.out, forB, HfA.out, HfB.out, tfC]; rfl, BW.out _ R1.out⟩
 have HfC : Hid (fC p = false) := tfC
 clear tfC
 obtain ⟨b3, h3⟩ : ∃ b, (p.kind != 3) = b := ⟨_, rfl⟩
 go_upto_region 8 with fail
 go_cut [103] from 91 (fun s103 wx => s103 = .bool (fD p) ∧ Hid (Below W.heap.size W wx))
 case first =>
  have c0 := FA.out 0 (.int .i64 p.kind) rfl W2 R1.out
  have c16 := FA.out 16 (.bool p.dup) rfl W2 R1.out
  have c17 := FA.out 17 (.string p.mT) rfl W2 R1.out
  have c18 := FA.out 18 (.slice p.mP.a p.mP.n p.mP.c) rfl W2 R1.out
  have c19 := FA.out 19 (.int .i64 p.mQ) rfl W2 R1.out
  have c20 := FA.out 20 (.bool p.mR) rfl W2 R1.out
  cases b3
  case false =>
   go_wp2_with fail
   go_meet
   case rel => exact ⟨by simp [fD, h3], R1⟩
  cases hd : p.dup
  case true =>
   rw [hd] at c16
   go_wp2_with fail
   go_meet
   case rel => exact ⟨by simp [fD, h3, hd], R1⟩
  rw [hd] at c16
  cases hz : zmsg p.mT p.mP.n p.mQ p.mR
  case false =>
   go_wp2_with (go_at_call 240; refine (zero_any _ _ _ _ _ _ _).mono ?_; rintro e w1 ⟨rfl, hb⟩; have B1 : Hid (Below W.heap.size W w1) := R1.out.trans (hb.mono R1.out.size); clear hb; rw [hz])
   go_meet
   case rel => exact ⟨by simp [fD, h3, hd, hz], B1⟩
  go_wp2_with (go_at_call 240; refine (zero_any _ _ _ _ _ _ _).mono ?_; rintro e w1 ⟨rfl, hb⟩; have B1 : Hid (Below W.heap.size W w1) := R1.out.trans (hb.mono R1.out.size); clear hb; rw [hz])
  go_meet
  case rel => exact ⟨by simp [fD, h3, hd, hz], B1⟩
 case rest =>
 obtain ⟨rfl, R2⟩ := hcut
 clear h3
 obtain ⟨W3, hW3⟩ : ∃ W3, W3 = wc := ⟨_, rfl⟩
 subst hW3
 cases tfD : fD p
 case true =>
  go_wp2
  go_ret
  exact ⟨by rw [HX.out, forB, HfA.out, HfB.out, HfC.out, tfD]; rfl, BW.out _ R2.out⟩
 have HfD : Hid (fD p = false) := tfD
 clear tfD
 have g3 : Hid (W3.heap[w.heap.size]? = some (.cells P 29)) := (R2.out.block _ (block_lt g0.out)).trans g0.out
 have HE : Hid (x = fE p) := by show _ = _; rw [HX.out, forB, HfA.out, HfB.out, HfC.out, HfD.out]; simp
 obtain ⟨bi, hi⟩ : ∃ b, hasID p = b := ⟨_, rfl⟩
 have HI : Hid (hasID p = bi) := hi
 go_wp2_with (first | (refine wpList_load_wanted rfl _ rfl w.heap.size rfl P (0, 0) g3.out SP.out ?_) | fail)
 go_must (go_at_call 159)
 refine (show Calls Tryz.prog 159 #[.agg P] W3 fun e w' => e = .returned (.bool bi) ∧ Below W3.heap.size W3 w' from by rw [HP.out, ← HI.out]; exact numbered_any p W3).mono ?_
 rintro e w4 ⟨rfl, hb⟩
 have R4 : Hid (Below W.heap.size W w4) := R2.out.trans (hb.mono R2.out.size)
 clear hb g3
 have c0 := FA.out 0 (.int .i64 p.kind) rfl w4 R4.out
 have c21 := FA.out 21 (.int .i64 p.id) rfl w4 R4.out
 have c22 := FA.out 22 (.slice p.asks.a p.asks.n p.asks.c) rfl w4 R4.out
 have c23 := FA.out 23 (.slice p.codes.a p.codes.n p.codes.c) rfl w4 R4.out
 have c24 := FA.out 24 (.slice p.filters.a p.filters.n p.filters.c) rfl w4 R4.out
 cases bi
 case false =>
  cases hj : (p.id != 0)
  case true =>
   go_wp2
   go_ret
   exact ⟨by rw [HE.out]; simp [fE, hi, hj], BW.out _ R4.out⟩
  cases e8 : (p.kind != 8)
  case true =>
   by_cases n8 : 0 < p.asks.n
   ·
    have n8' : (0 : Int) < p.asks.n := by omega
    go_wp2
    go_ret
    exact ⟨by rw [HE.out]; simp [fE, hi, hj, e8, n8], BW.out _ R4.out⟩
   have n8' : ¬ (0 : Int) < p.asks.n := by omega
   cases e9 : (p.kind != 9)
   case true =>
    by_cases n9 : 0 < p.codes.n
    ·
     have n9' : (0 : Int) < p.codes.n := by omega
     go_wp2
     go_ret
     exact ⟨by rw [HE.out]; simp [fE, hi, hj, e8, n8, e9, n9], BW.out _ R4.out⟩
    have n9' : ¬ (0 : Int) < p.codes.n := by omega
    cases e10 : (p.kind != 10)
    case true =>
     by_cases n10 : 0 < p.filters.n
     ·
      have n10' : (0 : Int) < p.filters.n := by omega
      go_wp2
      go_ret
      exact ⟨by rw [HE.out]; simp [fE, hi, hj, e8, n8, e9, n9, e10, n10], BW.out _ R4.out⟩
     have n10' : ¬ (0 : Int) < p.filters.n := by omega
     go_wp2
     go_ret
     exact ⟨by rw [HE.out]; simp [fE, hi, hj, e8, n8, e9, n9, e10, n10], BW.out _ R4.out⟩
    case false =>
     go_wp2
     go_ret
     exact ⟨by rw [HE.out]; simp [fE, hi, hj, e8, n8, e9, n9, e10], BW.out _ R4.out⟩
   case false =>
    cases e10 : (p.kind != 10)
    case true =>
     by_cases n10 : 0 < p.filters.n
     ·
      have n10' : (0 : Int) < p.filters.n := by omega
      go_wp2
      go_ret
      exact ⟨by rw [HE.out]; simp [fE, hi, hj, e8, n8, e9, e10, n10], BW.out _ R4.out⟩
     have n10' : ¬ (0 : Int) < p.filters.n := by omega
     go_wp2
     go_ret
     exact ⟨by rw [HE.out]; simp [fE, hi, hj, e8, n8, e9, e10, n10], BW.out _ R4.out⟩
    case false =>
     go_wp2
     go_ret
     exact ⟨by rw [HE.out]; simp [fE, hi, hj, e8, n8, e9, e10], BW.out _ R4.out⟩
  case false =>
   cases e9 : (p.kind != 9)
   case true =>
    by_cases n9 : 0 < p.codes.n
    ·
     have n9' : (0 : Int) < p.codes.n := by omega
     go_wp2
     go_ret
     exact ⟨by rw [HE.out]; simp [fE, hi, hj, e8, e9, n9], BW.out _ R4.out⟩
    have n9' : ¬ (0 : Int) < p.codes.n := by omega
    cases e10 : (p.kind != 10)
    case true =>
     by_cases n10 : 0 < p.filters.n
     ·
      have n10' : (0 : Int) < p.filters.n := by omega
      go_wp2
      go_ret
      exact ⟨by rw [HE.out]; simp [fE, hi, hj, e8, e9, n9, e10, n10], BW.out _ R4.out⟩
     have n10' : ¬ (0 : Int) < p.filters.n := by omega
     go_wp2
     go_ret
     exact ⟨by rw [HE.out]; simp [fE, hi, hj, e8, e9, n9, e10, n10], BW.out _ R4.out⟩
    case false =>
     go_wp2
     go_ret
     exact ⟨by rw [HE.out]; simp [fE, hi, hj, e8, e9, n9, e10], BW.out _ R4.out⟩
   case false =>
    cases e10 : (p.kind != 10)
    case true =>
     by_cases n10 : 0 < p.filters.n
     ·
      have n10' : (0 : Int) < p.filters.n := by omega
      go_wp2
      go_ret
      exact ⟨by rw [HE.out]; simp [fE, hi, hj, e8, e9, e10, n10], BW.out _ R4.out⟩
     have n10' : ¬ (0 : Int) < p.filters.n := by omega
     go_wp2
     go_ret
     exact ⟨by rw [HE.out]; simp [fE, hi, hj, e8, e9, e10, n10], BW.out _ R4.out⟩
    case false =>
     go_wp2
     go_ret
     exact ⟨by rw [HE.out]; simp [fE, hi, hj, e8, e9, e10], BW.out _ R4.out⟩
 cases e8 : (p.kind != 8)
 case true =>
  by_cases n8 : 0 < p.asks.n
  ·
   have n8' : (0 : Int) < p.asks.n := by omega
   go_wp2
   go_ret
   exact ⟨by rw [HE.out]; simp [fE, hi, e8, n8], BW.out _ R4.out⟩
  have n8' : ¬ (0 : Int) < p.asks.n := by omega
  cases e9 : (p.kind != 9)
  case true =>
   by_cases n9 : 0 < p.codes.n
   ·
    have n9' : (0 : Int) < p.codes.n := by omega
    go_wp2
    go_ret
    exact ⟨by rw [HE.out]; simp [fE, hi, e8, n8, e9, n9], BW.out _ R4.out⟩
   have n9' : ¬ (0 : Int) < p.codes.n := by omega
   cases e10 : (p.kind != 10)
   case true =>
    by_cases n10 : 0 < p.filters.n
    ·
     have n10' : (0 : Int) < p.filters.n := by omega
     go_wp2
     go_ret
     exact ⟨by rw [HE.out]; simp [fE, hi, e8, n8, e9, n9, e10, n10], BW.out _ R4.out⟩
    have n10' : ¬ (0 : Int) < p.filters.n := by omega
    go_wp2
    go_ret
    exact ⟨by rw [HE.out]; simp [fE, hi, e8, n8, e9, n9, e10, n10], BW.out _ R4.out⟩
   case false =>
    go_wp2
    go_ret
    exact ⟨by rw [HE.out]; simp [fE, hi, e8, n8, e9, n9, e10], BW.out _ R4.out⟩
  case false =>
   cases e10 : (p.kind != 10)
   case true =>
    by_cases n10 : 0 < p.filters.n
    ·
     have n10' : (0 : Int) < p.filters.n := by omega
     go_wp2
     go_ret
     exact ⟨by rw [HE.out]; simp [fE, hi, e8, n8, e9, e10, n10], BW.out _ R4.out⟩
    have n10' : ¬ (0 : Int) < p.filters.n := by omega
    go_wp2
    go_ret
    exact ⟨by rw [HE.out]; simp [fE, hi, e8, n8, e9, e10, n10], BW.out _ R4.out⟩
   case false =>
    go_wp2
    go_ret
    exact ⟨by rw [HE.out]; simp [fE, hi, e8, n8, e9, e10], BW.out _ R4.out⟩
 case false =>
  cases e9 : (p.kind != 9)
  case true =>
   by_cases n9 : 0 < p.codes.n
   ·
    have n9' : (0 : Int) < p.codes.n := by omega
    go_wp2
    go_ret
    exact ⟨by rw [HE.out]; simp [fE, hi, e8, e9, n9], BW.out _ R4.out⟩
   have n9' : ¬ (0 : Int) < p.codes.n := by omega
   cases e10 : (p.kind != 10)
   case true =>
    by_cases n10 : 0 < p.filters.n
    ·
     have n10' : (0 : Int) < p.filters.n := by omega
     go_wp2
     go_ret
     exact ⟨by rw [HE.out]; simp [fE, hi, e8, e9, n9, e10, n10], BW.out _ R4.out⟩
    have n10' : ¬ (0 : Int) < p.filters.n := by omega
    go_wp2
    go_ret
    exact ⟨by rw [HE.out]; simp [fE, hi, e8, e9, n9, e10, n10], BW.out _ R4.out⟩
   case false =>
    go_wp2
    go_ret
    exact ⟨by rw [HE.out]; simp [fE, hi, e8, e9, n9, e10], BW.out _ R4.out⟩
  case false =>
   cases e10 : (p.kind != 10)
   case true =>
    by_cases n10 : 0 < p.filters.n
    ·
     have n10' : (0 : Int) < p.filters.n := by omega
     go_wp2
     go_ret
     exact ⟨by rw [HE.out]; simp [fE, hi, e8, e9, e10, n10], BW.out _ R4.out⟩
    have n10' : ¬ (0 : Int) < p.filters.n := by omega
    go_wp2
    go_ret
    exact ⟨by rw [HE.out]; simp [fE, hi, e8, e9, e10, n10], BW.out _ R4.out⟩
   case false =>
    go_wp2
    go_ret
    exact ⟨by rw [HE.out]; simp [fE, hi, e8, e9, e10], BW.out _ R4.out⟩
theorem isEmpty_dec (t : ByteArray) : t.toList.isEmpty = decide (t.size = 0) := by
 have h := isEmpty_size t
 by_cases h0 : t.size = 0
 ·
  rw [h0] at h; rw [decide_eq_true h0]; revert h; cases t.toList.isEmpty <;> simp
 ·
  rw [decide_eq_false h0]; revert h; cases t.toList.isEmpty <;> simp [h0]
theorem zmsg_iff (t : ByteArray) (n : Nat) (q : Int) (r : Bool) : zmsg t n q r = true ↔ t.size = 0 ∧ q = 0 ∧ r = false ∧ n = 0 := by
 simp only [zmsg, Bool.and_eq_true, decide_eq_true_eq, Bool.not_eq_true']
 constructor
 ·
  rintro ⟨⟨⟨a, b⟩, c⟩, d⟩; exact ⟨a, c, d, b⟩
 ·
  rintro ⟨a, c, d, b⟩; exact ⟨⟨⟨a, b⟩, c⟩, d⟩
theorem forB_own (p : Pk) : forB p = false ↔ Own p := by
 have hA : fA p = false ↔ (p.kind ≠ 1 → p.level = 0 ∧ p.clean = false ∧ p.keep = 0 ∧ p.client.size = 0 ∧ p.hasWill = false ∧ p.hasUser = false ∧ p.hasPass = false) := by
  unfold fA
  rw [isEmpty_dec]
  by_cases h : p.kind = 1
  ·
   simp [h]
  ·
   simp [h]
   constructor
   ·
    rintro ⟨⟨⟨⟨⟨⟨a, b⟩, c⟩, d⟩, e⟩, f⟩, g⟩; exact ⟨a, b, c, d, e, f, g⟩
   ·
    rintro ⟨a, b, c, d, e, f, g⟩; exact ⟨⟨⟨⟨⟨⟨a, b⟩, c⟩, d⟩, e⟩, f⟩, g⟩
 have hB : fB p = false ↔ ((¬ (p.kind = 1 ∧ p.hasWill = true) → zmsg p.wT p.wP.n p.wQ p.wR = true) ∧ (¬ (p.kind = 1 ∧ p.hasUser = true) → p.user.size = 0) ∧ (¬ (p.kind = 1 ∧ p.hasPass = true) → p.pass.n = 0)) := by
  unfold fB
  rw [isEmpty_dec]
  cases zmsg p.wT p.wP.n p.wQ p.wR <;> cases p.hasWill <;> cases p.hasUser <;> cases p.hasPass <;> by_cases h : p.kind = 1 <;> by_cases hu : p.user.size = 0 <;> by_cases hp : p.pass.n = 0 <;> simp [h, hu, hp] <;> omega
 have hC : fC p = false ↔ (p.kind ≠ 2 → p.present = false ∧ p.code = 0) := by
  unfold fC
  by_cases h : p.kind = 2
  ·
   simp [h]
  ·
   simp [h]
 have hD : fD p = false ↔ (p.kind ≠ 3 → p.dup = false ∧ zmsg p.mT p.mP.n p.mQ p.mR = true) := by
  unfold fD
  by_cases h : p.kind = 3
  ·
   simp [h]
  ·
   simp [h]
 have hE : fE p = false ↔ ((hasID p = false → p.id = 0) ∧ (p.kind ≠ 8 → p.asks.n = 0) ∧ (p.kind ≠ 9 → p.codes.n = 0) ∧ (p.kind ≠ 10 → p.filters.n = 0)) := by
  unfold fE
  cases hasID p <;> by_cases h8 : p.kind = 8 <;> by_cases h9 : p.kind = 9 <;> by_cases h10 : p.kind = 10 <;> by_cases a : p.id = 0 <;> by_cases b : p.asks.n = 0 <;> by_cases c : p.codes.n = 0 <;> by_cases d : p.filters.n = 0 <;> simp [h8, h9, h10, a, b, c, d] <;> omega
 have e : forB p = false ↔ (fA p = false ∧ fB p = false ∧ fC p = false ∧ fD p = false ∧ fE p = false) := by
  unfold forB
  simp only [Bool.or_eq_false_iff]
  constructor
  ·
   rintro ⟨⟨⟨⟨a, b⟩, c⟩, d⟩, e⟩; exact ⟨a, b, c, d, e⟩
  ·
   rintro ⟨a, b, c, d, e⟩; exact ⟨⟨⟨⟨a, b⟩, c⟩, d⟩, e⟩
 rw [e, hA, hB, hC, hD, hE]
 constructor
 ·
  rintro ⟨a, ⟨b1, b2, b3⟩, c, d, e1, e2, e3, e4⟩
  exact { level := fun h => (a h).1, clean := fun h => (a h).2.1, keep := fun h => (a h).2.2.1, client := fun h => (a h).2.2.2.1, hasWill := fun h => (a h).2.2.2.2.1, will := fun h => (zmsg_iff _ _ _ _).1 (b1 h), hasUser := fun h => (a h).2.2.2.2.2.1, user := b2, hasPass := fun h => (a h).2.2.2.2.2.2, pass := b3, present := fun h => (c h).1, code := fun h => (c h).2, dup := fun h => (d h).1, msg := fun h => (zmsg_iff _ _ _ _).1 (d h).2, id := e1, asks := e2, codes := e3, filters := e4 }
 ·
  intro h
  exact ⟨fun k => ⟨h.level k, h.clean k, h.keep k, h.client k, h.hasWill k, h.hasUser k, h.hasPass k⟩, ⟨fun k => (zmsg_iff _ _ _ _).2 (h.will k), h.user, h.pass⟩, fun k => ⟨h.present k, h.code k⟩, fun k => ⟨h.dup k, (zmsg_iff _ _ _ _).2 (h.msg k)⟩, h.id, h.asks, h.codes, h.filters⟩
theorem bad1_for (p : Pk) (h1 : 1 ≤ p.kind) (h2 : p.kind ≤ 14) : bad1 p = (forB p || !bnd p) := by
 unfold bad1
 congr 1
 have h := own_is p h1 h2
 have g := forB_own p
 cases hf : forB p
 ·
  have := h.2 (g.1 hf); simp [this]
 ·
  have : ¬ gv p &&& (18446744073709551615 - fl p) = 0 := fun hh => by
   have := g.2 (h.1 hh); rw [hf] at this; cases this
  simpa using this
set_option maxHeartbeats 4000000
theorem within_any (k m : Int) (w : World) : Calls Tryz.prog 154 #[.int .i64 k, .int .i64 m] w fun e w' => e = .returned (.bool (decide (0 ≤ k) && decide (k ≤ m))) ∧ w' = w := by
 by_cases h1 : 0 ≤ k
 ·
  by_cases h2 : k ≤ m
  ·
   have e : (decide (0 ≤ k) && decide (k ≤ m)) = true := by simp [h1, h2]
   rw [e]; clear e
   go_enter Tryz.func154, Tryz.ntmps154
   go_wp2
   go_ret
   exact ⟨rfl, rfl⟩
  ·
   have e : (decide (0 ≤ k) && decide (k ≤ m)) = false := by simp [h1, h2]
   rw [e]; clear e
   go_enter Tryz.func154, Tryz.ntmps154
   go_wp2
   go_ret
   exact ⟨rfl, rfl⟩
 ·
  have e : (decide (0 ≤ k) && decide (k ≤ m)) = false := by simp [h1]
  rw [e]; clear e
  go_enter Tryz.func154, Tryz.ntmps154
  go_wp2
  go_ret
  exact ⟨rfl, rfl⟩
def qA (p : Pk) : Bool := (p.kind == 1 && p.hasWill && !isQ p.wQ) || (p.kind == 3 && !isQ p.mQ)
def rqls (p : Pk) (c : Cn) : Bool := !qA p && allN p.asks.n (fun i => isQ (c.aq i)) && allN p.codes.n (fun i => isC (c.cs i))
theorem within_q (q : Int) (w : World) : Calls Tryz.prog 154 #[.int .i64 q, .int .i64 2] w fun e w' => e = .returned (.bool (isQ q)) ∧ w' = w := within_any q 2 w
theorem rqualities_any (p : Pk) (c : Cn) (w : World) (hin : In w p c) (ha : p.asks.n ≤ 1000000) (hd : p.codes.n ≤ 1000000) : Calls Tryz.prog 158 #[p.v] w fun e w' => e = .returned (.bool (rqls p c)) ∧ Below w.heap.size w w' := by
 obtain ⟨x, hx⟩ : ∃ x, x = rqls p c := ⟨_, rfl⟩
 rw [← hx]
 have HX : Hid (x = rqls p c) := hx
 clear hx
 obtain ⟨P, hP⟩ : ∃ P, P = pkCells p := ⟨_, rfl⟩
 obtain ⟨W, hW⟩ : ∃ W, W = w.alloc (.cells P 29) := ⟨_, rfl⟩
 have b0 : Hid (Below w.heap.size w W) := box_below hW
 have FA : Hid (∀ k v, (pkCells p)[k]? = some v → W.cell? ⟨w.heap.size, k, none⟩ = some v) := fun k v h => by rw [hW]; exact box_cell w P 29 k v (by rw [hP]; exact h)
 rw [show p.v = .agg P by rw [hP]; rfl]
 clear hP
 have HA : Hid (As W p.asks c.af c.aq) := hin.asks.below b0.out
 have HS : Hid (Is W p.codes c.cs) := hin.codes.below b0.out
 have LA : Hid (p.asks.n ≤ 1000000) := ha
 have LC : Hid (p.codes.n ≤ 1000000) := hd
 clear hin ha hd
 obtain ⟨b1, h1⟩ : ∃ b, (p.kind == 1) = b := ⟨_, rfl⟩
 obtain ⟨b3, h3⟩ : ∃ b, (p.kind == 3) = b := ⟨_, rfl⟩
 go_enter Tryz.func158, Tryz.ntmps158
 go_upto_region 1 with fail
 rw [← hW]
 clear hW
 go_cut [30] from 5 (fun s30 wx => s30 = .bool (qA p) ∧ Hid (wx = W))
 case first =>
  have c0 := FA.out 0 (.int .i64 p.kind) rfl
  have c5 := FA.out 5 (.bool p.hasWill) rfl
  have c8 := FA.out 8 (.int .i64 p.wQ) rfl
  have c19 := FA.out 19 (.int .i64 p.mQ) rfl
  cases b1
  case false =>
   cases b3
   case false =>
    go_wp2_with fail
    go_meet
    case rel => exact ⟨by simp [qA, h1, h3], rfl⟩
   cases hmq : isQ p.mQ
   case false =>
    go_wp2_with (go_at_call 154; refine (within_q p.mQ _).mono ?_; rintro e w' ⟨rfl, hee⟩; obtain rfl := hee.symm; clear hee; rw [hmq])
    go_meet
    case rel => exact ⟨by simp [qA, h1, h3, hmq], rfl⟩
   go_wp2_with (go_at_call 154; refine (within_q p.mQ _).mono ?_; rintro e w' ⟨rfl, hee⟩; obtain rfl := hee.symm; clear hee; rw [hmq])
   go_meet
   case rel => exact ⟨by simp [qA, h1, h3, hmq], rfl⟩
  cases hw : p.hasWill
  case false =>
   rw [hw] at c5
   cases b3
   case false =>
    go_wp2_with fail
    go_meet
    case rel => exact ⟨by simp [qA, h1, hw, h3], rfl⟩
   cases hmq : isQ p.mQ
   case false =>
    go_wp2_with (go_at_call 154; refine (within_q p.mQ _).mono ?_; rintro e w' ⟨rfl, hee⟩; obtain rfl := hee.symm; clear hee; rw [hmq])
    go_meet
    case rel => exact ⟨by simp [qA, h1, hw, h3, hmq], rfl⟩
   go_wp2_with (go_at_call 154; refine (within_q p.mQ _).mono ?_; rintro e w' ⟨rfl, hee⟩; obtain rfl := hee.symm; clear hee; rw [hmq])
   go_meet
   case rel => exact ⟨by simp [qA, h1, hw, h3, hmq], rfl⟩
  rw [hw] at c5
  cases hwq : isQ p.wQ
  case false =>
   go_wp2_with (go_at_call 154; refine (within_q p.wQ _).mono ?_; rintro e w' ⟨rfl, hee⟩; obtain rfl := hee.symm; clear hee; rw [hwq])
   go_meet
   case rel => exact ⟨by simp [qA, h1, hw, hwq], rfl⟩
  cases b3
  case false =>
   go_wp2_with (go_at_call 154; refine (within_q p.wQ _).mono ?_; rintro e w' ⟨rfl, hee⟩; obtain rfl := hee.symm; clear hee; rw [hwq])
   go_meet
   case rel => exact ⟨by simp [qA, h1, hw, hwq, h3], rfl⟩
  cases hmq : isQ p.mQ
  case false =>
   go_wp2_with (go_at_call 154; refine (within_q _ _).mono ?_; rintro e w' ⟨rfl, hee⟩; obtain rfl := hee.symm; clear hee; first | rw [hwq] | rw [hmq])
   go_meet
   case rel => exact ⟨by simp [qA, h1, hw, hwq, h3, hmq], rfl⟩
  go_wp2_with (go_at_call 154; refine (within_q _ _).mono ?_; rintro e w' ⟨rfl, hee⟩; obtain rfl := hee.symm; clear hee; first | rw [hwq] | rw [hmq])
  go_meet
  case rel => exact ⟨by simp [qA, h1, hw, hwq, h3, hmq], rfl⟩
 case rest =>
 obtain ⟨rfl, hw1⟩ := hcut
 obtain rfl := hw1.out.symm
 clear hw1 h1 h3
 cases tA : qA p
 case true =>
  go_wp2
  go_ret
  exact ⟨by rw [HX.out, rqls, tA]; rfl, b0.out⟩
 have HQ : Hid (qA p = false) := tA
 clear tA
 have c22 := FA.out 22 (.slice p.asks.a p.asks.n p.asks.c) rfl
 have c23 := FA.out 23 (.slice p.codes.a p.codes.n p.codes.c) rfl
 go_wp2_with fail
 go_loopg [3] p.asks.n (fun g s3 wx => wx = W ∧ ∃ k : Nat, s3 = .int .i64 k ∧ k + g = p.asks.n ∧ Hid (∀ j, j < k → isQ (c.aq j) = true))
 case atStart => exact ⟨rfl, 0, rfl, by omega, fun j hj => absurd hj (Nat.not_lt_zero _)⟩
 case round =>
  obtain ⟨hw0, k, rfl, hkg, HD⟩ := hrel
  obtain rfl := hw0.symm
  clear hw0
  by_cases hk : k < p.asks.n
  ·
   have hk' : (k : Int) < p.asks.n := by omega
   obtain ⟨b, off, he, hc⟩ : ∃ b off, p.asks.a = some ⟨b, off, none⟩ ∧ ∀ i, i < p.asks.n → (W.cell? ⟨b, off + i * 2, none⟩ = some (.string (c.af i)) ∧ W.cell? ⟨b, off + i * 2 + 1, none⟩ = some (.int .i64 (c.aq i))) := by
    rcases HA.out.2 with h | h
    ·
     omega
    ·
     exact h
   have hac : p.asks.n ≤ p.asks.c := HA.out.1
   rw [he] at c22
   have d1 := (hc k hk).2
   have hw : IntKind.i64.wrap ((k : Int) + 1) = (k : Int) + 1 := by rw [IntKind.wrap_i64]; have := LA.out; omega
   clear hc he
   cases hq : isQ (c.aq k)
   case false =>
    have HR : Hid (x = false) := by show _ = _; rw [HX.out, rqls, allN_false k hk hq]; simp
    go_wp2_with (go_at_call 154; refine (within_q _ _).mono ?_; rintro e w' ⟨rfl, hee⟩; obtain rfl := hee.symm; clear hee; rw [hq])
    go_ret
    exact ⟨by rw [HR.out]; rfl, b0.out⟩
   have HN : Hid (∀ j, j < k + 1 → isQ (c.aq j) = true) := fun j hj => by
    rcases Nat.lt_or_ge j k with h | h
    ·
     exact HD.out j h
    ·
     obtain rfl : j = k := by omega
     exact hq
   go_wp2_with (go_at_call 154; refine (within_q _ _).mono ?_; rintro e w' ⟨rfl, hee⟩; obtain rfl := hee.symm; clear hee; rw [hq])
   go_roundg (p.asks.n - (k + 1))
   case measure => omega
   case rel => exact ⟨rfl, k + 1, by first | rfl | simp, by omega, HN⟩
  ·
   obtain rfl : k = p.asks.n := by omega
   have hk' : ¬ (p.asks.n : Int) < p.asks.n := by omega
   have AL : Hid (allN p.asks.n (fun i => isQ (c.aq i)) = true) := (allN_iff _ _).2 HD.out
   go_wp2_with fail
   clear hk'
   go_loopg [4] p.codes.n (fun g s4 wx => wx = W ∧ ∃ k : Nat, s4 = .int .i64 k ∧ k + g = p.codes.n ∧ Hid (∀ j, j < k → isC (c.cs j) = true))
   case atStart => exact ⟨rfl, 0, rfl, by omega, fun j hj => absurd hj (Nat.not_lt_zero _)⟩
   case round =>
    obtain ⟨hw0, j, rfl, hjg, HC⟩ := hrel
    obtain rfl := hw0.symm
    clear hw0
    by_cases hj : j < p.codes.n
    ·
     have hj' : (j : Int) < p.codes.n := by omega
     obtain ⟨b, off, he, hc⟩ : ∃ b off, p.codes.a = some ⟨b, off, none⟩ ∧ ∀ i, i < p.codes.n → W.cell? ⟨b, off + i, none⟩ = some (.int .i64 (c.cs i)) := by
      rcases HS.out.2 with h | h
      ·
       omega
      ·
       exact h
     have hac : p.codes.n ≤ p.codes.c := HS.out.1
     rw [he] at c23
     have d1 := hc j hj
     have hw : IntKind.i64.wrap ((j : Int) + 1) = (j : Int) + 1 := by rw [IntKind.wrap_i64]; have := LC.out; omega
     clear hc he
     cases hq : isQ (c.cs j)
     case false =>
      by_cases h128 : c.cs j = 128
      ·
       have h128' : (c.cs j != 128) = false := by simp [h128]
       have HN : Hid (∀ i, i < j + 1 → isC (c.cs i) = true) := fun i hi => by
        rcases Nat.lt_or_ge i j with h | h
        ·
         exact HC.out i h
        ·
         obtain rfl : i = j := by omega
         simp [isC, h128]
       clear h128
       go_wp2_with (go_at_call 154; refine (within_q _ _).mono ?_; rintro e w' ⟨rfl, hee⟩; obtain rfl := hee.symm; clear hee; rw [hq])
       go_roundg (p.codes.n - (j + 1))
       case measure => omega
       case rel => exact ⟨rfl, j + 1, by first | rfl | simp, by omega, HN⟩
      ·
       have h128' : (c.cs j != 128) = true := by simp [h128]
       have HR : Hid (x = false) := by show _ = _; rw [HX.out, rqls, allN_false (f := fun i => isC (c.cs i)) j hj (by simp [isC, hq, h128])]; simp
       clear h128
       go_wp2_with (go_at_call 154; refine (within_q _ _).mono ?_; rintro e w' ⟨rfl, hee⟩; obtain rfl := hee.symm; clear hee; rw [hq])
       go_ret
       exact ⟨by rw [HR.out]; rfl, b0.out⟩
     have HN : Hid (∀ i, i < j + 1 → isC (c.cs i) = true) := fun i hi => by
      rcases Nat.lt_or_ge i j with h | h
      ·
       exact HC.out i h
      ·
       obtain rfl : i = j := by omega
       simp [isC, hq]
     go_wp2_with (go_at_call 154; refine (within_q _ _).mono ?_; rintro e w' ⟨rfl, hee⟩; obtain rfl := hee.symm; clear hee; rw [hq])
     go_roundg (p.codes.n - (j + 1))
     case measure => omega
     case rel => exact ⟨rfl, j + 1, by first | rfl | simp, by omega, HN⟩
    ·
     obtain rfl : j = p.codes.n := by omega
     have hj' : ¬ (p.codes.n : Int) < p.codes.n := by omega
     have CL : Hid (allN p.codes.n (fun i => isC (c.cs i)) = true) := (allN_iff _ _).2 HC.out
     have HR : Hid (x = true) := by show _ = _; rw [HX.out, rqls, HQ.out, AL.out, CL.out]; rfl
     go_wp2
     go_ret
     exact ⟨by rw [HR.out]; rfl, b0.out⟩
end Go.Proofs.YtphofgnehdlafaaGreatDoor.Pkt
