import Derived.Test.YtdhinpmjbcohaaaSiH
namespace Go.Proofs.Ytdhinpmjbcohaaa.Si
open Go Go.RowKit
set_option linter.unusedSimpArgs false
set_option linter.unusedVariables false

/-- The world in which a key is looked up. -/
def gw (w : World) (k : Ky) : World := w
theorem ch_gw (S : Nat → Prop) (w : World) (k : Ky) : Ch S w (gw w k) := Ch.refl S w
theorem gw_size (w : World) (k : Ky) : (gw w k).heap.size = w.heap.size := by simp [gw]

set_option maxRecDepth 100000 in
set_option maxHeartbeats 1000000 in
theorem get_miss {cb : Nat} {m : Option Nat} {k : Ky} (w : World) (c2 : (gw w k).cell? ⟨cb, 2, none⟩ = some (.map m)) (hl : (Instr.lookup 122 (.map m) (kc k) false).run Try.prog (gw w k) = .ok (.pointer none) (gw w k)) :
    Calls Try.prog 29 #[pt cb, kc k] w fun r w' => r = .returned (.tuple #[vc 0, .bool false]) ∧ w' = gw w k := by
  unfold kc pt vc gw at *
  go_enter Try.func29, Try.ntmps29
  go_wp2_with fail
  all_goals go_ret2
  all_goals exact ⟨rfl, rfl⟩
set_option maxRecDepth 100000 in
set_option maxHeartbeats 1000000 in
theorem get_hit {cb b : Nat} {m : Option Nat} {k : Ky} {v : Vt} (w : World) {R : World → Prop} (c2 : (gw w k).cell? ⟨cb, 2, none⟩ = some (.map m)) (hl : (Instr.lookup 122 (.map m) (kc k) false).run Try.prog (gw w k) = .ok (pt b) (gw w k))
    (hu : Calls Try.prog 55 #[pt cb, pt b] (gw w k) fun r w' => r = .returned (.tuple #[]) ∧ R w') (hv : ∀ w1, R w1 → w1.cell? ⟨b, 3, none⟩ = some (vc v)) :
    Calls Try.prog 29 #[pt cb, kc k] w fun r w' => r = .returned (.tuple #[vc v, .bool true]) ∧ R w' := by
  have HU : Hid (Calls Try.prog 55 #[pt cb, pt b] (gw w k) fun r w' => r = .returned (.tuple #[]) ∧ R w') := hu
  have HV : Hid (∀ w1, R w1 → w1.cell? ⟨b, 3, none⟩ = some (vc v)) := hv
  clear hu hv
  unfold kc pt vc gw at *
  go_enter Try.func29, Try.ntmps29
  go_wp2_with fail
  all_goals go_must (go_at_call 55)
  all_goals refine (HU.out).mono ?_
  all_goals rintro r w1 ⟨rfl, h2⟩
  all_goals have c4 := HV.out w1 h2
  all_goals have g2 : Hid (R w1) := h2
  all_goals clear h2
  all_goals go_wp2_with fail
  all_goals go_ret2
  all_goals exact ⟨rfl, g2.out⟩
set_option maxRecDepth 100000 in
set_option maxHeartbeats 1000000 in
theorem put_hit {cb b : Nat} {m : Option Nat} {k : Ky} {v : Vt} {u : Value} (w : World) {R : World → Prop} (c2 : (gw w k).cell? ⟨cb, 2, none⟩ = some (.map m)) (hl : (Instr.lookup 122 (.map m) (kc k) false).run Try.prog (gw w k) = .ok (pt b) (gw w k))
    (cu : (gw w k).cell? ⟨b, 3, none⟩ = some u) (fu : (gw w k).frozen? ⟨b, 3, none⟩ = false)
    (hu : Calls Try.prog 55 #[pt cb, pt b] ((gw w k).setCell ⟨b, 3, none⟩ (vc v)) fun r w' => r = .returned (.tuple #[]) ∧ R w') :
    Calls Try.prog 31 #[pt cb, kc k, vc v] w fun r w' => r = .returned (.tuple #[]) ∧ R w' := by
  have HU : Hid (Calls Try.prog 55 #[pt cb, pt b] ((gw w k).setCell ⟨b, 3, none⟩ (vc v)) fun r w' => r = .returned (.tuple #[]) ∧ R w') := hu
  clear hu
  unfold kc pt vc gw at *
  go_enter Try.func31, Try.ntmps31
  go_wp2_with fail
  all_goals go_must (go_at_call 55)
  all_goals refine (HU.out).mono ?_
  all_goals rintro r w1 ⟨rfl, h2⟩
  all_goals have g2 : Hid (R w1) := h2
  all_goals clear h2
  all_goals go_wp2_with fail
  all_goals first | go_end0 | refine bodyPost_ret (results_none rfl _ _ _) rfl ?_
  all_goals exact ⟨rfl, g2.out⟩
/-- A new entry's cells. -/
def nc (k : Ky) (v : Vt) : Array Value := #[.pointer none, .pointer none, .string k, vc v]
theorem built_nc (k : Ky) (v : Vt) : Try.prog.built 129 [(1, kc k), (2, vc v)] = some (nc k v) := by kernel_rfl
set_option maxRecDepth 100000 in
set_option maxHeartbeats 1000000 in
theorem put_miss {cb : Nat} {m : Option Nat} {k : Ky} {v : Vt} {room : Nat} (w : World) {R1 R2 : World → Prop} (c2 : (gw w k).cell? ⟨cb, 2, none⟩ = some (.map m)) (hl : (Instr.lookup 122 (.map m) (kc k) false).run Try.prog (gw w k) = .ok (.pointer none) (gw w k))
    (hu : Calls Try.prog 58 #[pt cb, pt (w.heap.size)] ((gw w k).alloc (.cells (nc k v) 129)) fun r w' => r = .returned (.tuple #[]) ∧ R1 w')
    (h3 : ∀ w3, R1 w3 → ∃ (m' : Option Nat) (x q t : Nat), w3.drew.cell? ⟨cb, 2, none⟩ = some (.map m') ∧ (Builtin.len_ #[122] 3 #[.map m']).run Try.prog w3.drew = .ok (.int .i64 t) w3.drew ∧ w3.drew.cell? ⟨cb, 0, none⟩ = some (.int .i64 room) ∧ w3.drew.cell? ⟨cb, 1, none⟩ = some (pt x) ∧ w3.drew.cell? ⟨x, 0, none⟩ = some (pt q) ∧
      ((¬ (room : Int) < t ∧ R2 w3.drew) ∨ ((room : Int) < t ∧ Calls Try.prog 59 #[pt cb, pt q] w3.drew fun r w' => r = .returned (.tuple #[]) ∧ R2 w'))) :
    Calls Try.prog 31 #[pt cb, kc k, vc v] w fun r w' => r = .returned (.tuple #[]) ∧ R2 w' := by
  have HU : Hid (Calls Try.prog 58 #[pt cb, pt (w.heap.size)] ((gw w k).alloc (.cells (nc k v) 129)) fun r w' => r = .returned (.tuple #[]) ∧ R1 w') := hu
  have H3 : Hid (∀ w3, R1 w3 → ∃ (m' : Option Nat) (x q t : Nat), w3.drew.cell? ⟨cb, 2, none⟩ = some (.map m') ∧ (Builtin.len_ #[122] 3 #[.map m']).run Try.prog w3.drew = .ok (.int .i64 t) w3.drew ∧ w3.drew.cell? ⟨cb, 0, none⟩ = some (.int .i64 room) ∧ w3.drew.cell? ⟨cb, 1, none⟩ = some (pt x) ∧ w3.drew.cell? ⟨x, 0, none⟩ = some (pt q) ∧
      ((¬ (room : Int) < t ∧ R2 w3.drew) ∨ ((room : Int) < t ∧ Calls Try.prog 59 #[pt cb, pt q] w3.drew fun r w' => r = .returned (.tuple #[]) ∧ R2 w'))) := h3
  have hb : ∀ w', (Instr.build 129 #[(1, kc k), (2, vc v)]).run Try.prog w' = .ok (.agg (nc k v)) w' := fun w' => run_build w' 129 _ _ (built_nc k v)
  clear hu h3
  unfold kc pt vc gw nc at *
  unfold vc at *
  go_enter Try.func31, Try.ntmps31
  go_wp2_with fail
  all_goals go_must (go_at_call 58)
  all_goals refine (HU.out).mono ?_
  all_goals rintro r w3 ⟨rfl, h2⟩
  all_goals obtain ⟨m', x, q, t, e2, el, e0, e1, ex, hor⟩ := H3.out w3 h2
  all_goals clear h2
  all_goals rcases hor with ⟨hlt, hR⟩ | ⟨hlt, hR⟩
  · have g2 : Hid (R2 w3.drew) := hR
    clear hR
    go_wp2_with fail
    go_region
    all_goals go_wp2_with fail
    all_goals first | go_end0 | refine bodyPost_ret (results_none rfl _ _ _) rfl ?_
    all_goals exact ⟨rfl, g2.out⟩
  · have g2 : Hid (Calls Try.prog 59 #[.pointer (some ⟨cb, 0, none⟩), .pointer (some ⟨q, 0, none⟩)] w3.drew fun r w' => r = .returned (.tuple #[]) ∧ R2 w') := hR
    clear hR
    go_wp2_with fail
    go_region
    all_goals go_wp2_with fail
    all_goals go_must (go_at_call 59)
    all_goals refine (g2.out).mono ?_
    all_goals rintro r w4 ⟨rfl, h4⟩
    all_goals have g4 : Hid (R2 w4) := h4
    all_goals clear h4
    all_goals go_wp2_with fail
    all_goals first | go_end0 | refine bodyPost_ret (results_none rfl _ _ _) rfl ?_
    all_goals exact ⟨rfl, g4.out⟩
set_option maxRecDepth 100000 in
set_option maxHeartbeats 1000000 in
theorem drop_miss {cb : Nat} {m : Option Nat} {k : Ky} (w : World) (c2 : (gw w k).cell? ⟨cb, 2, none⟩ = some (.map m)) (hl : (Instr.lookup 122 (.map m) (kc k) false).run Try.prog (gw w k) = .ok (.pointer none) (gw w k)) :
    Calls Try.prog 33 #[pt cb, kc k] w fun r w' => r = .returned (.bool false) ∧ w' = gw w k := by
  unfold kc pt gw at *
  go_enter Try.func33, Try.ntmps33
  go_wp2_with fail
  all_goals go_ret
  all_goals exact ⟨rfl, rfl⟩
set_option maxRecDepth 100000 in
set_option maxHeartbeats 1000000 in
theorem drop_hit {cb b : Nat} {m : Option Nat} {k : Ky} (w : World) {R : World → Prop} (c2 : (gw w k).cell? ⟨cb, 2, none⟩ = some (.map m)) (hl : (Instr.lookup 122 (.map m) (kc k) false).run Try.prog (gw w k) = .ok (pt b) (gw w k))
    (hu : Calls Try.prog 59 #[pt cb, pt b] (gw w k) fun r w' => r = .returned (.tuple #[]) ∧ R w') :
    Calls Try.prog 33 #[pt cb, kc k] w fun r w' => r = .returned (.bool true) ∧ R w' := by
  have HU : Hid (Calls Try.prog 59 #[pt cb, pt b] (gw w k) fun r w' => r = .returned (.tuple #[]) ∧ R w') := hu
  clear hu
  unfold kc pt gw at *
  go_enter Try.func33, Try.ntmps33
  go_wp2_with fail
  all_goals go_must (go_at_call 59)
  all_goals refine (HU.out).mono ?_
  all_goals rintro r w1 ⟨rfl, h2⟩
  all_goals have g2 : Hid (R w1) := h2
  all_goals clear h2
  all_goals go_wp2_with fail
  all_goals go_ret
  all_goals exact ⟨rfl, g2.out⟩
set_option maxRecDepth 100000 in
set_option maxHeartbeats 1000000 in
theorem len_run {cb t : Nat} {m : Option Nat} (w : World) (c2 : w.cell? ⟨cb, 2, none⟩ = some (.map m)) (hl : (Builtin.len_ #[122] 3 #[.map m]).run Try.prog w = .ok (.int .i64 t) w) :
    Calls Try.prog 37 #[pt cb] w fun r w' => r = .returned (.int .i64 t) ∧ w' = w := by
  unfold pt at *
  go_enter Try.func37, Try.ntmps37
  go_wp2_with fail
  go_ret
  exact ⟨rfl, rfl⟩
set_option maxRecDepth 100000 in
set_option maxHeartbeats 1000000 in
theorem clear_run {cb t : Nat} {m : Option Nat} {lp : Value} (w : World) (c2 : w.cell? ⟨cb, 2, none⟩ = some (.map m)) (c1 : w.cell? ⟨cb, 1, none⟩ = some lp) (f1 : w.frozen? ⟨cb, 1, none⟩ = false) (f2 : w.frozen? ⟨cb, 2, none⟩ = false) (hl : (Builtin.len_ #[122] 3 #[.map m]).run Try.prog w = .ok (.int .i64 t) w) :
    Calls Try.prog 35 #[pt cb] w fun r w' => r = .returned (.int .i64 t) ∧ w' = (w.setCell ⟨cb, 1, none⟩ (.pointer none)).setCell ⟨cb, 2, none⟩ (.map none) := by
  unfold pt at *
  go_enter Try.func35, Try.ntmps35
  go_wp2_with fail
  go_ret
  exact ⟨rfl, rfl⟩
/-- How many a cache may hold. -/
def rm (most : Int) : Nat := (min (max most 0) 1048576).toNat
theorem rm_eq (most : Int) : ((rm most : Nat) : Int) = min (max most 0) 1048576 := by unfold rm; omega
theorem built_new (x : Int) : Try.prog.built 124 [(0, .int .i64 x)] = some #[.int .i64 x, .pointer none, .map none] := by kernel_rfl
set_option maxRecDepth 100000 in
set_option maxHeartbeats 1000000 in
theorem new_run (most : Int) (w : World) : Calls Try.prog 25 #[.int .i64 most] w fun r w' => r = .returned (pt w.heap.size) ∧ w' = w.alloc (.cells #[.int .i64 (rm most), .pointer none, .map none] 124) := by
  have e1 := rm_eq most
  obtain ⟨x, hx⟩ : ∃ x : Int, x = max most 0 := ⟨_, rfl⟩
  obtain ⟨y, hy⟩ : ∃ y : Int, y = min x 1048576 := ⟨_, rfl⟩
  rw [← hx, ← hy] at e1
  rw [e1]
  have hb : ∀ w', (Instr.build 124 #[(0, .int .i64 y)]).run Try.prog w' = .ok (.agg #[.int .i64 y, .pointer none, .map none]) w' := fun w' => run_build w' 124 _ _ (built_new y)
  have hx' := hx.symm
  have hy' := hy.symm
  clear e1 hx hy
  unfold pt
  go_enter Try.func25, Try.ntmps25
  go_wp2_with fail
  go_ret
  exact ⟨rfl, rfl⟩
end Go.Proofs.Ytdhinpmjbcohaaa.Si
