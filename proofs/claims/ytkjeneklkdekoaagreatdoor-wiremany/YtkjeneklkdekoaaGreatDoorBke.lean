import Derived.Test.YtkjeneklkdekoaaGreatDoorBkc
namespace Go.Proofs.YtkjeneklkdekoaaGreatDoor
open Go Go.RowKit
set_option linter.unusedSimpArgs false
set_option linter.unusedVariables false

set_option maxRecDepth 100000 in
set_option maxHeartbeats 400000 in
theorem markPackets_none (bb : Nat) (cs : Array Value) (w : World) (hB : BkAt w bb cs) (hr : Rest cs) :
    Calls Tryz.prog 147 #[.pointer (some ⟨bb, 0, none⟩)] w fun e w' => e = .returned (.tuple #[]) ∧ w' = w := by
  have x2 : w.cell? ⟨bb, 87, none⟩ = some (.slice none 0 0) := (bk_cell hB (hr 9 (by decide) (by decide) 2 (by decide))).1
  have x3 : w.cell? ⟨bb, 88, none⟩ = some (.slice none 0 0) := (bk_cell hB (hr 9 (by decide) (by decide) 3 (by decide))).1
  have x5 : w.cell? ⟨bb, 90, none⟩ = some (.slice none 0 0) := (bk_cell hB (hr 9 (by decide) (by decide) 5 (by decide))).1
  have x6 : w.cell? ⟨bb, 91, none⟩ = some (.slice none 0 0) := (bk_cell hB (hr 9 (by decide) (by decide) 6 (by decide))).1
  clear hB hr
  go_enter Tryz.func147, Tryz.ntmps147
  go_wp2
  exact bodyPost_ret (results_none rfl _ _ _) rfl ⟨rfl, rfl⟩
set_option maxRecDepth 100000 in
set_option maxHeartbeats 400000 in
theorem holdPackets_none (bb : Nat) (cs : Array Value) (w : World) (hB : BkAt w bb cs) (hr : Rest cs) :
    Calls Tryz.prog 52 #[.pointer (some ⟨bb, 0, none⟩)] w fun e w' => e = .returned (.bool true) ∧ w' = w := by
  have x0 : w.cell? ⟨bb, 85, none⟩ = some (.slice none 0 0) := (bk_cell hB (hr 9 (by decide) (by decide) 0 (by decide))).1
  have x2 : w.cell? ⟨bb, 87, none⟩ = some (.slice none 0 0) := (bk_cell hB (hr 9 (by decide) (by decide) 2 (by decide))).1
  clear hB hr
  go_enter Tryz.func52, Tryz.ntmps52
  go_wp2
  go_loop [3] (fun i => i = .int .i64 0) (fun _ => 0)
  case atStart => rfl
  case round =>
    subst hrel
    go_wp2
    go_loop [4] (fun i => i = .int .i64 0) (fun _ => 0)
    case atStart => rfl
    case round =>
      subst hrel
      go_wp2
      go_ret
      exact ⟨rfl, rfl⟩
set_option maxRecDepth 100000 in
set_option maxHeartbeats 400000 in
theorem growPackets_none (bb : Nat) (cs : Array Value) (w : World) (hB : BkAt w bb cs) (hr : Rest cs) :
    Calls Tryz.prog 164 #[.pointer (some ⟨bb, 0, none⟩)] w fun e w' => e = .returned (.tuple #[]) ∧ BkAt w' bb cs ∧ w.grownBy w' (some bb) := by
  have r4 : cs[89]? = some (.slice none 0 0) := hr 9 (by decide) (by decide) 4 (by decide)
  have r7 : cs[92]? = some (.slice none 0 0) := hr 9 (by decide) (by decide) 7 (by decide)
  obtain ⟨x4, y4⟩ := bk_cell hB r4
  obtain ⟨x7, y7⟩ := bk_cell hB r7
  have HB : Hid (BkAt w bb cs) := hB
  have R4 : Hid (cs[89]? = some (.slice none 0 0)) := r4
  have R7 : Hid (cs[92]? = some (.slice none 0 0)) := r7
  clear hB hr r4 r7
  go_enter Tryz.func164, Tryz.ntmps164
  go_wp2
  go_loop [2] (fun i => i = .int .i64 0) (fun _ => 0)
  case atStart => rfl
  case round =>
    subst hrel
    go_wp2
    go_end0
    exact ⟨rfl, (HB.out.same R4.out).same R7.out, gb_set (gb_set (gb_refl _ _) _ _) _ _⟩
set_option maxRecDepth 100000 in
set_option maxHeartbeats 400000 in
theorem markFlights_none (bb : Nat) (cs : Array Value) (w : World) (hB : BkAt w bb cs) (hr : Rest cs) :
    Calls Tryz.prog 148 #[.pointer (some ⟨bb, 0, none⟩)] w fun e w' => e = .returned (.tuple #[]) ∧ w' = w := by
  have x2 : w.cell? ⟨bb, 96, none⟩ = some (.slice none 0 0) := (bk_cell hB (hr 10 (by decide) (by decide) 2 (by decide))).1
  have x3 : w.cell? ⟨bb, 97, none⟩ = some (.slice none 0 0) := (bk_cell hB (hr 10 (by decide) (by decide) 3 (by decide))).1
  have x5 : w.cell? ⟨bb, 99, none⟩ = some (.slice none 0 0) := (bk_cell hB (hr 10 (by decide) (by decide) 5 (by decide))).1
  have x6 : w.cell? ⟨bb, 100, none⟩ = some (.slice none 0 0) := (bk_cell hB (hr 10 (by decide) (by decide) 6 (by decide))).1
  clear hB hr
  go_enter Tryz.func148, Tryz.ntmps148
  go_wp2
  exact bodyPost_ret (results_none rfl _ _ _) rfl ⟨rfl, rfl⟩
set_option maxRecDepth 100000 in
set_option maxHeartbeats 400000 in
theorem holdFlights_none (bb : Nat) (cs : Array Value) (w : World) (hB : BkAt w bb cs) (hr : Rest cs) :
    Calls Tryz.prog 53 #[.pointer (some ⟨bb, 0, none⟩)] w fun e w' => e = .returned (.bool true) ∧ w' = w := by
  have x0 : w.cell? ⟨bb, 94, none⟩ = some (.slice none 0 0) := (bk_cell hB (hr 10 (by decide) (by decide) 0 (by decide))).1
  have x2 : w.cell? ⟨bb, 96, none⟩ = some (.slice none 0 0) := (bk_cell hB (hr 10 (by decide) (by decide) 2 (by decide))).1
  clear hB hr
  go_enter Tryz.func53, Tryz.ntmps53
  go_wp2
  go_loop [3] (fun i => i = .int .i64 0) (fun _ => 0)
  case atStart => rfl
  case round =>
    subst hrel
    go_wp2
    go_loop [4] (fun i => i = .int .i64 0) (fun _ => 0)
    case atStart => rfl
    case round =>
      subst hrel
      go_wp2
      go_ret
      exact ⟨rfl, rfl⟩
set_option maxRecDepth 100000 in
set_option maxHeartbeats 400000 in
theorem growFlights_none (bb : Nat) (cs : Array Value) (w : World) (hB : BkAt w bb cs) (hr : Rest cs) :
    Calls Tryz.prog 165 #[.pointer (some ⟨bb, 0, none⟩)] w fun e w' => e = .returned (.tuple #[]) ∧ BkAt w' bb cs ∧ w.grownBy w' (some bb) := by
  have r4 : cs[98]? = some (.slice none 0 0) := hr 10 (by decide) (by decide) 4 (by decide)
  have r7 : cs[101]? = some (.slice none 0 0) := hr 10 (by decide) (by decide) 7 (by decide)
  obtain ⟨x4, y4⟩ := bk_cell hB r4
  obtain ⟨x7, y7⟩ := bk_cell hB r7
  have HB : Hid (BkAt w bb cs) := hB
  have R4 : Hid (cs[98]? = some (.slice none 0 0)) := r4
  have R7 : Hid (cs[101]? = some (.slice none 0 0)) := r7
  clear hB hr r4 r7
  go_enter Tryz.func165, Tryz.ntmps165
  go_wp2
  go_loop [2] (fun i => i = .int .i64 0) (fun _ => 0)
  case atStart => rfl
  case round =>
    subst hrel
    go_wp2
    go_end0
    exact ⟨rfl, (HB.out.same R4.out).same R7.out, gb_set (gb_set (gb_refl _ _) _ _) _ _⟩
set_option maxRecDepth 100000 in
set_option maxHeartbeats 400000 in
theorem markOuts_none (bb : Nat) (cs : Array Value) (w : World) (hB : BkAt w bb cs) (hr : Rest cs) :
    Calls Tryz.prog 149 #[.pointer (some ⟨bb, 0, none⟩)] w fun e w' => e = .returned (.tuple #[]) ∧ w' = w := by
  have x2 : w.cell? ⟨bb, 105, none⟩ = some (.slice none 0 0) := (bk_cell hB (hr 11 (by decide) (by decide) 2 (by decide))).1
  have x3 : w.cell? ⟨bb, 106, none⟩ = some (.slice none 0 0) := (bk_cell hB (hr 11 (by decide) (by decide) 3 (by decide))).1
  have x5 : w.cell? ⟨bb, 108, none⟩ = some (.slice none 0 0) := (bk_cell hB (hr 11 (by decide) (by decide) 5 (by decide))).1
  have x6 : w.cell? ⟨bb, 109, none⟩ = some (.slice none 0 0) := (bk_cell hB (hr 11 (by decide) (by decide) 6 (by decide))).1
  clear hB hr
  go_enter Tryz.func149, Tryz.ntmps149
  go_wp2
  exact bodyPost_ret (results_none rfl _ _ _) rfl ⟨rfl, rfl⟩
set_option maxRecDepth 100000 in
set_option maxHeartbeats 400000 in
theorem holdOuts_none (bb : Nat) (cs : Array Value) (w : World) (hB : BkAt w bb cs) (hr : Rest cs) :
    Calls Tryz.prog 54 #[.pointer (some ⟨bb, 0, none⟩)] w fun e w' => e = .returned (.bool true) ∧ w' = w := by
  have x0 : w.cell? ⟨bb, 103, none⟩ = some (.slice none 0 0) := (bk_cell hB (hr 11 (by decide) (by decide) 0 (by decide))).1
  have x2 : w.cell? ⟨bb, 105, none⟩ = some (.slice none 0 0) := (bk_cell hB (hr 11 (by decide) (by decide) 2 (by decide))).1
  clear hB hr
  go_enter Tryz.func54, Tryz.ntmps54
  go_wp2
  go_loop [3] (fun i => i = .int .i64 0) (fun _ => 0)
  case atStart => rfl
  case round =>
    subst hrel
    go_wp2
    go_loop [4] (fun i => i = .int .i64 0) (fun _ => 0)
    case atStart => rfl
    case round =>
      subst hrel
      go_wp2
      go_ret
      exact ⟨rfl, rfl⟩
set_option maxRecDepth 100000 in
set_option maxHeartbeats 400000 in
theorem growOuts_none (bb : Nat) (cs : Array Value) (w : World) (hB : BkAt w bb cs) (hr : Rest cs) :
    Calls Tryz.prog 166 #[.pointer (some ⟨bb, 0, none⟩)] w fun e w' => e = .returned (.tuple #[]) ∧ BkAt w' bb cs ∧ w.grownBy w' (some bb) := by
  have r4 : cs[107]? = some (.slice none 0 0) := hr 11 (by decide) (by decide) 4 (by decide)
  have r7 : cs[110]? = some (.slice none 0 0) := hr 11 (by decide) (by decide) 7 (by decide)
  obtain ⟨x4, y4⟩ := bk_cell hB r4
  obtain ⟨x7, y7⟩ := bk_cell hB r7
  have HB : Hid (BkAt w bb cs) := hB
  have R4 : Hid (cs[107]? = some (.slice none 0 0)) := r4
  have R7 : Hid (cs[110]? = some (.slice none 0 0)) := r7
  clear hB hr r4 r7
  go_enter Tryz.func166, Tryz.ntmps166
  go_wp2
  go_loop [2] (fun i => i = .int .i64 0) (fun _ => 0)
  case atStart => rfl
  case round =>
    subst hrel
    go_wp2
    go_end0
    exact ⟨rfl, (HB.out.same R4.out).same R7.out, gb_set (gb_set (gb_refl _ _) _ _) _ _⟩
set_option maxRecDepth 100000 in
set_option maxHeartbeats 400000 in
theorem markInputs_none (bb : Nat) (cs : Array Value) (w : World) (hB : BkAt w bb cs) (hr : Rest cs) :
    Calls Tryz.prog 150 #[.pointer (some ⟨bb, 0, none⟩)] w fun e w' => e = .returned (.tuple #[]) ∧ w' = w := by
  have x2 : w.cell? ⟨bb, 114, none⟩ = some (.slice none 0 0) := (bk_cell hB (hr 12 (by decide) (by decide) 2 (by decide))).1
  have x3 : w.cell? ⟨bb, 115, none⟩ = some (.slice none 0 0) := (bk_cell hB (hr 12 (by decide) (by decide) 3 (by decide))).1
  have x5 : w.cell? ⟨bb, 117, none⟩ = some (.slice none 0 0) := (bk_cell hB (hr 12 (by decide) (by decide) 5 (by decide))).1
  have x6 : w.cell? ⟨bb, 118, none⟩ = some (.slice none 0 0) := (bk_cell hB (hr 12 (by decide) (by decide) 6 (by decide))).1
  clear hB hr
  go_enter Tryz.func150, Tryz.ntmps150
  go_wp2
  exact bodyPost_ret (results_none rfl _ _ _) rfl ⟨rfl, rfl⟩
set_option maxRecDepth 100000 in
set_option maxHeartbeats 400000 in
theorem holdInputs_none (bb : Nat) (cs : Array Value) (w : World) (hB : BkAt w bb cs) (hr : Rest cs) :
    Calls Tryz.prog 55 #[.pointer (some ⟨bb, 0, none⟩)] w fun e w' => e = .returned (.bool true) ∧ w' = w := by
  have x0 : w.cell? ⟨bb, 112, none⟩ = some (.slice none 0 0) := (bk_cell hB (hr 12 (by decide) (by decide) 0 (by decide))).1
  have x2 : w.cell? ⟨bb, 114, none⟩ = some (.slice none 0 0) := (bk_cell hB (hr 12 (by decide) (by decide) 2 (by decide))).1
  clear hB hr
  go_enter Tryz.func55, Tryz.ntmps55
  go_wp2
  go_loop [3] (fun i => i = .int .i64 0) (fun _ => 0)
  case atStart => rfl
  case round =>
    subst hrel
    go_wp2
    go_loop [4] (fun i => i = .int .i64 0) (fun _ => 0)
    case atStart => rfl
    case round =>
      subst hrel
      go_wp2
      go_ret
      exact ⟨rfl, rfl⟩
set_option maxRecDepth 100000 in
set_option maxHeartbeats 400000 in
theorem growInputs_none (bb : Nat) (cs : Array Value) (w : World) (hB : BkAt w bb cs) (hr : Rest cs) :
    Calls Tryz.prog 167 #[.pointer (some ⟨bb, 0, none⟩)] w fun e w' => e = .returned (.tuple #[]) ∧ BkAt w' bb cs ∧ w.grownBy w' (some bb) := by
  have r4 : cs[116]? = some (.slice none 0 0) := hr 12 (by decide) (by decide) 4 (by decide)
  have r7 : cs[119]? = some (.slice none 0 0) := hr 12 (by decide) (by decide) 7 (by decide)
  obtain ⟨x4, y4⟩ := bk_cell hB r4
  obtain ⟨x7, y7⟩ := bk_cell hB r7
  have HB : Hid (BkAt w bb cs) := hB
  have R4 : Hid (cs[116]? = some (.slice none 0 0)) := r4
  have R7 : Hid (cs[119]? = some (.slice none 0 0)) := r7
  clear hB hr r4 r7
  go_enter Tryz.func167, Tryz.ntmps167
  go_wp2
  go_loop [2] (fun i => i = .int .i64 0) (fun _ => 0)
  case atStart => rfl
  case round =>
    subst hrel
    go_wp2
    go_end0
    exact ⟨rfl, (HB.out.same R4.out).same R7.out, gb_set (gb_set (gb_refl _ _) _ _) _ _⟩
end Go.Proofs.YtkjeneklkdekoaaGreatDoor
namespace Go.Proofs.YtkjeneklkdekoaaGreatDoor
open Go Go.RowKit
set_option linter.unusedSimpArgs false
set_option linter.unusedVariables false

set_option maxRecDepth 100000 in
set_option maxHeartbeats 400000 in
theorem markTolds_none (bb : Nat) (cs : Array Value) (w : World) (hB : BkAt w bb cs) (hr : Rest cs) :
    Calls Tryz.prog 151 #[.pointer (some ⟨bb, 0, none⟩)] w fun e w' => e = .returned (.tuple #[]) ∧ w' = w := by
  have x2 : w.cell? ⟨bb, 123, none⟩ = some (.slice none 0 0) := (bk_cell hB (hr 13 (by decide) (by decide) 2 (by decide))).1
  have x3 : w.cell? ⟨bb, 124, none⟩ = some (.slice none 0 0) := (bk_cell hB (hr 13 (by decide) (by decide) 3 (by decide))).1
  have x5 : w.cell? ⟨bb, 126, none⟩ = some (.slice none 0 0) := (bk_cell hB (hr 13 (by decide) (by decide) 5 (by decide))).1
  have x6 : w.cell? ⟨bb, 127, none⟩ = some (.slice none 0 0) := (bk_cell hB (hr 13 (by decide) (by decide) 6 (by decide))).1
  clear hB hr
  go_enter Tryz.func151, Tryz.ntmps151
  go_wp2
  exact bodyPost_ret (results_none rfl _ _ _) rfl ⟨rfl, rfl⟩
set_option maxRecDepth 100000 in
set_option maxHeartbeats 400000 in
theorem holdTolds_none (bb : Nat) (cs : Array Value) (w : World) (hB : BkAt w bb cs) (hr : Rest cs) :
    Calls Tryz.prog 56 #[.pointer (some ⟨bb, 0, none⟩)] w fun e w' => e = .returned (.bool true) ∧ w' = w := by
  have x0 : w.cell? ⟨bb, 121, none⟩ = some (.slice none 0 0) := (bk_cell hB (hr 13 (by decide) (by decide) 0 (by decide))).1
  have x2 : w.cell? ⟨bb, 123, none⟩ = some (.slice none 0 0) := (bk_cell hB (hr 13 (by decide) (by decide) 2 (by decide))).1
  clear hB hr
  go_enter Tryz.func56, Tryz.ntmps56
  go_wp2
  go_loop [3] (fun i => i = .int .i64 0) (fun _ => 0)
  case atStart => rfl
  case round =>
    subst hrel
    go_wp2
    go_loop [4] (fun i => i = .int .i64 0) (fun _ => 0)
    case atStart => rfl
    case round =>
      subst hrel
      go_wp2
      go_ret
      exact ⟨rfl, rfl⟩
set_option maxRecDepth 100000 in
set_option maxHeartbeats 400000 in
theorem growTolds_none (bb : Nat) (cs : Array Value) (w : World) (hB : BkAt w bb cs) (hr : Rest cs) :
    Calls Tryz.prog 168 #[.pointer (some ⟨bb, 0, none⟩)] w fun e w' => e = .returned (.tuple #[]) ∧ BkAt w' bb cs ∧ w.grownBy w' (some bb) := by
  have r4 : cs[125]? = some (.slice none 0 0) := hr 13 (by decide) (by decide) 4 (by decide)
  have r7 : cs[128]? = some (.slice none 0 0) := hr 13 (by decide) (by decide) 7 (by decide)
  obtain ⟨x4, y4⟩ := bk_cell hB r4
  obtain ⟨x7, y7⟩ := bk_cell hB r7
  have HB : Hid (BkAt w bb cs) := hB
  have R4 : Hid (cs[125]? = some (.slice none 0 0)) := r4
  have R7 : Hid (cs[128]? = some (.slice none 0 0)) := r7
  clear hB hr r4 r7
  go_enter Tryz.func168, Tryz.ntmps168
  go_wp2
  go_loop [2] (fun i => i = .int .i64 0) (fun _ => 0)
  case atStart => rfl
  case round =>
    subst hrel
    go_wp2
    go_end0
    exact ⟨rfl, (HB.out.same R4.out).same R7.out, gb_set (gb_set (gb_refl _ _) _ _) _ _⟩
set_option maxRecDepth 100000 in
set_option maxHeartbeats 400000 in
theorem markSessions_none (bb : Nat) (cs : Array Value) (w : World) (hB : BkAt w bb cs) (hr : Rest cs) :
    Calls Tryz.prog 152 #[.pointer (some ⟨bb, 0, none⟩)] w fun e w' => e = .returned (.tuple #[]) ∧ w' = w := by
  have x2 : w.cell? ⟨bb, 132, none⟩ = some (.slice none 0 0) := (bk_cell hB (hr 14 (by decide) (by decide) 2 (by decide))).1
  have x3 : w.cell? ⟨bb, 133, none⟩ = some (.slice none 0 0) := (bk_cell hB (hr 14 (by decide) (by decide) 3 (by decide))).1
  have x5 : w.cell? ⟨bb, 135, none⟩ = some (.slice none 0 0) := (bk_cell hB (hr 14 (by decide) (by decide) 5 (by decide))).1
  have x6 : w.cell? ⟨bb, 136, none⟩ = some (.slice none 0 0) := (bk_cell hB (hr 14 (by decide) (by decide) 6 (by decide))).1
  clear hB hr
  go_enter Tryz.func152, Tryz.ntmps152
  go_wp2
  exact bodyPost_ret (results_none rfl _ _ _) rfl ⟨rfl, rfl⟩
set_option maxRecDepth 100000 in
set_option maxHeartbeats 400000 in
theorem holdSessions_none (bb : Nat) (cs : Array Value) (w : World) (hB : BkAt w bb cs) (hr : Rest cs) :
    Calls Tryz.prog 57 #[.pointer (some ⟨bb, 0, none⟩)] w fun e w' => e = .returned (.bool true) ∧ w' = w := by
  have x0 : w.cell? ⟨bb, 130, none⟩ = some (.slice none 0 0) := (bk_cell hB (hr 14 (by decide) (by decide) 0 (by decide))).1
  have x2 : w.cell? ⟨bb, 132, none⟩ = some (.slice none 0 0) := (bk_cell hB (hr 14 (by decide) (by decide) 2 (by decide))).1
  clear hB hr
  go_enter Tryz.func57, Tryz.ntmps57
  go_wp2
  go_loop [3] (fun i => i = .int .i64 0) (fun _ => 0)
  case atStart => rfl
  case round =>
    subst hrel
    go_wp2
    go_loop [4] (fun i => i = .int .i64 0) (fun _ => 0)
    case atStart => rfl
    case round =>
      subst hrel
      go_wp2
      go_ret
      exact ⟨rfl, rfl⟩
set_option maxRecDepth 100000 in
set_option maxHeartbeats 400000 in
theorem growSessions_none (bb : Nat) (cs : Array Value) (w : World) (hB : BkAt w bb cs) (hr : Rest cs) :
    Calls Tryz.prog 169 #[.pointer (some ⟨bb, 0, none⟩)] w fun e w' => e = .returned (.tuple #[]) ∧ BkAt w' bb cs ∧ w.grownBy w' (some bb) := by
  have r4 : cs[134]? = some (.slice none 0 0) := hr 14 (by decide) (by decide) 4 (by decide)
  have r7 : cs[137]? = some (.slice none 0 0) := hr 14 (by decide) (by decide) 7 (by decide)
  obtain ⟨x4, y4⟩ := bk_cell hB r4
  obtain ⟨x7, y7⟩ := bk_cell hB r7
  have HB : Hid (BkAt w bb cs) := hB
  have R4 : Hid (cs[134]? = some (.slice none 0 0)) := r4
  have R7 : Hid (cs[137]? = some (.slice none 0 0)) := r7
  clear hB hr r4 r7
  go_enter Tryz.func169, Tryz.ntmps169
  go_wp2
  go_loop [2] (fun i => i = .int .i64 0) (fun _ => 0)
  case atStart => rfl
  case round =>
    subst hrel
    go_wp2
    go_end0
    exact ⟨rfl, (HB.out.same R4.out).same R7.out, gb_set (gb_set (gb_refl _ _) _ _) _ _⟩
set_option maxRecDepth 100000 in
set_option maxHeartbeats 400000 in
theorem markShapes_none (bb : Nat) (cs : Array Value) (w : World) (hB : BkAt w bb cs) (hr : Rest cs) :
    Calls Tryz.prog 153 #[.pointer (some ⟨bb, 0, none⟩)] w fun e w' => e = .returned (.tuple #[]) ∧ w' = w := by
  have x2 : w.cell? ⟨bb, 141, none⟩ = some (.slice none 0 0) := (bk_cell hB (hr 15 (by decide) (by decide) 2 (by decide))).1
  have x3 : w.cell? ⟨bb, 142, none⟩ = some (.slice none 0 0) := (bk_cell hB (hr 15 (by decide) (by decide) 3 (by decide))).1
  have x5 : w.cell? ⟨bb, 144, none⟩ = some (.slice none 0 0) := (bk_cell hB (hr 15 (by decide) (by decide) 5 (by decide))).1
  have x6 : w.cell? ⟨bb, 145, none⟩ = some (.slice none 0 0) := (bk_cell hB (hr 15 (by decide) (by decide) 6 (by decide))).1
  clear hB hr
  go_enter Tryz.func153, Tryz.ntmps153
  go_wp2
  exact bodyPost_ret (results_none rfl _ _ _) rfl ⟨rfl, rfl⟩
set_option maxRecDepth 100000 in
set_option maxHeartbeats 400000 in
theorem holdShapes_none (bb : Nat) (cs : Array Value) (w : World) (hB : BkAt w bb cs) (hr : Rest cs) :
    Calls Tryz.prog 58 #[.pointer (some ⟨bb, 0, none⟩)] w fun e w' => e = .returned (.bool true) ∧ w' = w := by
  have x0 : w.cell? ⟨bb, 139, none⟩ = some (.slice none 0 0) := (bk_cell hB (hr 15 (by decide) (by decide) 0 (by decide))).1
  have x2 : w.cell? ⟨bb, 141, none⟩ = some (.slice none 0 0) := (bk_cell hB (hr 15 (by decide) (by decide) 2 (by decide))).1
  clear hB hr
  go_enter Tryz.func58, Tryz.ntmps58
  go_wp2
  go_loop [3] (fun i => i = .int .i64 0) (fun _ => 0)
  case atStart => rfl
  case round =>
    subst hrel
    go_wp2
    go_loop [4] (fun i => i = .int .i64 0) (fun _ => 0)
    case atStart => rfl
    case round =>
      subst hrel
      go_wp2
      go_ret
      exact ⟨rfl, rfl⟩
set_option maxRecDepth 100000 in
set_option maxHeartbeats 400000 in
theorem growShapes_none (bb : Nat) (cs : Array Value) (w : World) (hB : BkAt w bb cs) (hr : Rest cs) :
    Calls Tryz.prog 170 #[.pointer (some ⟨bb, 0, none⟩)] w fun e w' => e = .returned (.tuple #[]) ∧ BkAt w' bb cs ∧ w.grownBy w' (some bb) := by
  have r4 : cs[143]? = some (.slice none 0 0) := hr 15 (by decide) (by decide) 4 (by decide)
  have r7 : cs[146]? = some (.slice none 0 0) := hr 15 (by decide) (by decide) 7 (by decide)
  obtain ⟨x4, y4⟩ := bk_cell hB r4
  obtain ⟨x7, y7⟩ := bk_cell hB r7
  have HB : Hid (BkAt w bb cs) := hB
  have R4 : Hid (cs[143]? = some (.slice none 0 0)) := r4
  have R7 : Hid (cs[146]? = some (.slice none 0 0)) := r7
  clear hB hr r4 r7
  go_enter Tryz.func170, Tryz.ntmps170
  go_wp2
  go_loop [2] (fun i => i = .int .i64 0) (fun _ => 0)
  case atStart => rfl
  case round =>
    subst hrel
    go_wp2
    go_end0
    exact ⟨rfl, (HB.out.same R4.out).same R7.out, gb_set (gb_set (gb_refl _ _) _ _) _ _⟩
set_option maxRecDepth 100000 in
set_option maxHeartbeats 400000 in
theorem markSteps_none (bb : Nat) (cs : Array Value) (w : World) (hB : BkAt w bb cs) (hr : Rest cs) :
    Calls Tryz.prog 154 #[.pointer (some ⟨bb, 0, none⟩)] w fun e w' => e = .returned (.tuple #[]) ∧ w' = w := by
  have x2 : w.cell? ⟨bb, 150, none⟩ = some (.slice none 0 0) := (bk_cell hB (hr 16 (by decide) (by decide) 2 (by decide))).1
  have x3 : w.cell? ⟨bb, 151, none⟩ = some (.slice none 0 0) := (bk_cell hB (hr 16 (by decide) (by decide) 3 (by decide))).1
  have x5 : w.cell? ⟨bb, 153, none⟩ = some (.slice none 0 0) := (bk_cell hB (hr 16 (by decide) (by decide) 5 (by decide))).1
  have x6 : w.cell? ⟨bb, 154, none⟩ = some (.slice none 0 0) := (bk_cell hB (hr 16 (by decide) (by decide) 6 (by decide))).1
  clear hB hr
  go_enter Tryz.func154, Tryz.ntmps154
  go_wp2
  exact bodyPost_ret (results_none rfl _ _ _) rfl ⟨rfl, rfl⟩
set_option maxRecDepth 100000 in
set_option maxHeartbeats 400000 in
theorem holdSteps_none (bb : Nat) (cs : Array Value) (w : World) (hB : BkAt w bb cs) (hr : Rest cs) :
    Calls Tryz.prog 59 #[.pointer (some ⟨bb, 0, none⟩)] w fun e w' => e = .returned (.bool true) ∧ w' = w := by
  have x0 : w.cell? ⟨bb, 148, none⟩ = some (.slice none 0 0) := (bk_cell hB (hr 16 (by decide) (by decide) 0 (by decide))).1
  have x2 : w.cell? ⟨bb, 150, none⟩ = some (.slice none 0 0) := (bk_cell hB (hr 16 (by decide) (by decide) 2 (by decide))).1
  clear hB hr
  go_enter Tryz.func59, Tryz.ntmps59
  go_wp2
  go_loop [3] (fun i => i = .int .i64 0) (fun _ => 0)
  case atStart => rfl
  case round =>
    subst hrel
    go_wp2
    go_loop [4] (fun i => i = .int .i64 0) (fun _ => 0)
    case atStart => rfl
    case round =>
      subst hrel
      go_wp2
      go_ret
      exact ⟨rfl, rfl⟩
set_option maxRecDepth 100000 in
set_option maxHeartbeats 400000 in
theorem growSteps_none (bb : Nat) (cs : Array Value) (w : World) (hB : BkAt w bb cs) (hr : Rest cs) :
    Calls Tryz.prog 171 #[.pointer (some ⟨bb, 0, none⟩)] w fun e w' => e = .returned (.tuple #[]) ∧ BkAt w' bb cs ∧ w.grownBy w' (some bb) := by
  have r4 : cs[152]? = some (.slice none 0 0) := hr 16 (by decide) (by decide) 4 (by decide)
  have r7 : cs[155]? = some (.slice none 0 0) := hr 16 (by decide) (by decide) 7 (by decide)
  obtain ⟨x4, y4⟩ := bk_cell hB r4
  obtain ⟨x7, y7⟩ := bk_cell hB r7
  have HB : Hid (BkAt w bb cs) := hB
  have R4 : Hid (cs[152]? = some (.slice none 0 0)) := r4
  have R7 : Hid (cs[155]? = some (.slice none 0 0)) := r7
  clear hB hr r4 r7
  go_enter Tryz.func171, Tryz.ntmps171
  go_wp2
  go_loop [2] (fun i => i = .int .i64 0) (fun _ => 0)
  case atStart => rfl
  case round =>
    subst hrel
    go_wp2
    go_end0
    exact ⟨rfl, (HB.out.same R4.out).same R7.out, gb_set (gb_set (gb_refl _ _) _ _) _ _⟩
end Go.Proofs.YtkjeneklkdekoaaGreatDoor
