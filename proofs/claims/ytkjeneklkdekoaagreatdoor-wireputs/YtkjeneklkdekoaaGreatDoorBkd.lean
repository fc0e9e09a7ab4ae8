import Derived.Test.YtkjeneklkdekoaaGreatDoorBkb
namespace Go.Proofs.YtkjeneklkdekoaaGreatDoor
open Go Go.RowKit
set_option linter.unusedSimpArgs false
set_option linter.unusedVariables false

set_option maxRecDepth 100000 in
set_option maxHeartbeats 400000 in
theorem markUsers_none (bb : Nat) (cs : Array Value) (w : World) (hB : BkAt w bb cs) (hr : Rest cs) :
    Calls Tryz.prog 143 #[.pointer (some ⟨bb, 0, none⟩)] w fun e w' => e = .returned (.tuple #[]) ∧ w' = w := by
  have x2 : w.cell? ⟨bb, 51, none⟩ = some (.slice none 0 0) := (bk_cell hB (hr 5 (by decide) (by decide) 2 (by decide))).1
  have x3 : w.cell? ⟨bb, 52, none⟩ = some (.slice none 0 0) := (bk_cell hB (hr 5 (by decide) (by decide) 3 (by decide))).1
  have x5 : w.cell? ⟨bb, 54, none⟩ = some (.slice none 0 0) := (bk_cell hB (hr 5 (by decide) (by decide) 5 (by decide))).1
  have x6 : w.cell? ⟨bb, 55, none⟩ = some (.slice none 0 0) := (bk_cell hB (hr 5 (by decide) (by decide) 6 (by decide))).1
  clear hB hr
  go_enter Tryz.func143, Tryz.ntmps143
  go_wp2
  exact bodyPost_ret (results_none rfl _ _ _) rfl ⟨rfl, rfl⟩
set_option maxRecDepth 100000 in
set_option maxHeartbeats 400000 in
theorem holdUsers_none (bb : Nat) (cs : Array Value) (w : World) (hB : BkAt w bb cs) (hr : Rest cs) :
    Calls Tryz.prog 48 #[.pointer (some ⟨bb, 0, none⟩)] w fun e w' => e = .returned (.bool true) ∧ w' = w := by
  have x0 : w.cell? ⟨bb, 49, none⟩ = some (.slice none 0 0) := (bk_cell hB (hr 5 (by decide) (by decide) 0 (by decide))).1
  have x2 : w.cell? ⟨bb, 51, none⟩ = some (.slice none 0 0) := (bk_cell hB (hr 5 (by decide) (by decide) 2 (by decide))).1
  clear hB hr
  go_enter Tryz.func48, Tryz.ntmps48
  go_wp2
  go_loop [3] (fun i => i = .int .i64 0) (fun _ => 0)
  case atStart => rfl
  case round =>
    subst hrel
    go_wp2
    go_loop [4] (fun i => i = .int .i64 0) (fun _ => 0)
    case atStart => rfl
    case round =>
      subst hrel
      go_wp2
      go_ret
      exact ⟨rfl, rfl⟩
set_option maxRecDepth 100000 in
set_option maxHeartbeats 400000 in
theorem growUsers_none (bb : Nat) (cs : Array Value) (w : World) (hB : BkAt w bb cs) (hr : Rest cs) :
    Calls Tryz.prog 160 #[.pointer (some ⟨bb, 0, none⟩)] w fun e w' => e = .returned (.tuple #[]) ∧ BkAt w' bb cs ∧ w.grownBy w' (some bb) := by
  have r4 : cs[53]? = some (.slice none 0 0) := hr 5 (by decide) (by decide) 4 (by decide)
  have r7 : cs[56]? = some (.slice none 0 0) := hr 5 (by decide) (by decide) 7 (by decide)
  obtain ⟨x4, y4⟩ := bk_cell hB r4
  obtain ⟨x7, y7⟩ := bk_cell hB r7
  have HB : Hid (BkAt w bb cs) := hB
  have R4 : Hid (cs[53]? = some (.slice none 0 0)) := r4
  have R7 : Hid (cs[56]? = some (.slice none 0 0)) := r7
  clear hB hr r4 r7
  go_enter Tryz.func160, Tryz.ntmps160
  go_wp2
  go_loop [2] (fun i => i = .int .i64 0) (fun _ => 0)
  case atStart => rfl
  case round =>
    subst hrel
    go_wp2
    go_end0
    exact ⟨rfl, (HB.out.same R4.out).same R7.out, gb_set (gb_set (gb_refl _ _) _ _) _ _⟩
set_option maxRecDepth 100000 in
set_option maxHeartbeats 400000 in
theorem markWhos_none (bb : Nat) (cs : Array Value) (w : World) (hB : BkAt w bb cs) (hr : Rest cs) :
    Calls Tryz.prog 144 #[.pointer (some ⟨bb, 0, none⟩)] w fun e w' => e = .returned (.tuple #[]) ∧ w' = w := by
  have x2 : w.cell? ⟨bb, 60, none⟩ = some (.slice none 0 0) := (bk_cell hB (hr 6 (by decide) (by decide) 2 (by decide))).1
  have x3 : w.cell? ⟨bb, 61, none⟩ = some (.slice none 0 0) := (bk_cell hB (hr 6 (by decide) (by decide) 3 (by decide))).1
  have x5 : w.cell? ⟨bb, 63, none⟩ = some (.slice none 0 0) := (bk_cell hB (hr 6 (by decide) (by decide) 5 (by decide))).1
  have x6 : w.cell? ⟨bb, 64, none⟩ = some (.slice none 0 0) := (bk_cell hB (hr 6 (by decide) (by decide) 6 (by decide))).1
  clear hB hr
  go_enter Tryz.func144, Tryz.ntmps144
  go_wp2
  exact bodyPost_ret (results_none rfl _ _ _) rfl ⟨rfl, rfl⟩
set_option maxRecDepth 100000 in
set_option maxHeartbeats 400000 in
theorem holdWhos_none (bb : Nat) (cs : Array Value) (w : World) (hB : BkAt w bb cs) (hr : Rest cs) :
    Calls Tryz.prog 49 #[.pointer (some ⟨bb, 0, none⟩)] w fun e w' => e = .returned (.bool true) ∧ w' = w := by
  have x0 : w.cell? ⟨bb, 58, none⟩ = some (.slice none 0 0) := (bk_cell hB (hr 6 (by decide) (by decide) 0 (by decide))).1
  have x2 : w.cell? ⟨bb, 60, none⟩ = some (.slice none 0 0) := (bk_cell hB (hr 6 (by decide) (by decide) 2 (by decide))).1
  clear hB hr
  go_enter Tryz.func49, Tryz.ntmps49
  go_wp2
  go_loop [3] (fun i => i = .int .i64 0) (fun _ => 0)
  case atStart => rfl
  case round =>
    subst hrel
    go_wp2
    go_loop [4] (fun i => i = .int .i64 0) (fun _ => 0)
    case atStart => rfl
    case round =>
      subst hrel
      go_wp2
      go_ret
      exact ⟨rfl, rfl⟩
set_option maxRecDepth 100000 in
set_option maxHeartbeats 400000 in
theorem growWhos_none (bb : Nat) (cs : Array Value) (w : World) (hB : BkAt w bb cs) (hr : Rest cs) :
    Calls Tryz.prog 161 #[.pointer (some ⟨bb, 0, none⟩)] w fun e w' => e = .returned (.tuple #[]) ∧ BkAt w' bb cs ∧ w.grownBy w' (some bb) := by
  have r4 : cs[62]? = some (.slice none 0 0) := hr 6 (by decide) (by decide) 4 (by decide)
  have r7 : cs[65]? = some (.slice none 0 0) := hr 6 (by decide) (by decide) 7 (by decide)
  obtain ⟨x4, y4⟩ := bk_cell hB r4
  obtain ⟨x7, y7⟩ := bk_cell hB r7
  have HB : Hid (BkAt w bb cs) := hB
  have R4 : Hid (cs[62]? = some (.slice none 0 0)) := r4
  have R7 : Hid (cs[65]? = some (.slice none 0 0)) := r7
  clear hB hr r4 r7
  go_enter Tryz.func161, Tryz.ntmps161
  go_wp2
  go_loop [2] (fun i => i = .int .i64 0) (fun _ => 0)
  case atStart => rfl
  case round =>
    subst hrel
    go_wp2
    go_end0
    exact ⟨rfl, (HB.out.same R4.out).same R7.out, gb_set (gb_set (gb_refl _ _) _ _) _ _⟩
set_option maxRecDepth 100000 in
set_option maxHeartbeats 400000 in
theorem markChunks_none (bb : Nat) (cs : Array Value) (w : World) (hB : BkAt w bb cs) (hr : Rest cs) :
    Calls Tryz.prog 145 #[.pointer (some ⟨bb, 0, none⟩)] w fun e w' => e = .returned (.tuple #[]) ∧ w' = w := by
  have x2 : w.cell? ⟨bb, 69, none⟩ = some (.slice none 0 0) := (bk_cell hB (hr 7 (by decide) (by decide) 2 (by decide))).1
  have x3 : w.cell? ⟨bb, 70, none⟩ = some (.slice none 0 0) := (bk_cell hB (hr 7 (by decide) (by decide) 3 (by decide))).1
  have x5 : w.cell? ⟨bb, 72, none⟩ = some (.slice none 0 0) := (bk_cell hB (hr 7 (by decide) (by decide) 5 (by decide))).1
  have x6 : w.cell? ⟨bb, 73, none⟩ = some (.slice none 0 0) := (bk_cell hB (hr 7 (by decide) (by decide) 6 (by decide))).1
  clear hB hr
  go_enter Tryz.func145, Tryz.ntmps145
  go_wp2
  exact bodyPost_ret (results_none rfl _ _ _) rfl ⟨rfl, rfl⟩
set_option maxRecDepth 100000 in
set_option maxHeartbeats 400000 in
theorem holdChunks_none (bb : Nat) (cs : Array Value) (w : World) (hB : BkAt w bb cs) (hr : Rest cs) :
    Calls Tryz.prog 50 #[.pointer (some ⟨bb, 0, none⟩)] w fun e w' => e = .returned (.bool true) ∧ w' = w := by
  have x0 : w.cell? ⟨bb, 67, none⟩ = some (.slice none 0 0) := (bk_cell hB (hr 7 (by decide) (by decide) 0 (by decide))).1
  have x2 : w.cell? ⟨bb, 69, none⟩ = some (.slice none 0 0) := (bk_cell hB (hr 7 (by decide) (by decide) 2 (by decide))).1
  clear hB hr
  go_enter Tryz.func50, Tryz.ntmps50
  go_wp2
  go_loop [3] (fun i => i = .int .i64 0) (fun _ => 0)
  case atStart => rfl
  case round =>
    subst hrel
    go_wp2
    go_loop [4] (fun i => i = .int .i64 0) (fun _ => 0)
    case atStart => rfl
    case round =>
      subst hrel
      go_wp2
      go_ret
      exact ⟨rfl, rfl⟩
set_option maxRecDepth 100000 in
set_option maxHeartbeats 400000 in
theorem growChunks_none (bb : Nat) (cs : Array Value) (w : World) (hB : BkAt w bb cs) (hr : Rest cs) :
    Calls Tryz.prog 162 #[.pointer (some ⟨bb, 0, none⟩)] w fun e w' => e = .returned (.tuple #[]) ∧ BkAt w' bb cs ∧ w.grownBy w' (some bb) := by
  have r4 : cs[71]? = some (.slice none 0 0) := hr 7 (by decide) (by decide) 4 (by decide)
  have r7 : cs[74]? = some (.slice none 0 0) := hr 7 (by decide) (by decide) 7 (by decide)
  obtain ⟨x4, y4⟩ := bk_cell hB r4
  obtain ⟨x7, y7⟩ := bk_cell hB r7
  have HB : Hid (BkAt w bb cs) := hB
  have R4 : Hid (cs[71]? = some (.slice none 0 0)) := r4
  have R7 : Hid (cs[74]? = some (.slice none 0 0)) := r7
  clear hB hr r4 r7
  go_enter Tryz.func162, Tryz.ntmps162
  go_wp2
  go_loop [2] (fun i => i = .int .i64 0) (fun _ => 0)
  case atStart => rfl
  case round =>
    subst hrel
    go_wp2
    go_end0
    exact ⟨rfl, (HB.out.same R4.out).same R7.out, gb_set (gb_set (gb_refl _ _) _ _) _ _⟩
set_option maxRecDepth 100000 in
set_option maxHeartbeats 400000 in
theorem markMessages_none (bb : Nat) (cs : Array Value) (w : World) (hB : BkAt w bb cs) (hr : Rest cs) :
    Calls Tryz.prog 146 #[.pointer (some ⟨bb, 0, none⟩)] w fun e w' => e = .returned (.tuple #[]) ∧ w' = w := by
  have x2 : w.cell? ⟨bb, 78, none⟩ = some (.slice none 0 0) := (bk_cell hB (hr 8 (by decide) (by decide) 2 (by decide))).1
  have x3 : w.cell? ⟨bb, 79, none⟩ = some (.slice none 0 0) := (bk_cell hB (hr 8 (by decide) (by decide) 3 (by decide))).1
  have x5 : w.cell? ⟨bb, 81, none⟩ = some (.slice none 0 0) := (bk_cell hB (hr 8 (by decide) (by decide) 5 (by decide))).1
  have x6 : w.cell? ⟨bb, 82, none⟩ = some (.slice none 0 0) := (bk_cell hB (hr 8 (by decide) (by decide) 6 (by decide))).1
  clear hB hr
  go_enter Tryz.func146, Tryz.ntmps146
  go_wp2
  exact bodyPost_ret (results_none rfl _ _ _) rfl ⟨rfl, rfl⟩
set_option maxRecDepth 100000 in
set_option maxHeartbeats 400000 in
theorem holdMessages_none (bb : Nat) (cs : Array Value) (w : World) (hB : BkAt w bb cs) (hr : Rest cs) :
    Calls Tryz.prog 51 #[.pointer (some ⟨bb, 0, none⟩)] w fun e w' => e = .returned (.bool true) ∧ w' = w := by
  have x0 : w.cell? ⟨bb, 76, none⟩ = some (.slice none 0 0) := (bk_cell hB (hr 8 (by decide) (by decide) 0 (by decide))).1
  have x2 : w.cell? ⟨bb, 78, none⟩ = some (.slice none 0 0) := (bk_cell hB (hr 8 (by decide) (by decide) 2 (by decide))).1
  clear hB hr
  go_enter Tryz.func51, Tryz.ntmps51
  go_wp2
  go_loop [3] (fun i => i = .int .i64 0) (fun _ => 0)
  case atStart => rfl
  case round =>
    subst hrel
    go_wp2
    go_loop [4] (fun i => i = .int .i64 0) (fun _ => 0)
    case atStart => rfl
    case round =>
      subst hrel
      go_wp2
      go_ret
      exact ⟨rfl, rfl⟩
set_option maxRecDepth 100000 in
set_option maxHeartbeats 400000 in
theorem growMessages_none (bb : Nat) (cs : Array Value) (w : World) (hB : BkAt w bb cs) (hr : Rest cs) :
    Calls Tryz.prog 163 #[.pointer (some ⟨bb, 0, none⟩)] w fun e w' => e = .returned (.tuple #[]) ∧ BkAt w' bb cs ∧ w.grownBy w' (some bb) := by
  have r4 : cs[80]? = some (.slice none 0 0) := hr 8 (by decide) (by decide) 4 (by decide)
  have r7 : cs[83]? = some (.slice none 0 0) := hr 8 (by decide) (by decide) 7 (by decide)
  obtain ⟨x4, y4⟩ := bk_cell hB r4
  obtain ⟨x7, y7⟩ := bk_cell hB r7
  have HB : Hid (BkAt w bb cs) := hB
  have R4 : Hid (cs[80]? = some (.slice none 0 0)) := r4
  have R7 : Hid (cs[83]? = some (.slice none 0 0)) := r7
  clear hB hr r4 r7
  go_enter Tryz.func163, Tryz.ntmps163
  go_wp2
  go_loop [2] (fun i => i = .int .i64 0) (fun _ => 0)
  case atStart => rfl
  case round =>
    subst hrel
    go_wp2
    go_end0
    exact ⟨rfl, (HB.out.same R4.out).same R7.out, gb_set (gb_set (gb_refl _ _) _ _) _ _⟩
end Go.Proofs.YtkjeneklkdekoaaGreatDoor
namespace Go.Proofs.YtkjeneklkdekoaaGreatDoor
open Go Go.RowKit
set_option linter.unusedSimpArgs false
set_option linter.unusedVariables false

set_option maxRecDepth 100000 in
set_option maxHeartbeats 400000 in
theorem markPackets_none (bb : Nat) (cs : Array Value) (w : World) (hB : BkAt w bb cs) (hr : Rest cs) :
    Calls Tryz.prog 147 #[.pointer (some ⟨bb, 0, none⟩)] w fun e w' => e = .returned (.tuple #[]) ∧ w' = w := by
  have x2 : w.cell? ⟨bb, 87, none⟩ = some (.slice none 0 0) := (bk_cell hB (hr 9 (by decide) (by decide) 2 (by decide))).1
  have x3 : w.cell? ⟨bb, 88, none⟩ = some (.slice none 0 0) := (bk_cell hB (hr 9 (by decide) (by decide) 3 (by decide))).1
  have x5 : w.cell? ⟨bb, 90, none⟩ = some (.slice none 0 0) := (bk_cell hB (hr 9 (by decide) (by decide) 5 (by decide))).1
  have x6 : w.cell? ⟨bb, 91, none⟩ = some (.slice none 0 0) := (bk_cell hB (hr 9 (by decide) (by decide) 6 (by decide))).1
  clear hB hr
  go_enter Tryz.func147, Tryz.ntmps147
  go_wp2
  exact bodyPost_ret (results_none rfl _ _ _) rfl ⟨rfl, rfl⟩
set_option maxRecDepth 100000 in
set_option maxHeartbeats 400000 in
theorem holdPackets_none (bb : Nat) (cs : Array Value) (w : World) (hB : BkAt w bb cs) (hr : Rest cs) :
    Calls Tryz.prog 52 #[.pointer (some ⟨bb, 0, none⟩)] w fun e w' => e = .returned (.bool true) ∧ w' = w := by
  have x0 : w.cell? ⟨bb, 85, none⟩ = some (.slice none 0 0) := (bk_cell hB (hr 9 (by decide) (by decide) 0 (by decide))).1
  have x2 : w.cell? ⟨bb, 87, none⟩ = some (.slice none 0 0) := (bk_cell hB (hr 9 (by decide) (by decide) 2 (by decide))).1
  clear hB hr
  go_enter Tryz.func52, Tryz.ntmps52
  go_wp2
  go_loop [3] (fun i => i = .int .i64 0) (fun _ => 0)
  case atStart => rfl
  case round =>
    subst hrel
    go_wp2
    go_loop [4] (fun i => i = .int .i64 0) (fun _ => 0)
    case atStart => rfl
    case round =>
      subst hrel
      go_wp2
      go_ret
      exact ⟨rfl, rfl⟩
set_option maxRecDepth 100000 in
set_option maxHeartbeats 400000 in
theorem growPackets_none (bb : Nat) (cs : Array Value) (w : World) (hB : BkAt w bb cs) (hr : Rest cs) :
    Calls Tryz.prog 164 #[.pointer (some ⟨bb, 0, none⟩)] w fun e w' => e = .returned (.tuple #[]) ∧ BkAt w' bb cs ∧ w.grownBy w' (some bb) := by
  have r4 : cs[89]? = some (.slice none 0 0) := hr 9 (by decide) (by decide) 4 (by decide)
  have r7 : cs[92]? = some (.slice none 0 0) := hr 9 (by decide) (by decide) 7 (by decide)
  obtain ⟨x4, y4⟩ := bk_cell hB r4
  obtain ⟨x7, y7⟩ := bk_cell hB r7
  have HB : Hid (BkAt w bb cs) := hB
  have R4 : Hid (cs[89]? = some (.slice none 0 0)) := r4
  have R7 : Hid (cs[92]? = some (.slice none 0 0)) := r7
  clear hB hr r4 r7
  go_enter Tryz.func164, Tryz.ntmps164
  go_wp2
  go_loop [2] (fun i => i = .int .i64 0) (fun _ => 0)
  case atStart => rfl
  case round =>
    subst hrel
    go_wp2
    go_end0
    exact ⟨rfl, (HB.out.same R4.out).same R7.out, gb_set (gb_set (gb_refl _ _) _ _) _ _⟩
set_option maxRecDepth 100000 in
set_option maxHeartbeats 400000 in
theorem markFlights_none (bb : Nat) (cs : Array Value) (w : World) (hB : BkAt w bb cs) (hr : Rest cs) :
    Calls Tryz.prog 148 #[.pointer (some ⟨bb, 0, none⟩)] w fun e w' => e = .returned (.tuple #[]) ∧ w' = w := by
  have x2 : w.cell? ⟨bb, 96, none⟩ = some (.slice none 0 0) := (bk_cell hB (hr 10 (by decide) (by decide) 2 (by decide))).1
  have x3 : w.cell? ⟨bb, 97, none⟩ = some (.slice none 0 0) := (bk_cell hB (hr 10 (by decide) (by decide) 3 (by decide))).1
  have x5 : w.cell? ⟨bb, 99, none⟩ = some (.slice none 0 0) := (bk_cell hB (hr 10 (by decide) (by decide) 5 (by decide))).1
  have x6 : w.cell? ⟨bb, 100, none⟩ = some (.slice none 0 0) := (bk_cell hB (hr 10 (by decide) (by decide) 6 (by decide))).1
  clear hB hr
  go_enter Tryz.func148, Tryz.ntmps148
  go_wp2
  exact bodyPost_ret (results_none rfl _ _ _) rfl ⟨rfl, rfl⟩
set_option maxRecDepth 100000 in
set_option maxHeartbeats 400000 in
theorem holdFlights_none (bb : Nat) (cs : Array Value) (w : World) (hB : BkAt w bb cs) (hr : Rest cs) :
    Calls Tryz.prog 53 #[.pointer (some ⟨bb, 0, none⟩)] w fun e w' => e = .returned (.bool true) ∧ w' = w := by
  have x0 : w.cell? ⟨bb, 94, none⟩ = some (.slice none 0 0) := (bk_cell hB (hr 10 (by decide) (by decide) 0 (by decide))).1
  have x2 : w.cell? ⟨bb, 96, none⟩ = some (.slice none 0 0) := (bk_cell hB (hr 10 (by decide) (by decide) 2 (by decide))).1
  clear hB hr
  go_enter Tryz.func53, Tryz.ntmps53
  go_wp2
  go_loop [3] (fun i => i = .int .i64 0) (fun _ => 0)
  case atStart => rfl
  case round =>
    subst hrel
    go_wp2
    go_loop [4] (fun i => i = .int .i64 0) (fun _ => 0)
    case atStart => rfl
    case round =>
      subst hrel
      go_wp2
      go_ret
      exact ⟨rfl, rfl⟩
set_option maxRecDepth 100000 in
set_option maxHeartbeats 400000 in
theorem growFlights_none (bb : Nat) (cs : Array Value) (w : World) (hB : BkAt w bb cs) (hr : Rest cs) :
    Calls Tryz.prog 165 #[.pointer (some ⟨bb, 0, none⟩)] w fun e w' => e = .returned (.tuple #[]) ∧ BkAt w' bb cs ∧ w.grownBy w' (some bb) := by
  have r4 : cs[98]? = some (.slice none 0 0) := hr 10 (by decide) (by decide) 4 (by decide)
  have r7 : cs[101]? = some (.slice none 0 0) := hr 10 (by decide) (by decide) 7 (by decide)
  obtain ⟨x4, y4⟩ := bk_cell hB r4
  obtain ⟨x7, y7⟩ := bk_cell hB r7
  have HB : Hid (BkAt w bb cs) := hB
  have R4 : Hid (cs[98]? = some (.slice none 0 0)) := r4
  have R7 : Hid (cs[101]? = some (.slice none 0 0)) := r7
  clear hB hr r4 r7
  go_enter Tryz.func165, Tryz.ntmps165
  go_wp2
  go_loop [2] (fun i => i = .int .i64 0) (fun _ => 0)
  case atStart => rfl
  case round =>
    subst hrel
    go_wp2
    go_end0
    exact ⟨rfl, (HB.out.same R4.out).same R7.out, gb_set (gb_set (gb_refl _ _) _ _) _ _⟩
set_option maxRecDepth 100000 in
set_option maxHeartbeats 400000 in
theorem markOuts_none (bb : Nat) (cs : Array Value) (w : World) (hB : BkAt w bb cs) (hr : Rest cs) :
    Calls Tryz.prog 149 #[.pointer (some ⟨bb, 0, none⟩)] w fun e w' => e = .returned (.tuple #[]) ∧ w' = w := by
  have x2 : w.cell? ⟨bb, 105, none⟩ = some (.slice none 0 0) := (bk_cell hB (hr 11 (by decide) (by decide) 2 (by decide))).1
  have x3 : w.cell? ⟨bb, 106, none⟩ = some (.slice none 0 0) := (bk_cell hB (hr 11 (by decide) (by decide) 3 (by decide))).1
  have x5 : w.cell? ⟨bb, 108, none⟩ = some (.slice none 0 0) := (bk_cell hB (hr 11 (by decide) (by decide) 5 (by decide))).1
  have x6 : w.cell? ⟨bb, 109, none⟩ = some (.slice none 0 0) := (bk_cell hB (hr 11 (by decide) (by decide) 6 (by decide))).1
  clear hB hr
  go_enter Tryz.func149, Tryz.ntmps149
  go_wp2
  exact bodyPost_ret (results_none rfl _ _ _) rfl ⟨rfl, rfl⟩
set_option maxRecDepth 100000 in
set_option maxHeartbeats 400000 in
theorem holdOuts_none (bb : Nat) (cs : Array Value) (w : World) (hB : BkAt w bb cs) (hr : Rest cs) :
    Calls Tryz.prog 54 #[.pointer (some ⟨bb, 0, none⟩)] w fun e w' => e = .returned (.bool true) ∧ w' = w := by
  have x0 : w.cell? ⟨bb, 103, none⟩ = some (.slice none 0 0) := (bk_cell hB (hr 11 (by decide) (by decide) 0 (by decide))).1
  have x2 : w.cell? ⟨bb, 105, none⟩ = some (.slice none 0 0) := (bk_cell hB (hr 11 (by decide) (by decide) 2 (by decide))).1
  clear hB hr
  go_enter Tryz.func54, Tryz.ntmps54
  go_wp2
  go_loop [3] (fun i => i = .int .i64 0) (fun _ => 0)
  case atStart => rfl
  case round =>
    subst hrel
    go_wp2
    go_loop [4] (fun i => i = .int .i64 0) (fun _ => 0)
    case atStart => rfl
    case round =>
      subst hrel
      go_wp2
      go_ret
      exact ⟨rfl, rfl⟩
set_option maxRecDepth 100000 in
set_option maxHeartbeats 400000 in
theorem growOuts_none (bb : Nat) (cs : Array Value) (w : World) (hB : BkAt w bb cs) (hr : Rest cs) :
    Calls Tryz.prog 166 #[.pointer (some ⟨bb, 0, none⟩)] w fun e w' => e = .returned (.tuple #[]) ∧ BkAt w' bb cs ∧ w.grownBy w' (some bb) := by
  have r4 : cs[107]? = some (.slice none 0 0) := hr 11 (by decide) (by decide) 4 (by decide)
  have r7 : cs[110]? = some (.slice none 0 0) := hr 11 (by decide) (by decide) 7 (by decide)
  obtain ⟨x4, y4⟩ := bk_cell hB r4
  obtain ⟨x7, y7⟩ := bk_cell hB r7
  have HB : Hid (BkAt w bb cs) := hB
  have R4 : Hid (cs[107]? = some (.slice none 0 0)) := r4
  have R7 : Hid (cs[110]? = some (.slice none 0 0)) := r7
  clear hB hr r4 r7
  go_enter Tryz.func166, Tryz.ntmps166
  go_wp2
  go_loop [2] (fun i => i = .int .i64 0) (fun _ => 0)
  case atStart => rfl
  case round =>
    subst hrel
    go_wp2
    go_end0
    exact ⟨rfl, (HB.out.same R4.out).same R7.out, gb_set (gb_set (gb_refl _ _) _ _) _ _⟩
set_option maxRecDepth 100000 in
set_option maxHeartbeats 400000 in
theorem markInputs_none (bb : Nat) (cs : Array Value) (w : World) (hB : BkAt w bb cs) (hr : Rest cs) :
    Calls Tryz.prog 150 #[.pointer (some ⟨bb, 0, none⟩)] w fun e w' => e = .returned (.tuple #[]) ∧ w' = w := by
  have x2 : w.cell? ⟨bb, 114, none⟩ = some (.slice none 0 0) := (bk_cell hB (hr 12 (by decide) (by decide) 2 (by decide))).1
  have x3 : w.cell? ⟨bb, 115, none⟩ = some (.slice none 0 0) := (bk_cell hB (hr 12 (by decide) (by decide) 3 (by decide))).1
  have x5 : w.cell? ⟨bb, 117, none⟩ = some (.slice none 0 0) := (bk_cell hB (hr 12 (by decide) (by decide) 5 (by decide))).1
  have x6 : w.cell? ⟨bb, 118, none⟩ = some (.slice none 0 0) := (bk_cell hB (hr 12 (by decide) (by decide) 6 (by decide))).1
  clear hB hr
  go_enter Tryz.func150, Tryz.ntmps150
  go_wp2
  exact bodyPost_ret (results_none rfl _ _ _) rfl ⟨rfl, rfl⟩
set_option maxRecDepth 100000 in
set_option maxHeartbeats 400000 in
theorem holdInputs_none (bb : Nat) (cs : Array Value) (w : World) (hB : BkAt w bb cs) (hr : Rest cs) :
    Calls Tryz.prog 55 #[.pointer (some ⟨bb, 0, none⟩)] w fun e w' => e = .returned (.bool true) ∧ w' = w := by
  have x0 : w.cell? ⟨bb, 112, none⟩ = some (.slice none 0 0) := (bk_cell hB (hr 12 (by decide) (by decide) 0 (by decide))).1
  have x2 : w.cell? ⟨bb, 114, none⟩ = some (.slice none 0 0) := (bk_cell hB (hr 12 (by decide) (by decide) 2 (by decide))).1
  clear hB hr
  go_enter Tryz.func55, Tryz.ntmps55
  go_wp2
  go_loop [3] (fun i => i = .int .i64 0) (fun _ => 0)
  case atStart => rfl
  case round =>
    subst hrel
    go_wp2
    go_loop [4] (fun i => i = .int .i64 0) (fun _ => 0)
    case atStart => rfl
    case round =>
      subst hrel
      go_wp2
      go_ret
      exact ⟨rfl, rfl⟩
set_option maxRecDepth 100000 in
set_option maxHeartbeats 400000 in
theorem growInputs_none (bb : Nat) (cs : Array Value) (w : World) (hB : BkAt w bb cs) (hr : Rest cs) :
    Calls Tryz.prog 167 #[.pointer (some ⟨bb, 0, none⟩)] w fun e w' => e = .returned (.tuple #[]) ∧ BkAt w' bb cs ∧ w.grownBy w' (some bb) := by
  have r4 : cs[116]? = some (.slice none 0 0) := hr 12 (by decide) (by decide) 4 (by decide)
  have r7 : cs[119]? = some (.slice none 0 0) := hr 12 (by decide) (by decide) 7 (by decide)
  obtain ⟨x4, y4⟩ := bk_cell hB r4
  obtain ⟨x7, y7⟩ := bk_cell hB r7
  have HB : Hid (BkAt w bb cs) := hB
  have R4 : Hid (cs[116]? = some (.slice none 0 0)) := r4
  have R7 : Hid (cs[119]? = some (.slice none 0 0)) := r7
  clear hB hr r4 r7
  go_enter Tryz.func167, Tryz.ntmps167
  go_wp2
  go_loop [2] (fun i => i = .int .i64 0) (fun _ => 0)
  case atStart => rfl
  case round =>
    subst hrel
    go_wp2
    go_end0
    exact ⟨rfl, (HB.out.same R4.out).same R7.out, gb_set (gb_set (gb_refl _ _) _ _) _ _⟩
end Go.Proofs.YtkjeneklkdekoaaGreatDoor
