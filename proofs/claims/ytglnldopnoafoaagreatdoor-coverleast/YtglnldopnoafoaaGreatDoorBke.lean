import Derived.Test.YtglnldopnoafoaaGreatDoorBkd
namespace Go.Proofs.YtglnldopnoafoaaGreatDoor
open Go Go.RowKit
set_option linter.unusedSimpArgs false
set_option linter.unusedVariables false

set_option maxRecDepth 100000 in
set_option maxHeartbeats 400000 in
theorem markTolds_none (bb : Nat) (cs : Array Value) (w : World) (hB : BkAt w bb cs) (hr : Rest cs) :
    Calls Tryz.prog 108 #[.pointer (some ⟨bb, 0, none⟩)] w fun e w' => e = .returned (.tuple #[]) ∧ w' = w := by
  have x2 : w.cell? ⟨bb, 123, none⟩ = some (.slice none 0 0) := (bk_cell hB (hr 13 (by decide) (by decide) 2 (by decide))).1
  have x3 : w.cell? ⟨bb, 124, none⟩ = some (.slice none 0 0) := (bk_cell hB (hr 13 (by decide) (by decide) 3 (by decide))).1
  have x5 : w.cell? ⟨bb, 126, none⟩ = some (.slice none 0 0) := (bk_cell hB (hr 13 (by decide) (by decide) 5 (by decide))).1
  have x6 : w.cell? ⟨bb, 127, none⟩ = some (.slice none 0 0) := (bk_cell hB (hr 13 (by decide) (by decide) 6 (by decide))).1
  clear hB hr
  go_enter Tryz.func108, Tryz.ntmps108
  go_wp2
  exact bodyPost_ret (results_none rfl _ _ _) rfl ⟨rfl, rfl⟩
set_option maxRecDepth 100000 in
set_option maxHeartbeats 400000 in
theorem holdTolds_none (bb : Nat) (cs : Array Value) (w : World) (hB : BkAt w bb cs) (hr : Rest cs) :
    Calls Tryz.prog 37 #[.pointer (some ⟨bb, 0, none⟩)] w fun e w' => e = .returned (.bool true) ∧ w' = w := by
  have x0 : w.cell? ⟨bb, 121, none⟩ = some (.slice none 0 0) := (bk_cell hB (hr 13 (by decide) (by decide) 0 (by decide))).1
  have x2 : w.cell? ⟨bb, 123, none⟩ = some (.slice none 0 0) := (bk_cell hB (hr 13 (by decide) (by decide) 2 (by decide))).1
  clear hB hr
  go_enter Tryz.func37, Tryz.ntmps37
  go_wp2
  go_loop [3] (fun i => i = .int .i64 0) (fun _ => 0)
  case atStart => rfl
  case round =>
    subst hrel
    go_wp2
    go_loop [4] (fun i => i = .int .i64 0) (fun _ => 0)
    case atStart => rfl
    case round =>
      subst hrel
      go_wp2
      go_ret
      exact ⟨rfl, rfl⟩
set_option maxRecDepth 100000 in
set_option maxHeartbeats 400000 in
theorem growTolds_none (bb : Nat) (cs : Array Value) (w : World) (hB : BkAt w bb cs) (hr : Rest cs) :
    Calls Tryz.prog 125 #[.pointer (some ⟨bb, 0, none⟩)] w fun e w' => e = .returned (.tuple #[]) ∧ BkAt w' bb cs ∧ w.grownBy w' (some bb) := by
  have r4 : cs[125]? = some (.slice none 0 0) := hr 13 (by decide) (by decide) 4 (by decide)
  have r7 : cs[128]? = some (.slice none 0 0) := hr 13 (by decide) (by decide) 7 (by decide)
  obtain ⟨x4, y4⟩ := bk_cell hB r4
  obtain ⟨x7, y7⟩ := bk_cell hB r7
  have HB : Hid (BkAt w bb cs) := hB
  have R4 : Hid (cs[125]? = some (.slice none 0 0)) := r4
  have R7 : Hid (cs[128]? = some (.slice none 0 0)) := r7
  clear hB hr r4 r7
  go_enter Tryz.func125, Tryz.ntmps125
  go_wp2
  go_loop [2] (fun i => i = .int .i64 0) (fun _ => 0)
  case atStart => rfl
  case round =>
    subst hrel
    go_wp2
    go_end0
    exact ⟨rfl, (HB.out.same R4.out).same R7.out, gb_set (gb_set (gb_refl _ _) _ _) _ _⟩
set_option maxRecDepth 100000 in
set_option maxHeartbeats 400000 in
theorem markSessions_none (bb : Nat) (cs : Array Value) (w : World) (hB : BkAt w bb cs) (hr : Rest cs) :
    Calls Tryz.prog 109 #[.pointer (some ⟨bb, 0, none⟩)] w fun e w' => e = .returned (.tuple #[]) ∧ w' = w := by
  have x2 : w.cell? ⟨bb, 132, none⟩ = some (.slice none 0 0) := (bk_cell hB (hr 14 (by decide) (by decide) 2 (by decide))).1
  have x3 : w.cell? ⟨bb, 133, none⟩ = some (.slice none 0 0) := (bk_cell hB (hr 14 (by decide) (by decide) 3 (by decide))).1
  have x5 : w.cell? ⟨bb, 135, none⟩ = some (.slice none 0 0) := (bk_cell hB (hr 14 (by decide) (by decide) 5 (by decide))).1
  have x6 : w.cell? ⟨bb, 136, none⟩ = some (.slice none 0 0) := (bk_cell hB (hr 14 (by decide) (by decide) 6 (by decide))).1
  clear hB hr
  go_enter Tryz.func109, Tryz.ntmps109
  go_wp2
  exact bodyPost_ret (results_none rfl _ _ _) rfl ⟨rfl, rfl⟩
set_option maxRecDepth 100000 in
set_option maxHeartbeats 400000 in
theorem holdSessions_none (bb : Nat) (cs : Array Value) (w : World) (hB : BkAt w bb cs) (hr : Rest cs) :
    Calls Tryz.prog 38 #[.pointer (some ⟨bb, 0, none⟩)] w fun e w' => e = .returned (.bool true) ∧ w' = w := by
  have x0 : w.cell? ⟨bb, 130, none⟩ = some (.slice none 0 0) := (bk_cell hB (hr 14 (by decide) (by decide) 0 (by decide))).1
  have x2 : w.cell? ⟨bb, 132, none⟩ = some (.slice none 0 0) := (bk_cell hB (hr 14 (by decide) (by decide) 2 (by decide))).1
  clear hB hr
  go_enter Tryz.func38, Tryz.ntmps38
  go_wp2
  go_loop [3] (fun i => i = .int .i64 0) (fun _ => 0)
  case atStart => rfl
  case round =>
    subst hrel
    go_wp2
    go_loop [4] (fun i => i = .int .i64 0) (fun _ => 0)
    case atStart => rfl
    case round =>
      subst hrel
      go_wp2
      go_ret
      exact ⟨rfl, rfl⟩
set_option maxRecDepth 100000 in
set_option maxHeartbeats 400000 in
theorem growSessions_none (bb : Nat) (cs : Array Value) (w : World) (hB : BkAt w bb cs) (hr : Rest cs) :
    Calls Tryz.prog 126 #[.pointer (some ⟨bb, 0, none⟩)] w fun e w' => e = .returned (.tuple #[]) ∧ BkAt w' bb cs ∧ w.grownBy w' (some bb) := by
  have r4 : cs[134]? = some (.slice none 0 0) := hr 14 (by decide) (by decide) 4 (by decide)
  have r7 : cs[137]? = some (.slice none 0 0) := hr 14 (by decide) (by decide) 7 (by decide)
  obtain ⟨x4, y4⟩ := bk_cell hB r4
  obtain ⟨x7, y7⟩ := bk_cell hB r7
  have HB : Hid (BkAt w bb cs) := hB
  have R4 : Hid (cs[134]? = some (.slice none 0 0)) := r4
  have R7 : Hid (cs[137]? = some (.slice none 0 0)) := r7
  clear hB hr r4 r7
  go_enter Tryz.func126, Tryz.ntmps126
  go_wp2
  go_loop [2] (fun i => i = .int .i64 0) (fun _ => 0)
  case atStart => rfl
  case round =>
    subst hrel
    go_wp2
    go_end0
    exact ⟨rfl, (HB.out.same R4.out).same R7.out, gb_set (gb_set (gb_refl _ _) _ _) _ _⟩
set_option maxRecDepth 100000 in
set_option maxHeartbeats 400000 in
theorem markShapes_none (bb : Nat) (cs : Array Value) (w : World) (hB : BkAt w bb cs) (hr : Rest cs) :
    Calls Tryz.prog 110 #[.pointer (some ⟨bb, 0, none⟩)] w fun e w' => e = .returned (.tuple #[]) ∧ w' = w := by
  have x2 : w.cell? ⟨bb, 141, none⟩ = some (.slice none 0 0) := (bk_cell hB (hr 15 (by decide) (by decide) 2 (by decide))).1
  have x3 : w.cell? ⟨bb, 142, none⟩ = some (.slice none 0 0) := (bk_cell hB (hr 15 (by decide) (by decide) 3 (by decide))).1
  have x5 : w.cell? ⟨bb, 144, none⟩ = some (.slice none 0 0) := (bk_cell hB (hr 15 (by decide) (by decide) 5 (by decide))).1
  have x6 : w.cell? ⟨bb, 145, none⟩ = some (.slice none 0 0) := (bk_cell hB (hr 15 (by decide) (by decide) 6 (by decide))).1
  clear hB hr
  go_enter Tryz.func110, Tryz.ntmps110
  go_wp2
  exact bodyPost_ret (results_none rfl _ _ _) rfl ⟨rfl, rfl⟩
set_option maxRecDepth 100000 in
set_option maxHeartbeats 400000 in
theorem holdShapes_none (bb : Nat) (cs : Array Value) (w : World) (hB : BkAt w bb cs) (hr : Rest cs) :
    Calls Tryz.prog 39 #[.pointer (some ⟨bb, 0, none⟩)] w fun e w' => e = .returned (.bool true) ∧ w' = w := by
  have x0 : w.cell? ⟨bb, 139, none⟩ = some (.slice none 0 0) := (bk_cell hB (hr 15 (by decide) (by decide) 0 (by decide))).1
  have x2 : w.cell? ⟨bb, 141, none⟩ = some (.slice none 0 0) := (bk_cell hB (hr 15 (by decide) (by decide) 2 (by decide))).1
  clear hB hr
  go_enter Tryz.func39, Tryz.ntmps39
  go_wp2
  go_loop [3] (fun i => i = .int .i64 0) (fun _ => 0)
  case atStart => rfl
  case round =>
    subst hrel
    go_wp2
    go_loop [4] (fun i => i = .int .i64 0) (fun _ => 0)
    case atStart => rfl
    case round =>
      subst hrel
      go_wp2
      go_ret
      exact ⟨rfl, rfl⟩
set_option maxRecDepth 100000 in
set_option maxHeartbeats 400000 in
theorem growShapes_none (bb : Nat) (cs : Array Value) (w : World) (hB : BkAt w bb cs) (hr : Rest cs) :
    Calls Tryz.prog 127 #[.pointer (some ⟨bb, 0, none⟩)] w fun e w' => e = .returned (.tuple #[]) ∧ BkAt w' bb cs ∧ w.grownBy w' (some bb) := by
  have r4 : cs[143]? = some (.slice none 0 0) := hr 15 (by decide) (by decide) 4 (by decide)
  have r7 : cs[146]? = some (.slice none 0 0) := hr 15 (by decide) (by decide) 7 (by decide)
  obtain ⟨x4, y4⟩ := bk_cell hB r4
  obtain ⟨x7, y7⟩ := bk_cell hB r7
  have HB : Hid (BkAt w bb cs) := hB
  have R4 : Hid (cs[143]? = some (.slice none 0 0)) := r4
  have R7 : Hid (cs[146]? = some (.slice none 0 0)) := r7
  clear hB hr r4 r7
  go_enter Tryz.func127, Tryz.ntmps127
  go_wp2
  go_loop [2] (fun i => i = .int .i64 0) (fun _ => 0)
  case atStart => rfl
  case round =>
    subst hrel
    go_wp2
    go_end0
    exact ⟨rfl, (HB.out.same R4.out).same R7.out, gb_set (gb_set (gb_refl _ _) _ _) _ _⟩
set_option maxRecDepth 100000 in
set_option maxHeartbeats 400000 in
theorem markSteps_none (bb : Nat) (cs : Array Value) (w : World) (hB : BkAt w bb cs) (hr : Rest cs) :
    Calls Tryz.prog 111 #[.pointer (some ⟨bb, 0, none⟩)] w fun e w' => e = .returned (.tuple #[]) ∧ w' = w := by
  have x2 : w.cell? ⟨bb, 150, none⟩ = some (.slice none 0 0) := (bk_cell hB (hr 16 (by decide) (by decide) 2 (by decide))).1
  have x3 : w.cell? ⟨bb, 151, none⟩ = some (.slice none 0 0) := (bk_cell hB (hr 16 (by decide) (by decide) 3 (by decide))).1
  have x5 : w.cell? ⟨bb, 153, none⟩ = some (.slice none 0 0) := (bk_cell hB (hr 16 (by decide) (by decide) 5 (by decide))).1
  have x6 : w.cell? ⟨bb, 154, none⟩ = some (.slice none 0 0) := (bk_cell hB (hr 16 (by decide) (by decide) 6 (by decide))).1
  clear hB hr
  go_enter Tryz.func111, Tryz.ntmps111
  go_wp2
  exact bodyPost_ret (results_none rfl _ _ _) rfl ⟨rfl, rfl⟩
set_option maxRecDepth 100000 in
set_option maxHeartbeats 400000 in
theorem holdSteps_none (bb : Nat) (cs : Array Value) (w : World) (hB : BkAt w bb cs) (hr : Rest cs) :
    Calls Tryz.prog 40 #[.pointer (some ⟨bb, 0, none⟩)] w fun e w' => e = .returned (.bool true) ∧ w' = w := by
  have x0 : w.cell? ⟨bb, 148, none⟩ = some (.slice none 0 0) := (bk_cell hB (hr 16 (by decide) (by decide) 0 (by decide))).1
  have x2 : w.cell? ⟨bb, 150, none⟩ = some (.slice none 0 0) := (bk_cell hB (hr 16 (by decide) (by decide) 2 (by decide))).1
  clear hB hr
  go_enter Tryz.func40, Tryz.ntmps40
  go_wp2
  go_loop [3] (fun i => i = .int .i64 0) (fun _ => 0)
  case atStart => rfl
  case round =>
    subst hrel
    go_wp2
    go_loop [4] (fun i => i = .int .i64 0) (fun _ => 0)
    case atStart => rfl
    case round =>
      subst hrel
      go_wp2
      go_ret
      exact ⟨rfl, rfl⟩
set_option maxRecDepth 100000 in
set_option maxHeartbeats 400000 in
theorem growSteps_none (bb : Nat) (cs : Array Value) (w : World) (hB : BkAt w bb cs) (hr : Rest cs) :
    Calls Tryz.prog 128 #[.pointer (some ⟨bb, 0, none⟩)] w fun e w' => e = .returned (.tuple #[]) ∧ BkAt w' bb cs ∧ w.grownBy w' (some bb) := by
  have r4 : cs[152]? = some (.slice none 0 0) := hr 16 (by decide) (by decide) 4 (by decide)
  have r7 : cs[155]? = some (.slice none 0 0) := hr 16 (by decide) (by decide) 7 (by decide)
  obtain ⟨x4, y4⟩ := bk_cell hB r4
  obtain ⟨x7, y7⟩ := bk_cell hB r7
  have HB : Hid (BkAt w bb cs) := hB
  have R4 : Hid (cs[152]? = some (.slice none 0 0)) := r4
  have R7 : Hid (cs[155]? = some (.slice none 0 0)) := r7
  clear hB hr r4 r7
  go_enter Tryz.func128, Tryz.ntmps128
  go_wp2
  go_loop [2] (fun i => i = .int .i64 0) (fun _ => 0)
  case atStart => rfl
  case round =>
    subst hrel
    go_wp2
    go_end0
    exact ⟨rfl, (HB.out.same R4.out).same R7.out, gb_set (gb_set (gb_refl _ _) _ _) _ _⟩
end Go.Proofs.YtglnldopnoafoaaGreatDoor
