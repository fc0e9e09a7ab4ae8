import Derived.Test.YtphofgnehdlafaaGreatDoorBkb
namespace Go.Proofs.YtphofgnehdlafaaGreatDoor.Bk
open Go Go.RowKit
set_option linter.unusedSimpArgs false
set_option linter.unusedVariables false
set_option maxRecDepth 100000
set_option maxHeartbeats 400000
theorem markUsers_none (bb : Nat) (cs : Array Value) (w : World) (hB : BkAt w bb cs) (hr : Rest cs) :
    Calls Tryz.prog 176 #[.pointer (some ⟨bb, 0, none⟩)] w fun e w' => e = .returned (.tuple #[]) ∧ w' = w := by
  have x2 : w.cell? ⟨bb, 51, none⟩ = some (.slice none 0 0) := (bk_cell hB (hr 5 (by decide) (by decide) 2 (by decide))).1
  have x3 : w.cell? ⟨bb, 52, none⟩ = some (.slice none 0 0) := (bk_cell hB (hr 5 (by decide) (by decide) 3 (by decide))).1
  have x5 : w.cell? ⟨bb, 54, none⟩ = some (.slice none 0 0) := (bk_cell hB (hr 5 (by decide) (by decide) 5 (by decide))).1
  have x6 : w.cell? ⟨bb, 55, none⟩ = some (.slice none 0 0) := (bk_cell hB (hr 5 (by decide) (by decide) 6 (by decide))).1
  clear hB hr
  go_enter Tryz.func176, Tryz.ntmps176
  go_wp2
  exact bodyPost_ret (results_none rfl _ _ _) rfl ⟨rfl, rfl⟩
theorem holdUsers_none (bb : Nat) (cs : Array Value) (w : World) (hB : BkAt w bb cs) (hr : Rest cs) :
    Calls Tryz.prog 63 #[.pointer (some ⟨bb, 0, none⟩)] w fun e w' => e = .returned (.bool true) ∧ w' = w := by
  have x0 : w.cell? ⟨bb, 49, none⟩ = some (.slice none 0 0) := (bk_cell hB (hr 5 (by decide) (by decide) 0 (by decide))).1
  have x2 : w.cell? ⟨bb, 51, none⟩ = some (.slice none 0 0) := (bk_cell hB (hr 5 (by decide) (by decide) 2 (by decide))).1
  clear hB hr
  go_enter Tryz.func63, Tryz.ntmps63
  go_wp2
  go_loop [3] (fun i => i = .int .i64 0) (fun _ => 0)
  case atStart => rfl
  case round =>
    subst hrel
    go_wp2
    go_loop [4] (fun i => i = .int .i64 0) (fun _ => 0)
    case atStart => rfl
    case round =>
      subst hrel
      go_wp2
      go_ret
      exact ⟨rfl, rfl⟩
theorem growUsers_none (bb : Nat) (cs : Array Value) (w : World) (hB : BkAt w bb cs) (hr : Rest cs) :
    Calls Tryz.prog 193 #[.pointer (some ⟨bb, 0, none⟩)] w fun e w' => e = .returned (.tuple #[]) ∧ BkAt w' bb cs ∧ w.grownBy w' (some bb) := by
  have r4 : cs[53]? = some (.slice none 0 0) := hr 5 (by decide) (by decide) 4 (by decide)
  have r7 : cs[56]? = some (.slice none 0 0) := hr 5 (by decide) (by decide) 7 (by decide)
  obtain ⟨x4, y4⟩ := bk_cell hB r4
  obtain ⟨x7, y7⟩ := bk_cell hB r7
  have HB : Hid (BkAt w bb cs) := hB
  have R4 : Hid (cs[53]? = some (.slice none 0 0)) := r4
  have R7 : Hid (cs[56]? = some (.slice none 0 0)) := r7
  clear hB hr r4 r7
  go_enter Tryz.func193, Tryz.ntmps193
  go_wp2
  go_loop [2] (fun i => i = .int .i64 0) (fun _ => 0)
  case atStart => rfl
  case round =>
    subst hrel
    go_wp2
    go_end0
    exact ⟨rfl, (HB.out.same R4.out).same R7.out, gb_set (gb_set (gb_refl _ _) _ _) _ _⟩
theorem markWhos_none (bb : Nat) (cs : Array Value) (w : World) (hB : BkAt w bb cs) (hr : Rest cs) :
    Calls Tryz.prog 177 #[.pointer (some ⟨bb, 0, none⟩)] w fun e w' => e = .returned (.tuple #[]) ∧ w' = w := by
  have x2 : w.cell? ⟨bb, 60, none⟩ = some (.slice none 0 0) := (bk_cell hB (hr 6 (by decide) (by decide) 2 (by decide))).1
  have x3 : w.cell? ⟨bb, 61, none⟩ = some (.slice none 0 0) := (bk_cell hB (hr 6 (by decide) (by decide) 3 (by decide))).1
  have x5 : w.cell? ⟨bb, 63, none⟩ = some (.slice none 0 0) := (bk_cell hB (hr 6 (by decide) (by decide) 5 (by decide))).1
  have x6 : w.cell? ⟨bb, 64, none⟩ = some (.slice none 0 0) := (bk_cell hB (hr 6 (by decide) (by decide) 6 (by decide))).1
  clear hB hr
  go_enter Tryz.func177, Tryz.ntmps177
  go_wp2
  exact bodyPost_ret (results_none rfl _ _ _) rfl ⟨rfl, rfl⟩
theorem holdWhos_none (bb : Nat) (cs : Array Value) (w : World) (hB : BkAt w bb cs) (hr : Rest cs) :
    Calls Tryz.prog 64 #[.pointer (some ⟨bb, 0, none⟩)] w fun e w' => e = .returned (.bool true) ∧ w' = w := by
  have x0 : w.cell? ⟨bb, 58, none⟩ = some (.slice none 0 0) := (bk_cell hB (hr 6 (by decide) (by decide) 0 (by decide))).1
  have x2 : w.cell? ⟨bb, 60, none⟩ = some (.slice none 0 0) := (bk_cell hB (hr 6 (by decide) (by decide) 2 (by decide))).1
  clear hB hr
  go_enter Tryz.func64, Tryz.ntmps64
  go_wp2
  go_loop [3] (fun i => i = .int .i64 0) (fun _ => 0)
  case atStart => rfl
  case round =>
    subst hrel
    go_wp2
    go_loop [4] (fun i => i = .int .i64 0) (fun _ => 0)
    case atStart => rfl
    case round =>
      subst hrel
      go_wp2
      go_ret
      exact ⟨rfl, rfl⟩
theorem growWhos_none (bb : Nat) (cs : Array Value) (w : World) (hB : BkAt w bb cs) (hr : Rest cs) :
    Calls Tryz.prog 194 #[.pointer (some ⟨bb, 0, none⟩)] w fun e w' => e = .returned (.tuple #[]) ∧ BkAt w' bb cs ∧ w.grownBy w' (some bb) := by
  have r4 : cs[62]? = some (.slice none 0 0) := hr 6 (by decide) (by decide) 4 (by decide)
  have r7 : cs[65]? = some (.slice none 0 0) := hr 6 (by decide) (by decide) 7 (by decide)
  obtain ⟨x4, y4⟩ := bk_cell hB r4
  obtain ⟨x7, y7⟩ := bk_cell hB r7
  have HB : Hid (BkAt w bb cs) := hB
  have R4 : Hid (cs[62]? = some (.slice none 0 0)) := r4
  have R7 : Hid (cs[65]? = some (.slice none 0 0)) := r7
  clear hB hr r4 r7
  go_enter Tryz.func194, Tryz.ntmps194
  go_wp2
  go_loop [2] (fun i => i = .int .i64 0) (fun _ => 0)
  case atStart => rfl
  case round =>
    subst hrel
    go_wp2
    go_end0
    exact ⟨rfl, (HB.out.same R4.out).same R7.out, gb_set (gb_set (gb_refl _ _) _ _) _ _⟩
theorem markChunks_none (bb : Nat) (cs : Array Value) (w : World) (hB : BkAt w bb cs) (hr : Rest cs) :
    Calls Tryz.prog 178 #[.pointer (some ⟨bb, 0, none⟩)] w fun e w' => e = .returned (.tuple #[]) ∧ w' = w := by
  have x2 : w.cell? ⟨bb, 69, none⟩ = some (.slice none 0 0) := (bk_cell hB (hr 7 (by decide) (by decide) 2 (by decide))).1
  have x3 : w.cell? ⟨bb, 70, none⟩ = some (.slice none 0 0) := (bk_cell hB (hr 7 (by decide) (by decide) 3 (by decide))).1
  have x5 : w.cell? ⟨bb, 72, none⟩ = some (.slice none 0 0) := (bk_cell hB (hr 7 (by decide) (by decide) 5 (by decide))).1
  have x6 : w.cell? ⟨bb, 73, none⟩ = some (.slice none 0 0) := (bk_cell hB (hr 7 (by decide) (by decide) 6 (by decide))).1
  clear hB hr
  go_enter Tryz.func178, Tryz.ntmps178
  go_wp2
  exact bodyPost_ret (results_none rfl _ _ _) rfl ⟨rfl, rfl⟩
theorem holdChunks_none (bb : Nat) (cs : Array Value) (w : World) (hB : BkAt w bb cs) (hr : Rest cs) :
    Calls Tryz.prog 65 #[.pointer (some ⟨bb, 0, none⟩)] w fun e w' => e = .returned (.bool true) ∧ w' = w := by
  have x0 : w.cell? ⟨bb, 67, none⟩ = some (.slice none 0 0) := (bk_cell hB (hr 7 (by decide) (by decide) 0 (by decide))).1
  have x2 : w.cell? ⟨bb, 69, none⟩ = some (.slice none 0 0) := (bk_cell hB (hr 7 (by decide) (by decide) 2 (by decide))).1
  clear hB hr
  go_enter Tryz.func65, Tryz.ntmps65
  go_wp2
  go_loop [3] (fun i => i = .int .i64 0) (fun _ => 0)
  case atStart => rfl
  case round =>
    subst hrel
    go_wp2
    go_loop [4] (fun i => i = .int .i64 0) (fun _ => 0)
    case atStart => rfl
    case round =>
      subst hrel
      go_wp2
      go_ret
      exact ⟨rfl, rfl⟩
theorem growChunks_none (bb : Nat) (cs : Array Value) (w : World) (hB : BkAt w bb cs) (hr : Rest cs) :
    Calls Tryz.prog 195 #[.pointer (some ⟨bb, 0, none⟩)] w fun e w' => e = .returned (.tuple #[]) ∧ BkAt w' bb cs ∧ w.grownBy w' (some bb) := by
  have r4 : cs[71]? = some (.slice none 0 0) := hr 7 (by decide) (by decide) 4 (by decide)
  have r7 : cs[74]? = some (.slice none 0 0) := hr 7 (by decide) (by decide) 7 (by decide)
  obtain ⟨x4, y4⟩ := bk_cell hB r4
  obtain ⟨x7, y7⟩ := bk_cell hB r7
  have HB : Hid (BkAt w bb cs) := hB
  have R4 : Hid (cs[71]? = some (.slice none 0 0)) := r4
  have R7 : Hid (cs[74]? = some (.slice none 0 0)) := r7
  clear hB hr r4 r7
  go_enter Tryz.func195, Tryz.ntmps195
  go_wp2
  go_loop [2] (fun i => i = .int .i64 0) (fun _ => 0)
  case atStart => rfl
  case round =>
    subst hrel
    go_wp2
    go_end0
    exact ⟨rfl, (HB.out.same R4.out).same R7.out, gb_set (gb_set (gb_refl _ _) _ _) _ _⟩
theorem markMessages_none (bb : Nat) (cs : Array Value) (w : World) (hB : BkAt w bb cs) (hr : Rest cs) :
    Calls Tryz.prog 179 #[.pointer (some ⟨bb, 0, none⟩)] w fun e w' => e = .returned (.tuple #[]) ∧ w' = w := by
  have x2 : w.cell? ⟨bb, 78, none⟩ = some (.slice none 0 0) := (bk_cell hB (hr 8 (by decide) (by decide) 2 (by decide))).1
  have x3 : w.cell? ⟨bb, 79, none⟩ = some (.slice none 0 0) := (bk_cell hB (hr 8 (by decide) (by decide) 3 (by decide))).1
  have x5 : w.cell? ⟨bb, 81, none⟩ = some (.slice none 0 0) := (bk_cell hB (hr 8 (by decide) (by decide) 5 (by decide))).1
  have x6 : w.cell? ⟨bb, 82, none⟩ = some (.slice none 0 0) := (bk_cell hB (hr 8 (by decide) (by decide) 6 (by decide))).1
  clear hB hr
  go_enter Tryz.func179, Tryz.ntmps179
  go_wp2
  exact bodyPost_ret (results_none rfl _ _ _) rfl ⟨rfl, rfl⟩
theorem holdMessages_none (bb : Nat) (cs : Array Value) (w : World) (hB : BkAt w bb cs) (hr : Rest cs) :
    Calls Tryz.prog 66 #[.pointer (some ⟨bb, 0, none⟩)] w fun e w' => e = .returned (.bool true) ∧ w' = w := by
  have x0 : w.cell? ⟨bb, 76, none⟩ = some (.slice none 0 0) := (bk_cell hB (hr 8 (by decide) (by decide) 0 (by decide))).1
  have x2 : w.cell? ⟨bb, 78, none⟩ = some (.slice none 0 0) := (bk_cell hB (hr 8 (by decide) (by decide) 2 (by decide))).1
  clear hB hr
  go_enter Tryz.func66, Tryz.ntmps66
  go_wp2
  go_loop [3] (fun i => i = .int .i64 0) (fun _ => 0)
  case atStart => rfl
  case round =>
    subst hrel
    go_wp2
    go_loop [4] (fun i => i = .int .i64 0) (fun _ => 0)
    case atStart => rfl
    case round =>
      subst hrel
      go_wp2
      go_ret
      exact ⟨rfl, rfl⟩
theorem growMessages_none (bb : Nat) (cs : Array Value) (w : World) (hB : BkAt w bb cs) (hr : Rest cs) :
    Calls Tryz.prog 196 #[.pointer (some ⟨bb, 0, none⟩)] w fun e w' => e = .returned (.tuple #[]) ∧ BkAt w' bb cs ∧ w.grownBy w' (some bb) := by
  have r4 : cs[80]? = some (.slice none 0 0) := hr 8 (by decide) (by decide) 4 (by decide)
  have r7 : cs[83]? = some (.slice none 0 0) := hr 8 (by decide) (by decide) 7 (by decide)
  obtain ⟨x4, y4⟩ := bk_cell hB r4
  obtain ⟨x7, y7⟩ := bk_cell hB r7
  have HB : Hid (BkAt w bb cs) := hB
  have R4 : Hid (cs[80]? = some (.slice none 0 0)) := r4
  have R7 : Hid (cs[83]? = some (.slice none 0 0)) := r7
  clear hB hr r4 r7
  go_enter Tryz.func196, Tryz.ntmps196
  go_wp2
  go_loop [2] (fun i => i = .int .i64 0) (fun _ => 0)
  case atStart => rfl
  case round =>
    subst hrel
    go_wp2
    go_end0
    exact ⟨rfl, (HB.out.same R4.out).same R7.out, gb_set (gb_set (gb_refl _ _) _ _) _ _⟩
theorem markPackets_none (bb : Nat) (cs : Array Value) (w : World) (hB : BkAt w bb cs) (hr : Rest cs) :
    Calls Tryz.prog 180 #[.pointer (some ⟨bb, 0, none⟩)] w fun e w' => e = .returned (.tuple #[]) ∧ w' = w := by
  have x2 : w.cell? ⟨bb, 87, none⟩ = some (.slice none 0 0) := (bk_cell hB (hr 9 (by decide) (by decide) 2 (by decide))).1
  have x3 : w.cell? ⟨bb, 88, none⟩ = some (.slice none 0 0) := (bk_cell hB (hr 9 (by decide) (by decide) 3 (by decide))).1
  have x5 : w.cell? ⟨bb, 90, none⟩ = some (.slice none 0 0) := (bk_cell hB (hr 9 (by decide) (by decide) 5 (by decide))).1
  have x6 : w.cell? ⟨bb, 91, none⟩ = some (.slice none 0 0) := (bk_cell hB (hr 9 (by decide) (by decide) 6 (by decide))).1
  clear hB hr
  go_enter Tryz.func180, Tryz.ntmps180
  go_wp2
  exact bodyPost_ret (results_none rfl _ _ _) rfl ⟨rfl, rfl⟩
theorem holdPackets_none (bb : Nat) (cs : Array Value) (w : World) (hB : BkAt w bb cs) (hr : Rest cs) :
    Calls Tryz.prog 67 #[.pointer (some ⟨bb, 0, none⟩)] w fun e w' => e = .returned (.bool true) ∧ w' = w := by
  have x0 : w.cell? ⟨bb, 85, none⟩ = some (.slice none 0 0) := (bk_cell hB (hr 9 (by decide) (by decide) 0 (by decide))).1
  have x2 : w.cell? ⟨bb, 87, none⟩ = some (.slice none 0 0) := (bk_cell hB (hr 9 (by decide) (by decide) 2 (by decide))).1
  clear hB hr
  go_enter Tryz.func67, Tryz.ntmps67
  go_wp2
  go_loop [3] (fun i => i = .int .i64 0) (fun _ => 0)
  case atStart => rfl
  case round =>
    subst hrel
    go_wp2
    go_loop [4] (fun i => i = .int .i64 0) (fun _ => 0)
    case atStart => rfl
    case round =>
      subst hrel
      go_wp2
      go_ret
      exact ⟨rfl, rfl⟩
theorem growPackets_none (bb : Nat) (cs : Array Value) (w : World) (hB : BkAt w bb cs) (hr : Rest cs) :
    Calls Tryz.prog 197 #[.pointer (some ⟨bb, 0, none⟩)] w fun e w' => e = .returned (.tuple #[]) ∧ BkAt w' bb cs ∧ w.grownBy w' (some bb) := by
  have r4 : cs[89]? = some (.slice none 0 0) := hr 9 (by decide) (by decide) 4 (by decide)
  have r7 : cs[92]? = some (.slice none 0 0) := hr 9 (by decide) (by decide) 7 (by decide)
  obtain ⟨x4, y4⟩ := bk_cell hB r4
  obtain ⟨x7, y7⟩ := bk_cell hB r7
  have HB : Hid (BkAt w bb cs) := hB
  have R4 : Hid (cs[89]? = some (.slice none 0 0)) := r4
  have R7 : Hid (cs[92]? = some (.slice none 0 0)) := r7
  clear hB hr r4 r7
  go_enter Tryz.func197, Tryz.ntmps197
  go_wp2
  go_loop [2] (fun i => i = .int .i64 0) (fun _ => 0)
  case atStart => rfl
  case round =>
    subst hrel
    go_wp2
    go_end0
    exact ⟨rfl, (HB.out.same R4.out).same R7.out, gb_set (gb_set (gb_refl _ _) _ _) _ _⟩
theorem markFlights_none (bb : Nat) (cs : Array Value) (w : World) (hB : BkAt w bb cs) (hr : Rest cs) :
    Calls Tryz.prog 181 #[.pointer (some ⟨bb, 0, none⟩)] w fun e w' => e = .returned (.tuple #[]) ∧ w' = w := by
  have x2 : w.cell? ⟨bb, 96, none⟩ = some (.slice none 0 0) := (bk_cell hB (hr 10 (by decide) (by decide) 2 (by decide))).1
  have x3 : w.cell? ⟨bb, 97, none⟩ = some (.slice none 0 0) := (bk_cell hB (hr 10 (by decide) (by decide) 3 (by decide))).1
  have x5 : w.cell? ⟨bb, 99, none⟩ = some (.slice none 0 0) := (bk_cell hB (hr 10 (by decide) (by decide) 5 (by decide))).1
  have x6 : w.cell? ⟨bb, 100, none⟩ = some (.slice none 0 0) := (bk_cell hB (hr 10 (by decide) (by decide) 6 (by decide))).1
  clear hB hr
  go_enter Tryz.func181, Tryz.ntmps181
  go_wp2
  exact bodyPost_ret (results_none rfl _ _ _) rfl ⟨rfl, rfl⟩
theorem holdFlights_none (bb : Nat) (cs : Array Value) (w : World) (hB : BkAt w bb cs) (hr : Rest cs) :
    Calls Tryz.prog 68 #[.pointer (some ⟨bb, 0, none⟩)] w fun e w' => e = .returned (.bool true) ∧ w' = w := by
  have x0 : w.cell? ⟨bb, 94, none⟩ = some (.slice none 0 0) := (bk_cell hB (hr 10 (by decide) (by decide) 0 (by decide))).1
  have x2 : w.cell? ⟨bb, 96, none⟩ = some (.slice none 0 0) := (bk_cell hB (hr 10 (by decide) (by decide) 2 (by decide))).1
  clear hB hr
  go_enter Tryz.func68, Tryz.ntmps68
  go_wp2
  go_loop [3] (fun i => i = .int .i64 0) (fun _ => 0)
  case atStart => rfl
  case round =>
    subst hrel
    go_wp2
    go_loop [4] (fun i => i = .int .i64 0) (fun _ => 0)
    case atStart => rfl
    case round =>
      subst hrel
      go_wp2
      go_ret
      exact ⟨rfl, rfl⟩
theorem growFlights_none (bb : Nat) (cs : Array Value) (w : World) (hB : BkAt w bb cs) (hr : Rest cs) :
    Calls Tryz.prog 198 #[.pointer (some ⟨bb, 0, none⟩)] w fun e w' => e = .returned (.tuple #[]) ∧ BkAt w' bb cs ∧ w.grownBy w' (some bb) := by
  have r4 : cs[98]? = some (.slice none 0 0) := hr 10 (by decide) (by decide) 4 (by decide)
  have r7 : cs[101]? = some (.slice none 0 0) := hr 10 (by decide) (by decide) 7 (by decide)
  obtain ⟨x4, y4⟩ := bk_cell hB r4
  obtain ⟨x7, y7⟩ := bk_cell hB r7
  have HB : Hid (BkAt w bb cs) := hB
  have R4 : Hid (cs[98]? = some (.slice none 0 0)) := r4
  have R7 : Hid (cs[101]? = some (.slice none 0 0)) := r7
  clear hB hr r4 r7
  go_enter Tryz.func198, Tryz.ntmps198
  go_wp2
  go_loop [2] (fun i => i = .int .i64 0) (fun _ => 0)
  case atStart => rfl
  case round =>
    subst hrel
    go_wp2
    go_end0
    exact ⟨rfl, (HB.out.same R4.out).same R7.out, gb_set (gb_set (gb_refl _ _) _ _) _ _⟩
theorem markOuts_none (bb : Nat) (cs : Array Value) (w : World) (hB : BkAt w bb cs) (hr : Rest cs) :
    Calls Tryz.prog 182 #[.pointer (some ⟨bb, 0, none⟩)] w fun e w' => e = .returned (.tuple #[]) ∧ w' = w := by
  have x2 : w.cell? ⟨bb, 105, none⟩ = some (.slice none 0 0) := (bk_cell hB (hr 11 (by decide) (by decide) 2 (by decide))).1
  have x3 : w.cell? ⟨bb, 106, none⟩ = some (.slice none 0 0) := (bk_cell hB (hr 11 (by decide) (by decide) 3 (by decide))).1
  have x5 : w.cell? ⟨bb, 108, none⟩ = some (.slice none 0 0) := (bk_cell hB (hr 11 (by decide) (by decide) 5 (by decide))).1
  have x6 : w.cell? ⟨bb, 109, none⟩ = some (.slice none 0 0) := (bk_cell hB (hr 11 (by decide) (by decide) 6 (by decide))).1
  clear hB hr
  go_enter Tryz.func182, Tryz.ntmps182
  go_wp2
  exact bodyPost_ret (results_none rfl _ _ _) rfl ⟨rfl, rfl⟩
theorem holdOuts_none (bb : Nat) (cs : Array Value) (w : World) (hB : BkAt w bb cs) (hr : Rest cs) :
    Calls Tryz.prog 69 #[.pointer (some ⟨bb, 0, none⟩)] w fun e w' => e = .returned (.bool true) ∧ w' = w := by
  have x0 : w.cell? ⟨bb, 103, none⟩ = some (.slice none 0 0) := (bk_cell hB (hr 11 (by decide) (by decide) 0 (by decide))).1
  have x2 : w.cell? ⟨bb, 105, none⟩ = some (.slice none 0 0) := (bk_cell hB (hr 11 (by decide) (by decide) 2 (by decide))).1
  clear hB hr
  go_enter Tryz.func69, Tryz.ntmps69
  go_wp2
  go_loop [3] (fun i => i = .int .i64 0) (fun _ => 0)
  case atStart => rfl
  case round =>
    subst hrel
    go_wp2
    go_loop [4] (fun i => i = .int .i64 0) (fun _ => 0)
    case atStart => rfl
    case round =>
      subst hrel
      go_wp2
      go_ret
      exact ⟨rfl, rfl⟩
theorem growOuts_none (bb : Nat) (cs : Array Value) (w : World) (hB : BkAt w bb cs) (hr : Rest cs) :
    Calls Tryz.prog 199 #[.pointer (some ⟨bb, 0, none⟩)] w fun e w' => e = .returned (.tuple #[]) ∧ BkAt w' bb cs ∧ w.grownBy w' (some bb) := by
  have r4 : cs[107]? = some (.slice none 0 0) := hr 11 (by decide) (by decide) 4 (by decide)
  have r7 : cs[110]? = some (.slice none 0 0) := hr 11 (by decide) (by decide) 7 (by decide)
  obtain ⟨x4, y4⟩ := bk_cell hB r4
  obtain ⟨x7, y7⟩ := bk_cell hB r7
  have HB : Hid (BkAt w bb cs) := hB
  have R4 : Hid (cs[107]? = some (.slice none 0 0)) := r4
  have R7 : Hid (cs[110]? = some (.slice none 0 0)) := r7
  clear hB hr r4 r7
  go_enter Tryz.func199, Tryz.ntmps199
  go_wp2
  go_loop [2] (fun i => i = .int .i64 0) (fun _ => 0)
  case atStart => rfl
  case round =>
    subst hrel
    go_wp2
    go_end0
    exact ⟨rfl, (HB.out.same R4.out).same R7.out, gb_set (gb_set (gb_refl _ _) _ _) _ _⟩
theorem markInputs_none (bb : Nat) (cs : Array Value) (w : World) (hB : BkAt w bb cs) (hr : Rest cs) :
    Calls Tryz.prog 183 #[.pointer (some ⟨bb, 0, none⟩)] w fun e w' => e = .returned (.tuple #[]) ∧ w' = w := by
  have x2 : w.cell? ⟨bb, 114, none⟩ = some (.slice none 0 0) := (bk_cell hB (hr 12 (by decide) (by decide) 2 (by decide))).1
  have x3 : w.cell? ⟨bb, 115, none⟩ = some (.slice none 0 0) := (bk_cell hB (hr 12 (by decide) (by decide) 3 (by decide))).1
  have x5 : w.cell? ⟨bb, 117, none⟩ = some (.slice none 0 0) := (bk_cell hB (hr 12 (by decide) (by decide) 5 (by decide))).1
  have x6 : w.cell? ⟨bb, 118, none⟩ = some (.slice none 0 0) := (bk_cell hB (hr 12 (by decide) (by decide) 6 (by decide))).1
  clear hB hr
  go_enter Tryz.func183, Tryz.ntmps183
  go_wp2
  exact bodyPost_ret (results_none rfl _ _ _) rfl ⟨rfl, rfl⟩
theorem holdInputs_none (bb : Nat) (cs : Array Value) (w : World) (hB : BkAt w bb cs) (hr : Rest cs) :
    Calls Tryz.prog 70 #[.pointer (some ⟨bb, 0, none⟩)] w fun e w' => e = .returned (.bool true) ∧ w' = w := by
  have x0 : w.cell? ⟨bb, 112, none⟩ = some (.slice none 0 0) := (bk_cell hB (hr 12 (by decide) (by decide) 0 (by decide))).1
  have x2 : w.cell? ⟨bb, 114, none⟩ = some (.slice none 0 0) := (bk_cell hB (hr 12 (by decide) (by decide) 2 (by decide))).1
  clear hB hr
  go_enter Tryz.func70, Tryz.ntmps70
  go_wp2
  go_loop [3] (fun i => i = .int .i64 0) (fun _ => 0)
  case atStart => rfl
  case round =>
    subst hrel
    go_wp2
    go_loop [4] (fun i => i = .int .i64 0) (fun _ => 0)
    case atStart => rfl
    case round =>
      subst hrel
      go_wp2
      go_ret
      exact ⟨rfl, rfl⟩
theorem growInputs_none (bb : Nat) (cs : Array Value) (w : World) (hB : BkAt w bb cs) (hr : Rest cs) :
    Calls Tryz.prog 200 #[.pointer (some ⟨bb, 0, none⟩)] w fun e w' => e = .returned (.tuple #[]) ∧ BkAt w' bb cs ∧ w.grownBy w' (some bb) := by
  have r4 : cs[116]? = some (.slice none 0 0) := hr 12 (by decide) (by decide) 4 (by decide)
  have r7 : cs[119]? = some (.slice none 0 0) := hr 12 (by decide) (by decide) 7 (by decide)
  obtain ⟨x4, y4⟩ := bk_cell hB r4
  obtain ⟨x7, y7⟩ := bk_cell hB r7
  have HB : Hid (BkAt w bb cs) := hB
  have R4 : Hid (cs[116]? = some (.slice none 0 0)) := r4
  have R7 : Hid (cs[119]? = some (.slice none 0 0)) := r7
  clear hB hr r4 r7
  go_enter Tryz.func200, Tryz.ntmps200
  go_wp2
  go_loop [2] (fun i => i = .int .i64 0) (fun _ => 0)
  case atStart => rfl
  case round =>
    subst hrel
    go_wp2
    go_end0
    exact ⟨rfl, (HB.out.same R4.out).same R7.out, gb_set (gb_set (gb_refl _ _) _ _) _ _⟩
theorem markTolds_none (bb : Nat) (cs : Array Value) (w : World) (hB : BkAt w bb cs) (hr : Rest cs) :
    Calls Tryz.prog 184 #[.pointer (some ⟨bb, 0, none⟩)] w fun e w' => e = .returned (.tuple #[]) ∧ w' = w := by
  have x2 : w.cell? ⟨bb, 123, none⟩ = some (.slice none 0 0) := (bk_cell hB (hr 13 (by decide) (by decide) 2 (by decide))).1
  have x3 : w.cell? ⟨bb, 124, none⟩ = some (.slice none 0 0) := (bk_cell hB (hr 13 (by decide) (by decide) 3 (by decide))).1
  have x5 : w.cell? ⟨bb, 126, none⟩ = some (.slice none 0 0) := (bk_cell hB (hr 13 (by decide) (by decide) 5 (by decide))).1
  have x6 : w.cell? ⟨bb, 127, none⟩ = some (.slice none 0 0) := (bk_cell hB (hr 13 (by decide) (by decide) 6 (by decide))).1
  clear hB hr
  go_enter Tryz.func184, Tryz.ntmps184
  go_wp2
  exact bodyPost_ret (results_none rfl _ _ _) rfl ⟨rfl, rfl⟩
theorem holdTolds_none (bb : Nat) (cs : Array Value) (w : World) (hB : BkAt w bb cs) (hr : Rest cs) :
    Calls Tryz.prog 71 #[.pointer (some ⟨bb, 0, none⟩)] w fun e w' => e = .returned (.bool true) ∧ w' = w := by
  have x0 : w.cell? ⟨bb, 121, none⟩ = some (.slice none 0 0) := (bk_cell hB (hr 13 (by decide) (by decide) 0 (by decide))).1
  have x2 : w.cell? ⟨bb, 123, none⟩ = some (.slice none 0 0) := (bk_cell hB (hr 13 (by decide) (by decide) 2 (by decide))).1
  clear hB hr
  go_enter Tryz.func71, Tryz.ntmps71
  go_wp2
  go_loop [3] (fun i => i = .int .i64 0) (fun _ => 0)
  case atStart => rfl
  case round =>
    subst hrel
    go_wp2
    go_loop [4] (fun i => i = .int .i64 0) (fun _ => 0)
    case atStart => rfl
    case round =>
      subst hrel
      go_wp2
      go_ret
      exact ⟨rfl, rfl⟩
theorem growTolds_none (bb : Nat) (cs : Array Value) (w : World) (hB : BkAt w bb cs) (hr : Rest cs) :
    Calls Tryz.prog 201 #[.pointer (some ⟨bb, 0, none⟩)] w fun e w' => e = .returned (.tuple #[]) ∧ BkAt w' bb cs ∧ w.grownBy w' (some bb) := by
  have r4 : cs[125]? = some (.slice none 0 0) := hr 13 (by decide) (by decide) 4 (by decide)
  have r7 : cs[128]? = some (.slice none 0 0) := hr 13 (by decide) (by decide) 7 (by decide)
  obtain ⟨x4, y4⟩ := bk_cell hB r4
  obtain ⟨x7, y7⟩ := bk_cell hB r7
  have HB : Hid (BkAt w bb cs) := hB
  have R4 : Hid (cs[125]? = some (.slice none 0 0)) := r4
  have R7 : Hid (cs[128]? = some (.slice none 0 0)) := r7
  clear hB hr r4 r7
  go_enter Tryz.func201, Tryz.ntmps201
  go_wp2
  go_loop [2] (fun i => i = .int .i64 0) (fun _ => 0)
  case atStart => rfl
  case round =>
    subst hrel
    go_wp2
    go_end0
    exact ⟨rfl, (HB.out.same R4.out).same R7.out, gb_set (gb_set (gb_refl _ _) _ _) _ _⟩
theorem markSessions_none (bb : Nat) (cs : Array Value) (w : World) (hB : BkAt w bb cs) (hr : Rest cs) :
    Calls Tryz.prog 185 #[.pointer (some ⟨bb, 0, none⟩)] w fun e w' => e = .returned (.tuple #[]) ∧ w' = w := by
  have x2 : w.cell? ⟨bb, 132, none⟩ = some (.slice none 0 0) := (bk_cell hB (hr 14 (by decide) (by decide) 2 (by decide))).1
  have x3 : w.cell? ⟨bb, 133, none⟩ = some (.slice none 0 0) := (bk_cell hB (hr 14 (by decide) (by decide) 3 (by decide))).1
  have x5 : w.cell? ⟨bb, 135, none⟩ = some (.slice none 0 0) := (bk_cell hB (hr 14 (by decide) (by decide) 5 (by decide))).1
  have x6 : w.cell? ⟨bb, 136, none⟩ = some (.slice none 0 0) := (bk_cell hB (hr 14 (by decide) (by decide) 6 (by decide))).1
  clear hB hr
  go_enter Tryz.func185, Tryz.ntmps185
  go_wp2
  exact bodyPost_ret (results_none rfl _ _ _) rfl ⟨rfl, rfl⟩
theorem holdSessions_none (bb : Nat) (cs : Array Value) (w : World) (hB : BkAt w bb cs) (hr : Rest cs) :
    Calls Tryz.prog 72 #[.pointer (some ⟨bb, 0, none⟩)] w fun e w' => e = .returned (.bool true) ∧ w' = w := by
  have x0 : w.cell? ⟨bb, 130, none⟩ = some (.slice none 0 0) := (bk_cell hB (hr 14 (by decide) (by decide) 0 (by decide))).1
  have x2 : w.cell? ⟨bb, 132, none⟩ = some (.slice none 0 0) := (bk_cell hB (hr 14 (by decide) (by decide) 2 (by decide))).1
  clear hB hr
  go_enter Tryz.func72, Tryz.ntmps72
  go_wp2
  go_loop [3] (fun i => i = .int .i64 0) (fun _ => 0)
  case atStart => rfl
  case round =>
    subst hrel
    go_wp2
    go_loop [4] (fun i => i = .int .i64 0) (fun _ => 0)
    case atStart => rfl
    case round =>
      subst hrel
      go_wp2
      go_ret
      exact ⟨rfl, rfl⟩
theorem growSessions_none (bb : Nat) (cs : Array Value) (w : World) (hB : BkAt w bb cs) (hr : Rest cs) :
    Calls Tryz.prog 202 #[.pointer (some ⟨bb, 0, none⟩)] w fun e w' => e = .returned (.tuple #[]) ∧ BkAt w' bb cs ∧ w.grownBy w' (some bb) := by
  have r4 : cs[134]? = some (.slice none 0 0) := hr 14 (by decide) (by decide) 4 (by decide)
  have r7 : cs[137]? = some (.slice none 0 0) := hr 14 (by decide) (by decide) 7 (by decide)
  obtain ⟨x4, y4⟩ := bk_cell hB r4
  obtain ⟨x7, y7⟩ := bk_cell hB r7
  have HB : Hid (BkAt w bb cs) := hB
  have R4 : Hid (cs[134]? = some (.slice none 0 0)) := r4
  have R7 : Hid (cs[137]? = some (.slice none 0 0)) := r7
  clear hB hr r4 r7
  go_enter Tryz.func202, Tryz.ntmps202
  go_wp2
  go_loop [2] (fun i => i = .int .i64 0) (fun _ => 0)
  case atStart => rfl
  case round =>
    subst hrel
    go_wp2
    go_end0
    exact ⟨rfl, (HB.out.same R4.out).same R7.out, gb_set (gb_set (gb_refl _ _) _ _) _ _⟩
theorem markShapes_none (bb : Nat) (cs : Array Value) (w : World) (hB : BkAt w bb cs) (hr : Rest cs) :
    Calls Tryz.prog 186 #[.pointer (some ⟨bb, 0, none⟩)] w fun e w' => e = .returned (.tuple #[]) ∧ w' = w := by
  have x2 : w.cell? ⟨bb, 141, none⟩ = some (.slice none 0 0) := (bk_cell hB (hr 15 (by decide) (by decide) 2 (by decide))).1
  have x3 : w.cell? ⟨bb, 142, none⟩ = some (.slice none 0 0) := (bk_cell hB (hr 15 (by decide) (by decide) 3 (by decide))).1
  have x5 : w.cell? ⟨bb, 144, none⟩ = some (.slice none 0 0) := (bk_cell hB (hr 15 (by decide) (by decide) 5 (by decide))).1
  have x6 : w.cell? ⟨bb, 145, none⟩ = some (.slice none 0 0) := (bk_cell hB (hr 15 (by decide) (by decide) 6 (by decide))).1
  clear hB hr
  go_enter Tryz.func186, Tryz.ntmps186
  go_wp2
  exact bodyPost_ret (results_none rfl _ _ _) rfl ⟨rfl, rfl⟩
theorem holdShapes_none (bb : Nat) (cs : Array Value) (w : World) (hB : BkAt w bb cs) (hr : Rest cs) :
    Calls Tryz.prog 73 #[.pointer (some ⟨bb, 0, none⟩)] w fun e w' => e = .returned (.bool true) ∧ w' = w := by
  have x0 : w.cell? ⟨bb, 139, none⟩ = some (.slice none 0 0) := (bk_cell hB (hr 15 (by decide) (by decide) 0 (by decide))).1
  have x2 : w.cell? ⟨bb, 141, none⟩ = some (.slice none 0 0) := (bk_cell hB (hr 15 (by decide) (by decide) 2 (by decide))).1
  clear hB hr
  go_enter Tryz.func73, Tryz.ntmps73
  go_wp2
  go_loop [3] (fun i => i = .int .i64 0) (fun _ => 0)
  case atStart => rfl
  case round =>
    subst hrel
    go_wp2
    go_loop [4] (fun i => i = .int .i64 0) (fun _ => 0)
    case atStart => rfl
    case round =>
      subst hrel
      go_wp2
      go_ret
      exact ⟨rfl, rfl⟩
theorem growShapes_none (bb : Nat) (cs : Array Value) (w : World) (hB : BkAt w bb cs) (hr : Rest cs) :
    Calls Tryz.prog 203 #[.pointer (some ⟨bb, 0, none⟩)] w fun e w' => e = .returned (.tuple #[]) ∧ BkAt w' bb cs ∧ w.grownBy w' (some bb) := by
  have r4 : cs[143]? = some (.slice none 0 0) := hr 15 (by decide) (by decide) 4 (by decide)
  have r7 : cs[146]? = some (.slice none 0 0) := hr 15 (by decide) (by decide) 7 (by decide)
  obtain ⟨x4, y4⟩ := bk_cell hB r4
  obtain ⟨x7, y7⟩ := bk_cell hB r7
  have HB : Hid (BkAt w bb cs) := hB
  have R4 : Hid (cs[143]? = some (.slice none 0 0)) := r4
  have R7 : Hid (cs[146]? = some (.slice none 0 0)) := r7
  clear hB hr r4 r7
  go_enter Tryz.func203, Tryz.ntmps203
  go_wp2
  go_loop [2] (fun i => i = .int .i64 0) (fun _ => 0)
  case atStart => rfl
  case round =>
    subst hrel
    go_wp2
    go_end0
    exact ⟨rfl, (HB.out.same R4.out).same R7.out, gb_set (gb_set (gb_refl _ _) _ _) _ _⟩
theorem markSteps_none (bb : Nat) (cs : Array Value) (w : World) (hB : BkAt w bb cs) (hr : Rest cs) :
    Calls Tryz.prog 187 #[.pointer (some ⟨bb, 0, none⟩)] w fun e w' => e = .returned (.tuple #[]) ∧ w' = w := by
  have x2 : w.cell? ⟨bb, 150, none⟩ = some (.slice none 0 0) := (bk_cell hB (hr 16 (by decide) (by decide) 2 (by decide))).1
  have x3 : w.cell? ⟨bb, 151, none⟩ = some (.slice none 0 0) := (bk_cell hB (hr 16 (by decide) (by decide) 3 (by decide))).1
  have x5 : w.cell? ⟨bb, 153, none⟩ = some (.slice none 0 0) := (bk_cell hB (hr 16 (by decide) (by decide) 5 (by decide))).1
  have x6 : w.cell? ⟨bb, 154, none⟩ = some (.slice none 0 0) := (bk_cell hB (hr 16 (by decide) (by decide) 6 (by decide))).1
  clear hB hr
  go_enter Tryz.func187, Tryz.ntmps187
  go_wp2
  exact bodyPost_ret (results_none rfl _ _ _) rfl ⟨rfl, rfl⟩
theorem holdSteps_none (bb : Nat) (cs : Array Value) (w : World) (hB : BkAt w bb cs) (hr : Rest cs) :
    Calls Tryz.prog 74 #[.pointer (some ⟨bb, 0, none⟩)] w fun e w' => e = .returned (.bool true) ∧ w' = w := by
  have x0 : w.cell? ⟨bb, 148, none⟩ = some (.slice none 0 0) := (bk_cell hB (hr 16 (by decide) (by decide) 0 (by decide))).1
  have x2 : w.cell? ⟨bb, 150, none⟩ = some (.slice none 0 0) := (bk_cell hB (hr 16 (by decide) (by decide) 2 (by decide))).1
  clear hB hr
  go_enter Tryz.func74, Tryz.ntmps74
  go_wp2
  go_loop [3] (fun i => i = .int .i64 0) (fun _ => 0)
  case atStart => rfl
  case round =>
    subst hrel
    go_wp2
    go_loop [4] (fun i => i = .int .i64 0) (fun _ => 0)
    case atStart => rfl
    case round =>
      subst hrel
      go_wp2
      go_ret
      exact ⟨rfl, rfl⟩
theorem growSteps_none (bb : Nat) (cs : Array Value) (w : World) (hB : BkAt w bb cs) (hr : Rest cs) :
    Calls Tryz.prog 204 #[.pointer (some ⟨bb, 0, none⟩)] w fun e w' => e = .returned (.tuple #[]) ∧ BkAt w' bb cs ∧ w.grownBy w' (some bb) := by
  have r4 : cs[152]? = some (.slice none 0 0) := hr 16 (by decide) (by decide) 4 (by decide)
  have r7 : cs[155]? = some (.slice none 0 0) := hr 16 (by decide) (by decide) 7 (by decide)
  obtain ⟨x4, y4⟩ := bk_cell hB r4
  obtain ⟨x7, y7⟩ := bk_cell hB r7
  have HB : Hid (BkAt w bb cs) := hB
  have R4 : Hid (cs[152]? = some (.slice none 0 0)) := r4
  have R7 : Hid (cs[155]? = some (.slice none 0 0)) := r7
  clear hB hr r4 r7
  go_enter Tryz.func204, Tryz.ntmps204
  go_wp2
  go_loop [2] (fun i => i = .int .i64 0) (fun _ => 0)
  case atStart => rfl
  case round =>
    subst hrel
    go_wp2
    go_end0
    exact ⟨rfl, (HB.out.same R4.out).same R7.out, gb_set (gb_set (gb_refl _ _) _ _) _ _⟩
set_option maxHeartbeats 1000000
theorem marks_any (bb : Nat) (w : World) (Q : World → Prop) (h : Calls Tryz.prog 171 #[.pointer (some ⟨bb, 0, none⟩)] w fun e w1 => e = .returned (.tuple #[]) ∧ (∃ cs, BkAt w1 bb cs ∧ Rest cs) ∧ Q w1) :
    Calls Tryz.prog 115 #[.pointer (some ⟨bb, 0, none⟩)] w fun e w1 => e = .returned (.tuple #[]) ∧ Q w1 := by
  have H0 : Hid (Calls Tryz.prog 171 #[.pointer (some ⟨bb, 0, none⟩)] w fun e w1 => e = .returned (.tuple #[]) ∧ (∃ cs, BkAt w1 bb cs ∧ Rest cs) ∧ Q w1) := h
  clear h
  go_enter Tryz.func115, Tryz.ntmps115
  go_wp2_with fail
  go_must (go_at_call 171)
  refine H0.out.mono ?_
  rintro e w1 ⟨rfl, ⟨cs, hB, hr⟩, hq⟩
  have HB : Hid (BkAt w1 bb cs ∧ Rest cs) := ⟨hB, hr⟩
  have HQ : Hid (Q w1) := hq
  clear hB hr hq
  go_wp2_with (first | (go_at_call 172; refine (markInts_none bb cs w1 HB.out.1 HB.out.2).mono ?_; rintro e w2 ⟨rfl, he⟩; obtain rfl := he.symm; clear he) | (go_at_call 173; refine (markTexts_none bb cs w1 HB.out.1 HB.out.2).mono ?_; rintro e w2 ⟨rfl, he⟩; obtain rfl := he.symm; clear he) | (go_at_call 174; refine (markEntries_none bb cs w1 HB.out.1 HB.out.2).mono ?_; rintro e w2 ⟨rfl, he⟩; obtain rfl := he.symm; clear he) | (go_at_call 175; refine (markAsks_none bb cs w1 HB.out.1 HB.out.2).mono ?_; rintro e w2 ⟨rfl, he⟩; obtain rfl := he.symm; clear he) | (go_at_call 176; refine (markUsers_none bb cs w1 HB.out.1 HB.out.2).mono ?_; rintro e w2 ⟨rfl, he⟩; obtain rfl := he.symm; clear he) | (go_at_call 177; refine (markWhos_none bb cs w1 HB.out.1 HB.out.2).mono ?_; rintro e w2 ⟨rfl, he⟩; obtain rfl := he.symm; clear he) | (go_at_call 178; refine (markChunks_none bb cs w1 HB.out.1 HB.out.2).mono ?_; rintro e w2 ⟨rfl, he⟩; obtain rfl := he.symm; clear he) | (go_at_call 179; refine (markMessages_none bb cs w1 HB.out.1 HB.out.2).mono ?_; rintro e w2 ⟨rfl, he⟩; obtain rfl := he.symm; clear he) | (go_at_call 180; refine (markPackets_none bb cs w1 HB.out.1 HB.out.2).mono ?_; rintro e w2 ⟨rfl, he⟩; obtain rfl := he.symm; clear he) | (go_at_call 181; refine (markFlights_none bb cs w1 HB.out.1 HB.out.2).mono ?_; rintro e w2 ⟨rfl, he⟩; obtain rfl := he.symm; clear he) | (go_at_call 182; refine (markOuts_none bb cs w1 HB.out.1 HB.out.2).mono ?_; rintro e w2 ⟨rfl, he⟩; obtain rfl := he.symm; clear he) | (go_at_call 183; refine (markInputs_none bb cs w1 HB.out.1 HB.out.2).mono ?_; rintro e w2 ⟨rfl, he⟩; obtain rfl := he.symm; clear he) | (go_at_call 184; refine (markTolds_none bb cs w1 HB.out.1 HB.out.2).mono ?_; rintro e w2 ⟨rfl, he⟩; obtain rfl := he.symm; clear he) | (go_at_call 185; refine (markSessions_none bb cs w1 HB.out.1 HB.out.2).mono ?_; rintro e w2 ⟨rfl, he⟩; obtain rfl := he.symm; clear he) | (go_at_call 186; refine (markShapes_none bb cs w1 HB.out.1 HB.out.2).mono ?_; rintro e w2 ⟨rfl, he⟩; obtain rfl := he.symm; clear he) | (go_at_call 187; refine (markSteps_none bb cs w1 HB.out.1 HB.out.2).mono ?_; rintro e w2 ⟨rfl, he⟩; obtain rfl := he.symm; clear he))
  go_end0
  exact ⟨rfl, HQ.out⟩
theorem grows_any (bb : Nat) (w : World) (Q : World → Prop) (hQ : ∀ w1 w2, Q w1 → w1.grownBy w2 (some bb) → (∃ cs, BkAt w1 bb cs ∧ BkAt w2 bb cs) → Q w2) (h : Calls Tryz.prog 188 #[.pointer (some ⟨bb, 0, none⟩)] w fun e w1 => e = .returned (.tuple #[]) ∧ (∃ cs, BkAt w1 bb cs ∧ Rest cs) ∧ Q w1) :
    Calls Tryz.prog 116 #[.pointer (some ⟨bb, 0, none⟩)] w fun e w1 => e = .returned (.tuple #[]) ∧ Q w1 := by
  have H0 : Hid (Calls Tryz.prog 188 #[.pointer (some ⟨bb, 0, none⟩)] w fun e w1 => e = .returned (.tuple #[]) ∧ (∃ cs, BkAt w1 bb cs ∧ Rest cs) ∧ Q w1) := h
  have QQ : Hid (∀ w1 w2, Q w1 → w1.grownBy w2 (some bb) → (∃ cs, BkAt w1 bb cs ∧ BkAt w2 bb cs) → Q w2) := hQ
  clear h hQ
  go_enter Tryz.func116, Tryz.ntmps116
  go_wp2_with fail
  go_must (go_at_call 188)
  refine H0.out.mono ?_
  rintro e w0 ⟨rfl, ⟨cs, hB, hr⟩, hq⟩
  have HR : Hid (Rest cs) := hr
  have HB0 : Hid (BkAt w0 bb cs ∧ Q w0) := ⟨hB, hq⟩
  clear hB hr hq
  go_wp2_with fail
  go_must (go_at_call 189)
  refine (growInts_none bb cs w0 HB0.out.1 HR.out).mono ?_
  rintro e w1 ⟨rfl, hB, hg⟩
  have HB1 : Hid (BkAt w1 bb cs ∧ Q w1) := ⟨hB, QQ.out w0 w1 HB0.out.2 hg ⟨cs, HB0.out.1, hB⟩⟩
  clear hB hg
  go_wp2_with fail
  go_must (go_at_call 190)
  refine (growTexts_none bb cs w1 HB1.out.1 HR.out).mono ?_
  rintro e w2 ⟨rfl, hB, hg⟩
  have HB2 : Hid (BkAt w2 bb cs ∧ Q w2) := ⟨hB, QQ.out w1 w2 HB1.out.2 hg ⟨cs, HB1.out.1, hB⟩⟩
  clear hB hg
  go_wp2_with fail
  go_must (go_at_call 191)
  refine (growEntries_none bb cs w2 HB2.out.1 HR.out).mono ?_
  rintro e w3 ⟨rfl, hB, hg⟩
  have HB3 : Hid (BkAt w3 bb cs ∧ Q w3) := ⟨hB, QQ.out w2 w3 HB2.out.2 hg ⟨cs, HB2.out.1, hB⟩⟩
  clear hB hg
  go_wp2_with fail
  go_must (go_at_call 192)
  refine (growAsks_none bb cs w3 HB3.out.1 HR.out).mono ?_
  rintro e w4 ⟨rfl, hB, hg⟩
  have HB4 : Hid (BkAt w4 bb cs ∧ Q w4) := ⟨hB, QQ.out w3 w4 HB3.out.2 hg ⟨cs, HB3.out.1, hB⟩⟩
  clear hB hg
  go_wp2_with fail
  go_must (go_at_call 193)
  refine (growUsers_none bb cs w4 HB4.out.1 HR.out).mono ?_
  rintro e w5 ⟨rfl, hB, hg⟩
  have HB5 : Hid (BkAt w5 bb cs ∧ Q w5) := ⟨hB, QQ.out w4 w5 HB4.out.2 hg ⟨cs, HB4.out.1, hB⟩⟩
  clear hB hg
  go_wp2_with fail
  go_must (go_at_call 194)
  refine (growWhos_none bb cs w5 HB5.out.1 HR.out).mono ?_
  rintro e w6 ⟨rfl, hB, hg⟩
  have HB6 : Hid (BkAt w6 bb cs ∧ Q w6) := ⟨hB, QQ.out w5 w6 HB5.out.2 hg ⟨cs, HB5.out.1, hB⟩⟩
  clear hB hg
  go_wp2_with fail
  go_must (go_at_call 195)
  refine (growChunks_none bb cs w6 HB6.out.1 HR.out).mono ?_
  rintro e w7 ⟨rfl, hB, hg⟩
  have HB7 : Hid (BkAt w7 bb cs ∧ Q w7) := ⟨hB, QQ.out w6 w7 HB6.out.2 hg ⟨cs, HB6.out.1, hB⟩⟩
  clear hB hg
  go_wp2_with fail
  go_must (go_at_call 196)
  refine (growMessages_none bb cs w7 HB7.out.1 HR.out).mono ?_
  rintro e w8 ⟨rfl, hB, hg⟩
  have HB8 : Hid (BkAt w8 bb cs ∧ Q w8) := ⟨hB, QQ.out w7 w8 HB7.out.2 hg ⟨cs, HB7.out.1, hB⟩⟩
  clear hB hg
  go_wp2_with fail
  go_must (go_at_call 197)
  refine (growPackets_none bb cs w8 HB8.out.1 HR.out).mono ?_
  rintro e w9 ⟨rfl, hB, hg⟩
  have HB9 : Hid (BkAt w9 bb cs ∧ Q w9) := ⟨hB, QQ.out w8 w9 HB8.out.2 hg ⟨cs, HB8.out.1, hB⟩⟩
  clear hB hg
  go_wp2_with fail
  go_must (go_at_call 198)
  refine (growFlights_none bb cs w9 HB9.out.1 HR.out).mono ?_
  rintro e w10 ⟨rfl, hB, hg⟩
  have HB10 : Hid (BkAt w10 bb cs ∧ Q w10) := ⟨hB, QQ.out w9 w10 HB9.out.2 hg ⟨cs, HB9.out.1, hB⟩⟩
  clear hB hg
  go_wp2_with fail
  go_must (go_at_call 199)
  refine (growOuts_none bb cs w10 HB10.out.1 HR.out).mono ?_
  rintro e w11 ⟨rfl, hB, hg⟩
  have HB11 : Hid (BkAt w11 bb cs ∧ Q w11) := ⟨hB, QQ.out w10 w11 HB10.out.2 hg ⟨cs, HB10.out.1, hB⟩⟩
  clear hB hg
  go_wp2_with fail
  go_must (go_at_call 200)
  refine (growInputs_none bb cs w11 HB11.out.1 HR.out).mono ?_
  rintro e w12 ⟨rfl, hB, hg⟩
  have HB12 : Hid (BkAt w12 bb cs ∧ Q w12) := ⟨hB, QQ.out w11 w12 HB11.out.2 hg ⟨cs, HB11.out.1, hB⟩⟩
  clear hB hg
  go_wp2_with fail
  go_must (go_at_call 201)
  refine (growTolds_none bb cs w12 HB12.out.1 HR.out).mono ?_
  rintro e w13 ⟨rfl, hB, hg⟩
  have HB13 : Hid (BkAt w13 bb cs ∧ Q w13) := ⟨hB, QQ.out w12 w13 HB12.out.2 hg ⟨cs, HB12.out.1, hB⟩⟩
  clear hB hg
  go_wp2_with fail
  go_must (go_at_call 202)
  refine (growSessions_none bb cs w13 HB13.out.1 HR.out).mono ?_
  rintro e w14 ⟨rfl, hB, hg⟩
  have HB14 : Hid (BkAt w14 bb cs ∧ Q w14) := ⟨hB, QQ.out w13 w14 HB13.out.2 hg ⟨cs, HB13.out.1, hB⟩⟩
  clear hB hg
  go_wp2_with fail
  go_must (go_at_call 203)
  refine (growShapes_none bb cs w14 HB14.out.1 HR.out).mono ?_
  rintro e w15 ⟨rfl, hB, hg⟩
  have HB15 : Hid (BkAt w15 bb cs ∧ Q w15) := ⟨hB, QQ.out w14 w15 HB14.out.2 hg ⟨cs, HB14.out.1, hB⟩⟩
  clear hB hg
  go_wp2_with fail
  go_must (go_at_call 204)
  refine (growSteps_none bb cs w15 HB15.out.1 HR.out).mono ?_
  rintro e w16 ⟨rfl, hB, hg⟩
  have HB16 : Hid (BkAt w16 bb cs ∧ Q w16) := ⟨hB, QQ.out w15 w16 HB15.out.2 hg ⟨cs, HB15.out.1, hB⟩⟩
  clear hB hg
  go_wp2
  go_end0
  exact ⟨rfl, HB16.out.2⟩
end Go.Proofs.YtphofgnehdlafaaGreatDoor.Bk
