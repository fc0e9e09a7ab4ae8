import Derived.Test.YtglnldopnoafoaaGreatDoorProg
import Derived.WalkKit
import Derived.WalkSpells
import Derived.WalkLawsBesides
import Derived.Orders
import Derived.Recover
import Derived.Lib.Strings
import Derived.Laws.BitsAllLaws
import Derived.Laws.BytesArg
import Derived.Laws.RangeAny
import Derived.Deep.RegionWith
namespace Go.Proofs.YtglnldopnoafoaaGreatDoor
open Go Go.RowKit
set_option linter.unusedSimpArgs false
set_option linter.unusedVariables false

theorem gb_refl (w : World) (r : Option Nat) : w.grownBy w r := ⟨rfl, rfl, rfl, Nat.le_refl _, fun _ _ _ => rfl⟩
theorem gb_trans {w w1 w2 : World} {r : Option Nat} (h : w.grownBy w1 r) (h' : w1.grownBy w2 r) : w.grownBy w2 r :=
  ⟨h'.os.trans h.os, h'.tape.trans h.tape, h'.output.trans h.output, Nat.le_trans h.size h'.size, fun k hk hn => (h'.block k (Nat.lt_of_lt_of_le hk h.size) hn).trans (h.block k hk hn)⟩
theorem gb_set {w w1 : World} {r : Nat} (h : w.grownBy w1 (some r)) (i : Nat) (v : Value) : w.grownBy (w1.setCell ⟨r, i, none⟩ v) (some r) :=
  gb_trans h ⟨rfl, rfl, rfl, by simp [World.setCell], fun k _ hn => Below.heap_setCell w1 _ v k (fun e => hn (by rw [e]))⟩
theorem heap_set {w : World} {R i t : Nat} {cs : Array Value} (h : w.heap[R]? = some (.cells cs t (0, 0))) (v : Value) : (w.setCell ⟨R, i, none⟩ v).heap[R]? = some (.cells (cs.setIfInBounds i v) t (0, 0)) := by
  simp [World.setCell, Array.getElem?_modify, h]
theorem plain_add (b off j : Nat) : (⟨b, off, none⟩ : Addr).add j = ⟨b, off + j, none⟩ := by
  unfold Addr.add
  split <;> simp_all
/-- The book's cells. -/
def BkAt (w : World) (bb : Nat) (cs : Array Value) : Prop := w.heap[bb]? = some (.cells cs 51 (0, 0))
theorem bk_cell {w : World} {bb i : Nat} {cs : Array Value} {v : Value} (h : BkAt w bb cs) (hi : cs[i]? = some v) : w.cell? ⟨bb, i, none⟩ = some v ∧ w.frozen? ⟨bb, i, none⟩ = false := by
  unfold BkAt at h
  constructor
  · simp [World.cell?, h, hi]
  · simp [World.frozen?, h]
theorem set_same {cs : Array Value} {i : Nat} {v : Value} (hi : cs[i]? = some v) : cs.setIfInBounds i v = cs := by
  apply Array.ext_getElem?
  intro j
  rw [Array.getElem?_setIfInBounds]
  split
  · rename_i e
    subst e
    split
    · exact hi.symm
    · rename_i h
      rw [Array.getElem?_eq_none (by omega)] at hi
      cases hi
  · rfl
theorem BkAt.same {w : World} {bb i : Nat} {cs : Array Value} {v : Value} (h : BkAt w bb cs) (hi : cs[i]? = some v) : BkAt (w.setCell ⟨bb, i, none⟩ v) bb cs := by
  have q := heap_set (i := i) h v
  rw [set_same hi] at q
  exact q
/-- The kinds that nothing was kept of: their lists are nil. -/
def Rest (cs : Array Value) : Prop := ∀ k, k ≠ 2 → k ≤ 16 → ∀ i, i ≤ 7 → cs[4 + 9 * k + i]? = some (.slice none 0 0)

end Go.Proofs.YtglnldopnoafoaaGreatDoor
namespace Go.Proofs.YtglnldopnoafoaaGreatDoor
open Go Go.RowKit
set_option linter.unusedSimpArgs false
set_option linter.unusedVariables false

set_option maxRecDepth 100000 in
set_option maxHeartbeats 400000 in
theorem markBytes_none (bb : Nat) (cs : Array Value) (w : World) (hB : BkAt w bb cs) (hr : Rest cs) :
    Calls Tryz.prog 95 #[.pointer (some ⟨bb, 0, none⟩)] w fun e w' => e = .returned (.tuple #[]) ∧ w' = w := by
  have x2 : w.cell? ⟨bb, 6, none⟩ = some (.slice none 0 0) := (bk_cell hB (hr 0 (by decide) (by decide) 2 (by decide))).1
  have x3 : w.cell? ⟨bb, 7, none⟩ = some (.slice none 0 0) := (bk_cell hB (hr 0 (by decide) (by decide) 3 (by decide))).1
  have x5 : w.cell? ⟨bb, 9, none⟩ = some (.slice none 0 0) := (bk_cell hB (hr 0 (by decide) (by decide) 5 (by decide))).1
  have x6 : w.cell? ⟨bb, 10, none⟩ = some (.slice none 0 0) := (bk_cell hB (hr 0 (by decide) (by decide) 6 (by decide))).1
  clear hB hr
  go_enter Tryz.func95, Tryz.ntmps95
  go_wp2
  exact bodyPost_ret (results_none rfl _ _ _) rfl ⟨rfl, rfl⟩
set_option maxRecDepth 100000 in
set_option maxHeartbeats 400000 in
theorem holdBytes_none (bb : Nat) (cs : Array Value) (w : World) (hB : BkAt w bb cs) (hr : Rest cs) :
    Calls Tryz.prog 24 #[.pointer (some ⟨bb, 0, none⟩)] w fun e w' => e = .returned (.bool true) ∧ w' = w := by
  have x0 : w.cell? ⟨bb, 4, none⟩ = some (.slice none 0 0) := (bk_cell hB (hr 0 (by decide) (by decide) 0 (by decide))).1
  have x2 : w.cell? ⟨bb, 6, none⟩ = some (.slice none 0 0) := (bk_cell hB (hr 0 (by decide) (by decide) 2 (by decide))).1
  clear hB hr
  go_enter Tryz.func24, Tryz.ntmps24
  go_wp2
  go_loop [3] (fun i => i = .int .i64 0) (fun _ => 0)
  case atStart => rfl
  case round =>
    subst hrel
    go_wp2
    go_loop [4] (fun i => i = .int .i64 0) (fun _ => 0)
    case atStart => rfl
    case round =>
      subst hrel
      go_wp2
      go_ret
      exact ⟨rfl, rfl⟩
set_option maxRecDepth 100000 in
set_option maxHeartbeats 400000 in
theorem growBytes_none (bb : Nat) (cs : Array Value) (w : World) (hB : BkAt w bb cs) (hr : Rest cs) :
    Calls Tryz.prog 112 #[.pointer (some ⟨bb, 0, none⟩)] w fun e w' => e = .returned (.tuple #[]) ∧ BkAt w' bb cs ∧ w.grownBy w' (some bb) := by
  have r4 : cs[8]? = some (.slice none 0 0) := hr 0 (by decide) (by decide) 4 (by decide)
  have r7 : cs[11]? = some (.slice none 0 0) := hr 0 (by decide) (by decide) 7 (by decide)
  obtain ⟨x4, y4⟩ := bk_cell hB r4
  obtain ⟨x7, y7⟩ := bk_cell hB r7
  have HB : Hid (BkAt w bb cs) := hB
  have R4 : Hid (cs[8]? = some (.slice none 0 0)) := r4
  have R7 : Hid (cs[11]? = some (.slice none 0 0)) := r7
  clear hB hr r4 r7
  go_enter Tryz.func112, Tryz.ntmps112
  go_wp2
  go_loop [2] (fun i => i = .int .i64 0) (fun _ => 0)
  case atStart => rfl
  case round =>
    subst hrel
    go_wp2
    go_end0
    exact ⟨rfl, (HB.out.same R4.out).same R7.out, gb_set (gb_set (gb_refl _ _) _ _) _ _⟩
set_option maxRecDepth 100000 in
set_option maxHeartbeats 400000 in
theorem markInts_none (bb : Nat) (cs : Array Value) (w : World) (hB : BkAt w bb cs) (hr : Rest cs) :
    Calls Tryz.prog 96 #[.pointer (some ⟨bb, 0, none⟩)] w fun e w' => e = .returned (.tuple #[]) ∧ w' = w := by
  have x2 : w.cell? ⟨bb, 15, none⟩ = some (.slice none 0 0) := (bk_cell hB (hr 1 (by decide) (by decide) 2 (by decide))).1
  have x3 : w.cell? ⟨bb, 16, none⟩ = some (.slice none 0 0) := (bk_cell hB (hr 1 (by decide) (by decide) 3 (by decide))).1
  have x5 : w.cell? ⟨bb, 18, none⟩ = some (.slice none 0 0) := (bk_cell hB (hr 1 (by decide) (by decide) 5 (by decide))).1
  have x6 : w.cell? ⟨bb, 19, none⟩ = some (.slice none 0 0) := (bk_cell hB (hr 1 (by decide) (by decide) 6 (by decide))).1
  clear hB hr
  go_enter Tryz.func96, Tryz.ntmps96
  go_wp2
  exact bodyPost_ret (results_none rfl _ _ _) rfl ⟨rfl, rfl⟩
set_option maxRecDepth 100000 in
set_option maxHeartbeats 400000 in
theorem holdInts_none (bb : Nat) (cs : Array Value) (w : World) (hB : BkAt w bb cs) (hr : Rest cs) :
    Calls Tryz.prog 25 #[.pointer (some ⟨bb, 0, none⟩)] w fun e w' => e = .returned (.bool true) ∧ w' = w := by
  have x0 : w.cell? ⟨bb, 13, none⟩ = some (.slice none 0 0) := (bk_cell hB (hr 1 (by decide) (by decide) 0 (by decide))).1
  have x2 : w.cell? ⟨bb, 15, none⟩ = some (.slice none 0 0) := (bk_cell hB (hr 1 (by decide) (by decide) 2 (by decide))).1
  clear hB hr
  go_enter Tryz.func25, Tryz.ntmps25
  go_wp2
  go_loop [3] (fun i => i = .int .i64 0) (fun _ => 0)
  case atStart => rfl
  case round =>
    subst hrel
    go_wp2
    go_loop [4] (fun i => i = .int .i64 0) (fun _ => 0)
    case atStart => rfl
    case round =>
      subst hrel
      go_wp2
      go_ret
      exact ⟨rfl, rfl⟩
set_option maxRecDepth 100000 in
set_option maxHeartbeats 400000 in
theorem growInts_none (bb : Nat) (cs : Array Value) (w : World) (hB : BkAt w bb cs) (hr : Rest cs) :
    Calls Tryz.prog 113 #[.pointer (some ⟨bb, 0, none⟩)] w fun e w' => e = .returned (.tuple #[]) ∧ BkAt w' bb cs ∧ w.grownBy w' (some bb) := by
  have r4 : cs[17]? = some (.slice none 0 0) := hr 1 (by decide) (by decide) 4 (by decide)
  have r7 : cs[20]? = some (.slice none 0 0) := hr 1 (by decide) (by decide) 7 (by decide)
  obtain ⟨x4, y4⟩ := bk_cell hB r4
  obtain ⟨x7, y7⟩ := bk_cell hB r7
  have HB : Hid (BkAt w bb cs) := hB
  have R4 : Hid (cs[17]? = some (.slice none 0 0)) := r4
  have R7 : Hid (cs[20]? = some (.slice none 0 0)) := r7
  clear hB hr r4 r7
  go_enter Tryz.func113, Tryz.ntmps113
  go_wp2
  go_loop [2] (fun i => i = .int .i64 0) (fun _ => 0)
  case atStart => rfl
  case round =>
    subst hrel
    go_wp2
    go_end0
    exact ⟨rfl, (HB.out.same R4.out).same R7.out, gb_set (gb_set (gb_refl _ _) _ _) _ _⟩
set_option maxRecDepth 100000 in
set_option maxHeartbeats 400000 in
theorem markEntries_none (bb : Nat) (cs : Array Value) (w : World) (hB : BkAt w bb cs) (hr : Rest cs) :
    Calls Tryz.prog 98 #[.pointer (some ⟨bb, 0, none⟩)] w fun e w' => e = .returned (.tuple #[]) ∧ w' = w := by
  have x2 : w.cell? ⟨bb, 33, none⟩ = some (.slice none 0 0) := (bk_cell hB (hr 3 (by decide) (by decide) 2 (by decide))).1
  have x3 : w.cell? ⟨bb, 34, none⟩ = some (.slice none 0 0) := (bk_cell hB (hr 3 (by decide) (by decide) 3 (by decide))).1
  have x5 : w.cell? ⟨bb, 36, none⟩ = some (.slice none 0 0) := (bk_cell hB (hr 3 (by decide) (by decide) 5 (by decide))).1
  have x6 : w.cell? ⟨bb, 37, none⟩ = some (.slice none 0 0) := (bk_cell hB (hr 3 (by decide) (by decide) 6 (by decide))).1
  clear hB hr
  go_enter Tryz.func98, Tryz.ntmps98
  go_wp2
  exact bodyPost_ret (results_none rfl _ _ _) rfl ⟨rfl, rfl⟩
set_option maxRecDepth 100000 in
set_option maxHeartbeats 400000 in
theorem holdEntries_none (bb : Nat) (cs : Array Value) (w : World) (hB : BkAt w bb cs) (hr : Rest cs) :
    Calls Tryz.prog 27 #[.pointer (some ⟨bb, 0, none⟩)] w fun e w' => e = .returned (.bool true) ∧ w' = w := by
  have x0 : w.cell? ⟨bb, 31, none⟩ = some (.slice none 0 0) := (bk_cell hB (hr 3 (by decide) (by decide) 0 (by decide))).1
  have x2 : w.cell? ⟨bb, 33, none⟩ = some (.slice none 0 0) := (bk_cell hB (hr 3 (by decide) (by decide) 2 (by decide))).1
  clear hB hr
  go_enter Tryz.func27, Tryz.ntmps27
  go_wp2
  go_loop [3] (fun i => i = .int .i64 0) (fun _ => 0)
  case atStart => rfl
  case round =>
    subst hrel
    go_wp2
    go_loop [4] (fun i => i = .int .i64 0) (fun _ => 0)
    case atStart => rfl
    case round =>
      subst hrel
      go_wp2
      go_ret
      exact ⟨rfl, rfl⟩
set_option maxRecDepth 100000 in
set_option maxHeartbeats 400000 in
theorem growEntries_none (bb : Nat) (cs : Array Value) (w : World) (hB : BkAt w bb cs) (hr : Rest cs) :
    Calls Tryz.prog 115 #[.pointer (some ⟨bb, 0, none⟩)] w fun e w' => e = .returned (.tuple #[]) ∧ BkAt w' bb cs ∧ w.grownBy w' (some bb) := by
  have r4 : cs[35]? = some (.slice none 0 0) := hr 3 (by decide) (by decide) 4 (by decide)
  have r7 : cs[38]? = some (.slice none 0 0) := hr 3 (by decide) (by decide) 7 (by decide)
  obtain ⟨x4, y4⟩ := bk_cell hB r4
  obtain ⟨x7, y7⟩ := bk_cell hB r7
  have HB : Hid (BkAt w bb cs) := hB
  have R4 : Hid (cs[35]? = some (.slice none 0 0)) := r4
  have R7 : Hid (cs[38]? = some (.slice none 0 0)) := r7
  clear hB hr r4 r7
  go_enter Tryz.func115, Tryz.ntmps115
  go_wp2
  go_loop [2] (fun i => i = .int .i64 0) (fun _ => 0)
  case atStart => rfl
  case round =>
    subst hrel
    go_wp2
    go_end0
    exact ⟨rfl, (HB.out.same R4.out).same R7.out, gb_set (gb_set (gb_refl _ _) _ _) _ _⟩
set_option maxRecDepth 100000 in
set_option maxHeartbeats 400000 in
theorem markAsks_none (bb : Nat) (cs : Array Value) (w : World) (hB : BkAt w bb cs) (hr : Rest cs) :
    Calls Tryz.prog 99 #[.pointer (some ⟨bb, 0, none⟩)] w fun e w' => e = .returned (.tuple #[]) ∧ w' = w := by
  have x2 : w.cell? ⟨bb, 42, none⟩ = some (.slice none 0 0) := (bk_cell hB (hr 4 (by decide) (by decide) 2 (by decide))).1
  have x3 : w.cell? ⟨bb, 43, none⟩ = some (.slice none 0 0) := (bk_cell hB (hr 4 (by decide) (by decide) 3 (by decide))).1
  have x5 : w.cell? ⟨bb, 45, none⟩ = some (.slice none 0 0) := (bk_cell hB (hr 4 (by decide) (by decide) 5 (by decide))).1
  have x6 : w.cell? ⟨bb, 46, none⟩ = some (.slice none 0 0) := (bk_cell hB (hr 4 (by decide) (by decide) 6 (by decide))).1
  clear hB hr
  go_enter Tryz.func99, Tryz.ntmps99
  go_wp2
  exact bodyPost_ret (results_none rfl _ _ _) rfl ⟨rfl, rfl⟩
set_option maxRecDepth 100000 in
set_option maxHeartbeats 400000 in
theorem holdAsks_none (bb : Nat) (cs : Array Value) (w : World) (hB : BkAt w bb cs) (hr : Rest cs) :
    Calls Tryz.prog 28 #[.pointer (some ⟨bb, 0, none⟩)] w fun e w' => e = .returned (.bool true) ∧ w' = w := by
  have x0 : w.cell? ⟨bb, 40, none⟩ = some (.slice none 0 0) := (bk_cell hB (hr 4 (by decide) (by decide) 0 (by decide))).1
  have x2 : w.cell? ⟨bb, 42, none⟩ = some (.slice none 0 0) := (bk_cell hB (hr 4 (by decide) (by decide) 2 (by decide))).1
  clear hB hr
  go_enter Tryz.func28, Tryz.ntmps28
  go_wp2
  go_loop [3] (fun i => i = .int .i64 0) (fun _ => 0)
  case atStart => rfl
  case round =>
    subst hrel
    go_wp2
    go_loop [4] (fun i => i = .int .i64 0) (fun _ => 0)
    case atStart => rfl
    case round =>
      subst hrel
      go_wp2
      go_ret
      exact ⟨rfl, rfl⟩
set_option maxRecDepth 100000 in
set_option maxHeartbeats 400000 in
theorem growAsks_none (bb : Nat) (cs : Array Value) (w : World) (hB : BkAt w bb cs) (hr : Rest cs) :
    Calls Tryz.prog 116 #[.pointer (some ⟨bb, 0, none⟩)] w fun e w' => e = .returned (.tuple #[]) ∧ BkAt w' bb cs ∧ w.grownBy w' (some bb) := by
  have r4 : cs[44]? = some (.slice none 0 0) := hr 4 (by decide) (by decide) 4 (by decide)
  have r7 : cs[47]? = some (.slice none 0 0) := hr 4 (by decide) (by decide) 7 (by decide)
  obtain ⟨x4, y4⟩ := bk_cell hB r4
  obtain ⟨x7, y7⟩ := bk_cell hB r7
  have HB : Hid (BkAt w bb cs) := hB
  have R4 : Hid (cs[44]? = some (.slice none 0 0)) := r4
  have R7 : Hid (cs[47]? = some (.slice none 0 0)) := r7
  clear hB hr r4 r7
  go_enter Tryz.func116, Tryz.ntmps116
  go_wp2
  go_loop [2] (fun i => i = .int .i64 0) (fun _ => 0)
  case atStart => rfl
  case round =>
    subst hrel
    go_wp2
    go_end0
    exact ⟨rfl, (HB.out.same R4.out).same R7.out, gb_set (gb_set (gb_refl _ _) _ _) _ _⟩
end Go.Proofs.YtglnldopnoafoaaGreatDoor
namespace Go.Proofs.YtglnldopnoafoaaGreatDoor
open Go Go.RowKit
set_option linter.unusedSimpArgs false
set_option linter.unusedVariables false

set_option maxRecDepth 100000 in
set_option maxHeartbeats 400000 in
theorem markUsers_none (bb : Nat) (cs : Array Value) (w : World) (hB : BkAt w bb cs) (hr : Rest cs) :
    Calls Tryz.prog 100 #[.pointer (some ⟨bb, 0, none⟩)] w fun e w' => e = .returned (.tuple #[]) ∧ w' = w := by
  have x2 : w.cell? ⟨bb, 51, none⟩ = some (.slice none 0 0) := (bk_cell hB (hr 5 (by decide) (by decide) 2 (by decide))).1
  have x3 : w.cell? ⟨bb, 52, none⟩ = some (.slice none 0 0) := (bk_cell hB (hr 5 (by decide) (by decide) 3 (by decide))).1
  have x5 : w.cell? ⟨bb, 54, none⟩ = some (.slice none 0 0) := (bk_cell hB (hr 5 (by decide) (by decide) 5 (by decide))).1
  have x6 : w.cell? ⟨bb, 55, none⟩ = some (.slice none 0 0) := (bk_cell hB (hr 5 (by decide) (by decide) 6 (by decide))).1
  clear hB hr
  go_enter Tryz.func100, Tryz.ntmps100
  go_wp2
  exact bodyPost_ret (results_none rfl _ _ _) rfl ⟨rfl, rfl⟩
set_option maxRecDepth 100000 in
set_option maxHeartbeats 400000 in
theorem holdUsers_none (bb : Nat) (cs : Array Value) (w : World) (hB : BkAt w bb cs) (hr : Rest cs) :
    Calls Tryz.prog 29 #[.pointer (some ⟨bb, 0, none⟩)] w fun e w' => e = .returned (.bool true) ∧ w' = w := by
  have x0 : w.cell? ⟨bb, 49, none⟩ = some (.slice none 0 0) := (bk_cell hB (hr 5 (by decide) (by decide) 0 (by decide))).1
  have x2 : w.cell? ⟨bb, 51, none⟩ = some (.slice none 0 0) := (bk_cell hB (hr 5 (by decide) (by decide) 2 (by decide))).1
  clear hB hr
  go_enter Tryz.func29, Tryz.ntmps29
  go_wp2
  go_loop [3] (fun i => i = .int .i64 0) (fun _ => 0)
  case atStart => rfl
  case round =>
    subst hrel
    go_wp2
    go_loop [4] (fun i => i = .int .i64 0) (fun _ => 0)
    case atStart => rfl
    case round =>
      subst hrel
      go_wp2
      go_ret
      exact ⟨rfl, rfl⟩
set_option maxRecDepth 100000 in
set_option maxHeartbeats 400000 in
theorem growUsers_none (bb : Nat) (cs : Array Value) (w : World) (hB : BkAt w bb cs) (hr : Rest cs) :
    Calls Tryz.prog 117 #[.pointer (some ⟨bb, 0, none⟩)] w fun e w' => e = .returned (.tuple #[]) ∧ BkAt w' bb cs ∧ w.grownBy w' (some bb) := by
  have r4 : cs[53]? = some (.slice none 0 0) := hr 5 (by decide) (by decide) 4 (by decide)
  have r7 : cs[56]? = some (.slice none 0 0) := hr 5 (by decide) (by decide) 7 (by decide)
  obtain ⟨x4, y4⟩ := bk_cell hB r4
  obtain ⟨x7, y7⟩ := bk_cell hB r7
  have HB : Hid (BkAt w bb cs) := hB
  have R4 : Hid (cs[53]? = some (.slice none 0 0)) := r4
  have R7 : Hid (cs[56]? = some (.slice none 0 0)) := r7
  clear hB hr r4 r7
  go_enter Tryz.func117, Tryz.ntmps117
  go_wp2
  go_loop [2] (fun i => i = .int .i64 0) (fun _ => 0)
  case atStart => rfl
  case round =>
    subst hrel
    go_wp2
    go_end0
    exact ⟨rfl, (HB.out.same R4.out).same R7.out, gb_set (gb_set (gb_refl _ _) _ _) _ _⟩
set_option maxRecDepth 100000 in
set_option maxHeartbeats 400000 in
theorem markWhos_none (bb : Nat) (cs : Array Value) (w : World) (hB : BkAt w bb cs) (hr : Rest cs) :
    Calls Tryz.prog 101 #[.pointer (some ⟨bb, 0, none⟩)] w fun e w' => e = .returned (.tuple #[]) ∧ w' = w := by
  have x2 : w.cell? ⟨bb, 60, none⟩ = some (.slice none 0 0) := (bk_cell hB (hr 6 (by decide) (by decide) 2 (by decide))).1
  have x3 : w.cell? ⟨bb, 61, none⟩ = some (.slice none 0 0) := (bk_cell hB (hr 6 (by decide) (by decide) 3 (by decide))).1
  have x5 : w.cell? ⟨bb, 63, none⟩ = some (.slice none 0 0) := (bk_cell hB (hr 6 (by decide) (by decide) 5 (by decide))).1
  have x6 : w.cell? ⟨bb, 64, none⟩ = some (.slice none 0 0) := (bk_cell hB (hr 6 (by decide) (by decide) 6 (by decide))).1
  clear hB hr
  go_enter Tryz.func101, Tryz.ntmps101
  go_wp2
  exact bodyPost_ret (results_none rfl _ _ _) rfl ⟨rfl, rfl⟩
set_option maxRecDepth 100000 in
set_option maxHeartbeats 400000 in
theorem holdWhos_none (bb : Nat) (cs : Array Value) (w : World) (hB : BkAt w bb cs) (hr : Rest cs) :
    Calls Tryz.prog 30 #[.pointer (some ⟨bb, 0, none⟩)] w fun e w' => e = .returned (.bool true) ∧ w' = w := by
  have x0 : w.cell? ⟨bb, 58, none⟩ = some (.slice none 0 0) := (bk_cell hB (hr 6 (by decide) (by decide) 0 (by decide))).1
  have x2 : w.cell? ⟨bb, 60, none⟩ = some (.slice none 0 0) := (bk_cell hB (hr 6 (by decide) (by decide) 2 (by decide))).1
  clear hB hr
  go_enter Tryz.func30, Tryz.ntmps30
  go_wp2
  go_loop [3] (fun i => i = .int .i64 0) (fun _ => 0)
  case atStart => rfl
  case round =>
    subst hrel
    go_wp2
    go_loop [4] (fun i => i = .int .i64 0) (fun _ => 0)
    case atStart => rfl
    case round =>
      subst hrel
      go_wp2
      go_ret
      exact ⟨rfl, rfl⟩
set_option maxRecDepth 100000 in
set_option maxHeartbeats 400000 in
theorem growWhos_none (bb : Nat) (cs : Array Value) (w : World) (hB : BkAt w bb cs) (hr : Rest cs) :
    Calls Tryz.prog 118 #[.pointer (some ⟨bb, 0, none⟩)] w fun e w' => e = .returned (.tuple #[]) ∧ BkAt w' bb cs ∧ w.grownBy w' (some bb) := by
  have r4 : cs[62]? = some (.slice none 0 0) := hr 6 (by decide) (by decide) 4 (by decide)
  have r7 : cs[65]? = some (.slice none 0 0) := hr 6 (by decide) (by decide) 7 (by decide)
  obtain ⟨x4, y4⟩ := bk_cell hB r4
  obtain ⟨x7, y7⟩ := bk_cell hB r7
  have HB : Hid (BkAt w bb cs) := hB
  have R4 : Hid (cs[62]? = some (.slice none 0 0)) := r4
  have R7 : Hid (cs[65]? = some (.slice none 0 0)) := r7
  clear hB hr r4 r7
  go_enter Tryz.func118, Tryz.ntmps118
  go_wp2
  go_loop [2] (fun i => i = .int .i64 0) (fun _ => 0)
  case atStart => rfl
  case round =>
    subst hrel
    go_wp2
    go_end0
    exact ⟨rfl, (HB.out.same R4.out).same R7.out, gb_set (gb_set (gb_refl _ _) _ _) _ _⟩
set_option maxRecDepth 100000 in
set_option maxHeartbeats 400000 in
theorem markChunks_none (bb : Nat) (cs : Array Value) (w : World) (hB : BkAt w bb cs) (hr : Rest cs) :
    Calls Tryz.prog 102 #[.pointer (some ⟨bb, 0, none⟩)] w fun e w' => e = .returned (.tuple #[]) ∧ w' = w := by
  have x2 : w.cell? ⟨bb, 69, none⟩ = some (.slice none 0 0) := (bk_cell hB (hr 7 (by decide) (by decide) 2 (by decide))).1
  have x3 : w.cell? ⟨bb, 70, none⟩ = some (.slice none 0 0) := (bk_cell hB (hr 7 (by decide) (by decide) 3 (by decide))).1
  have x5 : w.cell? ⟨bb, 72, none⟩ = some (.slice none 0 0) := (bk_cell hB (hr 7 (by decide) (by decide) 5 (by decide))).1
  have x6 : w.cell? ⟨bb, 73, none⟩ = some (.slice none 0 0) := (bk_cell hB (hr 7 (by decide) (by decide) 6 (by decide))).1
  clear hB hr
  go_enter Tryz.func102, Tryz.ntmps102
  go_wp2
  exact bodyPost_ret (results_none rfl _ _ _) rfl ⟨rfl, rfl⟩
set_option maxRecDepth 100000 in
set_option maxHeartbeats 400000 in
theorem holdChunks_none (bb : Nat) (cs : Array Value) (w : World) (hB : BkAt w bb cs) (hr : Rest cs) :
    Calls Tryz.prog 31 #[.pointer (some ⟨bb, 0, none⟩)] w fun e w' => e = .returned (.bool true) ∧ w' = w := by
  have x0 : w.cell? ⟨bb, 67, none⟩ = some (.slice none 0 0) := (bk_cell hB (hr 7 (by decide) (by decide) 0 (by decide))).1
  have x2 : w.cell? ⟨bb, 69, none⟩ = some (.slice none 0 0) := (bk_cell hB (hr 7 (by decide) (by decide) 2 (by decide))).1
  clear hB hr
  go_enter Tryz.func31, Tryz.ntmps31
  go_wp2
  go_loop [3] (fun i => i = .int .i64 0) (fun _ => 0)
  case atStart => rfl
  case round =>
    subst hrel
    go_wp2
    go_loop [4] (fun i => i = .int .i64 0) (fun _ => 0)
    case atStart => rfl
    case round =>
      subst hrel
      go_wp2
      go_ret
      exact ⟨rfl, rfl⟩
set_option maxRecDepth 100000 in
set_option maxHeartbeats 400000 in
theorem growChunks_none (bb : Nat) (cs : Array Value) (w : World) (hB : BkAt w bb cs) (hr : Rest cs) :
    Calls Tryz.prog 119 #[.pointer (some ⟨bb, 0, none⟩)] w fun e w' => e = .returned (.tuple #[]) ∧ BkAt w' bb cs ∧ w.grownBy w' (some bb) := by
  have r4 : cs[71]? = some (.slice none 0 0) := hr 7 (by decide) (by decide) 4 (by decide)
  have r7 : cs[74]? = some (.slice none 0 0) := hr 7 (by decide) (by decide) 7 (by decide)
  obtain ⟨x4, y4⟩ := bk_cell hB r4
  obtain ⟨x7, y7⟩ := bk_cell hB r7
  have HB : Hid (BkAt w bb cs) := hB
  have R4 : Hid (cs[71]? = some (.slice none 0 0)) := r4
  have R7 : Hid (cs[74]? = some (.slice none 0 0)) := r7
  clear hB hr r4 r7
  go_enter Tryz.func119, Tryz.ntmps119
  go_wp2
  go_loop [2] (fun i => i = .int .i64 0) (fun _ => 0)
  case atStart => rfl
  case round =>
    subst hrel
    go_wp2
    go_end0
    exact ⟨rfl, (HB.out.same R4.out).same R7.out, gb_set (gb_set (gb_refl _ _) _ _) _ _⟩
set_option maxRecDepth 100000 in
set_option maxHeartbeats 400000 in
theorem markMessages_none (bb : Nat) (cs : Array Value) (w : World) (hB : BkAt w bb cs) (hr : Rest cs) :
    Calls Tryz.prog 103 #[.pointer (some ⟨bb, 0, none⟩)] w fun e w' => e = .returned (.tuple #[]) ∧ w' = w := by
  have x2 : w.cell? ⟨bb, 78, none⟩ = some (.slice none 0 0) := (bk_cell hB (hr 8 (by decide) (by decide) 2 (by decide))).1
  have x3 : w.cell? ⟨bb, 79, none⟩ = some (.slice none 0 0) := (bk_cell hB (hr 8 (by decide) (by decide) 3 (by decide))).1
  have x5 : w.cell? ⟨bb, 81, none⟩ = some (.slice none 0 0) := (bk_cell hB (hr 8 (by decide) (by decide) 5 (by decide))).1
  have x6 : w.cell? ⟨bb, 82, none⟩ = some (.slice none 0 0) := (bk_cell hB (hr 8 (by decide) (by decide) 6 (by decide))).1
  clear hB hr
  go_enter Tryz.func103, Tryz.ntmps103
  go_wp2
  exact bodyPost_ret (results_none rfl _ _ _) rfl ⟨rfl, rfl⟩
set_option maxRecDepth 100000 in
set_option maxHeartbeats 400000 in
theorem holdMessages_none (bb : Nat) (cs : Array Value) (w : World) (hB : BkAt w bb cs) (hr : Rest cs) :
    Calls Tryz.prog 32 #[.pointer (some ⟨bb, 0, none⟩)] w fun e w' => e = .returned (.bool true) ∧ w' = w := by
  have x0 : w.cell? ⟨bb, 76, none⟩ = some (.slice none 0 0) := (bk_cell hB (hr 8 (by decide) (by decide) 0 (by decide))).1
  have x2 : w.cell? ⟨bb, 78, none⟩ = some (.slice none 0 0) := (bk_cell hB (hr 8 (by decide) (by decide) 2 (by decide))).1
  clear hB hr
  go_enter Tryz.func32, Tryz.ntmps32
  go_wp2
  go_loop [3] (fun i => i = .int .i64 0) (fun _ => 0)
  case atStart => rfl
  case round =>
    subst hrel
    go_wp2
    go_loop [4] (fun i => i = .int .i64 0) (fun _ => 0)
    case atStart => rfl
    case round =>
      subst hrel
      go_wp2
      go_ret
      exact ⟨rfl, rfl⟩
set_option maxRecDepth 100000 in
set_option maxHeartbeats 400000 in
theorem growMessages_none (bb : Nat) (cs : Array Value) (w : World) (hB : BkAt w bb cs) (hr : Rest cs) :
    Calls Tryz.prog 120 #[.pointer (some ⟨bb, 0, none⟩)] w fun e w' => e = .returned (.tuple #[]) ∧ BkAt w' bb cs ∧ w.grownBy w' (some bb) := by
  have r4 : cs[80]? = some (.slice none 0 0) := hr 8 (by decide) (by decide) 4 (by decide)
  have r7 : cs[83]? = some (.slice none 0 0) := hr 8 (by decide) (by decide) 7 (by decide)
  obtain ⟨x4, y4⟩ := bk_cell hB r4
  obtain ⟨x7, y7⟩ := bk_cell hB r7
  have HB : Hid (BkAt w bb cs) := hB
  have R4 : Hid (cs[80]? = some (.slice none 0 0)) := r4
  have R7 : Hid (cs[83]? = some (.slice none 0 0)) := r7
  clear hB hr r4 r7
  go_enter Tryz.func120, Tryz.ntmps120
  go_wp2
  go_loop [2] (fun i => i = .int .i64 0) (fun _ => 0)
  case atStart => rfl
  case round =>
    subst hrel
    go_wp2
    go_end0
    exact ⟨rfl, (HB.out.same R4.out).same R7.out, gb_set (gb_set (gb_refl _ _) _ _) _ _⟩
end Go.Proofs.YtglnldopnoafoaaGreatDoor
namespace Go.Proofs.YtglnldopnoafoaaGreatDoor
open Go Go.RowKit
set_option linter.unusedSimpArgs false
set_option linter.unusedVariables false

set_option maxRecDepth 100000 in
set_option maxHeartbeats 400000 in
theorem markPackets_none (bb : Nat) (cs : Array Value) (w : World) (hB : BkAt w bb cs) (hr : Rest cs) :
    Calls Tryz.prog 104 #[.pointer (some ⟨bb, 0, none⟩)] w fun e w' => e = .returned (.tuple #[]) ∧ w' = w := by
  have x2 : w.cell? ⟨bb, 87, none⟩ = some (.slice none 0 0) := (bk_cell hB (hr 9 (by decide) (by decide) 2 (by decide))).1
  have x3 : w.cell? ⟨bb, 88, none⟩ = some (.slice none 0 0) := (bk_cell hB (hr 9 (by decide) (by decide) 3 (by decide))).1
  have x5 : w.cell? ⟨bb, 90, none⟩ = some (.slice none 0 0) := (bk_cell hB (hr 9 (by decide) (by decide) 5 (by decide))).1
  have x6 : w.cell? ⟨bb, 91, none⟩ = some (.slice none 0 0) := (bk_cell hB (hr 9 (by decide) (by decide) 6 (by decide))).1
  clear hB hr
  go_enter Tryz.func104, Tryz.ntmps104
  go_wp2
  exact bodyPost_ret (results_none rfl _ _ _) rfl ⟨rfl, rfl⟩
set_option maxRecDepth 100000 in
set_option maxHeartbeats 400000 in
theorem holdPackets_none (bb : Nat) (cs : Array Value) (w : World) (hB : BkAt w bb cs) (hr : Rest cs) :
    Calls Tryz.prog 33 #[.pointer (some ⟨bb, 0, none⟩)] w fun e w' => e = .returned (.bool true) ∧ w' = w := by
  have x0 : w.cell? ⟨bb, 85, none⟩ = some (.slice none 0 0) := (bk_cell hB (hr 9 (by decide) (by decide) 0 (by decide))).1
  have x2 : w.cell? ⟨bb, 87, none⟩ = some (.slice none 0 0) := (bk_cell hB (hr 9 (by decide) (by decide) 2 (by decide))).1
  clear hB hr
  go_enter Tryz.func33, Tryz.ntmps33
  go_wp2
  go_loop [3] (fun i => i = .int .i64 0) (fun _ => 0)
  case atStart => rfl
  case round =>
    subst hrel
    go_wp2
    go_loop [4] (fun i => i = .int .i64 0) (fun _ => 0)
    case atStart => rfl
    case round =>
      subst hrel
      go_wp2
      go_ret
      exact ⟨rfl, rfl⟩
set_option maxRecDepth 100000 in
set_option maxHeartbeats 400000 in
theorem growPackets_none (bb : Nat) (cs : Array Value) (w : World) (hB : BkAt w bb cs) (hr : Rest cs) :
    Calls Tryz.prog 121 #[.pointer (some ⟨bb, 0, none⟩)] w fun e w' => e = .returned (.tuple #[]) ∧ BkAt w' bb cs ∧ w.grownBy w' (some bb) := by
  have r4 : cs[89]? = some (.slice none 0 0) := hr 9 (by decide) (by decide) 4 (by decide)
  have r7 : cs[92]? = some (.slice none 0 0) := hr 9 (by decide) (by decide) 7 (by decide)
  obtain ⟨x4, y4⟩ := bk_cell hB r4
  obtain ⟨x7, y7⟩ := bk_cell hB r7
  have HB : Hid (BkAt w bb cs) := hB
  have R4 : Hid (cs[89]? = some (.slice none 0 0)) := r4
  have R7 : Hid (cs[92]? = some (.slice none 0 0)) := r7
  clear hB hr r4 r7
  go_enter Tryz.func121, Tryz.ntmps121
  go_wp2
  go_loop [2] (fun i => i = .int .i64 0) (fun _ => 0)
  case atStart => rfl
  case round =>
    subst hrel
    go_wp2
    go_end0
    exact ⟨rfl, (HB.out.same R4.out).same R7.out, gb_set (gb_set (gb_refl _ _) _ _) _ _⟩
set_option maxRecDepth 100000 in
set_option maxHeartbeats 400000 in
theorem markFlights_none (bb : Nat) (cs : Array Value) (w : World) (hB : BkAt w bb cs) (hr : Rest cs) :
    Calls Tryz.prog 105 #[.pointer (some ⟨bb, 0, none⟩)] w fun e w' => e = .returned (.tuple #[]) ∧ w' = w := by
  have x2 : w.cell? ⟨bb, 96, none⟩ = some (.slice none 0 0) := (bk_cell hB (hr 10 (by decide) (by decide) 2 (by decide))).1
  have x3 : w.cell? ⟨bb, 97, none⟩ = some (.slice none 0 0) := (bk_cell hB (hr 10 (by decide) (by decide) 3 (by decide))).1
  have x5 : w.cell? ⟨bb, 99, none⟩ = some (.slice none 0 0) := (bk_cell hB (hr 10 (by decide) (by decide) 5 (by decide))).1
  have x6 : w.cell? ⟨bb, 100, none⟩ = some (.slice none 0 0) := (bk_cell hB (hr 10 (by decide) (by decide) 6 (by decide))).1
  clear hB hr
  go_enter Tryz.func105, Tryz.ntmps105
  go_wp2
  exact bodyPost_ret (results_none rfl _ _ _) rfl ⟨rfl, rfl⟩
set_option maxRecDepth 100000 in
set_option maxHeartbeats 400000 in
theorem holdFlights_none (bb : Nat) (cs : Array Value) (w : World) (hB : BkAt w bb cs) (hr : Rest cs) :
    Calls Tryz.prog 34 #[.pointer (some ⟨bb, 0, none⟩)] w fun e w' => e = .returned (.bool true) ∧ w' = w := by
  have x0 : w.cell? ⟨bb, 94, none⟩ = some (.slice none 0 0) := (bk_cell hB (hr 10 (by decide) (by decide) 0 (by decide))).1
  have x2 : w.cell? ⟨bb, 96, none⟩ = some (.slice none 0 0) := (bk_cell hB (hr 10 (by decide) (by decide) 2 (by decide))).1
  clear hB hr
  go_enter Tryz.func34, Tryz.ntmps34
  go_wp2
  go_loop [3] (fun i => i = .int .i64 0) (fun _ => 0)
  case atStart => rfl
  case round =>
    subst hrel
    go_wp2
    go_loop [4] (fun i => i = .int .i64 0) (fun _ => 0)
    case atStart => rfl
    case round =>
      subst hrel
      go_wp2
      go_ret
      exact ⟨rfl, rfl⟩
set_option maxRecDepth 100000 in
set_option maxHeartbeats 400000 in
theorem growFlights_none (bb : Nat) (cs : Array Value) (w : World) (hB : BkAt w bb cs) (hr : Rest cs) :
    Calls Tryz.prog 122 #[.pointer (some ⟨bb, 0, none⟩)] w fun e w' => e = .returned (.tuple #[]) ∧ BkAt w' bb cs ∧ w.grownBy w' (some bb) := by
  have r4 : cs[98]? = some (.slice none 0 0) := hr 10 (by decide) (by decide) 4 (by decide)
  have r7 : cs[101]? = some (.slice none 0 0) := hr 10 (by decide) (by decide) 7 (by decide)
  obtain ⟨x4, y4⟩ := bk_cell hB r4
  obtain ⟨x7, y7⟩ := bk_cell hB r7
  have HB : Hid (BkAt w bb cs) := hB
  have R4 : Hid (cs[98]? = some (.slice none 0 0)) := r4
  have R7 : Hid (cs[101]? = some (.slice none 0 0)) := r7
  clear hB hr r4 r7
  go_enter Tryz.func122, Tryz.ntmps122
  go_wp2
  go_loop [2] (fun i => i = .int .i64 0) (fun _ => 0)
  case atStart => rfl
  case round =>
    subst hrel
    go_wp2
    go_end0
    exact ⟨rfl, (HB.out.same R4.out).same R7.out, gb_set (gb_set (gb_refl _ _) _ _) _ _⟩
set_option maxRecDepth 100000 in
set_option maxHeartbeats 400000 in
theorem markOuts_none (bb : Nat) (cs : Array Value) (w : World) (hB : BkAt w bb cs) (hr : Rest cs) :
    Calls Tryz.prog 106 #[.pointer (some ⟨bb, 0, none⟩)] w fun e w' => e = .returned (.tuple #[]) ∧ w' = w := by
  have x2 : w.cell? ⟨bb, 105, none⟩ = some (.slice none 0 0) := (bk_cell hB (hr 11 (by decide) (by decide) 2 (by decide))).1
  have x3 : w.cell? ⟨bb, 106, none⟩ = some (.slice none 0 0) := (bk_cell hB (hr 11 (by decide) (by decide) 3 (by decide))).1
  have x5 : w.cell? ⟨bb, 108, none⟩ = some (.slice none 0 0) := (bk_cell hB (hr 11 (by decide) (by decide) 5 (by decide))).1
  have x6 : w.cell? ⟨bb, 109, none⟩ = some (.slice none 0 0) := (bk_cell hB (hr 11 (by decide) (by decide) 6 (by decide))).1
  clear hB hr
  go_enter Tryz.func106, Tryz.ntmps106
  go_wp2
  exact bodyPost_ret (results_none rfl _ _ _) rfl ⟨rfl, rfl⟩
set_option maxRecDepth 100000 in
set_option maxHeartbeats 400000 in
theorem holdOuts_none (bb : Nat) (cs : Array Value) (w : World) (hB : BkAt w bb cs) (hr : Rest cs) :
    Calls Tryz.prog 35 #[.pointer (some ⟨bb, 0, none⟩)] w fun e w' => e = .returned (.bool true) ∧ w' = w := by
  have x0 : w.cell? ⟨bb, 103, none⟩ = some (.slice none 0 0) := (bk_cell hB (hr 11 (by decide) (by decide) 0 (by decide))).1
  have x2 : w.cell? ⟨bb, 105, none⟩ = some (.slice none 0 0) := (bk_cell hB (hr 11 (by decide) (by decide) 2 (by decide))).1
  clear hB hr
  go_enter Tryz.func35, Tryz.ntmps35
  go_wp2
  go_loop [3] (fun i => i = .int .i64 0) (fun _ => 0)
  case atStart => rfl
  case round =>
    subst hrel
    go_wp2
    go_loop [4] (fun i => i = .int .i64 0) (fun _ => 0)
    case atStart => rfl
    case round =>
      subst hrel
      go_wp2
      go_ret
      exact ⟨rfl, rfl⟩
set_option maxRecDepth 100000 in
set_option maxHeartbeats 400000 in
theorem growOuts_none (bb : Nat) (cs : Array Value) (w : World) (hB : BkAt w bb cs) (hr : Rest cs) :
    Calls Tryz.prog 123 #[.pointer (some ⟨bb, 0, none⟩)] w fun e w' => e = .returned (.tuple #[]) ∧ BkAt w' bb cs ∧ w.grownBy w' (some bb) := by
  have r4 : cs[107]? = some (.slice none 0 0) := hr 11 (by decide) (by decide) 4 (by decide)
  have r7 : cs[110]? = some (.slice none 0 0) := hr 11 (by decide) (by decide) 7 (by decide)
  obtain ⟨x4, y4⟩ := bk_cell hB r4
  obtain ⟨x7, y7⟩ := bk_cell hB r7
  have HB : Hid (BkAt w bb cs) := hB
  have R4 : Hid (cs[107]? = some (.slice none 0 0)) := r4
  have R7 : Hid (cs[110]? = some (.slice none 0 0)) := r7
  clear hB hr r4 r7
  go_enter Tryz.func123, Tryz.ntmps123
  go_wp2
  go_loop [2] (fun i => i = .int .i64 0) (fun _ => 0)
  case atStart => rfl
  case round =>
    subst hrel
    go_wp2
    go_end0
    exact ⟨rfl, (HB.out.same R4.out).same R7.out, gb_set (gb_set (gb_refl _ _) _ _) _ _⟩
set_option maxRecDepth 100000 in
set_option maxHeartbeats 400000 in
theorem markInputs_none (bb : Nat) (cs : Array Value) (w : World) (hB : BkAt w bb cs) (hr : Rest cs) :
    Calls Tryz.prog 107 #[.pointer (some ⟨bb, 0, none⟩)] w fun e w' => e = .returned (.tuple #[]) ∧ w' = w := by
  have x2 : w.cell? ⟨bb, 114, none⟩ = some (.slice none 0 0) := (bk_cell hB (hr 12 (by decide) (by decide) 2 (by decide))).1
  have x3 : w.cell? ⟨bb, 115, none⟩ = some (.slice none 0 0) := (bk_cell hB (hr 12 (by decide) (by decide) 3 (by decide))).1
  have x5 : w.cell? ⟨bb, 117, none⟩ = some (.slice none 0 0) := (bk_cell hB (hr 12 (by decide) (by decide) 5 (by decide))).1
  have x6 : w.cell? ⟨bb, 118, none⟩ = some (.slice none 0 0) := (bk_cell hB (hr 12 (by decide) (by decide) 6 (by decide))).1
  clear hB hr
  go_enter Tryz.func107, Tryz.ntmps107
  go_wp2
  exact bodyPost_ret (results_none rfl _ _ _) rfl ⟨rfl, rfl⟩
set_option maxRecDepth 100000 in
set_option maxHeartbeats 400000 in
theorem holdInputs_none (bb : Nat) (cs : Array Value) (w : World) (hB : BkAt w bb cs) (hr : Rest cs) :
    Calls Tryz.prog 36 #[.pointer (some ⟨bb, 0, none⟩)] w fun e w' => e = .returned (.bool true) ∧ w' = w := by
  have x0 : w.cell? ⟨bb, 112, none⟩ = some (.slice none 0 0) := (bk_cell hB (hr 12 (by decide) (by decide) 0 (by decide))).1
  have x2 : w.cell? ⟨bb, 114, none⟩ = some (.slice none 0 0) := (bk_cell hB (hr 12 (by decide) (by decide) 2 (by decide))).1
  clear hB hr
  go_enter Tryz.func36, Tryz.ntmps36
  go_wp2
  go_loop [3] (fun i => i = .int .i64 0) (fun _ => 0)
  case atStart => rfl
  case round =>
    subst hrel
    go_wp2
    go_loop [4] (fun i => i = .int .i64 0) (fun _ => 0)
    case atStart => rfl
    case round =>
      subst hrel
      go_wp2
      go_ret
      exact ⟨rfl, rfl⟩
set_option maxRecDepth 100000 in
set_option maxHeartbeats 400000 in
theorem growInputs_none (bb : Nat) (cs : Array Value) (w : World) (hB : BkAt w bb cs) (hr : Rest cs) :
    Calls Tryz.prog 124 #[.pointer (some ⟨bb, 0, none⟩)] w fun e w' => e = .returned (.tuple #[]) ∧ BkAt w' bb cs ∧ w.grownBy w' (some bb) := by
  have r4 : cs[116]? = some (.slice none 0 0) := hr 12 (by decide) (by decide) 4 (by decide)
  have r7 : cs[119]? = some (.slice none 0 0) := hr 12 (by decide) (by decide) 7 (by decide)
  obtain ⟨x4, y4⟩ := bk_cell hB r4
  obtain ⟨x7, y7⟩ := bk_cell hB r7
  have HB : Hid (BkAt w bb cs) := hB
  have R4 : Hid (cs[116]? = some (.slice none 0 0)) := r4
  have R7 : Hid (cs[119]? = some (.slice none 0 0)) := r7
  clear hB hr r4 r7
  go_enter Tryz.func124, Tryz.ntmps124
  go_wp2
  go_loop [2] (fun i => i = .int .i64 0) (fun _ => 0)
  case atStart => rfl
  case round =>
    subst hrel
    go_wp2
    go_end0
    exact ⟨rfl, (HB.out.same R4.out).same R7.out, gb_set (gb_set (gb_refl _ _) _ _) _ _⟩
end Go.Proofs.YtglnldopnoafoaaGreatDoor
