import Derived.Test.YtmihpmmkkklpfaaGreatDoorBSc
import Derived.Test.YtmihpmmkkklpfaaGreatDoorBOd
import Derived.Deep.RegionHeldLaw
import Derived.Test.YtmihpmmkkklpfaaGreatDoorBTTe
namespace Go.Proofs.YtmihpmmkkklpfaaGreatDoor
open Go Go.RowKit Go.Maps
set_option linter.unusedSimpArgs false
set_option linter.unusedVariables false
/-! ### A session in memory -/
def ssC (wb : Nat) (k : ByteArray) (la : Bool) (mo : Int) (sv nv : Value) : Array Value := #[.pointer (some ⟨wb, 0, none⟩), .string k, .bool la, .int .i64 mo, sv, nv]
def SsAt (W : World) (sb wb : Nat) (k : ByteArray) (la : Bool) (mo : Int) (sv nv : Value) : Prop := W.heap[sb]? = some (.cells (ssC wb k la mo sv nv) 56 (0, 0))
section
variable {W : World} {sb wb : Nat} {k : ByteArray} {la : Bool} {mo : Int} {sv nv : Value}
theorem SsAt.below {W' : World} (h : SsAt W sb wb k la mo sv nv) (hb : Below W.heap.size W W') : SsAt W' sb wb k la mo sv nv := later_at h hb
theorem key_any (h : SsAt W sb wb k la mo sv nv) : Calls Tryz.prog 25 #[.pointer (some ⟨sb, 0, none⟩)] W fun e w' => e = .returned (.string k) ∧ w' = W := by
  have c1 : W.cell? ⟨sb, 1, none⟩ = some (.string k) := box_cells h 1 _ rfl
  clear h
  go_enter Tryz.func25, Tryz.ntmps25
  go_wp2_with fail
  go_ret
  exact ⟨rfl, rfl⟩
theorem lasting_any (h : SsAt W sb wb k la mo sv nv) : Calls Tryz.prog 26 #[.pointer (some ⟨sb, 0, none⟩)] W fun e w' => e = .returned (.bool la) ∧ w' = W := by
  have c1 : W.cell? ⟨sb, 2, none⟩ = some (.bool la) := box_cells h 2 _ rfl
  clear h
  go_enter Tryz.func26, Tryz.ntmps26
  go_wp2_with fail
  go_ret
  exact ⟨rfl, rfl⟩
/-! ### Filters -/
set_option maxRecDepth 100000 in
set_option maxHeartbeats 1000000 in
theorem isAsk_any (f : ByteArray) (q : Int) (w : World) (hf : Tp.fcode f = 0) (h0 : 0 ≤ q) (h2 : q ≤ 2) : Calls Tryz.prog 54 #[.agg #[.string f, .int .i64 q]] w fun e w' => e = .returned (.bool true) ∧ Below w.heap.size w w' := by
  obtain ⟨w1, hw1⟩ : ∃ w1, w1 = w.alloc (.cells #[.string f, .int .i64 q] 42) := ⟨_, rfl⟩
  have a1 := heap_alloc_new w (.cells #[.string f, .int .i64 q] 42)
  have b1 : Below w.heap.size w (w.alloc (.cells #[.string f, .int .i64 q] 42)) := (Below.refl _ _).alloc (Nat.le_refl _) _
  rw [← hw1] at a1 b1
  have e0 := box_cells a1 0 _ rfl
  have e1 := box_cells a1 1 _ rfl
  have CF := hidi (Tp.fcheck_any f w1)
  rw [hf] at CF
  have HB := hidi (And.intro a1 b1)
  clear a1 b1 hf
  go_enter Tryz.func54, Tryz.ntmps54
  go_upto_region 1 with fail
  rw [← hw1]
  clear hw1
  go_wp2_with (go_at_call 83; refine CF.out.mono ?_; clear CF; rintro e w2 ⟨rfl, hb⟩; have HB2 := hidi (HB.out.2.trans (hb.mono HB.out.2.size)); clear e0 e1; have a2 := later_at HB.out.1 hb; have e0 := box_cells a2 0 _ rfl; have e1 := box_cells a2 1 _ rfl; clear a2 hb)
  go_ret
  exact ⟨rfl, HB2.out⟩
end
end Go.Proofs.YtmihpmmkkklpfaaGreatDoor
