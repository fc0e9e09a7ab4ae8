import Derived.Test.YtmihpmmkkklpfaaGreatDoorBSo
namespace Go.Proofs.YtmihpmmkkklpfaaGreatDoor
open Go Go.RowKit Go.Shelf Go.Maps Go.Sort
set_option linter.unusedSimpArgs false
set_option linter.unusedVariables false
/-! ### Deliver of quality 0 -/
theorem built_zero (t : ByteArray) (a : Option Addr) (n c : Nat) (r : Bool) : Tryz.prog.built 66 [(0, .int .i64 3), (14, .agg #[.string t, .slice a n c, .int .i64 0, .bool r])] = some (pkc 3 false t (.slice a n c) 0 r 0) := by kernel_rfl
section
variable {F : Nat → Prop} {W : World} {sb wb : Nat} {p : Pw} {c : Nat} {k : ByteArray} {la : Bool} {mo : Int} {sv nv : Value}
set_option maxRecDepth 100000 in
set_option maxHeartbeats 4000000 in
theorem deliver_off (h : KS F W wb p c) (hs : SsAt W sb wb k la mo sv nv) (hon : p.on = false) (t : ByteArray) (pa : Option Addr) (pn pc : Nat) (r : Bool) :
    Calls Tryz.prog 16 #[.pointer (some ⟨sb, 0, none⟩), .agg #[.string t, .slice pa pn pc, .int .i64 0, .bool r]] W fun e w' => e = .returned (.tuple #[.slice none 0 0, .bool false]) ∧ Below W.heap.size W w' := by
  obtain ⟨w1, hw1⟩ : ∃ w1, w1 = W.alloc (.cells #[.string t, .slice pa pn pc, .int .i64 0, .bool r] 45) := ⟨_, rfl⟩
  have x1 := heap_alloc_new W (.cells #[.string t, .slice pa pn pc, .int .i64 0, .bool r] 45)
  have b1 : Below W.heap.size W (W.alloc (.cells #[.string t, .slice pa pn pc, .int .i64 0, .bool r] 45)) := (Below.refl _ _).alloc (Nat.le_refl _) _
  rw [← hw1] at x1 b1
  have e2 := box_cells x1 2 _ rfl
  have ON := hidi (ks_online (h.below b1))
  rw [hon] at ON
  have a0 : w1.cell? ⟨sb, 0, none⟩ = some (.pointer (some ⟨wb, 0, none⟩)) := box_cells (hs.below b1) 0 _ rfl
  have HB := hidi b1
  clear h hs hon x1 b1
  go_enter Tryz.func16, Tryz.ntmps16
  go_upto_region 1 with fail
  rw [← hw1]
  clear hw1
  go_wp2_with (go_at_call 14; refine ON.out.mono ?_; rintro e w' ⟨rfl, he⟩; obtain rfl := he.symm)
  go_ret2
  exact ⟨rfl, HB.out⟩
set_option maxRecDepth 100000 in
set_option maxHeartbeats 4000000 in
theorem deliver_on (h : KS F W wb p c) (hs : SsAt W sb wb k la mo sv nv) (hon : p.on = true) (t : ByteArray) (ad : Option Addr) (pn pc : Nat) (r : Bool) {xs : List Int} (hp : PBi W (.slice ad pn pc) xs) :
    Calls Tryz.prog 16 #[.pointer (some ⟨sb, 0, none⟩), .agg #[.string t, .slice ad pn pc, .int .i64 0, .bool r]] W fun e w' => ∃ g, e = .returned (.tuple #[.slice (some ⟨g, 0, none⟩) 1 1, .bool true]) ∧ (∃ v', PB w' v' xs ∧ w'.heap[g]? = some (.cells (pkc 3 false t v' 0 r 0) 66 (0, 0))) ∧ Below W.heap.size W w' := by
  obtain ⟨w1, hw1⟩ : ∃ w1, w1 = W.alloc (.cells #[.string t, .slice ad pn pc, .int .i64 0, .bool r] 45) := ⟨_, rfl⟩
  have x1 := heap_alloc_new W (.cells #[.string t, .slice ad pn pc, .int .i64 0, .bool r] 45)
  have b1 : Below W.heap.size W (W.alloc (.cells #[.string t, .slice ad pn pc, .int .i64 0, .bool r] 45)) := (Below.refl _ _).alloc (Nat.le_refl _) _
  rw [← hw1] at x1 b1
  have e0 := box_cells x1 0 _ rfl
  have e1 := box_cells x1 1 _ rfl
  have e2 := box_cells x1 2 _ rfl
  have e3 := box_cells x1 3 _ rfl
  have ON := hidi (ks_online (h.below b1))
  rw [hon] at ON
  have CP := hidi (copy_pub (t := t) (q := 0) (r := r) (hp.below b1))
  have a0 : w1.cell? ⟨sb, 0, none⟩ = some (.pointer (some ⟨wb, 0, none⟩)) := box_cells (hs.below b1) 0 _ rfl
  have HB := hidi b1
  clear h hs hon x1 b1 hp
  go_enter Tryz.func16, Tryz.ntmps16
  go_upto_region 1 with fail
  rw [← hw1]
  clear hw1
  go_upto_region 6 with (go_at_call 14; refine ON.out.mono ?_; rintro e w' ⟨rfl, he⟩; obtain rfl := he.symm)
  go_wp2_with (first | (refine wpList_build_to rfl 66 _ rfl (pkc 3 false t (.slice ad pn pc) 0 r 0) (built_zero _ _ _ _ _) ?_))
  refine CP.out.mono ?_
  clear CP
  rintro e w2 ⟨a', n', c', rfl, hp2, hb2⟩
  have HP2 := hidi hp2
  clear hp2
  have HB2 := hidi (HB.out.trans (hb2.mono HB.out.size))
  clear hb2
  simp only [pkc]
  go_wp2_with fail
  go_ret2
  exact ⟨_, rfl, ⟨_, HP2.out.keep (Kb.below ((Below.refl _ _).alloc (Nat.le_refl _) _)), heap_alloc_new _ _⟩, HB2.out.alloc HB2.out.size _⟩
end
end Go.Proofs.YtmihpmmkkklpfaaGreatDoor
