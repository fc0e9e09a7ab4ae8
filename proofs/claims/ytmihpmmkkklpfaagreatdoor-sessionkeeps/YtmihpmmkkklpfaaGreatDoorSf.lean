import Derived.Test.YtmihpmmkkklpfaaGreatDoorSl
import Derived.Test.YtmihpmmkkklpfaaGreatDoorSo
import Derived.Test.YtmihpmmkkklpfaaGreatDoorOh
import Derived.Test.YtmihpmmkkklpfaaGreatDoorSh
namespace Go.Proofs.YtmihpmmkkklpfaaGreatDoor
open Go Go.RowKit Go.Shelf Go.Maps Go.Sort
set_option linter.unusedSimpArgs false
set_option linter.unusedVariables false
/-! ### Deliver of quality 0 -/
theorem built_zero (t : ByteArray) (a : Option Addr) (n c : Nat) (r : Bool) : Tryz.prog.built 66 [(0, .int .i64 3), (14, .agg #[.string t, .slice a n c, .int .i64 0, .bool r])] = some (pkc 3 false t (.slice a n c) 0 r 0) := by kernel_rfl
section
variable {F : Nat → Prop} {W : World} {sb wb : Nat} {p : Pw} {c : Nat} {k : ByteArray} {la : Bool} {mo : Int} {sv nv : Value}
set_option maxRecDepth 100000 in
set_option maxHeartbeats 4000000 in
theorem deliver_off (h : KS F W wb p c) (hs : SsAt W sb wb k la mo sv nv) (hon : p.on = false) (t : ByteArray) (pa : Option Addr) (pn pc : Nat) (r : Bool) :
    Calls Tryz.prog 16 #[.pointer (some ⟨sb, 0, none⟩), .agg #[.string t, .slice pa pn pc, .int .i64 0, .bool r]] W fun e w' => e = .returned (.tuple #[.slice none 0 0, .bool false]) ∧ Below W.heap.size W w' := by
  obtain ⟨w1, hw1⟩ : ∃ w1, w1 = W.alloc (.cells #[.string t, .slice pa pn pc, .int .i64 0, .bool r] 45) := ⟨_, rfl⟩
  have x1 := heap_alloc_new W (.cells #[.string t, .slice pa pn pc, .int .i64 0, .bool r] 45)
  have b1 : Below W.heap.size W (W.alloc (.cells #[.string t, .slice pa pn pc, .int .i64 0, .bool r] 45)) := (Below.refl _ _).alloc (Nat.le_refl _) _
  rw [← hw1] at x1 b1
  have e2 := box_cells x1 2 _ rfl
  have ON := hidi (ks_online (h.below b1))
  rw [hon] at ON
  have a0 : w1.cell? ⟨sb, 0, none⟩ = some (.pointer (some ⟨wb, 0, none⟩)) := box_cells (hs.below b1) 0 _ rfl
  have HB := hidi b1
  clear h hs hon x1 b1
  go_enter Tryz.func16, Tryz.ntmps16
  go_upto_region 1 with fail
  rw [← hw1]
  clear hw1
  go_wp2_with (go_at_call 14; refine ON.out.mono ?_; rintro e w' ⟨rfl, he⟩; obtain rfl := he.symm)
  go_ret2
  exact ⟨rfl, HB.out⟩
set_option maxRecDepth 100000 in
set_option maxHeartbeats 4000000 in
theorem deliver_on (h : KS F W wb p c) (hs : SsAt W sb wb k la mo sv nv) (hon : p.on = true) (t : ByteArray) (ad : Addr) (pc : Nat) (r : Bool) {x : Int} (hp : W.cell? (ad.add 0) = some (.int .u8 x)) :
    Calls Tryz.prog 16 #[.pointer (some ⟨sb, 0, none⟩), .agg #[.string t, .slice (some ad) 1 pc, .int .i64 0, .bool r]] W fun e w' => ∃ g, e = .returned (.tuple #[.slice (some ⟨g, 0, none⟩) 1 1, .bool true]) ∧ Below W.heap.size W w' := by
  obtain ⟨w1, hw1⟩ : ∃ w1, w1 = W.alloc (.cells #[.string t, .slice (some ad) 1 pc, .int .i64 0, .bool r] 45) := ⟨_, rfl⟩
  have x1 := heap_alloc_new W (.cells #[.string t, .slice (some ad) 1 pc, .int .i64 0, .bool r] 45)
  have b1 : Below W.heap.size W (W.alloc (.cells #[.string t, .slice (some ad) 1 pc, .int .i64 0, .bool r] 45)) := (Below.refl _ _).alloc (Nat.le_refl _) _
  rw [← hw1] at x1 b1
  have e0 := box_cells x1 0 _ rfl
  have e1 := box_cells x1 1 _ rfl
  have e2 := box_cells x1 2 _ rfl
  have e3 := box_cells x1 3 _ rfl
  have ON := hidi (ks_online (h.below b1))
  rw [hon] at ON
  have CP := hidi (copy_pub (t := t) (q := 0) (r := r) (c := pc) ((cell_heap (b1.block _ (World.block_lt_of_cell? _ _ hp))).trans hp))
  have a0 : w1.cell? ⟨sb, 0, none⟩ = some (.pointer (some ⟨wb, 0, none⟩)) := box_cells (hs.below b1) 0 _ rfl
  have HB := hidi b1
  clear h hs hon x1 b1 hp
  go_enter Tryz.func16, Tryz.ntmps16
  go_upto_region 1 with fail
  rw [← hw1]
  clear hw1
  go_upto_region 6 with (go_at_call 14; refine ON.out.mono ?_; rintro e w' ⟨rfl, he⟩; obtain rfl := he.symm)
  go_wp2_with (first | (refine wpList_build_to rfl 66 _ rfl (pkc 3 false t (.slice (some ad) 1 pc) 0 r 0) (built_zero _ _ _ _ _) ?_))
  refine CP.out.mono ?_
  clear CP
  rintro e w2 ⟨a', c', rfl, hb2⟩
  have HB2 := hidi (HB.out.trans (hb2.mono HB.out.size))
  clear hb2
  simp only [pkc]
  go_wp2_with fail
  go_ret2
  exact ⟨_, rfl, HB2.out.alloc HB2.out.size _⟩
end
end Go.Proofs.YtmihpmmkkklpfaaGreatDoor
namespace Go.Proofs.YtmihpmmkkklpfaaGreatDoor
open Go Go.RowKit Go.Shelf Go.Maps Go.Sort
set_option linter.unusedSimpArgs false
set_option linter.unusedVariables false
/-! ### Image -/
theorem mkeys_b (w : World) : Calls Tryz.prog 37 #[.map none] w fun e w' => e = .returned (.func (.func 63) #[] #[.pointer (some ⟨w.heap.size, 0, none⟩)]) ∧ w'.heap[w.heap.size]? = some (.cells #[.map none] 54 (0, 0)) ∧ Below w.heap.size w w' := by
  refine (mkeys_nil w).mono ?_
  rintro e w' ⟨rfl, rfl⟩
  exact ⟨rfl, heap_alloc_new w _, (Below.refl _ _).alloc (Nat.le_refl _) _⟩
section
variable {F : Nat → Prop} {W : World} {sb wb : Nat} {p : Pw} {c : Nat} {k : ByteArray} {la : Bool} {mo : Int}
set_option maxRecDepth 100000 in
set_option maxHeartbeats 4000000 in
theorem simage_any (h : KS F W wb p c) (hs : SsAt W sb wb k la mo (.map none) (.map none)) (hc : c ≤ 200000) : Calls Tryz.prog 9 #[.pointer (some ⟨sb, 0, none⟩)] W fun e w' => ∃ sa sc fa fc qa qc ia ic, e = .returned (.agg #[.string k, .slice sa 0 sc, .int .i64 (p.last : Int), .slice fa p.fl.length fc, .slice qa p.wt.length qc, .slice ia 0 ic]) ∧ Below W.heap.size W w' := by
  obtain ⟨w1, hw1⟩ : ∃ w1, w1 = W.alloc (.cells #[.string ⟨#[]⟩, .slice none 0 0, .int .i64 0, .slice none 0 0, .slice none 0 0, .slice none 0 0] 34) := ⟨_, rfl⟩
  have x1 := heap_alloc_new W (.cells #[.string ⟨#[]⟩, .slice none 0 0, .int .i64 0, .slice none 0 0, .slice none 0 0, .slice none 0 0] 34)
  have b1 : Below W.heap.size W (W.alloc (.cells #[.string ⟨#[]⟩, .slice none 0 0, .int .i64 0, .slice none 0 0, .slice none 0 0, .slice none 0 0] 34)) := (Below.refl _ _).alloc (Nat.le_refl _) _
  rw [← hw1] at x1 b1
  have KB := hidi (fun (w2 : World) (hb : Below W.heap.size W w2) => (show w2.cell? ⟨sb, 0, none⟩ = some (.pointer (some ⟨wb, 0, none⟩)) ∧ w2.cell? ⟨sb, 1, none⟩ = some (.string k) ∧ w2.cell? ⟨sb, 5, none⟩ = some (.map none) from ⟨box_cells (hs.below hb) 0 _ rfl, box_cells (hs.below hb) 1 _ rfl, box_cells (hs.below hb) 5 _ rfl⟩))
  obtain ⟨a0, a1, a5⟩ := KB.out w1 b1
  have SU := hidi (fun (w2 : World) (hb : Below W.heap.size W w2) => subs_nil (hs.below hb))
  have IM := hidi (fun (w2 : World) (hb : Below W.heap.size W w2) => ks_image (h.below hb) hc)
  obtain ⟨ls, hls⟩ : ∃ ls : Int, ls = (p.last : Int) := ⟨_, rfl⟩
  obtain ⟨nf, hnf⟩ : ∃ nf, nf = p.fl.length := ⟨_, rfl⟩
  obtain ⟨nw, hnw⟩ : ∃ nw, nw = p.wt.length := ⟨_, rfl⟩
  rw [← hls, ← hnf, ← hnw]
  have HL := hidi (And.intro hls (And.intro hnf hnw))
  have H := hidi (And.intro x1 b1)
  clear h hs hc x1 b1 hls hnf hnw
  go_enter Tryz.func9, Tryz.ntmps9
  go_upto_region 1 with fail
  rw [← hw1]
  clear hw1
  refine wp_region_held_drew (S := fun w' => w'.cell? ⟨sb, 0, none⟩ = some (.pointer (some ⟨wb, 0, none⟩)) ∧ w'.cell? ⟨sb, 1, none⟩ = some (.string k) ∧ w'.cell? ⟨sb, 5, none⟩ = some (.map none)) (by kernel_rfl) ⟨a0, a1, a5⟩ (fun hHeld => ?_)
  change wpAnyH _ _ _ _ _ 19 #[false, false, false, false, false, false, false, false, false, false, false, false, false, false, false, false, false, false, false] _ (World.drew _)
  refine wpAnyH_take (i := 0) (oi := { dst := some 3, op := Go.Op.move (Go.Operand.tmp 0), type := 36, pos := "session.go:120", after := #[], guard := none }) (v := .pointer (some ⟨sb, 0, none⟩)) rfl (by kernel_rfl) (by kernel_rfl) (by kernel_rfl) (fun _ _ _ h => h) (Or.inl ⟨by kernel_rfl, by intro wq hSw; (try dsimp only at hSw); clear hHeld; go_simp⟩) hHeld ?_
  simp only [Act.put, List.setIfInBounds_toArray, List.set_cons_zero, List.set_cons_succ]
  refine wpAnyH_take (i := 1) (oi := { dst := some 4, op := Go.Op.nilCheck (Go.Operand.tmp 3), type := 0, pos := "session.go:120", after := #[{ on := 0, ground := Go.Ground.data }], guard := none }) (v := .pointer (some ⟨sb, 0, none⟩)) rfl (by kernel_rfl) (by kernel_rfl) (by kernel_rfl) (fun _ _ _ h => h) (Or.inl ⟨by kernel_rfl, by intro wq hSw; (try dsimp only at hSw); clear hHeld; go_simp⟩) hHeld ?_
  simp only [Act.put, List.setIfInBounds_toArray, List.set_cons_zero, List.set_cons_succ]
  refine wpAnyH_take (i := 2) (oi := { dst := some 5, op := Go.Op.fieldAddr 56 (Go.Operand.tmp 4) 1, type := 0, pos := "session.go:120", after := #[{ on := 1, ground := Go.Ground.data }], guard := none }) (v := .pointer (some ⟨sb, 1, none⟩)) rfl (by kernel_rfl) (by kernel_rfl) (by kernel_rfl) (fun _ _ _ h => h) (Or.inl ⟨by kernel_rfl, by intro wq hSw; (try dsimp only at hSw); clear hHeld; go_simp⟩) hHeld ?_
  simp only [Act.put, List.setIfInBounds_toArray, List.set_cons_zero, List.set_cons_succ]
  refine wpAnyH_take (i := 3) (oi := { dst := some 6, op := Go.Op.load 9 (Go.Operand.tmp 5), type := 9, pos := "session.go:120", after := #[{ on := 2, ground := Go.Ground.data }], guard := none }) (v := .string k) rfl (by kernel_rfl) (by kernel_rfl) (by kernel_rfl) (fun _ _ _ h => h) (Or.inl ⟨by kernel_rfl, by intro wq hSw; (try dsimp only at hSw); clear hHeld; go_simp⟩) hHeld ?_
  simp only [Act.put, List.setIfInBounds_toArray, List.set_cons_zero, List.set_cons_succ]
  refine wpAnyH_take (i := 4) (oi := { dst := some 7, op := Go.Op.move (Go.Operand.tmp 0), type := 36, pos := "session.go:120", after := #[], guard := none }) (v := .pointer (some ⟨sb, 0, none⟩)) rfl (by kernel_rfl) (by kernel_rfl) (by kernel_rfl) (fun _ _ _ h => h) (Or.inl ⟨by kernel_rfl, by intro wq hSw; (try dsimp only at hSw); clear hHeld; go_simp⟩) hHeld ?_
  simp only [Act.put, List.setIfInBounds_toArray, List.set_cons_zero, List.set_cons_succ]
  refine wpAnyH_take (i := 6) (oi := { dst := some 9, op := Go.Op.move (Go.Operand.tmp 0), type := 36, pos := "session.go:120", after := #[], guard := none }) (v := .pointer (some ⟨sb, 0, none⟩)) rfl (by kernel_rfl) (by kernel_rfl) (by kernel_rfl) (fun _ _ _ h => h) (Or.inl ⟨by kernel_rfl, by intro wq hSw; (try dsimp only at hSw); clear hHeld; go_simp⟩) hHeld ?_
  simp only [Act.put, List.setIfInBounds_toArray, List.set_cons_zero, List.set_cons_succ]
  refine wpAnyH_take (i := 7) (oi := { dst := some 10, op := Go.Op.nilCheck (Go.Operand.tmp 9), type := 0, pos := "session.go:120", after := #[{ on := 6, ground := Go.Ground.data }], guard := none }) (v := .pointer (some ⟨sb, 0, none⟩)) rfl (by kernel_rfl) (by kernel_rfl) (by kernel_rfl) (fun _ _ _ h => h) (Or.inl ⟨by kernel_rfl, by intro wq hSw; (try dsimp only at hSw); clear hHeld; go_simp⟩) hHeld ?_
  simp only [Act.put, List.setIfInBounds_toArray, List.set_cons_zero, List.set_cons_succ]
  refine wpAnyH_take (i := 8) (oi := { dst := some 11, op := Go.Op.fieldAddr 56 (Go.Operand.tmp 10) 0, type := 0, pos := "session.go:120", after := #[{ on := 7, ground := Go.Ground.data }], guard := none }) (v := .pointer (some ⟨sb, 0, none⟩)) rfl (by kernel_rfl) (by kernel_rfl) (by kernel_rfl) (fun _ _ _ h => h) (Or.inl ⟨by kernel_rfl, by intro wq hSw; (try dsimp only at hSw); clear hHeld; go_simp⟩) hHeld ?_
  simp only [Act.put, List.setIfInBounds_toArray, List.set_cons_zero, List.set_cons_succ]
  refine wpAnyH_take (i := 9) (oi := { dst := some 12, op := Go.Op.load 52 (Go.Operand.tmp 11), type := 52, pos := "session.go:120", after := #[{ on := 8, ground := Go.Ground.data }], guard := none }) (v := .pointer (some ⟨wb, 0, none⟩)) rfl (by kernel_rfl) (by kernel_rfl) (by kernel_rfl) (fun _ _ _ h => h) (Or.inl ⟨by kernel_rfl, by intro wq hSw; (try dsimp only at hSw); clear hHeld; go_simp⟩) hHeld ?_
  simp only [Act.put, List.setIfInBounds_toArray, List.set_cons_zero, List.set_cons_succ]
  refine wpAnyH_take (i := 11) (oi := { dst := some 14, op := Go.Op.move (Go.Operand.tmp 0), type := 36, pos := "session.go:120", after := #[], guard := none }) (v := .pointer (some ⟨sb, 0, none⟩)) rfl (by kernel_rfl) (by kernel_rfl) (by kernel_rfl) (fun _ _ _ h => h) (Or.inl ⟨by kernel_rfl, by intro wq hSw; (try dsimp only at hSw); clear hHeld; go_simp⟩) hHeld ?_
  simp only [Act.put, List.setIfInBounds_toArray, List.set_cons_zero, List.set_cons_succ]
  refine wpAnyH_take (i := 12) (oi := { dst := some 15, op := Go.Op.nilCheck (Go.Operand.tmp 14), type := 0, pos := "session.go:120", after := #[{ on := 11, ground := Go.Ground.data }], guard := none }) (v := .pointer (some ⟨sb, 0, none⟩)) rfl (by kernel_rfl) (by kernel_rfl) (by kernel_rfl) (fun _ _ _ h => h) (Or.inl ⟨by kernel_rfl, by intro wq hSw; (try dsimp only at hSw); clear hHeld; go_simp⟩) hHeld ?_
  simp only [Act.put, List.setIfInBounds_toArray, List.set_cons_zero, List.set_cons_succ]
  refine wpAnyH_take (i := 13) (oi := { dst := some 16, op := Go.Op.fieldAddr 56 (Go.Operand.tmp 15) 5, type := 0, pos := "session.go:120", after := #[{ on := 12, ground := Go.Ground.data }], guard := none }) (v := .pointer (some ⟨sb, 5, none⟩)) rfl (by kernel_rfl) (by kernel_rfl) (by kernel_rfl) (fun _ _ _ h => h) (Or.inl ⟨by kernel_rfl, by intro wq hSw; (try dsimp only at hSw); clear hHeld; go_simp⟩) hHeld ?_
  simp only [Act.put, List.setIfInBounds_toArray, List.set_cons_zero, List.set_cons_succ]
  refine wpAnyH_take (i := 14) (oi := { dst := some 17, op := Go.Op.load 54 (Go.Operand.tmp 16), type := 54, pos := "session.go:120", after := #[{ on := 13, ground := Go.Ground.data }], guard := none }) (v := .map none) rfl (by kernel_rfl) (by kernel_rfl) (by kernel_rfl) (fun _ _ _ h => h) (Or.inl ⟨by kernel_rfl, by intro wq hSw; (try dsimp only at hSw); clear hHeld; go_simp⟩) hHeld ?_
  simp only [Act.put, List.setIfInBounds_toArray, List.set_cons_zero, List.set_cons_succ]
  refine wpAnyH_ready (rs := [5]) (by kernel_rfl) (by simp) ?_
  refine AllReadyH.cons (o := { dst := some 8, op := Go.Op.call { callee := Go.Callee.value (Go.Operand.func 29), args := #[Go.Operand.tmp 7], argTypes := #[36] }, type := 27, pos := "session.go:122", after := #[{ on := 4, ground := Go.Ground.data }], guard := none }) (by rfl) (fun K hK => ?_) AllReadyH.nil
  go_simp
  go_wp2_with (go_at_call 29; refine (SU.out _ H.out.2.drew).mono ?_; rintro e w2 ⟨sa, sc, rfl, hb2⟩)
  have HB2 := hidi (H.out.2.drew.trans (hb2.mono H.out.2.drew.size))
  have HX2 := hidi (later_at (w := w1.drew) H.out.1 hb2)
  clear a0 a1 a5 hb2 hHeld SU
  obtain ⟨a0, a1, a5⟩ := KB.out _ HB2.out
  refine hK.out _ _ ⟨a0, a1, a5⟩ (fun hHeld => ?_)
  clear hK K
  (try simp only [Act.put, List.setIfInBounds_toArray, List.set_cons_zero, List.set_cons_succ])
  refine wpAnyH_ready (rs := [10]) (by kernel_rfl) (by simp) ?_
  refine AllReadyH.cons (o := { dst := some 13, op := Go.Op.call { callee := Go.Callee.value (Go.Operand.func 35), args := #[Go.Operand.tmp 12], argTypes := #[52] }, type := 31, pos := "session.go:123", after := #[{ on := 9, ground := Go.Ground.data }, { on := 5, ground := Go.Ground.chain }], guard := none }) (by rfl) (fun K hK => ?_) AllReadyH.nil
  go_simp
  go_wp2_with (go_at_call 35; refine (IM.out _ HB2.out).mono ?_; rintro e w3 ⟨vf, vq, rfl, hI, hb3⟩)
  have HB3 := hidi (HB2.out.trans (hb3.mono HB2.out.size))
  have HX3 := hidi (later_at HX2.out hb3)
  obtain ⟨fa, fc, rfl⟩ := own_sl hI.fl.choose_spec.1
  obtain ⟨qa, qc, rfl⟩ := own_sl hI.qu.choose_spec.1
  rw [← HL.out.1, ← HL.out.2.1, ← HL.out.2.2]
  clear a0 a1 a5 hb3 hI hHeld IM
  obtain ⟨a0, a1, a5⟩ := KB.out _ HB3.out
  refine hK.out _ _ ⟨a0, a1, a5⟩ (fun hHeld => ?_)
  clear hK K
  (try simp only [Act.put, List.setIfInBounds_toArray, List.set_cons_zero, List.set_cons_succ])
  refine wpAnyH_ready (rs := [15]) (by kernel_rfl) (by simp) ?_
  refine AllReadyH.cons (o := { dst := some 18, op := Go.Op.call { callee := Go.Callee.value (Go.Operand.func 37), args := #[Go.Operand.tmp 17], argTypes := #[54] }, type := 86, pos := "session.go:124", after := #[{ on := 14, ground := Go.Ground.data }, { on := 10, ground := Go.Ground.chain }], guard := none }) (by rfl) (fun K hK => ?_) AllReadyH.nil
  go_simp
  go_wp2_with (go_at_call 37; refine (mkeys_b _).mono ?_; rintro e w4 ⟨rfl, x4, b4⟩)
  have HB4 := hidi (HB3.out.trans (b4.mono HB3.out.size))
  have HX4 := hidi (later_at HX3.out b4)
  have KS4 := hidi (ksorted_nil w3.heap.size w4 (Array.getElem?_eq_some_iff.1 x4).1 (box_cells x4 0 _ rfl))
  clear a0 a1 a5 x4 b4 hHeld
  obtain ⟨a0, a1, a5⟩ := KB.out _ HB4.out
  refine hK.out _ _ ⟨a0, a1, a5⟩ (fun hHeld => ?_)
  clear hK K
  (try simp only [Act.put, List.setIfInBounds_toArray, List.set_cons_zero, List.set_cons_succ])
  refine wpAnyH_ready (rs := [16]) (by kernel_rfl) (by simp) ?_
  refine AllReadyH.cons (o := { dst := some 19, op := Go.Op.call { callee := Go.Callee.value (Go.Operand.func 36), args := #[Go.Operand.tmp 18], argTypes := #[86] }, type := 32, pos := "session.go:124", after := #[{ on := 15, ground := Go.Ground.data }, { on := 15, ground := Go.Ground.chain }], guard := none }) (by rfl) (fun K hK => ?_) AllReadyH.nil
  go_simp
  go_wp2_with (go_at_call 36; refine (KS4.out).mono ?_; rintro e w5 ⟨ia, ic, rfl, hb5⟩)
  have HB5 := hidi (HB4.out.trans (hb5.mono HB4.out.size))
  have HX5 := hidi (later_at HX4.out hb5)
  clear a0 a1 a5 hb5 hHeld KS4
  obtain ⟨a0, a1, a5⟩ := KB.out _ HB5.out
  refine hK.out _ _ ⟨a0, a1, a5⟩ (fun hHeld => ?_)
  clear hK K
  (try simp only [Act.put, List.setIfInBounds_toArray, List.set_cons_zero, List.set_cons_succ])
  refine wpAnyH_take (i := 17) (oi := { dst := some 20, op := Go.Op.build 34 #[(0, Go.Operand.tmp 6), (1, Go.Operand.tmp 8), (2, Go.Operand.tmp 13), (3, Go.Operand.tmp 19)], type := 34, pos := "session.go:120", after := #[{ on := 3, ground := Go.Ground.data }, { on := 5, ground := Go.Ground.data }, { on := 10, ground := Go.Ground.data }, { on := 16, ground := Go.Ground.data }], guard := none }) (v := .agg #[.string k, .slice sa 0 sc, .int .i64 ls, .slice fa nf fc, .slice qa nw qc, .slice ia 0 ic]) rfl (by kernel_rfl) (by kernel_rfl) (by kernel_rfl) (fun _ _ _ h => h) (Or.inl ⟨by kernel_rfl, by intro wq hSw; (try dsimp only at hSw); clear hHeld; go_simp⟩) hHeld ?_
  simp only [Act.put, List.setIfInBounds_toArray, List.set_cons_zero, List.set_cons_succ]
  refine wpAnyH_ready (rs := [18]) (by kernel_rfl) (by simp) ?_
  refine AllReadyH.cons (o := { dst := none, op := Go.Op.store 34 (Go.Operand.tmp 2) (Go.Operand.tmp 20), type := 0, pos := "session.go:120", after := #[{ on := 17, ground := Go.Ground.data }, { on := 16, ground := Go.Ground.chain }, { on := 0, ground := Go.Ground.phase }, { on := 1, ground := Go.Ground.phase }, { on := 2, ground := Go.Ground.phase }, { on := 3, ground := Go.Ground.phase }, { on := 4, ground := Go.Ground.phase }, { on := 5, ground := Go.Ground.phase }, { on := 6, ground := Go.Ground.phase }, { on := 7, ground := Go.Ground.phase }, { on := 8, ground := Go.Ground.phase }, { on := 9, ground := Go.Ground.phase }, { on := 10, ground := Go.Ground.phase }, { on := 11, ground := Go.Ground.phase }, { on := 12, ground := Go.Ground.phase }, { on := 13, ground := Go.Ground.phase }, { on := 14, ground := Go.Ground.phase }, { on := 15, ground := Go.Ground.phase }, { on := 16, ground := Go.Ground.phase }, { on := 17, ground := Go.Ground.phase }], guard := none }) (by rfl) (fun K hK => ?_) AllReadyH.nil
  refine wp_store_row 34 _ _ rfl W.heap.size #[.string k, .slice sa 0 sc, .int .i64 ls, .slice fa nf fc, .slice qa nw qc, .slice ia 0 ic] rfl rfl 34 _ HX5.out (by kernel_rfl) rfl (by simp [Value.oneCell']) ?_
  have z5 := setRow_at (cells := #[.string k, .slice sa 0 sc, .int .i64 ls, .slice fa nf fc, .slice qa nw qc, .slice ia 0 ic]) HX5.out
  have bz := below_row HB5.out (Nat.le_refl W.heap.size) #[.string k, .slice sa 0 sc, .int .i64 ls, .slice fa nf fc, .slice qa nw qc, .slice ia 0 ic]
  have hz := KB.out _ bz
  refine hK.out _ _ hz (fun hHeld => ?_)
  clear hK K
  (try simp only [Act.put, List.setIfInBounds_toArray, List.set_cons_zero, List.set_cons_succ])
  refine wpAnyH_done (by kernel_rfl) ?_ _
  have HZ := hidi (And.intro z5 bz)
  clear z5 bz hz hHeld a0 a1 a5
  go_wp2_with fail
  refine bodyPost_ret (results_cell_row rfl _ _ _ _ _ _ _ rfl HZ.out.1 Tryz.underlying34 rfl (by kernel_rfl)) rfl ⟨_, _, _, _, _, _, _, _, rfl, HZ.out.2⟩
end
end Go.Proofs.YtmihpmmkkklpfaaGreatDoor
namespace Go.Proofs.YtmihpmmkkklpfaaGreatDoor
open Go Go.RowKit Go.Maps
set_option linter.unusedSimpArgs false
set_option linter.unusedVariables false
section
variable {W : World} {sb wb : Nat} {k : ByteArray} {la : Bool} {mo : Int} {sv nv : Value} {n : Nat} {f : ByteArray → Option Value}
set_option maxRecDepth 100000 in
set_option maxHeartbeats 4000000 in
/-- Subscribe: there is no room. -/
theorem subscribe_no (h : SsAt W sb wb k la mo sv nv) (hm : MG W sv n f) (fl : ByteArray) (q : Int) (hf : Tp.fcode fl = 0) (hfs : fl.size ≤ 1000000) (h0 : 0 ≤ q) (h2 : q ≤ 2) (hn : f fl = none) (hmo : mo ≤ (n : Int)) :
    Calls Tryz.prog 27 #[.pointer (some ⟨sb, 0, none⟩), .agg #[.string fl, .int .i64 q]] W fun e w' => e = .returned (.int .i64 128) ∧ Below W.heap.size W w' := by
  obtain ⟨w1, hw1⟩ : ∃ w1, w1 = W.alloc (.cells #[.string fl, .int .i64 q] 42) := ⟨_, rfl⟩
  have x1 := heap_alloc_new W (.cells #[.string fl, .int .i64 q] 42)
  have b1 : Below W.heap.size W (W.alloc (.cells #[.string fl, .int .i64 q] 42)) := (Below.refl _ _).alloc (Nat.le_refl _) _
  rw [← hw1] at x1 b1
  have e0 := box_cells x1 0 _ rfl
  have e1 := box_cells x1 1 _ rfl
  have s1 := h.below b1
  have a4 : w1.cell? ⟨sb, 4, none⟩ = some sv := box_cells s1 4 _ rfl
  have hm1 : MG w1 sv n f := hm.keep (fun b e => b1.block b (hm.lt e))
  have hlk : ∀ d, (Instr.lookup 53 sv (.string fl) true).run Tryz.prog (w1.drewN d) = .ok (.tuple #[.int .i64 0, .bool false]) (w1.drewN d) := fun d => by
    have := (hm1.keep (w' := w1.drewN d) (fun b e => by simp [World.drewN])).look2 (t := 53) Tryz.underlying53 zero3 (k := fl) (by unfold okT maxLen; omega)
    rw [hn] at this
    exact this
  have HS := hidi (And.intro s1 (And.intro hm1 (And.intro x1 b1)))
  have IA := hidi (fun w => isAsk_any fl q w hf h0 h2)
  have hge : (n : Int) ≥ mo := hmo
  clear h hm hn hf x1 b1 s1 hm1
  go_enter Tryz.func27, Tryz.ntmps27
  go_upto_region 1 with fail
  rw [← hw1]
  clear hw1
  go_wp2_with fail
  go_quiet (fail)
  clear hlk a4 e0 e1
  have bd : Below w1.heap.size w1 (w1.drewN nq) := below_drewN (Below.refl _ _)
  obtain ⟨w3, hw3⟩ : ∃ w3, w3 = w1.drewN nq := ⟨_, rfl⟩
  rw [← hw3] at bd ⊢
  have x3 := later_at HS.out.2.2.1 bd
  have e0 := box_cells x3 0 _ rfl
  have e1 := box_cells x3 1 _ rfl
  have s3 := HS.out.1.below bd
  have a3 : w3.cell? ⟨sb, 3, none⟩ = some (.int .i64 mo) := box_cells s3 3 _ rfl
  have a4 : w3.cell? ⟨sb, 4, none⟩ = some sv := box_cells s3 4 _ rfl
  have HB3 := hidi bd
  clear x3 s3 bd hw3
  go_upto_region 2 with fail
  go_region_held_law (fun w' => w'.cell? ⟨W.heap.size, 0, none⟩ = some (.string fl) ∧ w'.cell? ⟨W.heap.size, 1, none⟩ = some (.int .i64 q) ∧ w'.cell? ⟨sb, 3, none⟩ = some (.int .i64 mo) ∧ w'.cell? ⟨sb, 4, none⟩ = some sv) (first | exact ⟨e0, e1, a3, a4⟩ | go_keep) (first
    | (go_at_call 54; refine (IA.out _).mono ?_; rintro e w4 ⟨rfl, hb⟩; have HB4 := hidi (HB3.out.trans ((((Below.refl w3.heap.size w3).drew).trans hb).mono HB3.out.size)); clear e0 e1 a3 a4 hb; have x4 := later_at HS.out.2.2.1 HB4.out; have e0 := box_cells x4 0 _ rfl; have e1 := box_cells x4 1 _ rfl; have s4 := HS.out.1.below HB4.out; have a3 : w4.cell? ⟨sb, 3, none⟩ = some (.int .i64 mo) := box_cells s4 3 _ rfl; have a4 : w4.cell? ⟨sb, 4, none⟩ = some sv := box_cells s4 4 _ rfl; have hlen := fun ty => (HS.out.2.1.keep (fun b e => HB4.out.block b (HS.out.2.1.lt e))).len (t := 53) Tryz.underlying53 ty; clear x4 s4))
  all_goals go_wp2_with fail
  all_goals go_ret
  all_goals exact ⟨rfl, HS.out.2.2.2.trans (HB4.out.mono HS.out.2.2.2.size)⟩
theorem Gr.pre {W1 w' : World} {fl : ByteArray} {q : Int} (hb : Below W.heap.size W W1) (g : Gr W1 w' sb wb k la mo sv nv n f fl q) : Gr W w' sb wb k la mo sv nv n f fl q := by
  obtain ⟨mb, h1, h2, h3⟩ := g.ex
  exact ⟨⟨mb, h1, h2, h3.imp id (fun z => Nat.le_trans hb.size z)⟩, (Below.ch hb).then g.ch⟩
set_option maxRecDepth 100000 in
set_option maxHeartbeats 4000000 in
/-- Subscribe: it is laid down. -/
theorem subscribe_yes (h : SsAt W sb wb k la mo sv nv) (hm : MG W sv n f) (fl : ByteArray) (q : Int) (hf : Tp.fcode fl = 0) (hfs : fl.size ≤ 1000000) (h0 : 0 ≤ q) (h2 : q ≤ 2) (hn : f fl = none) (hmo : (n : Int) < mo)
    (GR : ∀ w, Below W.heap.size W w → Calls Tryz.prog 41 #[.pointer (some ⟨sb, 0, none⟩), .agg #[.string fl, .int .i64 q]] w fun e w' => e = .returned (.tuple #[]) ∧ Gr w w' sb wb k la mo sv nv n f fl q) :
    Calls Tryz.prog 27 #[.pointer (some ⟨sb, 0, none⟩), .agg #[.string fl, .int .i64 q]] W fun e w' => e = .returned (.int .i64 q) ∧ Gr W w' sb wb k la mo sv nv n f fl q := by
  obtain ⟨w1, hw1⟩ : ∃ w1, w1 = W.alloc (.cells #[.string fl, .int .i64 q] 42) := ⟨_, rfl⟩
  have x1 := heap_alloc_new W (.cells #[.string fl, .int .i64 q] 42)
  have b1 : Below W.heap.size W (W.alloc (.cells #[.string fl, .int .i64 q] 42)) := (Below.refl _ _).alloc (Nat.le_refl _) _
  rw [← hw1] at x1 b1
  have e0 := box_cells x1 0 _ rfl
  have e1 := box_cells x1 1 _ rfl
  have s1 := h.below b1
  have hsw : sb < W.heap.size := (Array.getElem?_eq_some_iff.1 h).1
  have hsv : ∀ j, sv = .map (some j) → j < W.heap.size := fun j e => hm.lt e
  have a4 : w1.cell? ⟨sb, 4, none⟩ = some sv := box_cells s1 4 _ rfl
  have hm1 : MG w1 sv n f := hm.keep (fun b e => b1.block b (hm.lt e))
  have hlk : ∀ d, (Instr.lookup 53 sv (.string fl) true).run Tryz.prog (w1.drewN d) = .ok (.tuple #[.int .i64 0, .bool false]) (w1.drewN d) := fun d => by
    have := (hm1.keep (w' := w1.drewN d) (fun b e => by simp [World.drewN])).look2 (t := 53) Tryz.underlying53 zero3 (k := fl) (by unfold okT maxLen; omega)
    rw [hn] at this
    exact this
  have HS := hidi (And.intro s1 (And.intro hm1 (And.intro x1 b1)))
  have IA := hidi (fun w => isAsk_any fl q w hf h0 h2)
  have GRH := hidi GR
  have HV := hidi (And.intro hsw hsv)
  clear h hm hn hf x1 b1 s1 hm1 GR hsw hsv
  · have hge : ¬ (n : Int) ≥ mo := by omega
    clear hmo
    go_enter Tryz.func27, Tryz.ntmps27
    go_upto_region 1 with fail
    rw [← hw1]
    clear hw1
    go_wp2_with fail
    go_quiet (fail)
    clear hlk a4 e0 e1
    have bd : Below w1.heap.size w1 (w1.drewN nq) := below_drewN (Below.refl _ _)
    obtain ⟨w3, hw3⟩ : ∃ w3, w3 = w1.drewN nq := ⟨_, rfl⟩
    rw [← hw3] at bd ⊢
    have x3 := later_at HS.out.2.2.1 bd
    have e0 := box_cells x3 0 _ rfl
    have e1 := box_cells x3 1 _ rfl
    have s3 := HS.out.1.below bd
    have a3 : w3.cell? ⟨sb, 3, none⟩ = some (.int .i64 mo) := box_cells s3 3 _ rfl
    have a4 : w3.cell? ⟨sb, 4, none⟩ = some sv := box_cells s3 4 _ rfl
    have HB3 := hidi bd
    clear x3 s3 bd hw3
    go_upto_region 2 with fail
    go_region_held_law (fun w' => w'.cell? ⟨W.heap.size, 0, none⟩ = some (.string fl) ∧ w'.cell? ⟨W.heap.size, 1, none⟩ = some (.int .i64 q) ∧ w'.cell? ⟨sb, 3, none⟩ = some (.int .i64 mo) ∧ w'.cell? ⟨sb, 4, none⟩ = some sv) (first | exact ⟨e0, e1, a3, a4⟩ | go_keep) (first
      | (go_at_call 54; refine (IA.out _).mono ?_; rintro e w4 ⟨rfl, hb⟩; have HB4 := hidi (HB3.out.trans ((((Below.refl w3.heap.size w3).drew).trans hb).mono HB3.out.size)); clear e0 e1 a3 a4 hb; have x4 := later_at HS.out.2.2.1 HB4.out; have e0 := box_cells x4 0 _ rfl; have e1 := box_cells x4 1 _ rfl; have s4 := HS.out.1.below HB4.out; have a3 : w4.cell? ⟨sb, 3, none⟩ = some (.int .i64 mo) := box_cells s4 3 _ rfl; have a4 : w4.cell? ⟨sb, 4, none⟩ = some sv := box_cells s4 4 _ rfl; have hlen := fun ty => (HS.out.2.1.keep (fun b e => HB4.out.block b (HS.out.2.1.lt e))).len (t := 53) Tryz.underlying53 ty; clear x4 s4))
    all_goals go_wp2_with fail
    all_goals go_must (go_at_call 41)
    all_goals have HBW := hidi (HS.out.2.2.2.trans (HB4.out.mono HS.out.2.2.2.size))
    all_goals refine (GRH.out _ HBW.out).mono ?_
    all_goals rintro e w5 ⟨rfl, hg⟩
    all_goals have x5 := (hg.ch.block W.heap.size (Nat.lt_of_lt_of_le (Array.getElem?_eq_some_iff.1 HS.out.2.2.1).1 HB4.out.size) (fun z => z.elim (fun z => by have := HV.out.1; omega) (fun z => by have := HV.out.2 _ z; omega))).trans (later_at HS.out.2.2.1 HB4.out)
    all_goals clear e0 e1
    all_goals have e1 := box_cells x5 1 _ rfl
    all_goals have HG := hidi hg
    all_goals clear hg x5 a3 a4 hlen
    all_goals go_wp2_with fail
    all_goals go_ret
    all_goals exact ⟨rfl, HG.out.pre HBW.out⟩
end
end Go.Proofs.YtmihpmmkkklpfaaGreatDoor
