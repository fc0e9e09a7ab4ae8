import Derived.Test.YtmihpmmkkklpfaaGreatDoorBRb
import Derived.Test.YtmihpmmkkklpfaaGreatDoorBOh
import Derived.Test.YtmihpmmkkklpfaaGreatDoorBSb
namespace Go.Proofs.YtmihpmmkkklpfaaGreatDoor
open Go Go.RowKit Go.Shelf Go.Maps Go.Sort
set_option linter.unusedSimpArgs false
set_option linter.unusedVariables false
/-! ### Image -/
theorem keysI_b (mb : Option Nat) (w : World) : Calls Tryz.prog 37 #[.map mb] w fun e w' => e = .returned (.func (.func 63) #[] #[.pointer (some ⟨w.heap.size, 0, none⟩)]) ∧ w'.heap[w.heap.size]? = some (.cells #[.map mb] 54 (0, 0)) ∧ Below w.heap.size w w' := by
  refine (keysI_any mb w).mono ?_
  rintro e w' ⟨rfl, rfl⟩
  exact ⟨rfl, heap_alloc_new w _, (Below.refl _ _).alloc (Nat.le_refl _) _⟩
theorem imp_ge {w w' : World} {p : Pw} {vf vq : Value} (h : ImP w w' p vf vq) : ∀ g, (vf.ownBlock = some g ∨ vq.ownBlock = some g) → w.heap.size ≤ g := by
  obtain ⟨L, a1, _⟩ := h.fl
  obtain ⟨L', b1, _⟩ := h.qu
  intro g hg
  rcases hg with z | z
  · exact row_ge a1 z
  · exact row_ge b1 z
theorem Imo.ch {w w' : World} {S : Nat → Prop} {p : Pw} {L : List Fo} {L' : List Ms} {vf vq : Value} (h : Imo w p L L' vf vq) (hc : Ch S w w') (hs : ∀ g, (vf.ownBlock = some g ∨ vq.ownBlock = some g) → ¬ S g) (hk : Kb w w') : Imo w' p L L' vf vq :=
  ⟨own_ch h.fl hc (fun g hg => hs g (.inl hg)), fun o ho => (h.fp o ho).keep hk, own_ch h.qu hc (fun g hg => hs g (.inr hg)), fun o ho => (h.qp o ho).keep hk, h.ef, h.eq⟩
section
variable {F : Nat → Prop} {W : World} {sb wb : Nat} {p : Pw} {c : Nat} {k : ByteArray} {la : Bool} {mo : Int} {sv nv : Value} {n m : Nat} {f : ByteArray → Option Int} {g : Int → Option Value}
set_option maxRecDepth 100000 in
set_option maxHeartbeats 8000000 in
theorem simage_any (h : KS F W wb p c) (hs : SsAt W sb wb k la mo sv nv) (hmg : MG W sv n (fun x => (f x).map (Value.int .i64))) (hn : n ≤ 65536) (hfs : ∀ x, okT x → (f x).isSome → x.size ≤ 1000000) (hmi : MI W nv m g) (hm : m ≤ 65536) (hc : c ≤ 200000) :
    Calls Tryz.prog 9 #[.pointer (some ⟨sb, 0, none⟩)] W fun e w' => ∃ v1 vf vq vi LS LI Lf Lm, e = .returned (.agg #[.string k, v1, .int .i64 (p.last : Int), vf, vq, vi]) ∧ w'.ownsRow W.heap.size 42 2 v1 LS.length (arow LS) ∧ SubsOf f n LS ∧ Imo w' p Lf Lm vf vq ∧ w'.ownsRow W.heap.size 3 1 vi LI.length (LI.map (Value.int .i64)) ∧ InbOf g m LI ∧ Below W.heap.size W w' := by
  obtain ⟨nb, rfl⟩ : ∃ nb, nv = .map nb := by
    rcases hmi.mk with z | ⟨b, z⟩
    · exact ⟨_, z⟩
    · exact ⟨_, z⟩
  obtain ⟨w1, hw1⟩ : ∃ w1, w1 = W.alloc (.cells #[.string ⟨#[]⟩, .slice none 0 0, .int .i64 0, .slice none 0 0, .slice none 0 0, .slice none 0 0] 34) := ⟨_, rfl⟩
  have x1 := heap_alloc_new W (.cells #[.string ⟨#[]⟩, .slice none 0 0, .int .i64 0, .slice none 0 0, .slice none 0 0, .slice none 0 0] 34)
  have b1 : Below W.heap.size W (W.alloc (.cells #[.string ⟨#[]⟩, .slice none 0 0, .int .i64 0, .slice none 0 0, .slice none 0 0, .slice none 0 0] 34)) := (Below.refl _ _).alloc (Nat.le_refl _) _
  rw [← hw1] at x1 b1
  have KB := hidi (fun (w2 : World) (hb : Below W.heap.size W w2) => (show w2.cell? ⟨sb, 0, none⟩ = some (.pointer (some ⟨wb, 0, none⟩)) ∧ w2.cell? ⟨sb, 1, none⟩ = some (.string k) ∧ w2.cell? ⟨sb, 5, none⟩ = some (.map nb) from ⟨box_cells (hs.below hb) 0 _ rfl, box_cells (hs.below hb) 1 _ rfl, box_cells (hs.below hb) 5 _ rfl⟩))
  obtain ⟨a0, a1, a5⟩ := KB.out w1 b1
  have HS1 := hidi (show W.heap.size < w1.drew.heap.size from (Array.getElem?_eq_some_iff.1 x1).1)
  have SU := hidi (fun (w2 : World) (hb : Below W.heap.size W w2) => subs_any (hs.below hb) (hmg.keep (fun b e => hb.block b (hmg.lt e))) hn hfs)
  have IM := hidi (fun (w2 : World) (hb : Below W.heap.size W w2) => ks_image (h.below hb) hc)
  have IN := hidi (fun (w2 : World) (hb : Below W.heap.size W w2) (Bm : Nat) hB hcl => inbox_any (w := w2) (hmi.keep (fun b e => hb.block b (hmi.lt e))) hm Bm hB hcl)
  obtain ⟨ls, hls⟩ : ∃ ls : Int, ls = (p.last : Int) := ⟨_, rfl⟩
  rw [← hls]
  have HL := hidi hls
  have H := hidi (And.intro x1 b1)
  clear h hs hc x1 b1 hls hmg hmi hfs hn hm
  go_enter Tryz.func9, Tryz.ntmps9
  go_upto_region 1 with fail
  rw [← hw1]
  clear hw1
  refine wp_region_held_drew (S := fun w' => w'.cell? ⟨sb, 0, none⟩ = some (.pointer (some ⟨wb, 0, none⟩)) ∧ w'.cell? ⟨sb, 1, none⟩ = some (.string k) ∧ w'.cell? ⟨sb, 5, none⟩ = some (.map nb)) (by kernel_rfl) ⟨a0, a1, a5⟩ (fun hHeld => ?_)
  change wpAnyH _ _ _ _ _ 19 #[false, false, false, false, false, false, false, false, false, false, false, false, false, false, false, false, false, false, false] _ (World.drew _)
  refine wpAnyH_take (i := 0) (oi := { dst := some 3, op := Go.Op.move (Go.Operand.tmp 0), type := 36, pos := "session.go:120", after := #[], guard := none }) (v := .pointer (some ⟨sb, 0, none⟩)) rfl (by kernel_rfl) (by kernel_rfl) (by kernel_rfl) (fun _ _ _ h => h) (Or.inl ⟨by kernel_rfl, by intro wq hSw; (try dsimp only at hSw); clear hHeld; go_simp⟩) hHeld ?_
  simp only [Act.put, List.setIfInBounds_toArray, List.set_cons_zero, List.set_cons_succ]
  refine wpAnyH_take (i := 1) (oi := { dst := some 4, op := Go.Op.nilCheck (Go.Operand.tmp 3), type := 0, pos := "session.go:120", after := #[{ on := 0, ground := Go.Ground.data }], guard := none }) (v := .pointer (some ⟨sb, 0, none⟩)) rfl (by kernel_rfl) (by kernel_rfl) (by kernel_rfl) (fun _ _ _ h => h) (Or.inl ⟨by kernel_rfl, by intro wq hSw; (try dsimp only at hSw); clear hHeld; go_simp⟩) hHeld ?_
  simp only [Act.put, List.setIfInBounds_toArray, List.set_cons_zero, List.set_cons_succ]
  refine wpAnyH_take (i := 2) (oi := { dst := some 5, op := Go.Op.fieldAddr 56 (Go.Operand.tmp 4) 1, type := 0, pos := "session.go:120", after := #[{ on := 1, ground := Go.Ground.data }], guard := none }) (v := .pointer (some ⟨sb, 1, none⟩)) rfl (by kernel_rfl) (by kernel_rfl) (by kernel_rfl) (fun _ _ _ h => h) (Or.inl ⟨by kernel_rfl, by intro wq hSw; (try dsimp only at hSw); clear hHeld; go_simp⟩) hHeld ?_
  simp only [Act.put, List.setIfInBounds_toArray, List.set_cons_zero, List.set_cons_succ]
  refine wpAnyH_take (i := 3) (oi := { dst := some 6, op := Go.Op.load 9 (Go.Operand.tmp 5), type := 9, pos := "session.go:120", after := #[{ on := 2, ground := Go.Ground.data }], guard := none }) (v := .string k) rfl (by kernel_rfl) (by kernel_rfl) (by kernel_rfl) (fun _ _ _ h => h) (Or.inl ⟨by kernel_rfl, by intro wq hSw; (try dsimp only at hSw); clear hHeld; go_simp⟩) hHeld ?_
  simp only [Act.put, List.setIfInBounds_toArray, List.set_cons_zero, List.set_cons_succ]
  refine wpAnyH_take (i := 4) (oi := { dst := some 7, op := Go.Op.move (Go.Operand.tmp 0), type := 36, pos := "session.go:120", after := #[], guard := none }) (v := .pointer (some ⟨sb, 0, none⟩)) rfl (by kernel_rfl) (by kernel_rfl) (by kernel_rfl) (fun _ _ _ h => h) (Or.inl ⟨by kernel_rfl, by intro wq hSw; (try dsimp only at hSw); clear hHeld; go_simp⟩) hHeld ?_
  simp only [Act.put, List.setIfInBounds_toArray, List.set_cons_zero, List.set_cons_succ]
  refine wpAnyH_take (i := 6) (oi := { dst := some 9, op := Go.Op.move (Go.Operand.tmp 0), type := 36, pos := "session.go:120", after := #[], guard := none }) (v := .pointer (some ⟨sb, 0, none⟩)) rfl (by kernel_rfl) (by kernel_rfl) (by kernel_rfl) (fun _ _ _ h => h) (Or.inl ⟨by kernel_rfl, by intro wq hSw; (try dsimp only at hSw); clear hHeld; go_simp⟩) hHeld ?_
  simp only [Act.put, List.setIfInBounds_toArray, List.set_cons_zero, List.set_cons_succ]
  refine wpAnyH_take (i := 7) (oi := { dst := some 10, op := Go.Op.nilCheck (Go.Operand.tmp 9), type := 0, pos := "session.go:120", after := #[{ on := 6, ground := Go.Ground.data }], guard := none }) (v := .pointer (some ⟨sb, 0, none⟩)) rfl (by kernel_rfl) (by kernel_rfl) (by kernel_rfl) (fun _ _ _ h => h) (Or.inl ⟨by kernel_rfl, by intro wq hSw; (try dsimp only at hSw); clear hHeld; go_simp⟩) hHeld ?_
  simp only [Act.put, List.setIfInBounds_toArray, List.set_cons_zero, List.set_cons_succ]
  refine wpAnyH_take (i := 8) (oi := { dst := some 11, op := Go.Op.fieldAddr 56 (Go.Operand.tmp 10) 0, type := 0, pos := "session.go:120", after := #[{ on := 7, ground := Go.Ground.data }], guard := none }) (v := .pointer (some ⟨sb, 0, none⟩)) rfl (by kernel_rfl) (by kernel_rfl) (by kernel_rfl) (fun _ _ _ h => h) (Or.inl ⟨by kernel_rfl, by intro wq hSw; (try dsimp only at hSw); clear hHeld; go_simp⟩) hHeld ?_
  simp only [Act.put, List.setIfInBounds_toArray, List.set_cons_zero, List.set_cons_succ]
  refine wpAnyH_take (i := 9) (oi := { dst := some 12, op := Go.Op.load 52 (Go.Operand.tmp 11), type := 52, pos := "session.go:120", after := #[{ on := 8, ground := Go.Ground.data }], guard := none }) (v := .pointer (some ⟨wb, 0, none⟩)) rfl (by kernel_rfl) (by kernel_rfl) (by kernel_rfl) (fun _ _ _ h => h) (Or.inl ⟨by kernel_rfl, by intro wq hSw; (try dsimp only at hSw); clear hHeld; go_simp⟩) hHeld ?_
  simp only [Act.put, List.setIfInBounds_toArray, List.set_cons_zero, List.set_cons_succ]
  refine wpAnyH_take (i := 11) (oi := { dst := some 14, op := Go.Op.move (Go.Operand.tmp 0), type := 36, pos := "session.go:120", after := #[], guard := none }) (v := .pointer (some ⟨sb, 0, none⟩)) rfl (by kernel_rfl) (by kernel_rfl) (by kernel_rfl) (fun _ _ _ h => h) (Or.inl ⟨by kernel_rfl, by intro wq hSw; (try dsimp only at hSw); clear hHeld; go_simp⟩) hHeld ?_
  simp only [Act.put, List.setIfInBounds_toArray, List.set_cons_zero, List.set_cons_succ]
  refine wpAnyH_take (i := 12) (oi := { dst := some 15, op := Go.Op.nilCheck (Go.Operand.tmp 14), type := 0, pos := "session.go:120", after := #[{ on := 11, ground := Go.Ground.data }], guard := none }) (v := .pointer (some ⟨sb, 0, none⟩)) rfl (by kernel_rfl) (by kernel_rfl) (by kernel_rfl) (fun _ _ _ h => h) (Or.inl ⟨by kernel_rfl, by intro wq hSw; (try dsimp only at hSw); clear hHeld; go_simp⟩) hHeld ?_
  simp only [Act.put, List.setIfInBounds_toArray, List.set_cons_zero, List.set_cons_succ]
  refine wpAnyH_take (i := 13) (oi := { dst := some 16, op := Go.Op.fieldAddr 56 (Go.Operand.tmp 15) 5, type := 0, pos := "session.go:120", after := #[{ on := 12, ground := Go.Ground.data }], guard := none }) (v := .pointer (some ⟨sb, 5, none⟩)) rfl (by kernel_rfl) (by kernel_rfl) (by kernel_rfl) (fun _ _ _ h => h) (Or.inl ⟨by kernel_rfl, by intro wq hSw; (try dsimp only at hSw); clear hHeld; go_simp⟩) hHeld ?_
  simp only [Act.put, List.setIfInBounds_toArray, List.set_cons_zero, List.set_cons_succ]
  refine wpAnyH_take (i := 14) (oi := { dst := some 17, op := Go.Op.load 54 (Go.Operand.tmp 16), type := 54, pos := "session.go:120", after := #[{ on := 13, ground := Go.Ground.data }], guard := none }) (v := .map nb) rfl (by kernel_rfl) (by kernel_rfl) (by kernel_rfl) (fun _ _ _ h => h) (Or.inl ⟨by kernel_rfl, by intro wq hSw; (try dsimp only at hSw); clear hHeld; go_simp⟩) hHeld ?_
  simp only [Act.put, List.setIfInBounds_toArray, List.set_cons_zero, List.set_cons_succ]
  refine wpAnyH_ready (rs := [5]) (by kernel_rfl) (by simp) ?_
  refine AllReadyH.cons (o := { dst := some 8, op := Go.Op.call { callee := Go.Callee.value (Go.Operand.func 29), args := #[Go.Operand.tmp 7], argTypes := #[36] }, type := 27, pos := "session.go:122", after := #[{ on := 4, ground := Go.Ground.data }], guard := none }) (by rfl) (fun K hK => ?_) AllReadyH.nil
  go_simp
  go_wp2_with (go_at_call 29; refine (SU.out _ H.out.2.drew).mono ?_; rintro e w2 ⟨vs, LS, rfl, ho2, hS2, hb2⟩)
  obtain ⟨sa, sc, rfl⟩ := own_sl ho2
  have HO2 := hidi (And.intro ho2 hS2)
  have HB2 := hidi (H.out.2.drew.trans (hb2.mono H.out.2.drew.size))
  have HX2 := hidi (later_at (w := w1.drew) H.out.1 hb2)
  clear a0 a1 a5 hb2 hHeld SU ho2 hS2
  obtain ⟨a0, a1, a5⟩ := KB.out _ HB2.out
  refine hK.out _ _ ⟨a0, a1, a5⟩ (fun hHeld => ?_)
  clear hK K
  (try simp only [Act.put, List.setIfInBounds_toArray, List.set_cons_zero, List.set_cons_succ])
  refine wpAnyH_ready (rs := [10]) (by kernel_rfl) (by simp) ?_
  refine AllReadyH.cons (o := { dst := some 13, op := Go.Op.call { callee := Go.Callee.value (Go.Operand.func 35), args := #[Go.Operand.tmp 12], argTypes := #[52] }, type := 31, pos := "session.go:123", after := #[{ on := 9, ground := Go.Ground.data }, { on := 5, ground := Go.Ground.chain }], guard := none }) (by rfl) (fun K hK => ?_) AllReadyH.nil
  go_simp
  go_wp2_with (go_at_call 35; refine (IM.out _ HB2.out).mono ?_; rintro e w3 ⟨vf, vq, rfl, hI, hb3⟩)
  have HB3 := hidi (HB2.out.trans (hb3.mono HB2.out.size))
  have HX3 := hidi (later_at HX2.out hb3)
  have HO3 := hidi (own_below HO2.out.1 hb3)
  have HG3 := hidi (fun g hg => Nat.lt_of_lt_of_le (Array.getElem?_eq_some_iff.1 HX2.out).1 (imp_ge hI g hg))
  obtain ⟨Lf, Lm, hIm⟩ := hI.imo
  obtain ⟨fa, fc, rfl⟩ := own_sl hIm.fl
  obtain ⟨qa, qc, hqq⟩ := own_sl hIm.qu
  subst hqq
  have HI3 := hidi hIm
  rw [← HL.out]
  clear a0 a1 a5 hb3 hI hIm hHeld IM
  obtain ⟨a0, a1, a5⟩ := KB.out _ HB3.out
  refine hK.out _ _ ⟨a0, a1, a5⟩ (fun hHeld => ?_)
  clear hK K
  (try simp only [Act.put, List.setIfInBounds_toArray, List.set_cons_zero, List.set_cons_succ])
  refine wpAnyH_ready (rs := [15]) (by kernel_rfl) (by simp) ?_
  refine AllReadyH.cons (o := { dst := some 18, op := Go.Op.call { callee := Go.Callee.value (Go.Operand.func 37), args := #[Go.Operand.tmp 17], argTypes := #[54] }, type := 86, pos := "session.go:124", after := #[{ on := 14, ground := Go.Ground.data }, { on := 10, ground := Go.Ground.chain }], guard := none }) (by rfl) (fun K hK => ?_) AllReadyH.nil
  go_simp
  go_wp2_with (go_at_call 37; refine (keysI_b _ _).mono ?_; rintro e w4 ⟨rfl, x4, b4⟩)
  have HB4 := hidi (HB3.out.trans (b4.mono HB3.out.size))
  have HX4 := hidi (later_at HX3.out b4)
  have HO4 := hidi (own_below HO3.out b4)
  have HI4 := hidi (HI3.out.below b4)
  have KS4 := hidi (IN.out w4 HB4.out w3.heap.size (Array.getElem?_eq_some_iff.1 x4).1 (box_cells x4 0 _ rfl))
  clear a0 a1 a5 x4 b4 hHeld
  obtain ⟨a0, a1, a5⟩ := KB.out _ HB4.out
  refine hK.out _ _ ⟨a0, a1, a5⟩ (fun hHeld => ?_)
  clear hK K
  (try simp only [Act.put, List.setIfInBounds_toArray, List.set_cons_zero, List.set_cons_succ])
  refine wpAnyH_ready (rs := [16]) (by kernel_rfl) (by simp) ?_
  refine AllReadyH.cons (o := { dst := some 19, op := Go.Op.call { callee := Go.Callee.value (Go.Operand.func 36), args := #[Go.Operand.tmp 18], argTypes := #[86] }, type := 32, pos := "session.go:124", after := #[{ on := 15, ground := Go.Ground.data }, { on := 15, ground := Go.Ground.chain }], guard := none }) (by rfl) (fun K hK => ?_) AllReadyH.nil
  go_simp
  go_wp2_with (go_at_call 36; refine (KS4.out).mono ?_; rintro e w5 ⟨vi, LI, rfl, ho5, hS5, hb5⟩)
  obtain ⟨ia, ic, rfl⟩ := own_sl ho5
  have HN5 := hidi (And.intro ho5 hS5)
  have HB5 := hidi (HB4.out.trans (hb5.mono HB4.out.size))
  have HX5 := hidi (later_at HX4.out hb5)
  have HO5 := hidi (own_below HO4.out hb5)
  have HI5 := hidi (HI4.out.below hb5)
  clear a0 a1 a5 hb5 hHeld KS4 ho5 hS5
  obtain ⟨a0, a1, a5⟩ := KB.out _ HB5.out
  refine hK.out _ _ ⟨a0, a1, a5⟩ (fun hHeld => ?_)
  clear hK K
  (try simp only [Act.put, List.setIfInBounds_toArray, List.set_cons_zero, List.set_cons_succ])
  refine wpAnyH_take (i := 17) (oi := { dst := some 20, op := Go.Op.build 34 #[(0, Go.Operand.tmp 6), (1, Go.Operand.tmp 8), (2, Go.Operand.tmp 13), (3, Go.Operand.tmp 19)], type := 34, pos := "session.go:120", after := #[{ on := 3, ground := Go.Ground.data }, { on := 5, ground := Go.Ground.data }, { on := 10, ground := Go.Ground.data }, { on := 16, ground := Go.Ground.data }], guard := none }) (v := .agg #[.string k, .slice sa LS.length sc, .int .i64 ls, .slice fa Lf.length fc, .slice qa Lm.length qc, .slice ia LI.length ic]) rfl (by kernel_rfl) (by kernel_rfl) (by kernel_rfl) (fun _ _ _ h => h) (Or.inl ⟨by kernel_rfl, by intro wq hSw; (try dsimp only at hSw); clear hHeld; go_simp⟩) hHeld ?_
  simp only [Act.put, List.setIfInBounds_toArray, List.set_cons_zero, List.set_cons_succ]
  refine wpAnyH_ready (rs := [18]) (by kernel_rfl) (by simp) ?_
  refine AllReadyH.cons (o := { dst := none, op := Go.Op.store 34 (Go.Operand.tmp 2) (Go.Operand.tmp 20), type := 0, pos := "session.go:120", after := #[{ on := 17, ground := Go.Ground.data }, { on := 16, ground := Go.Ground.chain }, { on := 0, ground := Go.Ground.phase }, { on := 1, ground := Go.Ground.phase }, { on := 2, ground := Go.Ground.phase }, { on := 3, ground := Go.Ground.phase }, { on := 4, ground := Go.Ground.phase }, { on := 5, ground := Go.Ground.phase }, { on := 6, ground := Go.Ground.phase }, { on := 7, ground := Go.Ground.phase }, { on := 8, ground := Go.Ground.phase }, { on := 9, ground := Go.Ground.phase }, { on := 10, ground := Go.Ground.phase }, { on := 11, ground := Go.Ground.phase }, { on := 12, ground := Go.Ground.phase }, { on := 13, ground := Go.Ground.phase }, { on := 14, ground := Go.Ground.phase }, { on := 15, ground := Go.Ground.phase }, { on := 16, ground := Go.Ground.phase }, { on := 17, ground := Go.Ground.phase }], guard := none }) (by rfl) (fun K hK => ?_) AllReadyH.nil
  refine wp_store_row 34 _ _ rfl W.heap.size #[.string k, .slice sa LS.length sc, .int .i64 ls, .slice fa Lf.length fc, .slice qa Lm.length qc, .slice ia LI.length ic] rfl rfl 34 _ HX5.out (by kernel_rfl) rfl (by simp [Value.oneCell']) ?_
  have z5 := setRow_at (cells := #[.string k, .slice sa LS.length sc, .int .i64 ls, .slice fa Lf.length fc, .slice qa Lm.length qc, .slice ia LI.length ic]) HX5.out
  have bz := below_row HB5.out (Nat.le_refl W.heap.size) #[.string k, .slice sa LS.length sc, .int .i64 ls, .slice fa Lf.length fc, .slice qa Lm.length qc, .slice ia LI.length ic]
  have hz := KB.out _ bz
  have cz := ch_row (w := w5) W.heap.size #[.string k, .slice sa LS.length sc, .int .i64 ls, .slice fa Lf.length fc, .slice qa Lm.length qc, .slice ia LI.length ic]
  refine hK.out _ _ hz (fun hHeld => ?_)
  clear hK K
  (try simp only [Act.put, List.setIfInBounds_toArray, List.set_cons_zero, List.set_cons_succ])
  refine wpAnyH_done (by kernel_rfl) ?_ _
  have HZ := hidi (And.intro z5 (And.intro bz cz))
  clear z5 bz cz hz hHeld a0 a1 a5
  go_wp2_with fail
  refine bodyPost_ret (results_cell_row rfl _ _ _ _ _ _ _ rfl HZ.out.1 Tryz.underlying34 rfl (by kernel_rfl)) rfl ⟨_, _, _, _, LS, LI, Lf, Lm, rfl, ?_, HO2.out.2, ?_, ?_, HN5.out.2, HZ.out.2.1⟩
  · exact row_base (own_ch HO5.out HZ.out.2.2 (fun g hg q => by have := row_ge HO5.out hg; have := HS1.out; (try simp at q); omega)) (fun g hg => by have := row_ge HO5.out hg; have := HS1.out; omega)
  · exact HI5.out.ch HZ.out.2.2 (fun g hg q => by have := HG3.out g hg; (try simp at q); omega) (fun b cs fz q => (setRow_ne (fun e => by rw [e, HX5.out] at q; cases q)).trans q)
  · exact row_base (own_ch HN5.out.1 HZ.out.2.2 (fun g hg q => by have := row_ge HN5.out.1 hg; have := (Array.getElem?_eq_some_iff.1 HX4.out).1; (try simp at q); omega)) (fun g hg => by have := row_ge HN5.out.1 hg; have := HB4.out.size; omega)
end
end Go.Proofs.YtmihpmmkkklpfaaGreatDoor
