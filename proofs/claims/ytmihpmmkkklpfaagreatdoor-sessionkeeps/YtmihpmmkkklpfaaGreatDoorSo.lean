import Derived.Test.YtmihpmmkkklpfaaGreatDoorSl
import Derived.Test.YtmihpmmkkklpfaaGreatDoorSb
namespace Go.Proofs.YtmihpmmkkklpfaaGreatDoor
open Go Go.RowKit Go.Shelf Go.Maps Go.Sort
set_option linter.unusedSimpArgs false
set_option linter.unusedVariables false
/-! ### packet.Copy of a message alone -/
theorem info9 : (Tryz.prog.info? 9).map (fun i => (i.zero, i.size, i.bytes)) = some (some (.string ⟨#[]⟩), 1, 16) := by kernel_rfl
theorem renew78_nil (w : World) : Calls Tryz.prog 78 #[.slice none 0 0] w fun e w' => e = .returned (.slice none 0 0) ∧ w' = w := by
  obtain ⟨i0, hi, -⟩ := info_parts info5
  have hr := run_append_owned_none (P := Tryz.prog) w 0 43 43 5 i0 1 Tryz.underlying43 hi (.slice none 0 0) 0 [] (World.ownsRow_nil _ _ _ _)
  go_enter Tryz.func78, Tryz.ntmps78
  go_wp2_with (at_builtin; refine Lib.wpList_append_run w rfl _ _ 43 43 rfl _ _ rfl rfl _ _ hr ?_)
  go_ret
  exact ⟨rfl, rfl⟩
theorem renew79_nil (w : World) : Calls Tryz.prog 79 #[.slice none 0 0] w fun e w' => e = .returned (.slice none 0 0) ∧ w' = w := by
  obtain ⟨i0, hi, -⟩ := info_parts info42
  have hr := run_append_owned_none (P := Tryz.prog) w 0 27 27 42 i0 1 Tryz.underlying27 hi (.slice none 0 0) 0 [] (World.ownsRow_nil _ _ _ _)
  go_enter Tryz.func79, Tryz.ntmps79
  go_wp2_with (at_builtin; refine Lib.wpList_append_run w rfl _ _ 27 27 rfl _ _ rfl rfl _ _ hr ?_)
  go_ret
  exact ⟨rfl, rfl⟩
theorem renew80_nil (w : World) : Calls Tryz.prog 80 #[.slice none 0 0] w fun e w' => e = .returned (.slice none 0 0) ∧ w' = w := by
  obtain ⟨i0, hi, -⟩ := info_parts info3
  have hr := run_append_owned_none (P := Tryz.prog) w 0 32 32 3 i0 1 Tryz.underlying32 hi (.slice none 0 0) 0 [] (World.ownsRow_nil _ _ _ _)
  go_enter Tryz.func80, Tryz.ntmps80
  go_wp2_with (at_builtin; refine Lib.wpList_append_run w rfl _ _ 32 32 rfl _ _ rfl rfl _ _ hr ?_)
  go_ret
  exact ⟨rfl, rfl⟩
theorem renew81_nil (w : World) : Calls Tryz.prog 81 #[.slice none 0 0] w fun e w' => e = .returned (.slice none 0 0) ∧ w' = w := by
  obtain ⟨i0, hi, -⟩ := info_parts info9
  have hr := run_append_owned_none (P := Tryz.prog) w 0 64 64 9 i0 1 Tryz.underlying64 hi (.slice none 0 0) 0 [] (World.ownsRow_nil _ _ _ _)
  go_enter Tryz.func81, Tryz.ntmps81
  go_wp2_with (at_builtin; refine Lib.wpList_append_run w rfl _ _ 64 64 rfl _ _ rfl rfl _ _ hr ?_)
  go_ret
  exact ⟨rfl, rfl⟩
theorem renew78_one {w : World} {a : Addr} {c : Nat} {x : Int} (h : w.cell? (a.add 0) = some (.int .u8 x)) : Calls Tryz.prog 78 #[.slice (some a) 1 c] w fun e w' => ∃ a' c', e = .returned (.slice a' 1 c') ∧ Below w.heap.size w w' := by
  obtain ⟨i0, hi, hz0, hz1, hz2⟩ := info_parts info5
  obtain ⟨v', w', hr, h2, h3, h4, h5⟩ := run_append_own_at (P := Tryz.prog) w w.heap.size 43 43 5 i0 (.int .u8 0) 1 1 Tryz.underlying43 hi hz0 hz1 hz2 rfl (by omega) (.slice none 0 0) 0 [] (World.ownsRow_nil _ _ _ _) a 1 c [.int .u8 x] rfl (fun j u hu => by
    cases j with
    | zero => simp at hu; subst hu; exact h
    | succ j => simp at hu) (by simp [Value.oneCell']) (by unfold maxLen; omega) (by omega) (Nat.le_refl _)
  obtain ⟨a', c', rfl⟩ := own_sl h2
  have hb : Below w.heap.size w w' := ⟨h3.os, h3.tape, h3.output, h3.size, fun j hj => h3.block j hj (by simp [Value.ownBlock])⟩
  clear h h2 h3 h4 h5
  go_enter Tryz.func78, Tryz.ntmps78
  go_wp2_with (at_builtin; refine Lib.wpList_append_run w rfl _ _ 43 43 rfl _ _ rfl rfl _ _ hr ?_)
  go_ret
  exact ⟨a', c', rfl, hb⟩
set_option maxRecDepth 100000 in
set_option maxHeartbeats 4000000 in
theorem copy_pub {W : World} {t : ByteArray} {ad : Addr} {c : Nat} {q : Int} {r : Bool} {x : Int} (h : W.cell? (ad.add 0) = some (.int .u8 x)) : Calls Tryz.prog 50 #[.agg (pkc 3 false t (.slice (some ad) 1 c) q r 0)] W fun e w' => ∃ a' c', e = .returned (.agg (pkc 3 false t (.slice a' 1 c') q r 0)) ∧ Below W.heap.size W w' := by
  obtain ⟨w1, hw1⟩ : ∃ w1, w1 = (W.alloc (.cells #[.int .i64 3, .int .i64 0, .bool false, .int .i64 0, .string ⟨#[]⟩, .bool false, .string ⟨#[]⟩, .slice none 0 0, .int .i64 0, .bool false, .bool false, .string ⟨#[]⟩, .bool false, .slice none 0 0, .bool false, .int .i64 0, .bool false, .string t, .slice (some ad) 1 c, .int .i64 q, .bool r, .int .i64 0, .slice none 0 0, .slice none 0 0, .slice none 0 0] 66)).alloc (.cells #[.int .i64 0, .int .i64 0, .bool false, .int .i64 0, .string ⟨#[]⟩, .bool false, .string ⟨#[]⟩, .slice none 0 0, .int .i64 0, .bool false, .bool false, .string ⟨#[]⟩, .bool false, .slice none 0 0, .bool false, .int .i64 0, .bool false, .string ⟨#[]⟩, .slice none 0 0, .int .i64 0, .bool false, .int .i64 0, .slice none 0 0, .slice none 0 0, .slice none 0 0] 66) := ⟨_, rfl⟩
  have T := two_alloc W (.cells #[.int .i64 3, .int .i64 0, .bool false, .int .i64 0, .string ⟨#[]⟩, .bool false, .string ⟨#[]⟩, .slice none 0 0, .int .i64 0, .bool false, .bool false, .string ⟨#[]⟩, .bool false, .slice none 0 0, .bool false, .int .i64 0, .bool false, .string t, .slice (some ad) 1 c, .int .i64 q, .bool r, .int .i64 0, .slice none 0 0, .slice none 0 0, .slice none 0 0] 66) (.cells #[.int .i64 0, .int .i64 0, .bool false, .int .i64 0, .string ⟨#[]⟩, .bool false, .string ⟨#[]⟩, .slice none 0 0, .int .i64 0, .bool false, .bool false, .string ⟨#[]⟩, .bool false, .slice none 0 0, .bool false, .int .i64 0, .bool false, .string ⟨#[]⟩, .slice none 0 0, .int .i64 0, .bool false, .int .i64 0, .slice none 0 0, .slice none 0 0, .slice none 0 0] 66)
  have b1 := two_below W (.cells #[.int .i64 3, .int .i64 0, .bool false, .int .i64 0, .string ⟨#[]⟩, .bool false, .string ⟨#[]⟩, .slice none 0 0, .int .i64 0, .bool false, .bool false, .string ⟨#[]⟩, .bool false, .slice none 0 0, .bool false, .int .i64 0, .bool false, .string t, .slice (some ad) 1 c, .int .i64 q, .bool r, .int .i64 0, .slice none 0 0, .slice none 0 0, .slice none 0 0] 66) (.cells #[.int .i64 0, .int .i64 0, .bool false, .int .i64 0, .string ⟨#[]⟩, .bool false, .string ⟨#[]⟩, .slice none 0 0, .int .i64 0, .bool false, .bool false, .string ⟨#[]⟩, .bool false, .slice none 0 0, .bool false, .int .i64 0, .bool false, .string ⟨#[]⟩, .slice none 0 0, .int .i64 0, .bool false, .int .i64 0, .slice none 0 0, .slice none 0 0, .slice none 0 0] 66)
  rw [← hw1] at T b1
  have h1 : w1.cell? (ad.add 0) = some (.int .u8 x) := (cell_heap (b1.block _ (World.block_lt_of_cell? _ _ h))).trans h
  have e7 : w1.cell? ⟨W.heap.size, 7, none⟩ = some (.slice none 0 0) := box_cells T.1 7 _ rfl
  have e13 : w1.cell? ⟨W.heap.size, 13, none⟩ = some (.slice none 0 0) := box_cells T.1 13 _ rfl
  have fz := fun k => box_frozen T.1 k
  have fy := fun k => box_frozen T.2.1 k
  have HT := hidi (And.intro T (And.intro b1 h1))
  have R1 := hidi renew78_nil
  have R2 := hidi renew79_nil
  have R3 := hidi renew80_nil
  have R4 := hidi renew81_nil
  unfold pkc
  clear T b1 h1
  go_enter Tryz.func50, Tryz.ntmps50
  go_upto_region 1 with fail
  rw [← hw1]
  clear hw1
  go_upto_region 3 with (go_at_call 78; refine (R1.out _).mono ?_; rintro e w' ⟨rfl, he⟩; obtain rfl := he.symm)
  obtain ⟨w2, hw2⟩ : ∃ w2, w2 = (w1.setCell ⟨W.heap.size, 7, none⟩ (.slice none 0 0)).setCell ⟨W.heap.size, 13, none⟩ (.slice none 0 0) := ⟨_, rfl⟩
  rw [← hw2]
  have p2 : w2.heap[W.heap.size]? = some (.cells #[.int .i64 3, .int .i64 0, .bool false, .int .i64 0, .string ⟨#[]⟩, .bool false, .string ⟨#[]⟩, .slice none 0 0, .int .i64 0, .bool false, .bool false, .string ⟨#[]⟩, .bool false, .slice none 0 0, .bool false, .int .i64 0, .bool false, .string t, .slice (some ad) 1 c, .int .i64 q, .bool r, .int .i64 0, .slice none 0 0, .slice none 0 0, .slice none 0 0] 66 (0, 0)) := by rw [hw2, heap_set (heap_set HT.out.1.1 _) _]; rfl
  have y2 : w2.heap[W.heap.size + 1]? = some (.cells #[.int .i64 0, .int .i64 0, .bool false, .int .i64 0, .string ⟨#[]⟩, .bool false, .string ⟨#[]⟩, .slice none 0 0, .int .i64 0, .bool false, .bool false, .string ⟨#[]⟩, .bool false, .slice none 0 0, .bool false, .int .i64 0, .bool false, .string ⟨#[]⟩, .slice none 0 0, .int .i64 0, .bool false, .int .i64 0, .slice none 0 0, .slice none 0 0, .slice none 0 0] 66 (0, 0)) := by rw [hw2, heap_set_ne _ (by omega), heap_set_ne _ (by omega)]; exact HT.out.1.2.1
  have b2 : Below W.heap.size W w2 := by rw [hw2]; exact (HT.out.2.1.setCell (Nat.le_refl _) _).setCell (Nat.le_refl _) _
  have h2 : w2.cell? (ad.add 0) = some (.int .u8 x) := by
    have hl := World.block_lt_of_cell? _ _ h
    exact (cell_heap (b2.block _ hl)).trans h
  clear hw2 e7 e13 fz fy
  have e18 : w2.cell? ⟨W.heap.size, 18, none⟩ = some (.slice (some ad) 1 c) := box_cells p2 18 _ rfl
  have H2 := hidi (And.intro p2 (And.intro y2 b2))
  have RP := hidi (renew78_one (c := c) h2)
  clear p2 y2 b2 h2 h
  as_aux_lemma =>
  go_wp2_with fail
  go_must (go_at_call 78)
  refine RP.out.mono ?_
  clear RP e18
  rintro e w3 ⟨a', c', rfl, hb3⟩
  have p3 := later_at H2.out.1 hb3
  have f3 := box_frozen p3 18
  have g3 : w3.cell? ⟨W.heap.size, 18, none⟩ = some (.slice (some ad) 1 c) := box_cells p3 18 _ rfl
  have H3 := hidi (And.intro p3 (And.intro (later_at H2.out.2.1 hb3) (H2.out.2.2.trans (hb3.mono H2.out.2.2.size))))
  clear p3 hb3
  go_upto_region 4 with fail
  obtain ⟨w4, hw4⟩ : ∃ w4, w4 = w3.setCell ⟨W.heap.size, 18, none⟩ (.slice a' 1 c') := ⟨_, rfl⟩
  rw [← hw4]
  have p4 : w4.heap[W.heap.size]? = some (.cells #[.int .i64 3, .int .i64 0, .bool false, .int .i64 0, .string ⟨#[]⟩, .bool false, .string ⟨#[]⟩, .slice none 0 0, .int .i64 0, .bool false, .bool false, .string ⟨#[]⟩, .bool false, .slice none 0 0, .bool false, .int .i64 0, .bool false, .string t, .slice a' 1 c', .int .i64 q, .bool r, .int .i64 0, .slice none 0 0, .slice none 0 0, .slice none 0 0] 66 (0, 0)) := by rw [hw4, heap_set H3.out.1 _]; rfl
  have y4 : w4.heap[W.heap.size + 1]? = some (.cells #[.int .i64 0, .int .i64 0, .bool false, .int .i64 0, .string ⟨#[]⟩, .bool false, .string ⟨#[]⟩, .slice none 0 0, .int .i64 0, .bool false, .bool false, .string ⟨#[]⟩, .bool false, .slice none 0 0, .bool false, .int .i64 0, .bool false, .string ⟨#[]⟩, .slice none 0 0, .int .i64 0, .bool false, .int .i64 0, .slice none 0 0, .slice none 0 0, .slice none 0 0] 66 (0, 0)) := by rw [hw4, heap_set_ne _ (by omega)]; exact H3.out.2.1
  have b4 : Below W.heap.size W w4 := by rw [hw4]; exact H3.out.2.2.setCell (Nat.le_refl _) _
  clear hw4 f3 g3
  as_aux_lemma =>
  have e22 : w4.cell? ⟨W.heap.size, 22, none⟩ = some (.slice none 0 0) := box_cells p4 22 _ rfl
  have e23 : w4.cell? ⟨W.heap.size, 23, none⟩ = some (.slice none 0 0) := box_cells p4 23 _ rfl
  have e24 : w4.cell? ⟨W.heap.size, 24, none⟩ = some (.slice none 0 0) := box_cells p4 24 _ rfl
  have fz := fun k => box_frozen p4 k
  go_upto_region 7 with (first | (go_at_call 79; refine (R2.out _).mono ?_; rintro e w' ⟨rfl, he⟩; obtain rfl := he.symm) | (go_at_call 80; refine (R3.out _).mono ?_; rintro e w' ⟨rfl, he⟩; obtain rfl := he.symm) | (go_at_call 81; refine (R4.out _).mono ?_; rintro e w' ⟨rfl, he⟩; obtain rfl := he.symm))
  obtain ⟨w5, hw5⟩ : ∃ w5, w5 = ((w4.setCell ⟨W.heap.size, 22, none⟩ (.slice none 0 0)).setCell ⟨W.heap.size, 23, none⟩ (.slice none 0 0)).setCell ⟨W.heap.size, 24, none⟩ (.slice none 0 0) := ⟨_, rfl⟩
  rw [← hw5]
  have p5 : w5.heap[W.heap.size]? = some (.cells #[.int .i64 3, .int .i64 0, .bool false, .int .i64 0, .string ⟨#[]⟩, .bool false, .string ⟨#[]⟩, .slice none 0 0, .int .i64 0, .bool false, .bool false, .string ⟨#[]⟩, .bool false, .slice none 0 0, .bool false, .int .i64 0, .bool false, .string t, .slice a' 1 c', .int .i64 q, .bool r, .int .i64 0, .slice none 0 0, .slice none 0 0, .slice none 0 0] 66 (0, 0)) := by rw [hw5, heap_set (heap_set (heap_set p4 _) _) _]; rfl
  have y5 : w5.heap[W.heap.size + 1]? = some (.cells #[.int .i64 0, .int .i64 0, .bool false, .int .i64 0, .string ⟨#[]⟩, .bool false, .string ⟨#[]⟩, .slice none 0 0, .int .i64 0, .bool false, .bool false, .string ⟨#[]⟩, .bool false, .slice none 0 0, .bool false, .int .i64 0, .bool false, .string ⟨#[]⟩, .slice none 0 0, .int .i64 0, .bool false, .int .i64 0, .slice none 0 0, .slice none 0 0, .slice none 0 0] 66 (0, 0)) := by rw [hw5, heap_set_ne _ (by omega), heap_set_ne _ (by omega), heap_set_ne _ (by omega)]; exact y4
  have b5 : Below W.heap.size W w5 := by rw [hw5]; exact ((b4.setCell (Nat.le_refl _) _).setCell (Nat.le_refl _) _).setCell (Nat.le_refl _) _
  clear hw5 e22 e23 e24 fz p4 y4 b4
  have H5 := hidi (And.intro p5 (And.intro y5 b5))
  clear p5 y5 b5 R1 R2 R3 R4 HT H2 H3
  as_aux_lemma =>
  go_wp2_with (first | (refine wpList_load_row rfl 66 _ rfl W.heap.size rfl 66 (pkc 3 false t (.slice a' 1 c') q r 0) _ _ H5.out.1 Tryz.underlying66 rfl pkc_info ?_) | (refine wpList_store_row rfl 66 _ _ rfl (W.heap.size + 1) (pkc 3 false t (.slice a' 1 c') q r 0) rfl rfl 66 _ H5.out.2.1 pkc_info rfl (pkc_one _ _ _ _ _ _ _ _ _) ?_))
  refine bodyPost_ret (results_cell_row rfl _ _ _ _ _ _ _ rfl (setRow_at H5.out.2.1) Tryz.underlying66 rfl (by kernel_rfl)) rfl ⟨a', c', rfl, below_row H5.out.2.2 (by omega) _⟩
end Go.Proofs.YtmihpmmkkklpfaaGreatDoor
