import Derived.Test.YtphofgnehdlafaaGreatDoorEs
namespace Go.Proofs.YtphofgnehdlafaaGreatDoor
open Go Go.RowKit Go.Sort
open Pkt (Pk Cn Sl In By Is Ss As pkCells Gd box_below Right TT sumN sz fg Small ck wpList_load_wanted mkI parts Rx Mks Spo RoomOk cell_of ne_ty nil28 zeroPk)
set_option linter.unusedSimpArgs false
set_option linter.unusedVariables false
set_option maxRecDepth 100000
set_option maxHeartbeats 4000000
theorem encodes_walk (p : Pk) (c : Cn) (w : World) (hg : Gd w) (hin : In w p c) (hf : Pkt.Fit p c) (hn : Pkt.Nils p) :
    Calls Tryz.prog 4 #[.agg (pkCells p)] w fun e w' => e = .returned (.bool true) ∧ Below w.heap.size w w' := by
  obtain ⟨cs, hcs⟩ : ∃ cs, cs = pkCells p := ⟨_, rfl⟩
  obtain ⟨W, hW⟩ : ∃ W, W = w.alloc (.cells cs 29) := ⟨_, rfl⟩
  have b0 := hidx (box_below hW)
  have g0 := hidx (show W.heap[w.heap.size]? = some (.cells cs 29 (0, 0)) from by rw [hW]; exact heap_alloc_new w _)
  have C20 := hidx (lfew_any p c W (hin.below b0.out) hf)
  have z0 := hidx (show cs.size = 25 from by rw [hcs]; rfl)
  rw [← hcs] at C20 ⊢
  have HC := hidx hcs
  have HG := hidx (hg.below b0.out)
  have HI := hidx (hin.below b0.out)
  have HN := hidx hn
  clear hcs hg hin hf hn
  go_enter Tryz.func4, Tryz.ntmps4
  go_upto_region 1 with fail
  rw [← hW]
  clear hW
  go_wp2_with (refine wpList_load_wanted rfl _ rfl w.heap.size rfl _ (0, 0) g0.out z0.out ?_)
  go_must (go_at_call 20)
  refine C20.out.mono ?_
  clear C20
  rintro e w1 ⟨b, rfl, hb1, hp1⟩
  have x1 := hidx (later_e g0.out hb1)
  have G1 := hidx (HG.out.below hb1)
  have BW := hidx (b0.out.trans (hb1.mono b0.out.size))
  have I1 := hidx (HI.out.below hb1)
  clear hb1
  cases b with
  | false =>
    clear hp1
    go_wp2
    go_ret
    exact ⟨rfl, BW.out⟩
  | true =>
    have HP := hidx (hp1 rfl)
    clear hp1
    obtain ⟨W2, hW2⟩ : ∃ W2, W2 = (w1.alloc (.cells #[.slice none 0 0, .slice none 0 0, .slice none 0 0, .slice none 0 0, .slice none 0 0, .slice none 0 0, .slice none 0 0, .slice none 0 0, .slice none 0 0, .slice none 0 0, .slice none 0 0, .slice none 0 0, .slice none 0 0, .slice none 0 0, .slice none 0 0, .slice none 0 0, .slice none 0 0, .slice none 0 0, .slice none 0 0, .slice none 0 0, .slice none 0 0, .slice none 0 0, .slice none 0 0, .slice none 0 0, .slice none 0 0, .slice none 0 0, .slice none 0 0, .slice none 0 0] 48)).alloc (.cells Bk.bk0 55) := ⟨_, rfl⟩
    have C13 := hidx (show Calls Tryz.prog 13 #[.pointer (some ⟨w1.heap.size, 0, none⟩), .agg cs] W2 fun e w' => ∃ g1 g2 g3 g4 g5 g6 : Nat, e = .returned (.agg (pkCells (Pkt.Pk.laid p g1 g2 g3 g4 g5 g6))) ∧ Below w1.heap.size w1 w' ∧ In w' (Pkt.Pk.laid p g1 g2 g3 g4 g5 g6) c ∧ w'.heap[w1.heap.size + 1]? = some (.cells Bk.bk0 55 (0, 0)) ∧ Rx w' w1.heap.size (w1.heap.size + 1) p g1 g2 g3 g4 g5 g6 ∧ (w1.heap.size ≤ g1 ∧ w1.heap.size ≤ g2 ∧ w1.heap.size ≤ g3 ∧ w1.heap.size ≤ g4 ∧ w1.heap.size ≤ g5 ∧ w1.heap.size ≤ g6) from by
      have e1 : w1.heap.size + 1 = (w1.alloc (.cells nil28 48)).heap.size := by simp
      have bb : Below w1.heap.size w1 (w1.alloc (.cells nil28 48)) := Pkt.below1 _ _
      have bc : Below (w1.alloc (.cells nil28 48)).heap.size (w1.alloc (.cells nil28 48)) W2 := by rw [hW2]; exact Pkt.below1 _ _
      rw [HC.out]
      exact Pkt.packet_laid p c w1 W2 w1.heap.size (w1.heap.size + 1) Bk.bk0 I1.out (small_few HP.out) HN.out (bb.trans (bc.mono bb.size)) (Nat.le_refl _) ((bc.block _ (by omega)).trans (heap_alloc_new w1 _)) (by rw [hW2, e1]; exact heap_alloc_new _ _))
    have g2 := hidx (show W2.heap[w.heap.size]? = some (.cells cs 29 (0, 0)) from by
      have bb : Below w1.heap.size w1 (w1.alloc (.cells nil28 48)) := Pkt.below1 _ _
      have bc : Below (w1.alloc (.cells nil28 48)).heap.size (w1.alloc (.cells nil28 48)) W2 := by rw [hW2]; exact Pkt.below1 _ _
      exact later_e x1.out (bb.trans (bc.mono bb.size)))
    go_wp2_with fail
    refine Bk.wp_build0 rfl ?_
    go_at_K
    go_upto_region 5 with fail
    rw [← hW2]
    clear hW2
    go_wp2_with (refine wpList_load_wanted rfl _ rfl w.heap.size rfl _ (0, 0) g2.out z0.out ?_)
    go_must (go_at_call 13)
    refine C13.out.mono ?_
    clear C13 g2
    rintro e V0 ⟨g1, g2, g3, g4, g5, g6, rfl, h1, h2, h3, h4, h5⟩
    obtain ⟨cl, hcl⟩ : ∃ cl, cl = pkCells (Pkt.Pk.laid p g1 g2 g3 g4 g5 g6) := ⟨_, rfl⟩
    rw [← hcl]
    have zl := hidx (show cl.size = 25 from by rw [hcl]; rfl)
    have ol := hidx (show cl.all (·.oneCell') = true from by rw [hcl]; simp [pkCells, Sl.v, Value.oneCell'])
    have zz := hidx (show zeroPk.size = 25 from rfl)
    have v1 := hidx (show (V0.alloc (.cells #[.int .i64 0, .int .i64 0, .bool false, .int .i64 0, .string ⟨#[]⟩, .bool false, .string ⟨#[]⟩, .slice none 0 0, .int .i64 0, .bool false, .bool false, .string ⟨#[]⟩, .bool false, .slice none 0 0, .bool false, .int .i64 0, .bool false, .string ⟨#[]⟩, .slice none 0 0, .int .i64 0, .bool false, .int .i64 0, .slice none 0 0, .slice none 0 0, .slice none 0 0] 29)).heap[V0.heap.size]? = some (.cells zeroPk 29 (0, 0)) from heap_alloc_new V0 _)
    obtain ⟨V, hV⟩ : ∃ V, V = (V0.alloc (.cells #[.int .i64 0, .int .i64 0, .bool false, .int .i64 0, .string ⟨#[]⟩, .bool false, .string ⟨#[]⟩, .slice none 0 0, .int .i64 0, .bool false, .bool false, .string ⟨#[]⟩, .bool false, .slice none 0 0, .bool false, .int .i64 0, .bool false, .string ⟨#[]⟩, .slice none 0 0, .int .i64 0, .bool false, .int .i64 0, .slice none 0 0, .slice none 0 0, .slice none 0 0] 29)).setRow V0.heap.size cl := ⟨_, rfl⟩
    obtain ⟨s1, s2⟩ := store_below V0 cl
    rw [show (V0.alloc (.cells zeroPk 29)).setRow V0.heap.size cl = V from hV.symm] at s1 s2
    have BL := hidx s2
    have VX := hidx (show Vx w1 V p w1.heap.size (w1.heap.size + 1) g1 g2 g3 g4 g5 g6 from ⟨Rx_below h4 s1, ⟨_, later_e h3 s1⟩, by omega, by rintro k (rfl | rfl | rfl | rfl | rfl | rfl) <;> omega⟩)
    have SX := hidx (VX.out |> fun v => Sx.start v (h1.trans (s1.mono h1.size)) (h2.below s1) (later_e h3 s1))
    have HL := hidx hcl
    clear h1 h2 h3 h4 h5 s1 s2 hcl
    go_upto_region 6 with (refine wpList_store_row rfl 29 _ _ rfl V0.heap.size cl rfl rfl 29 zeroPk v1.out (by rw [zl.out]; kernel_rfl) (by rw [zz.out, zl.out]) ol.out ?_)
    rw [← hV]
    clear hV v1
    -- LOOP
    go_wp2
    go_loopw [6] (fun i wr => ∃ k : Nat, k ≤ 3 ∧ i = .int .i64 k ∧ Sx w1 V wr p c (w1.heap.size + 1) g1 g2 g3 g4 g5 g6 k ∧ ∀ j, Six g1 g2 g3 g4 g5 g6 j → wr.heap[j]? = V.heap[j]?) (fun i _ => 3 - (intOf i).toNat)
    case atStart => exact ⟨0, by omega, rfl, SX.out, fun _ _ => rfl⟩
    case round =>
      obtain ⟨k, hk, rfl, hs, h6⟩ := hrel
      have S0 := hidx hs
      have S6 := hidx h6
      clear hs h6
      have xl := hidx (S0.out.box VX.out BL.out)
      by_cases hlt : k < 3
      · have qi : (k : Int) < 3 := by omega
        have qw : IntKind.i64.wrap ((k : Int) + 1) = ((k + 1 : Nat) : Int) := by rw [IntKind.wrap_i64]; omega
        have xp := hidx ((S0.out.bel.block _ (Pkt.block_lt x1.out)).trans x1.out)
        have C21 := hidx (show ∀ mark : Int, Calls Tryz.prog 21 #[.pointer (some ⟨w1.heap.size + 1, 0, none⟩), .agg cl, .agg cs, .int .i64 mark] wr fun e y => e = .returned (.bool true) ∧ Sx w1 V y p c (w1.heap.size + 1) g1 g2 g3 g4 g5 g6 (k + 1) ∧ ((∀ j, Six g1 g2 g3 g4 g5 g6 j → wr.heap[j]? = V.heap[j]?) → ∀ j, Six g1 g2 g3 g4 g5 g6 j → y.heap[j]? = V.heap[j]?) from fun mark => by rw [HL.out, HC.out]; exact enc_step S0.out VX.out (by omega) G1.out I1.out HN.out (small_few HP.out) (sz_all HP.out) mark)
        go_wp2_with (first | (refine wpList_load_wanted rfl _ rfl V0.heap.size rfl _ (0, 0) xl.out zl.out ?_) | (refine wpList_load_wanted rfl _ rfl w.heap.size rfl _ (0, 0) xp.out z0.out ?_) | fail)
        go_must (go_at_call 21)
        refine (C21.out _).mono ?_
        clear C21
        rintro e y ⟨rfl, hy, hy6⟩
        have Y0 := hidx hy
        have Y6 := hidx (hy6 S6.out)
        clear hy hy6
        have C19 := hidx (hold_step Y0.out VX.out)
        go_wp2_with fail
        go_must (go_at_call 19)
        refine C19.out.mono ?_
        clear C19
        rintro e y' ⟨rfl, hy, hy6⟩
        have Z0 := hidx hy
        have Z6 := hidx (hy6 Y6.out)
        clear hy hy6
        go_wp2
        go_roundw
        case rel => exact ⟨k + 1, by omega, by first | rfl | (rw [qw]) | go_num, Z0.out, Z6.out⟩
        case measure => first | (rw [qw]; simp [intOf]; omega) | (simp [intOf]; omega)
      · obtain rfl : k = 3 := by omega
        clear hk hlt
        have C22 := hidx (show Calls Tryz.prog 22 #[.agg cl] wr fun e y => e = .returned (.tuple #[]) ∧ Sx w1 V y p c.spoilt (w1.heap.size + 1) g1 g2 g3 g4 g5 g6 3 from by rw [HL.out]; exact spoil_step S0.out VX.out (small_few HP.out) S6.out)
        go_wp2_with (refine wpList_load_wanted rfl _ rfl V0.heap.size rfl _ (0, 0) xl.out zl.out ?_)
        go_must (go_at_call 22)
        refine C22.out.mono ?_
        clear C22 xl
        rintro e y ⟨rfl, hy⟩
        have Y := hidx (hy.below VX.out (Below.refl _ _).drew)
        clear hy
        have xl := hidx (show y.heap[V0.heap.size]? = some (.cells cl 29 (0, 0)) from Y.out.box VX.out BL.out)
        have C14 := hidx (show Calls Tryz.prog 14 #[.agg cl] y.drew fun e w' => ∃ v, e = .returned v ∧ ∃ q cq, cq = pkCells q ∧ v = .agg cq ∧ Sx w1 V w' p c.spoilt (w1.heap.size + 1) g1 g2 g3 g4 g5 g6 3 ∧ Cq w' p q c.spoilt g1 g2 g3 g4 g5 g6 from by
          rw [HL.out]
          refine (copy_step Y.out VX.out (small_spo HP.out)).mono ?_
          rintro e w' ⟨q, rfl, h1, h2⟩
          exact ⟨_, rfl, q, _, rfl, rfl, h1, h2⟩)
        go_wp2_with fail
        refine wp_region_held_drew (S := fun w' => Hid (w'.heap[V0.heap.size]? = some (.cells cl 29 (0, 0)))) (by kernel_rfl) (show Hid _ from xl.out) (fun hHeld => ?_)
        refine wpAnyH_take (i := 0) (oi := { dst := some 35, op := Go.Op.move (Go.Operand.tmp 4), type := 49, pos := "exact.go:63", after := #[], guard := none }) (v := .pointer (some ⟨w1.heap.size + 1, 0, none⟩)) rfl (by kernel_rfl) (by kernel_rfl) (by kernel_rfl) (fun _ _ _ h => h) (Or.inl ⟨by kernel_rfl, by intro wq hSw; clear hSw hHeld; go_simp⟩) hHeld ?_
        simp only [Act.put, List.setIfInBounds_toArray, List.set_cons_zero, List.set_cons_succ]
        refine wpAnyH_take (i := 1) (oi := { dst := some 36, op := Go.Op.load 29 (Go.Operand.tmp 5), type := 29, pos := "exact.go:63", after := #[], guard := none }) (v := .agg cl) rfl (by kernel_rfl) (by kernel_rfl) (by kernel_rfl) (fun _ _ _ h => h) (Or.inl ⟨by kernel_rfl, fun wq hSw => yields_load29 rfl (by rfl) (Hid.out hSw) zl.out⟩) hHeld ?_
        simp only [Act.put, List.setIfInBounds_toArray, List.set_cons_zero, List.set_cons_succ]
        refine wpAnyH_take (i := 2) (oi := { dst := some 37, op := Go.Op.load 29 (Go.Operand.tmp 5), type := 29, pos := "exact.go:63", after := #[], guard := none }) (v := .agg cl) rfl (by kernel_rfl) (by kernel_rfl) (by kernel_rfl) (fun _ _ _ h => h) (Or.inl ⟨by kernel_rfl, fun wq hSw => yields_load29 rfl (by rfl) (Hid.out hSw) zl.out⟩) hHeld ?_
        simp only [Act.put, List.setIfInBounds_toArray, List.set_cons_zero, List.set_cons_succ]
        refine wpAnyH_ready (rs := [3]) (by kernel_rfl) (by simp) ?_
        refine AllReadyH.cons (o := { dst := some 38, op := Go.Op.call { callee := Go.Callee.value (Go.Operand.func 14), args := #[Go.Operand.tmp 37], argTypes := #[29] }, type := 29, pos := "exact.go:63", after := #[{ on := 2, ground := Go.Ground.data }], guard := none }) (by rfl) (fun K hK => ?_) AllReadyH.nil
        refine held_call (by kernel_rfl) 14 #[.agg cl] (by clear hHeld hK; go_simp) (R := fun x w' => ∃ q cq, cq = pkCells q ∧ x = .agg cq ∧ Sx w1 V w' p c.spoilt (w1.heap.size + 1) g1 g2 g3 g4 g5 g6 3 ∧ Cq w' p q c.spoilt g1 g2 g3 g4 g5 g6) (C14.out) ?_
        rintro _ y1 ⟨q, cq, hcq, rfl, hs1, hq1⟩
        have C21 := hidx (show Calls Tryz.prog 21 #[.pointer (some ⟨w1.heap.size + 1, 0, none⟩), .agg cl, .agg cq, .int .i64 2000] y1 fun e w' => ∃ v, e = .returned v ∧ v = .bool true ∧ Sx w1 V w' p c.spoilt (w1.heap.size + 1) g1 g2 g3 g4 g5 g6 4 from by rw [HL.out, hcq]; refine (enc_last hs1 VX.out (by omega) G1.out hq1 (small_spo HP.out) (sz_spo HP.out) 2000).mono ?_; rintro e w' ⟨rfl, h1⟩; exact ⟨_, rfl, rfl, h1⟩)
        have xm := hidx (hs1.box VX.out BL.out)
        clear hcq hs1 hq1 C14 xl
        refine hK.out _ _ (show Hid _ from xm.out) (fun hHeld => ?_)
        clear hK K
        (try simp only [Act.put, List.setIfInBounds_toArray, List.set_cons_zero, List.set_cons_succ])
        refine wpAnyH_ready (rs := [4]) (by kernel_rfl) (by simp) ?_
        refine AllReadyH.cons (o := { dst := some 39, op := Go.Op.call { callee := Go.Callee.value (Go.Operand.func 21), args := #[Go.Operand.tmp 35, Go.Operand.tmp 36, Go.Operand.tmp 38, Go.Operand.const (Go.Value.int Go.IntKind.i64 2000)], argTypes := #[49, 29, 29, 3] }, type := 4, pos := "exact.go:63", after := #[{ on := 0, ground := Go.Ground.data }, { on := 1, ground := Go.Ground.data }, { on := 3, ground := Go.Ground.data }, { on := 3, ground := Go.Ground.chain }], guard := none }) (by rfl) (fun K hK => ?_) AllReadyH.nil
        refine held_call (by kernel_rfl) 21 #[.pointer (some ⟨w1.heap.size + 1, 0, none⟩), .agg cl, .agg cq, .int .i64 2000] (by clear hHeld hK; go_simp) (R := fun x w' => x = .bool true ∧ Sx w1 V w' p c.spoilt (w1.heap.size + 1) g1 g2 g3 g4 g5 g6 4) (C21.out) ?_
        rintro _ y2 ⟨rfl, hs2⟩
        have C17 := hidx (show Calls Tryz.prog 17 #[.pointer (some ⟨w1.heap.size + 1, 0, none⟩)] y2 fun e w' => ∃ v, e = .returned v ∧ v = .bool true ∧ Sx w1 V w' p c.spoilt (w1.heap.size + 1) g1 g2 g3 g4 g5 g6 4 from (book_hold hs2 VX.out (by omega)).mono fun e w' ⟨h1, h2⟩ => ⟨_, h1, rfl, h2⟩)
        have xn := hidx (hs2.box VX.out BL.out)
        clear hs2 C21 xm
        refine hK.out _ _ (show Hid _ from xn.out) (fun hHeld => ?_)
        clear hK K
        (try simp only [Act.put, List.setIfInBounds_toArray, List.set_cons_zero, List.set_cons_succ])
        refine wpAnyH_take (i := 5) (oi := { dst := some 40, op := Go.Op.move (Go.Operand.tmp 39), type := 4, pos := "exact.go:63", after := #[{ on := 4, ground := Go.Ground.data }, { on := 4, ground := Go.Ground.chain }], guard := none }) (v := .bool true) rfl (by kernel_rfl) (by kernel_rfl) (by kernel_rfl) (fun _ _ _ h => h) (Or.inl ⟨by kernel_rfl, by intro wq hSw; clear hSw hHeld; go_simp⟩) hHeld ?_
        simp only [Act.put, List.setIfInBounds_toArray, List.set_cons_zero, List.set_cons_succ]
        refine wpAnyH_take (i := 6) (oi := { dst := some 41, op := Go.Op.move (Go.Operand.tmp 4), type := 49, pos := "exact.go:63", after := #[{ on := 5, ground := Go.Ground.guard }], guard := some (5, true) }) (v := .pointer (some ⟨w1.heap.size + 1, 0, none⟩)) rfl (by kernel_rfl) (by kernel_rfl) (by kernel_rfl) (fun _ _ _ h => h) (Or.inl ⟨by kernel_rfl, by intro wq hSw; clear hSw hHeld; go_simp⟩) hHeld ?_
        simp only [Act.put, List.setIfInBounds_toArray, List.set_cons_zero, List.set_cons_succ]
        refine wpAnyH_ready (rs := [7]) (by kernel_rfl) (by simp) ?_
        refine AllReadyH.cons (o := { dst := some 42, op := Go.Op.call { callee := Go.Callee.value (Go.Operand.func 17), args := #[Go.Operand.tmp 41], argTypes := #[49] }, type := 4, pos := "exact.go:63", after := #[{ on := 6, ground := Go.Ground.data }, { on := 5, ground := Go.Ground.chain }, { on := 5, ground := Go.Ground.guard }], guard := some (5, true) }) (by rfl) (fun K hK => ?_) AllReadyH.nil
        refine held_call (by kernel_rfl) 17 #[.pointer (some ⟨w1.heap.size + 1, 0, none⟩)] (by clear hHeld hK; go_simp) (R := fun x w' => x = .bool true ∧ Sx w1 V w' p c.spoilt (w1.heap.size + 1) g1 g2 g3 g4 g5 g6 4) (C17.out) ?_
        rintro _ y3 ⟨rfl, hs3⟩
        have C19 := hidx (show Calls Tryz.prog 19 #[.pointer (some ⟨w1.heap.size, 0, none⟩)] y3 fun e w' => ∃ v, e = .returned v ∧ v = .bool true ∧ Sx w1 V w' p c.spoilt (w1.heap.size + 1) g1 g2 g3 g4 g5 g6 4 from (hold_step hs3 VX.out).mono fun e w' ⟨h1, h2, _⟩ => ⟨_, h1, rfl, h2⟩)
        have xo := hidx (hs3.box VX.out BL.out)
        clear hs3 C17 xn
        refine hK.out _ _ (show Hid _ from xo.out) (fun hHeld => ?_)
        clear hK K
        (try simp only [Act.put, List.setIfInBounds_toArray, List.set_cons_zero, List.set_cons_succ])
        refine wpAnyH_take (i := 8) (oi := { dst := some 43, op := Go.Op.pick (Go.Operand.tmp 40) (Go.Operand.tmp 42) (Go.Operand.const (Go.Value.bool false)), type := 4, pos := "exact.go:63", after := #[{ on := 5, ground := Go.Ground.data }, { on := 7, ground := Go.Ground.data }], guard := none }) (v := .bool true) rfl (by kernel_rfl) (by kernel_rfl) (by kernel_rfl) (fun _ _ _ h => h) (Or.inl ⟨by kernel_rfl, by intro wq hSw; clear hSw hHeld; go_simp⟩) hHeld ?_
        simp only [Act.put, List.setIfInBounds_toArray, List.set_cons_zero, List.set_cons_succ]
        refine wpAnyH_take (i := 9) (oi := { dst := some 44, op := Go.Op.move (Go.Operand.tmp 43), type := 4, pos := "exact.go:63", after := #[{ on := 8, ground := Go.Ground.data }, { on := 7, ground := Go.Ground.chain }], guard := none }) (v := .bool true) rfl (by kernel_rfl) (by kernel_rfl) (by kernel_rfl) (fun _ _ _ h => h) (Or.inl ⟨by kernel_rfl, by intro wq hSw; clear hSw hHeld; go_simp⟩) hHeld ?_
        simp only [Act.put, List.setIfInBounds_toArray, List.set_cons_zero, List.set_cons_succ]
        refine wpAnyH_take (i := 10) (oi := { dst := some 45, op := Go.Op.move (Go.Operand.tmp 3), type := 32, pos := "exact.go:63", after := #[{ on := 9, ground := Go.Ground.guard }], guard := some (9, true) }) (v := .pointer (some ⟨w1.heap.size, 0, none⟩)) rfl (by kernel_rfl) (by kernel_rfl) (by kernel_rfl) (fun _ _ _ h => h) (Or.inl ⟨by kernel_rfl, by intro wq hSw; clear hSw hHeld; go_simp⟩) hHeld ?_
        simp only [Act.put, List.setIfInBounds_toArray, List.set_cons_zero, List.set_cons_succ]
        refine wpAnyH_ready (rs := [11]) (by kernel_rfl) (by simp) ?_
        refine AllReadyH.cons (o := { dst := some 46, op := Go.Op.call { callee := Go.Callee.value (Go.Operand.func 19), args := #[Go.Operand.tmp 45], argTypes := #[32] }, type := 4, pos := "exact.go:63", after := #[{ on := 10, ground := Go.Ground.data }, { on := 9, ground := Go.Ground.chain }, { on := 9, ground := Go.Ground.guard }], guard := some (9, true) }) (by rfl) (fun K hK => ?_) AllReadyH.nil
        refine held_call (by kernel_rfl) 19 #[.pointer (some ⟨w1.heap.size, 0, none⟩)] (by clear hHeld hK; go_simp) (R := fun x w' => x = .bool true ∧ Sx w1 V w' p c.spoilt (w1.heap.size + 1) g1 g2 g3 g4 g5 g6 4) (C19.out) ?_
        rintro _ y4 ⟨rfl, hs4⟩
        have xq := hidx (hs4.box VX.out BL.out)
        have BF := hidx (BW.out.trans (hs4.bel.mono BW.out.size))
        clear hs4 C19 xo
        refine hK.out _ _ (show Hid _ from xq.out) (fun hHeld => ?_)
        clear hK K
        (try simp only [Act.put, List.setIfInBounds_toArray, List.set_cons_zero, List.set_cons_succ])
        refine wpAnyH_take (i := 12) (oi := { dst := some 47, op := Go.Op.pick (Go.Operand.tmp 44) (Go.Operand.tmp 46) (Go.Operand.const (Go.Value.bool false)), type := 4, pos := "exact.go:63", after := #[{ on := 9, ground := Go.Ground.data }, { on := 11, ground := Go.Ground.data }], guard := none }) (v := .bool true) rfl (by kernel_rfl) (by kernel_rfl) (by kernel_rfl) (fun _ _ _ h => h) (Or.inl ⟨by kernel_rfl, by intro wq hSw; clear hSw hHeld; go_simp⟩) hHeld ?_
        simp only [Act.put, List.setIfInBounds_toArray, List.set_cons_zero, List.set_cons_succ]
        refine wpAnyH_take (i := 13) (oi := { dst := some 2, op := Go.Op.assign (Go.Operand.tmp 47), type := 4, pos := "exact.go:63", after := #[{ on := 12, ground := Go.Ground.data }, { on := 11, ground := Go.Ground.chain }, { on := 0, ground := Go.Ground.phase }, { on := 1, ground := Go.Ground.phase }, { on := 2, ground := Go.Ground.phase }, { on := 3, ground := Go.Ground.phase }, { on := 4, ground := Go.Ground.phase }, { on := 5, ground := Go.Ground.phase }, { on := 6, ground := Go.Ground.phase }, { on := 7, ground := Go.Ground.phase }, { on := 8, ground := Go.Ground.phase }, { on := 9, ground := Go.Ground.phase }, { on := 10, ground := Go.Ground.phase }, { on := 11, ground := Go.Ground.phase }, { on := 12, ground := Go.Ground.phase }], guard := none }) (v := .bool true) rfl (by kernel_rfl) (by kernel_rfl) (by kernel_rfl) (fun _ _ _ h => h) (Or.inl ⟨by kernel_rfl, by intro wq hSw; clear hSw hHeld; go_simp⟩) hHeld ?_
        simp only [Act.put, List.setIfInBounds_toArray, List.set_cons_zero, List.set_cons_succ]
        refine wpAnyH_done (by kernel_rfl) ?_ _
        clear hHeld
        go_wp2
        go_ret
        exact ⟨rfl, BF.out⟩
end Go.Proofs.YtphofgnehdlafaaGreatDoor
