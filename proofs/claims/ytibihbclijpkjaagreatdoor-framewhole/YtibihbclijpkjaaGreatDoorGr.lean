import Derived.Test.YtibihbclijpkjaaGreatDoorGq
import Derived.Test.YtibihbclijpkjaaGreatDoorGh
namespace Go.Proofs.YtibihbclijpkjaaGreatDoor
open Go Go.RowKit Go.Sort
open Pkt (Pk Cn Sl In By Is Ss As pkCells Gd wpList_load_wanted quiet_load box_below Small ck TT sz fg Right ck_right check_any length_any flags_any mkI form)
set_option linter.unusedSimpArgs false
set_option linter.unusedVariables false

set_option maxRecDepth 100000 in
theorem fg_bd {p : Pk} {c : Cn} (r : Right TT p c) : 0 ≤ fg p ∧ fg p ≤ 15 := by
  have q := r.q2
  have k1 := r.k1
  have k2 := r.k2
  have hk : p.kind.toNat = 1 ∨ p.kind.toNat = 2 ∨ p.kind.toNat = 3 ∨ p.kind.toNat = 4 ∨ p.kind.toNat = 5 ∨ p.kind.toNat = 6 ∨ p.kind.toNat = 7 ∨ p.kind.toNat = 8 ∨ p.kind.toNat = 9 ∨ p.kind.toNat = 10 ∨ p.kind.toNat = 11 ∨ p.kind.toNat = 12 ∨ p.kind.toNat = 13 ∨ p.kind.toNat = 14 := by omega
  unfold fg
  generalize p.dup = d
  generalize p.mR = m
  generalize p.mQ = x at q ⊢
  generalize p.kind.toNat = k at hk ⊢
  rcases hk with rfl | rfl | rfl | rfl | rfl | rfl | rfl | rfl | rfl | rfl | rfl | rfl | rfl | rfl <;> rcases q with rfl | rfl | rfl <;> cases d <;> cases m <;> decide +kernel
theorem or_first (k : Fin 15) (f : Fin 16) : bits .or .i64 (16 * (k.val : Int)) (f.val : Int) % 256 = 16 * (k.val : Int) + f.val := by revert k f; decide +kernel

set_option maxRecDepth 100000 in
set_option maxHeartbeats 4000000 in
/-- Encode of what isn't right. -/
theorem encode_wrong (p : Pk) (c : Cn) (w : World) (hg : Gd w) (hin : In w p c) (hs : Small p c) (h0 : ck TT p c ≠ 0) :
    Calls Tryz.prog 11 #[.agg (pkCells p)] w fun e w' => e = .returned (.tuple #[.slice none 0 0, .int .i64 (ck TT p c)]) ∧ Below w.heap.size w w' := by
  obtain ⟨W, hW⟩ : ∃ W, W = w.alloc (.cells (pkCells p) 29) := ⟨_, rfl⟩
  have b0 : Hid (Below w.heap.size w W) := box_below hW
  have g0 : Hid (W.heap[w.heap.size]? = some (.cells (pkCells p) 29)) := by show _ = _; rw [hW]; exact heap_alloc_new w _
  have C10 : Hid (∀ w', Below w.heap.size w w' → Calls Tryz.prog 10 #[.agg (pkCells p)] w' fun e w'' => e = .returned (.int .i64 (ck TT p c)) ∧ Below w'.heap.size w' w'') := fun w' hb => check_any p c w' (hg.below hb) (hin.below hb) hs
  obtain ⟨E, hE⟩ : ∃ E : Nat, E = ck TT p c := ⟨_, rfl⟩
  rw [← hE] at C10 h0 ⊢
  have hne : ¬ (E : Int) = 0 := by omega
  obtain ⟨cs, hcs⟩ : ∃ cs, cs = pkCells p := ⟨_, rfl⟩
  have hsz : Hid (cs.size = 25) := by show _ = _; rw [hcs]; rfl
  rw [← hcs] at C10 g0 hW ⊢
  clear hcs hg hin hs hE
  go_enter Tryz.func11, Tryz.ntmps11
  go_upto_region 1 with fail
  rw [← hW]
  clear hW
  go_wp2_with (first | (refine wpList_load_wanted rfl _ rfl w.heap.size rfl _ (0, 0) g0.out hsz.out ?_) | fail)
  go_must (go_at_call 10)
  refine (C10.out _ b0.out).mono ?_
  rintro e w1 ⟨rfl, hb⟩
  have b1 : Hid (Below w.heap.size w w1) := b0.out.trans (hb.mono b0.out.size)
  clear hb
  go_wp2_with fail
  go_ret2
  exact ⟨rfl, b1.out⟩

set_option maxRecDepth 100000 in
set_option maxHeartbeats 4000000 in
theorem encode_k1 (p : Pk) (c : Cn) (w : World) (N : Nat) (hg : Gd w) (hin : In w p c) (hs : Small p c) (hk : p.kind = 1) (hR : Right TT p c) (hN : sz p c = N) (hN2 : N ≤ 299990) :
    Calls Tryz.prog 11 #[.agg (pkCells p)] w fun e w' => ∃ v, e = .returned (.tuple #[v, .int .i64 0]) ∧ w'.ownsRow w.heap.size 5 1 v (1 + kn N + N) (cellsOf (oneZ (16 * p.kind + fg p)) 1 ++ cellsOf (glZ N) (kn N) ++ fieldsL p c) ∧ v ≠ .slice none 0 0 ∧ Below w.heap.size w w' := by
  have h0 := (ck_right TT p c).2 hR
  obtain ⟨F, hF⟩ : ∃ F, F = fg p := ⟨_, rfl⟩
  have e50 : Hid (bits .or .i64 16 F % 256 = 16 * p.kind + F ∧ 0 ≤ 16 * p.kind + F ∧ 16 * p.kind + F ≤ 255) := by
    have hb := fg_bd hR
    rw [← hF] at hb
    have := or_first ⟨1, by decide⟩ ⟨F.toNat, by omega⟩
    have e2 : ((F.toNat : Nat) : Int) = F := by omega
    simp only at this
    rw [e2] at this
    exact ⟨by rw [hk]; exact this, by omega, by omega⟩
  rw [← hF]
  obtain ⟨t, ht⟩ : ∃ t, t = 16 * p.kind + F := ⟨_, rfl⟩
  rw [← ht] at e50 ⊢
  clear ht
  obtain ⟨W, hW⟩ : ∃ W, W = w.alloc (.cells (pkCells p) 29) := ⟨_, rfl⟩
  have b0 : Hid (Below w.heap.size w W) := box_below hW
  have g0 : Hid (W.heap[w.heap.size]? = some (.cells (pkCells p) 29)) := by show _ = _; rw [hW]; exact heap_alloc_new w _
  have C10 : Hid (∀ w', Below w.heap.size w w' → Calls Tryz.prog 10 #[.agg (pkCells p)] w' fun e w'' => e = .returned (.int .i64 0) ∧ Below w'.heap.size w' w'') := fun w' hb => by
    have := check_any p c w' (hg.below hb) (hin.below hb) hs
    rw [h0] at this; exact this
  have C16 : Hid (∀ w', Below w.heap.size w w' → Calls Tryz.prog 16 #[.agg (pkCells p)] w' fun e w'' => e = .returned (.int .i64 N) ∧ Below w'.heap.size w' w'') := fun w' hb => by
    have := length_any p c w' (hg.below hb) (hin.below hb) hs
    rw [if_pos h0, hN] at this; exact this
  have C40 : Hid (∀ w', Below w.heap.size w w' → Calls Tryz.prog 40 #[.agg (pkCells p)] w' fun e w'' => e = .returned (.int .i64 F) ∧ Below w'.heap.size w' w'') := fun w' hb => by
    have := flags_any p c w' (hg.below hb) (hin.below hb) hs hR
    rw [← hF] at this; exact this
  have C43 : Hid (∀ (w5 w' : World) (v : Value) (n : Nat) (xs : List Value), Below w.heap.size w w5 → w'.ownsRow w5.heap.size 5 1 v n xs → v ≠ .slice none 0 0 → Below w5.heap.size w5 w' → n ≤ 10 → Calls Tryz.prog 43 #[v, .agg (pkCells p)] w' fun e w'' => Adds w5.heap.size v w' w'' e (n + N) (xs ++ fieldsL p c)) := fun w5 w' v n xs hb h1 hv h2 hn => by
    have := wFields_any w5 w' p c v n xs hR (hin.below hb) (by omega) h1 hv h2 hn
    rw [hN] at this; exact this
  obtain ⟨T, hT⟩ : ∃ T, T = fieldsL p c := ⟨_, rfl⟩
  rw [← hT] at C43 ⊢
  obtain ⟨cs, hcs⟩ : ∃ cs, cs = pkCells p := ⟨_, rfl⟩
  have hsz : Hid (cs.size = 25) := by show _ = _; rw [hcs]; rfl
  have hk0 : Hid (cs[0]? = some (.int .i64 1)) := by show _ = _; rw [hcs, ← hk]; rfl
  rw [← hcs] at C10 C16 C40 C43 g0 hW ⊢
  have HN2 : Hid (N ≤ 299990) := hN2
  clear hcs hT hg hin hs hk h0 hF hN hN2 hR
  go_enter Tryz.func11, Tryz.ntmps11
  go_upto_region 1 with fail
  rw [← hW]
  clear hW
  go_wp2_with (first | (refine wpList_load_wanted rfl _ rfl w.heap.size rfl _ (0, 0) g0.out hsz.out ?_) | fail)
  go_must (go_at_call 10)
  refine (C10.out _ b0.out).mono ?_
  rintro e w1 ⟨rfl, hb⟩
  have b1 : Hid (Below w.heap.size w w1) := b0.out.trans (hb.mono b0.out.size)
  have g1 : Hid (w1.heap[w.heap.size]? = some (.cells cs 29)) := (hb.block _ (heap_in g0.out)).trans g0.out
  clear hb
  go_wp2_with (first | (refine wpList_load_wanted rfl _ rfl w.heap.size rfl _ (0, 0) g1.out hsz.out ?_) | fail)
  go_must (go_at_call 16)
  refine (C16.out _ b1.out).mono ?_
  rintro e w2 ⟨rfl, hb⟩
  have b2 : Hid (Below w.heap.size w w2) := b1.out.trans (hb.mono b1.out.size)
  have g2 : Hid (w2.heap[w.heap.size]? = some (.cells cs 29)) := (hb.block _ (heap_in g1.out)).trans g1.out
  clear hb
  go_upto_region 5 with fail
  have k0 : ∀ d os, (grow (redrawn w2 d) os).cell? ⟨w.heap.size, 0, none⟩ = some (.int .i64 1) := fun d os => cell_later (below_regrown w2 d os) (box_cells g2.out 0 _ hk0.out)
  have L1 : Hid (∀ w', (∃ p : Regrown, w' = grow (redrawn w2 p.d) p.os) → (loadVar 29 ⟨w.heap.size, 0, none⟩).run Tryz.prog w' = .ok (.agg cs) w') := by
    rintro _ ⟨pp, rfl⟩
    exact run_loadVar_row _ w.heap.size 29 29 cs (0, 0) _ (((below_regrown w2 pp.d pp.os).block _ (heap_in g2.out)).trans g2.out) Tryz.underlying29 rfl (by rw [hsz.out]; kernel_rfl)
  have D40 : Hid (∀ d os, Calls Tryz.prog 40 #[.agg cs] (grow (redrawn w2 d) os) fun e w'' => e = .returned (.int .i64 F) ∧ Below (grow (redrawn w2 d) os).heap.size (grow (redrawn w2 d) os) w'') := fun d os => C40.out _ (b2.out.trans ((below_regrown w2 d os).mono b2.out.size))
  refine wp_region_quiet_below (by kernel_rfl) (by kernel_rfl) ?_
  repeat (first | (refine quiet_load rfl rfl w.heap.size rfl (.agg cs) L1.out ?_) | quiet_step (first | (go_at_call 40; exact Calls.regrown_of (D40.out _ _))))
  refine wpQuiet_nil ?_
  rintro _ ⟨⟨d, os⟩, rfl⟩
  have b5 : Hid (Below w.heap.size w (grow (redrawn w2 d) os)) := b2.out.trans ((below_regrown w2 d os).mono b2.out.size)
  have g5 : Hid ((grow (redrawn w2 d) os).heap[w.heap.size]? = some (.cells cs 29)) := ((below_regrown w2 d os).block _ (heap_in g2.out)).trans g2.out
  obtain ⟨w5, hw5⟩ : ∃ w5, w5 = grow (redrawn w2 d) os := ⟨_, rfl⟩
  rw [← hw5] at b5 g5 ⊢
  clear hw5 k0 L1 D40
  have e51 := e50.out.1
  have hb5a : Below w5.heap.size w5 (w5.alloc (.cells #[.int .u8 t] 5)) := (Below.refl _ _).alloc (Nat.le_refl _) _
  have C42 : Hid (Calls Tryz.prog 42 #[.slice (some ⟨w5.heap.size, 0, none⟩) 1 1, .int .i64 N] (w5.alloc (.cells #[.int .u8 t] 5)) fun e w' => Made (w5.alloc (.cells #[.int .u8 t] 5)) w' e (1 + kn N) (cellsOf (oneZ t) 1 ++ cellsOf (glZ N) (kn N))) :=
    putLength_in (some ⟨w5.heap.size, 0, none⟩) 1 1 (oneZ t) N (by omega) (by have := HN2.out; omega) _ (new_came w5 1 (oneZ t) _ rfl (fun i => by have := e50.out.2; unfold oneZ; split <;> omega)) (by decide)
  go_wp2_with fail
  go_must (go_at_call 42)
  refine C42.out.mono ?_
  rintro e w6 ⟨g, cp, rfl, ho, hb⟩
  have HO : Hid (w6.ownsRow w5.heap.size 5 1 (.slice (some ⟨g, 0, none⟩) (1 + kn N) cp) (1 + kn N) (cellsOf (oneZ t) 1 ++ cellsOf (glZ N) (kn N))) := own_base ho hb5a.size
  have B6 : Hid (Below w5.heap.size w5 w6) := hb5a.trans (hb.mono hb5a.size)
  have HKN : Hid (1 + kn N ≤ 5) := by show _ ≤ _; have := kn_bd N; omega
  have X6 : Hid (∃ xs, xs = cellsOf (oneZ t) 1 ++ cellsOf (glZ N) (kn N)) := ⟨_, rfl⟩
  obtain ⟨xs, hxs⟩ := X6.out
  rw [← hxs] at HO
  have HXS : Hid (cellsOf (oneZ t) 1 ++ cellsOf (glZ N) (kn N) = xs) := hxs.symm
  clear hb ho hb5a C42 e51 hxs X6
  go_wp2_with fail
  go_must (go_at_call 41)
  refine (grow_own w5.heap.size (1 + kn N) N _ xs w6 HO.out (by simp) B6.out.size (by have := HKN.out; omega) (by have := HN2.out; omega)).mono ?_
  rintro e w7 ⟨v7, rfl, o7, n7, gb7, ow7⟩
  have N7 : Hid (v7 ≠ .slice none 0 0) := n7
  have O7 : Hid (w7.ownsRow w5.heap.size 5 1 v7 (1 + kn N) xs) := o7
  have B7 : Hid (Below w5.heap.size w5 w7) := B6.out.trans (gb_below2 gb7 B6.out.size (fun k e => (HO.out.lt k e).1))
  have g7 : Hid (w7.heap[w.heap.size]? = some (.cells cs 29)) := (B7.out.block _ (heap_in g5.out)).trans g5.out
  clear o7 n7 gb7 ow7
  go_wp2_with (first | (refine wpList_load_wanted rfl _ rfl w.heap.size rfl _ (0, 0) g7.out hsz.out ?_) | fail)
  go_must (go_at_call 43)
  refine (C43.out w5 w7 v7 (1 + kn N) xs b5.out O7.out N7.out B7.out (by have := HKN.out; omega)).mono ?_
  rintro e w8 ⟨v8, rfl, o8, n8, gb8, ow8⟩
  have O8 : Hid (w8.ownsRow w.heap.size 5 1 v8 (1 + kn N + N) (xs ++ T)) := own_base o8 b5.out.size
  have N8 : Hid (v8 ≠ .slice none 0 0) := n8
  have B8 : Hid (Below w.heap.size w w8) := by
    have h1 : Below w5.heap.size w5 w8 := B7.out.trans (gb_below2 gb8 B7.out.size (fun k e => (O7.out.lt k e).1))
    exact b5.out.trans (h1.mono b5.out.size)
  clear o8 n8 gb8 ow8
  go_wp2_with fail
  go_ret2
  exact ⟨v8, rfl, by rw [HXS.out]; exact O8.out, N8.out, B8.out⟩

set_option maxRecDepth 100000 in
set_option maxHeartbeats 4000000 in
theorem encode_k2 (p : Pk) (c : Cn) (w : World) (N : Nat) (hg : Gd w) (hin : In w p c) (hs : Small p c) (hk : p.kind = 2) (hR : Right TT p c) (hN : sz p c = N) (hN2 : N ≤ 299990) :
    Calls Tryz.prog 11 #[.agg (pkCells p)] w fun e w' => ∃ v, e = .returned (.tuple #[v, .int .i64 0]) ∧ w'.ownsRow w.heap.size 5 1 v (1 + kn N + N) (cellsOf (oneZ (16 * p.kind + fg p)) 1 ++ cellsOf (glZ N) (kn N) ++ fieldsL p c) ∧ v ≠ .slice none 0 0 ∧ Below w.heap.size w w' := by
  have h0 := (ck_right TT p c).2 hR
  obtain ⟨F, hF⟩ : ∃ F, F = fg p := ⟨_, rfl⟩
  have e50 : Hid (bits .or .i64 32 F % 256 = 16 * p.kind + F ∧ 0 ≤ 16 * p.kind + F ∧ 16 * p.kind + F ≤ 255) := by
    have hb := fg_bd hR
    rw [← hF] at hb
    have := or_first ⟨2, by decide⟩ ⟨F.toNat, by omega⟩
    have e2 : ((F.toNat : Nat) : Int) = F := by omega
    simp only at this
    rw [e2] at this
    exact ⟨by rw [hk]; exact this, by omega, by omega⟩
  rw [← hF]
  obtain ⟨t, ht⟩ : ∃ t, t = 16 * p.kind + F := ⟨_, rfl⟩
  rw [← ht] at e50 ⊢
  clear ht
  obtain ⟨W, hW⟩ : ∃ W, W = w.alloc (.cells (pkCells p) 29) := ⟨_, rfl⟩
  have b0 : Hid (Below w.heap.size w W) := box_below hW
  have g0 : Hid (W.heap[w.heap.size]? = some (.cells (pkCells p) 29)) := by show _ = _; rw [hW]; exact heap_alloc_new w _
  have C10 : Hid (∀ w', Below w.heap.size w w' → Calls Tryz.prog 10 #[.agg (pkCells p)] w' fun e w'' => e = .returned (.int .i64 0) ∧ Below w'.heap.size w' w'') := fun w' hb => by
    have := check_any p c w' (hg.below hb) (hin.below hb) hs
    rw [h0] at this; exact this
  have C16 : Hid (∀ w', Below w.heap.size w w' → Calls Tryz.prog 16 #[.agg (pkCells p)] w' fun e w'' => e = .returned (.int .i64 N) ∧ Below w'.heap.size w' w'') := fun w' hb => by
    have := length_any p c w' (hg.below hb) (hin.below hb) hs
    rw [if_pos h0, hN] at this; exact this
  have C40 : Hid (∀ w', Below w.heap.size w w' → Calls Tryz.prog 40 #[.agg (pkCells p)] w' fun e w'' => e = .returned (.int .i64 F) ∧ Below w'.heap.size w' w'') := fun w' hb => by
    have := flags_any p c w' (hg.below hb) (hin.below hb) hs hR
    rw [← hF] at this; exact this
  have C43 : Hid (∀ (w5 w' : World) (v : Value) (n : Nat) (xs : List Value), Below w.heap.size w w5 → w'.ownsRow w5.heap.size 5 1 v n xs → v ≠ .slice none 0 0 → Below w5.heap.size w5 w' → n ≤ 10 → Calls Tryz.prog 43 #[v, .agg (pkCells p)] w' fun e w'' => Adds w5.heap.size v w' w'' e (n + N) (xs ++ fieldsL p c)) := fun w5 w' v n xs hb h1 hv h2 hn => by
    have := wFields_any w5 w' p c v n xs hR (hin.below hb) (by omega) h1 hv h2 hn
    rw [hN] at this; exact this
  obtain ⟨T, hT⟩ : ∃ T, T = fieldsL p c := ⟨_, rfl⟩
  rw [← hT] at C43 ⊢
  obtain ⟨cs, hcs⟩ : ∃ cs, cs = pkCells p := ⟨_, rfl⟩
  have hsz : Hid (cs.size = 25) := by show _ = _; rw [hcs]; rfl
  have hk0 : Hid (cs[0]? = some (.int .i64 2)) := by show _ = _; rw [hcs, ← hk]; rfl
  rw [← hcs] at C10 C16 C40 C43 g0 hW ⊢
  have HN2 : Hid (N ≤ 299990) := hN2
  clear hcs hT hg hin hs hk h0 hF hN hN2 hR
  go_enter Tryz.func11, Tryz.ntmps11
  go_upto_region 1 with fail
  rw [← hW]
  clear hW
  go_wp2_with (first | (refine wpList_load_wanted rfl _ rfl w.heap.size rfl _ (0, 0) g0.out hsz.out ?_) | fail)
  go_must (go_at_call 10)
  refine (C10.out _ b0.out).mono ?_
  rintro e w1 ⟨rfl, hb⟩
  have b1 : Hid (Below w.heap.size w w1) := b0.out.trans (hb.mono b0.out.size)
  have g1 : Hid (w1.heap[w.heap.size]? = some (.cells cs 29)) := (hb.block _ (heap_in g0.out)).trans g0.out
  clear hb
  go_wp2_with (first | (refine wpList_load_wanted rfl _ rfl w.heap.size rfl _ (0, 0) g1.out hsz.out ?_) | fail)
  go_must (go_at_call 16)
  refine (C16.out _ b1.out).mono ?_
  rintro e w2 ⟨rfl, hb⟩
  have b2 : Hid (Below w.heap.size w w2) := b1.out.trans (hb.mono b1.out.size)
  have g2 : Hid (w2.heap[w.heap.size]? = some (.cells cs 29)) := (hb.block _ (heap_in g1.out)).trans g1.out
  clear hb
  go_upto_region 5 with fail
  have k0 : ∀ d os, (grow (redrawn w2 d) os).cell? ⟨w.heap.size, 0, none⟩ = some (.int .i64 2) := fun d os => cell_later (below_regrown w2 d os) (box_cells g2.out 0 _ hk0.out)
  have L1 : Hid (∀ w', (∃ p : Regrown, w' = grow (redrawn w2 p.d) p.os) → (loadVar 29 ⟨w.heap.size, 0, none⟩).run Tryz.prog w' = .ok (.agg cs) w') := by
    rintro _ ⟨pp, rfl⟩
    exact run_loadVar_row _ w.heap.size 29 29 cs (0, 0) _ (((below_regrown w2 pp.d pp.os).block _ (heap_in g2.out)).trans g2.out) Tryz.underlying29 rfl (by rw [hsz.out]; kernel_rfl)
  have D40 : Hid (∀ d os, Calls Tryz.prog 40 #[.agg cs] (grow (redrawn w2 d) os) fun e w'' => e = .returned (.int .i64 F) ∧ Below (grow (redrawn w2 d) os).heap.size (grow (redrawn w2 d) os) w'') := fun d os => C40.out _ (b2.out.trans ((below_regrown w2 d os).mono b2.out.size))
  refine wp_region_quiet_below (by kernel_rfl) (by kernel_rfl) ?_
  repeat (first | (refine quiet_load rfl rfl w.heap.size rfl (.agg cs) L1.out ?_) | quiet_step (first | (go_at_call 40; exact Calls.regrown_of (D40.out _ _))))
  refine wpQuiet_nil ?_
  rintro _ ⟨⟨d, os⟩, rfl⟩
  have b5 : Hid (Below w.heap.size w (grow (redrawn w2 d) os)) := b2.out.trans ((below_regrown w2 d os).mono b2.out.size)
  have g5 : Hid ((grow (redrawn w2 d) os).heap[w.heap.size]? = some (.cells cs 29)) := ((below_regrown w2 d os).block _ (heap_in g2.out)).trans g2.out
  obtain ⟨w5, hw5⟩ : ∃ w5, w5 = grow (redrawn w2 d) os := ⟨_, rfl⟩
  rw [← hw5] at b5 g5 ⊢
  clear hw5 k0 L1 D40
  have e51 := e50.out.1
  have hb5a : Below w5.heap.size w5 (w5.alloc (.cells #[.int .u8 t] 5)) := (Below.refl _ _).alloc (Nat.le_refl _) _
  have C42 : Hid (Calls Tryz.prog 42 #[.slice (some ⟨w5.heap.size, 0, none⟩) 1 1, .int .i64 N] (w5.alloc (.cells #[.int .u8 t] 5)) fun e w' => Made (w5.alloc (.cells #[.int .u8 t] 5)) w' e (1 + kn N) (cellsOf (oneZ t) 1 ++ cellsOf (glZ N) (kn N))) :=
    putLength_in (some ⟨w5.heap.size, 0, none⟩) 1 1 (oneZ t) N (by omega) (by have := HN2.out; omega) _ (new_came w5 1 (oneZ t) _ rfl (fun i => by have := e50.out.2; unfold oneZ; split <;> omega)) (by decide)
  go_wp2_with fail
  go_must (go_at_call 42)
  refine C42.out.mono ?_
  rintro e w6 ⟨g, cp, rfl, ho, hb⟩
  have HO : Hid (w6.ownsRow w5.heap.size 5 1 (.slice (some ⟨g, 0, none⟩) (1 + kn N) cp) (1 + kn N) (cellsOf (oneZ t) 1 ++ cellsOf (glZ N) (kn N))) := own_base ho hb5a.size
  have B6 : Hid (Below w5.heap.size w5 w6) := hb5a.trans (hb.mono hb5a.size)
  have HKN : Hid (1 + kn N ≤ 5) := by show _ ≤ _; have := kn_bd N; omega
  have X6 : Hid (∃ xs, xs = cellsOf (oneZ t) 1 ++ cellsOf (glZ N) (kn N)) := ⟨_, rfl⟩
  obtain ⟨xs, hxs⟩ := X6.out
  rw [← hxs] at HO
  have HXS : Hid (cellsOf (oneZ t) 1 ++ cellsOf (glZ N) (kn N) = xs) := hxs.symm
  clear hb ho hb5a C42 e51 hxs X6
  go_wp2_with fail
  go_must (go_at_call 41)
  refine (grow_own w5.heap.size (1 + kn N) N _ xs w6 HO.out (by simp) B6.out.size (by have := HKN.out; omega) (by have := HN2.out; omega)).mono ?_
  rintro e w7 ⟨v7, rfl, o7, n7, gb7, ow7⟩
  have N7 : Hid (v7 ≠ .slice none 0 0) := n7
  have O7 : Hid (w7.ownsRow w5.heap.size 5 1 v7 (1 + kn N) xs) := o7
  have B7 : Hid (Below w5.heap.size w5 w7) := B6.out.trans (gb_below2 gb7 B6.out.size (fun k e => (HO.out.lt k e).1))
  have g7 : Hid (w7.heap[w.heap.size]? = some (.cells cs 29)) := (B7.out.block _ (heap_in g5.out)).trans g5.out
  clear o7 n7 gb7 ow7
  go_wp2_with (first | (refine wpList_load_wanted rfl _ rfl w.heap.size rfl _ (0, 0) g7.out hsz.out ?_) | fail)
  go_must (go_at_call 43)
  refine (C43.out w5 w7 v7 (1 + kn N) xs b5.out O7.out N7.out B7.out (by have := HKN.out; omega)).mono ?_
  rintro e w8 ⟨v8, rfl, o8, n8, gb8, ow8⟩
  have O8 : Hid (w8.ownsRow w.heap.size 5 1 v8 (1 + kn N + N) (xs ++ T)) := own_base o8 b5.out.size
  have N8 : Hid (v8 ≠ .slice none 0 0) := n8
  have B8 : Hid (Below w.heap.size w w8) := by
    have h1 : Below w5.heap.size w5 w8 := B7.out.trans (gb_below2 gb8 B7.out.size (fun k e => (O7.out.lt k e).1))
    exact b5.out.trans (h1.mono b5.out.size)
  clear o8 n8 gb8 ow8
  go_wp2_with fail
  go_ret2
  exact ⟨v8, rfl, by rw [HXS.out]; exact O8.out, N8.out, B8.out⟩

set_option maxRecDepth 100000 in
set_option maxHeartbeats 4000000 in
theorem encode_k3 (p : Pk) (c : Cn) (w : World) (N : Nat) (hg : Gd w) (hin : In w p c) (hs : Small p c) (hk : p.kind = 3) (hR : Right TT p c) (hN : sz p c = N) (hN2 : N ≤ 299990) :
    Calls Tryz.prog 11 #[.agg (pkCells p)] w fun e w' => ∃ v, e = .returned (.tuple #[v, .int .i64 0]) ∧ w'.ownsRow w.heap.size 5 1 v (1 + kn N + N) (cellsOf (oneZ (16 * p.kind + fg p)) 1 ++ cellsOf (glZ N) (kn N) ++ fieldsL p c) ∧ v ≠ .slice none 0 0 ∧ Below w.heap.size w w' := by
  have h0 := (ck_right TT p c).2 hR
  obtain ⟨F, hF⟩ : ∃ F, F = fg p := ⟨_, rfl⟩
  have e50 : Hid (bits .or .i64 48 F % 256 = 16 * p.kind + F ∧ 0 ≤ 16 * p.kind + F ∧ 16 * p.kind + F ≤ 255) := by
    have hb := fg_bd hR
    rw [← hF] at hb
    have := or_first ⟨3, by decide⟩ ⟨F.toNat, by omega⟩
    have e2 : ((F.toNat : Nat) : Int) = F := by omega
    simp only at this
    rw [e2] at this
    exact ⟨by rw [hk]; exact this, by omega, by omega⟩
  rw [← hF]
  obtain ⟨t, ht⟩ : ∃ t, t = 16 * p.kind + F := ⟨_, rfl⟩
  rw [← ht] at e50 ⊢
  clear ht
  obtain ⟨W, hW⟩ : ∃ W, W = w.alloc (.cells (pkCells p) 29) := ⟨_, rfl⟩
  have b0 : Hid (Below w.heap.size w W) := box_below hW
  have g0 : Hid (W.heap[w.heap.size]? = some (.cells (pkCells p) 29)) := by show _ = _; rw [hW]; exact heap_alloc_new w _
  have C10 : Hid (∀ w', Below w.heap.size w w' → Calls Tryz.prog 10 #[.agg (pkCells p)] w' fun e w'' => e = .returned (.int .i64 0) ∧ Below w'.heap.size w' w'') := fun w' hb => by
    have := check_any p c w' (hg.below hb) (hin.below hb) hs
    rw [h0] at this; exact this
  have C16 : Hid (∀ w', Below w.heap.size w w' → Calls Tryz.prog 16 #[.agg (pkCells p)] w' fun e w'' => e = .returned (.int .i64 N) ∧ Below w'.heap.size w' w'') := fun w' hb => by
    have := length_any p c w' (hg.below hb) (hin.below hb) hs
    rw [if_pos h0, hN] at this; exact this
  have C40 : Hid (∀ w', Below w.heap.size w w' → Calls Tryz.prog 40 #[.agg (pkCells p)] w' fun e w'' => e = .returned (.int .i64 F) ∧ Below w'.heap.size w' w'') := fun w' hb => by
    have := flags_any p c w' (hg.below hb) (hin.below hb) hs hR
    rw [← hF] at this; exact this
  have C43 : Hid (∀ (w5 w' : World) (v : Value) (n : Nat) (xs : List Value), Below w.heap.size w w5 → w'.ownsRow w5.heap.size 5 1 v n xs → v ≠ .slice none 0 0 → Below w5.heap.size w5 w' → n ≤ 10 → Calls Tryz.prog 43 #[v, .agg (pkCells p)] w' fun e w'' => Adds w5.heap.size v w' w'' e (n + N) (xs ++ fieldsL p c)) := fun w5 w' v n xs hb h1 hv h2 hn => by
    have := wFields_any w5 w' p c v n xs hR (hin.below hb) (by omega) h1 hv h2 hn
    rw [hN] at this; exact this
  obtain ⟨T, hT⟩ : ∃ T, T = fieldsL p c := ⟨_, rfl⟩
  rw [← hT] at C43 ⊢
  obtain ⟨cs, hcs⟩ : ∃ cs, cs = pkCells p := ⟨_, rfl⟩
  have hsz : Hid (cs.size = 25) := by show _ = _; rw [hcs]; rfl
  have hk0 : Hid (cs[0]? = some (.int .i64 3)) := by show _ = _; rw [hcs, ← hk]; rfl
  rw [← hcs] at C10 C16 C40 C43 g0 hW ⊢
  have HN2 : Hid (N ≤ 299990) := hN2
  clear hcs hT hg hin hs hk h0 hF hN hN2 hR
  go_enter Tryz.func11, Tryz.ntmps11
  go_upto_region 1 with fail
  rw [← hW]
  clear hW
  go_wp2_with (first | (refine wpList_load_wanted rfl _ rfl w.heap.size rfl _ (0, 0) g0.out hsz.out ?_) | fail)
  go_must (go_at_call 10)
  refine (C10.out _ b0.out).mono ?_
  rintro e w1 ⟨rfl, hb⟩
  have b1 : Hid (Below w.heap.size w w1) := b0.out.trans (hb.mono b0.out.size)
  have g1 : Hid (w1.heap[w.heap.size]? = some (.cells cs 29)) := (hb.block _ (heap_in g0.out)).trans g0.out
  clear hb
  go_wp2_with (first | (refine wpList_load_wanted rfl _ rfl w.heap.size rfl _ (0, 0) g1.out hsz.out ?_) | fail)
  go_must (go_at_call 16)
  refine (C16.out _ b1.out).mono ?_
  rintro e w2 ⟨rfl, hb⟩
  have b2 : Hid (Below w.heap.size w w2) := b1.out.trans (hb.mono b1.out.size)
  have g2 : Hid (w2.heap[w.heap.size]? = some (.cells cs 29)) := (hb.block _ (heap_in g1.out)).trans g1.out
  clear hb
  go_upto_region 5 with fail
  have k0 : ∀ d os, (grow (redrawn w2 d) os).cell? ⟨w.heap.size, 0, none⟩ = some (.int .i64 3) := fun d os => cell_later (below_regrown w2 d os) (box_cells g2.out 0 _ hk0.out)
  have L1 : Hid (∀ w', (∃ p : Regrown, w' = grow (redrawn w2 p.d) p.os) → (loadVar 29 ⟨w.heap.size, 0, none⟩).run Tryz.prog w' = .ok (.agg cs) w') := by
    rintro _ ⟨pp, rfl⟩
    exact run_loadVar_row _ w.heap.size 29 29 cs (0, 0) _ (((below_regrown w2 pp.d pp.os).block _ (heap_in g2.out)).trans g2.out) Tryz.underlying29 rfl (by rw [hsz.out]; kernel_rfl)
  have D40 : Hid (∀ d os, Calls Tryz.prog 40 #[.agg cs] (grow (redrawn w2 d) os) fun e w'' => e = .returned (.int .i64 F) ∧ Below (grow (redrawn w2 d) os).heap.size (grow (redrawn w2 d) os) w'') := fun d os => C40.out _ (b2.out.trans ((below_regrown w2 d os).mono b2.out.size))
  refine wp_region_quiet_below (by kernel_rfl) (by kernel_rfl) ?_
  repeat (first | (refine quiet_load rfl rfl w.heap.size rfl (.agg cs) L1.out ?_) | quiet_step (first | (go_at_call 40; exact Calls.regrown_of (D40.out _ _))))
  refine wpQuiet_nil ?_
  rintro _ ⟨⟨d, os⟩, rfl⟩
  have b5 : Hid (Below w.heap.size w (grow (redrawn w2 d) os)) := b2.out.trans ((below_regrown w2 d os).mono b2.out.size)
  have g5 : Hid ((grow (redrawn w2 d) os).heap[w.heap.size]? = some (.cells cs 29)) := ((below_regrown w2 d os).block _ (heap_in g2.out)).trans g2.out
  obtain ⟨w5, hw5⟩ : ∃ w5, w5 = grow (redrawn w2 d) os := ⟨_, rfl⟩
  rw [← hw5] at b5 g5 ⊢
  clear hw5 k0 L1 D40
  have e51 := e50.out.1
  have hb5a : Below w5.heap.size w5 (w5.alloc (.cells #[.int .u8 t] 5)) := (Below.refl _ _).alloc (Nat.le_refl _) _
  have C42 : Hid (Calls Tryz.prog 42 #[.slice (some ⟨w5.heap.size, 0, none⟩) 1 1, .int .i64 N] (w5.alloc (.cells #[.int .u8 t] 5)) fun e w' => Made (w5.alloc (.cells #[.int .u8 t] 5)) w' e (1 + kn N) (cellsOf (oneZ t) 1 ++ cellsOf (glZ N) (kn N))) :=
    putLength_in (some ⟨w5.heap.size, 0, none⟩) 1 1 (oneZ t) N (by omega) (by have := HN2.out; omega) _ (new_came w5 1 (oneZ t) _ rfl (fun i => by have := e50.out.2; unfold oneZ; split <;> omega)) (by decide)
  go_wp2_with fail
  go_must (go_at_call 42)
  refine C42.out.mono ?_
  rintro e w6 ⟨g, cp, rfl, ho, hb⟩
  have HO : Hid (w6.ownsRow w5.heap.size 5 1 (.slice (some ⟨g, 0, none⟩) (1 + kn N) cp) (1 + kn N) (cellsOf (oneZ t) 1 ++ cellsOf (glZ N) (kn N))) := own_base ho hb5a.size
  have B6 : Hid (Below w5.heap.size w5 w6) := hb5a.trans (hb.mono hb5a.size)
  have HKN : Hid (1 + kn N ≤ 5) := by show _ ≤ _; have := kn_bd N; omega
  have X6 : Hid (∃ xs, xs = cellsOf (oneZ t) 1 ++ cellsOf (glZ N) (kn N)) := ⟨_, rfl⟩
  obtain ⟨xs, hxs⟩ := X6.out
  rw [← hxs] at HO
  have HXS : Hid (cellsOf (oneZ t) 1 ++ cellsOf (glZ N) (kn N) = xs) := hxs.symm
  clear hb ho hb5a C42 e51 hxs X6
  go_wp2_with fail
  go_must (go_at_call 41)
  refine (grow_own w5.heap.size (1 + kn N) N _ xs w6 HO.out (by simp) B6.out.size (by have := HKN.out; omega) (by have := HN2.out; omega)).mono ?_
  rintro e w7 ⟨v7, rfl, o7, n7, gb7, ow7⟩
  have N7 : Hid (v7 ≠ .slice none 0 0) := n7
  have O7 : Hid (w7.ownsRow w5.heap.size 5 1 v7 (1 + kn N) xs) := o7
  have B7 : Hid (Below w5.heap.size w5 w7) := B6.out.trans (gb_below2 gb7 B6.out.size (fun k e => (HO.out.lt k e).1))
  have g7 : Hid (w7.heap[w.heap.size]? = some (.cells cs 29)) := (B7.out.block _ (heap_in g5.out)).trans g5.out
  clear o7 n7 gb7 ow7
  go_wp2_with (first | (refine wpList_load_wanted rfl _ rfl w.heap.size rfl _ (0, 0) g7.out hsz.out ?_) | fail)
  go_must (go_at_call 43)
  refine (C43.out w5 w7 v7 (1 + kn N) xs b5.out O7.out N7.out B7.out (by have := HKN.out; omega)).mono ?_
  rintro e w8 ⟨v8, rfl, o8, n8, gb8, ow8⟩
  have O8 : Hid (w8.ownsRow w.heap.size 5 1 v8 (1 + kn N + N) (xs ++ T)) := own_base o8 b5.out.size
  have N8 : Hid (v8 ≠ .slice none 0 0) := n8
  have B8 : Hid (Below w.heap.size w w8) := by
    have h1 : Below w5.heap.size w5 w8 := B7.out.trans (gb_below2 gb8 B7.out.size (fun k e => (O7.out.lt k e).1))
    exact b5.out.trans (h1.mono b5.out.size)
  clear o8 n8 gb8 ow8
  go_wp2_with fail
  go_ret2
  exact ⟨v8, rfl, by rw [HXS.out]; exact O8.out, N8.out, B8.out⟩

set_option maxRecDepth 100000 in
set_option maxHeartbeats 4000000 in
theorem encode_k4 (p : Pk) (c : Cn) (w : World) (N : Nat) (hg : Gd w) (hin : In w p c) (hs : Small p c) (hk : p.kind = 4) (hR : Right TT p c) (hN : sz p c = N) (hN2 : N ≤ 299990) :
    Calls Tryz.prog 11 #[.agg (pkCells p)] w fun e w' => ∃ v, e = .returned (.tuple #[v, .int .i64 0]) ∧ w'.ownsRow w.heap.size 5 1 v (1 + kn N + N) (cellsOf (oneZ (16 * p.kind + fg p)) 1 ++ cellsOf (glZ N) (kn N) ++ fieldsL p c) ∧ v ≠ .slice none 0 0 ∧ Below w.heap.size w w' := by
  have h0 := (ck_right TT p c).2 hR
  obtain ⟨F, hF⟩ : ∃ F, F = fg p := ⟨_, rfl⟩
  have e50 : Hid (bits .or .i64 64 F % 256 = 16 * p.kind + F ∧ 0 ≤ 16 * p.kind + F ∧ 16 * p.kind + F ≤ 255) := by
    have hb := fg_bd hR
    rw [← hF] at hb
    have := or_first ⟨4, by decide⟩ ⟨F.toNat, by omega⟩
    have e2 : ((F.toNat : Nat) : Int) = F := by omega
    simp only at this
    rw [e2] at this
    exact ⟨by rw [hk]; exact this, by omega, by omega⟩
  rw [← hF]
  obtain ⟨t, ht⟩ : ∃ t, t = 16 * p.kind + F := ⟨_, rfl⟩
  rw [← ht] at e50 ⊢
  clear ht
  obtain ⟨W, hW⟩ : ∃ W, W = w.alloc (.cells (pkCells p) 29) := ⟨_, rfl⟩
  have b0 : Hid (Below w.heap.size w W) := box_below hW
  have g0 : Hid (W.heap[w.heap.size]? = some (.cells (pkCells p) 29)) := by show _ = _; rw [hW]; exact heap_alloc_new w _
  have C10 : Hid (∀ w', Below w.heap.size w w' → Calls Tryz.prog 10 #[.agg (pkCells p)] w' fun e w'' => e = .returned (.int .i64 0) ∧ Below w'.heap.size w' w'') := fun w' hb => by
    have := check_any p c w' (hg.below hb) (hin.below hb) hs
    rw [h0] at this; exact this
  have C16 : Hid (∀ w', Below w.heap.size w w' → Calls Tryz.prog 16 #[.agg (pkCells p)] w' fun e w'' => e = .returned (.int .i64 N) ∧ Below w'.heap.size w' w'') := fun w' hb => by
    have := length_any p c w' (hg.below hb) (hin.below hb) hs
    rw [if_pos h0, hN] at this; exact this
  have C40 : Hid (∀ w', Below w.heap.size w w' → Calls Tryz.prog 40 #[.agg (pkCells p)] w' fun e w'' => e = .returned (.int .i64 F) ∧ Below w'.heap.size w' w'') := fun w' hb => by
    have := flags_any p c w' (hg.below hb) (hin.below hb) hs hR
    rw [← hF] at this; exact this
  have C43 : Hid (∀ (w5 w' : World) (v : Value) (n : Nat) (xs : List Value), Below w.heap.size w w5 → w'.ownsRow w5.heap.size 5 1 v n xs → v ≠ .slice none 0 0 → Below w5.heap.size w5 w' → n ≤ 10 → Calls Tryz.prog 43 #[v, .agg (pkCells p)] w' fun e w'' => Adds w5.heap.size v w' w'' e (n + N) (xs ++ fieldsL p c)) := fun w5 w' v n xs hb h1 hv h2 hn => by
    have := wFields_any w5 w' p c v n xs hR (hin.below hb) (by omega) h1 hv h2 hn
    rw [hN] at this; exact this
  obtain ⟨T, hT⟩ : ∃ T, T = fieldsL p c := ⟨_, rfl⟩
  rw [← hT] at C43 ⊢
  obtain ⟨cs, hcs⟩ : ∃ cs, cs = pkCells p := ⟨_, rfl⟩
  have hsz : Hid (cs.size = 25) := by show _ = _; rw [hcs]; rfl
  have hk0 : Hid (cs[0]? = some (.int .i64 4)) := by show _ = _; rw [hcs, ← hk]; rfl
  rw [← hcs] at C10 C16 C40 C43 g0 hW ⊢
  have HN2 : Hid (N ≤ 299990) := hN2
  clear hcs hT hg hin hs hk h0 hF hN hN2 hR
  go_enter Tryz.func11, Tryz.ntmps11
  go_upto_region 1 with fail
  rw [← hW]
  clear hW
  go_wp2_with (first | (refine wpList_load_wanted rfl _ rfl w.heap.size rfl _ (0, 0) g0.out hsz.out ?_) | fail)
  go_must (go_at_call 10)
  refine (C10.out _ b0.out).mono ?_
  rintro e w1 ⟨rfl, hb⟩
  have b1 : Hid (Below w.heap.size w w1) := b0.out.trans (hb.mono b0.out.size)
  have g1 : Hid (w1.heap[w.heap.size]? = some (.cells cs 29)) := (hb.block _ (heap_in g0.out)).trans g0.out
  clear hb
  go_wp2_with (first | (refine wpList_load_wanted rfl _ rfl w.heap.size rfl _ (0, 0) g1.out hsz.out ?_) | fail)
  go_must (go_at_call 16)
  refine (C16.out _ b1.out).mono ?_
  rintro e w2 ⟨rfl, hb⟩
  have b2 : Hid (Below w.heap.size w w2) := b1.out.trans (hb.mono b1.out.size)
  have g2 : Hid (w2.heap[w.heap.size]? = some (.cells cs 29)) := (hb.block _ (heap_in g1.out)).trans g1.out
  clear hb
  go_upto_region 5 with fail
  have k0 : ∀ d os, (grow (redrawn w2 d) os).cell? ⟨w.heap.size, 0, none⟩ = some (.int .i64 4) := fun d os => cell_later (below_regrown w2 d os) (box_cells g2.out 0 _ hk0.out)
  have L1 : Hid (∀ w', (∃ p : Regrown, w' = grow (redrawn w2 p.d) p.os) → (loadVar 29 ⟨w.heap.size, 0, none⟩).run Tryz.prog w' = .ok (.agg cs) w') := by
    rintro _ ⟨pp, rfl⟩
    exact run_loadVar_row _ w.heap.size 29 29 cs (0, 0) _ (((below_regrown w2 pp.d pp.os).block _ (heap_in g2.out)).trans g2.out) Tryz.underlying29 rfl (by rw [hsz.out]; kernel_rfl)
  have D40 : Hid (∀ d os, Calls Tryz.prog 40 #[.agg cs] (grow (redrawn w2 d) os) fun e w'' => e = .returned (.int .i64 F) ∧ Below (grow (redrawn w2 d) os).heap.size (grow (redrawn w2 d) os) w'') := fun d os => C40.out _ (b2.out.trans ((below_regrown w2 d os).mono b2.out.size))
  refine wp_region_quiet_below (by kernel_rfl) (by kernel_rfl) ?_
  repeat (first | (refine quiet_load rfl rfl w.heap.size rfl (.agg cs) L1.out ?_) | quiet_step (first | (go_at_call 40; exact Calls.regrown_of (D40.out _ _))))
  refine wpQuiet_nil ?_
  rintro _ ⟨⟨d, os⟩, rfl⟩
  have b5 : Hid (Below w.heap.size w (grow (redrawn w2 d) os)) := b2.out.trans ((below_regrown w2 d os).mono b2.out.size)
  have g5 : Hid ((grow (redrawn w2 d) os).heap[w.heap.size]? = some (.cells cs 29)) := ((below_regrown w2 d os).block _ (heap_in g2.out)).trans g2.out
  obtain ⟨w5, hw5⟩ : ∃ w5, w5 = grow (redrawn w2 d) os := ⟨_, rfl⟩
  rw [← hw5] at b5 g5 ⊢
  clear hw5 k0 L1 D40
  have e51 := e50.out.1
  have hb5a : Below w5.heap.size w5 (w5.alloc (.cells #[.int .u8 t] 5)) := (Below.refl _ _).alloc (Nat.le_refl _) _
  have C42 : Hid (Calls Tryz.prog 42 #[.slice (some ⟨w5.heap.size, 0, none⟩) 1 1, .int .i64 N] (w5.alloc (.cells #[.int .u8 t] 5)) fun e w' => Made (w5.alloc (.cells #[.int .u8 t] 5)) w' e (1 + kn N) (cellsOf (oneZ t) 1 ++ cellsOf (glZ N) (kn N))) :=
    putLength_in (some ⟨w5.heap.size, 0, none⟩) 1 1 (oneZ t) N (by omega) (by have := HN2.out; omega) _ (new_came w5 1 (oneZ t) _ rfl (fun i => by have := e50.out.2; unfold oneZ; split <;> omega)) (by decide)
  go_wp2_with fail
  go_must (go_at_call 42)
  refine C42.out.mono ?_
  rintro e w6 ⟨g, cp, rfl, ho, hb⟩
  have HO : Hid (w6.ownsRow w5.heap.size 5 1 (.slice (some ⟨g, 0, none⟩) (1 + kn N) cp) (1 + kn N) (cellsOf (oneZ t) 1 ++ cellsOf (glZ N) (kn N))) := own_base ho hb5a.size
  have B6 : Hid (Below w5.heap.size w5 w6) := hb5a.trans (hb.mono hb5a.size)
  have HKN : Hid (1 + kn N ≤ 5) := by show _ ≤ _; have := kn_bd N; omega
  have X6 : Hid (∃ xs, xs = cellsOf (oneZ t) 1 ++ cellsOf (glZ N) (kn N)) := ⟨_, rfl⟩
  obtain ⟨xs, hxs⟩ := X6.out
  rw [← hxs] at HO
  have HXS : Hid (cellsOf (oneZ t) 1 ++ cellsOf (glZ N) (kn N) = xs) := hxs.symm
  clear hb ho hb5a C42 e51 hxs X6
  go_wp2_with fail
  go_must (go_at_call 41)
  refine (grow_own w5.heap.size (1 + kn N) N _ xs w6 HO.out (by simp) B6.out.size (by have := HKN.out; omega) (by have := HN2.out; omega)).mono ?_
  rintro e w7 ⟨v7, rfl, o7, n7, gb7, ow7⟩
  have N7 : Hid (v7 ≠ .slice none 0 0) := n7
  have O7 : Hid (w7.ownsRow w5.heap.size 5 1 v7 (1 + kn N) xs) := o7
  have B7 : Hid (Below w5.heap.size w5 w7) := B6.out.trans (gb_below2 gb7 B6.out.size (fun k e => (HO.out.lt k e).1))
  have g7 : Hid (w7.heap[w.heap.size]? = some (.cells cs 29)) := (B7.out.block _ (heap_in g5.out)).trans g5.out
  clear o7 n7 gb7 ow7
  go_wp2_with (first | (refine wpList_load_wanted rfl _ rfl w.heap.size rfl _ (0, 0) g7.out hsz.out ?_) | fail)
  go_must (go_at_call 43)
  refine (C43.out w5 w7 v7 (1 + kn N) xs b5.out O7.out N7.out B7.out (by have := HKN.out; omega)).mono ?_
  rintro e w8 ⟨v8, rfl, o8, n8, gb8, ow8⟩
  have O8 : Hid (w8.ownsRow w.heap.size 5 1 v8 (1 + kn N + N) (xs ++ T)) := own_base o8 b5.out.size
  have N8 : Hid (v8 ≠ .slice none 0 0) := n8
  have B8 : Hid (Below w.heap.size w w8) := by
    have h1 : Below w5.heap.size w5 w8 := B7.out.trans (gb_below2 gb8 B7.out.size (fun k e => (O7.out.lt k e).1))
    exact b5.out.trans (h1.mono b5.out.size)
  clear o8 n8 gb8 ow8
  go_wp2_with fail
  go_ret2
  exact ⟨v8, rfl, by rw [HXS.out]; exact O8.out, N8.out, B8.out⟩

set_option maxRecDepth 100000 in
set_option maxHeartbeats 4000000 in
theorem encode_k5 (p : Pk) (c : Cn) (w : World) (N : Nat) (hg : Gd w) (hin : In w p c) (hs : Small p c) (hk : p.kind = 5) (hR : Right TT p c) (hN : sz p c = N) (hN2 : N ≤ 299990) :
    Calls Tryz.prog 11 #[.agg (pkCells p)] w fun e w' => ∃ v, e = .returned (.tuple #[v, .int .i64 0]) ∧ w'.ownsRow w.heap.size 5 1 v (1 + kn N + N) (cellsOf (oneZ (16 * p.kind + fg p)) 1 ++ cellsOf (glZ N) (kn N) ++ fieldsL p c) ∧ v ≠ .slice none 0 0 ∧ Below w.heap.size w w' := by
  have h0 := (ck_right TT p c).2 hR
  obtain ⟨F, hF⟩ : ∃ F, F = fg p := ⟨_, rfl⟩
  have e50 : Hid (bits .or .i64 80 F % 256 = 16 * p.kind + F ∧ 0 ≤ 16 * p.kind + F ∧ 16 * p.kind + F ≤ 255) := by
    have hb := fg_bd hR
    rw [← hF] at hb
    have := or_first ⟨5, by decide⟩ ⟨F.toNat, by omega⟩
    have e2 : ((F.toNat : Nat) : Int) = F := by omega
    simp only at this
    rw [e2] at this
    exact ⟨by rw [hk]; exact this, by omega, by omega⟩
  rw [← hF]
  obtain ⟨t, ht⟩ : ∃ t, t = 16 * p.kind + F := ⟨_, rfl⟩
  rw [← ht] at e50 ⊢
  clear ht
  obtain ⟨W, hW⟩ : ∃ W, W = w.alloc (.cells (pkCells p) 29) := ⟨_, rfl⟩
  have b0 : Hid (Below w.heap.size w W) := box_below hW
  have g0 : Hid (W.heap[w.heap.size]? = some (.cells (pkCells p) 29)) := by show _ = _; rw [hW]; exact heap_alloc_new w _
  have C10 : Hid (∀ w', Below w.heap.size w w' → Calls Tryz.prog 10 #[.agg (pkCells p)] w' fun e w'' => e = .returned (.int .i64 0) ∧ Below w'.heap.size w' w'') := fun w' hb => by
    have := check_any p c w' (hg.below hb) (hin.below hb) hs
    rw [h0] at this; exact this
  have C16 : Hid (∀ w', Below w.heap.size w w' → Calls Tryz.prog 16 #[.agg (pkCells p)] w' fun e w'' => e = .returned (.int .i64 N) ∧ Below w'.heap.size w' w'') := fun w' hb => by
    have := length_any p c w' (hg.below hb) (hin.below hb) hs
    rw [if_pos h0, hN] at this; exact this
  have C40 : Hid (∀ w', Below w.heap.size w w' → Calls Tryz.prog 40 #[.agg (pkCells p)] w' fun e w'' => e = .returned (.int .i64 F) ∧ Below w'.heap.size w' w'') := fun w' hb => by
    have := flags_any p c w' (hg.below hb) (hin.below hb) hs hR
    rw [← hF] at this; exact this
  have C43 : Hid (∀ (w5 w' : World) (v : Value) (n : Nat) (xs : List Value), Below w.heap.size w w5 → w'.ownsRow w5.heap.size 5 1 v n xs → v ≠ .slice none 0 0 → Below w5.heap.size w5 w' → n ≤ 10 → Calls Tryz.prog 43 #[v, .agg (pkCells p)] w' fun e w'' => Adds w5.heap.size v w' w'' e (n + N) (xs ++ fieldsL p c)) := fun w5 w' v n xs hb h1 hv h2 hn => by
    have := wFields_any w5 w' p c v n xs hR (hin.below hb) (by omega) h1 hv h2 hn
    rw [hN] at this; exact this
  obtain ⟨T, hT⟩ : ∃ T, T = fieldsL p c := ⟨_, rfl⟩
  rw [← hT] at C43 ⊢
  obtain ⟨cs, hcs⟩ : ∃ cs, cs = pkCells p := ⟨_, rfl⟩
  have hsz : Hid (cs.size = 25) := by show _ = _; rw [hcs]; rfl
  have hk0 : Hid (cs[0]? = some (.int .i64 5)) := by show _ = _; rw [hcs, ← hk]; rfl
  rw [← hcs] at C10 C16 C40 C43 g0 hW ⊢
  have HN2 : Hid (N ≤ 299990) := hN2
  clear hcs hT hg hin hs hk h0 hF hN hN2 hR
  go_enter Tryz.func11, Tryz.ntmps11
  go_upto_region 1 with fail
  rw [← hW]
  clear hW
  go_wp2_with (first | (refine wpList_load_wanted rfl _ rfl w.heap.size rfl _ (0, 0) g0.out hsz.out ?_) | fail)
  go_must (go_at_call 10)
  refine (C10.out _ b0.out).mono ?_
  rintro e w1 ⟨rfl, hb⟩
  have b1 : Hid (Below w.heap.size w w1) := b0.out.trans (hb.mono b0.out.size)
  have g1 : Hid (w1.heap[w.heap.size]? = some (.cells cs 29)) := (hb.block _ (heap_in g0.out)).trans g0.out
  clear hb
  go_wp2_with (first | (refine wpList_load_wanted rfl _ rfl w.heap.size rfl _ (0, 0) g1.out hsz.out ?_) | fail)
  go_must (go_at_call 16)
  refine (C16.out _ b1.out).mono ?_
  rintro e w2 ⟨rfl, hb⟩
  have b2 : Hid (Below w.heap.size w w2) := b1.out.trans (hb.mono b1.out.size)
  have g2 : Hid (w2.heap[w.heap.size]? = some (.cells cs 29)) := (hb.block _ (heap_in g1.out)).trans g1.out
  clear hb
  go_upto_region 5 with fail
  have k0 : ∀ d os, (grow (redrawn w2 d) os).cell? ⟨w.heap.size, 0, none⟩ = some (.int .i64 5) := fun d os => cell_later (below_regrown w2 d os) (box_cells g2.out 0 _ hk0.out)
  have L1 : Hid (∀ w', (∃ p : Regrown, w' = grow (redrawn w2 p.d) p.os) → (loadVar 29 ⟨w.heap.size, 0, none⟩).run Tryz.prog w' = .ok (.agg cs) w') := by
    rintro _ ⟨pp, rfl⟩
    exact run_loadVar_row _ w.heap.size 29 29 cs (0, 0) _ (((below_regrown w2 pp.d pp.os).block _ (heap_in g2.out)).trans g2.out) Tryz.underlying29 rfl (by rw [hsz.out]; kernel_rfl)
  have D40 : Hid (∀ d os, Calls Tryz.prog 40 #[.agg cs] (grow (redrawn w2 d) os) fun e w'' => e = .returned (.int .i64 F) ∧ Below (grow (redrawn w2 d) os).heap.size (grow (redrawn w2 d) os) w'') := fun d os => C40.out _ (b2.out.trans ((below_regrown w2 d os).mono b2.out.size))
  refine wp_region_quiet_below (by kernel_rfl) (by kernel_rfl) ?_
  repeat (first | (refine quiet_load rfl rfl w.heap.size rfl (.agg cs) L1.out ?_) | quiet_step (first | (go_at_call 40; exact Calls.regrown_of (D40.out _ _))))
  refine wpQuiet_nil ?_
  rintro _ ⟨⟨d, os⟩, rfl⟩
  have b5 : Hid (Below w.heap.size w (grow (redrawn w2 d) os)) := b2.out.trans ((below_regrown w2 d os).mono b2.out.size)
  have g5 : Hid ((grow (redrawn w2 d) os).heap[w.heap.size]? = some (.cells cs 29)) := ((below_regrown w2 d os).block _ (heap_in g2.out)).trans g2.out
  obtain ⟨w5, hw5⟩ : ∃ w5, w5 = grow (redrawn w2 d) os := ⟨_, rfl⟩
  rw [← hw5] at b5 g5 ⊢
  clear hw5 k0 L1 D40
  have e51 := e50.out.1
  have hb5a : Below w5.heap.size w5 (w5.alloc (.cells #[.int .u8 t] 5)) := (Below.refl _ _).alloc (Nat.le_refl _) _
  have C42 : Hid (Calls Tryz.prog 42 #[.slice (some ⟨w5.heap.size, 0, none⟩) 1 1, .int .i64 N] (w5.alloc (.cells #[.int .u8 t] 5)) fun e w' => Made (w5.alloc (.cells #[.int .u8 t] 5)) w' e (1 + kn N) (cellsOf (oneZ t) 1 ++ cellsOf (glZ N) (kn N))) :=
    putLength_in (some ⟨w5.heap.size, 0, none⟩) 1 1 (oneZ t) N (by omega) (by have := HN2.out; omega) _ (new_came w5 1 (oneZ t) _ rfl (fun i => by have := e50.out.2; unfold oneZ; split <;> omega)) (by decide)
  go_wp2_with fail
  go_must (go_at_call 42)
  refine C42.out.mono ?_
  rintro e w6 ⟨g, cp, rfl, ho, hb⟩
  have HO : Hid (w6.ownsRow w5.heap.size 5 1 (.slice (some ⟨g, 0, none⟩) (1 + kn N) cp) (1 + kn N) (cellsOf (oneZ t) 1 ++ cellsOf (glZ N) (kn N))) := own_base ho hb5a.size
  have B6 : Hid (Below w5.heap.size w5 w6) := hb5a.trans (hb.mono hb5a.size)
  have HKN : Hid (1 + kn N ≤ 5) := by show _ ≤ _; have := kn_bd N; omega
  have X6 : Hid (∃ xs, xs = cellsOf (oneZ t) 1 ++ cellsOf (glZ N) (kn N)) := ⟨_, rfl⟩
  obtain ⟨xs, hxs⟩ := X6.out
  rw [← hxs] at HO
  have HXS : Hid (cellsOf (oneZ t) 1 ++ cellsOf (glZ N) (kn N) = xs) := hxs.symm
  clear hb ho hb5a C42 e51 hxs X6
  go_wp2_with fail
  go_must (go_at_call 41)
  refine (grow_own w5.heap.size (1 + kn N) N _ xs w6 HO.out (by simp) B6.out.size (by have := HKN.out; omega) (by have := HN2.out; omega)).mono ?_
  rintro e w7 ⟨v7, rfl, o7, n7, gb7, ow7⟩
  have N7 : Hid (v7 ≠ .slice none 0 0) := n7
  have O7 : Hid (w7.ownsRow w5.heap.size 5 1 v7 (1 + kn N) xs) := o7
  have B7 : Hid (Below w5.heap.size w5 w7) := B6.out.trans (gb_below2 gb7 B6.out.size (fun k e => (HO.out.lt k e).1))
  have g7 : Hid (w7.heap[w.heap.size]? = some (.cells cs 29)) := (B7.out.block _ (heap_in g5.out)).trans g5.out
  clear o7 n7 gb7 ow7
  go_wp2_with (first | (refine wpList_load_wanted rfl _ rfl w.heap.size rfl _ (0, 0) g7.out hsz.out ?_) | fail)
  go_must (go_at_call 43)
  refine (C43.out w5 w7 v7 (1 + kn N) xs b5.out O7.out N7.out B7.out (by have := HKN.out; omega)).mono ?_
  rintro e w8 ⟨v8, rfl, o8, n8, gb8, ow8⟩
  have O8 : Hid (w8.ownsRow w.heap.size 5 1 v8 (1 + kn N + N) (xs ++ T)) := own_base o8 b5.out.size
  have N8 : Hid (v8 ≠ .slice none 0 0) := n8
  have B8 : Hid (Below w.heap.size w w8) := by
    have h1 : Below w5.heap.size w5 w8 := B7.out.trans (gb_below2 gb8 B7.out.size (fun k e => (O7.out.lt k e).1))
    exact b5.out.trans (h1.mono b5.out.size)
  clear o8 n8 gb8 ow8
  go_wp2_with fail
  go_ret2
  exact ⟨v8, rfl, by rw [HXS.out]; exact O8.out, N8.out, B8.out⟩

set_option maxRecDepth 100000 in
set_option maxHeartbeats 4000000 in
theorem encode_k6 (p : Pk) (c : Cn) (w : World) (N : Nat) (hg : Gd w) (hin : In w p c) (hs : Small p c) (hk : p.kind = 6) (hR : Right TT p c) (hN : sz p c = N) (hN2 : N ≤ 299990) :
    Calls Tryz.prog 11 #[.agg (pkCells p)] w fun e w' => ∃ v, e = .returned (.tuple #[v, .int .i64 0]) ∧ w'.ownsRow w.heap.size 5 1 v (1 + kn N + N) (cellsOf (oneZ (16 * p.kind + fg p)) 1 ++ cellsOf (glZ N) (kn N) ++ fieldsL p c) ∧ v ≠ .slice none 0 0 ∧ Below w.heap.size w w' := by
  have h0 := (ck_right TT p c).2 hR
  obtain ⟨F, hF⟩ : ∃ F, F = fg p := ⟨_, rfl⟩
  have e50 : Hid (bits .or .i64 96 F % 256 = 16 * p.kind + F ∧ 0 ≤ 16 * p.kind + F ∧ 16 * p.kind + F ≤ 255) := by
    have hb := fg_bd hR
    rw [← hF] at hb
    have := or_first ⟨6, by decide⟩ ⟨F.toNat, by omega⟩
    have e2 : ((F.toNat : Nat) : Int) = F := by omega
    simp only at this
    rw [e2] at this
    exact ⟨by rw [hk]; exact this, by omega, by omega⟩
  rw [← hF]
  obtain ⟨t, ht⟩ : ∃ t, t = 16 * p.kind + F := ⟨_, rfl⟩
  rw [← ht] at e50 ⊢
  clear ht
  obtain ⟨W, hW⟩ : ∃ W, W = w.alloc (.cells (pkCells p) 29) := ⟨_, rfl⟩
  have b0 : Hid (Below w.heap.size w W) := box_below hW
  have g0 : Hid (W.heap[w.heap.size]? = some (.cells (pkCells p) 29)) := by show _ = _; rw [hW]; exact heap_alloc_new w _
  have C10 : Hid (∀ w', Below w.heap.size w w' → Calls Tryz.prog 10 #[.agg (pkCells p)] w' fun e w'' => e = .returned (.int .i64 0) ∧ Below w'.heap.size w' w'') := fun w' hb => by
    have := check_any p c w' (hg.below hb) (hin.below hb) hs
    rw [h0] at this; exact this
  have C16 : Hid (∀ w', Below w.heap.size w w' → Calls Tryz.prog 16 #[.agg (pkCells p)] w' fun e w'' => e = .returned (.int .i64 N) ∧ Below w'.heap.size w' w'') := fun w' hb => by
    have := length_any p c w' (hg.below hb) (hin.below hb) hs
    rw [if_pos h0, hN] at this; exact this
  have C40 : Hid (∀ w', Below w.heap.size w w' → Calls Tryz.prog 40 #[.agg (pkCells p)] w' fun e w'' => e = .returned (.int .i64 F) ∧ Below w'.heap.size w' w'') := fun w' hb => by
    have := flags_any p c w' (hg.below hb) (hin.below hb) hs hR
    rw [← hF] at this; exact this
  have C43 : Hid (∀ (w5 w' : World) (v : Value) (n : Nat) (xs : List Value), Below w.heap.size w w5 → w'.ownsRow w5.heap.size 5 1 v n xs → v ≠ .slice none 0 0 → Below w5.heap.size w5 w' → n ≤ 10 → Calls Tryz.prog 43 #[v, .agg (pkCells p)] w' fun e w'' => Adds w5.heap.size v w' w'' e (n + N) (xs ++ fieldsL p c)) := fun w5 w' v n xs hb h1 hv h2 hn => by
    have := wFields_any w5 w' p c v n xs hR (hin.below hb) (by omega) h1 hv h2 hn
    rw [hN] at this; exact this
  obtain ⟨T, hT⟩ : ∃ T, T = fieldsL p c := ⟨_, rfl⟩
  rw [← hT] at C43 ⊢
  obtain ⟨cs, hcs⟩ : ∃ cs, cs = pkCells p := ⟨_, rfl⟩
  have hsz : Hid (cs.size = 25) := by show _ = _; rw [hcs]; rfl
  have hk0 : Hid (cs[0]? = some (.int .i64 6)) := by show _ = _; rw [hcs, ← hk]; rfl
  rw [← hcs] at C10 C16 C40 C43 g0 hW ⊢
  have HN2 : Hid (N ≤ 299990) := hN2
  clear hcs hT hg hin hs hk h0 hF hN hN2 hR
  go_enter Tryz.func11, Tryz.ntmps11
  go_upto_region 1 with fail
  rw [← hW]
  clear hW
  go_wp2_with (first | (refine wpList_load_wanted rfl _ rfl w.heap.size rfl _ (0, 0) g0.out hsz.out ?_) | fail)
  go_must (go_at_call 10)
  refine (C10.out _ b0.out).mono ?_
  rintro e w1 ⟨rfl, hb⟩
  have b1 : Hid (Below w.heap.size w w1) := b0.out.trans (hb.mono b0.out.size)
  have g1 : Hid (w1.heap[w.heap.size]? = some (.cells cs 29)) := (hb.block _ (heap_in g0.out)).trans g0.out
  clear hb
  go_wp2_with (first | (refine wpList_load_wanted rfl _ rfl w.heap.size rfl _ (0, 0) g1.out hsz.out ?_) | fail)
  go_must (go_at_call 16)
  refine (C16.out _ b1.out).mono ?_
  rintro e w2 ⟨rfl, hb⟩
  have b2 : Hid (Below w.heap.size w w2) := b1.out.trans (hb.mono b1.out.size)
  have g2 : Hid (w2.heap[w.heap.size]? = some (.cells cs 29)) := (hb.block _ (heap_in g1.out)).trans g1.out
  clear hb
  go_upto_region 5 with fail
  have k0 : ∀ d os, (grow (redrawn w2 d) os).cell? ⟨w.heap.size, 0, none⟩ = some (.int .i64 6) := fun d os => cell_later (below_regrown w2 d os) (box_cells g2.out 0 _ hk0.out)
  have L1 : Hid (∀ w', (∃ p : Regrown, w' = grow (redrawn w2 p.d) p.os) → (loadVar 29 ⟨w.heap.size, 0, none⟩).run Tryz.prog w' = .ok (.agg cs) w') := by
    rintro _ ⟨pp, rfl⟩
    exact run_loadVar_row _ w.heap.size 29 29 cs (0, 0) _ (((below_regrown w2 pp.d pp.os).block _ (heap_in g2.out)).trans g2.out) Tryz.underlying29 rfl (by rw [hsz.out]; kernel_rfl)
  have D40 : Hid (∀ d os, Calls Tryz.prog 40 #[.agg cs] (grow (redrawn w2 d) os) fun e w'' => e = .returned (.int .i64 F) ∧ Below (grow (redrawn w2 d) os).heap.size (grow (redrawn w2 d) os) w'') := fun d os => C40.out _ (b2.out.trans ((below_regrown w2 d os).mono b2.out.size))
  refine wp_region_quiet_below (by kernel_rfl) (by kernel_rfl) ?_
  repeat (first | (refine quiet_load rfl rfl w.heap.size rfl (.agg cs) L1.out ?_) | quiet_step (first | (go_at_call 40; exact Calls.regrown_of (D40.out _ _))))
  refine wpQuiet_nil ?_
  rintro _ ⟨⟨d, os⟩, rfl⟩
  have b5 : Hid (Below w.heap.size w (grow (redrawn w2 d) os)) := b2.out.trans ((below_regrown w2 d os).mono b2.out.size)
  have g5 : Hid ((grow (redrawn w2 d) os).heap[w.heap.size]? = some (.cells cs 29)) := ((below_regrown w2 d os).block _ (heap_in g2.out)).trans g2.out
  obtain ⟨w5, hw5⟩ : ∃ w5, w5 = grow (redrawn w2 d) os := ⟨_, rfl⟩
  rw [← hw5] at b5 g5 ⊢
  clear hw5 k0 L1 D40
  have e51 := e50.out.1
  have hb5a : Below w5.heap.size w5 (w5.alloc (.cells #[.int .u8 t] 5)) := (Below.refl _ _).alloc (Nat.le_refl _) _
  have C42 : Hid (Calls Tryz.prog 42 #[.slice (some ⟨w5.heap.size, 0, none⟩) 1 1, .int .i64 N] (w5.alloc (.cells #[.int .u8 t] 5)) fun e w' => Made (w5.alloc (.cells #[.int .u8 t] 5)) w' e (1 + kn N) (cellsOf (oneZ t) 1 ++ cellsOf (glZ N) (kn N))) :=
    putLength_in (some ⟨w5.heap.size, 0, none⟩) 1 1 (oneZ t) N (by omega) (by have := HN2.out; omega) _ (new_came w5 1 (oneZ t) _ rfl (fun i => by have := e50.out.2; unfold oneZ; split <;> omega)) (by decide)
  go_wp2_with fail
  go_must (go_at_call 42)
  refine C42.out.mono ?_
  rintro e w6 ⟨g, cp, rfl, ho, hb⟩
  have HO : Hid (w6.ownsRow w5.heap.size 5 1 (.slice (some ⟨g, 0, none⟩) (1 + kn N) cp) (1 + kn N) (cellsOf (oneZ t) 1 ++ cellsOf (glZ N) (kn N))) := own_base ho hb5a.size
  have B6 : Hid (Below w5.heap.size w5 w6) := hb5a.trans (hb.mono hb5a.size)
  have HKN : Hid (1 + kn N ≤ 5) := by show _ ≤ _; have := kn_bd N; omega
  have X6 : Hid (∃ xs, xs = cellsOf (oneZ t) 1 ++ cellsOf (glZ N) (kn N)) := ⟨_, rfl⟩
  obtain ⟨xs, hxs⟩ := X6.out
  rw [← hxs] at HO
  have HXS : Hid (cellsOf (oneZ t) 1 ++ cellsOf (glZ N) (kn N) = xs) := hxs.symm
  clear hb ho hb5a C42 e51 hxs X6
  go_wp2_with fail
  go_must (go_at_call 41)
  refine (grow_own w5.heap.size (1 + kn N) N _ xs w6 HO.out (by simp) B6.out.size (by have := HKN.out; omega) (by have := HN2.out; omega)).mono ?_
  rintro e w7 ⟨v7, rfl, o7, n7, gb7, ow7⟩
  have N7 : Hid (v7 ≠ .slice none 0 0) := n7
  have O7 : Hid (w7.ownsRow w5.heap.size 5 1 v7 (1 + kn N) xs) := o7
  have B7 : Hid (Below w5.heap.size w5 w7) := B6.out.trans (gb_below2 gb7 B6.out.size (fun k e => (HO.out.lt k e).1))
  have g7 : Hid (w7.heap[w.heap.size]? = some (.cells cs 29)) := (B7.out.block _ (heap_in g5.out)).trans g5.out
  clear o7 n7 gb7 ow7
  go_wp2_with (first | (refine wpList_load_wanted rfl _ rfl w.heap.size rfl _ (0, 0) g7.out hsz.out ?_) | fail)
  go_must (go_at_call 43)
  refine (C43.out w5 w7 v7 (1 + kn N) xs b5.out O7.out N7.out B7.out (by have := HKN.out; omega)).mono ?_
  rintro e w8 ⟨v8, rfl, o8, n8, gb8, ow8⟩
  have O8 : Hid (w8.ownsRow w.heap.size 5 1 v8 (1 + kn N + N) (xs ++ T)) := own_base o8 b5.out.size
  have N8 : Hid (v8 ≠ .slice none 0 0) := n8
  have B8 : Hid (Below w.heap.size w w8) := by
    have h1 : Below w5.heap.size w5 w8 := B7.out.trans (gb_below2 gb8 B7.out.size (fun k e => (O7.out.lt k e).1))
    exact b5.out.trans (h1.mono b5.out.size)
  clear o8 n8 gb8 ow8
  go_wp2_with fail
  go_ret2
  exact ⟨v8, rfl, by rw [HXS.out]; exact O8.out, N8.out, B8.out⟩

set_option maxRecDepth 100000 in
set_option maxHeartbeats 4000000 in
theorem encode_k7 (p : Pk) (c : Cn) (w : World) (N : Nat) (hg : Gd w) (hin : In w p c) (hs : Small p c) (hk : p.kind = 7) (hR : Right TT p c) (hN : sz p c = N) (hN2 : N ≤ 299990) :
    Calls Tryz.prog 11 #[.agg (pkCells p)] w fun e w' => ∃ v, e = .returned (.tuple #[v, .int .i64 0]) ∧ w'.ownsRow w.heap.size 5 1 v (1 + kn N + N) (cellsOf (oneZ (16 * p.kind + fg p)) 1 ++ cellsOf (glZ N) (kn N) ++ fieldsL p c) ∧ v ≠ .slice none 0 0 ∧ Below w.heap.size w w' := by
  have h0 := (ck_right TT p c).2 hR
  obtain ⟨F, hF⟩ : ∃ F, F = fg p := ⟨_, rfl⟩
  have e50 : Hid (bits .or .i64 112 F % 256 = 16 * p.kind + F ∧ 0 ≤ 16 * p.kind + F ∧ 16 * p.kind + F ≤ 255) := by
    have hb := fg_bd hR
    rw [← hF] at hb
    have := or_first ⟨7, by decide⟩ ⟨F.toNat, by omega⟩
    have e2 : ((F.toNat : Nat) : Int) = F := by omega
    simp only at this
    rw [e2] at this
    exact ⟨by rw [hk]; exact this, by omega, by omega⟩
  rw [← hF]
  obtain ⟨t, ht⟩ : ∃ t, t = 16 * p.kind + F := ⟨_, rfl⟩
  rw [← ht] at e50 ⊢
  clear ht
  obtain ⟨W, hW⟩ : ∃ W, W = w.alloc (.cells (pkCells p) 29) := ⟨_, rfl⟩
  have b0 : Hid (Below w.heap.size w W) := box_below hW
  have g0 : Hid (W.heap[w.heap.size]? = some (.cells (pkCells p) 29)) := by show _ = _; rw [hW]; exact heap_alloc_new w _
  have C10 : Hid (∀ w', Below w.heap.size w w' → Calls Tryz.prog 10 #[.agg (pkCells p)] w' fun e w'' => e = .returned (.int .i64 0) ∧ Below w'.heap.size w' w'') := fun w' hb => by
    have := check_any p c w' (hg.below hb) (hin.below hb) hs
    rw [h0] at this; exact this
  have C16 : Hid (∀ w', Below w.heap.size w w' → Calls Tryz.prog 16 #[.agg (pkCells p)] w' fun e w'' => e = .returned (.int .i64 N) ∧ Below w'.heap.size w' w'') := fun w' hb => by
    have := length_any p c w' (hg.below hb) (hin.below hb) hs
    rw [if_pos h0, hN] at this; exact this
  have C40 : Hid (∀ w', Below w.heap.size w w' → Calls Tryz.prog 40 #[.agg (pkCells p)] w' fun e w'' => e = .returned (.int .i64 F) ∧ Below w'.heap.size w' w'') := fun w' hb => by
    have := flags_any p c w' (hg.below hb) (hin.below hb) hs hR
    rw [← hF] at this; exact this
  have C43 : Hid (∀ (w5 w' : World) (v : Value) (n : Nat) (xs : List Value), Below w.heap.size w w5 → w'.ownsRow w5.heap.size 5 1 v n xs → v ≠ .slice none 0 0 → Below w5.heap.size w5 w' → n ≤ 10 → Calls Tryz.prog 43 #[v, .agg (pkCells p)] w' fun e w'' => Adds w5.heap.size v w' w'' e (n + N) (xs ++ fieldsL p c)) := fun w5 w' v n xs hb h1 hv h2 hn => by
    have := wFields_any w5 w' p c v n xs hR (hin.below hb) (by omega) h1 hv h2 hn
    rw [hN] at this; exact this
  obtain ⟨T, hT⟩ : ∃ T, T = fieldsL p c := ⟨_, rfl⟩
  rw [← hT] at C43 ⊢
  obtain ⟨cs, hcs⟩ : ∃ cs, cs = pkCells p := ⟨_, rfl⟩
  have hsz : Hid (cs.size = 25) := by show _ = _; rw [hcs]; rfl
  have hk0 : Hid (cs[0]? = some (.int .i64 7)) := by show _ = _; rw [hcs, ← hk]; rfl
  rw [← hcs] at C10 C16 C40 C43 g0 hW ⊢
  have HN2 : Hid (N ≤ 299990) := hN2
  clear hcs hT hg hin hs hk h0 hF hN hN2 hR
  go_enter Tryz.func11, Tryz.ntmps11
  go_upto_region 1 with fail
  rw [← hW]
  clear hW
  go_wp2_with (first | (refine wpList_load_wanted rfl _ rfl w.heap.size rfl _ (0, 0) g0.out hsz.out ?_) | fail)
  go_must (go_at_call 10)
  refine (C10.out _ b0.out).mono ?_
  rintro e w1 ⟨rfl, hb⟩
  have b1 : Hid (Below w.heap.size w w1) := b0.out.trans (hb.mono b0.out.size)
  have g1 : Hid (w1.heap[w.heap.size]? = some (.cells cs 29)) := (hb.block _ (heap_in g0.out)).trans g0.out
  clear hb
  go_wp2_with (first | (refine wpList_load_wanted rfl _ rfl w.heap.size rfl _ (0, 0) g1.out hsz.out ?_) | fail)
  go_must (go_at_call 16)
  refine (C16.out _ b1.out).mono ?_
  rintro e w2 ⟨rfl, hb⟩
  have b2 : Hid (Below w.heap.size w w2) := b1.out.trans (hb.mono b1.out.size)
  have g2 : Hid (w2.heap[w.heap.size]? = some (.cells cs 29)) := (hb.block _ (heap_in g1.out)).trans g1.out
  clear hb
  go_upto_region 5 with fail
  have k0 : ∀ d os, (grow (redrawn w2 d) os).cell? ⟨w.heap.size, 0, none⟩ = some (.int .i64 7) := fun d os => cell_later (below_regrown w2 d os) (box_cells g2.out 0 _ hk0.out)
  have L1 : Hid (∀ w', (∃ p : Regrown, w' = grow (redrawn w2 p.d) p.os) → (loadVar 29 ⟨w.heap.size, 0, none⟩).run Tryz.prog w' = .ok (.agg cs) w') := by
    rintro _ ⟨pp, rfl⟩
    exact run_loadVar_row _ w.heap.size 29 29 cs (0, 0) _ (((below_regrown w2 pp.d pp.os).block _ (heap_in g2.out)).trans g2.out) Tryz.underlying29 rfl (by rw [hsz.out]; kernel_rfl)
  have D40 : Hid (∀ d os, Calls Tryz.prog 40 #[.agg cs] (grow (redrawn w2 d) os) fun e w'' => e = .returned (.int .i64 F) ∧ Below (grow (redrawn w2 d) os).heap.size (grow (redrawn w2 d) os) w'') := fun d os => C40.out _ (b2.out.trans ((below_regrown w2 d os).mono b2.out.size))
  refine wp_region_quiet_below (by kernel_rfl) (by kernel_rfl) ?_
  repeat (first | (refine quiet_load rfl rfl w.heap.size rfl (.agg cs) L1.out ?_) | quiet_step (first | (go_at_call 40; exact Calls.regrown_of (D40.out _ _))))
  refine wpQuiet_nil ?_
  rintro _ ⟨⟨d, os⟩, rfl⟩
  have b5 : Hid (Below w.heap.size w (grow (redrawn w2 d) os)) := b2.out.trans ((below_regrown w2 d os).mono b2.out.size)
  have g5 : Hid ((grow (redrawn w2 d) os).heap[w.heap.size]? = some (.cells cs 29)) := ((below_regrown w2 d os).block _ (heap_in g2.out)).trans g2.out
  obtain ⟨w5, hw5⟩ : ∃ w5, w5 = grow (redrawn w2 d) os := ⟨_, rfl⟩
  rw [← hw5] at b5 g5 ⊢
  clear hw5 k0 L1 D40
  have e51 := e50.out.1
  have hb5a : Below w5.heap.size w5 (w5.alloc (.cells #[.int .u8 t] 5)) := (Below.refl _ _).alloc (Nat.le_refl _) _
  have C42 : Hid (Calls Tryz.prog 42 #[.slice (some ⟨w5.heap.size, 0, none⟩) 1 1, .int .i64 N] (w5.alloc (.cells #[.int .u8 t] 5)) fun e w' => Made (w5.alloc (.cells #[.int .u8 t] 5)) w' e (1 + kn N) (cellsOf (oneZ t) 1 ++ cellsOf (glZ N) (kn N))) :=
    putLength_in (some ⟨w5.heap.size, 0, none⟩) 1 1 (oneZ t) N (by omega) (by have := HN2.out; omega) _ (new_came w5 1 (oneZ t) _ rfl (fun i => by have := e50.out.2; unfold oneZ; split <;> omega)) (by decide)
  go_wp2_with fail
  go_must (go_at_call 42)
  refine C42.out.mono ?_
  rintro e w6 ⟨g, cp, rfl, ho, hb⟩
  have HO : Hid (w6.ownsRow w5.heap.size 5 1 (.slice (some ⟨g, 0, none⟩) (1 + kn N) cp) (1 + kn N) (cellsOf (oneZ t) 1 ++ cellsOf (glZ N) (kn N))) := own_base ho hb5a.size
  have B6 : Hid (Below w5.heap.size w5 w6) := hb5a.trans (hb.mono hb5a.size)
  have HKN : Hid (1 + kn N ≤ 5) := by show _ ≤ _; have := kn_bd N; omega
  have X6 : Hid (∃ xs, xs = cellsOf (oneZ t) 1 ++ cellsOf (glZ N) (kn N)) := ⟨_, rfl⟩
  obtain ⟨xs, hxs⟩ := X6.out
  rw [← hxs] at HO
  have HXS : Hid (cellsOf (oneZ t) 1 ++ cellsOf (glZ N) (kn N) = xs) := hxs.symm
  clear hb ho hb5a C42 e51 hxs X6
  go_wp2_with fail
  go_must (go_at_call 41)
  refine (grow_own w5.heap.size (1 + kn N) N _ xs w6 HO.out (by simp) B6.out.size (by have := HKN.out; omega) (by have := HN2.out; omega)).mono ?_
  rintro e w7 ⟨v7, rfl, o7, n7, gb7, ow7⟩
  have N7 : Hid (v7 ≠ .slice none 0 0) := n7
  have O7 : Hid (w7.ownsRow w5.heap.size 5 1 v7 (1 + kn N) xs) := o7
  have B7 : Hid (Below w5.heap.size w5 w7) := B6.out.trans (gb_below2 gb7 B6.out.size (fun k e => (HO.out.lt k e).1))
  have g7 : Hid (w7.heap[w.heap.size]? = some (.cells cs 29)) := (B7.out.block _ (heap_in g5.out)).trans g5.out
  clear o7 n7 gb7 ow7
  go_wp2_with (first | (refine wpList_load_wanted rfl _ rfl w.heap.size rfl _ (0, 0) g7.out hsz.out ?_) | fail)
  go_must (go_at_call 43)
  refine (C43.out w5 w7 v7 (1 + kn N) xs b5.out O7.out N7.out B7.out (by have := HKN.out; omega)).mono ?_
  rintro e w8 ⟨v8, rfl, o8, n8, gb8, ow8⟩
  have O8 : Hid (w8.ownsRow w.heap.size 5 1 v8 (1 + kn N + N) (xs ++ T)) := own_base o8 b5.out.size
  have N8 : Hid (v8 ≠ .slice none 0 0) := n8
  have B8 : Hid (Below w.heap.size w w8) := by
    have h1 : Below w5.heap.size w5 w8 := B7.out.trans (gb_below2 gb8 B7.out.size (fun k e => (O7.out.lt k e).1))
    exact b5.out.trans (h1.mono b5.out.size)
  clear o8 n8 gb8 ow8
  go_wp2_with fail
  go_ret2
  exact ⟨v8, rfl, by rw [HXS.out]; exact O8.out, N8.out, B8.out⟩

set_option maxRecDepth 100000 in
set_option maxHeartbeats 4000000 in
theorem encode_k8 (p : Pk) (c : Cn) (w : World) (N : Nat) (hg : Gd w) (hin : In w p c) (hs : Small p c) (hk : p.kind = 8) (hR : Right TT p c) (hN : sz p c = N) (hN2 : N ≤ 299990) :
    Calls Tryz.prog 11 #[.agg (pkCells p)] w fun e w' => ∃ v, e = .returned (.tuple #[v, .int .i64 0]) ∧ w'.ownsRow w.heap.size 5 1 v (1 + kn N + N) (cellsOf (oneZ (16 * p.kind + fg p)) 1 ++ cellsOf (glZ N) (kn N) ++ fieldsL p c) ∧ v ≠ .slice none 0 0 ∧ Below w.heap.size w w' := by
  have h0 := (ck_right TT p c).2 hR
  obtain ⟨F, hF⟩ : ∃ F, F = fg p := ⟨_, rfl⟩
  have e50 : Hid (bits .or .i64 128 F % 256 = 16 * p.kind + F ∧ 0 ≤ 16 * p.kind + F ∧ 16 * p.kind + F ≤ 255) := by
    have hb := fg_bd hR
    rw [← hF] at hb
    have := or_first ⟨8, by decide⟩ ⟨F.toNat, by omega⟩
    have e2 : ((F.toNat : Nat) : Int) = F := by omega
    simp only at this
    rw [e2] at this
    exact ⟨by rw [hk]; exact this, by omega, by omega⟩
  rw [← hF]
  obtain ⟨t, ht⟩ : ∃ t, t = 16 * p.kind + F := ⟨_, rfl⟩
  rw [← ht] at e50 ⊢
  clear ht
  obtain ⟨W, hW⟩ : ∃ W, W = w.alloc (.cells (pkCells p) 29) := ⟨_, rfl⟩
  have b0 : Hid (Below w.heap.size w W) := box_below hW
  have g0 : Hid (W.heap[w.heap.size]? = some (.cells (pkCells p) 29)) := by show _ = _; rw [hW]; exact heap_alloc_new w _
  have C10 : Hid (∀ w', Below w.heap.size w w' → Calls Tryz.prog 10 #[.agg (pkCells p)] w' fun e w'' => e = .returned (.int .i64 0) ∧ Below w'.heap.size w' w'') := fun w' hb => by
    have := check_any p c w' (hg.below hb) (hin.below hb) hs
    rw [h0] at this; exact this
  have C16 : Hid (∀ w', Below w.heap.size w w' → Calls Tryz.prog 16 #[.agg (pkCells p)] w' fun e w'' => e = .returned (.int .i64 N) ∧ Below w'.heap.size w' w'') := fun w' hb => by
    have := length_any p c w' (hg.below hb) (hin.below hb) hs
    rw [if_pos h0, hN] at this; exact this
  have C40 : Hid (∀ w', Below w.heap.size w w' → Calls Tryz.prog 40 #[.agg (pkCells p)] w' fun e w'' => e = .returned (.int .i64 F) ∧ Below w'.heap.size w' w'') := fun w' hb => by
    have := flags_any p c w' (hg.below hb) (hin.below hb) hs hR
    rw [← hF] at this; exact this
  have C43 : Hid (∀ (w5 w' : World) (v : Value) (n : Nat) (xs : List Value), Below w.heap.size w w5 → w'.ownsRow w5.heap.size 5 1 v n xs → v ≠ .slice none 0 0 → Below w5.heap.size w5 w' → n ≤ 10 → Calls Tryz.prog 43 #[v, .agg (pkCells p)] w' fun e w'' => Adds w5.heap.size v w' w'' e (n + N) (xs ++ fieldsL p c)) := fun w5 w' v n xs hb h1 hv h2 hn => by
    have := wFields_any w5 w' p c v n xs hR (hin.below hb) (by omega) h1 hv h2 hn
    rw [hN] at this; exact this
  obtain ⟨T, hT⟩ : ∃ T, T = fieldsL p c := ⟨_, rfl⟩
  rw [← hT] at C43 ⊢
  obtain ⟨cs, hcs⟩ : ∃ cs, cs = pkCells p := ⟨_, rfl⟩
  have hsz : Hid (cs.size = 25) := by show _ = _; rw [hcs]; rfl
  have hk0 : Hid (cs[0]? = some (.int .i64 8)) := by show _ = _; rw [hcs, ← hk]; rfl
  rw [← hcs] at C10 C16 C40 C43 g0 hW ⊢
  have HN2 : Hid (N ≤ 299990) := hN2
  clear hcs hT hg hin hs hk h0 hF hN hN2 hR
  go_enter Tryz.func11, Tryz.ntmps11
  go_upto_region 1 with fail
  rw [← hW]
  clear hW
  go_wp2_with (first | (refine wpList_load_wanted rfl _ rfl w.heap.size rfl _ (0, 0) g0.out hsz.out ?_) | fail)
  go_must (go_at_call 10)
  refine (C10.out _ b0.out).mono ?_
  rintro e w1 ⟨rfl, hb⟩
  have b1 : Hid (Below w.heap.size w w1) := b0.out.trans (hb.mono b0.out.size)
  have g1 : Hid (w1.heap[w.heap.size]? = some (.cells cs 29)) := (hb.block _ (heap_in g0.out)).trans g0.out
  clear hb
  go_wp2_with (first | (refine wpList_load_wanted rfl _ rfl w.heap.size rfl _ (0, 0) g1.out hsz.out ?_) | fail)
  go_must (go_at_call 16)
  refine (C16.out _ b1.out).mono ?_
  rintro e w2 ⟨rfl, hb⟩
  have b2 : Hid (Below w.heap.size w w2) := b1.out.trans (hb.mono b1.out.size)
  have g2 : Hid (w2.heap[w.heap.size]? = some (.cells cs 29)) := (hb.block _ (heap_in g1.out)).trans g1.out
  clear hb
  go_upto_region 5 with fail
  have k0 : ∀ d os, (grow (redrawn w2 d) os).cell? ⟨w.heap.size, 0, none⟩ = some (.int .i64 8) := fun d os => cell_later (below_regrown w2 d os) (box_cells g2.out 0 _ hk0.out)
  have L1 : Hid (∀ w', (∃ p : Regrown, w' = grow (redrawn w2 p.d) p.os) → (loadVar 29 ⟨w.heap.size, 0, none⟩).run Tryz.prog w' = .ok (.agg cs) w') := by
    rintro _ ⟨pp, rfl⟩
    exact run_loadVar_row _ w.heap.size 29 29 cs (0, 0) _ (((below_regrown w2 pp.d pp.os).block _ (heap_in g2.out)).trans g2.out) Tryz.underlying29 rfl (by rw [hsz.out]; kernel_rfl)
  have D40 : Hid (∀ d os, Calls Tryz.prog 40 #[.agg cs] (grow (redrawn w2 d) os) fun e w'' => e = .returned (.int .i64 F) ∧ Below (grow (redrawn w2 d) os).heap.size (grow (redrawn w2 d) os) w'') := fun d os => C40.out _ (b2.out.trans ((below_regrown w2 d os).mono b2.out.size))
  refine wp_region_quiet_below (by kernel_rfl) (by kernel_rfl) ?_
  repeat (first | (refine quiet_load rfl rfl w.heap.size rfl (.agg cs) L1.out ?_) | quiet_step (first | (go_at_call 40; exact Calls.regrown_of (D40.out _ _))))
  refine wpQuiet_nil ?_
  rintro _ ⟨⟨d, os⟩, rfl⟩
  have b5 : Hid (Below w.heap.size w (grow (redrawn w2 d) os)) := b2.out.trans ((below_regrown w2 d os).mono b2.out.size)
  have g5 : Hid ((grow (redrawn w2 d) os).heap[w.heap.size]? = some (.cells cs 29)) := ((below_regrown w2 d os).block _ (heap_in g2.out)).trans g2.out
  obtain ⟨w5, hw5⟩ : ∃ w5, w5 = grow (redrawn w2 d) os := ⟨_, rfl⟩
  rw [← hw5] at b5 g5 ⊢
  clear hw5 k0 L1 D40
  have e51 := e50.out.1
  have hb5a : Below w5.heap.size w5 (w5.alloc (.cells #[.int .u8 t] 5)) := (Below.refl _ _).alloc (Nat.le_refl _) _
  have C42 : Hid (Calls Tryz.prog 42 #[.slice (some ⟨w5.heap.size, 0, none⟩) 1 1, .int .i64 N] (w5.alloc (.cells #[.int .u8 t] 5)) fun e w' => Made (w5.alloc (.cells #[.int .u8 t] 5)) w' e (1 + kn N) (cellsOf (oneZ t) 1 ++ cellsOf (glZ N) (kn N))) :=
    putLength_in (some ⟨w5.heap.size, 0, none⟩) 1 1 (oneZ t) N (by omega) (by have := HN2.out; omega) _ (new_came w5 1 (oneZ t) _ rfl (fun i => by have := e50.out.2; unfold oneZ; split <;> omega)) (by decide)
  go_wp2_with fail
  go_must (go_at_call 42)
  refine C42.out.mono ?_
  rintro e w6 ⟨g, cp, rfl, ho, hb⟩
  have HO : Hid (w6.ownsRow w5.heap.size 5 1 (.slice (some ⟨g, 0, none⟩) (1 + kn N) cp) (1 + kn N) (cellsOf (oneZ t) 1 ++ cellsOf (glZ N) (kn N))) := own_base ho hb5a.size
  have B6 : Hid (Below w5.heap.size w5 w6) := hb5a.trans (hb.mono hb5a.size)
  have HKN : Hid (1 + kn N ≤ 5) := by show _ ≤ _; have := kn_bd N; omega
  have X6 : Hid (∃ xs, xs = cellsOf (oneZ t) 1 ++ cellsOf (glZ N) (kn N)) := ⟨_, rfl⟩
  obtain ⟨xs, hxs⟩ := X6.out
  rw [← hxs] at HO
  have HXS : Hid (cellsOf (oneZ t) 1 ++ cellsOf (glZ N) (kn N) = xs) := hxs.symm
  clear hb ho hb5a C42 e51 hxs X6
  go_wp2_with fail
  go_must (go_at_call 41)
  refine (grow_own w5.heap.size (1 + kn N) N _ xs w6 HO.out (by simp) B6.out.size (by have := HKN.out; omega) (by have := HN2.out; omega)).mono ?_
  rintro e w7 ⟨v7, rfl, o7, n7, gb7, ow7⟩
  have N7 : Hid (v7 ≠ .slice none 0 0) := n7
  have O7 : Hid (w7.ownsRow w5.heap.size 5 1 v7 (1 + kn N) xs) := o7
  have B7 : Hid (Below w5.heap.size w5 w7) := B6.out.trans (gb_below2 gb7 B6.out.size (fun k e => (HO.out.lt k e).1))
  have g7 : Hid (w7.heap[w.heap.size]? = some (.cells cs 29)) := (B7.out.block _ (heap_in g5.out)).trans g5.out
  clear o7 n7 gb7 ow7
  go_wp2_with (first | (refine wpList_load_wanted rfl _ rfl w.heap.size rfl _ (0, 0) g7.out hsz.out ?_) | fail)
  go_must (go_at_call 43)
  refine (C43.out w5 w7 v7 (1 + kn N) xs b5.out O7.out N7.out B7.out (by have := HKN.out; omega)).mono ?_
  rintro e w8 ⟨v8, rfl, o8, n8, gb8, ow8⟩
  have O8 : Hid (w8.ownsRow w.heap.size 5 1 v8 (1 + kn N + N) (xs ++ T)) := own_base o8 b5.out.size
  have N8 : Hid (v8 ≠ .slice none 0 0) := n8
  have B8 : Hid (Below w.heap.size w w8) := by
    have h1 : Below w5.heap.size w5 w8 := B7.out.trans (gb_below2 gb8 B7.out.size (fun k e => (O7.out.lt k e).1))
    exact b5.out.trans (h1.mono b5.out.size)
  clear o8 n8 gb8 ow8
  go_wp2_with fail
  go_ret2
  exact ⟨v8, rfl, by rw [HXS.out]; exact O8.out, N8.out, B8.out⟩

set_option maxRecDepth 100000 in
set_option maxHeartbeats 4000000 in
theorem encode_k9 (p : Pk) (c : Cn) (w : World) (N : Nat) (hg : Gd w) (hin : In w p c) (hs : Small p c) (hk : p.kind = 9) (hR : Right TT p c) (hN : sz p c = N) (hN2 : N ≤ 299990) :
    Calls Tryz.prog 11 #[.agg (pkCells p)] w fun e w' => ∃ v, e = .returned (.tuple #[v, .int .i64 0]) ∧ w'.ownsRow w.heap.size 5 1 v (1 + kn N + N) (cellsOf (oneZ (16 * p.kind + fg p)) 1 ++ cellsOf (glZ N) (kn N) ++ fieldsL p c) ∧ v ≠ .slice none 0 0 ∧ Below w.heap.size w w' := by
  have h0 := (ck_right TT p c).2 hR
  obtain ⟨F, hF⟩ : ∃ F, F = fg p := ⟨_, rfl⟩
  have e50 : Hid (bits .or .i64 144 F % 256 = 16 * p.kind + F ∧ 0 ≤ 16 * p.kind + F ∧ 16 * p.kind + F ≤ 255) := by
    have hb := fg_bd hR
    rw [← hF] at hb
    have := or_first ⟨9, by decide⟩ ⟨F.toNat, by omega⟩
    have e2 : ((F.toNat : Nat) : Int) = F := by omega
    simp only at this
    rw [e2] at this
    exact ⟨by rw [hk]; exact this, by omega, by omega⟩
  rw [← hF]
  obtain ⟨t, ht⟩ : ∃ t, t = 16 * p.kind + F := ⟨_, rfl⟩
  rw [← ht] at e50 ⊢
  clear ht
  obtain ⟨W, hW⟩ : ∃ W, W = w.alloc (.cells (pkCells p) 29) := ⟨_, rfl⟩
  have b0 : Hid (Below w.heap.size w W) := box_below hW
  have g0 : Hid (W.heap[w.heap.size]? = some (.cells (pkCells p) 29)) := by show _ = _; rw [hW]; exact heap_alloc_new w _
  have C10 : Hid (∀ w', Below w.heap.size w w' → Calls Tryz.prog 10 #[.agg (pkCells p)] w' fun e w'' => e = .returned (.int .i64 0) ∧ Below w'.heap.size w' w'') := fun w' hb => by
    have := check_any p c w' (hg.below hb) (hin.below hb) hs
    rw [h0] at this; exact this
  have C16 : Hid (∀ w', Below w.heap.size w w' → Calls Tryz.prog 16 #[.agg (pkCells p)] w' fun e w'' => e = .returned (.int .i64 N) ∧ Below w'.heap.size w' w'') := fun w' hb => by
    have := length_any p c w' (hg.below hb) (hin.below hb) hs
    rw [if_pos h0, hN] at this; exact this
  have C40 : Hid (∀ w', Below w.heap.size w w' → Calls Tryz.prog 40 #[.agg (pkCells p)] w' fun e w'' => e = .returned (.int .i64 F) ∧ Below w'.heap.size w' w'') := fun w' hb => by
    have := flags_any p c w' (hg.below hb) (hin.below hb) hs hR
    rw [← hF] at this; exact this
  have C43 : Hid (∀ (w5 w' : World) (v : Value) (n : Nat) (xs : List Value), Below w.heap.size w w5 → w'.ownsRow w5.heap.size 5 1 v n xs → v ≠ .slice none 0 0 → Below w5.heap.size w5 w' → n ≤ 10 → Calls Tryz.prog 43 #[v, .agg (pkCells p)] w' fun e w'' => Adds w5.heap.size v w' w'' e (n + N) (xs ++ fieldsL p c)) := fun w5 w' v n xs hb h1 hv h2 hn => by
    have := wFields_any w5 w' p c v n xs hR (hin.below hb) (by omega) h1 hv h2 hn
    rw [hN] at this; exact this
  obtain ⟨T, hT⟩ : ∃ T, T = fieldsL p c := ⟨_, rfl⟩
  rw [← hT] at C43 ⊢
  obtain ⟨cs, hcs⟩ : ∃ cs, cs = pkCells p := ⟨_, rfl⟩
  have hsz : Hid (cs.size = 25) := by show _ = _; rw [hcs]; rfl
  have hk0 : Hid (cs[0]? = some (.int .i64 9)) := by show _ = _; rw [hcs, ← hk]; rfl
  rw [← hcs] at C10 C16 C40 C43 g0 hW ⊢
  have HN2 : Hid (N ≤ 299990) := hN2
  clear hcs hT hg hin hs hk h0 hF hN hN2 hR
  go_enter Tryz.func11, Tryz.ntmps11
  go_upto_region 1 with fail
  rw [← hW]
  clear hW
  go_wp2_with (first | (refine wpList_load_wanted rfl _ rfl w.heap.size rfl _ (0, 0) g0.out hsz.out ?_) | fail)
  go_must (go_at_call 10)
  refine (C10.out _ b0.out).mono ?_
  rintro e w1 ⟨rfl, hb⟩
  have b1 : Hid (Below w.heap.size w w1) := b0.out.trans (hb.mono b0.out.size)
  have g1 : Hid (w1.heap[w.heap.size]? = some (.cells cs 29)) := (hb.block _ (heap_in g0.out)).trans g0.out
  clear hb
  go_wp2_with (first | (refine wpList_load_wanted rfl _ rfl w.heap.size rfl _ (0, 0) g1.out hsz.out ?_) | fail)
  go_must (go_at_call 16)
  refine (C16.out _ b1.out).mono ?_
  rintro e w2 ⟨rfl, hb⟩
  have b2 : Hid (Below w.heap.size w w2) := b1.out.trans (hb.mono b1.out.size)
  have g2 : Hid (w2.heap[w.heap.size]? = some (.cells cs 29)) := (hb.block _ (heap_in g1.out)).trans g1.out
  clear hb
  go_upto_region 5 with fail
  have k0 : ∀ d os, (grow (redrawn w2 d) os).cell? ⟨w.heap.size, 0, none⟩ = some (.int .i64 9) := fun d os => cell_later (below_regrown w2 d os) (box_cells g2.out 0 _ hk0.out)
  have L1 : Hid (∀ w', (∃ p : Regrown, w' = grow (redrawn w2 p.d) p.os) → (loadVar 29 ⟨w.heap.size, 0, none⟩).run Tryz.prog w' = .ok (.agg cs) w') := by
    rintro _ ⟨pp, rfl⟩
    exact run_loadVar_row _ w.heap.size 29 29 cs (0, 0) _ (((below_regrown w2 pp.d pp.os).block _ (heap_in g2.out)).trans g2.out) Tryz.underlying29 rfl (by rw [hsz.out]; kernel_rfl)
  have D40 : Hid (∀ d os, Calls Tryz.prog 40 #[.agg cs] (grow (redrawn w2 d) os) fun e w'' => e = .returned (.int .i64 F) ∧ Below (grow (redrawn w2 d) os).heap.size (grow (redrawn w2 d) os) w'') := fun d os => C40.out _ (b2.out.trans ((below_regrown w2 d os).mono b2.out.size))
  refine wp_region_quiet_below (by kernel_rfl) (by kernel_rfl) ?_
  repeat (first | (refine quiet_load rfl rfl w.heap.size rfl (.agg cs) L1.out ?_) | quiet_step (first | (go_at_call 40; exact Calls.regrown_of (D40.out _ _))))
  refine wpQuiet_nil ?_
  rintro _ ⟨⟨d, os⟩, rfl⟩
  have b5 : Hid (Below w.heap.size w (grow (redrawn w2 d) os)) := b2.out.trans ((below_regrown w2 d os).mono b2.out.size)
  have g5 : Hid ((grow (redrawn w2 d) os).heap[w.heap.size]? = some (.cells cs 29)) := ((below_regrown w2 d os).block _ (heap_in g2.out)).trans g2.out
  obtain ⟨w5, hw5⟩ : ∃ w5, w5 = grow (redrawn w2 d) os := ⟨_, rfl⟩
  rw [← hw5] at b5 g5 ⊢
  clear hw5 k0 L1 D40
  have e51 := e50.out.1
  have hb5a : Below w5.heap.size w5 (w5.alloc (.cells #[.int .u8 t] 5)) := (Below.refl _ _).alloc (Nat.le_refl _) _
  have C42 : Hid (Calls Tryz.prog 42 #[.slice (some ⟨w5.heap.size, 0, none⟩) 1 1, .int .i64 N] (w5.alloc (.cells #[.int .u8 t] 5)) fun e w' => Made (w5.alloc (.cells #[.int .u8 t] 5)) w' e (1 + kn N) (cellsOf (oneZ t) 1 ++ cellsOf (glZ N) (kn N))) :=
    putLength_in (some ⟨w5.heap.size, 0, none⟩) 1 1 (oneZ t) N (by omega) (by have := HN2.out; omega) _ (new_came w5 1 (oneZ t) _ rfl (fun i => by have := e50.out.2; unfold oneZ; split <;> omega)) (by decide)
  go_wp2_with fail
  go_must (go_at_call 42)
  refine C42.out.mono ?_
  rintro e w6 ⟨g, cp, rfl, ho, hb⟩
  have HO : Hid (w6.ownsRow w5.heap.size 5 1 (.slice (some ⟨g, 0, none⟩) (1 + kn N) cp) (1 + kn N) (cellsOf (oneZ t) 1 ++ cellsOf (glZ N) (kn N))) := own_base ho hb5a.size
  have B6 : Hid (Below w5.heap.size w5 w6) := hb5a.trans (hb.mono hb5a.size)
  have HKN : Hid (1 + kn N ≤ 5) := by show _ ≤ _; have := kn_bd N; omega
  have X6 : Hid (∃ xs, xs = cellsOf (oneZ t) 1 ++ cellsOf (glZ N) (kn N)) := ⟨_, rfl⟩
  obtain ⟨xs, hxs⟩ := X6.out
  rw [← hxs] at HO
  have HXS : Hid (cellsOf (oneZ t) 1 ++ cellsOf (glZ N) (kn N) = xs) := hxs.symm
  clear hb ho hb5a C42 e51 hxs X6
  go_wp2_with fail
  go_must (go_at_call 41)
  refine (grow_own w5.heap.size (1 + kn N) N _ xs w6 HO.out (by simp) B6.out.size (by have := HKN.out; omega) (by have := HN2.out; omega)).mono ?_
  rintro e w7 ⟨v7, rfl, o7, n7, gb7, ow7⟩
  have N7 : Hid (v7 ≠ .slice none 0 0) := n7
  have O7 : Hid (w7.ownsRow w5.heap.size 5 1 v7 (1 + kn N) xs) := o7
  have B7 : Hid (Below w5.heap.size w5 w7) := B6.out.trans (gb_below2 gb7 B6.out.size (fun k e => (HO.out.lt k e).1))
  have g7 : Hid (w7.heap[w.heap.size]? = some (.cells cs 29)) := (B7.out.block _ (heap_in g5.out)).trans g5.out
  clear o7 n7 gb7 ow7
  go_wp2_with (first | (refine wpList_load_wanted rfl _ rfl w.heap.size rfl _ (0, 0) g7.out hsz.out ?_) | fail)
  go_must (go_at_call 43)
  refine (C43.out w5 w7 v7 (1 + kn N) xs b5.out O7.out N7.out B7.out (by have := HKN.out; omega)).mono ?_
  rintro e w8 ⟨v8, rfl, o8, n8, gb8, ow8⟩
  have O8 : Hid (w8.ownsRow w.heap.size 5 1 v8 (1 + kn N + N) (xs ++ T)) := own_base o8 b5.out.size
  have N8 : Hid (v8 ≠ .slice none 0 0) := n8
  have B8 : Hid (Below w.heap.size w w8) := by
    have h1 : Below w5.heap.size w5 w8 := B7.out.trans (gb_below2 gb8 B7.out.size (fun k e => (O7.out.lt k e).1))
    exact b5.out.trans (h1.mono b5.out.size)
  clear o8 n8 gb8 ow8
  go_wp2_with fail
  go_ret2
  exact ⟨v8, rfl, by rw [HXS.out]; exact O8.out, N8.out, B8.out⟩

set_option maxRecDepth 100000 in
set_option maxHeartbeats 4000000 in
theorem encode_k10 (p : Pk) (c : Cn) (w : World) (N : Nat) (hg : Gd w) (hin : In w p c) (hs : Small p c) (hk : p.kind = 10) (hR : Right TT p c) (hN : sz p c = N) (hN2 : N ≤ 299990) :
    Calls Tryz.prog 11 #[.agg (pkCells p)] w fun e w' => ∃ v, e = .returned (.tuple #[v, .int .i64 0]) ∧ w'.ownsRow w.heap.size 5 1 v (1 + kn N + N) (cellsOf (oneZ (16 * p.kind + fg p)) 1 ++ cellsOf (glZ N) (kn N) ++ fieldsL p c) ∧ v ≠ .slice none 0 0 ∧ Below w.heap.size w w' := by
  have h0 := (ck_right TT p c).2 hR
  obtain ⟨F, hF⟩ : ∃ F, F = fg p := ⟨_, rfl⟩
  have e50 : Hid (bits .or .i64 160 F % 256 = 16 * p.kind + F ∧ 0 ≤ 16 * p.kind + F ∧ 16 * p.kind + F ≤ 255) := by
    have hb := fg_bd hR
    rw [← hF] at hb
    have := or_first ⟨10, by decide⟩ ⟨F.toNat, by omega⟩
    have e2 : ((F.toNat : Nat) : Int) = F := by omega
    simp only at this
    rw [e2] at this
    exact ⟨by rw [hk]; exact this, by omega, by omega⟩
  rw [← hF]
  obtain ⟨t, ht⟩ : ∃ t, t = 16 * p.kind + F := ⟨_, rfl⟩
  rw [← ht] at e50 ⊢
  clear ht
  obtain ⟨W, hW⟩ : ∃ W, W = w.alloc (.cells (pkCells p) 29) := ⟨_, rfl⟩
  have b0 : Hid (Below w.heap.size w W) := box_below hW
  have g0 : Hid (W.heap[w.heap.size]? = some (.cells (pkCells p) 29)) := by show _ = _; rw [hW]; exact heap_alloc_new w _
  have C10 : Hid (∀ w', Below w.heap.size w w' → Calls Tryz.prog 10 #[.agg (pkCells p)] w' fun e w'' => e = .returned (.int .i64 0) ∧ Below w'.heap.size w' w'') := fun w' hb => by
    have := check_any p c w' (hg.below hb) (hin.below hb) hs
    rw [h0] at this; exact this
  have C16 : Hid (∀ w', Below w.heap.size w w' → Calls Tryz.prog 16 #[.agg (pkCells p)] w' fun e w'' => e = .returned (.int .i64 N) ∧ Below w'.heap.size w' w'') := fun w' hb => by
    have := length_any p c w' (hg.below hb) (hin.below hb) hs
    rw [if_pos h0, hN] at this; exact this
  have C40 : Hid (∀ w', Below w.heap.size w w' → Calls Tryz.prog 40 #[.agg (pkCells p)] w' fun e w'' => e = .returned (.int .i64 F) ∧ Below w'.heap.size w' w'') := fun w' hb => by
    have := flags_any p c w' (hg.below hb) (hin.below hb) hs hR
    rw [← hF] at this; exact this
  have C43 : Hid (∀ (w5 w' : World) (v : Value) (n : Nat) (xs : List Value), Below w.heap.size w w5 → w'.ownsRow w5.heap.size 5 1 v n xs → v ≠ .slice none 0 0 → Below w5.heap.size w5 w' → n ≤ 10 → Calls Tryz.prog 43 #[v, .agg (pkCells p)] w' fun e w'' => Adds w5.heap.size v w' w'' e (n + N) (xs ++ fieldsL p c)) := fun w5 w' v n xs hb h1 hv h2 hn => by
    have := wFields_any w5 w' p c v n xs hR (hin.below hb) (by omega) h1 hv h2 hn
    rw [hN] at this; exact this
  obtain ⟨T, hT⟩ : ∃ T, T = fieldsL p c := ⟨_, rfl⟩
  rw [← hT] at C43 ⊢
  obtain ⟨cs, hcs⟩ : ∃ cs, cs = pkCells p := ⟨_, rfl⟩
  have hsz : Hid (cs.size = 25) := by show _ = _; rw [hcs]; rfl
  have hk0 : Hid (cs[0]? = some (.int .i64 10)) := by show _ = _; rw [hcs, ← hk]; rfl
  rw [← hcs] at C10 C16 C40 C43 g0 hW ⊢
  have HN2 : Hid (N ≤ 299990) := hN2
  clear hcs hT hg hin hs hk h0 hF hN hN2 hR
  go_enter Tryz.func11, Tryz.ntmps11
  go_upto_region 1 with fail
  rw [← hW]
  clear hW
  go_wp2_with (first | (refine wpList_load_wanted rfl _ rfl w.heap.size rfl _ (0, 0) g0.out hsz.out ?_) | fail)
  go_must (go_at_call 10)
  refine (C10.out _ b0.out).mono ?_
  rintro e w1 ⟨rfl, hb⟩
  have b1 : Hid (Below w.heap.size w w1) := b0.out.trans (hb.mono b0.out.size)
  have g1 : Hid (w1.heap[w.heap.size]? = some (.cells cs 29)) := (hb.block _ (heap_in g0.out)).trans g0.out
  clear hb
  go_wp2_with (first | (refine wpList_load_wanted rfl _ rfl w.heap.size rfl _ (0, 0) g1.out hsz.out ?_) | fail)
  go_must (go_at_call 16)
  refine (C16.out _ b1.out).mono ?_
  rintro e w2 ⟨rfl, hb⟩
  have b2 : Hid (Below w.heap.size w w2) := b1.out.trans (hb.mono b1.out.size)
  have g2 : Hid (w2.heap[w.heap.size]? = some (.cells cs 29)) := (hb.block _ (heap_in g1.out)).trans g1.out
  clear hb
  go_upto_region 5 with fail
  have k0 : ∀ d os, (grow (redrawn w2 d) os).cell? ⟨w.heap.size, 0, none⟩ = some (.int .i64 10) := fun d os => cell_later (below_regrown w2 d os) (box_cells g2.out 0 _ hk0.out)
  have L1 : Hid (∀ w', (∃ p : Regrown, w' = grow (redrawn w2 p.d) p.os) → (loadVar 29 ⟨w.heap.size, 0, none⟩).run Tryz.prog w' = .ok (.agg cs) w') := by
    rintro _ ⟨pp, rfl⟩
    exact run_loadVar_row _ w.heap.size 29 29 cs (0, 0) _ (((below_regrown w2 pp.d pp.os).block _ (heap_in g2.out)).trans g2.out) Tryz.underlying29 rfl (by rw [hsz.out]; kernel_rfl)
  have D40 : Hid (∀ d os, Calls Tryz.prog 40 #[.agg cs] (grow (redrawn w2 d) os) fun e w'' => e = .returned (.int .i64 F) ∧ Below (grow (redrawn w2 d) os).heap.size (grow (redrawn w2 d) os) w'') := fun d os => C40.out _ (b2.out.trans ((below_regrown w2 d os).mono b2.out.size))
  refine wp_region_quiet_below (by kernel_rfl) (by kernel_rfl) ?_
  repeat (first | (refine quiet_load rfl rfl w.heap.size rfl (.agg cs) L1.out ?_) | quiet_step (first | (go_at_call 40; exact Calls.regrown_of (D40.out _ _))))
  refine wpQuiet_nil ?_
  rintro _ ⟨⟨d, os⟩, rfl⟩
  have b5 : Hid (Below w.heap.size w (grow (redrawn w2 d) os)) := b2.out.trans ((below_regrown w2 d os).mono b2.out.size)
  have g5 : Hid ((grow (redrawn w2 d) os).heap[w.heap.size]? = some (.cells cs 29)) := ((below_regrown w2 d os).block _ (heap_in g2.out)).trans g2.out
  obtain ⟨w5, hw5⟩ : ∃ w5, w5 = grow (redrawn w2 d) os := ⟨_, rfl⟩
  rw [← hw5] at b5 g5 ⊢
  clear hw5 k0 L1 D40
  have e51 := e50.out.1
  have hb5a : Below w5.heap.size w5 (w5.alloc (.cells #[.int .u8 t] 5)) := (Below.refl _ _).alloc (Nat.le_refl _) _
  have C42 : Hid (Calls Tryz.prog 42 #[.slice (some ⟨w5.heap.size, 0, none⟩) 1 1, .int .i64 N] (w5.alloc (.cells #[.int .u8 t] 5)) fun e w' => Made (w5.alloc (.cells #[.int .u8 t] 5)) w' e (1 + kn N) (cellsOf (oneZ t) 1 ++ cellsOf (glZ N) (kn N))) :=
    putLength_in (some ⟨w5.heap.size, 0, none⟩) 1 1 (oneZ t) N (by omega) (by have := HN2.out; omega) _ (new_came w5 1 (oneZ t) _ rfl (fun i => by have := e50.out.2; unfold oneZ; split <;> omega)) (by decide)
  go_wp2_with fail
  go_must (go_at_call 42)
  refine C42.out.mono ?_
  rintro e w6 ⟨g, cp, rfl, ho, hb⟩
  have HO : Hid (w6.ownsRow w5.heap.size 5 1 (.slice (some ⟨g, 0, none⟩) (1 + kn N) cp) (1 + kn N) (cellsOf (oneZ t) 1 ++ cellsOf (glZ N) (kn N))) := own_base ho hb5a.size
  have B6 : Hid (Below w5.heap.size w5 w6) := hb5a.trans (hb.mono hb5a.size)
  have HKN : Hid (1 + kn N ≤ 5) := by show _ ≤ _; have := kn_bd N; omega
  have X6 : Hid (∃ xs, xs = cellsOf (oneZ t) 1 ++ cellsOf (glZ N) (kn N)) := ⟨_, rfl⟩
  obtain ⟨xs, hxs⟩ := X6.out
  rw [← hxs] at HO
  have HXS : Hid (cellsOf (oneZ t) 1 ++ cellsOf (glZ N) (kn N) = xs) := hxs.symm
  clear hb ho hb5a C42 e51 hxs X6
  go_wp2_with fail
  go_must (go_at_call 41)
  refine (grow_own w5.heap.size (1 + kn N) N _ xs w6 HO.out (by simp) B6.out.size (by have := HKN.out; omega) (by have := HN2.out; omega)).mono ?_
  rintro e w7 ⟨v7, rfl, o7, n7, gb7, ow7⟩
  have N7 : Hid (v7 ≠ .slice none 0 0) := n7
  have O7 : Hid (w7.ownsRow w5.heap.size 5 1 v7 (1 + kn N) xs) := o7
  have B7 : Hid (Below w5.heap.size w5 w7) := B6.out.trans (gb_below2 gb7 B6.out.size (fun k e => (HO.out.lt k e).1))
  have g7 : Hid (w7.heap[w.heap.size]? = some (.cells cs 29)) := (B7.out.block _ (heap_in g5.out)).trans g5.out
  clear o7 n7 gb7 ow7
  go_wp2_with (first | (refine wpList_load_wanted rfl _ rfl w.heap.size rfl _ (0, 0) g7.out hsz.out ?_) | fail)
  go_must (go_at_call 43)
  refine (C43.out w5 w7 v7 (1 + kn N) xs b5.out O7.out N7.out B7.out (by have := HKN.out; omega)).mono ?_
  rintro e w8 ⟨v8, rfl, o8, n8, gb8, ow8⟩
  have O8 : Hid (w8.ownsRow w.heap.size 5 1 v8 (1 + kn N + N) (xs ++ T)) := own_base o8 b5.out.size
  have N8 : Hid (v8 ≠ .slice none 0 0) := n8
  have B8 : Hid (Below w.heap.size w w8) := by
    have h1 : Below w5.heap.size w5 w8 := B7.out.trans (gb_below2 gb8 B7.out.size (fun k e => (O7.out.lt k e).1))
    exact b5.out.trans (h1.mono b5.out.size)
  clear o8 n8 gb8 ow8
  go_wp2_with fail
  go_ret2
  exact ⟨v8, rfl, by rw [HXS.out]; exact O8.out, N8.out, B8.out⟩

set_option maxRecDepth 100000 in
set_option maxHeartbeats 4000000 in
theorem encode_k11 (p : Pk) (c : Cn) (w : World) (N : Nat) (hg : Gd w) (hin : In w p c) (hs : Small p c) (hk : p.kind = 11) (hR : Right TT p c) (hN : sz p c = N) (hN2 : N ≤ 299990) :
    Calls Tryz.prog 11 #[.agg (pkCells p)] w fun e w' => ∃ v, e = .returned (.tuple #[v, .int .i64 0]) ∧ w'.ownsRow w.heap.size 5 1 v (1 + kn N + N) (cellsOf (oneZ (16 * p.kind + fg p)) 1 ++ cellsOf (glZ N) (kn N) ++ fieldsL p c) ∧ v ≠ .slice none 0 0 ∧ Below w.heap.size w w' := by
  have h0 := (ck_right TT p c).2 hR
  obtain ⟨F, hF⟩ : ∃ F, F = fg p := ⟨_, rfl⟩
  have e50 : Hid (bits .or .i64 176 F % 256 = 16 * p.kind + F ∧ 0 ≤ 16 * p.kind + F ∧ 16 * p.kind + F ≤ 255) := by
    have hb := fg_bd hR
    rw [← hF] at hb
    have := or_first ⟨11, by decide⟩ ⟨F.toNat, by omega⟩
    have e2 : ((F.toNat : Nat) : Int) = F := by omega
    simp only at this
    rw [e2] at this
    exact ⟨by rw [hk]; exact this, by omega, by omega⟩
  rw [← hF]
  obtain ⟨t, ht⟩ : ∃ t, t = 16 * p.kind + F := ⟨_, rfl⟩
  rw [← ht] at e50 ⊢
  clear ht
  obtain ⟨W, hW⟩ : ∃ W, W = w.alloc (.cells (pkCells p) 29) := ⟨_, rfl⟩
  have b0 : Hid (Below w.heap.size w W) := box_below hW
  have g0 : Hid (W.heap[w.heap.size]? = some (.cells (pkCells p) 29)) := by show _ = _; rw [hW]; exact heap_alloc_new w _
  have C10 : Hid (∀ w', Below w.heap.size w w' → Calls Tryz.prog 10 #[.agg (pkCells p)] w' fun e w'' => e = .returned (.int .i64 0) ∧ Below w'.heap.size w' w'') := fun w' hb => by
    have := check_any p c w' (hg.below hb) (hin.below hb) hs
    rw [h0] at this; exact this
  have C16 : Hid (∀ w', Below w.heap.size w w' → Calls Tryz.prog 16 #[.agg (pkCells p)] w' fun e w'' => e = .returned (.int .i64 N) ∧ Below w'.heap.size w' w'') := fun w' hb => by
    have := length_any p c w' (hg.below hb) (hin.below hb) hs
    rw [if_pos h0, hN] at this; exact this
  have C40 : Hid (∀ w', Below w.heap.size w w' → Calls Tryz.prog 40 #[.agg (pkCells p)] w' fun e w'' => e = .returned (.int .i64 F) ∧ Below w'.heap.size w' w'') := fun w' hb => by
    have := flags_any p c w' (hg.below hb) (hin.below hb) hs hR
    rw [← hF] at this; exact this
  have C43 : Hid (∀ (w5 w' : World) (v : Value) (n : Nat) (xs : List Value), Below w.heap.size w w5 → w'.ownsRow w5.heap.size 5 1 v n xs → v ≠ .slice none 0 0 → Below w5.heap.size w5 w' → n ≤ 10 → Calls Tryz.prog 43 #[v, .agg (pkCells p)] w' fun e w'' => Adds w5.heap.size v w' w'' e (n + N) (xs ++ fieldsL p c)) := fun w5 w' v n xs hb h1 hv h2 hn => by
    have := wFields_any w5 w' p c v n xs hR (hin.below hb) (by omega) h1 hv h2 hn
    rw [hN] at this; exact this
  obtain ⟨T, hT⟩ : ∃ T, T = fieldsL p c := ⟨_, rfl⟩
  rw [← hT] at C43 ⊢
  obtain ⟨cs, hcs⟩ : ∃ cs, cs = pkCells p := ⟨_, rfl⟩
  have hsz : Hid (cs.size = 25) := by show _ = _; rw [hcs]; rfl
  have hk0 : Hid (cs[0]? = some (.int .i64 11)) := by show _ = _; rw [hcs, ← hk]; rfl
  rw [← hcs] at C10 C16 C40 C43 g0 hW ⊢
  have HN2 : Hid (N ≤ 299990) := hN2
  clear hcs hT hg hin hs hk h0 hF hN hN2 hR
  go_enter Tryz.func11, Tryz.ntmps11
  go_upto_region 1 with fail
  rw [← hW]
  clear hW
  go_wp2_with (first | (refine wpList_load_wanted rfl _ rfl w.heap.size rfl _ (0, 0) g0.out hsz.out ?_) | fail)
  go_must (go_at_call 10)
  refine (C10.out _ b0.out).mono ?_
  rintro e w1 ⟨rfl, hb⟩
  have b1 : Hid (Below w.heap.size w w1) := b0.out.trans (hb.mono b0.out.size)
  have g1 : Hid (w1.heap[w.heap.size]? = some (.cells cs 29)) := (hb.block _ (heap_in g0.out)).trans g0.out
  clear hb
  go_wp2_with (first | (refine wpList_load_wanted rfl _ rfl w.heap.size rfl _ (0, 0) g1.out hsz.out ?_) | fail)
  go_must (go_at_call 16)
  refine (C16.out _ b1.out).mono ?_
  rintro e w2 ⟨rfl, hb⟩
  have b2 : Hid (Below w.heap.size w w2) := b1.out.trans (hb.mono b1.out.size)
  have g2 : Hid (w2.heap[w.heap.size]? = some (.cells cs 29)) := (hb.block _ (heap_in g1.out)).trans g1.out
  clear hb
  go_upto_region 5 with fail
  have k0 : ∀ d os, (grow (redrawn w2 d) os).cell? ⟨w.heap.size, 0, none⟩ = some (.int .i64 11) := fun d os => cell_later (below_regrown w2 d os) (box_cells g2.out 0 _ hk0.out)
  have L1 : Hid (∀ w', (∃ p : Regrown, w' = grow (redrawn w2 p.d) p.os) → (loadVar 29 ⟨w.heap.size, 0, none⟩).run Tryz.prog w' = .ok (.agg cs) w') := by
    rintro _ ⟨pp, rfl⟩
    exact run_loadVar_row _ w.heap.size 29 29 cs (0, 0) _ (((below_regrown w2 pp.d pp.os).block _ (heap_in g2.out)).trans g2.out) Tryz.underlying29 rfl (by rw [hsz.out]; kernel_rfl)
  have D40 : Hid (∀ d os, Calls Tryz.prog 40 #[.agg cs] (grow (redrawn w2 d) os) fun e w'' => e = .returned (.int .i64 F) ∧ Below (grow (redrawn w2 d) os).heap.size (grow (redrawn w2 d) os) w'') := fun d os => C40.out _ (b2.out.trans ((below_regrown w2 d os).mono b2.out.size))
  refine wp_region_quiet_below (by kernel_rfl) (by kernel_rfl) ?_
  repeat (first | (refine quiet_load rfl rfl w.heap.size rfl (.agg cs) L1.out ?_) | quiet_step (first | (go_at_call 40; exact Calls.regrown_of (D40.out _ _))))
  refine wpQuiet_nil ?_
  rintro _ ⟨⟨d, os⟩, rfl⟩
  have b5 : Hid (Below w.heap.size w (grow (redrawn w2 d) os)) := b2.out.trans ((below_regrown w2 d os).mono b2.out.size)
  have g5 : Hid ((grow (redrawn w2 d) os).heap[w.heap.size]? = some (.cells cs 29)) := ((below_regrown w2 d os).block _ (heap_in g2.out)).trans g2.out
  obtain ⟨w5, hw5⟩ : ∃ w5, w5 = grow (redrawn w2 d) os := ⟨_, rfl⟩
  rw [← hw5] at b5 g5 ⊢
  clear hw5 k0 L1 D40
  have e51 := e50.out.1
  have hb5a : Below w5.heap.size w5 (w5.alloc (.cells #[.int .u8 t] 5)) := (Below.refl _ _).alloc (Nat.le_refl _) _
  have C42 : Hid (Calls Tryz.prog 42 #[.slice (some ⟨w5.heap.size, 0, none⟩) 1 1, .int .i64 N] (w5.alloc (.cells #[.int .u8 t] 5)) fun e w' => Made (w5.alloc (.cells #[.int .u8 t] 5)) w' e (1 + kn N) (cellsOf (oneZ t) 1 ++ cellsOf (glZ N) (kn N))) :=
    putLength_in (some ⟨w5.heap.size, 0, none⟩) 1 1 (oneZ t) N (by omega) (by have := HN2.out; omega) _ (new_came w5 1 (oneZ t) _ rfl (fun i => by have := e50.out.2; unfold oneZ; split <;> omega)) (by decide)
  go_wp2_with fail
  go_must (go_at_call 42)
  refine C42.out.mono ?_
  rintro e w6 ⟨g, cp, rfl, ho, hb⟩
  have HO : Hid (w6.ownsRow w5.heap.size 5 1 (.slice (some ⟨g, 0, none⟩) (1 + kn N) cp) (1 + kn N) (cellsOf (oneZ t) 1 ++ cellsOf (glZ N) (kn N))) := own_base ho hb5a.size
  have B6 : Hid (Below w5.heap.size w5 w6) := hb5a.trans (hb.mono hb5a.size)
  have HKN : Hid (1 + kn N ≤ 5) := by show _ ≤ _; have := kn_bd N; omega
  have X6 : Hid (∃ xs, xs = cellsOf (oneZ t) 1 ++ cellsOf (glZ N) (kn N)) := ⟨_, rfl⟩
  obtain ⟨xs, hxs⟩ := X6.out
  rw [← hxs] at HO
  have HXS : Hid (cellsOf (oneZ t) 1 ++ cellsOf (glZ N) (kn N) = xs) := hxs.symm
  clear hb ho hb5a C42 e51 hxs X6
  go_wp2_with fail
  go_must (go_at_call 41)
  refine (grow_own w5.heap.size (1 + kn N) N _ xs w6 HO.out (by simp) B6.out.size (by have := HKN.out; omega) (by have := HN2.out; omega)).mono ?_
  rintro e w7 ⟨v7, rfl, o7, n7, gb7, ow7⟩
  have N7 : Hid (v7 ≠ .slice none 0 0) := n7
  have O7 : Hid (w7.ownsRow w5.heap.size 5 1 v7 (1 + kn N) xs) := o7
  have B7 : Hid (Below w5.heap.size w5 w7) := B6.out.trans (gb_below2 gb7 B6.out.size (fun k e => (HO.out.lt k e).1))
  have g7 : Hid (w7.heap[w.heap.size]? = some (.cells cs 29)) := (B7.out.block _ (heap_in g5.out)).trans g5.out
  clear o7 n7 gb7 ow7
  go_wp2_with (first | (refine wpList_load_wanted rfl _ rfl w.heap.size rfl _ (0, 0) g7.out hsz.out ?_) | fail)
  go_must (go_at_call 43)
  refine (C43.out w5 w7 v7 (1 + kn N) xs b5.out O7.out N7.out B7.out (by have := HKN.out; omega)).mono ?_
  rintro e w8 ⟨v8, rfl, o8, n8, gb8, ow8⟩
  have O8 : Hid (w8.ownsRow w.heap.size 5 1 v8 (1 + kn N + N) (xs ++ T)) := own_base o8 b5.out.size
  have N8 : Hid (v8 ≠ .slice none 0 0) := n8
  have B8 : Hid (Below w.heap.size w w8) := by
    have h1 : Below w5.heap.size w5 w8 := B7.out.trans (gb_below2 gb8 B7.out.size (fun k e => (O7.out.lt k e).1))
    exact b5.out.trans (h1.mono b5.out.size)
  clear o8 n8 gb8 ow8
  go_wp2_with fail
  go_ret2
  exact ⟨v8, rfl, by rw [HXS.out]; exact O8.out, N8.out, B8.out⟩

set_option maxRecDepth 100000 in
set_option maxHeartbeats 4000000 in
theorem encode_k12 (p : Pk) (c : Cn) (w : World) (N : Nat) (hg : Gd w) (hin : In w p c) (hs : Small p c) (hk : p.kind = 12) (hR : Right TT p c) (hN : sz p c = N) (hN2 : N ≤ 299990) :
    Calls Tryz.prog 11 #[.agg (pkCells p)] w fun e w' => ∃ v, e = .returned (.tuple #[v, .int .i64 0]) ∧ w'.ownsRow w.heap.size 5 1 v (1 + kn N + N) (cellsOf (oneZ (16 * p.kind + fg p)) 1 ++ cellsOf (glZ N) (kn N) ++ fieldsL p c) ∧ v ≠ .slice none 0 0 ∧ Below w.heap.size w w' := by
  have h0 := (ck_right TT p c).2 hR
  obtain ⟨F, hF⟩ : ∃ F, F = fg p := ⟨_, rfl⟩
  have e50 : Hid (bits .or .i64 192 F % 256 = 16 * p.kind + F ∧ 0 ≤ 16 * p.kind + F ∧ 16 * p.kind + F ≤ 255) := by
    have hb := fg_bd hR
    rw [← hF] at hb
    have := or_first ⟨12, by decide⟩ ⟨F.toNat, by omega⟩
    have e2 : ((F.toNat : Nat) : Int) = F := by omega
    simp only at this
    rw [e2] at this
    exact ⟨by rw [hk]; exact this, by omega, by omega⟩
  rw [← hF]
  obtain ⟨t, ht⟩ : ∃ t, t = 16 * p.kind + F := ⟨_, rfl⟩
  rw [← ht] at e50 ⊢
  clear ht
  obtain ⟨W, hW⟩ : ∃ W, W = w.alloc (.cells (pkCells p) 29) := ⟨_, rfl⟩
  have b0 : Hid (Below w.heap.size w W) := box_below hW
  have g0 : Hid (W.heap[w.heap.size]? = some (.cells (pkCells p) 29)) := by show _ = _; rw [hW]; exact heap_alloc_new w _
  have C10 : Hid (∀ w', Below w.heap.size w w' → Calls Tryz.prog 10 #[.agg (pkCells p)] w' fun e w'' => e = .returned (.int .i64 0) ∧ Below w'.heap.size w' w'') := fun w' hb => by
    have := check_any p c w' (hg.below hb) (hin.below hb) hs
    rw [h0] at this; exact this
  have C16 : Hid (∀ w', Below w.heap.size w w' → Calls Tryz.prog 16 #[.agg (pkCells p)] w' fun e w'' => e = .returned (.int .i64 N) ∧ Below w'.heap.size w' w'') := fun w' hb => by
    have := length_any p c w' (hg.below hb) (hin.below hb) hs
    rw [if_pos h0, hN] at this; exact this
  have C40 : Hid (∀ w', Below w.heap.size w w' → Calls Tryz.prog 40 #[.agg (pkCells p)] w' fun e w'' => e = .returned (.int .i64 F) ∧ Below w'.heap.size w' w'') := fun w' hb => by
    have := flags_any p c w' (hg.below hb) (hin.below hb) hs hR
    rw [← hF] at this; exact this
  have C43 : Hid (∀ (w5 w' : World) (v : Value) (n : Nat) (xs : List Value), Below w.heap.size w w5 → w'.ownsRow w5.heap.size 5 1 v n xs → v ≠ .slice none 0 0 → Below w5.heap.size w5 w' → n ≤ 10 → Calls Tryz.prog 43 #[v, .agg (pkCells p)] w' fun e w'' => Adds w5.heap.size v w' w'' e (n + N) (xs ++ fieldsL p c)) := fun w5 w' v n xs hb h1 hv h2 hn => by
    have := wFields_any w5 w' p c v n xs hR (hin.below hb) (by omega) h1 hv h2 hn
    rw [hN] at this; exact this
  obtain ⟨T, hT⟩ : ∃ T, T = fieldsL p c := ⟨_, rfl⟩
  rw [← hT] at C43 ⊢
  obtain ⟨cs, hcs⟩ : ∃ cs, cs = pkCells p := ⟨_, rfl⟩
  have hsz : Hid (cs.size = 25) := by show _ = _; rw [hcs]; rfl
  have hk0 : Hid (cs[0]? = some (.int .i64 12)) := by show _ = _; rw [hcs, ← hk]; rfl
  rw [← hcs] at C10 C16 C40 C43 g0 hW ⊢
  have HN2 : Hid (N ≤ 299990) := hN2
  clear hcs hT hg hin hs hk h0 hF hN hN2 hR
  go_enter Tryz.func11, Tryz.ntmps11
  go_upto_region 1 with fail
  rw [← hW]
  clear hW
  go_wp2_with (first | (refine wpList_load_wanted rfl _ rfl w.heap.size rfl _ (0, 0) g0.out hsz.out ?_) | fail)
  go_must (go_at_call 10)
  refine (C10.out _ b0.out).mono ?_
  rintro e w1 ⟨rfl, hb⟩
  have b1 : Hid (Below w.heap.size w w1) := b0.out.trans (hb.mono b0.out.size)
  have g1 : Hid (w1.heap[w.heap.size]? = some (.cells cs 29)) := (hb.block _ (heap_in g0.out)).trans g0.out
  clear hb
  go_wp2_with (first | (refine wpList_load_wanted rfl _ rfl w.heap.size rfl _ (0, 0) g1.out hsz.out ?_) | fail)
  go_must (go_at_call 16)
  refine (C16.out _ b1.out).mono ?_
  rintro e w2 ⟨rfl, hb⟩
  have b2 : Hid (Below w.heap.size w w2) := b1.out.trans (hb.mono b1.out.size)
  have g2 : Hid (w2.heap[w.heap.size]? = some (.cells cs 29)) := (hb.block _ (heap_in g1.out)).trans g1.out
  clear hb
  go_upto_region 5 with fail
  have k0 : ∀ d os, (grow (redrawn w2 d) os).cell? ⟨w.heap.size, 0, none⟩ = some (.int .i64 12) := fun d os => cell_later (below_regrown w2 d os) (box_cells g2.out 0 _ hk0.out)
  have L1 : Hid (∀ w', (∃ p : Regrown, w' = grow (redrawn w2 p.d) p.os) → (loadVar 29 ⟨w.heap.size, 0, none⟩).run Tryz.prog w' = .ok (.agg cs) w') := by
    rintro _ ⟨pp, rfl⟩
    exact run_loadVar_row _ w.heap.size 29 29 cs (0, 0) _ (((below_regrown w2 pp.d pp.os).block _ (heap_in g2.out)).trans g2.out) Tryz.underlying29 rfl (by rw [hsz.out]; kernel_rfl)
  have D40 : Hid (∀ d os, Calls Tryz.prog 40 #[.agg cs] (grow (redrawn w2 d) os) fun e w'' => e = .returned (.int .i64 F) ∧ Below (grow (redrawn w2 d) os).heap.size (grow (redrawn w2 d) os) w'') := fun d os => C40.out _ (b2.out.trans ((below_regrown w2 d os).mono b2.out.size))
  refine wp_region_quiet_below (by kernel_rfl) (by kernel_rfl) ?_
  repeat (first | (refine quiet_load rfl rfl w.heap.size rfl (.agg cs) L1.out ?_) | quiet_step (first | (go_at_call 40; exact Calls.regrown_of (D40.out _ _))))
  refine wpQuiet_nil ?_
  rintro _ ⟨⟨d, os⟩, rfl⟩
  have b5 : Hid (Below w.heap.size w (grow (redrawn w2 d) os)) := b2.out.trans ((below_regrown w2 d os).mono b2.out.size)
  have g5 : Hid ((grow (redrawn w2 d) os).heap[w.heap.size]? = some (.cells cs 29)) := ((below_regrown w2 d os).block _ (heap_in g2.out)).trans g2.out
  obtain ⟨w5, hw5⟩ : ∃ w5, w5 = grow (redrawn w2 d) os := ⟨_, rfl⟩
  rw [← hw5] at b5 g5 ⊢
  clear hw5 k0 L1 D40
  have e51 := e50.out.1
  have hb5a : Below w5.heap.size w5 (w5.alloc (.cells #[.int .u8 t] 5)) := (Below.refl _ _).alloc (Nat.le_refl _) _
  have C42 : Hid (Calls Tryz.prog 42 #[.slice (some ⟨w5.heap.size, 0, none⟩) 1 1, .int .i64 N] (w5.alloc (.cells #[.int .u8 t] 5)) fun e w' => Made (w5.alloc (.cells #[.int .u8 t] 5)) w' e (1 + kn N) (cellsOf (oneZ t) 1 ++ cellsOf (glZ N) (kn N))) :=
    putLength_in (some ⟨w5.heap.size, 0, none⟩) 1 1 (oneZ t) N (by omega) (by have := HN2.out; omega) _ (new_came w5 1 (oneZ t) _ rfl (fun i => by have := e50.out.2; unfold oneZ; split <;> omega)) (by decide)
  go_wp2_with fail
  go_must (go_at_call 42)
  refine C42.out.mono ?_
  rintro e w6 ⟨g, cp, rfl, ho, hb⟩
  have HO : Hid (w6.ownsRow w5.heap.size 5 1 (.slice (some ⟨g, 0, none⟩) (1 + kn N) cp) (1 + kn N) (cellsOf (oneZ t) 1 ++ cellsOf (glZ N) (kn N))) := own_base ho hb5a.size
  have B6 : Hid (Below w5.heap.size w5 w6) := hb5a.trans (hb.mono hb5a.size)
  have HKN : Hid (1 + kn N ≤ 5) := by show _ ≤ _; have := kn_bd N; omega
  have X6 : Hid (∃ xs, xs = cellsOf (oneZ t) 1 ++ cellsOf (glZ N) (kn N)) := ⟨_, rfl⟩
  obtain ⟨xs, hxs⟩ := X6.out
  rw [← hxs] at HO
  have HXS : Hid (cellsOf (oneZ t) 1 ++ cellsOf (glZ N) (kn N) = xs) := hxs.symm
  clear hb ho hb5a C42 e51 hxs X6
  go_wp2_with fail
  go_must (go_at_call 41)
  refine (grow_own w5.heap.size (1 + kn N) N _ xs w6 HO.out (by simp) B6.out.size (by have := HKN.out; omega) (by have := HN2.out; omega)).mono ?_
  rintro e w7 ⟨v7, rfl, o7, n7, gb7, ow7⟩
  have N7 : Hid (v7 ≠ .slice none 0 0) := n7
  have O7 : Hid (w7.ownsRow w5.heap.size 5 1 v7 (1 + kn N) xs) := o7
  have B7 : Hid (Below w5.heap.size w5 w7) := B6.out.trans (gb_below2 gb7 B6.out.size (fun k e => (HO.out.lt k e).1))
  have g7 : Hid (w7.heap[w.heap.size]? = some (.cells cs 29)) := (B7.out.block _ (heap_in g5.out)).trans g5.out
  clear o7 n7 gb7 ow7
  go_wp2_with (first | (refine wpList_load_wanted rfl _ rfl w.heap.size rfl _ (0, 0) g7.out hsz.out ?_) | fail)
  go_must (go_at_call 43)
  refine (C43.out w5 w7 v7 (1 + kn N) xs b5.out O7.out N7.out B7.out (by have := HKN.out; omega)).mono ?_
  rintro e w8 ⟨v8, rfl, o8, n8, gb8, ow8⟩
  have O8 : Hid (w8.ownsRow w.heap.size 5 1 v8 (1 + kn N + N) (xs ++ T)) := own_base o8 b5.out.size
  have N8 : Hid (v8 ≠ .slice none 0 0) := n8
  have B8 : Hid (Below w.heap.size w w8) := by
    have h1 : Below w5.heap.size w5 w8 := B7.out.trans (gb_below2 gb8 B7.out.size (fun k e => (O7.out.lt k e).1))
    exact b5.out.trans (h1.mono b5.out.size)
  clear o8 n8 gb8 ow8
  go_wp2_with fail
  go_ret2
  exact ⟨v8, rfl, by rw [HXS.out]; exact O8.out, N8.out, B8.out⟩

set_option maxRecDepth 100000 in
set_option maxHeartbeats 4000000 in
theorem encode_k13 (p : Pk) (c : Cn) (w : World) (N : Nat) (hg : Gd w) (hin : In w p c) (hs : Small p c) (hk : p.kind = 13) (hR : Right TT p c) (hN : sz p c = N) (hN2 : N ≤ 299990) :
    Calls Tryz.prog 11 #[.agg (pkCells p)] w fun e w' => ∃ v, e = .returned (.tuple #[v, .int .i64 0]) ∧ w'.ownsRow w.heap.size 5 1 v (1 + kn N + N) (cellsOf (oneZ (16 * p.kind + fg p)) 1 ++ cellsOf (glZ N) (kn N) ++ fieldsL p c) ∧ v ≠ .slice none 0 0 ∧ Below w.heap.size w w' := by
  have h0 := (ck_right TT p c).2 hR
  obtain ⟨F, hF⟩ : ∃ F, F = fg p := ⟨_, rfl⟩
  have e50 : Hid (bits .or .i64 208 F % 256 = 16 * p.kind + F ∧ 0 ≤ 16 * p.kind + F ∧ 16 * p.kind + F ≤ 255) := by
    have hb := fg_bd hR
    rw [← hF] at hb
    have := or_first ⟨13, by decide⟩ ⟨F.toNat, by omega⟩
    have e2 : ((F.toNat : Nat) : Int) = F := by omega
    simp only at this
    rw [e2] at this
    exact ⟨by rw [hk]; exact this, by omega, by omega⟩
  rw [← hF]
  obtain ⟨t, ht⟩ : ∃ t, t = 16 * p.kind + F := ⟨_, rfl⟩
  rw [← ht] at e50 ⊢
  clear ht
  obtain ⟨W, hW⟩ : ∃ W, W = w.alloc (.cells (pkCells p) 29) := ⟨_, rfl⟩
  have b0 : Hid (Below w.heap.size w W) := box_below hW
  have g0 : Hid (W.heap[w.heap.size]? = some (.cells (pkCells p) 29)) := by show _ = _; rw [hW]; exact heap_alloc_new w _
  have C10 : Hid (∀ w', Below w.heap.size w w' → Calls Tryz.prog 10 #[.agg (pkCells p)] w' fun e w'' => e = .returned (.int .i64 0) ∧ Below w'.heap.size w' w'') := fun w' hb => by
    have := check_any p c w' (hg.below hb) (hin.below hb) hs
    rw [h0] at this; exact this
  have C16 : Hid (∀ w', Below w.heap.size w w' → Calls Tryz.prog 16 #[.agg (pkCells p)] w' fun e w'' => e = .returned (.int .i64 N) ∧ Below w'.heap.size w' w'') := fun w' hb => by
    have := length_any p c w' (hg.below hb) (hin.below hb) hs
    rw [if_pos h0, hN] at this; exact this
  have C40 : Hid (∀ w', Below w.heap.size w w' → Calls Tryz.prog 40 #[.agg (pkCells p)] w' fun e w'' => e = .returned (.int .i64 F) ∧ Below w'.heap.size w' w'') := fun w' hb => by
    have := flags_any p c w' (hg.below hb) (hin.below hb) hs hR
    rw [← hF] at this; exact this
  have C43 : Hid (∀ (w5 w' : World) (v : Value) (n : Nat) (xs : List Value), Below w.heap.size w w5 → w'.ownsRow w5.heap.size 5 1 v n xs → v ≠ .slice none 0 0 → Below w5.heap.size w5 w' → n ≤ 10 → Calls Tryz.prog 43 #[v, .agg (pkCells p)] w' fun e w'' => Adds w5.heap.size v w' w'' e (n + N) (xs ++ fieldsL p c)) := fun w5 w' v n xs hb h1 hv h2 hn => by
    have := wFields_any w5 w' p c v n xs hR (hin.below hb) (by omega) h1 hv h2 hn
    rw [hN] at this; exact this
  obtain ⟨T, hT⟩ : ∃ T, T = fieldsL p c := ⟨_, rfl⟩
  rw [← hT] at C43 ⊢
  obtain ⟨cs, hcs⟩ : ∃ cs, cs = pkCells p := ⟨_, rfl⟩
  have hsz : Hid (cs.size = 25) := by show _ = _; rw [hcs]; rfl
  have hk0 : Hid (cs[0]? = some (.int .i64 13)) := by show _ = _; rw [hcs, ← hk]; rfl
  rw [← hcs] at C10 C16 C40 C43 g0 hW ⊢
  have HN2 : Hid (N ≤ 299990) := hN2
  clear hcs hT hg hin hs hk h0 hF hN hN2 hR
  go_enter Tryz.func11, Tryz.ntmps11
  go_upto_region 1 with fail
  rw [← hW]
  clear hW
  go_wp2_with (first | (refine wpList_load_wanted rfl _ rfl w.heap.size rfl _ (0, 0) g0.out hsz.out ?_) | fail)
  go_must (go_at_call 10)
  refine (C10.out _ b0.out).mono ?_
  rintro e w1 ⟨rfl, hb⟩
  have b1 : Hid (Below w.heap.size w w1) := b0.out.trans (hb.mono b0.out.size)
  have g1 : Hid (w1.heap[w.heap.size]? = some (.cells cs 29)) := (hb.block _ (heap_in g0.out)).trans g0.out
  clear hb
  go_wp2_with (first | (refine wpList_load_wanted rfl _ rfl w.heap.size rfl _ (0, 0) g1.out hsz.out ?_) | fail)
  go_must (go_at_call 16)
  refine (C16.out _ b1.out).mono ?_
  rintro e w2 ⟨rfl, hb⟩
  have b2 : Hid (Below w.heap.size w w2) := b1.out.trans (hb.mono b1.out.size)
  have g2 : Hid (w2.heap[w.heap.size]? = some (.cells cs 29)) := (hb.block _ (heap_in g1.out)).trans g1.out
  clear hb
  go_upto_region 5 with fail
  have k0 : ∀ d os, (grow (redrawn w2 d) os).cell? ⟨w.heap.size, 0, none⟩ = some (.int .i64 13) := fun d os => cell_later (below_regrown w2 d os) (box_cells g2.out 0 _ hk0.out)
  have L1 : Hid (∀ w', (∃ p : Regrown, w' = grow (redrawn w2 p.d) p.os) → (loadVar 29 ⟨w.heap.size, 0, none⟩).run Tryz.prog w' = .ok (.agg cs) w') := by
    rintro _ ⟨pp, rfl⟩
    exact run_loadVar_row _ w.heap.size 29 29 cs (0, 0) _ (((below_regrown w2 pp.d pp.os).block _ (heap_in g2.out)).trans g2.out) Tryz.underlying29 rfl (by rw [hsz.out]; kernel_rfl)
  have D40 : Hid (∀ d os, Calls Tryz.prog 40 #[.agg cs] (grow (redrawn w2 d) os) fun e w'' => e = .returned (.int .i64 F) ∧ Below (grow (redrawn w2 d) os).heap.size (grow (redrawn w2 d) os) w'') := fun d os => C40.out _ (b2.out.trans ((below_regrown w2 d os).mono b2.out.size))
  refine wp_region_quiet_below (by kernel_rfl) (by kernel_rfl) ?_
  repeat (first | (refine quiet_load rfl rfl w.heap.size rfl (.agg cs) L1.out ?_) | quiet_step (first | (go_at_call 40; exact Calls.regrown_of (D40.out _ _))))
  refine wpQuiet_nil ?_
  rintro _ ⟨⟨d, os⟩, rfl⟩
  have b5 : Hid (Below w.heap.size w (grow (redrawn w2 d) os)) := b2.out.trans ((below_regrown w2 d os).mono b2.out.size)
  have g5 : Hid ((grow (redrawn w2 d) os).heap[w.heap.size]? = some (.cells cs 29)) := ((below_regrown w2 d os).block _ (heap_in g2.out)).trans g2.out
  obtain ⟨w5, hw5⟩ : ∃ w5, w5 = grow (redrawn w2 d) os := ⟨_, rfl⟩
  rw [← hw5] at b5 g5 ⊢
  clear hw5 k0 L1 D40
  have e51 := e50.out.1
  have hb5a : Below w5.heap.size w5 (w5.alloc (.cells #[.int .u8 t] 5)) := (Below.refl _ _).alloc (Nat.le_refl _) _
  have C42 : Hid (Calls Tryz.prog 42 #[.slice (some ⟨w5.heap.size, 0, none⟩) 1 1, .int .i64 N] (w5.alloc (.cells #[.int .u8 t] 5)) fun e w' => Made (w5.alloc (.cells #[.int .u8 t] 5)) w' e (1 + kn N) (cellsOf (oneZ t) 1 ++ cellsOf (glZ N) (kn N))) :=
    putLength_in (some ⟨w5.heap.size, 0, none⟩) 1 1 (oneZ t) N (by omega) (by have := HN2.out; omega) _ (new_came w5 1 (oneZ t) _ rfl (fun i => by have := e50.out.2; unfold oneZ; split <;> omega)) (by decide)
  go_wp2_with fail
  go_must (go_at_call 42)
  refine C42.out.mono ?_
  rintro e w6 ⟨g, cp, rfl, ho, hb⟩
  have HO : Hid (w6.ownsRow w5.heap.size 5 1 (.slice (some ⟨g, 0, none⟩) (1 + kn N) cp) (1 + kn N) (cellsOf (oneZ t) 1 ++ cellsOf (glZ N) (kn N))) := own_base ho hb5a.size
  have B6 : Hid (Below w5.heap.size w5 w6) := hb5a.trans (hb.mono hb5a.size)
  have HKN : Hid (1 + kn N ≤ 5) := by show _ ≤ _; have := kn_bd N; omega
  have X6 : Hid (∃ xs, xs = cellsOf (oneZ t) 1 ++ cellsOf (glZ N) (kn N)) := ⟨_, rfl⟩
  obtain ⟨xs, hxs⟩ := X6.out
  rw [← hxs] at HO
  have HXS : Hid (cellsOf (oneZ t) 1 ++ cellsOf (glZ N) (kn N) = xs) := hxs.symm
  clear hb ho hb5a C42 e51 hxs X6
  go_wp2_with fail
  go_must (go_at_call 41)
  refine (grow_own w5.heap.size (1 + kn N) N _ xs w6 HO.out (by simp) B6.out.size (by have := HKN.out; omega) (by have := HN2.out; omega)).mono ?_
  rintro e w7 ⟨v7, rfl, o7, n7, gb7, ow7⟩
  have N7 : Hid (v7 ≠ .slice none 0 0) := n7
  have O7 : Hid (w7.ownsRow w5.heap.size 5 1 v7 (1 + kn N) xs) := o7
  have B7 : Hid (Below w5.heap.size w5 w7) := B6.out.trans (gb_below2 gb7 B6.out.size (fun k e => (HO.out.lt k e).1))
  have g7 : Hid (w7.heap[w.heap.size]? = some (.cells cs 29)) := (B7.out.block _ (heap_in g5.out)).trans g5.out
  clear o7 n7 gb7 ow7
  go_wp2_with (first | (refine wpList_load_wanted rfl _ rfl w.heap.size rfl _ (0, 0) g7.out hsz.out ?_) | fail)
  go_must (go_at_call 43)
  refine (C43.out w5 w7 v7 (1 + kn N) xs b5.out O7.out N7.out B7.out (by have := HKN.out; omega)).mono ?_
  rintro e w8 ⟨v8, rfl, o8, n8, gb8, ow8⟩
  have O8 : Hid (w8.ownsRow w.heap.size 5 1 v8 (1 + kn N + N) (xs ++ T)) := own_base o8 b5.out.size
  have N8 : Hid (v8 ≠ .slice none 0 0) := n8
  have B8 : Hid (Below w.heap.size w w8) := by
    have h1 : Below w5.heap.size w5 w8 := B7.out.trans (gb_below2 gb8 B7.out.size (fun k e => (O7.out.lt k e).1))
    exact b5.out.trans (h1.mono b5.out.size)
  clear o8 n8 gb8 ow8
  go_wp2_with fail
  go_ret2
  exact ⟨v8, rfl, by rw [HXS.out]; exact O8.out, N8.out, B8.out⟩

set_option maxRecDepth 100000 in
set_option maxHeartbeats 4000000 in
theorem encode_k14 (p : Pk) (c : Cn) (w : World) (N : Nat) (hg : Gd w) (hin : In w p c) (hs : Small p c) (hk : p.kind = 14) (hR : Right TT p c) (hN : sz p c = N) (hN2 : N ≤ 299990) :
    Calls Tryz.prog 11 #[.agg (pkCells p)] w fun e w' => ∃ v, e = .returned (.tuple #[v, .int .i64 0]) ∧ w'.ownsRow w.heap.size 5 1 v (1 + kn N + N) (cellsOf (oneZ (16 * p.kind + fg p)) 1 ++ cellsOf (glZ N) (kn N) ++ fieldsL p c) ∧ v ≠ .slice none 0 0 ∧ Below w.heap.size w w' := by
  have h0 := (ck_right TT p c).2 hR
  obtain ⟨F, hF⟩ : ∃ F, F = fg p := ⟨_, rfl⟩
  have e50 : Hid (bits .or .i64 224 F % 256 = 16 * p.kind + F ∧ 0 ≤ 16 * p.kind + F ∧ 16 * p.kind + F ≤ 255) := by
    have hb := fg_bd hR
    rw [← hF] at hb
    have := or_first ⟨14, by decide⟩ ⟨F.toNat, by omega⟩
    have e2 : ((F.toNat : Nat) : Int) = F := by omega
    simp only at this
    rw [e2] at this
    exact ⟨by rw [hk]; exact this, by omega, by omega⟩
  rw [← hF]
  obtain ⟨t, ht⟩ : ∃ t, t = 16 * p.kind + F := ⟨_, rfl⟩
  rw [← ht] at e50 ⊢
  clear ht
  obtain ⟨W, hW⟩ : ∃ W, W = w.alloc (.cells (pkCells p) 29) := ⟨_, rfl⟩
  have b0 : Hid (Below w.heap.size w W) := box_below hW
  have g0 : Hid (W.heap[w.heap.size]? = some (.cells (pkCells p) 29)) := by show _ = _; rw [hW]; exact heap_alloc_new w _
  have C10 : Hid (∀ w', Below w.heap.size w w' → Calls Tryz.prog 10 #[.agg (pkCells p)] w' fun e w'' => e = .returned (.int .i64 0) ∧ Below w'.heap.size w' w'') := fun w' hb => by
    have := check_any p c w' (hg.below hb) (hin.below hb) hs
    rw [h0] at this; exact this
  have C16 : Hid (∀ w', Below w.heap.size w w' → Calls Tryz.prog 16 #[.agg (pkCells p)] w' fun e w'' => e = .returned (.int .i64 N) ∧ Below w'.heap.size w' w'') := fun w' hb => by
    have := length_any p c w' (hg.below hb) (hin.below hb) hs
    rw [if_pos h0, hN] at this; exact this
  have C40 : Hid (∀ w', Below w.heap.size w w' → Calls Tryz.prog 40 #[.agg (pkCells p)] w' fun e w'' => e = .returned (.int .i64 F) ∧ Below w'.heap.size w' w'') := fun w' hb => by
    have := flags_any p c w' (hg.below hb) (hin.below hb) hs hR
    rw [← hF] at this; exact this
  have C43 : Hid (∀ (w5 w' : World) (v : Value) (n : Nat) (xs : List Value), Below w.heap.size w w5 → w'.ownsRow w5.heap.size 5 1 v n xs → v ≠ .slice none 0 0 → Below w5.heap.size w5 w' → n ≤ 10 → Calls Tryz.prog 43 #[v, .agg (pkCells p)] w' fun e w'' => Adds w5.heap.size v w' w'' e (n + N) (xs ++ fieldsL p c)) := fun w5 w' v n xs hb h1 hv h2 hn => by
    have := wFields_any w5 w' p c v n xs hR (hin.below hb) (by omega) h1 hv h2 hn
    rw [hN] at this; exact this
  obtain ⟨T, hT⟩ : ∃ T, T = fieldsL p c := ⟨_, rfl⟩
  rw [← hT] at C43 ⊢
  obtain ⟨cs, hcs⟩ : ∃ cs, cs = pkCells p := ⟨_, rfl⟩
  have hsz : Hid (cs.size = 25) := by show _ = _; rw [hcs]; rfl
  have hk0 : Hid (cs[0]? = some (.int .i64 14)) := by show _ = _; rw [hcs, ← hk]; rfl
  rw [← hcs] at C10 C16 C40 C43 g0 hW ⊢
  have HN2 : Hid (N ≤ 299990) := hN2
  clear hcs hT hg hin hs hk h0 hF hN hN2 hR
  go_enter Tryz.func11, Tryz.ntmps11
  go_upto_region 1 with fail
  rw [← hW]
  clear hW
  go_wp2_with (first | (refine wpList_load_wanted rfl _ rfl w.heap.size rfl _ (0, 0) g0.out hsz.out ?_) | fail)
  go_must (go_at_call 10)
  refine (C10.out _ b0.out).mono ?_
  rintro e w1 ⟨rfl, hb⟩
  have b1 : Hid (Below w.heap.size w w1) := b0.out.trans (hb.mono b0.out.size)
  have g1 : Hid (w1.heap[w.heap.size]? = some (.cells cs 29)) := (hb.block _ (heap_in g0.out)).trans g0.out
  clear hb
  go_wp2_with (first | (refine wpList_load_wanted rfl _ rfl w.heap.size rfl _ (0, 0) g1.out hsz.out ?_) | fail)
  go_must (go_at_call 16)
  refine (C16.out _ b1.out).mono ?_
  rintro e w2 ⟨rfl, hb⟩
  have b2 : Hid (Below w.heap.size w w2) := b1.out.trans (hb.mono b1.out.size)
  have g2 : Hid (w2.heap[w.heap.size]? = some (.cells cs 29)) := (hb.block _ (heap_in g1.out)).trans g1.out
  clear hb
  go_upto_region 5 with fail
  have k0 : ∀ d os, (grow (redrawn w2 d) os).cell? ⟨w.heap.size, 0, none⟩ = some (.int .i64 14) := fun d os => cell_later (below_regrown w2 d os) (box_cells g2.out 0 _ hk0.out)
  have L1 : Hid (∀ w', (∃ p : Regrown, w' = grow (redrawn w2 p.d) p.os) → (loadVar 29 ⟨w.heap.size, 0, none⟩).run Tryz.prog w' = .ok (.agg cs) w') := by
    rintro _ ⟨pp, rfl⟩
    exact run_loadVar_row _ w.heap.size 29 29 cs (0, 0) _ (((below_regrown w2 pp.d pp.os).block _ (heap_in g2.out)).trans g2.out) Tryz.underlying29 rfl (by rw [hsz.out]; kernel_rfl)
  have D40 : Hid (∀ d os, Calls Tryz.prog 40 #[.agg cs] (grow (redrawn w2 d) os) fun e w'' => e = .returned (.int .i64 F) ∧ Below (grow (redrawn w2 d) os).heap.size (grow (redrawn w2 d) os) w'') := fun d os => C40.out _ (b2.out.trans ((below_regrown w2 d os).mono b2.out.size))
  refine wp_region_quiet_below (by kernel_rfl) (by kernel_rfl) ?_
  repeat (first | (refine quiet_load rfl rfl w.heap.size rfl (.agg cs) L1.out ?_) | quiet_step (first | (go_at_call 40; exact Calls.regrown_of (D40.out _ _))))
  refine wpQuiet_nil ?_
  rintro _ ⟨⟨d, os⟩, rfl⟩
  have b5 : Hid (Below w.heap.size w (grow (redrawn w2 d) os)) := b2.out.trans ((below_regrown w2 d os).mono b2.out.size)
  have g5 : Hid ((grow (redrawn w2 d) os).heap[w.heap.size]? = some (.cells cs 29)) := ((below_regrown w2 d os).block _ (heap_in g2.out)).trans g2.out
  obtain ⟨w5, hw5⟩ : ∃ w5, w5 = grow (redrawn w2 d) os := ⟨_, rfl⟩
  rw [← hw5] at b5 g5 ⊢
  clear hw5 k0 L1 D40
  have e51 := e50.out.1
  have hb5a : Below w5.heap.size w5 (w5.alloc (.cells #[.int .u8 t] 5)) := (Below.refl _ _).alloc (Nat.le_refl _) _
  have C42 : Hid (Calls Tryz.prog 42 #[.slice (some ⟨w5.heap.size, 0, none⟩) 1 1, .int .i64 N] (w5.alloc (.cells #[.int .u8 t] 5)) fun e w' => Made (w5.alloc (.cells #[.int .u8 t] 5)) w' e (1 + kn N) (cellsOf (oneZ t) 1 ++ cellsOf (glZ N) (kn N))) :=
    putLength_in (some ⟨w5.heap.size, 0, none⟩) 1 1 (oneZ t) N (by omega) (by have := HN2.out; omega) _ (new_came w5 1 (oneZ t) _ rfl (fun i => by have := e50.out.2; unfold oneZ; split <;> omega)) (by decide)
  go_wp2_with fail
  go_must (go_at_call 42)
  refine C42.out.mono ?_
  rintro e w6 ⟨g, cp, rfl, ho, hb⟩
  have HO : Hid (w6.ownsRow w5.heap.size 5 1 (.slice (some ⟨g, 0, none⟩) (1 + kn N) cp) (1 + kn N) (cellsOf (oneZ t) 1 ++ cellsOf (glZ N) (kn N))) := own_base ho hb5a.size
  have B6 : Hid (Below w5.heap.size w5 w6) := hb5a.trans (hb.mono hb5a.size)
  have HKN : Hid (1 + kn N ≤ 5) := by show _ ≤ _; have := kn_bd N; omega
  have X6 : Hid (∃ xs, xs = cellsOf (oneZ t) 1 ++ cellsOf (glZ N) (kn N)) := ⟨_, rfl⟩
  obtain ⟨xs, hxs⟩ := X6.out
  rw [← hxs] at HO
  have HXS : Hid (cellsOf (oneZ t) 1 ++ cellsOf (glZ N) (kn N) = xs) := hxs.symm
  clear hb ho hb5a C42 e51 hxs X6
  go_wp2_with fail
  go_must (go_at_call 41)
  refine (grow_own w5.heap.size (1 + kn N) N _ xs w6 HO.out (by simp) B6.out.size (by have := HKN.out; omega) (by have := HN2.out; omega)).mono ?_
  rintro e w7 ⟨v7, rfl, o7, n7, gb7, ow7⟩
  have N7 : Hid (v7 ≠ .slice none 0 0) := n7
  have O7 : Hid (w7.ownsRow w5.heap.size 5 1 v7 (1 + kn N) xs) := o7
  have B7 : Hid (Below w5.heap.size w5 w7) := B6.out.trans (gb_below2 gb7 B6.out.size (fun k e => (HO.out.lt k e).1))
  have g7 : Hid (w7.heap[w.heap.size]? = some (.cells cs 29)) := (B7.out.block _ (heap_in g5.out)).trans g5.out
  clear o7 n7 gb7 ow7
  go_wp2_with (first | (refine wpList_load_wanted rfl _ rfl w.heap.size rfl _ (0, 0) g7.out hsz.out ?_) | fail)
  go_must (go_at_call 43)
  refine (C43.out w5 w7 v7 (1 + kn N) xs b5.out O7.out N7.out B7.out (by have := HKN.out; omega)).mono ?_
  rintro e w8 ⟨v8, rfl, o8, n8, gb8, ow8⟩
  have O8 : Hid (w8.ownsRow w.heap.size 5 1 v8 (1 + kn N + N) (xs ++ T)) := own_base o8 b5.out.size
  have N8 : Hid (v8 ≠ .slice none 0 0) := n8
  have B8 : Hid (Below w.heap.size w w8) := by
    have h1 : Below w5.heap.size w5 w8 := B7.out.trans (gb_below2 gb8 B7.out.size (fun k e => (O7.out.lt k e).1))
    exact b5.out.trans (h1.mono b5.out.size)
  clear o8 n8 gb8 ow8
  go_wp2_with fail
  go_ret2
  exact ⟨v8, rfl, by rw [HXS.out]; exact O8.out, N8.out, B8.out⟩

theorem encode_right (p : Pk) (c : Cn) (w : World) (hg : Gd w) (hin : In w p c) (hs : Small p c) (hR : Right TT p c) (hN2 : sz p c ≤ 299990) :
    Calls Tryz.prog 11 #[.agg (pkCells p)] w fun e w' => ∃ v, e = .returned (.tuple #[v, .int .i64 0]) ∧ w'.ownsRow w.heap.size 5 1 v (1 + kn (sz p c) + sz p c) (cellsOf (oneZ (16 * p.kind + fg p)) 1 ++ cellsOf (glZ (sz p c)) (kn (sz p c)) ++ fieldsL p c) ∧ v ≠ .slice none 0 0 ∧ Below w.heap.size w w' := by
  have k1 := hR.k1
  have k2 := hR.k2
  have hk : p.kind = 1 ∨ p.kind = 2 ∨ p.kind = 3 ∨ p.kind = 4 ∨ p.kind = 5 ∨ p.kind = 6 ∨ p.kind = 7 ∨ p.kind = 8 ∨ p.kind = 9 ∨ p.kind = 10 ∨ p.kind = 11 ∨ p.kind = 12 ∨ p.kind = 13 ∨ p.kind = 14 := by omega
  rcases hk with k | k | k | k | k | k | k | k | k | k | k | k | k | k
  · exact encode_k1 p c w _ hg hin hs k hR rfl hN2
  · exact encode_k2 p c w _ hg hin hs k hR rfl hN2
  · exact encode_k3 p c w _ hg hin hs k hR rfl hN2
  · exact encode_k4 p c w _ hg hin hs k hR rfl hN2
  · exact encode_k5 p c w _ hg hin hs k hR rfl hN2
  · exact encode_k6 p c w _ hg hin hs k hR rfl hN2
  · exact encode_k7 p c w _ hg hin hs k hR rfl hN2
  · exact encode_k8 p c w _ hg hin hs k hR rfl hN2
  · exact encode_k9 p c w _ hg hin hs k hR rfl hN2
  · exact encode_k10 p c w _ hg hin hs k hR rfl hN2
  · exact encode_k11 p c w _ hg hin hs k hR rfl hN2
  · exact encode_k12 p c w _ hg hin hs k hR rfl hN2
  · exact encode_k13 p c w _ hg hin hs k hR rfl hN2
  · exact encode_k14 p c w _ hg hin hs k hR rfl hN2
end Go.Proofs.YtibihbclijpkjaaGreatDoor
