import Derived.Test.YtcoccggimbficaaGreatDoorUl
import Derived.Test.YtcoccggimbficaaGreatDoorRt
namespace Go.Proofs.YtcoccggimbficaaGreatDoor
open Go Go.RowKit Go.Sort
set_option linter.unusedSimpArgs false
set_option linter.unusedVariables false

theorem row_below {B : Nat} {w w' : World} (h : Below B w w') (g : Nat) (cs : Array Value) (hg : B ≤ g) : Below B w (w'.setRow g cs) := by
  refine ⟨h.os, h.tape, h.output, ?_, fun k hk => ?_⟩
  · show w.heap.size ≤ (w'.heap.modify _ _).size
    have := h.size
    simpa using this
  · rw [setRow_other w' g k cs (by omega)]
    exact h.block k hk

set_option maxHeartbeats 4000000 in
set_option maxRecDepth 100000 in
theorem checks_walk (p : Pk) (c : Cn) (w : World) (hg : Gd w) (hin : In w p c) (hf : Fit p c) (hn : Nils p) : Calls Tryz.prog 3 #[p.v] w fun e w' => e = .returned (.bool true) ∧ Below w.heap.size w w' := by
  have HG : Hid (Gd w) := hg
  have HI : Hid (In w p c) := hin
  have HF : Hid (Fit p c) := hf
  have HN : Hid (Nils p) := hn
  clear hg hin hf hn
  have HQ : Hid (∀ w' h0, Below w.heap.size w w' → w'.heap[h0]? = some (.cells (pkCells p) 29) → Calls Tryz.prog 5 #[.slice (some ⟨h0, 0, none⟩) 1 1] w' fun e w'' => ∃ b, e = .returned (.bool b) ∧ Below w'.heap.size w' w'' ∧ (b = true → parts p c ≤ 300000)) := fun w' h0 hb hx => few_any p c w' h0 (HI.out.below hb) HF.out hx
  obtain ⟨P, hP⟩ : ∃ P, P = pkCells p := ⟨_, rfl⟩
  have vP : Hid (p.v = .agg P) := by show _ = _; rw [hP]; rfl
  rw [vP.out]
  rw [← hP] at HQ
  have SP : Hid (P.size = 25) := by show _ = _; rw [hP]; rfl
  have HFold : Hid (∀ z : Array Value, z.size = 25 → Array.foldl (fun (cs : Array Value) (x : Value × Nat) => cs.setIfInBounds x.snd x.fst) z P.zipIdx 0 P.size = P) := fun z h => fold_whole P z (h.trans SP.out.symm)
  clear hP
  obtain ⟨W, hW⟩ : ∃ W, W = w.alloc (.cells P 29) := ⟨_, rfl⟩
  have b0 : Hid (Below w.heap.size w W) := box_below hW
  have g0 : Hid (W.heap[w.heap.size]? = some (.cells P 29)) := by show _ = _; rw [hW]; exact heap_alloc_new w _
  go_enter Tryz.func3, Tryz.ntmps3
  go_upto_region 1 with fail
  rw [← hW]
  clear hW
  go_wp2_with (first | (refine wpList_load_wanted rfl _ rfl w.heap.size rfl _ (0, 0) g0.out SP.out ?_) | fail)
  · have := SP.out
    simp [this] at h
  go_must (go_at_call 5)
  rw [HFold.out _ rfl]
  obtain ⟨W1, hW1⟩ : ∃ W1, W1 = W.alloc (.cells P 29) := ⟨_, rfl⟩
  rw [← hW1]
  have c1 : Hid (Below W.heap.size W W1) := box_below hW1
  have b1 : Hid (Below w.heap.size w W1) := b0.out.trans (c1.out.mono b0.out.size)
  have g1 : Hid (W1.heap[w.heap.size]? = some (.cells P 29)) := (c1.out.block _ (block_lt g0.out)).trans g0.out
  have g2 : W1.heap[W.heap.size]? = some (.cells P 29) := by rw [hW1]; exact heap_alloc_new W _
  clear hW1
  refine (HQ.out W1 _ b1.out g2).mono ?_
  clear g2
  rintro e w1 ⟨b, rfl, hb, hp⟩
  have b2 : Hid (Below w.heap.size w w1) := b1.out.trans (hb.mono b1.out.size)
  have g2 : Hid (w1.heap[w.heap.size]? = some (.cells P 29)) := (hb.block _ (block_lt g1.out)).trans g1.out
  clear hb
  cases b
  · clear hp
    go_wp2
    go_ret
    exact ⟨rfl, b2.out⟩
  have HS : Hid (Small p c) := small_of (hp rfl)
  clear hp
  go_upto_region 4 with fail
  show Code.wp Tryz.prog _ _ _ (w1.alloc (.cells nil28 47))
  have g3 : Hid ((w1.alloc (.cells nil28 47)).heap[w.heap.size]? = some (.cells P 29)) := ((below1 w1 _).block _ (block_lt g2.out)).trans g2.out
  go_wp2_with (first | (refine wpList_load_wanted rfl _ rfl w.heap.size rfl P (0, 0) g3.out SP.out ?_) | fail)
  go_must (go_at_call 6)
  refine (show Calls Tryz.prog 6 #[.pointer (some ⟨w1.heap.size, 0, none⟩), .agg P] (w1.alloc (.cells nil28 47)) _ from by rw [← vP.out]; exact packet_laid p c w1 (HI.out.below b2.out) HS.out HN.out).mono ?_
  rintro e w3 ⟨s1, s2, s3, s4, s5, s6, rfl, hb, hi, ⟨n1, n2, n3, n4, n5, n6⟩, hr⟩
  have b3 : Hid (Below w.heap.size w w3) := b2.out.trans (hb.mono b2.out.size)
  have p3 : Hid (w3.heap[w.heap.size]? = some (.cells P 29)) := (hb.block _ (block_lt g2.out)).trans g2.out
  have NN : Hid (s1.n = p.wP.n ∧ s2.n = p.pass.n ∧ s3.n = p.mP.n ∧ s4.n = p.asks.n ∧ s5.n = p.codes.n ∧ s6.n = p.filters.n) := ⟨n1, n2, n3, n4, n5, n6⟩
  have I3 : Hid (In w3 (p.re s1 s2 s3 s4 s5 s6) c) := hi
  have R3 : Hid (RoomOk w3 w1.heap.size 3 1 1 1) := hr
  clear hb hi n1 n2 n3 n4 n5 n6 hr g2 g3
  obtain ⟨Q, hQ⟩ : ∃ Q, Q = pkCells (p.re s1 s2 s3 s4 s5 s6) := ⟨_, rfl⟩
  have vQ : Hid ((p.re s1 s2 s3 s4 s5 s6).v = .agg Q) := by show _ = _; rw [hQ]; rfl
  rw [vQ.out]
  have SQ : Hid (Q.size = 25) := by show _ = _; rw [hQ]; rfl
  have OQ : Hid (Q.all (·.oneCell') = true) := by show _ = _; rw [hQ]; simp [pkCells, Value.oneCell']
  clear hQ
  go_upto_region 5 with (first | (refine wpList_store_row rfl 29 _ _ rfl w3.heap.size Q rfl rfl 29 _ (heap_alloc_new w3 _) (by rw [SQ.out]; kernel_rfl) (by rw [SQ.out]; kernel_rfl) OQ.out ?_))
  obtain ⟨W4, hW4⟩ : ∃ W4, W4 = (w3.alloc (.cells #[.int .i64 0, .int .i64 0, .bool false, .int .i64 0, .string ⟨#[]⟩, .bool false, .string ⟨#[]⟩, .slice none 0 0, .int .i64 0, .bool false, .bool false, .string ⟨#[]⟩, .bool false, .slice none 0 0, .bool false, .int .i64 0, .bool false, .string ⟨#[]⟩, .slice none 0 0, .int .i64 0, .bool false, .int .i64 0, .slice none 0 0, .slice none 0 0, .slice none 0 0] 29)).setRow w3.heap.size Q := ⟨_, rfl⟩
  rw [← hW4]
  have b34 : Hid (Below w3.heap.size w3 W4) := by rw [hW4]; exact row_below ((Below.refl _ _).alloc (Nat.le_refl _) _) _ _ (Nat.le_refl _)
  have q4 : Hid (W4.heap[w3.heap.size]? = some (.cells Q 29)) := by show _ = _; rw [hW4]; exact setRow_heap _ _ _ Q 29 (0, 0) (heap_alloc_new w3 _)
  clear hW4
  have p4 : Hid (W4.heap[w.heap.size]? = some (.cells P 29)) := (b34.out.block _ (block_lt p3.out)).trans p3.out
  have b4 : Hid (Below w.heap.size w W4) := b3.out.trans (b34.out.mono b3.out.size)
  have CT : Hid (∀ w', Below W4.heap.size W4 w' → Calls Tryz.prog 7 #[.agg Q, .agg P] w' fun e w'' => e = .returned (.bool true) ∧ Below w'.heap.size w' w'') := fun w' hb => by
    have bb : Below w.heap.size w w' := b4.out.trans (hb.mono b4.out.size)
    have b3' : Below w3.heap.size w3 w' := b34.out.trans (hb.mono b34.out.size)
    rw [← vP.out, ← vQ.out]
    exact tells_eq p c s1 s2 s3 s4 s5 s6 w' (HG.out.below bb) (HI.out.below bb) (I3.out.below b3') NN.out.1 NN.out.2.1 NN.out.2.2.1 NN.out.2.2.2.1 NN.out.2.2.2.2.1 NN.out.2.2.2.2.2 HS.out
  have CS : Hid (∀ w', Below W4.heap.size W4 w' → Calls Tryz.prog 8 #[.agg Q, .agg P] w' fun e w'' => e = .returned (.bool true) ∧ Below w'.heap.size w' w'') := fun w' hb => by
    have bb : Below w.heap.size w w' := b4.out.trans (hb.mono b4.out.size)
    have b3' : Below w3.heap.size w3 w' := b34.out.trans (hb.mono b34.out.size)
    rw [← vP.out, ← vQ.out]
    exact rsame_eq p c s1 s2 s3 s4 s5 s6 w' (HI.out.below bb) (I3.out.below b3') NN.out.1 NN.out.2.1 NN.out.2.2.1 NN.out.2.2.2.1 NN.out.2.2.2.2.1 NN.out.2.2.2.2.2 HS.out
  have CH : Hid (∀ w', Below W4.heap.size W4 w' → Calls Tryz.prog 9 #[.pointer (some ⟨w1.heap.size, 0, none⟩)] w' fun e w'' => e = .returned (.bool true) ∧ Below w'.heap.size w' w'') := fun w' hb =>
    hold_any _ 3 1 1 1 w' (R3.out.below (b34.out.trans (hb.mono b34.out.size)))
  go_wp2_with (first | (refine wpList_load_wanted rfl _ rfl w3.heap.size rfl Q (0, 0) q4.out SQ.out ?_) | (refine wpList_load_wanted rfl _ rfl w.heap.size rfl P (0, 0) p4.out SP.out ?_) | fail)
  go_must (go_at_call 7)
  refine (CT.out _ (Below.refl _ _)).mono ?_
  rintro e w5 ⟨rfl, hb⟩
  have d5 : Hid (Below W4.heap.size W4 w5) := hb
  have q5 : Hid (w5.heap[w3.heap.size]? = some (.cells Q 29)) := (hb.block _ (block_lt q4.out)).trans q4.out
  have p5 : Hid (w5.heap[w.heap.size]? = some (.cells P 29)) := (hb.block _ (block_lt p4.out)).trans p4.out
  clear hb
  go_wp2_with (first | (refine wpList_load_wanted rfl _ rfl w3.heap.size rfl Q (0, 0) q5.out SQ.out ?_) | (refine wpList_load_wanted rfl _ rfl w.heap.size rfl P (0, 0) p5.out SP.out ?_) | fail)
  go_must (go_at_call 7)
  refine (CT.out _ d5.out).mono ?_
  rintro e w6 ⟨rfl, hb⟩
  have d6 : Hid (Below W4.heap.size W4 w6) := d5.out.trans (hb.mono d5.out.size)
  have q6 : Hid (w6.heap[w3.heap.size]? = some (.cells Q 29)) := (hb.block _ (block_lt q5.out)).trans q5.out
  have p6 : Hid (w6.heap[w.heap.size]? = some (.cells P 29)) := (hb.block _ (block_lt p5.out)).trans p5.out
  clear hb
  go_wp2_with (first | (refine wpList_load_wanted rfl _ rfl w3.heap.size rfl Q (0, 0) q6.out SQ.out ?_) | (refine wpList_load_wanted rfl _ rfl w.heap.size rfl P (0, 0) p6.out SP.out ?_) | fail)
  go_must (go_at_call 8)
  refine (CS.out _ d6.out).mono ?_
  rintro e w7 ⟨rfl, hb⟩
  have d7 : Hid (Below W4.heap.size W4 w7) := d6.out.trans (hb.mono d6.out.size)
  clear hb
  go_wp2_with fail
  go_must (go_at_call 9)
  refine (CH.out _ d7.out).mono ?_
  rintro e w8 ⟨rfl, hb⟩
  have d8 : Hid (Below w.heap.size w w8) := (b4.out.trans (d7.out.mono b4.out.size)).trans (hb.mono (b4.out.trans (d7.out.mono b4.out.size)).size)
  clear hb
  go_wp2
  go_ret
  exact ⟨rfl, d8.out⟩
end Go.Proofs.YtcoccggimbficaaGreatDoor
