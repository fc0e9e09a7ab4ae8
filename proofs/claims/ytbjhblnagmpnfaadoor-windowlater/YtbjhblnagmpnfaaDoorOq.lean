import Derived.Test.YtbjhblnagmpnfaaDoorOp
namespace Go.Proofs.YtbjhblnagmpnfaaDoor
open Go Go.RowKit Go.Shelf Go.Maps Go.Sort
set_option linter.unusedSimpArgs false
set_option linter.unusedVariables false
/-! ### The calls that only tell; Down -/
set_option maxHeartbeats 1000000 in
theorem online_ws {w : World} {wb : Nat} {i : WI} {c : Nat} (h : WS w wb i c) : Calls Tryd.prog 15 #[.pointer (some ⟨wb, 0, none⟩)] w fun e w' => e = .returned (.bool i.on) ∧ w' = w := by
  have c2 : w.cell? ⟨wb, 2, none⟩ = some (.bool i.on) := box_cells h.blk 2 _ rfl
  clear h
  go_enter Tryd.func15, Tryd.ntmps15
  go_wp2_with fail
  go_ret
  exact ⟨rfl, rfl⟩
set_option maxHeartbeats 1000000 in
theorem flying_ws {w : World} {wb : Nat} {i : WI} {c : Nat} (h : WS w wb i c) : Calls Tryd.prog 13 #[.pointer (some ⟨wb, 0, none⟩)] w fun e w' => e = .returned (.int .i64 (i.fs.length : Int)) ∧ w' = w := by
  have c5 : w.cell? ⟨wb, 5, none⟩ = some i.mu := box_cells h.blk 5 _ rfl
  have hlen := h.und.len Tryd.underlying68 3
  clear h
  go_enter Tryd.func13, Tryd.ntmps13
  go_wp2_with fail
  go_ret
  exact ⟨rfl, rfl⟩
theorem WS.kl {w : World} {wb : Nat} {i : WI} {c : Nat} (h : WS w wb i c) (hc : c ≤ 200000) : i.Z.length + i.L.length ≤ 1000000 := by
  have hbc := h.bc
  rcases h.half with q | q
  · omega
  · rw [q]; simp; omega
theorem WS.length {w : World} {wb : Nat} {i : WI} {c : Nat} (h : WS w wb i c) (hc : c ≤ 200000) : Calls Tryd.prog 35 #[.pointer (some ⟨wb, 6, none⟩)] w fun e w' => e = .returned (.int .i64 (i.L.length : Int)) ∧ ∃ m, w' = w.drewN m := by
  obtain ⟨la, lc, hlv⟩ := own_sl h.row
  have := length_any (w := w) (wb := wb) (k := i.Z.length + i.L.length) (gone := i.Z.length) (la := la) (lc := lc) (by rw [← hlv]; exact box_cells h.blk 6 _ rfl) (box_cells h.blk 7 _ rfl) (h.kl hc) (by omega)
  rw [show i.Z.length + i.L.length - i.Z.length = i.L.length by omega] at this
  exact this
set_option maxHeartbeats 1000000 in
theorem waiting_ws {w : World} {wb : Nat} {i : WI} {c : Nat} (h : WS w wb i c) (hc : c ≤ 200000) : Calls Tryd.prog 14 #[.pointer (some ⟨wb, 0, none⟩)] w fun e w' => e = .returned (.int .i64 (i.L.length : Int)) ∧ Below w.heap.size w w' := by
  have H := hidi (h.length hc)
  have hwl : wb < w.heap.size := h.lt (.inl rfl)
  clear h hc
  go_enter Tryd.func14, Tryd.ntmps14
  go_wp2_with (go_at_call 35; refine H.out.mono ?_; rintro e w' ⟨rfl, m, rfl⟩)
  go_ret
  exact ⟨rfl, below_drewN (Below.refl _ _)⟩
set_option maxHeartbeats 1000000 in
theorem down_ws {w : World} {wb : Nat} {i : WI} {c : Nat} (h : WS w wb i c) : Calls Tryd.prog 23 #[.pointer (some ⟨wb, 0, none⟩)] w fun e w' => e = .returned (.tuple #[]) ∧ St w w' wb i { i with on := false } c := by
  have c2 : w.cell? ⟨wb, 2, none⟩ = some (.bool i.on) := box_cells h.blk 2 _ rfl
  have f2 := box_frozen h.blk 2
  have Z := hidi (h.set (i' := { i with on := false }) 2 (.bool false) rfl rfl rfl rfl rfl rfl rfl rfl rfl rfl rfl rfl h.bs (Nat.le_refl c)).2
  clear h
  go_enter Tryd.func23, Tryd.ntmps23
  go_wp2_with fail
  go_end0
  exact ⟨rfl, Z.out⟩
/-! ### Image -/
/-- What an image holds. -/
structure Im (w w' : World) (i : WI) (vf vq : Value) : Prop where
  fl : ∃ L, w'.ownsRow w.heap.size 45 6 vf i.fs.length (frow L) ∧ L.map Fo.p = i.fs.map Fm.p ∧ ∀ o ∈ L, PB w' o.m.v o.m.xs
  qu : ∃ L', w'.ownsRow w.heap.size 30 4 vq i.L.length (mrow L') ∧ L'.map Ms.p = i.L.map Ms.p ∧ ∀ o ∈ L', PB w' o.v o.xs
theorem WS.flights {w : World} {wb : Nat} {i : WI} {c : Nat} (h : WS w wb i c) : Calls Tryd.prog 33 #[.pointer (some ⟨wb, 0, none⟩)] w fun e w' => ∃ v, e = .returned v ∧ FlOut w w' i.fs v :=
  flights_any (box_cells h.blk 5 _ rfl) h.und h.fls (List.nodup_append.1 h.nd).1 (fun f hf => (h.rng f.id (List.mem_append.2 (.inl (List.mem_map.2 ⟨f, hf, rfl⟩)))).2) h.srt (Nat.le_trans h.bf h.bm.2)
theorem WS.told {w : World} {wb : Nat} {i : WI} {c : Nat} (h : WS w wb i c) (hc : c ≤ 200000) : Calls Tryd.prog 34 #[.pointer (some ⟨wb, 6, none⟩)] w fun e w' => ∃ v, e = .returned v ∧ MsOut w w' i.L v :=
  told_any (box_cells h.blk 6 _ rfl) (box_cells h.blk 7 _ rfl) h.row rfl (h.kl hc) h.pay
theorem im_set {w : World} {b t : Nat} {x0 x1 x2 : Value} (hb : w.heap[b]? = some (.cells #[x0, x1, x2] t (0, 0))) (y0 y1 y2 : Value) : (((w.setCell ⟨b, 0, none⟩ y0).setCell ⟨b, 1, none⟩ y1).setCell ⟨b, 2, none⟩ y2).heap[b]? = some (.cells #[y0, y1, y2] t (0, 0)) := by
  rw [heap_set (heap_set (heap_set hb _) _) _]
  simp
set_option maxRecDepth 100000 in
set_option maxHeartbeats 4000000 in
theorem image_ws {w : World} {wb : Nat} {i : WI} {c : Nat} (h : WS w wb i c) (hc : c ≤ 200000) : Calls Tryd.prog 12 #[.pointer (some ⟨wb, 0, none⟩)] w fun e w' => ∃ vf vq, e = .returned (.agg #[.int .i64 (i.last : Int), vf, vq]) ∧ Im w w' i vf vq ∧ Below w.heap.size w w' := by
  have hwl : wb < w.heap.size := h.lt (.inl rfl)
  have H := hidi (And.intro h hc)
  have hne : wb ≠ w.heap.size := by omega
  have hne' : w.heap.size ≠ wb := by omega
  obtain ⟨w1, hw1⟩ : ∃ w1, w1 = w.alloc (.cells #[.int .i64 0, .slice none 0 0, .slice none 0 0] 41) := ⟨_, rfl⟩
  have a1 := heap_alloc_new w (.cells #[.int .i64 0, .slice none 0 0, .slice none 0 0] 41)
  have b1 : Below w.heap.size w (w.alloc (.cells #[.int .i64 0, .slice none 0 0, .slice none 0 0] 41)) := (Below.refl _ _).alloc (Nat.le_refl _) _
  rw [← hw1] at a1 b1
  have HB1 := hidi (And.intro a1 b1)
  have c3 : w1.cell? ⟨wb, 3, none⟩ = some (.int .i64 (i.last : Int)) := (b1.cell (p := ⟨wb, 3, none⟩) hwl).trans (box_cells h.blk 3 _ rfl)
  have F33 := hidi ((h.below b1.drew).flights)
  clear h hc a1 b1
  go_enter Tryd.func12, Tryd.ntmps12
  go_upto_region 1 with fail
  rw [← hw1]
  clear hw1
  go_region_held_law (fun w' => w'.cell? ⟨wb, 3, none⟩ = some (.int .i64 (i.last : Int))) (first | exact c3 | go_keep) (first
    | (go_at_call 33; refine F33.out.mono ?_; clear F33; rintro e w2 ⟨vf, rfl, hf⟩; obtain ⟨fa, fc, rfl⟩ := own_sl hf.choose_spec.1; have hb2 := hf.choose_spec.2.2.2; have HB2 := hidi (HB1.out.2.drew.trans (hb2.mono HB1.out.2.size)); have HX2 := hidi (later_at (w := w1.drew) HB1.out.1 hb2); have F34 := hidi ((H.out.1.below HB2.out).told H.out.2); have HF := hidi hf; clear c3; have c3 : w2.cell? ⟨wb, 3, none⟩ = some (.int .i64 (i.last : Int)) := (HB2.out.cell (p := ⟨wb, 3, none⟩) hwl).trans (box_cells H.out.1.blk 3 _ rfl); clear hf hb2)
    | (go_at_call 34; refine F34.out.mono ?_; clear F34; rintro e w3 ⟨vq, rfl, hq⟩; obtain ⟨qa, qc, rfl⟩ := own_sl hq.choose_spec.1; have hb3 := hq.choose_spec.2.2.2; have HB3 := hidi (HB2.out.trans (hb3.mono HB2.out.size)); have HX3 := hidi (later_at HX2.out hb3); have HQ := hidi (And.intro hq hb3); clear c3; have c3 : w3.cell? ⟨wb, 3, none⟩ = some (.int .i64 (i.last : Int)) := (HB3.out.cell (p := ⟨wb, 3, none⟩) hwl).trans (box_cells H.out.1.blk 3 _ rfl); have d0 := box_cells HX3.out 0 _ rfl; have d1 := box_cells HX3.out 1 _ rfl; have d2 := box_cells HX3.out 2 _ rfl; have df := box_frozen HX3.out; clear hq hb3))
  go_wp2_with fail
  refine bodyPost_ret (results_cell_row rfl _ _ _ _ _ _ _ rfl (im_set HX3.out _ _ _) Tryd.underlying41 rfl (by kernel_rfl)) rfl ⟨_, _, rfl, ?_, ?_⟩
  · obtain ⟨W, hW⟩ : ∃ W, W = (((w3.setCell ⟨w.heap.size, 0, none⟩ (.int .i64 (i.last : Int))).setCell ⟨w.heap.size, 1, none⟩ (.slice fa i.fs.length fc)).setCell ⟨w.heap.size, 2, none⟩ (.slice qa i.L.length qc)) := ⟨_, rfl⟩
    rw [← hW]
    have hch : Ch (fun j => j = w.heap.size) w3 W := by
      rw [hW]
      exact ((ch_set _ 0 _).then (ch_set _ 1 _)).then (ch_set _ 2 _)
    have hkb : Kb w3 W := Kb.ch hch (fun j hj cs fz q => by rw [hj, HX3.out] at q; simp at q)
    obtain ⟨L, f1, f2, f3, f4⟩ := HF.out
    obtain ⟨L', q1, q2, q3, q4⟩ := HQ.out.1
    have hs1 : w.heap.size < w1.heap.size := (Array.getElem?_eq_some_iff.1 HB1.out.1).1
    have hbw : ∀ {w0 W' : World} {e s n : Nat} {v : Value} {xs : List Value}, w.heap.size < w0.heap.size → W'.ownsRow w0.heap.size e s v n xs → W'.ownsRow w.heap.size e s v n xs := fun hlt ho => ⟨ho.1, ho.2.elim .inl (fun ⟨g, cap, cur, a, b, c⟩ => .inr ⟨g, cap, cur, a, by omega, c⟩)⟩
    have hnb : ∀ {w0 W' : World} {e s n : Nat} {v : Value} {xs : List Value}, w.heap.size < w0.heap.size → W'.ownsRow w0.heap.size e s v n xs → ∀ g, v.ownBlock = some g → ¬ g = w.heap.size := fun hlt ho g hg q => by
      rcases ho.2 with ⟨a, _⟩ | ⟨g', cap, cur, a, b, _⟩
      · rw [a] at hg; simp [Value.ownBlock] at hg
      · rw [a] at hg; simp [Value.ownBlock] at hg; omega
    have hs2 : w.heap.size < w2.heap.size := (Array.getElem?_eq_some_iff.1 HX2.out).1
    refine ⟨⟨L, ?_, f2, fun o ho => ((f3 o ho).keep (Kb.below HQ.out.2)).keep hkb⟩, ⟨L', ?_, q2, fun o ho => (q3 o ho).keep hkb⟩⟩
    · exact own_ch (hbw (w0 := w1.drew) hs1 (own_below f1 HQ.out.2)) hch (hnb (w0 := w1.drew) hs1 (own_below f1 HQ.out.2))
    · exact own_ch (hbw hs2 q1) hch (hnb hs2 q1)
  · exact ((HB3.out.setCell (Nat.le_refl _) _).setCell (Nat.le_refl _) _).setCell (Nat.le_refl _) _
end Go.Proofs.YtbjhblnagmpnfaaDoor
