import Derived.Test.YtphofgnehdlafaaGreatDoorBlg
namespace Go.Proofs.YtphofgnehdlafaaGreatDoor.Bk
open Go Go.RowKit
set_option linter.unusedSimpArgs false
set_option linter.unusedVariables false
set_option maxRecDepth 100000
set_option maxHeartbeats 4000000
structure Nl (w0 wx : World) (a : Option Addr) (n c : Nat) (L : List Value) : Prop where
 cl : CL wx a n c L
 new : ∀ g off, a = some ⟨g, off, none⟩ → w0.heap.size ≤ g ∧ ∃ k, wx.heap[g]? = some (.cells k 5 (0, 0))
theorem cl_of_own {w : World} {B n c : Nat} {a : Option Addr} {L : List Value} (h : w.ownsRow B 5 1 (.slice a n c) n L) : CL w a n c L := by
 rcases h.2 with ⟨q, h0⟩ | ⟨g, cap, cur, q, _, hg, hnc, _, hcs, ht⟩
 ·
  injection q with q1 q2 q3
  subst h0
  exact ⟨by omega, by simpa using h.1, .inl rfl⟩
 ·
  injection q with q1 q2 q3
  subst q1 q3
  refine ⟨hnc, by simpa using h.1, .inr ⟨g, 0, rfl, fun j hj => ?_⟩⟩
  rw [Nat.zero_add]
  exact h.cellAt j (by omega)
theorem nl_of {w0 w w' : World} {b n c : Nat} {a : Option Addr} {L : List Value} (h : Cp w w' b n L (.slice a n c)) (hb : w0.heap.size ≤ b) (hs : w0.heap.size ≤ w.heap.size) : Nl w0 w' a n c L := by
 refine ⟨cl_of_own h.own, fun g off e => ?_⟩
 subst e
 obtain ⟨k, hk⟩ := own_blk h.own (k := g) rfl
 refine ⟨?_, k, hk⟩
 rcases h.wh with q | q
 ·
  have e' : g = b := by simpa [Value.ownBlock] using q
  omega
 ·
  have e' : g = w.heap.size := by simpa [Value.ownBlock] using q
  omega
theorem Nl.keep {w0 wx w' : World} {a : Option Addr} {n c : Nat} {L : List Value} (h : Nl w0 wx a n c L) (hk : ∀ (g : Nat) (k : Array Value), wx.heap[g]? = some (.cells k 5 (0, 0)) → w'.heap[g]? = wx.heap[g]?) : Nl w0 w' a n c L := by
 refine ⟨⟨h.cl.1, h.cl.2.1, ?_⟩, fun g off e => ?_⟩
 ·
  rcases h.cl.2.2 with h0 | ⟨g, off, e, hc⟩
  ·
   exact .inl h0
  ·
   refine .inr ⟨g, off, e, fun j hj => ?_⟩
   obtain ⟨_, k, hg⟩ := h.new g off e
   rw [← hc j hj]
   unfold World.cell?
   rw [show (⟨g, off + j, none⟩ : Addr).block = g from rfl, hk g k hg]
 ·
  obtain ⟨h1, k, hg⟩ := h.new g off e
  exact ⟨h1, k, (hk g k hg).trans hg⟩
theorem pu_five {w w' : World} {bb B : Nat} {cs : Array Value} {rv : Nat → Value} {xs : Nat → List Value} {i : Nat} {x v' : Value} (h : BR w bb B cs rv xs) (hi : i < 8) (p : Pu w w' bb B cs rv xs i x v') : ∀ (g : Nat) (k : Array Value), w.heap[g]? = some (.cells k 5 (0, 0)) → (w'.setCell ⟨bb, 4 + i, none⟩ v').heap[g]? = w.heap[g]? := by
 intro g k hg
 rw [Below.heap_setCell _ _ _ _ (show g ≠ bb from blk_ne hg h.at_ (by decide))]
 exact p.gr.block g (lt_of_block hg) (fun e => by obtain ⟨c, hc⟩ := own_blk (h.own i hi) e.symm; exact blk_ne hg hc (Ne.symm (et_ne i).2) rfl)
theorem bytes_any (bb B : Nat) (S : Nat → Prop) (cs : Array Value) (rv : Nat → Value) (xs : Nat → List Value) (t seen : Nat) (va : Option Addr) (vn vc : Nat) (L : List Value) (mark : Int) (w0 w : World) (Q : World → Prop)
    (hq : Bq w0 w bb B S cs rv xs t 0 seen) (hB : B ≤ w.heap.size) (hl : ∀ i, i < 8 → (xs i).length ≤ 900000) (ht : t ≤ 100000) (hsn : seen ≤ 100000) (hc : CL w va vn vc L) (hv5 : ∀ g off, va = some ⟨g, off, none⟩ → ∃ k, w.heap[g]? = some (.cells k 5 (0, 0))) (h1 : ∀ u ∈ L, u.oneCell' = true) (hn : vn ≤ 2000000)
    (hk : ∀ wx cs' v2 v3 v5 v6 a4 k4 (due : Nat), Bq w0 wx bb B S cs' (upd (upd (upd (upd rv 2 v2) 3 v3) 5 v5) 6 v6) (upd (upd (upd (upd xs 2 (xs 2 ++ [.slice va vn vc])) 3 (xs 3 ++ [.slice a4 vn k4])) 5 (xs 5 ++ [.int .i64 mark])) 6 (xs 6 ++ [.int .i64 due])) t 1 (seen + 1 : Nat) → Nl w0 wx a4 vn k4 L → (∀ (g : Nat) (k : Array Value), w.heap[g]? = some (.cells k 5 (0, 0)) → wx.heap[g]? = w.heap[g]?) → t ≤ due → due ≤ t + 8 → Calls Tryz.prog 57 #[.pointer (some ⟨bb, 0, none⟩)] wx fun e w' => e = .returned (.tuple #[]) ∧ Q w') :
    Calls Tryz.prog 53 #[.pointer (some ⟨bb, 0, none⟩), .slice va vn vc, .int .i64 mark] w fun e w' => e = .returned (.tuple #[]) ∧ Q w' := by
  have H0 : Hid (Bq w0 w bb B S cs rv xs t 0 seen) := hq
  have HL : Hid (∀ i, i < 8 → (xs i).length ≤ 900000) := hl
  have HB : Hid (B ≤ w.heap.size ∧ t ≤ 100000 ∧ seen ≤ 100000 ∧ vn ≤ 2000000 ∧ ∀ u ∈ L, u.oneCell' = true) := ⟨hB, ht, hsn, hn, h1⟩
  have HC : Hid (CL w va vn vc L ∧ ∀ g off, va = some ⟨g, off, none⟩ → ∃ k, w.heap[g]? = some (.cells k 5 (0, 0))) := ⟨hc, hv5⟩
  have HK : Hid (∀ wx cs' v2 v3 v5 v6 a4 k4 (due : Nat), Bq w0 wx bb B S cs' (upd (upd (upd (upd rv 2 v2) 3 v3) 5 v5) 6 v6) (upd (upd (upd (upd xs 2 (xs 2 ++ [.slice va vn vc])) 3 (xs 3 ++ [.slice a4 vn k4])) 5 (xs 5 ++ [.int .i64 mark])) 6 (xs 6 ++ [.int .i64 due])) t 1 (seen + 1 : Nat) → Nl w0 wx a4 vn k4 L → (∀ (g : Nat) (k : Array Value), w.heap[g]? = some (.cells k 5 (0, 0)) → wx.heap[g]? = w.heap[g]?) → t ≤ due → due ≤ t + 8 → Calls Tryz.prog 57 #[.pointer (some ⟨bb, 0, none⟩)] wx fun e w' => e = .returned (.tuple #[]) ∧ Q w') := hk
  have c3 := (bk_cell hq.br.at_ hq.hd.dp).1
  have z3 := (bk_cell hq.br.at_ hq.hd.dp).2
  clear hq hl hB ht hsn hc hv5 h1 hn hk
  go_enter Tryz.func53, Tryz.ntmps53
  go_upto_region 1 with fail
  obtain ⟨w1, hw1⟩ : ∃ W, W = w.setCell ⟨bb, 3, none⟩ (.int .i64 1) := ⟨_, rfl⟩
  have H1 : Hid (Bq w0 w1 bb B S (cs.setIfInBounds 3 (.int .i64 1)) rv xs t 1 seen) := by
    show Bq _ _ _ _ _ _ _ _ _ _ _; rw [hw1]; exact H0.out.other 3 (by omega) _ (H0.out.hd.deep 1)
  have V1 : Hid (∀ (g : Nat) (k : Array Value), w.heap[g]? = some (.cells k 5 (0, 0)) → w1.heap[g]? = w.heap[g]?) := by
    intro g k hg; rw [hw1]; exact Below.heap_setCell _ _ _ _ (blk_ne hg H0.out.br.at_ (by decide))
  have S1 : Hid (w1.heap.size = w.heap.size) := by show _ = _; rw [hw1]; simp [World.setCell]
  rw [← hw1]
  clear hw1 c3 z3
  have c6 := (H1.out.br.cell 2 (by decide)).1
  have BA : Hid (Bq w0 (w1.alloc (.cells #[.slice va vn vc] 22)) bb B S (cs.setIfInBounds 3 (.int .i64 1)) rv xs t 1 seen) := H1.out.below ((Below.refl _ _).alloc (Nat.le_refl _) _)
  go_wp2_with (first | (at_builtin; refine wpList_bpush rfl (.tmp 17) (.tmp 19) 33 rfl BA.out.br 2 (by decide) Tryz.underlying33 rfl w1.heap.size (.slice va vn vc) rfl (heap_alloc_new w1 _) rfl (by have := HL.out 2 (by decide); omega) (by have := HB.out.1; have := S1.out; simp; omega) ?_) | fail)
  intro v2 w2 pu
  have PU2 : Hid (Pu _ w2 bb B _ rv xs 2 (.slice va vn vc) v2) := pu
  obtain ⟨a2, n2, k2, hv2⟩ := pu.sl
  clear pu
  subst hv2
  have cw1 := (bk_cell PU2.out.bk (H1.out.br.fld 2 (by decide))).1
  have cw2 := (bk_cell PU2.out.bk (H1.out.br.fld 2 (by decide))).2
  obtain ⟨w3, hw3⟩ : ∃ W, W = w2.setCell ⟨bb, 6, none⟩ (.slice a2 n2 k2) := ⟨_, rfl⟩
  obtain ⟨cs3, hcs3⟩ : ∃ c, c = (cs.setIfInBounds 3 (.int .i64 1)).setIfInBounds (4 + 2) (.slice a2 n2 k2) := ⟨_, rfl⟩
  have H3 : Hid (Bq w0 w3 bb B S cs3 (upd rv 2 (.slice a2 n2 k2)) (upd xs 2 (xs 2 ++ [.slice va vn vc])) t 1 seen) := by
    show Bq _ _ _ _ _ _ _ _ _ _ _; rw [hw3, hcs3]; exact BA.out.push (by decide) PU2.out
  have V3 : Hid (∀ (g : Nat) (k : Array Value), w.heap[g]? = some (.cells k 5 (0, 0)) → w3.heap[g]? = w.heap[g]?) := by
    intro g k hg
    have e1 := V1.out g k hg
    have e2 : (w1.alloc (.cells #[.slice va vn vc] 22)).heap[g]? = some (.cells k 5 (0, 0)) := (((Below.refl w1.heap.size w1).alloc (Nat.le_refl _) _).block g (lt_of_block (e1.trans hg))).trans (e1.trans hg)
    rw [hw3]; exact (pu_five BA.out.br (by decide) PU2.out g k e2).trans (e2.trans hg.symm)
  have S3 : Hid (w.heap.size ≤ w3.heap.size) := by have h1 := PU2.out.gr.size; have := S1.out; show _ ≤ _; rw [hw3]; simp [World.setCell] at h1 ⊢; omega
  clear hcs3 c6
  go_upto_region 2 with fail
  rw [← hw3]
  clear hw3 cw1 cw2
  have CL3 : Hid (CL w3 va vn vc L) := by
    refine ⟨HC.out.1.1, HC.out.1.2.1, ?_⟩
    rcases HC.out.1.2.2 with h0 | ⟨g, off, e, hc⟩
    · exact .inl h0
    · refine .inr ⟨g, off, e, fun j hj => ?_⟩
      obtain ⟨k, hg⟩ := HC.out.2 g off e
      rw [← hc j hj]
      unfold World.cell?
      rw [show (⟨g, off + j, none⟩ : Addr).block = g from rfl, V3.out g k hg]
  go_cut [] from 6 (fun wx => ∃ (a4 : Option Addr) (k4 : Nat) (v3 : Value) (cs' : Array Value), Hid (Bq w0 wx bb B S cs' (upd (upd rv 2 (.slice a2 n2 k2)) 3 v3) (upd (upd xs 2 (xs 2 ++ [.slice va vn vc])) 3 (xs 3 ++ [.slice a4 vn k4])) t 1 seen) ∧ Hid (Nl w0 wx a4 vn k4 L) ∧ Hid (∀ (g : Nat) (k : Array Value), w.heap[g]? = some (.cells k 5 (0, 0)) → wx.heap[g]? = w.heap[g]?) ∧ Hid (w.heap.size ≤ wx.heap.size))
  case first =>
    have HR3 : Hid (upd rv 2 (.slice a2 n2 k2) 3 = rv 3) := upd_ne _ _ (by decide)
    have HX3 : Hid (upd xs 2 (xs 2 ++ [.slice va vn vc]) 3 = xs 3) := upd_ne _ _ (by decide)
    have c7 : w3.cell? ⟨bb, 7, none⟩ = some (rv 3) := by have := (H3.out.br.cell 3 (by decide)).1; rw [HR3.out] at this; exact this
    have BA3 : Hid (Below w3.heap.size w3 (w3.alloc (.cells #[] 5)).drew) := ((Below.refl _ _).alloc (Nat.le_refl _) _).drew
    have c7a : (w3.alloc (.cells #[] 5)).drew.cell? ⟨bb, 7, none⟩ = some (rv 3) := cell_later BA3.out c7
    have HE : Hid ((w3.alloc (.cells #[] 5)).drew.heap[w3.heap.size]? = some (.cells #[] 5 (0, 0))) := heap_alloc_new w3 _
    have HC3 : Hid (CL (w3.alloc (.cells #[] 5)).drew va vn vc L) := CL3.out.below BA3.out
    have BR3a : Hid (Bq w0 (w3.alloc (.cells #[] 5)).drew bb B S cs3 (upd rv 2 (.slice a2 n2 k2)) (upd xs 2 (xs 2 ++ [.slice va vn vc])) t 1 seen) := H3.out.below BA3.out
    have SW : Hid (w0.heap.size ≤ w3.heap.size) := H3.out.ch.size
    first | go_region_law (first | (refine step_copy rfl (.tmp 28) (.tmp 29) rfl w3.heap.size rfl HE.out va vn vc L rfl HC3.out HB.out.2.2.2.2 HB.out.2.2.2.1 ?_; intro v4 w4 cp; have CP4 : Hid (Cp (w3.alloc (.cells #[] 5)).drew w4 w3.heap.size vn L v4) := cp; obtain ⟨a4, k4, hv4⟩ : ∃ a c, v4 = .slice a vn c := (by rcases cp.own.2 with ⟨q1, q2⟩ | ⟨g, cp', _, q1, _⟩; exact ⟨_, _, q2 ▸ q1⟩; exact ⟨_, _, q1⟩); clear cp; subst hv4; have BR4 : Hid (Bq w0 w4 bb B S cs3 (upd rv 2 (.slice a2 n2 k2)) (upd xs 2 (xs 2 ++ [.slice va vn vc])) t 1 seen) := BR3a.out.copy HE.out SW.out CP4.out; have c7b : w4.cell? ⟨bb, 7, none⟩ = some (rv 3) := (by have := (BR4.out.br.cell 3 (by decide)).1; rw [HR3.out] at this; exact this); have BR4a : Hid (Bq w0 (w4.alloc (.cells #[.slice a4 vn k4] 22)) bb B S cs3 (upd rv 2 (.slice a2 n2 k2)) (upd xs 2 (xs 2 ++ [.slice va vn vc])) t 1 seen) := BR4.out.below ((Below.refl _ _).alloc (Nat.le_refl _) _); have c7c : (w4.alloc (.cells #[.slice a4 vn k4] 22)).cell? ⟨bb, 7, none⟩ = some (rv 3) := (by have := (BR4a.out.br.cell 3 (by decide)).1; rw [HR3.out] at this; exact this)) | (refine step_bpush rfl (.tmp 27) (.tmp 31) 33 rfl BR4a.out.br 3 (by decide) Tryz.underlying33 HR3.out.symm w4.heap.size (.slice a4 vn k4) rfl (heap_alloc_new w4 _) rfl (by rw [HX3.out]; have := HL.out 3 (by decide); omega) (by have h1 := CP4.out.gr.size; have := HB.out.1; have := S3.out; simp [World.drew] at h1 ⊢; omega) ?_; intro v5 w5 pu5; have PU5 : Hid (Pu (w4.alloc (.cells #[.slice a4 vn k4] 22)) w5 bb B cs3 (upd rv 2 (.slice a2 n2 k2)) (upd xs 2 (xs 2 ++ [.slice va vn vc])) 3 (.slice a4 vn k4) v5) := pu5; obtain ⟨a5, n5, k5, hv5⟩ := pu5.sl; clear pu5; subst hv5; have c7d := (bk_cell PU5.out.bk (BR4a.out.br.fld 3 (by decide))).1; have z7d := (bk_cell PU5.out.bk (BR4a.out.br.fld 3 (by decide))).2; rw [HR3.out] at c7d) | go_simp) | fail
    all_goals
      go_wp2_with fail
      go_meet
      case rel =>
        have B5 := BR4a.out.push (by decide) PU5.out
        rw [HX3.out] at B5
        have fv : ∀ (g : Nat) (k : Array Value), w4.heap[g]? = some (.cells k 5 (0, 0)) → (w5.setCell ⟨bb, 4 + 3, none⟩ (.slice a5 n5 k5)).heap[g]? = w4.heap[g]? := fun g k hg => by
          have e2 : (w4.alloc (.cells #[.slice a4 vn k4] 22)).heap[g]? = some (.cells k 5 (0, 0)) := (((Below.refl w4.heap.size w4).alloc (Nat.le_refl _) _).block g (lt_of_block hg)).trans hg
          exact (pu_five BR4a.out.br (by decide) PU5.out g k e2).trans (e2.trans hg.symm)
        refine ⟨a4, k4, _, _, B5, (nl_of CP4.out SW.out (Nat.le_trans SW.out BA3.out.size)).keep fv, fun g k hg => ?_, ?_⟩
        · have e1 := (BA3.out.block g (lt_of_block ((V3.out g k hg).trans hg))).trans ((V3.out g k hg).trans hg)
          have e2 : w4.heap[g]? = some (.cells k 5 (0, 0)) := (CP4.out.gr.block g (lt_of_block e1) (fun q => by cases q; have := lt_of_block ((V3.out _ k hg).trans hg); omega)).trans e1
          exact (fv g k e2).trans (e2.trans hg.symm)
        · have h1 := CP4.out.gr.size
          have h2 := PU5.out.gr.size
          have := S3.out
          have h3 := BA3.out.size
          show w.heap.size ≤ _
          simp [World.setCell, World.drew] at h1 h2 h3 ⊢
          omega
  case rest =>
    obtain ⟨a4, k4, v3, cs4, H4, N4, V4, S4⟩ := hcut
    obtain ⟨rv4, hrv4⟩ : ∃ r, r = upd (upd rv 2 (.slice a2 n2 k2)) 3 v3 := ⟨_, rfl⟩
    obtain ⟨xs4, hxs4⟩ : ∃ r, r = upd (upd xs 2 (xs 2 ++ [.slice va vn vc])) 3 (xs 3 ++ [.slice a4 vn k4]) := ⟨_, rfl⟩
    rw [← hrv4, ← hxs4] at H4
    have X5 : Hid (xs4 5 = xs 5 ∧ xs4 6 = xs 6) := by rw [hxs4]; exact ⟨by rw [upd_ne _ _ (by decide), upd_ne _ _ (by decide)], by rw [upd_ne _ _ (by decide), upd_ne _ _ (by decide)]⟩
    have E4 : Hid (rv4 = upd (upd rv 2 (.slice a2 n2 k2)) 3 v3 ∧ xs4 = upd (upd xs 2 (xs 2 ++ [.slice va vn vc])) 3 (xs 3 ++ [.slice a4 vn k4])) := ⟨hrv4, hxs4⟩
    clear hrv4 hxs4 H0 H1 BA PU2 H3 V1 V3 CL3 S1 S3
    have c9 := (H4.out.br.cell 5 (by decide)).1
    have BA4 : Hid (Bq w0 (wc.alloc (.cells #[.int .i64 mark] 3)) bb B S cs4 rv4 xs4 t 1 seen) := H4.out.below ((Below.refl _ _).alloc (Nat.le_refl _) _)
    go_wp2_with (first | (at_builtin; refine wpList_bpush rfl (.tmp 39) (.tmp 41) 26 rfl BA4.out.br 5 (by decide) Tryz.underlying26 rfl wc.heap.size (.int .i64 mark) rfl (heap_alloc_new wc _) rfl (by rw [X5.out.1]; have := HL.out 5 (by decide); omega) (by have := HB.out.1; have := S4.out; simp; omega) ?_) | fail)
    intro v5 w5 pu
    have PU5 : Hid (Pu (wc.alloc (.cells #[.int .i64 mark] 3)) w5 bb B cs4 rv4 xs4 5 (.int .i64 mark) v5) := pu
    obtain ⟨a5, n5, k5, hv5⟩ := pu.sl
    clear pu
    subst hv5
    have cw1 := (bk_cell PU5.out.bk (H4.out.br.fld 5 (by decide))).1
    have cw2 := (bk_cell PU5.out.bk (H4.out.br.fld 5 (by decide))).2
    obtain ⟨w6, hw6⟩ : ∃ W, W = w5.setCell ⟨bb, 9, none⟩ (.slice a5 n5 k5) := ⟨_, rfl⟩
    obtain ⟨cs6, hcs6⟩ : ∃ c, c = cs4.setIfInBounds (4 + 5) (.slice a5 n5 k5) := ⟨_, rfl⟩
    have H6 : Hid (Bq w0 w6 bb B S cs6 (upd rv4 5 (.slice a5 n5 k5)) (upd xs4 5 (xs 5 ++ [.int .i64 mark])) t 1 seen) := by
      show Bq _ _ _ _ _ _ _ _ _ _ _; rw [hw6, hcs6, ← X5.out.1]; exact BA4.out.push (by decide) PU5.out
    have F6 : Hid (∀ (g : Nat) (k : Array Value), wc.heap[g]? = some (.cells k 5 (0, 0)) → w6.heap[g]? = wc.heap[g]?) := fun g k hg => by
      have e2 : (wc.alloc (.cells #[.int .i64 mark] 3)).heap[g]? = some (.cells k 5 (0, 0)) := (((Below.refl wc.heap.size wc).alloc (Nat.le_refl _) _).block g (lt_of_block hg)).trans hg
      rw [hw6]; exact (pu_five BA4.out.br (by decide) PU5.out g k e2).trans (e2.trans hg.symm)
    have S6 : Hid (w.heap.size ≤ w6.heap.size) := by have h1 := PU5.out.gr.size; have := S4.out; show _ ≤ _; rw [hw6]; simp [World.setCell] at h1 ⊢; omega
    clear hcs6 c9
    go_upto_region 4 with fail
    rw [← hw6]
    clear hw6 cw1 cw2
    go_cut [] from 6 (fun wx => ∃ (due : Nat) (v6 : Value) (cs' : Array Value), Hid (Bq w0 wx bb B S cs' (upd (upd rv4 5 (.slice a5 n5 k5)) 6 v6) (upd (upd xs4 5 (xs 5 ++ [.int .i64 mark])) 6 (xs 6 ++ [.int .i64 due])) t 1 seen) ∧ Hid (∀ (g : Nat) (k : Array Value), wc.heap[g]? = some (.cells k 5 (0, 0)) → wx.heap[g]? = wc.heap[g]?) ∧ Hid (t ≤ due ∧ due ≤ t + 8))
    case first =>
      have X6 : Hid (upd xs4 5 (xs 5 ++ [.int .i64 mark]) 6 = xs 6) := by show _ = _; rw [upd_ne _ _ (by decide)]; exact X5.out.2
      have R6 : Hid (upd rv4 5 (.slice a5 n5 k5) 6 = rv4 6) := upd_ne _ _ (by decide)
      have B6 : Hid (Below w6.heap.size w6 w6.drew) := (Below.refl _ _).drew
      have c10 : w6.cell? ⟨bb, 10, none⟩ = some (rv4 6) := by have := (H6.out.br.cell 6 (by decide)).1; rw [R6.out] at this; exact this
      have c12 : w6.cell? ⟨bb, 12, none⟩ = some (.int .i64 seen) := (bk_cell H6.out.br.at_ H6.out.hd.sn).1
      have DU : Hid (Calls Tryz.prog 114 #[.pointer (some ⟨bb, 0, none⟩), .int .i64 seen] w6.drew fun e w1 => (∃ d : Nat, e = .returned (.int .i64 d) ∧ t ≤ d ∧ d ≤ t + 8) ∧ w1 = w6.drew) := due_any bb cs6 seen t w6.drew (by have := HB.out; omega) (by have := HB.out; omega) H6.out.br.at_ H6.out.hd.now H6.out.hd.turn
      have BR6 : Hid (Bq w0 w6.drew bb B S cs6 (upd rv4 5 (.slice a5 n5 k5)) (upd xs4 5 (xs 5 ++ [.int .i64 mark])) t 1 seen) := H6.out.below B6.out
      first | go_region_law (first | (refine step_bpush rfl (.tmp 49) (.tmp 56) 26 rfl BR6a.out.br 6 (by decide) Tryz.underlying26 R6.out.symm w6.heap.size (.int .i64 dd) rfl (heap_alloc_new w6.drew _) rfl (by rw [X6.out]; have := HL.out 6 (by decide); omega) (by have := HB.out.1; have := S6.out; simp [World.drew]; omega) ?_; intro v7 w7 pu7; have PU7 : Hid (Pu (w6.alloc (.cells #[.int .i64 dd] 3)).drew w7 bb B cs6 (upd rv4 5 (.slice a5 n5 k5)) (upd xs4 5 (xs 5 ++ [.int .i64 mark])) 6 (.int .i64 dd) v7) := pu7; obtain ⟨a7, n7, k7, hv7⟩ := pu7.sl; clear pu7; subst hv7; have c7d := (bk_cell PU7.out.bk (BR6a.out.br.fld 6 (by decide))).1; have z7d := (bk_cell PU7.out.bk (BR6a.out.br.fld 6 (by decide))).2; rw [R6.out] at c7d) | (go_simp; go_wp2_with (go_at_call 114; refine DU.out.mono ?_; rintro e wd ⟨⟨dd, rfl, hd1, hd2⟩, hwd⟩; have HD : Hid (t ≤ dd ∧ dd ≤ t + 8) := ⟨hd1, hd2⟩; obtain rfl := hwd.symm; clear hwd hd1 hd2; have BR6a : Hid (Bq w0 (w6.alloc (.cells #[.int .i64 dd] 3)).drew bb B S cs6 (upd rv4 5 (.slice a5 n5 k5)) (upd xs4 5 (xs 5 ++ [.int .i64 mark])) t 1 seen) := H6.out.below ((Below.refl _ _).alloc (Nat.le_refl _) _).drew; have c10a : (w6.alloc (.cells #[.int .i64 dd] 3)).drew.cell? ⟨bb, 10, none⟩ = some (rv4 6) := (by have := (BR6a.out.br.cell 6 (by decide)).1; rw [R6.out] at this; exact this)))) | fail
      all_goals
        go_wp2_with fail
        go_meet
        case rel =>
          have B7 := BR6a.out.push (by decide) PU7.out
          rw [X6.out] at B7
          refine ⟨dd, _, _, B7, fun g k hg => ?_, HD⟩
          have e1 := (F6.out g k hg).trans hg
          have e2 : (w6.alloc (.cells #[.int .i64 dd] 3)).drew.heap[g]? = some (.cells k 5 (0, 0)) := (((Below.refl w6.heap.size w6).alloc (Nat.le_refl _) _).block g (lt_of_block e1)).trans e1
          exact (pu_five BR6a.out.br (by decide) PU7.out g k e2).trans (e2.trans hg.symm)
    case rest =>
      obtain ⟨due, v6, cs7, H7, F7, D7⟩ := hcut
      have cs12 := (bk_cell H7.out.br.at_ H7.out.hd.sn).1
      have zs12 := (bk_cell H7.out.br.at_ H7.out.hd.sn).2
      have hws : IntKind.i64.wrap ((seen : Int) + 1) = ((seen + 1 : Nat) : Int) := by rw [IntKind.wrap_i64]; have := HB.out; omega
      obtain ⟨w8, hw8⟩ : ∃ W, W = wc.setCell ⟨bb, 12, none⟩ (.int .i64 ((seen + 1 : Nat) : Int)) := ⟨_, rfl⟩
      have H8 : Hid (Bq w0 w8 bb B S (cs7.setIfInBounds 12 (.int .i64 ((seen + 1 : Nat) : Int))) (upd (upd rv4 5 (.slice a5 n5 k5)) 6 v6) (upd (upd xs4 5 (xs 5 ++ [.int .i64 mark])) 6 (xs 6 ++ [.int .i64 due])) t 1 (seen + 1 : Nat)) := by
        show Bq _ _ _ _ _ _ _ _ _ _ _; rw [hw8]; exact H7.out.other 12 (by omega) _ (H7.out.hd.seen _)
      have F8 : Hid (∀ (g : Nat) (k : Array Value), wc.heap[g]? = some (.cells k 5 (0, 0)) → w8.heap[g]? = wc.heap[g]?) := fun g k hg => by
        rw [hw8]; exact Below.heap_setCell _ _ _ _ (blk_ne hg H7.out.br.at_ (by decide))
      go_upto_region 6 with fail
      rw [show ((seen : Int) + 1) = ((seen + 1 : Nat) : Int) by omega, ← hw8]
      clear hw8 cs12 zs12
      go_wp2_with fail
      go_must (go_at_call 57)
      have hb8 := H8.out
      rw [E4.out.1, E4.out.2] at hb8
      refine (HK.out w8 _ _ _ _ _ a4 k4 due hb8 ((N4.out.keep F7.out).keep F8.out) (fun g k hg => ?_) D7.out.1 D7.out.2).mono ?_
      · have e1 := (V4.out g k hg).trans hg
        have e2 := (F7.out g k e1).trans e1
        exact ((F8.out g k e2).trans e2).trans hg.symm
      · rintro e w9 ⟨rfl, hq9⟩
        have HQ : Hid (Q w9) := hq9
        clear hq9
        go_wp2_with fail
        go_end0
        exact ⟨rfl, HQ.out⟩
theorem push_keep {P : Program} (w : World) (base : Nat) (t ty e : TypeId) (i : TypeInfo) (z : Value) (size bytes : Nat) (ht : P.underlying t = some (.slice e)) (hi : P.info? e = some i) (hz : i.zero = some z)
    (hsize : i.size = size) (hby : i.bytes = bytes) (hzs : z.cells.size = size) (hsz : 0 < size) (v : Value) (n : Nat) (xs : List Value) (hown : w.ownsRow base e size v n xs)
    (a : Addr) (m c : Nat) (news : List Value) (hm : 0 < m) (hl : news.length = m * size) (hnews : ∀ j u, news[j]? = some u → w.cell? (a.add j) = some u) (h1 : ∀ u ∈ news, u.oneCell' = true)
    (h63 : n + m ≤ maxLen) (hbytes : (n + m) * bytes ≤ 140737488355328) (hbase : base ≤ w.heap.size) :
    ∃ v' w', (Builtin.append_ #[t, t] ty #[v, .slice (some a) m c]).run P w = .ok v' w' ∧ w'.ownsRow base e size v' (n + m) (xs ++ news) ∧ w.grownBy w' v.ownBlock ∧ (v'.ownBlock = v.ownBlock ∨ (v'.ownBlock = some w.heap.size ∧ Below w.heap.size w w')) := by
  obtain ⟨v', w', hr, h2, h3, h4⟩ := run_append_own (P := P) w base t ty e i z size bytes ht hi hz hsize hby hzs hsz v n xs hown a m c news hl hnews h1 h63 hbytes hbase
  refine ⟨v', w', hr, h2, h3, ?_⟩
  subst hsize hby
  have hsm : n + m ≤ 9223372036854775807 := by simp only [maxLen] at h63; omega
  rcases hown.2 with ⟨rfl, rfl⟩ | ⟨g, cap, cur, rfl, _, hg, hnc, _, hcs, _⟩
  · have q := run_append_nil (P := P) w t ty e i z ht hi hz a m c news hl hnews hm (by omega) (by have hb := hbytes; simp only [Nat.zero_add] at hb; omega)
    rw [q] at hr
    cases hr
    exact .inr ⟨rfl, (Below.refl w.heap.size w).drew.alloc (Nat.le_refl _) _⟩
  · by_cases hroom : n + m ≤ cap
    · have q := run_append_room (P := P) w t ty e i ht hi g n cap cur hg a m c news hl hnews h1 hroom (by rw [hl, hcs, ← Nat.add_mul]; exact Nat.mul_le_mul_right _ hroom)
      rw [q] at hr
      cases hr
      exact .inl rfl
    · have q := run_append_grow (P := P) w t ty e i z ht hi hz ⟨g, 0, none⟩ n cap xs hown.1 (hown.cells (g := g) rfl) a m c news hl hnews (by omega) (by omega) (growslice_fits (by omega) hbytes)
      rw [q] at hr
      cases hr
      exact .inr ⟨rfl, (Below.refl w.heap.size w).drew.alloc (Nat.le_refl _) _⟩
structure Gw (w wx : World) (B n i : Nat) (v gv : Value) (L M : List Value) : Prop where
 own : wx.ownsRow B 5 1 gv (n + i) (L ++ M)
 ch : Ch (fun k => v.ownBlock = some k) w wx
 keep : ∀ g, v.ownBlock = some g → ∀ j, j < n → wx.cell? ⟨g, j, none⟩ = w.cell? ⟨g, j, none⟩
 wh : gv.ownBlock = v.ownBlock ∨ ∃ k, gv.ownBlock = some k ∧ w.heap.size ≤ k
 typ : ∀ g, v.ownBlock = some g → ∃ c, wx.heap[g]? = some (.cells c 5 (0, 0))
theorem own_cell {w : World} {B n : Nat} {v : Value} {L : List Value} (h : w.ownsRow B 5 1 v n L) {g j : Nat} (hg : v.ownBlock = some g) (hj : j < n) : w.cell? ⟨g, j, none⟩ = L[j]? := by
 rcases h.2 with ⟨r, _⟩ | ⟨g', cap, cur, r, _⟩
 ·
  rw [r] at hg; cases hg
 ·
  rw [r] at hg
  have e' : g' = g := by simpa [Value.ownBlock] using hg
  subst e'
  rw [r] at h
  exact h.cellAt j (by omega)
theorem Gw.start {w : World} {B n : Nat} {v : Value} {L : List Value} (h : w.ownsRow B 5 1 v n L) : Gw w w B n 0 v v L [] :=
 ⟨by simpa using h, Ch.refl _ _, fun _ _ _ _ => rfl, .inl rfl, fun g e => own_blk h e⟩
theorem Gw.alloc {w wx : World} {B n i : Nat} {v gv : Value} {L M : List Value} (h : Gw w wx B n i v gv L M) (o : Obj) (ho : w.ownsRow B 5 1 v n L) : Gw w (wx.alloc o) B n i v gv L M := by
 have hb : Below wx.heap.size wx (wx.alloc o) := (Below.refl _ _).alloc (Nat.le_refl _) _
 refine ⟨own_keep h.own (fun k e => hb.block k (h.own.lt k e).2), Ch.trans (S' := fun _ => False) h.ch (Below.ch hb) (fun _ _ q => q.elim), fun g e j hj => ?_, h.wh, fun g e => ?_⟩
 ·
  rw [← h.keep g e j hj]
  obtain ⟨c, hc⟩ := h.typ g e
  unfold World.cell?
  rw [show (⟨g, j, none⟩ : Addr).block = g from rfl, hb.block g (lt_of_block hc)]
 ·
  obtain ⟨c, hc⟩ := h.typ g e
  exact ⟨c, (hb.block g (lt_of_block hc)).trans hc⟩
theorem Gw.push {w wx w' : World} {B n i : Nat} {v gv gv' x : Value} {L M : List Value} (h : Gw w wx B n i v gv L M) (hv : w.ownsRow B 5 1 v n L) (ho : w'.ownsRow B 5 1 gv' (n + i + 1) (L ++ M ++ [x])) (hg : wx.grownBy w' gv.ownBlock) (hw : gv'.ownBlock = gv.ownBlock ∨ (gv'.ownBlock = some wx.heap.size ∧ Below wx.heap.size wx w')) : Gw w w' B n (i + 1) v gv' L (M ++ [x]) := by
 have hs := h.ch.size
 refine ⟨by rw [← List.append_assoc]; exact ho, ?_, fun g e j hj => ?_, ?_, fun g e => ?_⟩
 ·
  refine Ch.trans (S' := fun k => gv.ownBlock = some k) h.ch (ch_grown hg) (fun j hj q => ?_)
  rcases h.wh with e | ⟨k, e, hk⟩
  ·
   exact e ▸ q
  ·
   rw [e] at q; cases q; omega
 ·
  by_cases q : gv.ownBlock = some g
  ·
   rw [← h.keep g e j hj]
   rcases hw with e' | ⟨e', hb⟩
   ·
    rw [own_cell ho (e'.trans q) (by omega), own_cell h.own q (by omega), List.getElem?_append_left (by have := h.own.1; omega)]
   ·
    obtain ⟨c, hc⟩ := h.typ g e
    unfold World.cell?
    rw [show (⟨g, j, none⟩ : Addr).block = g from rfl, hb.block g (lt_of_block hc)]
  ·
   rw [← h.keep g e j hj]
   obtain ⟨c, hc⟩ := h.typ g e
   unfold World.cell?
   rw [show (⟨g, j, none⟩ : Addr).block = g from rfl, hg.block g (lt_of_block hc) (fun e => q e.symm)]
 ·
  rcases hw with e' | ⟨e', _⟩
  ·
   rw [e']; exact h.wh
  ·
   exact .inr ⟨_, e', hs⟩
 ·
  by_cases q : gv.ownBlock = some g
  ·
   rcases hw with e' | ⟨e', hb⟩
   ·
    exact own_blk ho (e'.trans q)
   ·
    obtain ⟨c, hc⟩ := h.typ g e
    exact ⟨c, (hb.block g (lt_of_block hc)).trans hc⟩
  ·
   obtain ⟨c, hc⟩ := h.typ g e
   exact ⟨c, (hg.block g (lt_of_block hc) (fun e => q e.symm)).trans hc⟩
theorem wpList_gpush {w wx : World} {ops : Array Oper} {rest : List Oper} {o : Oper} {a : Act} {Q : Exit → Act → World → Prop} (hgd : o.guard = none) (s x : Operand) (ho : o.op = .call { callee := .builtin .append, args := #[s, x], argTypes := #[22, 22] })
    {B n i : Nat} {v gv : Value} {L M : List Value} (h : Gw w wx B n i v gv L M) (hv : w.ownsRow B 5 1 v n L) (hs : a.eval s = gv) (g0 : Nat) (xv : Value) (hx : a.eval x = .slice (some ⟨g0, 0, none⟩) 1 1) (hg0 : wx.heap[g0]? = some (.cells #[xv] 5 (0, 0))) (h1 : xv.oneCell' = true) (hlen : n + i ≤ 2000000) (hB : B ≤ wx.heap.size)
    (k : ∀ gv' w', Gw w w' B n (i + 1) v gv' L (M ++ [xv]) → (∃ a c, gv' = .slice a (n + i + 1) c) → wpList Tryz.prog ops Q rest (a.put o.dst gv') w') : wpList Tryz.prog ops Q (o :: rest) a wx := by
  refine wpList_plain hgd fun K hK => ?_
  obtain ⟨i0, hi, hz0, hz1, hz2⟩ := info_parts binfo5
  obtain ⟨v', w', hr, h2, h3, h4⟩ := push_keep (P := Tryz.prog) wx B 22 o.type 5 i0 (.int .u8 0) 1 1 Tryz.underlying22 hi hz0 hz1 hz2 rfl (by decide) gv (n + i) (L ++ M) h.own ⟨g0, 0, none⟩ 1 1 [xv] (by decide) rfl (one_cells hg0) (by intro u hu; simp at hu; subst hu; exact h1) (by unfold maxLen; omega) (by omega) hB
  unfold Oper.wp
  simp [execOp, ho, resolve, invoke, builtin, hs, hx, hr, Result.andThen]
  refine hK _ _ (k v' w' (h.push hv h2 h3 h4) ?_)
  rcases h2.2 with ⟨q, h0⟩ | ⟨g, cap, cur, q, _⟩
  · omega
  · exact ⟨_, _, q⟩
structure Ol (w : World) (B : Nat) (D : Nat → Nat → Prop) (v : Value) (n m : Nat) (L : List Value) : Prop where
 own : w.ownsRow B 5 1 v n L
 lim : ∀ g, v.ownBlock = some g → ∀ j, D g j → j < m
 one : ∀ u ∈ L, Bv u
 few : n ≤ 2000000
theorem Ol.keep {w w' : World} {B : Nat} {D D' : Nat → Nat → Prop} {v : Value} {n m : Nat} {L : List Value} (h : Ol w B D v n m L) (h1 : ∀ k, v.ownBlock = some k → w'.heap[k]? = w.heap[k]?) (h2 : ∀ g, v.ownBlock = some g → ∀ j, D' g j → D g j) : Ol w' B D' v n m L :=
 ⟨own_keep h.own h1, fun g e j q => h.lim g e j (h2 g e j q), h.one, h.few⟩
def Sep (vs : List Value) : Prop := ∀ (i j : Nat) (v u : Value), i ≠ j → vs[i]? = some v → vs[j]? = some u → ∀ k, v.ownBlock = some k → u.ownBlock ≠ some k
theorem keeps_five {D : Nat → Nat → Prop} {w w' : World} (hd : Dk w D) (h : ∀ (g : Nat) (k : Array Value), w.heap[g]? = some (.cells k 5 (0, 0)) → w'.heap[g]? = w.heap[g]?) : Keeps D w w' := fun g j q => by
 obtain ⟨c, hc⟩ := hd.typ g j q
 unfold World.cell?
 rw [show (⟨g, j, none⟩ : Addr).block = g from rfl, h g c hc]
theorem Keeps.trans {D : Nat → Nat → Prop} {a b c : World} (h : Keeps D a b) (k : Keeps D b c) : Keeps D a c := fun g j q => (k g j q).trans (h g j q)
theorem gw_keeps {w wx : World} {B n i m : Nat} {v gv : Value} {L M : List Value} {D : Nat → Nat → Prop} (h : Gw w wx B n i v gv L M) (hd : Dk w D) (hl : ∀ g, v.ownBlock = some g → ∀ j, D g j → j < m) (hm : m ≤ n) : Keeps D w wx := fun g j q => by
 by_cases e : v.ownBlock = some g
 ·
  exact h.keep g e j (by have := hl g e j q; omega)
 ·
  obtain ⟨c, hc⟩ := hd.typ g j q
  unfold World.cell?
  rw [show (⟨g, j, none⟩ : Addr).block = g from rfl, h.ch.block g (lt_of_block hc) e]
theorem gw_typ {w wx : World} {B n i : Nat} {v gv : Value} {L M : List Value} {D : Nat → Nat → Prop} (h : Gw w wx B n i v gv L M) (hd : Dk w D) : Dk wx D := ⟨fun g j q => by
 by_cases e : v.ownBlock = some g
 ·
  exact h.typ g e
 ·
  obtain ⟨c, hc⟩ := hd.typ g j q
  exact ⟨c, (h.ch.block g (lt_of_block hc) e).trans hc⟩⟩
theorem dk_five {D : Nat → Nat → Prop} {w w' : World} (hd : Dk w D) (h : ∀ (g : Nat) (k : Array Value), w.heap[g]? = some (.cells k 5 (0, 0)) → w'.heap[g]? = w.heap[g]?) : Dk w' D := ⟨fun g j q => by
 obtain ⟨c, hc⟩ := hd.typ g j q
 exact ⟨c, (h g c hc).trans hc⟩⟩
theorem ind_own {D : Nat → Nat → Prop} {w : World} {B n c : Nat} {a : Option Addr} {L : List Value} (h : w.ownsRow B 5 1 (.slice a n c) n L) (hd : ∀ g, (Value.slice a n c).ownBlock = some g → ∀ j, j < n → D g j) : InD D a n := fun g off e j hj => by
 subst e
 rcases h.2 with ⟨q, h0⟩ | ⟨g', cap, cur, q, _⟩
 ·
  omega
 ·
  injection q with q1 q2 q3
  injection q1 with q1
  injection q1 with q1 q2
  subst q1 q2
  rw [Nat.zero_add]
  exact hd g rfl j hj
theorem own_sl {w : World} {B n : Nat} {v : Value} {L : List Value} (h : w.ownsRow B 5 1 v n L) : ∃ a c, v = .slice a n c := by
 rcases h.2 with ⟨q, h0⟩ | ⟨g, cap, cur, q, _⟩
 ·
  exact ⟨_, _, h0 ▸ q⟩
 ·
  exact ⟨_, _, q⟩
end Go.Proofs.YtphofgnehdlafaaGreatDoor.Bk
