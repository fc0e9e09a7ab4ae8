import Derived.Test.YtibihbclijpkjaaGreatDoorHh
namespace Go.Proofs.YtibihbclijpkjaaGreatDoor
open Go Go.RowKit
open Pkt (Pk Cn Sl In By Is Ss As pkCells Gd sumN Right TT sz fg ck ck_right Small wpList_load_wanted check_any)
set_option linter.unusedSimpArgs false
set_option linter.unusedVariables false

set_option maxRecDepth 100000 in
set_option maxHeartbeats 4000000 in
theorem form_ok (K : KnownOk) (a0 : Option Addr) (l0 k0 : Nat) (z0 : Nat → Int) (top : Int) (w : World) (h0 : Came w a0 l0 k0 z0) (p0 : Plain a0) (hg : Gd w) (hl0 : l0 ≤ 150000)
    (p : Pk) (c : Cn) (m : Nat) (hD : decP z0 l0 top = .ok p c m) :
    Calls Tryz.prog 4 #[.slice a0 l0 k0, .int .i64 top] w fun e w' => e = .returned (.bool true) ∧ Below w.heap.size w w' := by
  obtain ⟨hR, hS, hm2, hml, hlen, hmost⟩ := dec_taken h0.2.1 (by omega) hD
  have KK : Hid (Calls Tryz.prog 8 #[] w fun e w' => e = .returned (.bool true) ∧ Below w.heap.size w w') := K w hg
  have D1 : Hid (∀ w', Below w.heap.size w w' → Calls Tryz.prog 14 #[.slice a0 l0 k0, .int .i64 top] w' fun e w'' => DecIs w' w'' e (.ok p c m)) := fun w' hb => by
    rw [← hD]
    exact decode_came a0 l0 k0 _ top w' (came_below (B := 0) h0 hb) p0 (by omega) (hg.below hb)
  have HG : Hid (∀ w', Below w.heap.size w w' → Gd w') := fun w' hb => hg.below hb
  obtain ⟨M, hM⟩ : ∃ M, M = 1 + kn (sz p c) + sz p c := ⟨_, rfl⟩
  have C10 : Hid (∀ (q : Pk) w', Below w.heap.size w w' → Alike q p → In w' q c → Calls Tryz.prog 10 #[.agg (pkCells q)] w' fun e w'' => e = .returned (.int .i64 0) ∧ Below w'.heap.size w' w'') := fun q w' hb ha hi => by
    have := check_any q c w' (hg.below hb) hi (small_alike ha hS)
    rw [ck_alike ha, (ck_right TT p c).2 hR] at this; exact this
  have RQ : Hid (∀ q, Alike q p → Right TT q c ∧ sz q c = sz p c) := fun q ha => ⟨back_right hR (Back.of_alike c ha), back_sz (Back.of_alike c ha)⟩
  have C11 : Hid (∀ (q : Pk) w', Below w.heap.size w w' → Alike q p → In w' q c → Calls Tryz.prog 11 #[.agg (pkCells q)] w' fun e w'' => ∃ g cap, e = .returned (.tuple #[.slice (some ⟨g, 0, none⟩) M cap, .int .i64 0]) ∧ Came w'' (some ⟨g, 0, none⟩) M cap (byteAt (encL q c)) ∧ Below w'.heap.size w' w'') := fun q w' hb ha hi => by
    obtain ⟨rq, es⟩ := RQ.out q ha
    have hby := byts_enc rq hi.wP.2.1 hi.pass.2.1 hi.mP.2.1
    refine (encode_right q c w' (hg.below hb) hi (small_alike ha hS) rq (by omega)).mono ?_
    rintro e w'' ⟨v, rfl, ho, hv, hbb⟩
    have el := enc_len rq
    have ho2 : w''.ownsRow w'.heap.size 5 1 v (1 + kn (sz q c) + sz q c) (encL q c) := ho
    rw [← el] at ho2
    obtain ⟨g, cap, rfl, hc⟩ := adds_slice ho2 hv _ (byteAt_bd hby) (byteAt_cells hby)
    have eM : (encL q c).length = M := by rw [el, es, hM]
    rw [eM] at hc ⊢
    exact ⟨g, cap, rfl, hc, hbb⟩
  have C14 : Hid (∀ (q : Pk) (w1 w' : World) g cap, Below w.heap.size w w' → Alike q p → In w1 q c → Came w' (some ⟨g, 0, none⟩) M cap (byteAt (encL q c)) → Calls Tryz.prog 14 #[.slice (some ⟨g, 0, none⟩) M cap, .int .i64 top] w' fun e w'' => ∃ q' : Pk, e = .returned (.tuple #[.agg (pkCells q'), .int .i64 M, .nilIface]) ∧ In w'' q' c ∧ Alike q' q ∧ Below w'.heap.size w' w'') := fun q w1 w' g cap hb ha hi hc => by
    obtain ⟨rq, es⟩ := RQ.out q ha
    have hby := byts_enc rq hi.wP.2.1 hi.pass.2.1 hi.mP.2.1
    obtain ⟨p', c', hd, hback⟩ := (dec_back (n := M) rq top (byteAt_at hby) (by rw [es, hM]; omega)).2 (by rw [es]; exact hmost)
    have := decode_came (some ⟨g, 0, none⟩) M cap _ top w' hc (fun ad e => by cases e; exact ⟨_, _, rfl⟩) (by omega) (hg.below hb)
    rw [hd] at this
    refine this.mono ?_
    rintro e w'' ⟨⟨q', rfl, hin, hal, _⟩, hbb⟩
    refine ⟨q', by rw [es, hM], back_in hback hal hin hi, hal.trans hback.al, hbb⟩
  have HS : Hid (Small p c) := hS
  have hmM : (M : Int) ≤ m := by omega
  have hm0 : ((m : Int) == 0) = false := by simp; omega
  have d1 : decide ((m : Int) < 2) = false := decide_eq_false (by omega)
  have d2 : decide (l0 < m) = false := decide_eq_false (by omega)
  have d3 : decide ((l0 : Int) < m) = false := decide_eq_false (by omega)
  have d4 : decide (M ≤ m) = true := decide_eq_true (by omega)
  have d5 : decide ((M : Int) ≤ m) = true := decide_eq_true (by omega)
  have hMM : ((M : Int) == (M : Int)) = true := by simp
  clear hR hS hM hD hg h0 p0 K RQ hmost hlen
  have n1 : ¬ (150000 : Int) < l0 := by omega
  go_enter Tryz.func4, Tryz.ntmps4
  go_wp2_with (go_at_call 8; refine KK.out.mono ?_; rintro e w1 ⟨rfl, hb⟩; have B1 : Hid (Below w.heap.size w w1) := hb; clear hb KK)
  go_must (go_at_call 14)
  refine (D1.out w1 B1.out).mono ?_
  rintro e w2 ⟨⟨q, rfl, hin, hal, _⟩, hb2⟩
  have B2 : Hid (Below w.heap.size w w2) := B1.out.trans (hb2.mono B1.out.size)
  obtain ⟨W3, hW3⟩ : ∃ W, W = w2.alloc (.cells (pkCells q) 29) := ⟨_, rfl⟩
  have bb3 : Below w2.heap.size w2 W3 := by rw [hW3]; exact (Below.refl _ _).alloc (Nat.le_refl _) _
  have B3 : Hid (Below w.heap.size w W3) := B2.out.trans (bb3.mono B2.out.size)
  have P3 : Hid (W3.heap[w2.heap.size]? = some (.cells (pkCells q) 29 (0, 0))) := by show _ = _; rw [hW3]; exact heap_alloc_new w2 _
  have I3 : Hid (In W3 q c) := hin.below bb3
  have A3 : Hid (Alike q p) := hal
  clear hin hal hb2 bb3 D1 B1 B2
  go_upto_region 6 with (first | (refine wpList_store_row rfl 29 _ _ rfl w2.heap.size (pkCells q) rfl rfl 29 _ (heap_alloc_new w2 _) pk_info rfl (pk_one _) ?_))
  rw [World.setRow_alloc_new, ← hW3]
  clear hW3
  go_upto_region 8 with fail
  have CK : Hid (Calls Tryz.prog 10 #[.agg (pkCells q)] W3 fun e w'' => e = .returned (.int .i64 0) ∧ Below W3.heap.size W3 w'') := C10.out q W3 B3.out A3.out I3.out
  go_upto_region 10 with (first | (refine wpList_load_wanted rfl _ rfl w2.heap.size rfl _ (0, 0) P3.out (pk_size _) ?_) | (go_at_call 10; refine CK.out.mono ?_; rintro e w4 ⟨rfl, hb4⟩; have B4 : Hid (Below w.heap.size w w4) := B3.out.trans (hb4.mono B3.out.size); have P4 : Hid (w4.heap[w2.heap.size]? = some (.cells (pkCells q) 29 (0, 0))) := (hb4.block _ (lt_of_block P3.out)).trans P3.out; have I4 : Hid (In w4 q c) := I3.out.below hb4; clear hb4) | (go_at_call 12; refine (lnum_any _ _).mono ?_; rintro e w' ⟨rfl, hee⟩; obtain rfl := hee.symm; clear hee) | fail)
  trace "at 10"
  go_wp2_with (first | (refine wpList_load_wanted rfl _ rfl w2.heap.size rfl _ (0, 0) P4.out (pk_size _) ?_) | fail)
  go_must (go_at_call 11)
  refine (C11.out q w4 B4.out A3.out I4.out).mono ?_
  rintro e w5 ⟨g, cap, rfl, hc5, hb5⟩
  have B5 : Hid (Below w.heap.size w w5) := B4.out.trans (hb5.mono B4.out.size)
  have P5 : Hid (w5.heap[w2.heap.size]? = some (.cells (pkCells q) 29 (0, 0))) := (hb5.block _ (lt_of_block P4.out)).trans P4.out
  have I5 : Hid (In w5 q c) := I4.out.below hb5
  have DD : Hid (Calls Tryz.prog 14 #[.slice (some ⟨g, 0, none⟩) M cap, .int .i64 top] w5 fun e w'' => ∃ q' : Pk, e = .returned (.tuple #[.agg (pkCells q'), .int .i64 M, .nilIface]) ∧ In w'' q' c ∧ Alike q' q ∧ Below w5.heap.size w5 w'') := C14.out q w5 w5 g cap B5.out A3.out I5.out hc5
  clear hc5 hb5 C11 C14 P4 I4 B4 CK P3 I3 B3
  go_wp2_with fail
  go_must (go_at_call 14)
  refine DD.out.mono ?_
  rintro e w7 ⟨q', rfl, hin, hal, hb7⟩
  obtain ⟨W8, hW8⟩ : ∃ W, W = w7.alloc (.cells (pkCells q') 29) := ⟨_, rfl⟩
  have bb8 : Below w7.heap.size w7 W8 := by rw [hW8]; exact (Below.refl _ _).alloc (Nat.le_refl _) _
  have b58 : Below w5.heap.size w5 W8 := hb7.trans (bb8.mono hb7.size)
  have B8 : Hid (Below w.heap.size w W8) := B5.out.trans (b58.mono B5.out.size)
  have P8 : Hid (W8.heap[w2.heap.size]? = some (.cells (pkCells q) 29 (0, 0))) := (b58.block _ (lt_of_block P5.out)).trans P5.out
  have Q8 : Hid (W8.heap[w7.heap.size]? = some (.cells (pkCells q') 29 (0, 0))) := by show _ = _; rw [hW8]; exact heap_alloc_new w7 _
  have SAME : Hid (Calls Tryz.prog 19 #[.agg (pkCells q), .agg (pkCells q')] W8 fun e w' => e = .returned (.bool true) ∧ Below W8.heap.size W8 w') := same_alike p q q' c W8 A3.out (hal.trans A3.out) (I5.out.below b58) (hin.below bb8) HS.out
  clear hin hal hb7 bb8 b58 DD P5 I5 B5
  go_upto_region 12 with (first | (refine wpList_store_row rfl 29 _ _ rfl w7.heap.size (pkCells q') rfl rfl 29 _ (heap_alloc_new w7 _) pk_info rfl (pk_one _) ?_))
  rw [World.setRow_alloc_new, ← hW8]
  clear hW8
  go_wp2_with (first | (refine wpList_load_wanted rfl _ rfl w2.heap.size rfl _ (0, 0) P8.out (pk_size _) ?_) | (refine wpList_load_wanted rfl _ rfl w7.heap.size rfl _ (0, 0) Q8.out (pk_size _) ?_) | (go_at_call 19; refine SAME.out.mono ?_; rintro e w11 ⟨rfl, hb11⟩; have B11 : Hid (Below w.heap.size w w11) := B8.out.trans (hb11.mono B8.out.size); clear hb11) | (go_at_call 12; refine (lnum_any _ _).mono ?_; rintro e w' ⟨rfl, hee⟩; obtain rfl := hee.symm; clear hee))
  go_ret
  exact ⟨rfl, B11.out⟩
theorem form_any (K : KnownOk) (a0 : Option Addr) (l0 k0 : Nat) (z0 : Nat → Int) (top : Int) (w : World) (h0 : Came w a0 l0 k0 z0) (p0 : Plain a0) (hg : Gd w) :
    Calls Tryz.prog 4 #[.slice a0 l0 k0, .int .i64 top] w fun e w' => e = .returned (.bool true) ∧ Below w.heap.size w w' := by
  by_cases hl : 150000 < l0
  · exact form_long K a0 l0 k0 top w hg hl
  cases hD : decP z0 l0 top with
  | ok p c m => exact form_ok K a0 l0 k0 z0 top w h0 p0 hg (by omega) p c m hD
  | fault x => exact form_none K a0 l0 k0 z0 top w h0 p0 hg (by omega) (fun p c m e => by rw [hD] at e; cases e)
  | more => exact form_none K a0 l0 k0 z0 top w h0 p0 hg (by omega) (fun p c m e => by rw [hD] at e; cases e)
end Go.Proofs.YtibihbclijpkjaaGreatDoor
