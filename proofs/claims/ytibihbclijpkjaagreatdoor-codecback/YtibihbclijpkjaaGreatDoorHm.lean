import Derived.Test.YtibihbclijpkjaaGreatDoorHh
namespace Go.Proofs.YtibihbclijpkjaaGreatDoor
open Go Go.RowKit
open Pkt (Pk Cn Sl In By Is Ss As pkCells Gd sumN Right TT sz fg ck ck_right Small wpList_load_wanted check_any length_any box_below Fit Off parts small_of sumN_scale allN_iff)
set_option linter.unusedSimpArgs false
set_option linter.unusedVariables false

theorem flt_pos {s : ByteArray} (h : Pkt.flt s = true) : 1 ≤ s.size := by
  simp only [Pkt.flt, Pkt.fcode, Pkt.rfc, beq_iff_eq] at h
  have hc : Pkt.ct s = 0 := by split at h <;> assumption
  unfold Pkt.ct at hc
  split at hc
  · cases hc
  · omega
/-- A right packet of few parts is written in so many bytes. -/
theorem sz_few {p : Pk} {c : Cn} (r : Right TT p c) (h : parts p c ≤ 150000) : sz p c ≤ 299990 := by
  have hft := r.ft
  simp only [Pkt.flts, Bool.and_eq_true, allN_iff] at hft
  have h1 := sumN_scale (fun i => 3 + (c.af i).size) (fun i => 1 + (c.af i).size) 2 p.asks.n (fun i hi => by have := flt_pos (hft.1 i hi); omega)
  have h2 := sumN_scale (fun i => 2 + (c.fs i).size) (fun i => 1 + (c.fs i).size) 2 p.filters.n (fun i hi => by have := flt_pos (hft.2 i hi); omega)
  unfold parts at h
  unfold sz Pkt.nid Pkt.szc
  split
  · split <;> split <;> split <;> omega
  split
  · omega
  split
  · split <;> omega
  · split <;> omega

set_option maxRecDepth 100000 in
set_option maxHeartbeats 4000000 in
/-- Of many parts nothing is said. -/
theorem back_many (K : KnownOk) (p : Pk) (c : Cn) (a1 : Option Addr) (l1 k1 : Nat) (top : Int) (w : World) (hg : Gd w) (hin : In w p c) (hf : Fit p c) (hl : 150000 < parts p c ∨ 150000 < l1) :
    Calls Tryz.prog 3 #[.agg (pkCells p), .slice a1 l1 k1, .int .i64 top] w fun e w' => e = .returned (.bool true) ∧ Below w.heap.size w w' := by
  obtain ⟨W, hW⟩ : ∃ W, W = w.alloc (.cells (pkCells p) 29) := ⟨_, rfl⟩
  have b0 : Hid (Below w.heap.size w W) := box_below hW
  have g0 : Hid (W.heap[w.heap.size]? = some (.cells (pkCells p) 29)) := by show _ = _; rw [hW]; exact heap_alloc_new w _
  have KK : Hid (∀ w', Below w.heap.size w w' → Calls Tryz.prog 8 #[] w' fun e w'' => e = .returned (.bool true) ∧ Below w'.heap.size w' w'') := fun w' hb => K w' (hg.below hb)
  have C9 : Hid (∀ w', Below w.heap.size w w' → Calls Tryz.prog 9 #[.agg (pkCells p)] w' fun e w'' => ∃ b, e = .returned (.bool b) ∧ Below w'.heap.size w' w'' ∧ (b = true → parts p c ≤ 150000)) := fun w' hb => lfew_any p c w' (hin.below hb) hf
  have HLL : Hid (150000 < parts p c ∨ 150000 < l1) := hl
  obtain ⟨cs, hcs⟩ : ∃ cs, cs = pkCells p := ⟨_, rfl⟩
  have hsz : Hid (cs.size = 25) := by show _ = _; rw [hcs]; rfl
  rw [← hcs] at C9 g0 hW ⊢
  clear hcs hg hin hf K hl
  go_enter Tryz.func3, Tryz.ntmps3
  go_upto_region 1 with fail
  rw [← hW]
  clear hW
  go_wp2_with fail
  go_must (go_at_call 8)
  refine (KK.out W b0.out).mono ?_
  rintro e w1 ⟨rfl, hb⟩
  have B1 : Hid (Below w.heap.size w w1) := b0.out.trans (hb.mono b0.out.size)
  have g1 : Hid (w1.heap[w.heap.size]? = some (.cells cs 29)) := (hb.block _ (heap_in g0.out)).trans g0.out
  clear hb KK
  go_wp2_with (first | (refine wpList_load_wanted rfl _ rfl w.heap.size rfl _ (0, 0) g1.out hsz.out ?_) | fail)
  go_must (go_at_call 9)
  refine (C9.out w1 B1.out).mono ?_
  rintro e w2 ⟨b, rfl, hb, hp⟩
  have B2 : Hid (Below w.heap.size w w2) := B1.out.trans (hb.mono B1.out.size)
  have HP : Hid (b = true → parts p c ≤ 150000) := hp
  clear hb hp
  cases b with
  | false =>
    go_wp2_with fail
    go_ret
    exact ⟨rfl, B2.out⟩
  | true =>
    have hl1 : (150000 : Int) < l1 := by have := HP.out rfl; have := HLL.out; omega
    have d1 : decide ((150000 : Int) < l1) = true := decide_eq_true hl1
    have d2 : decide (150000 < l1) = true := decide_eq_true (by omega)
    go_wp2_with fail
    go_ret
    exact ⟨rfl, B2.out⟩
set_option maxRecDepth 100000 in
set_option maxHeartbeats 4000000 in
/-- What isn't right isn't written. -/
theorem back_wrong (K : KnownOk) (p : Pk) (c : Cn) (a1 : Option Addr) (l1 k1 : Nat) (top : Int) (w : World) (hg : Gd w) (hin : In w p c) (hf : Fit p c) (hl1 : l1 ≤ 150000) (hp : parts p c ≤ 150000) (h0 : ck TT p c ≠ 0) :
    Calls Tryz.prog 3 #[.agg (pkCells p), .slice a1 l1 k1, .int .i64 top] w fun e w' => e = .returned (.bool true) ∧ Below w.heap.size w w' := by
  have hs : Small p c := small_of (by omega)
  obtain ⟨W, hW⟩ : ∃ W, W = w.alloc (.cells (pkCells p) 29) := ⟨_, rfl⟩
  have b0 : Hid (Below w.heap.size w W) := box_below hW
  have g0 : Hid (W.heap[w.heap.size]? = some (.cells (pkCells p) 29)) := by show _ = _; rw [hW]; exact heap_alloc_new w _
  have KK : Hid (∀ w', Below w.heap.size w w' → Calls Tryz.prog 8 #[] w' fun e w'' => e = .returned (.bool true) ∧ Below w'.heap.size w' w'') := fun w' hb => K w' (hg.below hb)
  have C9 : Hid (∀ w', Below w.heap.size w w' → Calls Tryz.prog 9 #[.agg (pkCells p)] w' fun e w'' => ∃ b, e = .returned (.bool b) ∧ Below w'.heap.size w' w'' ∧ (b = true → parts p c ≤ 150000)) := fun w' hb => lfew_any p c w' (hin.below hb) hf
  have C10 : Hid (∀ w', Below w.heap.size w w' → Calls Tryz.prog 10 #[.agg (pkCells p)] w' fun e w'' => e = .returned (.int .i64 (ck TT p c)) ∧ Below w'.heap.size w' w'') := fun w' hb => check_any p c w' (hg.below hb) (hin.below hb) hs
  have C11 : Hid (∀ w', Below w.heap.size w w' → Calls Tryz.prog 11 #[.agg (pkCells p)] w' fun e w'' => e = .returned (.tuple #[.slice none 0 0, .int .i64 (ck TT p c)]) ∧ Below w'.heap.size w' w'') := fun w' hb => encode_wrong p c w' (hg.below hb) (hin.below hb) hs h0
  have C13 : Hid (∀ w', Below w.heap.size w w' → Calls Tryz.prog 13 #[.agg (pkCells p)] w' fun e w'' => e = .returned (.int .i64 0) ∧ Below w'.heap.size w' w'') := fun w' hb => size_wrong p c w' (hg.below hb) (hin.below hb) hs h0
  obtain ⟨E, hE⟩ : ∃ E : Nat, E = ck TT p c := ⟨_, rfl⟩
  rw [← hE] at C10 C11 h0
  have e1 : ((E : Int) != (E : Int)) = false := by simp
  have e2 : ((E : Int) != 0) = true := by simp; omega
  obtain ⟨cs, hcs⟩ : ∃ cs, cs = pkCells p := ⟨_, rfl⟩
  have hsz : Hid (cs.size = 25) := by show _ = _; rw [hcs]; rfl
  rw [← hcs] at C9 C10 C11 C13 g0 hW ⊢
  have n1 : ¬ (150000 : Int) < l1 := by omega
  have d1 : decide ((150000 : Int) < l1) = false := decide_eq_false n1
  have d2 : decide (150000 < l1) = false := decide_eq_false (by omega)
  clear hcs hg hin hf K hs hE h0 hp hl1
  go_enter Tryz.func3, Tryz.ntmps3
  go_upto_region 1 with fail
  rw [← hW]
  clear hW
  go_wp2_with fail
  go_must (go_at_call 8)
  refine (KK.out W b0.out).mono ?_
  rintro e w1 ⟨rfl, hb⟩
  have B1 : Hid (Below w.heap.size w w1) := b0.out.trans (hb.mono b0.out.size)
  have g1 : Hid (w1.heap[w.heap.size]? = some (.cells cs 29)) := (hb.block _ (heap_in g0.out)).trans g0.out
  clear hb KK
  go_wp2_with (first | (refine wpList_load_wanted rfl _ rfl w.heap.size rfl _ (0, 0) g1.out hsz.out ?_) | fail)
  go_must (go_at_call 9)
  refine (C9.out w1 B1.out).mono ?_
  rintro e w2 ⟨b, rfl, hb, hp⟩
  have B2 : Hid (Below w.heap.size w w2) := B1.out.trans (hb.mono B1.out.size)
  have g2 : Hid (w2.heap[w.heap.size]? = some (.cells cs 29)) := (hb.block _ (heap_in g1.out)).trans g1.out
  clear hb hp
  cases b with
  | false =>
    go_wp2_with fail
    go_ret
    exact ⟨rfl, B2.out⟩
  | true =>
    go_wp2_with (first | (refine wpList_load_wanted rfl _ rfl w.heap.size rfl _ (0, 0) g2.out hsz.out ?_) | fail)
    go_must (go_at_call 10)
    refine (C10.out w2 B2.out).mono ?_
    rintro e w3 ⟨rfl, hb⟩
    have B3 : Hid (Below w.heap.size w w3) := B2.out.trans (hb.mono B2.out.size)
    have g3 : Hid (w3.heap[w.heap.size]? = some (.cells cs 29)) := (hb.block _ (heap_in g2.out)).trans g2.out
    clear hb
    go_wp2_with (first | (refine wpList_load_wanted rfl _ rfl w.heap.size rfl _ (0, 0) g3.out hsz.out ?_) | fail)
    go_must (go_at_call 11)
    refine (C11.out w3 B3.out).mono ?_
    rintro e w4 ⟨rfl, hb⟩
    have B4 : Hid (Below w.heap.size w w4) := B3.out.trans (hb.mono B3.out.size)
    have g4 : Hid (w4.heap[w.heap.size]? = some (.cells cs 29)) := (hb.block _ (heap_in g3.out)).trans g3.out
    clear hb
    go_wp2_with (first | (refine wpList_load_wanted rfl _ rfl w.heap.size rfl _ (0, 0) g4.out hsz.out ?_) | (go_at_call 12; refine (lnum_any _ _).mono ?_; rintro e w' ⟨rfl, hee⟩; obtain rfl := hee.symm; clear hee) | (go_at_call 13; refine (C13.out w4 B4.out).mono ?_; rintro e w5 ⟨rfl, hb⟩; have B5 : Hid (Below w.heap.size w w5) := B4.out.trans (hb.mono B4.out.size); clear hb) | fail)
    go_ret
    exact ⟨rfl, B5.out⟩
end Go.Proofs.YtibihbclijpkjaaGreatDoor
namespace Go.Proofs.YtibihbclijpkjaaGreatDoor
open Go Go.RowKit
open Pkt (Pk Cn Sl In By Is Ss As pkCells Gd sumN Right TT sz fg ck ck_right Small wpList_load_wanted check_any length_any box_below Fit Off parts small_of sumN_scale allN_iff)
set_option linter.unusedSimpArgs false
set_option linter.unusedVariables false

theorem at_cat {z z' : Nat → Int} {L : List Value} {m : Nat} (h : AtL z 0 L) (hm : L.length = m) : AtL (cat z m z') 0 L := fun i v e => by
  have hl : i < L.length := by
    rcases Nat.lt_or_ge i L.length with q | q
    · exact q
    · rw [List.getElem?_eq_none q] at e; cases e
  rw [h i v e]
  unfold cat
  rw [Nat.zero_add, if_pos (by omega)]
set_option maxRecDepth 100000 in
set_option maxHeartbeats 8000000 in
/-- A right packet is read again, or told too long. -/
theorem back_rightly (K : KnownOk) (p : Pk) (c : Cn) (a1 : Option Addr) (l1 k1 : Nat) (z1 : Nat → Int) (top : Int) (w : World) (h1 : Came w a1 l1 k1 z1) (hg : Gd w) (hin : In w p c) (hf : Fit p c) (hl1 : l1 ≤ 150000) (hp : parts p c ≤ 150000) (hR : Right TT p c) :
    Calls Tryz.prog 3 #[.agg (pkCells p), .slice a1 l1 k1, .int .i64 top] w fun e w' => e = .returned (.bool true) ∧ Below w.heap.size w w' := by
  have hs : Small p c := small_of (by omega)
  have hN := sz_few hR hp
  have h0 := (ck_right TT p c).2 hR
  have hby := byts_enc hR hin.wP.2.1 hin.pass.2.1 hin.mP.2.1
  have el := enc_len hR
  obtain ⟨W, hW⟩ : ∃ W, W = w.alloc (.cells (pkCells p) 29) := ⟨_, rfl⟩
  have b0 : Hid (Below w.heap.size w W) := box_below hW
  have g0 : Hid (W.heap[w.heap.size]? = some (.cells (pkCells p) 29)) := by show _ = _; rw [hW]; exact heap_alloc_new w _
  have KK : Hid (∀ w', Below w.heap.size w w' → Calls Tryz.prog 8 #[] w' fun e w'' => e = .returned (.bool true) ∧ Below w'.heap.size w' w'') := fun w' hb => K w' (hg.below hb)
  have C9 : Hid (∀ w', Below w.heap.size w w' → Calls Tryz.prog 9 #[.agg (pkCells p)] w' fun e w'' => ∃ b, e = .returned (.bool b) ∧ Below w'.heap.size w' w'' ∧ (b = true → parts p c ≤ 150000)) := fun w' hb => lfew_any p c w' (hin.below hb) hf
  have C10 : Hid (∀ w', Below w.heap.size w w' → Calls Tryz.prog 10 #[.agg (pkCells p)] w' fun e w'' => e = .returned (.int .i64 0) ∧ Below w'.heap.size w' w'') := fun w' hb => by
    have := check_any p c w' (hg.below hb) (hin.below hb) hs
    rw [h0] at this; exact this
  have C16 : Hid (∀ w', Below w.heap.size w w' → Calls Tryz.prog 16 #[.agg (pkCells p)] w' fun e w'' => e = .returned (.int .i64 (sz p c)) ∧ Below w'.heap.size w' w'') := fun w' hb => by
    have := length_any p c w' (hg.below hb) (hin.below hb) hs
    rw [if_pos h0] at this; exact this
  have C13 : Hid (∀ w', Below w.heap.size w w' → Calls Tryz.prog 13 #[.agg (pkCells p)] w' fun e w'' => e = .returned (.int .i64 ((1 + kn (sz p c) + sz p c : Nat) : Int)) ∧ Below w'.heap.size w' w'') := fun w' hb => size_right p c w' (hg.below hb) (hin.below hb) hs hR
  have C17 : Hid (∀ w, Calls Tryz.prog 17 #[.int .i64 top] w fun e w' => e = .returned (.int .i64 (clampM top)) ∧ w' = w) := fun w => clamp_any top w
  obtain ⟨M, hM⟩ : ∃ M, M = 1 + kn (sz p c) + sz p c := ⟨_, rfl⟩
  rw [← hM] at C13 el
  have hkb := kn_bd (sz p c : Int)
  have C11 : Hid (∀ w', Below w.heap.size w w' → Calls Tryz.prog 11 #[.agg (pkCells p)] w' fun e w'' => ∃ g cap, e = .returned (.tuple #[.slice (some ⟨g, 0, none⟩) M cap, .int .i64 0]) ∧ Came w'' (some ⟨g, 0, none⟩) M cap (byteAt (encL p c)) ∧ Below w'.heap.size w' w'') := fun w' hb => by
    refine (encode_right p c w' (hg.below hb) (hin.below hb) hs hR hN).mono ?_
    rintro e w'' ⟨v, rfl, ho, hv, hbb⟩
    have ho2 : w''.ownsRow w'.heap.size 5 1 v (1 + kn (sz p c) + sz p c) (encL p c) := ho
    rw [← hM, ← el] at ho2
    obtain ⟨g, cap, rfl, hc⟩ := adds_slice ho2 hv _ (byteAt_bd hby) (byteAt_cells hby)
    rw [el] at hc ⊢
    exact ⟨g, cap, rfl, hc, hbb⟩
  have hz : ∀ i, 0 ≤ cat (byteAt (encL p c)) M z1 i ∧ cat (byteAt (encL p c)) M z1 i ≤ 255 := cat_bd (byteAt_bd hby) h1.2.1
  have C15 : Hid (∀ w' g cap, Below w.heap.size w w' → Came w' (some ⟨g, 0, none⟩) M cap (byteAt (encL p c)) → Calls Tryz.prog 15 #[.slice (some ⟨g, 0, none⟩) M cap, .slice a1 l1 k1] w' fun e w'' => OwnV w' w'' e (M + l1) (cellsOf (cat (byteAt (encL p c)) M z1) (M + l1))) := fun w' g cap hb hc => by
    rw [← cells_cat]
    exact lbehind_any (some ⟨g, 0, none⟩) a1 M cap l1 k1 _ z1 w' hc (came_below (B := 0) h1 hb) (by omega) (by omega)
  have DB := dec_back (n := M + l1) hR top (at_cat (z' := z1) (byteAt_at hby) el) (by omega)
  have C14 : Hid (∀ w' ao cc base, Below w.heap.size w w' → w'.ownsRow base 5 1 (.slice ao (M + l1) cc) (M + l1) (cellsOf (cat (byteAt (encL p c)) M z1) (M + l1)) → Calls Tryz.prog 14 #[.slice ao (M + l1) cc, .int .i64 top] w' fun e w'' => DecIs w' w'' e (decP (cat (byteAt (encL p c)) M z1) (M + l1) top)) := fun w' ao cc base hb ho =>
    decode_came ao (M + l1) cc _ top w' (came_own ho hz) (own_plain ho) (by omega) (hg.below hb)
  rw [← hM] at DB
  have HIN : Hid (In w p c ∧ Small p c) := ⟨hin, hs⟩
  obtain ⟨D, hDD⟩ : ∃ D, D = decP (cat (byteAt (encL p c)) M z1) (M + l1) top := ⟨_, rfl⟩
  rw [← hDD] at C14 DB
  have HDB : Hid ((clampM top < sz p c → D = .fault (1, 32)) ∧ ((sz p c : Int) ≤ clampM top → ∃ p' c', D = .ok p' c' M ∧ Back p c p' c')) := DB
  obtain ⟨T, hT⟩ : ∃ T, T = clampM top := ⟨_, rfl⟩
  obtain ⟨N, hNN⟩ : ∃ N, N = sz p c := ⟨_, rfl⟩
  rw [← hT, ← hNN] at HDB
  rw [← hT] at C17
  rw [← hNN] at C16 hN hM hkb
  have hMN : N < M ∧ M ≤ N + 5 := by omega
  obtain ⟨Z, hZ⟩ : ∃ Z, Z = byteAt (encL p c) := ⟨_, rfl⟩
  rw [← hZ] at C11 C14 C15
  obtain ⟨ZC, hZC⟩ : ∃ ZC, ZC = cellsOf (cat Z M z1) (M + l1) := ⟨_, rfl⟩
  rw [← hZC] at C14 C15
  obtain ⟨cs, hcs⟩ : ∃ cs, cs = pkCells p := ⟨_, rfl⟩
  have HCS : Hid (cs = pkCells p) := hcs
  have hsz : Hid (cs.size = 25) := by show _ = _; rw [hcs]; rfl
  rw [← hcs] at C9 C10 C11 C13 C16 g0 hW ⊢
  have n1 : ¬ (150000 : Int) < l1 := by omega
  have d1 : decide ((150000 : Int) < l1) = false := decide_eq_false n1
  have d2 : decide (150000 < l1) = false := decide_eq_false (by omega)
  have f1 : decide ((N : Int) < M) = true := decide_eq_true (by omega)
  have f2 : decide (N < M) = true := decide_eq_true (by omega)
  have f3 : decide ((M : Int) ≤ (N : Int) + 5) = true := decide_eq_true (by omega)
  have f4 : decide (M ≤ N + 5) = true := decide_eq_true (by omega)
  have f5 : ((M : Int) == (M : Int)) = true := by simp
  clear hcs hg hin hf K hs h0 hp hR h1 hby el hM hkb hz DB hDD hT hNN hZ hZC
  go_enter Tryz.func3, Tryz.ntmps3
  go_upto_region 1 with fail
  rw [← hW]
  clear hW
  go_wp2_with fail
  go_must (go_at_call 8)
  refine (KK.out W b0.out).mono ?_
  rintro e w1 ⟨rfl, hb⟩
  have B1 : Hid (Below w.heap.size w w1) := b0.out.trans (hb.mono b0.out.size)
  have g1 : Hid (w1.heap[w.heap.size]? = some (.cells cs 29)) := (hb.block _ (heap_in g0.out)).trans g0.out
  clear hb KK
  go_wp2_with (first | (refine wpList_load_wanted rfl _ rfl w.heap.size rfl _ (0, 0) g1.out hsz.out ?_) | fail)
  go_must (go_at_call 9)
  refine (C9.out w1 B1.out).mono ?_
  rintro e w2 ⟨b, rfl, hb, hp⟩
  have B2 : Hid (Below w.heap.size w w2) := B1.out.trans (hb.mono B1.out.size)
  have g2 : Hid (w2.heap[w.heap.size]? = some (.cells cs 29)) := (hb.block _ (heap_in g1.out)).trans g1.out
  clear hb hp C9
  cases b with
  | false =>
    go_wp2_with fail
    go_ret
    exact ⟨rfl, B2.out⟩
  | true =>
    go_wp2_with (first | (refine wpList_load_wanted rfl _ rfl w.heap.size rfl _ (0, 0) g2.out hsz.out ?_) | fail)
    go_must (go_at_call 10)
    refine (C10.out w2 B2.out).mono ?_
    rintro e w3 ⟨rfl, hb⟩
    have B3 : Hid (Below w.heap.size w w3) := B2.out.trans (hb.mono B2.out.size)
    have g3 : Hid (w3.heap[w.heap.size]? = some (.cells cs 29)) := (hb.block _ (heap_in g2.out)).trans g2.out
    clear hb
    go_wp2_with (first | (refine wpList_load_wanted rfl _ rfl w.heap.size rfl _ (0, 0) g3.out hsz.out ?_) | fail)
    go_must (go_at_call 11)
    refine (C11.out w3 B3.out).mono ?_
    rintro e w4 ⟨g, cap, rfl, hc4, hb⟩
    have B4 : Hid (Below w.heap.size w w4) := B3.out.trans (hb.mono B3.out.size)
    have g4 : Hid (w4.heap[w.heap.size]? = some (.cells cs 29)) := (hb.block _ (heap_in g3.out)).trans g3.out
    have C4 : Hid (Calls Tryz.prog 15 #[.slice (some ⟨g, 0, none⟩) M cap, .slice a1 l1 k1] w4 fun e w'' => OwnV w4 w'' e (M + l1) ZC) := C15.out w4 g cap B4.out hc4
    clear hb hc4 C15 C10 C11 g1 g2 g3 B1 B2 B3
    go_wp2_with (first | (go_at_call 12; refine (lnum_any _ _).mono ?_; rintro e w' ⟨rfl, hee⟩; obtain rfl := hee.symm; clear hee) | fail)
    go_must (go_at_call 15)
    refine C4.out.mono ?_
    rintro e w6 ⟨ao, ca, rfl, ho, hb6⟩
    have B6 : Hid (Below w.heap.size w w6) := B4.out.trans (hb6.mono B4.out.size)
    have g6 : Hid (w6.heap[w.heap.size]? = some (.cells cs 29)) := (hb6.block _ (heap_in g4.out)).trans g4.out
    have D6 : Hid (Calls Tryz.prog 14 #[.slice ao (M + l1) ca, .int .i64 top] w6 fun e w'' => DecIs w6 w'' e D) := C14.out w6 ao ca _ B6.out ho
    clear ho hb6 C4 C14 g4 B4
    by_cases hTN : T < (N : Int)
    · rw [HDB.out.1 hTN] at D6
      have t1 : decide (T < (N : Int)) = true := decide_eq_true hTN
      go_wp2_with fail
      go_must (go_at_call 14)
      refine D6.out.mono ?_
      rintro e w7 ⟨⟨gg, rfl, hgg⟩, hb7⟩
      obtain ⟨W8, hW8⟩ : ∃ W, W = w7.alloc (.cells (pkCells (blank 0)) 29) := ⟨_, rfl⟩
      have bb8 : Below w7.heap.size w7 W8 := by rw [hW8]; exact (Below.refl _ _).alloc (Nat.le_refl _) _
      have b68 : Below w6.heap.size w6 W8 := hb7.trans (bb8.mono hb7.size)
      have B8 : Hid (Below w.heap.size w W8) := B6.out.trans (b68.mono B6.out.size)
      have g8 : Hid (W8.heap[w.heap.size]? = some (.cells cs 29)) := (b68.block _ (heap_in g6.out)).trans g6.out
      have F8 : Hid (W8.heap[gg]? = some (.cells #[.int .i64 1, .int .i64 32] 81 (0, 0))) := (bb8.block _ (heap_in hgg)).trans hgg
      clear hgg hb7 bb8 b68 D6
      go_upto_region 12 with (first | (refine wpList_store_row rfl 29 _ _ rfl w7.heap.size (pkCells (blank 0)) rfl rfl 29 _ (heap_alloc_new w7 _) pk_info rfl (pk_one _) ?_))
      rw [World.setRow_alloc_new, ← hW8]
      clear hW8
      go_wp2_with (first | (refine wpList_load_wanted rfl _ rfl w.heap.size rfl _ (0, 0) g8.out hsz.out ?_) | fail)
      go_must (go_at_call 16)
      refine (C16.out W8 B8.out).mono ?_
      rintro e w9 ⟨rfl, hb9⟩
      have B9 : Hid (Below w.heap.size w w9) := B8.out.trans (hb9.mono B8.out.size)
      have F9 : Hid (w9.heap[gg]? = some (.cells #[.int .i64 1, .int .i64 32] 81 (0, 0))) := (hb9.block _ (heap_in F8.out)).trans F8.out
      clear hb9
      go_wp2_with (first | (go_at_call 17; refine (C17.out _).mono ?_; rintro e w' ⟨rfl, hee⟩; obtain rfl := hee.symm; clear hee) | fail)
      go_must (go_at_call 18)
      refine (told_fault gg 1 32 w9 F9.out (by decide)).mono ?_
      rintro e w10 ⟨rfl, hb10⟩
      obtain ⟨W11, hW11⟩ : ∃ W, W = w10.alloc (.cells #[.int .i64 1, .int .i64 32] 45) := ⟨_, rfl⟩
      have bb11 : Below w10.heap.size w10 W11 := by rw [hW11]; exact (Below.refl _ _).alloc (Nat.le_refl _) _
      have B10 : Below w.heap.size w w10 := B9.out.trans (hb10.mono B9.out.size)
      have B11 : Hid (Below w.heap.size w W11) := B10.trans (bb11.mono B10.size)
      have F11 : W11.heap[w10.heap.size]? = some (.cells #[.int .i64 1, .int .i64 32] 45 (0, 0)) := by rw [hW11]; exact heap_alloc_new w10 _
      have c0 : W11.cell? ⟨w10.heap.size, 0, none⟩ = some (.int .i64 1) := by simp [World.cell?, F11]
      have c1 : W11.cell? ⟨w10.heap.size, 1, none⟩ = some (.int .i64 32) := by simp [World.cell?, F11]
      clear hb10 bb11 B10 F11
      go_upto_region 14 with fail
      rw [← hW11]
      clear hW11
      go_wp2_with fail
      go_ret
      exact ⟨rfl, B11.out⟩
    · obtain ⟨p', c', hD, hback⟩ := HDB.out.2 (by omega)
      rw [hD] at D6
      have HBK : Hid (Back p c p' c') := hback
      have t1 : decide (T < (N : Int)) = false := decide_eq_false hTN
      clear hD hback
      go_wp2_with fail
      go_must (go_at_call 14)
      refine D6.out.mono ?_
      rintro e w7 ⟨⟨q', rfl, hin7, hal, _⟩, hb7⟩
      obtain ⟨W8, hW8⟩ : ∃ W, W = w7.alloc (.cells (pkCells q') 29) := ⟨_, rfl⟩
      have bb8 : Below w7.heap.size w7 W8 := by rw [hW8]; exact (Below.refl _ _).alloc (Nat.le_refl _) _
      have b68 : Below w6.heap.size w6 W8 := hb7.trans (bb8.mono hb7.size)
      have B8 : Hid (Below w.heap.size w W8) := B6.out.trans (b68.mono B6.out.size)
      have g8 : Hid (W8.heap[w.heap.size]? = some (.cells cs 29)) := (b68.block _ (heap_in g6.out)).trans g6.out
      have Q8 : Hid (W8.heap[w7.heap.size]? = some (.cells (pkCells q') 29 (0, 0))) := by show _ = _; rw [hW8]; exact heap_alloc_new w7 _
      have SAME : Hid (∀ w', Below W8.heap.size W8 w' → Calls Tryz.prog 19 #[.agg cs, .agg (pkCells q')] w' fun e w'' => e = .returned (.bool true) ∧ Below w'.heap.size w' w'') := fun w' hb => by
        rw [HCS.out]
        exact same_alike p p q' c w' (Alike.refl p) (hal.trans HBK.out.al) (HIN.out.1.below (B8.out.trans (hb.mono B8.out.size))) ((back_in HBK.out hal hin7 HIN.out.1).below (bb8.trans (hb.mono bb8.size))) HIN.out.2
      clear hin7 hal hb7 bb8 b68 D6
      go_upto_region 12 with (first | (refine wpList_store_row rfl 29 _ _ rfl w7.heap.size (pkCells q') rfl rfl 29 _ (heap_alloc_new w7 _) pk_info rfl (pk_one _) ?_))
      rw [World.setRow_alloc_new, ← hW8]
      clear hW8
      go_wp2_with (first | (refine wpList_load_wanted rfl _ rfl w.heap.size rfl _ (0, 0) g8.out hsz.out ?_) | fail)
      go_must (go_at_call 16)
      refine (C16.out W8 B8.out).mono ?_
      rintro e w9 ⟨rfl, hb9⟩
      have S9 : Hid (Below W8.heap.size W8 w9) := hb9
      have B9 : Hid (Below w.heap.size w w9) := B8.out.trans (hb9.mono B8.out.size)
      have g9 : Hid (w9.heap[w.heap.size]? = some (.cells cs 29)) := (hb9.block _ (heap_in g8.out)).trans g8.out
      have Q9 : Hid (w9.heap[w7.heap.size]? = some (.cells (pkCells q') 29 (0, 0))) := (hb9.block _ (heap_in Q8.out)).trans Q8.out
      clear hb9
      go_upto_region 15 with (first | (go_at_call 17; refine (C17.out _).mono ?_; rintro e w' ⟨rfl, hee⟩; obtain rfl := hee.symm; clear hee) | fail)
      go_wp2_with (first | (refine wpList_load_wanted rfl _ rfl w.heap.size rfl _ (0, 0) g9.out hsz.out ?_) | fail)
      go_must (go_at_call 13)
      refine (C13.out w9 B9.out).mono ?_
      rintro e w10 ⟨rfl, hb10⟩
      have S10 : Hid (Below W8.heap.size W8 w10) := S9.out.trans (hb10.mono S9.out.size)
      have B10 : Hid (Below w.heap.size w w10) := B9.out.trans (hb10.mono B9.out.size)
      have g10 : Hid (w10.heap[w.heap.size]? = some (.cells cs 29)) := (hb10.block _ (heap_in g9.out)).trans g9.out
      have Q10 : Hid (w10.heap[w7.heap.size]? = some (.cells (pkCells q') 29 (0, 0))) := (hb10.block _ (heap_in Q9.out)).trans Q9.out
      clear hb10
      go_wp2_with (first | (refine wpList_load_wanted rfl _ rfl w.heap.size rfl _ (0, 0) g10.out hsz.out ?_) | (refine wpList_load_wanted rfl _ rfl w7.heap.size rfl _ (0, 0) Q10.out (pk_size _) ?_) | fail)
      go_must (go_at_call 19)
      refine (SAME.out w10 S10.out).mono ?_
      rintro e w11 ⟨rfl, hb11⟩
      have B11 : Hid (Below w.heap.size w w11) := B10.out.trans (hb11.mono B10.out.size)
      have g11 : Hid (w11.heap[w.heap.size]? = some (.cells cs 29)) := (hb11.block _ (heap_in g10.out)).trans g10.out
      clear hb11
      go_wp2_with (first | (refine wpList_load_wanted rfl _ rfl w.heap.size rfl _ (0, 0) g11.out hsz.out ?_) | fail)
      go_must (go_at_call 16)
      refine (C16.out w11 B11.out).mono ?_
      rintro e w12 ⟨rfl, hb12⟩
      have B12 : Hid (Below w.heap.size w w12) := B11.out.trans (hb12.mono B11.out.size)
      have g12 : Hid (w12.heap[w.heap.size]? = some (.cells cs 29)) := (hb12.block _ (heap_in g11.out)).trans g11.out
      clear hb12
      go_wp2_with (first | (refine wpList_load_wanted rfl _ rfl w.heap.size rfl _ (0, 0) g12.out hsz.out ?_) | fail)
      go_must (go_at_call 16)
      refine (C16.out w12 B12.out).mono ?_
      rintro e w13 ⟨rfl, hb13⟩
      have B13 : Hid (Below w.heap.size w w13) := B12.out.trans (hb13.mono B12.out.size)
      clear hb13
      go_wp2_with fail
      go_ret
      refine ⟨?_, B13.out⟩
      first | rfl | (congr 2; simp; omega) | skip
end Go.Proofs.YtibihbclijpkjaaGreatDoor
namespace Go.Proofs.YtibihbclijpkjaaGreatDoor
open Go Go.RowKit
open Pkt (Pk Cn In pkCells Gd TT ck ck_right Fit parts)
theorem back_any (K : KnownOk) (p : Pk) (c : Cn) (a1 : Option Addr) (l1 k1 : Nat) (z1 : Nat → Int) (top : Int) (w : World) (h1 : Came w a1 l1 k1 z1) (hg : Gd w) (hin : In w p c) (hf : Fit p c) :
    Calls Tryz.prog 3 #[p.v, .slice a1 l1 k1, .int .i64 top] w fun e w' => e = .returned (.bool true) ∧ Below w.heap.size w w' := by
  show Calls Tryz.prog 3 #[.agg (pkCells p), .slice a1 l1 k1, .int .i64 top] w _
  by_cases hl : 150000 < parts p c ∨ 150000 < l1
  · exact back_many K p c a1 l1 k1 top w hg hin hf hl
  by_cases h0 : ck TT p c = 0
  · exact back_rightly K p c a1 l1 k1 z1 top w h1 hg hin hf (by omega) (by omega) ((ck_right TT p c).1 h0)
  · exact back_wrong K p c a1 l1 k1 top w hg hin hf (by omega) (by omega) h0
end Go.Proofs.YtibihbclijpkjaaGreatDoor
