import Derived.Test.YtphofgnehdlafaaGreatDoorGq
import Derived.Test.YtphofgnehdlafaaGreatDoorGi
import Derived.Test.YtphofgnehdlafaaGreatDoorFdz
import Derived.Test.YtphofgnehdlafaaGreatDoorPUd
import Derived.Test.YtphofgnehdlafaaGreatDoorPRt
import Derived.WalkMore
import Derived.ScopeJumps
import Derived.Test.YtphofgnehdlafaaGreatDoorBye0
import Derived.Test.YtphofgnehdlafaaGreatDoorPUk
namespace Go.Proofs.YtphofgnehdlafaaGreatDoor
open Go Go.RowKit Go.Sort
open Pkt (Pk Cn Sl In By Is Ss As pkCells Gd wpList_load_wanted quiet_load box_below Small ck TT sz fg Right ck_right check_any length_any flags_any mkI form)
set_option linter.unusedSimpArgs false
set_option linter.unusedVariables false
set_option maxRecDepth 100000
set_option maxHeartbeats 4000000
theorem fg_bd {p : Pk} {c : Cn} (r : Right TT p c) : 0 ≤ fg p ∧ fg p ≤ 15 := by
 have q := r.q2
 have k1 := r.k1
 have k2 := r.k2
 have hk : p.kind.toNat = 1 ∨ p.kind.toNat = 2 ∨ p.kind.toNat = 3 ∨ p.kind.toNat = 4 ∨ p.kind.toNat = 5 ∨ p.kind.toNat = 6 ∨ p.kind.toNat = 7 ∨ p.kind.toNat = 8 ∨ p.kind.toNat = 9 ∨ p.kind.toNat = 10 ∨ p.kind.toNat = 11 ∨ p.kind.toNat = 12 ∨ p.kind.toNat = 13 ∨ p.kind.toNat = 14 := by omega
 unfold fg
 generalize p.dup = d
 generalize p.mR = m
 generalize p.mQ = x at q ⊢
 generalize p.kind.toNat = k at hk ⊢
 rcases hk with rfl | rfl | rfl | rfl | rfl | rfl | rfl | rfl | rfl | rfl | rfl | rfl | rfl | rfl <;> rcases q with rfl | rfl | rfl <;> cases d <;> cases m <;> decide +kernel
theorem or_first (k : Fin 15) (f : Fin 16) : bits .or .i64 (16 * (k.val : Int)) (f.val : Int) % 256 = 16 * (k.val : Int) + f.val := by revert k f; decide +kernel
theorem encode_wrong (p : Pk) (c : Cn) (w : World) (hg : Gd w) (hin : In w p c) (hs : Small p c) (h0 : ck TT p c ≠ 0) :
    Calls Tryz.prog 90 #[.agg (pkCells p)] w fun e w' => e = .returned (.tuple #[.slice none 0 0, .int .i64 (ck TT p c)]) ∧ Below w.heap.size w w' := by
  obtain ⟨W, hW⟩ : ∃ W, W = w.alloc (.cells (pkCells p) 29) := ⟨_, rfl⟩
  have b0 : Hid (Below w.heap.size w W) := box_below hW
  have g0 : Hid (W.heap[w.heap.size]? = some (.cells (pkCells p) 29)) := by show _ = _; rw [hW]; exact heap_alloc_new w _
  have C10 : Hid (∀ w', Below w.heap.size w w' → Calls Tryz.prog 141 #[.agg (pkCells p)] w' fun e w'' => e = .returned (.int .i64 (ck TT p c)) ∧ Below w'.heap.size w' w'') := fun w' hb => check_any p c w' (hg.below hb) (hin.below hb) hs
  obtain ⟨E, hE⟩ : ∃ E : Nat, E = ck TT p c := ⟨_, rfl⟩
  rw [← hE] at C10 h0 ⊢
  have hne : ¬ (E : Int) = 0 := by omega
  obtain ⟨cs, hcs⟩ : ∃ cs, cs = pkCells p := ⟨_, rfl⟩
  have hsz : Hid (cs.size = 25) := by show _ = _; rw [hcs]; rfl
  rw [← hcs] at C10 g0 hW ⊢
  clear hcs hg hin hs hE
  go_enter Tryz.func90, Tryz.ntmps90
  go_upto_region 1 with fail
  rw [← hW]
  clear hW
  go_wp2_with (first | (refine wpList_load_wanted rfl _ rfl w.heap.size rfl _ (0, 0) g0.out hsz.out ?_) | fail)
  go_must (go_at_call 141)
  refine (C10.out _ b0.out).mono ?_
  rintro e w1 ⟨rfl, hb⟩
  have b1 : Hid (Below w.heap.size w w1) := b0.out.trans (hb.mono b0.out.size)
  clear hb
  go_wp2_with fail
  go_ret2
  exact ⟨rfl, b1.out⟩
theorem encode_k (p : Pk) (c : Cn) (w : World) (N : Nat) (hg : Gd w) (hin : In w p c) (hs : Small p c) (K : Int) (hK1 : 1 ≤ K) (hK2 : K ≤ 14) (hk : p.kind = K) (hR : Right TT p c) (hN : sz p c = N) (hN2 : N ≤ 1299990) :
    Calls Tryz.prog 90 #[.agg (pkCells p)] w fun e w' => ∃ v, e = .returned (.tuple #[v, .int .i64 0]) ∧ w'.ownsRow w.heap.size 5 1 v (1 + kn N + N) (cellsOf (oneZ (16 * p.kind + fg p)) 1 ++ cellsOf (glZ N) (kn N) ++ fieldsL p c) ∧ v ≠ .slice none 0 0 ∧ Below w.heap.size w w' := by
  have h0 := (ck_right TT p c).2 hR
  obtain ⟨F, hF⟩ : ∃ F, F = fg p := ⟨_, rfl⟩
  have e50 : Hid (bits .or .i64 (K * 16) F % 256 = 16 * p.kind + F ∧ 0 ≤ 16 * p.kind + F ∧ 16 * p.kind + F ≤ 255) := by
    have hb := fg_bd hR
    rw [← hF] at hb
    have := or_first ⟨K.toNat, by omega⟩ ⟨F.toNat, by omega⟩
    have e2 : ((F.toNat : Nat) : Int) = F := by omega
    have e3 : ((K.toNat : Nat) : Int) = K := by omega
    simp only at this
    rw [e2, e3] at this
    exact ⟨by rw [hk, Int.mul_comm K 16]; exact this, by omega, by omega⟩
  rw [← hF]
  obtain ⟨t, ht⟩ : ∃ t, t = 16 * p.kind + F := ⟨_, rfl⟩
  rw [← ht] at e50 ⊢
  clear ht
  obtain ⟨W, hW⟩ : ∃ W, W = w.alloc (.cells (pkCells p) 29) := ⟨_, rfl⟩
  have b0 : Hid (Below w.heap.size w W) := box_below hW
  have g0 : Hid (W.heap[w.heap.size]? = some (.cells (pkCells p) 29)) := by show _ = _; rw [hW]; exact heap_alloc_new w _
  have C10 : Hid (∀ w', Below w.heap.size w w' → Calls Tryz.prog 141 #[.agg (pkCells p)] w' fun e w'' => e = .returned (.int .i64 0) ∧ Below w'.heap.size w' w'') := fun w' hb => by
    have := check_any p c w' (hg.below hb) (hin.below hb) hs
    rw [h0] at this; exact this
  have C16 : Hid (∀ w', Below w.heap.size w w' → Calls Tryz.prog 142 #[.agg (pkCells p)] w' fun e w'' => e = .returned (.int .i64 N) ∧ Below w'.heap.size w' w'') := fun w' hb => by
    have := length_any p c w' (hg.below hb) (hin.below hb) hs
    rw [if_pos h0, hN] at this; exact this
  have C40 : Hid (∀ w', Below w.heap.size w w' → Calls Tryz.prog 143 #[.agg (pkCells p)] w' fun e w'' => e = .returned (.int .i64 F) ∧ Below w'.heap.size w' w'') := fun w' hb => by
    have := flags_any p c w' (hg.below hb) (hin.below hb) hs hR
    rw [← hF] at this; exact this
  have C43 : Hid (∀ (w5 w' : World) (v : Value) (n : Nat) (xs : List Value), Below w.heap.size w w5 → w'.ownsRow w5.heap.size 5 1 v n xs → v ≠ .slice none 0 0 → Below w5.heap.size w5 w' → n ≤ 10 → Calls Tryz.prog 146 #[v, .agg (pkCells p)] w' fun e w'' => Adds w5.heap.size v w' w'' e (n + N) (xs ++ fieldsL p c)) := fun w5 w' v n xs hb h1 hv h2 hn => by
    have := wFields_any w5 w' p c v n xs hR (hin.below hb) (by omega) h1 hv h2 hn
    rw [hN] at this; exact this
  obtain ⟨T, hT⟩ : ∃ T, T = fieldsL p c := ⟨_, rfl⟩
  rw [← hT] at C43 ⊢
  obtain ⟨cs, hcs⟩ : ∃ cs, cs = pkCells p := ⟨_, rfl⟩
  have hsz : Hid (cs.size = 25) := by show _ = _; rw [hcs]; rfl
  have hk0 : Hid (cs[0]? = some (.int .i64 K)) := by show _ = _; rw [hcs, ← hk]; rfl
  rw [← hcs] at C10 C16 C40 C43 g0 hW ⊢
  have HN2 : Hid (N ≤ 1299990) := hN2
  clear hcs hT hg hin hs hk h0 hF hN hN2 hR
  go_enter Tryz.func90, Tryz.ntmps90
  go_upto_region 1 with fail
  rw [← hW]
  clear hW
  go_wp2_with (first | (refine wpList_load_wanted rfl _ rfl w.heap.size rfl _ (0, 0) g0.out hsz.out ?_) | fail)
  go_must (go_at_call 141)
  refine (C10.out _ b0.out).mono ?_
  rintro e w1 ⟨rfl, hb⟩
  have b1 : Hid (Below w.heap.size w w1) := b0.out.trans (hb.mono b0.out.size)
  have g1 : Hid (w1.heap[w.heap.size]? = some (.cells cs 29)) := (hb.block _ (heap_in g0.out)).trans g0.out
  clear hb
  go_wp2_with (first | (refine wpList_load_wanted rfl _ rfl w.heap.size rfl _ (0, 0) g1.out hsz.out ?_) | fail)
  go_must (go_at_call 142)
  refine (C16.out _ b1.out).mono ?_
  rintro e w2 ⟨rfl, hb⟩
  have b2 : Hid (Below w.heap.size w w2) := b1.out.trans (hb.mono b1.out.size)
  have g2 : Hid (w2.heap[w.heap.size]? = some (.cells cs 29)) := (hb.block _ (heap_in g1.out)).trans g1.out
  clear hb
  go_upto_region 5 with fail
  have k0 : ∀ d os, (grow (redrawn w2 d) os).cell? ⟨w.heap.size, 0, none⟩ = some (.int .i64 K) := fun d os => cell_later (below_regrown w2 d os) (box_cells g2.out 0 _ hk0.out)
  have L1 : Hid (∀ w', (∃ p : Regrown, w' = grow (redrawn w2 p.d) p.os) → (loadVar 29 ⟨w.heap.size, 0, none⟩).run Tryz.prog w' = .ok (.agg cs) w') := by
    rintro _ ⟨pp, rfl⟩
    exact run_loadVar_row _ w.heap.size 29 29 cs (0, 0) _ (((below_regrown w2 pp.d pp.os).block _ (heap_in g2.out)).trans g2.out) Tryz.underlying29 rfl (by rw [hsz.out]; kernel_rfl)
  have D40 : Hid (∀ d os, Calls Tryz.prog 143 #[.agg cs] (grow (redrawn w2 d) os) fun e w'' => e = .returned (.int .i64 F) ∧ Below (grow (redrawn w2 d) os).heap.size (grow (redrawn w2 d) os) w'') := fun d os => C40.out _ (b2.out.trans ((below_regrown w2 d os).mono b2.out.size))
  refine wp_region_quiet_below (by kernel_rfl) (by kernel_rfl) ?_
  repeat (first | (refine quiet_load rfl rfl w.heap.size rfl (.agg cs) L1.out ?_) | quiet_step (first | (go_at_call 143; exact Calls.regrown_of (D40.out _ _))))
  refine wpQuiet_nil ?_
  rintro _ ⟨⟨d, os⟩, rfl⟩
  have b5 : Hid (Below w.heap.size w (grow (redrawn w2 d) os)) := b2.out.trans ((below_regrown w2 d os).mono b2.out.size)
  have g5 : Hid ((grow (redrawn w2 d) os).heap[w.heap.size]? = some (.cells cs 29)) := ((below_regrown w2 d os).block _ (heap_in g2.out)).trans g2.out
  obtain ⟨w5, hw5⟩ : ∃ w5, w5 = grow (redrawn w2 d) os := ⟨_, rfl⟩
  rw [← hw5] at b5 g5 ⊢
  clear hw5 k0 L1 D40
  have e51 := e50.out.1
  have hb5a : Below w5.heap.size w5 (w5.alloc (.cells #[.int .u8 t] 5)) := (Below.refl _ _).alloc (Nat.le_refl _) _
  have C42 : Hid (Calls Tryz.prog 145 #[.slice (some ⟨w5.heap.size, 0, none⟩) 1 1, .int .i64 N] (w5.alloc (.cells #[.int .u8 t] 5)) fun e w' => Made (w5.alloc (.cells #[.int .u8 t] 5)) w' e (1 + kn N) (cellsOf (oneZ t) 1 ++ cellsOf (glZ N) (kn N))) :=
    putLength_in (some ⟨w5.heap.size, 0, none⟩) 1 1 (oneZ t) N (by omega) (by have := HN2.out; omega) _ (new_came w5 1 (oneZ t) _ rfl (fun i => by have := e50.out.2; unfold oneZ; split <;> omega)) (by decide)
  go_wp2_with fail
  go_must (go_at_call 145)
  refine C42.out.mono ?_
  rintro e w6 ⟨g, cp, rfl, ho, hb⟩
  have HO : Hid (w6.ownsRow w5.heap.size 5 1 (.slice (some ⟨g, 0, none⟩) (1 + kn N) cp) (1 + kn N) (cellsOf (oneZ t) 1 ++ cellsOf (glZ N) (kn N))) := own_base ho hb5a.size
  have B6 : Hid (Below w5.heap.size w5 w6) := hb5a.trans (hb.mono hb5a.size)
  have HKN : Hid (1 + kn N ≤ 5) := by show _ ≤ _; have := kn_bd N; omega
  have X6 : Hid (∃ xs, xs = cellsOf (oneZ t) 1 ++ cellsOf (glZ N) (kn N)) := ⟨_, rfl⟩
  obtain ⟨xs, hxs⟩ := X6.out
  rw [← hxs] at HO
  have HXS : Hid (cellsOf (oneZ t) 1 ++ cellsOf (glZ N) (kn N) = xs) := hxs.symm
  clear hb ho hb5a C42 e51 hxs X6
  go_wp2_with fail
  go_must (go_at_call 144)
  refine (grow_own w5.heap.size (1 + kn N) N _ xs w6 HO.out (by simp) B6.out.size (by have := HKN.out; omega) (by have := HN2.out; omega)).mono ?_
  rintro e w7 ⟨v7, rfl, o7, n7, gb7, ow7⟩
  have N7 : Hid (v7 ≠ .slice none 0 0) := n7
  have O7 : Hid (w7.ownsRow w5.heap.size 5 1 v7 (1 + kn N) xs) := o7
  have B7 : Hid (Below w5.heap.size w5 w7) := B6.out.trans (gb_below2 gb7 B6.out.size (fun k e => (HO.out.lt k e).1))
  have g7 : Hid (w7.heap[w.heap.size]? = some (.cells cs 29)) := (B7.out.block _ (heap_in g5.out)).trans g5.out
  clear o7 n7 gb7 ow7
  go_wp2_with (first | (refine wpList_load_wanted rfl _ rfl w.heap.size rfl _ (0, 0) g7.out hsz.out ?_) | fail)
  go_must (go_at_call 146)
  refine (C43.out w5 w7 v7 (1 + kn N) xs b5.out O7.out N7.out B7.out (by have := HKN.out; omega)).mono ?_
  rintro e w8 ⟨v8, rfl, o8, n8, gb8, ow8⟩
  have O8 : Hid (w8.ownsRow w.heap.size 5 1 v8 (1 + kn N + N) (xs ++ T)) := own_base o8 b5.out.size
  have N8 : Hid (v8 ≠ .slice none 0 0) := n8
  have B8 : Hid (Below w.heap.size w w8) := by
    have h1 : Below w5.heap.size w5 w8 := B7.out.trans (gb_below2 gb8 B7.out.size (fun k e => (O7.out.lt k e).1))
    exact b5.out.trans (h1.mono b5.out.size)
  clear o8 n8 gb8 ow8
  go_wp2_with fail
  go_ret2
  exact ⟨v8, rfl, by rw [HXS.out]; exact O8.out, N8.out, B8.out⟩
theorem encode_right (p : Pk) (c : Cn) (w : World) (hg : Gd w) (hin : In w p c) (hs : Small p c) (hR : Right TT p c) (hN2 : sz p c ≤ 1299990) :
    Calls Tryz.prog 90 #[.agg (pkCells p)] w fun e w' => ∃ v, e = .returned (.tuple #[v, .int .i64 0]) ∧ w'.ownsRow w.heap.size 5 1 v (1 + kn (sz p c) + sz p c) (cellsOf (oneZ (16 * p.kind + fg p)) 1 ++ cellsOf (glZ (sz p c)) (kn (sz p c)) ++ fieldsL p c) ∧ v ≠ .slice none 0 0 ∧ Below w.heap.size w w' := by
  have k1 := hR.k1
  have k2 := hR.k2
  exact encode_k p c w _ hg hin hs _ k1 k2 rfl hR rfl hN2
open Go Go.RowKit
open Pkt (Pk Cn Sl In By Is Ss As pkCells Gd sumN)
theorem cellsOf_len (y : Nat → Int) (m : Nat) : (cellsOf y m).length = m := by simp [cellsOf]
open Pkt (Pk Cn Sl In By Is Ss As pkCells Gd sumN Right TT sz fg hasID form mkI)
theorem tx_len (s : ByteArray) : (tx s).length = 2 + s.size := by simp [tx, cellsOf_len, Lib.strCells_length]
theorem asksL_len (f : Nat → ByteArray) (q : Nat → Int) (m : Nat) : (asksL f q m).length = sumN (fun i => 3 + (f i).size) m := by
 induction m with
 | zero => rfl
 | succ m ih => rw [asksL, sumN_succ, List.length_append, List.length_append, ih, tx_len, List.length_singleton]; omega
theorem codesL_len (q : Nat → Int) (m : Nat) : (codesL q m).length = m := by
 induction m with
 | zero => rfl
 | succ m ih => rw [codesL, List.length_append, ih]; rfl
theorem filtL_len (f : Nat → ByteArray) (m : Nat) : (filtL f m).length = sumN (fun i => 2 + (f i).size) m := by
 induction m with
 | zero => rfl
 | succ m ih => rw [filtL, sumN_succ, List.length_append, ih, tx_len]
theorem marks_read (a b c d e : Bool) (q : Fin 3) : let m := mkU a 128 + mkU b 64 + mkU c 32 + 8 * (q.val : Int) + mkU d 4 + mkU e 2
    mk m 128 = a ∧ mk m 64 = b ∧ mk m 32 = c ∧ bits .and .u8 m 24 / 8 = q.val ∧ mk m 4 = d ∧ mk m 2 = e ∧ badMarks m = false ∧ 0 ≤ m ∧ m ≤ 255 := by
  revert q; cases a <;> cases b <;> cases c <;> cases d <;> cases e <;> decide +kernel
theorem marks_back {p : Pk} (hq : p.wQ = 0 ∨ p.wQ = 1 ∨ p.wQ = 2) : mk (marksV p) 128 = p.hasUser ∧ mk (marksV p) 64 = p.hasPass ∧ mk (marksV p) 32 = p.wR ∧ bits .and .u8 (marksV p) 24 / 8 = p.wQ ∧ mk (marksV p) 4 = p.hasWill ∧ mk (marksV p) 2 = p.clean ∧ badMarks (marksV p) = false ∧ 0 ≤ marksV p ∧ marksV p ≤ 255 := by
 unfold marksV
 rcases hq with q | q | q
 ·
  have := marks_read p.hasUser p.hasPass p.wR p.hasWill p.clean 0; rw [q]; exact this
 ·
  have := marks_read p.hasUser p.hasPass p.wR p.hasWill p.clean 1; rw [q]; exact this
 ·
  have := marks_read p.hasUser p.hasPass p.wR p.hasWill p.clean 2; rw [q]; exact this
open Pkt (Pk Cn Sl In By Is Ss As pkCells Gd sumN Right TT sz fg hasID form mkI ck ck_right allN_iff)
def encL (p : Pk) (c : Cn) : List Value := cellsOf (oneZ (16 * p.kind + fg p)) 1 ++ cellsOf (glZ (sz p c)) (kn (sz p c)) ++ fieldsL p c
open Pkt (Pk Cn Sl In By Is Ss As pkCells Gd sumN Right TT sz fg hasID form mkI ck ck_right allN_iff Small)
def Byts (L : List Value) : Prop := ∀ v ∈ L, ∃ x : Int, v = .int .u8 x ∧ 0 ≤ x ∧ x ≤ 255
def byteAt (L : List Value) (i : Nat) : Int := match L[i]? with | some (.int _ x) => x | _ => 0
theorem Byts.app {A B : List Value} (a : Byts A) (b : Byts B) : Byts (A ++ B) := fun v h => (List.mem_append.1 h).elim (a v) (b v)
theorem byts_cells {z : Nat → Int} {n : Nat} (h : ∀ i, 0 ≤ z i ∧ z i ≤ 255) : Byts (cellsOf z n) := fun v hv => by
 simp only [cellsOf, List.mem_map, List.mem_range] at hv
 obtain ⟨i, _, rfl⟩ := hv
 exact ⟨_, rfl, h i⟩
theorem byts_str (s : ByteArray) : Byts (Lib.strCells s) := fun v hv => by
 simp only [Lib.strCells, List.mem_map] at hv
 obtain ⟨b, _, rfl⟩ := hv
 refine ⟨_, rfl, by omega, ?_⟩
 have := b.toNat_lt; omega
theorem byts_nil : Byts [] := fun v h => by cases h
theorem byts_one {x : Int} (h : 0 ≤ x ∧ x ≤ 255) : Byts [.int .u8 x] := fun v hv => by
 simp at hv; exact ⟨x, hv, h⟩
theorem byts_tx (s : ByteArray) : Byts (tx s) := (byts_cells (numZ_bd _)).app (byts_str s)
theorem byts_dt {z : Nat → Int} {n : Nat} (h : ∀ i, 0 ≤ z i ∧ z i ≤ 255) : Byts (dt z n) := (byts_cells (numZ_bd _)).app (byts_cells h)
theorem byteAt_bd {L : List Value} (h : Byts L) (i : Nat) : 0 ≤ byteAt L i ∧ byteAt L i ≤ 255 := by
 unfold byteAt
 cases e : L[i]? with
 | none => simp
 | some v =>
  obtain ⟨x, rfl, hx⟩ := h v (List.mem_of_getElem? e)
  exact hx
theorem byteAt_cells {L : List Value} (h : Byts L) : L = cellsOf (byteAt L) L.length := by
 apply List.ext_getElem?
 intro i
 by_cases hi : i < L.length
 ·
  have e : L[i]? = some L[i] := List.getElem?_eq_getElem hi
  obtain ⟨x, hx, _⟩ := h L[i] (List.getElem_mem hi)
  rw [show (cellsOf (byteAt L) L.length)[i]? = some (.int .u8 (byteAt L i)) by simp [cellsOf, hi], e, hx]
  congr 2
  unfold byteAt
  rw [e, hx]
 ·
  rw [List.getElem?_eq_none (by omega), List.getElem?_eq_none (by simp [cellsOf]; omega)]
theorem byts_asks (f : Nat → ByteArray) (q : Nat → Int) (m : Nat) : Byts (asksL f q m) := by
 induction m with
 | zero => exact byts_nil
 | succ m ih => exact ih.app ((byts_tx _).app (byts_one (by omega)))
theorem byts_codes (q : Nat → Int) (m : Nat) : Byts (codesL q m) := by
 induction m with
 | zero => exact byts_nil
 | succ m ih => exact ih.app (byts_one (by omega))
theorem byts_filt (f : Nat → ByteArray) (m : Nat) : Byts (filtL f m) := by
 induction m with
 | zero => exact byts_nil
 | succ m ih => exact ih.app (byts_tx _)
theorem byts_fields {p : Pk} {c : Cn} (r : Right TT p c) (hw : ∀ i, 0 ≤ c.wz i ∧ c.wz i ≤ 255) (hp : ∀ i, 0 ≤ c.pz i ∧ c.pz i ≤ 255) (hm : ∀ i, 0 ≤ c.mz i ∧ c.mz i ≤ 255) : Byts (fieldsL p c) := by
 have hQ := r.ql
 simp only [Pkt.qls, Bool.and_eq_true, Pkt.isQ, decide_eq_true_eq] at hQ
 have mb := (marks_back (p := p) (by omega)).2.2.2.2.2.2.2
 unfold fieldsL
 split
 ·
  unfold connL
  refine ((((((byts_tx _).app ?_).app (byts_cells (numZ_bd _))).app (byts_tx _)).app ?_).app ?_).app ?_
  ·
   exact Byts.app (A := [_]) (byts_one (by omega)) (byts_one mb)
  ·
   split
   ·
    exact (byts_tx _).app (byts_dt hw)
   ·
    exact byts_nil
  ·
   split
   ·
    exact byts_tx _
   ·
    exact byts_nil
  ·
   split
   ·
    exact byts_dt hp
   ·
    exact byts_nil
 split
 ·
  exact Byts.app (A := [_]) (byts_one (by cases p.present <;> simp [mkU])) (byts_one (by omega))
 split
 ·
  unfold pubL
  refine ((byts_tx _).app ?_).app (byts_cells hm)
  split
  ·
   exact byts_cells (numZ_bd _)
  ·
   exact byts_nil
 split
 ·
  exact byts_nil
 ·
  exact (byts_cells (numZ_bd _)).app (((byts_asks _ _ _).app (byts_codes _ _)).app (byts_filt _ _))
theorem fields_len {p : Pk} {c : Cn} (r : Right TT p c) : (fieldsL p c).length = sz p c := by
 have k1 := r.k1
 have k2 := r.k2
 unfold fieldsL
 split
 ·
  rename_i h1
  unfold connL sz
  rw [if_pos h1]
  unfold Pkt.szc
  have e : mq.size = 4 := rfl
  simp only [List.length_append, tx_len, cellsOf_len, List.length_cons, List.length_nil]
  cases p.hasWill <;> cases p.hasUser <;> cases p.hasPass <;> simp [tx_len, dt, cellsOf_len, List.length_append] <;> omega
 rename_i h1
 split
 ·
  rename_i h2
  unfold sz; rw [if_neg h1, if_pos h2]; rfl
 rename_i h2
 split
 ·
  rename_i h3
  unfold pubL sz Pkt.nid hasID
  have q := r.q2
  rw [if_neg h1, if_neg h2, if_pos h3]
  simp only [List.length_append, tx_len, cellsOf_len]
  by_cases hq : p.mQ = 0
  ·
   simp [h3, hq]
  ·
   have : 0 < p.mQ := by omega
   simp [h3, hq, this, cellsOf_len]; omega
 rename_i h3
 split
 ·
  rename_i h12
  have a8 := r.own.asks (by omega)
  have a9 := r.own.codes (by omega)
  have a10 := r.own.filters (by omega)
  unfold sz Pkt.nid hasID
  rw [if_neg h1, if_neg h2, if_neg h3, a8, a9, a10]
  have : ¬ p.kind ≤ 11 := by omega
  simp [h3, this, sumN]
 ·
  rename_i h12
  unfold sz Pkt.nid hasID
  rw [if_neg h1, if_neg h2, if_neg h3]
  have a : p.kind ≤ 11 := by omega
  have b : 4 ≤ p.kind := by omega
  simp only [List.length_append, cellsOf_len, asksL_len, codesL_len, filtL_len]
  simp [h3, a, b]; omega
theorem enc_len {p : Pk} {c : Cn} (r : Right TT p c) : (encL p c).length = 1 + kn (sz p c) + sz p c := by
 unfold encL
 rw [List.length_append, List.length_append, cellsOf_len, cellsOf_len, fields_len r]
theorem byts_enc {p : Pk} {c : Cn} (r : Right TT p c) (hw : ∀ i, 0 ≤ c.wz i ∧ c.wz i ≤ 255) (hp : ∀ i, 0 ≤ c.pz i ∧ c.pz i ≤ 255) (hm : ∀ i, 0 ≤ c.mz i ∧ c.mz i ≤ 255) : Byts (encL p c) := by
 have hb := fg_bd r
 have k1 := r.k1
 have k2 := r.k2
 have s3 := r.s3
 refine ((byts_cells fun i => ?_).app (byts_cells fun i => ?_)).app (byts_fields r hw hp hm)
 ·
  unfold oneZ; split <;> omega
 ·
  exact glZ_bd _ (by omega) (by omega) i
open Pkt (Pk Cn Sl In By Is Ss As pkCells Gd sumN Right TT sz fg ck ck_right Small wpList_load_wanted check_any length_any box_below Fit Off parts Cg St Cb cpacket_any many_any ok_any)
theorem size_wrong (p : Pk) (c : Cn) (w : World) (hg : Gd w) (hin : In w p c) (hs : Small p c) (h0 : ck TT p c ≠ 0) :
    Calls Tryz.prog 93 #[.agg (pkCells p)] w fun e w' => e = .returned (.int .i64 0) ∧ Below w.heap.size w w' := by
  obtain ⟨W, hW⟩ : ∃ W, W = w.alloc (.cells (pkCells p) 29) := ⟨_, rfl⟩
  have b0 : Hid (Below w.heap.size w W) := box_below hW
  have g0 : Hid (W.heap[w.heap.size]? = some (.cells (pkCells p) 29)) := by show _ = _; rw [hW]; exact heap_alloc_new w _
  have C10 : Hid (∀ w', Below w.heap.size w w' → Calls Tryz.prog 141 #[.agg (pkCells p)] w' fun e w'' => e = .returned (.int .i64 (ck TT p c)) ∧ Below w'.heap.size w' w'') := fun w' hb => check_any p c w' (hg.below hb) (hin.below hb) hs
  obtain ⟨E, hE⟩ : ∃ E : Nat, E = ck TT p c := ⟨_, rfl⟩
  rw [← hE] at C10 h0
  have hne : ¬ (E : Int) = 0 := by omega
  obtain ⟨cs, hcs⟩ : ∃ cs, cs = pkCells p := ⟨_, rfl⟩
  have hsz : Hid (cs.size = 25) := by show _ = _; rw [hcs]; rfl
  rw [← hcs] at C10 g0 hW ⊢
  clear hcs hg hin hs hE
  go_enter Tryz.func93, Tryz.ntmps93
  go_upto_region 1 with fail
  rw [← hW]
  clear hW
  go_wp2_with (first | (refine wpList_load_wanted rfl _ rfl w.heap.size rfl _ (0, 0) g0.out hsz.out ?_) | fail)
  go_must (go_at_call 141)
  refine (C10.out _ b0.out).mono ?_
  rintro e w1 ⟨rfl, hb⟩
  have b1 : Hid (Below w.heap.size w w1) := b0.out.trans (hb.mono b0.out.size)
  clear hb
  go_wp2_with fail
  go_ret
  exact ⟨rfl, b1.out⟩
theorem size_right (p : Pk) (c : Cn) (w : World) (hg : Gd w) (hin : In w p c) (hs : Small p c) (hR : Right TT p c) :
    Calls Tryz.prog 93 #[.agg (pkCells p)] w fun e w' => e = .returned (.int .i64 ((1 + kn (sz p c) + sz p c : Nat) : Int)) ∧ Below w.heap.size w w' := by
  obtain ⟨W, hW⟩ : ∃ W, W = w.alloc (.cells (pkCells p) 29) := ⟨_, rfl⟩
  have b0 : Hid (Below w.heap.size w W) := box_below hW
  have g0 : Hid (W.heap[w.heap.size]? = some (.cells (pkCells p) 29)) := by show _ = _; rw [hW]; exact heap_alloc_new w _
  have h0 := (ck_right TT p c).2 hR
  have hs3 := hR.s3
  have C10 : Hid (∀ w', Below w.heap.size w w' → Calls Tryz.prog 141 #[.agg (pkCells p)] w' fun e w'' => e = .returned (.int .i64 0) ∧ Below w'.heap.size w' w'') := fun w' hb => by
    have := check_any p c w' (hg.below hb) (hin.below hb) hs
    rw [h0] at this; exact this
  have C16 : Hid (∀ w', Below w.heap.size w w' → Calls Tryz.prog 142 #[.agg (pkCells p)] w' fun e w'' => e = .returned (.int .i64 (sz p c)) ∧ Below w'.heap.size w' w'') := fun w' hb => by
    have := length_any p c w' (hg.below hb) (hin.below hb) hs
    rw [if_pos h0] at this; exact this
  obtain ⟨N, hN⟩ : ∃ N, N = sz p c := ⟨_, rfl⟩
  rw [← hN] at C16 hs3 ⊢
  have hk4 := kn_bd (N : Int)
  have C42 : Hid (∀ w', Calls Tryz.prog 145 #[.slice none 0 0, .int .i64 N] w' fun e w'' => Made w' w'' e (0 + kn N) (cellsOf (fun _ => 0) 0 ++ cellsOf (glZ N) (kn N))) := fun w' => putLength_in none 0 0 (fun _ => 0) N (by omega) (by omega) w' (nil_came w') (by decide)
  obtain ⟨k, hk⟩ : ∃ k, k = kn (N : Int) := ⟨_, rfl⟩
  rw [← hk] at C42 hk4 ⊢
  obtain ⟨cs, hcs⟩ : ∃ cs, cs = pkCells p := ⟨_, rfl⟩
  have hsz : Hid (cs.size = 25) := by show _ = _; rw [hcs]; rfl
  rw [← hcs] at C10 C16 g0 hW ⊢
  clear hcs hg hin hs hN hk h0 hR
  go_enter Tryz.func93, Tryz.ntmps93
  go_upto_region 1 with fail
  rw [← hW]
  clear hW
  go_wp2_with (first | (refine wpList_load_wanted rfl _ rfl w.heap.size rfl _ (0, 0) g0.out hsz.out ?_) | fail)
  go_must (go_at_call 141)
  refine (C10.out _ b0.out).mono ?_
  rintro e w1 ⟨rfl, hb⟩
  have b1 : Hid (Below w.heap.size w w1) := b0.out.trans (hb.mono b0.out.size)
  have g1 : Hid (w1.heap[w.heap.size]? = some (.cells cs 29)) := (hb.block _ (heap_in g0.out)).trans g0.out
  clear hb
  go_wp2_with (first | (refine wpList_load_wanted rfl _ rfl w.heap.size rfl _ (0, 0) g1.out hsz.out ?_) | fail)
  go_must (go_at_call 142)
  refine (C16.out _ b1.out).mono ?_
  rintro e w2 ⟨rfl, hb⟩
  have b2 : Hid (Below w.heap.size w w2) := b1.out.trans (hb.mono b1.out.size)
  clear hb
  go_wp2_with fail
  go_must (go_at_call 145)
  refine (C42.out w2).mono ?_
  rintro e w3 ⟨g, cp, rfl, _, hb⟩
  have b3 : Hid (Below w.heap.size w w3) := b2.out.trans (hb.mono b2.out.size)
  clear hb
  go_wp2_with fail
  go_ret
  refine ⟨?_, b3.out⟩
  first | rfl | (congr 2; simp; try omega)
theorem lfew_any (p : Pk) (c : Cn) (w : World) (hin : In w p c) (hf : Fit p c) :
    Calls Tryz.prog 20 #[.agg (pkCells p)] w fun e w' => ∃ b, e = .returned (.bool b) ∧ Below w.heap.size w w' ∧ (b = true → parts p c ≤ 150000) := by
  obtain ⟨W, hW⟩ : ∃ W, W = w.alloc (.cells (pkCells p) 29) := ⟨_, rfl⟩
  have b0 : Hid (Below w.heap.size w W) := box_below hW
  have g0 : Hid (W.heap[w.heap.size]? = some (.cells (pkCells p) 29)) := by show _ = _; rw [hW]; exact heap_alloc_new w _
  obtain ⟨W1, hW1⟩ : ∃ W1, W1 = W.alloc (.cells #[.int .i64 150000] 129) := ⟨_, rfl⟩
  have bb : Below W.heap.size W W1 := by rw [hW1]; exact (Below.refl _ _).alloc (Nat.le_refl _) _
  have B1 : Hid (Below w.heap.size w W1) := b0.out.trans (bb.mono b0.out.size)
  have g1 : Hid (W1.heap[w.heap.size]? = some (.cells (pkCells p) 29)) := (bb.block _ (heap_in g0.out)).trans g0.out
  have hin1 := hin.below B1.out
  have hinW := hin.below b0.out
  have oo : Off W.heap.size p := by
    refine ⟨fun hn b off e he => ?_, fun hn b off e he => ?_⟩
    · obtain ⟨_, h2 | ⟨b', off', e', h2⟩⟩ := hinW.asks
      · omega
      · have h3 := World.block_lt_of_cell? _ _ (h2 0 hn).1
        rw [e] at e'
        simp only [Option.some.injEq, Addr.mk.injEq] at e'
        simp only at h3
        omega
    · obtain ⟨_, h2 | ⟨b', off', e', h2⟩⟩ := hinW.filters
      · omega
      · have h3 := World.block_lt_of_cell? _ _ (h2 0 hn)
        rw [e] at e'
        simp only [Option.some.injEq, Addr.mk.injEq] at e'
        simp only at h3
        omega
  have HP : Hid (Calls Tryz.prog 89 #[.pointer (some ⟨W.heap.size, 0, none⟩), .agg (pkCells p)] W1 fun e w' => ∃ y, e = .returned (.tuple #[]) ∧ Cg W.heap.size y W1 w' ∧ St 150000 (parts p c) y) :=
    cpacket_any p c W1 W.heap.size 150000 (by rw [hW1]; exact heap_alloc_new W _) hin1 oo hf (by decide) (by decide)
  have HW1 : Hid (W1 = W.alloc (.cells #[.int .i64 150000] 129)) := hW1
  obtain ⟨cs, hcs⟩ : ∃ cs, cs = pkCells p := ⟨_, rfl⟩
  have hsz : Hid (cs.size = 25) := by show _ = _; rw [hcs]; rfl
  rw [← hcs] at HP g0 g1 hW ⊢
  clear hcs hin hin1 hinW hf oo bb
  go_enter Tryz.func20, Tryz.ntmps20
  go_upto_region 1 with fail
  rw [← hW]
  clear hW
  go_wp2_with fail
  go_must (go_at_call 27)
  refine (many_any _ _).mono ?_
  rintro e w1 ⟨rfl, hw1⟩
  obtain rfl : w1 = W1 := hw1.trans hW1.symm
  clear hw1 hW1
  go_wp2_with (first | (refine wpList_load_wanted rfl _ rfl w.heap.size rfl _ (0, 0) g1.out hsz.out ?_) | fail)
  go_must (go_at_call 89)
  refine HP.out.mono ?_
  rintro e w2 ⟨y, rfl, hc2, st2⟩
  have C2 : Hid (Cg W.heap.size y w1 w2) := hc2
  have S2 : Hid (St 150000 (parts p c) y) := st2
  clear hc2 st2
  go_wp2_with fail
  go_must (go_at_call 30)
  refine (ok_any _ _ y C2.out.blk).mono ?_
  rintro e w3 ⟨rfl, hw3⟩
  obtain rfl := hw3.symm
  clear hw3
  obtain ⟨bb, hbb⟩ : ∃ bb, decide (0 ≤ y) = bb := ⟨_, rfl⟩
  have HBB : Hid (decide (0 ≤ y) = bb) := hbb
  rw [hbb]
  clear hbb
  go_wp2_with fail
  go_ret
  refine ⟨bb, rfl, ?_, fun e => ?_⟩
  · have h1 := B1.out
    have h2 := b0.out.size
    exact ⟨C2.out.os.trans h1.os, C2.out.tape.trans h1.tape, C2.out.output.trans h1.output, Nat.le_trans h1.size C2.out.size, fun k hk => (C2.out.keep k (Nat.lt_of_lt_of_le hk h1.size) (by omega)).trans (h1.block k hk)⟩
  · have h1 := HBB.out
    rw [e] at h1
    have h2 := S2.out.1 (of_decide_eq_true h1)
    have h3 := of_decide_eq_true h1
    omega
open Pkt (Pk Cn Sl In By Is Ss As pkCells Gd box_below)
set_option maxHeartbeats 400000
theorem hidx {p : Prop} (h : p) : Hid p := h
theorem by_cm {w : World} {l : Sl} {z : Nat → Int} (h : By w l z) (hn : Pkt.Nil l) : Came w l.a l.n l.c z := by
 obtain ⟨a, n, c⟩ := l
 cases a with
 | none =>
  have q := hn rfl
  exact ⟨h.1, h.2.1, .inl ⟨rfl, q.1, q.2⟩⟩
 | some ad =>
  refine ⟨h.1, h.2.1, .inr ⟨ad, rfl, fun i hi => ?_⟩⟩
  rcases h.2.2 with q | ⟨b, off, e, hc⟩
  ·
   simp only at q hi; omega
  ·
   simp only [Option.some.injEq] at e
   subst e
   rw [plain_add]
   exact hc i hi
theorem came_by {w : World} {g n cp : Nat} {z : Nat → Int} (h : Came w (some ⟨g, 0, none⟩) n cp z) : By w ⟨some ⟨g, 0, none⟩, n, cp⟩ z := by
 refine ⟨h.1, h.2.1, .inr ⟨g, 0, rfl, fun i hi => ?_⟩⟩
 rcases h.2.2 with q | ⟨ad, e, hc⟩
 ·
  cases q.1
 ·
  cases e
  have := hc i hi
  rw [plain_add] at this
  exact this
theorem wpList_ot {w : World} {ops : Array Oper} {rest : List Oper} {o : Oper} {a : Act} {Q : Exit → Act → World → Prop} (hgd : o.guard = none) (s x : Operand)
    (ho : o.op = .call { callee := .builtin .append, args := #[s, x], argTypes := #[22, 22] }) (B n : Nat) (v : Value) (xs : List Value) (hs : a.eval s = v) (hown : w.ownsRow B 5 1 v n xs)
    (l : Sl) (z : Nat → Int) (hne : v ≠ .slice none 0 0 ∨ 0 < l.n) (hx : a.eval x = .slice l.a l.n l.c) (hl : By w l z) (hn : n ≤ 1400000) (hln : l.n ≤ 1400000) (hB : B ≤ w.heap.size)
    (h : ∀ v' w', w'.ownsRow B 5 1 v' (n + l.n) (xs ++ cellsOf z l.n) → v' ≠ .slice none 0 0 → Below B w w' → wpList Tryz.prog ops Q rest (a.put o.dst v') w') : wpList Tryz.prog ops Q (o :: rest) a w := by
  have hb : ∀ k, v.ownBlock = some k → B ≤ k := fun k e => (hown.lt k e).1
  by_cases hv : v = .slice none 0 0
  · have h0 : 0 < l.n := hne.resolve_left (fun q => q hv)
    obtain ⟨i0, hi, hz0, hz1, hz2⟩ := info_parts Tryz.info5
    obtain ⟨b, off, ha, hc⟩ := hl.2.2.resolve_left (by omega)
    rw [ha] at hx
    refine wpList_push hgd s x 22 ho B 5 i0 (.int .u8 0) 1 1 Tryz.underlying22 hi hz0 hz1 hz2 rfl (by decide) v n xs hs hown ⟨b, off, none⟩ l.n l.c (cellsOf z l.n) hx (by omega) (by rw [cellsOf_length, Nat.mul_one]) (fun j u hu => ?_) (fun u hu => cellsOf_one _ _ _ hu) (by unfold maxLen; omega) (by omega) hB ?_
    · obtain ⟨hj, rfl⟩ := cellsOf_get _ _ _ _ hu
      rw [plain_add]; exact hc j hj
    · intro v' w' o1 g1 n1 _
      exact h v' w' o1 n1 (gb_below2 g1 hB hb)
  · refine wpList_push_by hgd s x ho B n v xs hs hown hv l z hx hl hn hln hB ?_
    rintro v' w' ⟨v2, e, o1, n1, g1, _⟩
    cases e
    exact h v' w' o1 n1 (gb_below2 g1 hB hb)
theorem wpList_ot1 {w0 : World} {ops : Array Oper} {rest : List Oper} {o : Oper} {a : Act} {Q : Exit → Act → World → Prop} (hgd : o.guard = none) (s x : Operand)
    (ho : o.op = .call { callee := .builtin .append, args := #[s, x], argTypes := #[22, 22] }) (B n : Nat) (v : Value) (xs : List Value) (b : Int) (hs : a.eval s = v) (hown : w0.ownsRow B 5 1 v n xs) (hv : v ≠ .slice none 0 0)
    (hx : a.eval x = .slice (some ⟨w0.heap.size, 0, none⟩) 1 1) (hb0 : 0 ≤ b ∧ b ≤ 255) (hn : n ≤ 1400000) (hB : B ≤ w0.heap.size)
    (h : ∀ v' w', w'.ownsRow B 5 1 v' (n + 1) (xs ++ [.int .u8 b]) → v' ≠ .slice none 0 0 → Below B w0 w' → wpList Tryz.prog ops Q rest (a.put o.dst v') w') : wpList Tryz.prog ops Q (o :: rest) a (w0.alloc (.cells #[.int .u8 b] 5)) := by
  have hb : Below w0.heap.size w0 (w0.alloc (.cells #[.int .u8 b] 5)) := (Below.refl _ _).alloc (Nat.le_refl _) _
  refine wpList_ot hgd s x ho B n v xs hs (own_below hown hb) ⟨some ⟨w0.heap.size, 0, none⟩, 1, 1⟩ (fun _ => b) (.inl hv) hx ⟨Nat.le_refl _, fun _ => hb0, .inr ⟨w0.heap.size, 0, rfl, fun i hi => ?_⟩⟩ hn (by simp only; omega) (Nat.le_trans hB hb.size) ?_
  · have : i = 0 := by simp only at hi; omega
    subst this
    rw [World.cell?_alloc_at _ _ _ _ rfl]
    rfl
  · intro v' w' h1 h2 h3
    exact h v' w' h1 h2 ((hb.mono hB).trans h3)
theorem wpList_otE {w : World} {ops : Array Oper} {rest : List Oper} {o : Oper} {a : Act} {Q : Exit → Act → World → Prop} (hgd : o.guard = none) (s x : Operand)
    (ho : o.op = .call { callee := .builtin .append, args := #[s, x], argTypes := #[22, 22] }) (B n : Nat) (v : Value) (xs : List Value) (hs : a.eval s = v) (hown : w.ownsRow B 5 1 v n xs)
    (l : Sl) (z : Nat → Int) (hne : v ≠ .slice none 0 0 ∨ 0 < l.n) (hx : a.eval x = .slice l.a l.n l.c) (hl : By w l z) (hn : n ≤ 1400000) (hln : l.n ≤ 1400000) (hB : B ≤ w.heap.size)
    (h : ∀ v' w' m ys, m = n + l.n → ys = xs ++ cellsOf z l.n → w'.ownsRow B 5 1 v' m ys → v' ≠ .slice none 0 0 → Below B w w' → wpList Tryz.prog ops Q rest (a.put o.dst v') w') : wpList Tryz.prog ops Q (o :: rest) a w :=
  wpList_ot hgd s x ho B n v xs hs hown l z hne hx hl hn hln hB (fun v' w' h1 h2 h3 => h v' w' _ _ rfl rfl h1 h2 h3)
theorem wpList_ot1E {w0 : World} {ops : Array Oper} {rest : List Oper} {o : Oper} {a : Act} {Q : Exit → Act → World → Prop} {B n : Nat} {v : Value} {xs : List Value} (hown : w0.ownsRow B 5 1 v n xs) (hv : v ≠ .slice none 0 0) (hgd : o.guard = none) (s x : Operand)
    (ho : o.op = .call { callee := .builtin .append, args := #[s, x], argTypes := #[22, 22] }) (b : Int) (hs : a.eval s = v)
    (hx : a.eval x = .slice (some ⟨w0.heap.size, 0, none⟩) 1 1) (hb0 : 0 ≤ b ∧ b ≤ 255) (hn : n ≤ 1400000) (hB : B ≤ w0.heap.size)
    (h : ∀ v' w' m ys, m = n + 1 → ys = xs ++ [.int .u8 b] → w'.ownsRow B 5 1 v' m ys → v' ≠ .slice none 0 0 → Below B w0 w' → wpList Tryz.prog ops Q rest (a.put o.dst v') w') : wpList Tryz.prog ops Q (o :: rest) a (w0.alloc (.cells #[.int .u8 b] 5)) :=
  wpList_ot1 hgd s x ho B n v xs b hs hown hv hx hb0 hn hB (fun v' w' h1 h2 h3 => h v' w' _ _ rfl rfl h1 h2 h3)
theorem step_ot2 {w0 : World} {ops : Array Oper} {o : Oper} {a : Act} {K : Act → World → Prop} {Q : Exit → Act → World → Prop} {E : Prop} (hgd : o.guard = none) (s x : Operand)
    (ho : o.op = .call { callee := .builtin .append, args := #[s, x], argTypes := #[22, 22] }) (B n : Nat) (v : Value) (xs : List Value) (b1 b2 : Int) (hs : a.eval s = v) (hown : w0.ownsRow B 5 1 v n xs)
    (hx : a.eval x = .slice (some ⟨w0.heap.size, 0, none⟩) 2 2) (hn : n ≤ 1400000) (hB : B ≤ w0.heap.size)
    (h : ∀ v' w', w'.ownsRow B 5 1 v' (n + 2) (xs ++ [.int .u8 b1, .int .u8 b2]) → v' ≠ .slice none 0 0 → Below B w0 w' → K (a.put o.dst v') w') :
    if Region.wanted o (yielded ops a.tmps) = true then Oper.wp Tryz.prog o a (w0.alloc (.cells #[.int .u8 b1, .int .u8 b2] 5)).drew K Q else E := by
  obtain ⟨i0, hi, hz0, hz1, hz2⟩ := info_parts Tryz.info5
  have hb : Below w0.heap.size w0 (w0.alloc (.cells #[.int .u8 b1, .int .u8 b2] 5)).drew := ((Below.refl _ _).alloc (Nat.le_refl _) _).drew
  have hown2 := own_below hown hb
  have hbk : ∀ k, v.ownBlock = some k → B ≤ k := fun k e => (hown.lt k e).1
  refine step_push hgd s x 22 ho B 5 i0 (.int .u8 0) 1 1 Tryz.underlying22 hi hz0 hz1 hz2 rfl (by decide) v n xs hs hown2 ⟨w0.heap.size, 0, none⟩ 2 2 [.int .u8 b1, .int .u8 b2] hx (by decide) rfl ?_ ?_ ?_ ?_ ?_ ?_
  · intro j u hu
    rw [plain_add, Nat.zero_add]
    show (w0.alloc (.cells #[.int .u8 b1, .int .u8 b2] 5)).cell? _ = _
    rw [World.cell?_alloc_at _ _ _ _ rfl]
    simpa using hu
  · intro u hu; simp at hu; rcases hu with rfl | rfl <;> rfl
  · unfold maxLen; omega
  · omega
  · exact Nat.le_trans hB hb.size
  · intro v2 w2 o2 gb2 n2 _
    exact h v2 w2 o2 n2 ((hb.mono (Nat.le_refl _)).mono hB |>.trans (gb_below2 gb2 (Nat.le_trans hB hb.size) hbk))
theorem step_ot2E {w0 : World} {ops : Array Oper} {o : Oper} {a : Act} {K : Act → World → Prop} {Q : Exit → Act → World → Prop} {E : Prop} (hgd : o.guard = none) (s x : Operand)
    (ho : o.op = .call { callee := .builtin .append, args := #[s, x], argTypes := #[22, 22] }) (B n : Nat) (v : Value) (xs : List Value) (b1 b2 : Int) (hs : a.eval s = v) (hown : w0.ownsRow B 5 1 v n xs)
    (hx : a.eval x = .slice (some ⟨w0.heap.size, 0, none⟩) 2 2) (hn : n ≤ 1400000) (hB : B ≤ w0.heap.size)
    (h : ∀ v' w' m ys, m = n + 2 → ys = xs ++ [.int .u8 b1, .int .u8 b2] → w'.ownsRow B 5 1 v' m ys → v' ≠ .slice none 0 0 → Below B w0 w' → K (a.put o.dst v') w') :
    if Region.wanted o (yielded ops a.tmps) = true then Oper.wp Tryz.prog o a (w0.alloc (.cells #[.int .u8 b1, .int .u8 b2] 5)).drew K Q else E :=
  step_ot2 hgd s x ho B n v xs b1 b2 hs hown hx hn hB (fun v' w' h1 h2 h3 => h v' w' _ _ rfl rfl h1 h2 h3)
theorem bit_any (b : Bool) (n : Int) (w : World) : Calls Tryz.prog 162 #[.bool b, .int .i64 n] w fun e w' => e = .returned (.int .i64 (mkU b n)) ∧ w' = w := by
 cases b
 ·
  go_enter Tryz.func162, Tryz.ntmps162
  go_wp2
  go_ret
  exact ⟨rfl, rfl⟩
 ·
  go_enter Tryz.func162, Tryz.ntmps162
  go_wp2
  go_ret
  exact ⟨rfl, rfl⟩
theorem tx_cells (s : ByteArray) : tx s = cellsOf (Bk.cat (numZ s.size) 2 (Bk.sZ s)) (2 + s.size) := by
 have := cells_cat (numZ s.size) (Bk.sZ s) 2 s.size
 unfold tx
 rw [Bk.strCells_sZ]
 exact this
theorem words3_any (s : ByteArray) (w : World) (hs : s.size ≤ 65535) (hc : (chk s).2 = 0) : Calls Tryz.prog 161 #[.string s] w fun e w' => ∃ g cp, e = .returned (.slice (some ⟨g, 0, none⟩) (2 + s.size) cp) ∧ By w' ⟨some ⟨g, 0, none⟩, 2 + s.size, cp⟩ (Bk.cat (numZ s.size) 2 (Bk.sZ s)) ∧ Below w.heap.size w w' := by
 have HW := hidx (Bk.rz_words s w hs hc)
 clear hs hc
 go_enter Tryz.func161, Tryz.ntmps161
 go_wp2_with fail
 go_must (go_at_call 244)
 refine HW.out.mono ?_
 rintro e w1 ⟨v, rfl, hm⟩
 obtain ⟨g, cp, rfl, hg⟩ := hm.sl
 have R := hidx (And.intro (came_by hm.came) hm.bel)
 clear hm hg
 go_wp2_with fail
 go_ret
 exact ⟨g, cp, rfl, R.out.1, R.out.2⟩
theorem data3_any (a : Option Addr) (l k : Nat) (z : Nat → Int) (w : World) (h : Came w a l k z) (hl : l ≤ 65535) : Calls Tryz.prog 164 #[.slice a l k] w fun e w' => ∃ g cp, e = .returned (.slice (some ⟨g, 0, none⟩) (2 + l) cp) ∧ By w' ⟨some ⟨g, 0, none⟩, 2 + l, cp⟩ (Bk.cat (numZ l) 2 z) ∧ Below w.heap.size w w' := by
 have HW := hidx (Bk.rdata_ok a l k z w h hl)
 clear h hl
 go_enter Tryz.func164, Tryz.ntmps164
 go_wp2_with fail
 go_must (go_at_call 246)
 refine HW.out.mono ?_
 rintro e w1 ⟨g, cp, rfl, hm, hb⟩
 have R := hidx (And.intro (came_by hm) hb)
 clear hm hb
 go_wp2_with fail
 go_ret
 exact ⟨g, cp, rfl, R.out.1, R.out.2⟩
theorem dt_cells (z : Nat → Int) (n : Nat) : dt z n = cellsOf (Bk.cat (numZ n) 2 z) (2 + n) := cells_cat (numZ n) z 2 n
theorem number3_any (n : Int) (w : World) : Calls Tryz.prog 163 #[.int .i64 n] w fun e w' => ∃ g cp, e = .returned (.slice (some ⟨g, 0, none⟩) 2 cp) ∧ By w' ⟨some ⟨g, 0, none⟩, 2, cp⟩ (numZ n) ∧ Below w.heap.size w w' := by
 refine (Bk.rz_number n w).mono ?_
 rintro e w1 ⟨v, rfl, hm⟩
 obtain ⟨g, cp, rfl, hg⟩ := hm.sl
 exact ⟨g, cp, rfl, came_by hm.came, hm.bel⟩
end Go.Proofs.YtphofgnehdlafaaGreatDoor
