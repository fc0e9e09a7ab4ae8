import Derived.Test.YtibihbclijpkjaaGreatDoorGf
import Derived.Test.YtibihbclijpkjaaGreatDoorPLb
import Derived.Test.YtibihbclijpkjaaGreatDoorPRs
namespace Go.Proofs.YtibihbclijpkjaaGreatDoor
open Go Go.RowKit Go.Sort
open Pkt (Pk Cn Sl In By Is Ss As pkCells Gd wpList_load_wanted quiet_load box_below Small ck TT sz fg Right ck_right check_any length_any flags_any)
set_option linter.unusedSimpArgs false
set_option linter.unusedVariables false

theorem own_base {w : World} {B D n : Nat} {v : Value} {xs : List Value} (h : w.ownsRow D 5 1 v n xs) (hB : B ≤ D) : w.ownsRow B 5 1 v n xs := by
  refine ⟨h.1, ?_⟩
  rcases h.2 with h2 | ⟨g, cap, cur, rfl, h3, h4⟩
  · exact .inl h2
  · exact .inr ⟨g, cap, cur, rfl, Nat.le_trans hB h3, h4⟩
def oneZ (x : Int) : Nat → Int := fun i => if i = 0 then x else 0

set_option maxRecDepth 100000 in
set_option maxHeartbeats 4000000 in
theorem encode_pub (p : Pk) (c : Cn) (w : World) (N : Nat) (hg : Gd w) (hin : In w p c) (hs : Small p c) (hk : p.kind = 3) (h0 : ck TT p c = 0) (hf : fg p = 2) (hN : sz p c = N) (hN2 : N ≤ 300000) (hq : 0 < p.mQ) (hm1 : 0 < p.mP.n) (hm : p.mP.n ≤ 150000) (ht : p.mT.size ≤ 65535) (hc : (chk p.mT).2 = 0) :
    Calls Tryz.prog 11 #[.agg (pkCells p)] w fun e w' => ∃ v, e = .returned (.tuple #[v, .int .i64 0]) ∧ w'.ownsRow w.heap.size 5 1 v (1 + kn N + (2 + p.mT.size) + 2 + p.mP.n) (cellsOf (oneZ 50) 1 ++ cellsOf (glZ N) (kn N) ++ (cellsOf (numZ p.mT.size) 2 ++ Lib.strCells p.mT) ++ cellsOf (numZ p.id) 2 ++ cellsOf c.mz p.mP.n) ∧ v ≠ .slice none 0 0 ∧ Below w.heap.size w w' := by
  obtain ⟨W, hW⟩ : ∃ W, W = w.alloc (.cells (pkCells p) 29) := ⟨_, rfl⟩
  have b0 : Hid (Below w.heap.size w W) := box_below hW
  have g0 : Hid (W.heap[w.heap.size]? = some (.cells (pkCells p) 29)) := by show _ = _; rw [hW]; exact heap_alloc_new w _
  have hR := (ck_right TT p c).1 h0
  have C10 : Hid (∀ w', Below w.heap.size w w' → Calls Tryz.prog 10 #[.agg (pkCells p)] w' fun e w'' => e = .returned (.int .i64 0) ∧ Below w'.heap.size w' w'') := fun w' hb => by
    have := check_any p c w' (hg.below hb) (hin.below hb) hs
    rw [h0] at this; exact this
  have C16 : Hid (∀ w', Below w.heap.size w w' → Calls Tryz.prog 16 #[.agg (pkCells p)] w' fun e w'' => e = .returned (.int .i64 N) ∧ Below w'.heap.size w' w'') := fun w' hb => by
    have := length_any p c w' (hg.below hb) (hin.below hb) hs
    rw [if_pos h0, hN] at this; exact this
  have C40 : Hid (∀ w', Below w.heap.size w w' → Calls Tryz.prog 40 #[.agg (pkCells p)] w' fun e w'' => e = .returned (.int .i64 2) ∧ Below w'.heap.size w' w'') := fun w' hb => by
    have := flags_any p c w' (hg.below hb) (hin.below hb) hs hR
    rw [hf] at this; exact this
  have C43 : Hid (∀ (w5 w' : World) (v : Value) (n : Nat) (xs : List Value), Below w.heap.size w w5 → w'.ownsRow w5.heap.size 5 1 v n xs → Below w5.heap.size w5 w' → n ≤ 100000 → Calls Tryz.prog 43 #[v, .agg (pkCells p)] w' fun e w'' => Adds w5.heap.size v w' w'' e (n + (2 + p.mT.size) + 2 + p.mP.n) (xs ++ (cellsOf (numZ p.mT.size) 2 ++ Lib.strCells p.mT) ++ cellsOf (numZ p.id) 2 ++ cellsOf c.mz p.mP.n)) := fun w5 w' v n xs hb h1 h2 hn => wFields_pub w5 w' p c.mz v n xs hk h1 h2 (hin.below hb).mP hn hm hm1 ht hc hq
  obtain ⟨T, hT⟩ : ∃ T, T = (cellsOf (numZ p.mT.size) 2 ++ Lib.strCells p.mT) := ⟨_, rfl⟩
  obtain ⟨I, hI⟩ : ∃ I, I = cellsOf (numZ p.id) 2 := ⟨_, rfl⟩
  obtain ⟨P, hP⟩ : ∃ P, P = cellsOf c.mz p.mP.n := ⟨_, rfl⟩
  rw [← hT, ← hI, ← hP] at C43
  rw [← hT, ← hI, ← hP]
  obtain ⟨cs, hcs⟩ : ∃ cs, cs = pkCells p := ⟨_, rfl⟩
  have hsz : Hid (cs.size = 25) := by show _ = _; rw [hcs]; rfl
  have hk0 : Hid (cs[0]? = some (.int .i64 3)) := by show _ = _; rw [hcs, ← hk]; rfl
  rw [← hcs] at C10 C16 C40 C43 g0 hW ⊢
  have HN2 : Hid (N ≤ 300000) := hN2
  clear hcs hT hI hP hg hin hs hk h0 hf hN hN2 hq hm1 hm ht hc hR
  go_enter Tryz.func11, Tryz.ntmps11
  go_upto_region 1 with fail
  rw [← hW]
  clear hW
  go_wp2_with (first | (refine wpList_load_wanted rfl _ rfl w.heap.size rfl _ (0, 0) g0.out hsz.out ?_) | fail)
  go_must (go_at_call 10)
  refine (C10.out _ b0.out).mono ?_
  rintro e w1 ⟨rfl, hb⟩
  have b1 : Hid (Below w.heap.size w w1) := b0.out.trans (hb.mono b0.out.size)
  have g1 : Hid (w1.heap[w.heap.size]? = some (.cells cs 29)) := (hb.block _ (heap_in g0.out)).trans g0.out
  clear hb
  go_wp2_with (first | (refine wpList_load_wanted rfl _ rfl w.heap.size rfl _ (0, 0) g1.out hsz.out ?_) | fail)
  go_must (go_at_call 16)
  refine (C16.out _ b1.out).mono ?_
  rintro e w2 ⟨rfl, hb⟩
  have b2 : Hid (Below w.heap.size w w2) := b1.out.trans (hb.mono b1.out.size)
  have g2 : Hid (w2.heap[w.heap.size]? = some (.cells cs 29)) := (hb.block _ (heap_in g1.out)).trans g1.out
  clear hb
  go_upto_region 5 with fail
  have k0 : ∀ d os, (grow (redrawn w2 d) os).cell? ⟨w.heap.size, 0, none⟩ = some (.int .i64 3) := fun d os => cell_later (below_regrown w2 d os) (box_cells g2.out 0 _ hk0.out)
  have L1 : Hid (∀ w', (∃ p : Regrown, w' = grow (redrawn w2 p.d) p.os) → (loadVar 29 ⟨w.heap.size, 0, none⟩).run Tryz.prog w' = .ok (.agg cs) w') := by
    rintro _ ⟨pp, rfl⟩
    exact run_loadVar_row _ w.heap.size 29 29 cs (0, 0) _ (((below_regrown w2 pp.d pp.os).block _ (heap_in g2.out)).trans g2.out) Tryz.underlying29 rfl (by rw [hsz.out]; kernel_rfl)
  have D40 : Hid (∀ d os, Calls Tryz.prog 40 #[.agg cs] (grow (redrawn w2 d) os) fun e w'' => e = .returned (.int .i64 2) ∧ Below (grow (redrawn w2 d) os).heap.size (grow (redrawn w2 d) os) w'') := fun d os => C40.out _ (b2.out.trans ((below_regrown w2 d os).mono b2.out.size))
  refine wp_region_quiet_below (by kernel_rfl) (by kernel_rfl) ?_
  repeat (first | (refine quiet_load rfl rfl w.heap.size rfl (.agg cs) L1.out ?_) | quiet_step (first | (go_at_call 40; exact Calls.regrown_of (D40.out _ _))))
  refine wpQuiet_nil ?_
  rintro _ ⟨⟨d, os⟩, rfl⟩
  have b5 : Hid (Below w.heap.size w (grow (redrawn w2 d) os)) := b2.out.trans ((below_regrown w2 d os).mono b2.out.size)
  have g5 : Hid ((grow (redrawn w2 d) os).heap[w.heap.size]? = some (.cells cs 29)) := ((below_regrown w2 d os).block _ (heap_in g2.out)).trans g2.out
  obtain ⟨w5, hw5⟩ : ∃ w5, w5 = grow (redrawn w2 d) os := ⟨_, rfl⟩
  rw [← hw5] at b5 g5 ⊢
  clear hw5 k0 L1 D40
  have e50 : bits .or .i64 48 2 % 256 = 50 := by kernel_rfl
  have hb5a : Below w5.heap.size w5 (w5.alloc (.cells #[.int .u8 50] 5)) := (Below.refl _ _).alloc (Nat.le_refl _) _
  have C42 : Hid (Calls Tryz.prog 42 #[.slice (some ⟨w5.heap.size, 0, none⟩) 1 1, .int .i64 N] (w5.alloc (.cells #[.int .u8 50] 5)) fun e w' => Made (w5.alloc (.cells #[.int .u8 50] 5)) w' e (1 + kn N) (cellsOf (oneZ 50) 1 ++ cellsOf (glZ N) (kn N))) :=
    putLength_in (some ⟨w5.heap.size, 0, none⟩) 1 1 (oneZ 50) N (by omega) (by have := HN2.out; omega) _ (new_came w5 1 (oneZ 50) _ rfl (fun i => by unfold oneZ; split <;> omega)) (by decide)
  go_wp2_with fail
  go_must (go_at_call 42)
  refine C42.out.mono ?_
  rintro e w6 ⟨g, cp, rfl, ho, hb⟩
  have HO : Hid (w6.ownsRow w5.heap.size 5 1 (.slice (some ⟨g, 0, none⟩) (1 + kn N) cp) (1 + kn N) (cellsOf (oneZ 50) 1 ++ cellsOf (glZ N) (kn N))) := own_base ho hb5a.size
  have B6 : Hid (Below w5.heap.size w5 w6) := hb5a.trans (hb.mono hb5a.size)
  have HKN : Hid (1 + kn N ≤ 5) := by show _ ≤ _; have := kn_bd N; omega
  have X6 : Hid (∃ xs, xs = cellsOf (oneZ 50) 1 ++ cellsOf (glZ N) (kn N)) := ⟨_, rfl⟩
  obtain ⟨xs, hxs⟩ := X6.out
  rw [← hxs] at HO
  have HXS : Hid (cellsOf (oneZ 50) 1 ++ cellsOf (glZ N) (kn N) = xs) := hxs.symm
  clear hb ho hb5a C42 e50 hxs X6
  go_wp2_with fail
  go_must (go_at_call 41)
  refine (grow_own w5.heap.size (1 + kn N) N _ xs w6 HO.out (by simp) B6.out.size (by have := HKN.out; omega) (by have := HN2.out; omega)).mono ?_
  rintro e w7 ⟨v7, rfl, o7, n7, gb7, ow7⟩
  have O7 : Hid (w7.ownsRow w5.heap.size 5 1 v7 (1 + kn N) xs) := o7
  have B7 : Hid (Below w5.heap.size w5 w7) := B6.out.trans (gb_below2 gb7 B6.out.size (fun k e => (HO.out.lt k e).1))
  have g7 : Hid (w7.heap[w.heap.size]? = some (.cells cs 29)) := (B7.out.block _ (heap_in g5.out)).trans g5.out
  clear o7 n7 gb7 ow7
  go_wp2_with (first | (refine wpList_load_wanted rfl _ rfl w.heap.size rfl _ (0, 0) g7.out hsz.out ?_) | fail)
  go_must (go_at_call 43)
  refine (C43.out w5 w7 v7 (1 + kn N) xs b5.out O7.out B7.out (by have := HKN.out; omega)).mono ?_
  rintro e w8 ⟨v8, rfl, o8, n8, gb8, ow8⟩
  have O8 : Hid (w8.ownsRow w.heap.size 5 1 v8 (1 + kn N + (2 + p.mT.size) + 2 + p.mP.n) (xs ++ T ++ I ++ P)) := own_base o8 b5.out.size
  have N8 : Hid (v8 ≠ .slice none 0 0) := n8
  have B8 : Hid (Below w.heap.size w w8) := by
    have h1 : Below w5.heap.size w5 w8 := B7.out.trans (gb_below2 gb8 B7.out.size (fun k e => (O7.out.lt k e).1))
    exact b5.out.trans (h1.mono b5.out.size)
  clear o8 n8 gb8 ow8
  go_wp2_with fail
  go_ret2
  exact ⟨v8, rfl, by rw [HXS.out]; exact O8.out, N8.out, B8.out⟩
end Go.Proofs.YtibihbclijpkjaaGreatDoor
