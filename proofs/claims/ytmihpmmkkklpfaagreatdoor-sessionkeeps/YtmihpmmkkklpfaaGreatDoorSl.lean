import Derived.Test.YtmihpmmkkklpfaaGreatDoorSh
import Derived.Test.YtmihpmmkkklpfaaGreatDoorSb
import Derived.Test.YtmihpmmkkklpfaaGreatDoorOa
import Derived.Maps.RangeWalk
import Derived.LoopN
namespace Go.Proofs.YtmihpmmkkklpfaaGreatDoor
open Go Go.RowKit Go.Shelf Go.Maps Go.Sort
set_option linter.unusedSimpArgs false
set_option linter.unusedVariables false
/-! ### New -/
set_option maxRecDepth 100000 in
set_option maxHeartbeats 4000000 in
theorem snew_any {w : World} (g : Gd w) (k : ByteArray) (la l0 : Bool) (c1 n q s c5 c6 c7 c8 : Int) (ua : Option Addr) (un uc : Nat) (hk : k.size ≤ 1000000) :
    Calls Tryz.prog 7 #[.string k, .bool la, .agg #[.bool l0, .int .i64 c1, .int .i64 n, .int .i64 q, .int .i64 s, .int .i64 c5, .int .i64 c6, .int .i64 c7, .int .i64 c8, .slice ua un uc]] w fun e w' => ∃ sb wb, e = .returned (.pointer (some ⟨sb, 0, none⟩)) ∧ SsAt w' sb wb k la (min (max s 0) 65536) (.map none) (.map none) ∧ KS (fun j => j < w.heap.size) w' wb ⟨mostOf n, queueOf q, false, 0, [], [], []⟩ 0 ∧ Below w.heap.size w w' ∧ w.heap.size ≤ sb := by
  obtain ⟨w1, hw1⟩ : ∃ w1, w1 = w.alloc (.cells #[.bool l0, .int .i64 c1, .int .i64 n, .int .i64 q, .int .i64 s, .int .i64 c5, .int .i64 c6, .int .i64 c7, .int .i64 c8, .slice ua un uc] 24) := ⟨_, rfl⟩
  have x1 := heap_alloc_new w (.cells #[.bool l0, .int .i64 c1, .int .i64 n, .int .i64 q, .int .i64 s, .int .i64 c5, .int .i64 c6, .int .i64 c7, .int .i64 c8, .slice ua un uc] 24)
  have b1 : Below w.heap.size w (w.alloc (.cells #[.bool l0, .int .i64 c1, .int .i64 n, .int .i64 q, .int .i64 s, .int .i64 c5, .int .i64 c6, .int .i64 c7, .int .i64 c8, .slice ua un uc] 24)) := (Below.refl _ _).alloc (Nat.le_refl _) _
  rw [← hw1] at x1 b1
  have e2 := box_cells x1 2 _ rfl
  have e3 := box_cells x1 3 _ rfl
  have e4 := box_cells x1 4 _ rfl
  have NW := hidi (ks_new n q w1.drew (g.below b1.drew))
  have CL := hidi (fun w => sclone_any k w hk)
  obtain ⟨m1, hm1⟩ : ∃ m1, max s 0 = m1 := ⟨_, rfl⟩
  obtain ⟨m2, hm2⟩ : ∃ m2, min m1 65536 = m2 := ⟨_, rfl⟩
  have HM := hidi (show min (max s 0) 65536 = m2 by rw [hm1, hm2])
  have H := hidi (And.intro x1 b1)
  clear x1 b1 g hk
  go_enter Tryz.func7, Tryz.ntmps7
  go_upto_region 1 with fail
  rw [← hw1]
  clear hw1
  go_region_held_law (fun w' => w'.cell? ⟨w.heap.size, 2, none⟩ = some (.int .i64 n) ∧ w'.cell? ⟨w.heap.size, 3, none⟩ = some (.int .i64 q) ∧ w'.cell? ⟨w.heap.size, 4, none⟩ = some (.int .i64 s)) (first | exact ⟨e2, e3, e4⟩ | go_keep) (first
    | (go_at_call 33; refine NW.out.mono ?_; clear NW; rintro e w2 ⟨rfl, k2, hb2⟩; have HK := hidi k2; have HB2 := hidi ((Below.refl w1.heap.size w1).drew.trans hb2); clear e2 e3 e4 k2 hb2; have x2 := later_at H.out.1 HB2.out; have e2 := box_cells x2 2 _ rfl; have e3 := box_cells x2 3 _ rfl; have e4 := box_cells x2 4 _ rfl; clear x2)
    | (go_at_call 34; refine (CL.out _).mono ?_; clear CL; rintro e w3 ⟨rfl, hb3⟩; have HB3 := hidi (HB2.out.trans (hb3.mono HB2.out.size)); have HK3 := hidi (HK.out.below hb3); clear e2 e3 e4 hb3; have x3 := later_at H.out.1 HB3.out; have e2 := box_cells x3 2 _ rfl; have e3 := box_cells x3 3 _ rfl; have e4 := box_cells x3 4 _ rfl; clear x3))
  all_goals go_wp2_with fail
  all_goals go_ret
  all_goals rw [HM.out]
  all_goals have hB3 := H.out.2.trans (HB3.out.mono H.out.2.size)
  all_goals have hA : Below w3.heap.size w3 (w3.alloc (.cells #[.pointer (some ⟨w1.heap.size, 0, none⟩), .string k, .bool la, .int .i64 m2, .map none, .map none] 56)) := (Below.refl _ _).alloc (Nat.le_refl _) _
  all_goals exact ⟨w3.heap.size, w1.heap.size, rfl, heap_alloc_new w3 _, (HK3.out.below hA).less (fun j hj => Nat.lt_of_lt_of_le hj H.out.2.size), hB3.trans (hA.mono hB3.size), hB3.size⟩
end Go.Proofs.YtmihpmmkkklpfaaGreatDoor
namespace Go.Proofs.YtmihpmmkkklpfaaGreatDoor
open Go Go.RowKit Go.Shelf Go.Maps Go.Sort
set_option linter.unusedSimpArgs false
set_option linter.unusedVariables false
/-! ### Deliver -/
section
variable {F : Nat → Prop} {W : World} {sb wb : Nat} {p : Pw} {c : Nat} {k : ByteArray} {la : Bool} {mo : Int} {sv nv : Value}
set_option maxRecDepth 100000 in
set_option maxHeartbeats 4000000 in
theorem deliver_any (h : KS F W wb p c) (hs : SsAt W sb wb k la mo sv nv) (hc : c + 1 ≤ 200000) (t : ByteArray) (v : Value) (q : Int) (r : Bool) (xs : List Int) (hp : PBi W v xs) (ht : t.size ≤ 1000000) (hq : (q != 0) = true) :
    Calls Tryz.prog 16 #[.pointer (some ⟨sb, 0, none⟩), .agg #[.string t, v, .int .i64 q, .bool r]] W fun e w' => ∃ v', e = .returned (.tuple #[v', .bool (pSend p ⟨t, q, r, xs⟩).2.2.1]) ∧ KS F w' wb (pSend p ⟨t, q, r, xs⟩).1 (c + 1) ∧ Fr F W w' ∧ KO W w' ∧ Lst w' v' (pSend p ⟨t, q, r, xs⟩).2.1 := by
  obtain ⟨pa, pn, pc, rfl⟩ := hp.sl
  obtain ⟨w1, hw1⟩ : ∃ w1, w1 = W.alloc (.cells #[.string t, .slice pa pn pc, .int .i64 q, .bool r] 45) := ⟨_, rfl⟩
  have x1 := heap_alloc_new W (.cells #[.string t, .slice pa pn pc, .int .i64 q, .bool r] 45)
  have b1 : Below W.heap.size W (W.alloc (.cells #[.string t, .slice pa pn pc, .int .i64 q, .bool r] 45)) := (Below.refl _ _).alloc (Nat.le_refl _) _
  rw [← hw1] at x1 b1
  have hl1 : W.heap.size < w1.heap.size := (Array.getElem?_eq_some_iff.1 x1).1
  have SD := hidi (kx_send (W := w1.drew) (h.add b1.drew (Nat.le_refl _) hl1) hc t (.slice pa pn pc) q r xs (hp.below b1.drew) ht)
  obtain ⟨P, hP⟩ : ∃ P, P = pSend p ⟨t, q, r, xs⟩ := ⟨_, rfl⟩
  rw [← hP] at SD ⊢
  obtain ⟨p', X, ok, en⟩ := P
  simp only at SD ⊢
  clear hP
  have e0 := box_cells x1 0 _ rfl
  have e1 := box_cells x1 1 _ rfl
  have e2 := box_cells x1 2 _ rfl
  have e3 := box_cells x1 3 _ rfl
  have s1 := hs.below b1
  have a0 : w1.cell? ⟨sb, 0, none⟩ = some (.pointer (some ⟨wb, 0, none⟩)) := box_cells s1 0 _ rfl
  have H := hidi (And.intro x1 (And.intro b1 s1))
  clear h hs hc hp ht x1 b1 s1
  go_enter Tryz.func16, Tryz.ntmps16
  go_upto_region 1 with fail
  rw [← hw1]
  clear hw1
  go_upto_region 2 with fail
  go_region_held_law (fun w' => w'.cell? ⟨sb, 0, none⟩ = some (.pointer (some ⟨wb, 0, none⟩)) ∧ w'.cell? ⟨W.heap.size, 0, none⟩ = some (.string t) ∧ w'.cell? ⟨W.heap.size, 1, none⟩ = some (.slice pa pn pc) ∧ w'.cell? ⟨W.heap.size, 2, none⟩ = some (.int .i64 q) ∧ w'.cell? ⟨W.heap.size, 3, none⟩ = some (.bool r)) (first | exact ⟨a0, e0, e1, e2, e3⟩ | go_keep) (first
    | (go_at_call 49; refine SD.out.mono ?_; clear SD; rintro e w2 ⟨v', rfl, k2, r2, o2, l2⟩; have HO := hidi (And.intro k2 (And.intro r2 (And.intro o2 l2))); have s2 : SsAt w2 sb wb k la mo sv nv := o2 _ _ H.out.2.2 ⟨_, 56, _, rfl, by decide, by decide, by decide⟩; have x2 : w2.heap[W.heap.size]? = some (.cells #[.string t, .slice pa pn pc, .int .i64 q, .bool r] 45 (0, 0)) := (r2.at (.inr rfl) hl1).trans H.out.1; clear a0 e0 e1 e2 e3 k2 r2 o2 l2; have e0 := box_cells x2 0 _ rfl; have e1 := box_cells x2 1 _ rfl; have e2 := box_cells x2 2 _ rfl; have e3 := box_cells x2 3 _ rfl; have a0 : w2.cell? ⟨sb, 0, none⟩ = some (.pointer (some ⟨wb, 0, none⟩)) := box_cells s2 0 _ rfl; clear s2 x2))
  all_goals go_wp2_with fail
  all_goals go_ret2
  all_goals exact ⟨v', rfl, HO.out.1.less (fun j hj => .inl hj), (Fr.below H.out.2.1.drew).trans (HO.out.2.1.mono (fun j hj => .inl hj)), (KO.below H.out.2.1.drew).trans HO.out.2.2.1, HO.out.2.2.2⟩
end
end Go.Proofs.YtmihpmmkkklpfaaGreatDoor
namespace Go.Proofs.YtmihpmmkkklpfaaGreatDoor
open Go Go.RowKit Go.Shelf Go.Maps Go.Sort
set_option linter.unusedSimpArgs false
set_option linter.unusedVariables false
attribute [local go_sem] Oper.semAt_some
/-! ### Keys of no map -/
set_option maxHeartbeats 1000000 in
theorem mkeys_nil (w : World) : Calls Tryz.prog 37 #[.map none] w fun e w' => e = .returned (.func (.func 63) #[] #[.pointer (some ⟨w.heap.size, 0, none⟩)]) ∧ w' = w.alloc (.cells #[.map none] 54) := by
  go_enter Tryz.func37, Tryz.ntmps37
  go_wp2
  go_ret
  exact ⟨rfl, rfl⟩
set_option maxRecDepth 100000 in
set_option maxHeartbeats 4000000 in
theorem keys1_nil (F : Fence) (n : Nat) (h8 : F.fn 63) (hro : F.round = none) (l Bm : Nat) (J : List Int → World → Prop) (W : World) (hJ : AbidesFrom W.heap.size J) (hm : W.cell? ⟨Bm, 0, none⟩ = some (.map none)) (h0 : J [] W) :
    CallsIn F n Tryz.prog 63 #[.func (.yield l) #[] #[], .pointer (some ⟨Bm, 0, none⟩)] W fun e W' => (∃ v, e = .returned v) ∧ J [] W' := by
  refine callsIn_of_wp Tryz.func63 rfl h8 ?_ hro
  simp only [Tryz.ntmps63, List.size_toArray, List.length_cons, List.length_nil, Nat.reduceAdd, Nat.reduceSub, Array.replicate_succ, Array.replicate_zero, List.push_toArray, List.append_toArray, List.nil_append, List.cons_append]
  have hrg := run_range_nilMap (P := Tryz.prog) W 54 3 88 Tryz.underlying54
  have hnx : ∀ ty, (Instr.next (.pointer (some ⟨W.heap.size, 0, none⟩)) false ty).run Tryz.prog (W.alloc (.mapIter none 0 #[] 0)) = _ := fun ty => run_next_nilMap _ ty 0 0 #[]
  gi_wp2
  refine wpIn_loop_rounds 1 ?_
  rw [roundsIn_succ]
  gi_wp2
  go_end0
  exact ⟨⟨_, rfl⟩, hJ [] W _ none h0 (World.grownBy_alloc W _ none) (fun r e => by cases e)⟩
theorem kstops_nil (F : Fence) (n : Nat) (h8 : F.fn 63) (hro : F.round = none) (Bm : Nat) (w : World) (hBm : Bm < w.heap.size) (hm : w.cell? ⟨Bm, 0, none⟩ = some (.map none)) :
    SeqStopsK F n Tryz.prog 63 #[.pointer (some ⟨Bm, 0, none⟩)] (fun x : Int => #[.int .i64 x]) KeepsWalks (fun ps => ps = []) (fun _ => True) 0 w := by
  intro l J Jx W hW hJ _ hY h0
  refine (keys1_nil F n h8 hro l Bm J W hJ ((hW.cell (p := ⟨Bm, 0, none⟩) hBm).trans hm) h0).mono ?_
  rintro e W' ⟨he, hj⟩
  exact ⟨he, .inl ⟨[], rfl, hj⟩⟩
theorem info3 : (Tryz.prog.info? 3).map (fun i => (i.zero, i.size, i.bytes)) = some (some (.int .i64 0), 1, 8) := by kernel_rfl
def intsV (ps : List Int) : List Value := ps.map (fun p => .int .i64 p)
set_option maxRecDepth 100000 in
set_option maxHeartbeats 4000000 in
theorem kappseq_nil (Bm : Nat) (w : World) (hBm : Bm < w.heap.size) (hm : w.cell? ⟨Bm, 0, none⟩ = some (.map none)) :
    Calls Tryz.prog 87 #[.slice none 0 0, .func (.func 63) #[] #[.pointer (some ⟨Bm, 0, none⟩)]] w fun e w' => ∃ a c, e = .returned (.slice a 0 c) ∧ Below w.heap.size w w' := by
  obtain ⟨i0, hi, hz0, hz1, hz2⟩ := info_parts info3
  have HB : Hid (w.cell? ⟨Bm, 0, none⟩ = some (.map none)) := hm
  clear hm
  refine (callsIn_wide (n := 5)).1 ?_
  refine callsIn_of_wp_marks Tryz.func87 rfl trivial ?_ rfl
  simp only [Tryz.ntmps87, List.size_toArray, List.length_cons, List.length_nil, Nat.reduceAdd, Nat.reduceSub, Array.replicate_succ, Array.replicate_zero, List.push_toArray, List.append_toArray, List.nil_append, List.cons_append]
  gi_wp2
  have bO := Boxed.new w 32 (.slice none 0 0)
  have hB0 : Below w.heap.size w (w.alloc (.cells #[.slice none 0 0] 32)) := (Below.refl _ _).alloc (Nat.le_refl _) _
  refine wpIn_rangeFunc_ownG rfl (by omega) (gf := 63) (lb := #[.pointer (some ⟨Bm, 0, none⟩)]) rfl trivial (enters_of Tryz.func63 (by kernel_rfl) rfl)
    (kstops_nil Fence.wide _ trivial rfl Bm _ (by simp; omega) ((hB0.cell (p := ⟨Bm, 0, none⟩) hBm).trans HB.out)) walksK_t walksK_b (Below.refl _ _) (fun _ => rfl)
    (fun pre W => (∃ v, Boxed W w.heap.size 32 v ∧ W.ownsRow w.heap.size 3 1 v pre.length (intsV pre) ∧ True) ∧ Below w.heap.size w W)
    (fun _ _ _ => False)
    (OwnFrom.and (Own.from (holdsRow_own w.heap.size w.heap.size 32 3 1 (fun (pre : List Int) => pre.length) (fun (pre : List Int) => intsV pre) (fun _ _ => True)) _) (ownFrom_below (Nat.le_refl _) (by simp)))
    (fun _ _ _ _ _ hs _ _ => hs)
    ⟨⟨_, bO, World.ownsRow_nil _ _ _ _, trivial⟩, hB0⟩
    (fun x => { tmps := #[.slice none 0 0, .func (.func 63) #[] #[.pointer (some ⟨Bm, 0, none⟩)], .pointer (some ⟨w.heap.size, 0, none⟩), undef, .slice none 0 0, .int .i64 x, .func (.func 63) #[] #[.pointer (some ⟨Bm, 0, none⟩)], .int .i64 x, undef, undef, undef, undef, undef], defers := [] }) ?assign ?body ?done ?stop
  case assign =>
    intro l x W K hK
    gi_wp2
    exact hK
  case body =>
    rintro l pre x W ⟨⟨v, hv', hrow, -⟩, hB⟩ hlt
    omega
  case done =>
    rintro D ys W hD hA ⟨⟨v, hv', hrow, -⟩, hB⟩ hK
    have hc := hv'.cell
    gi_wp2
    refine ⟨by simp, .inl ⟨_, _, rfl, run_takeDeferred hK, ?_⟩⟩
    subst hA
    obtain ⟨va, vc, rfl⟩ := own_sl hrow
    refine ⟨_, results_tmp rfl _ _ _, va, vc, rfl, hB.trans (belowK_b (w := w) (Nat.le_refl _) W D _ _ (by simp at hD; omega) hK rfl rfl)⟩
  case stop =>
    rintro D c pre W _ _ h _
    exact h.elim
set_option maxHeartbeats 1000000 in
theorem kcollect_nil (Bm : Nat) (w : World) (hBm : Bm < w.heap.size) (hm : w.cell? ⟨Bm, 0, none⟩ = some (.map none)) :
    Calls Tryz.prog 61 #[.func (.func 63) #[] #[.pointer (some ⟨Bm, 0, none⟩)]] w fun e w' => ∃ a c, e = .returned (.slice a 0 c) ∧ Below w.heap.size w w' := by
  have A := kappseq_nil Bm w hBm hm
  clear hBm hm
  go_enter Tryz.func61, Tryz.ntmps61
  go_wp2_with (go_at_call 87; refine A.mono ?_; clear A; rintro e w' ⟨a, c, rfl, hb⟩)
  go_ret
  exact ⟨a, c, rfl, hb⟩
/-! ### Sorting nothing, and one -/
theorem insO_none (p : Option Addr) (cap : Nat) (w : World) : Calls Tryz.prog 117 #[.slice p 0 cap, .int .i64 0, .int .i64 0] w fun e w' => e = .returned (.tuple #[]) ∧ w' = w := by
  go_enter Tryz.func117, Tryz.ntmps117
  go_wp2
  refine wp_loop_rounds 1 ?_
  rw [rounds_succ]
  go_wp2
  go_end0
  exact ⟨rfl, rfl⟩
theorem pdqO_none (p : Option Addr) (cap : Nat) (lim : Int) (w : World) : Calls Tryz.prog 88 #[.slice p 0 cap, .int .i64 0, .int .i64 0, .int .i64 lim] w fun e w' => e = .returned (.tuple #[]) ∧ w' = w := by
  go_enter Tryz.func88, Tryz.ntmps88
  go_wp2
  refine wp_loop_rounds 1 ?_
  rw [rounds_succ]
  go_wp2_with (go_at_call 117; refine (insO_none _ _ _).mono ?_; rintro e w' ⟨rfl, rfl⟩)
  (try simp only [Exit.inBlock, Exit.then]); refine bodyPost_ret (results_none rfl _ _ _) rfl ?_
  exact ⟨rfl, rfl⟩
theorem sortO_none (p : Option Addr) (cap : Nat) (w : World) : Calls Tryz.prog 62 #[.slice p 0 cap] w fun e w' => e = .returned (.tuple #[]) ∧ w' = w := by
  have hl := Tryz.bits_Len 0 w (by omega) (by omega)
  go_enter Tryz.func62, Tryz.ntmps62
  go_wp2_with (first | (go_at_call 85; refine hl.mono ?_; rintro e w' ⟨rfl, rfl⟩) | (go_at_call 88; refine (pdqO_none _ _ _ _).mono ?_; rintro e w' ⟨rfl, rfl⟩))
  go_end0
  exact ⟨rfl, rfl⟩
set_option maxHeartbeats 1000000 in
theorem ksorted_nil (Bm : Nat) (w : World) (hBm : Bm < w.heap.size) (hm : w.cell? ⟨Bm, 0, none⟩ = some (.map none)) :
    Calls Tryz.prog 36 #[.func (.func 63) #[] #[.pointer (some ⟨Bm, 0, none⟩)]] w fun e w' => ∃ a c, e = .returned (.slice a 0 c) ∧ Below w.heap.size w w' := by
  have A := kcollect_nil Bm w hBm hm
  clear hBm hm
  go_enter Tryz.func36, Tryz.ntmps36
  go_wp2_with (first | (go_at_call 61; refine A.mono ?_; clear A; rintro e w' ⟨a, c, rfl, hb⟩) | (go_at_call 62; refine (sortO_none _ _ _).mono ?_; rintro e w'' ⟨rfl, rfl⟩))
  go_ret
  exact ⟨a, c, rfl, hb⟩
theorem insA_one (p : Option Addr) (n cap : Nat) (hn : n ≤ 1) (fv : Value) (w : World) : Calls Tryz.prog 106 #[.slice p n cap, .int .i64 0, .int .i64 (n : Int), fv] w fun e w' => e = .returned (.tuple #[]) ∧ w' = w := by
  have hlt : ¬ (1 : Int) < (n : Int) := by omega
  go_enter Tryz.func106, Tryz.ntmps106
  go_wp2
  refine wp_loop_rounds 1 ?_
  rw [rounds_succ]
  go_wp2
  go_end0
  exact ⟨rfl, rfl⟩
theorem pdqA_one (p : Option Addr) (n cap : Nat) (hn : n ≤ 1) (lim : Int) (fv : Value) (w : World) : Calls Tryz.prog 84 #[.slice p n cap, .int .i64 0, .int .i64 (n : Int), .int .i64 lim, fv] w fun e w' => e = .returned (.tuple #[]) ∧ w' = w := by
  have hle : (n : Int) ≤ 12 := by omega
  have hsb : IntKind.i64.wrap ((n : Int) - 0) = (n : Int) := by rw [IntKind.wrap_i64]; omega
  have hsb' : IntKind.i64.wrap (n : Int) = (n : Int) := by rw [IntKind.wrap_i64]; omega
  have IN := hidi (fun w => insA_one p n cap hn fv w)
  go_enter Tryz.func84, Tryz.ntmps84
  go_wp2
  refine wp_loop_rounds 1 ?_
  rw [rounds_succ]
  go_wp2_with (go_at_call 106; refine (IN.out _).mono ?_; rintro e w' ⟨rfl, rfl⟩)
  (try simp only [Exit.inBlock, Exit.then]); refine bodyPost_ret (results_none rfl _ _ _) rfl ?_
  exact ⟨rfl, rfl⟩
theorem sortA_one (p : Option Addr) (n cap : Nat) (hn : n ≤ 1) (fv : Value) (w : World) : Calls Tryz.prog 55 #[.slice p n cap, fv] w fun e w' => e = .returned (.tuple #[]) ∧ w' = w := by
  have hl := Tryz.bits_Len (n : Int) w (by omega) (by omega)
  have hcv : IntKind.u64.wrap (n : Int) = (n : Int) := by rw [IntKind.wrap_u64]; omega
  have PD := hidi (fun lim w => pdqA_one p n cap hn lim fv w)
  go_enter Tryz.func55, Tryz.ntmps55
  go_wp2_with (first | (go_at_call 85; refine hl.mono ?_; rintro e w' ⟨rfl, rfl⟩) | (go_at_call 84; refine (PD.out _ _).mono ?_; rintro e w' ⟨rfl, rfl⟩))
  go_end0
  exact ⟨rfl, rfl⟩
end Go.Proofs.YtmihpmmkkklpfaaGreatDoor
namespace Go.Proofs.YtmihpmmkkklpfaaGreatDoor
open Go Go.RowKit Go.Shelf Go.Maps Go.Sort
set_option linter.unusedSimpArgs false
set_option linter.unusedVariables false
/-! ### Subs -/
theorem info42 : (Tryz.prog.info? 42).map (fun i => (i.zero, i.size, i.bytes)) = some (some (.agg #[.string ⟨#[]⟩, .int .i64 0]), 2, 24) := by kernel_rfl
theorem make42 (w : World) (n : Nat) (hn : n ≤ 1) : ∃ wm, (Instr.makeSlice 27 (.int .i64 0) (.int .i64 (n : Int))).run Tryz.prog w = .ok (.slice (some ⟨w.heap.size, 0, none⟩) 0 n) wm ∧ wm.ownsRow w.heap.size 42 2 (.slice (some ⟨w.heap.size, 0, none⟩) 0 n) 0 [] ∧ Below w.heap.size w wm := by
  obtain ⟨i0, hi, hz0, hz1, hz2⟩ := info_parts info42
  obtain ⟨wm, hmk, hmo, hmg⟩ := run_make_own (P := Tryz.prog) w w.heap.size 27 42 i0 _ 2 Tryz.underlying27 hi hz0 hz1 .i64 .i64 n (by rw [hz2]; omega) (by unfold maxLen; omega) (Nat.le_refl _)
  exact ⟨wm, hmk, hmo, ⟨hmg.os, hmg.tape, hmg.output, hmg.size, fun j hj => hmg.block j hj (by simp)⟩⟩
section
variable {W : World} {sb wb : Nat} {k : ByteArray} {la : Bool} {mo : Int} {sv nv : Value}
set_option maxRecDepth 100000 in
set_option maxHeartbeats 4000000 in
theorem subs_nil (h : SsAt W sb wb k la mo (.map none) nv) : Calls Tryz.prog 29 #[.pointer (some ⟨sb, 0, none⟩)] W fun e w' => ∃ a c, e = .returned (.slice a 0 c) ∧ Below W.heap.size W w' := by
  have a4 : W.cell? ⟨sb, 4, none⟩ = some (.map none) := box_cells h 4 _ rfl
  have hlen : ∀ ty, (Builtin.len_ #[53] ty #[.map none]).run Tryz.prog W = .ok (.int .i64 0) W := fun ty => Maps.len_nil Tryz.underlying53 ty
  obtain ⟨wm, hmk, -, hbm⟩ := make42 W 0 (by omega)
  have c4 : wm.cell? ⟨sb, 4, none⟩ = some (.map none) := box_cells (h.below hbm) 4 _ rfl
  have hrg := run_range_nilMap (P := Tryz.prog) wm 53 9 3 Tryz.underlying53
  have hnx : ∀ ty, (Instr.next (.pointer (some ⟨wm.heap.size, 0, none⟩)) false ty).run Tryz.prog (wm.alloc (.mapIter none 0 #[] 0)) = _ := fun ty => run_next_nilMap _ ty 0 0 #[]
  have HB := hidi hbm
  have SO := hidi (fun w => sortA_one (some ⟨W.heap.size, 0, none⟩) 0 0 (by omega) (.func (.func 56) #[] #[]) w)
  clear h hbm
  simp only [Int.natCast_zero] at hmk
  go_enter Tryz.func29, Tryz.ntmps29
  go_wp2_with fail
  refine wp_loop_rounds 1 ?_
  rw [rounds_succ]
  go_wp2_with (go_at_call 55; refine (SO.out _).mono ?_; rintro e w' ⟨rfl, rfl⟩)
  go_ret
  exact ⟨_, _, rfl, HB.out.alloc (HB.out.size) _⟩
end
/-! ### A message -/
set_option maxRecDepth 100000 in
set_option maxHeartbeats 1000000 in
theorem msg_any (q : Int) (w : World) : Calls Tryz.prog 28 #[.int .i64 q] w fun e w' => ∃ b, e = .returned (.agg #[.string ⟨#[116]⟩, .slice (some ⟨b, 0, none⟩) 1 1, .int .i64 q, .bool false]) ∧ PBi w' (.slice (some ⟨b, 0, none⟩) 1 1) [7] ∧ Below w.heap.size w w' := by
  go_enter Tryz.func28, Tryz.ntmps28
  go_wp2_with fail
  have T := two_alloc w (.cells #[.string ⟨#[116]⟩, .slice (some ⟨w.heap.size + 1, 0, none⟩) 1 1, .int .i64 q, .bool false] 45) (.cells #[.int .u8 7] 5)
  refine bodyPost_ret (results_cell_row rfl _ _ _ _ _ _ _ rfl T.1 Tryz.underlying45 rfl (by kernel_rfl)) rfl ⟨_, rfl, ?_, two_below w _ _⟩
  refine .inr ⟨_, 1, 1, rfl, rfl, Nat.le_refl _, fun i hi => ?_⟩
  have hi0 : i = 0 := by omega
  subst hi0
  exact box_cells T.2.1 0 _ rfl
/-! ### Subs of one -/
section
variable {W : World} {sb wb : Nat} {k : ByteArray} {la : Bool} {mo : Int} {sv nv : Value}
set_option maxRecDepth 100000 in
set_option maxHeartbeats 4000000 in
theorem subs_one {mb : Nat} {f : ByteArray → Option Value} {fl : ByteArray} {q : Int} (h : SsAt W sb wb k la mo (.map (some mb)) nv) (hm : MG W (.map (some mb)) 1 f) (hfs : fl.size ≤ 1000000) (hf : f fl = some (.int .i64 q)) (ho : ∀ x, x ≠ fl → f x = none) :
    Calls Tryz.prog 29 #[.pointer (some ⟨sb, 0, none⟩)] W fun e w' => ∃ g c, e = .returned (.slice (some ⟨g, 0, none⟩) 1 c) ∧ w'.cell? ⟨g, 0, none⟩ = some (.string fl) ∧ w'.cell? ⟨g, 1, none⟩ = some (.int .i64 q) ∧ Below W.heap.size W w' := by
  have a4 : W.cell? ⟨sb, 4, none⟩ = some (.map (some mb)) := box_cells h 4 _ rfl
  have hlen := fun ty => hm.len (t := 53) Tryz.underlying53 ty
  obtain ⟨wm, hmk, hmo, hbm⟩ := make42 W 1 (by omega)
  have c4 : wm.cell? ⟨sb, 4, none⟩ = some (.map (some mb)) := box_cells (h.below hbm) 4 _ rfl
  have hmm := hm.keep (w' := wm) (fun b e => hbm.block b (hm.lt e))
  rcases hmm with ⟨z, _⟩ | ⟨mb', D, z, hown, hsz, hD⟩
  · cases z
  cases z
  have HB := hidi (And.intro hbm hmo)
  have HD := hidi hD
  have HF := hidi (And.intro hf (And.intro ho hfs))
  have hmbl : mb < W.heap.size := hm.lt rfl
  have SO := hidi (fun (c : Nat) (g : Nat) w => sortA_one (some ⟨g, 0, none⟩) 1 c (by omega) (.func (.func 56) #[] #[]) w)
  clear h hbm hm hD hf ho hfs hmo
  simp only [Int.natCast_one] at hmk hlen
  obtain ⟨i0, hi, hz0, hz1, hz2⟩ := info_parts info42
  go_enter Tryz.func29, Tryz.ntmps29
  go_wp2_with (at_range; refine wpList_range_own _ rfl _ 53 rfl 9 3 law9 Tryz.underlying53 hv mb 1 D rfl hown ?_; intro w0 hrg0 hg0 hs0)
  rw [hsz] at hrg0
  refine wp_loop_rounds 2 ?_
  rw [rounds_succ]
  go_wp2_with (at_next; refine wpList_next_ranges _ rfl _ rfl 9 law9 hv Value.string (fun v : Value => v) (fun key kl hk => by obtain ⟨x, hx, _⟩ := Go.WideMaps.string_of_keyOf Tryz.underlying9 hk; exact ⟨x, hx⟩) (fun v y _ => ⟨v, rfl⟩) mb _ 1 D _ _ rfl hrg0 ?_ ?_)
  · intro x c kl yd yp w2 cnt2 hkey hlk hvv hat hrg2 hc2 hg2 hs2 hen
    obtain ⟨x', ex, rfl, hwx⟩ := Go.WideMaps.string_of_keyOf Tryz.underlying9 hkey
    cases ex
    subst hc2
    have hyd : yd = .held c := by simp [hv] at hvv; exact hvv.1.symm
    subst hyd
    have hx : x = fl := by
      refine Classical.byContradiction fun z => ?_
      have := (HD.out x hwx).1
      rw [HF.out.2.1 x z] at this
      rw [show Maps.has D (kt x) = true from hlk] at this
      cases this
    subst hx
    have hcv : c = .int .i64 q := by
      have h1 := hat (.held c)
      have h2 := (HD.out x hwx).2 _ HF.out.1 (.held c)
      rw [show D.atKey (kt x) (.held c) = _ from h1] at h2
      injection h2
    subst hcv
    have b2 : Below W.heap.size W w2 := by
      have g0 : Below wm.heap.size wm w0 := ⟨hg0.os, hg0.tape, hg0.output, hg0.size, fun j hj => hg0.block j hj (by simp)⟩
      have g2 : Below wm.heap.size w0 w2 := ⟨hg2.os, hg2.tape, hg2.output, hg2.size, fun j hj => hg2.block j (Nat.lt_of_lt_of_le hj hg0.size) (by simp; omega)⟩
      exact HB.out.1.trans ((g0.trans g2).mono HB.out.1.size)
    have o2 : w2.ownsRow W.heap.size 42 2 (.slice (some ⟨W.heap.size, 0, none⟩) 0 1) 0 [] := by
      have l0 : W.heap.size < wm.heap.size := by
        obtain ⟨cur, e⟩ := own_lt HB.out.2 (g := W.heap.size) rfl
        exact (Array.getElem?_eq_some_iff.1 e).1
      refine own_ch (own_ch HB.out.2 (ch_grown hg0) (fun g hg q => by simp at q)) (ch_grown hg2) (fun g hg q => ?_)
      simp [Value.ownBlock] at hg
      simp at q
      omega
    obtain ⟨g', cap', w3, k1, k2, k3, k4⟩ := app_gen (st := 27) (e := 42) (cs := #[.string x, .int .i64 q]) Tryz.underlying27 info42 rfl (by omega) (by omega) (own0 o2) rfl (by simp [Value.oneCell']) (by omega)
    have l0 : W.heap.size < wm.heap.size := by
      obtain ⟨cur, e⟩ := own_lt HB.out.2 (g := W.heap.size) rfl
      exact (Array.getElem?_eq_some_iff.1 e).1
    have hrg3 : w3.ranges Tryz.prog 9 hv mb wm.heap.size 1 D (fun z => Maps.has D z && !z.sameKey (kt x)) 0 := by
      obtain ⟨es, clock, since, seen, c0, r1, r2, r3, r4, r5, r6⟩ := hrg2
      refine ⟨es, clock, since, seen, c0, (k3.block mb (Array.getElem?_eq_some_iff.1 r1).1 ?_).trans r1, r2, r3, r4, (k3.block _ (Array.getElem?_eq_some_iff.1 r5).1 ?_).trans r5, r6⟩
      · simp [Value.ownBlock]; omega
      · simp [Value.ownBlock]; omega
    have b3 : Below W.heap.size W w3 := ⟨k3.os.trans b2.os, k3.tape.trans b2.tape, k3.output.trans b2.output, Nat.le_trans b2.size k3.size, fun j hj => (k3.block j (Nat.lt_of_lt_of_le hj b2.size) (by simp [Value.ownBlock]; omega)).trans (b2.block j hj)⟩
    have HR := hidi k1
    have HO := hidi (And.intro k2 b3)
    clear b2 o2 hkey hlk hvv hat hg2 hs2 hwx k1 k2 k3 k4 b3 hrg2
    go_wp2_with (at_builtin; refine Lib.wpList_append_run _ rfl (.tmp 22) (.tmp 26) 27 27 rfl _ _ rfl rfl _ w3 HR.out ?_)
    rw [rounds_succ]
    go_wp2_with (at_next; refine wpList_next_ranges _ rfl _ rfl 9 law9 hv Value.string (fun v : Value => v) (fun key kl hk => by obtain ⟨x, hx, _⟩ := Go.WideMaps.string_of_keyOf Tryz.underlying9 hk; exact ⟨x, hx⟩) (fun v y _ => ⟨v, rfl⟩) mb _ 1 D _ _ rfl hrg3 ?_ ?_)
    intro _
    go_wp2_with (go_at_call 55; refine (SO.out _ _ _).mono ?_; rintro e w' ⟨rfl, rfl⟩)
    go_ret
    rcases HO.out.1.2 with ⟨q1, _⟩ | ⟨gg, cc, cur, q1, q2, q3, q4, q5, q6, q7⟩
    · cases q1
    · cases q1
      have hx : ∀ j v, j < 2 → #[Value.string x, Value.int .i64 q][j]? = some v → cur[j]? = some v := fun j v hj hv => by
        have := congrArg (fun l => l[j]?) q7
        simp only [List.getElem?_take, List.nil_append, Nat.zero_add, Nat.one_mul] at this
        rw [if_pos hj] at this
        rw [← Array.getElem?_toList, this, Array.getElem?_toList]
        exact hv
      exact ⟨_, _, rfl, box_cells q3 0 _ (hx 0 _ (by omega) rfl), box_cells q3 1 _ (hx 1 _ (by omega) rfl), HO.out.2⟩
end
end Go.Proofs.YtmihpmmkkklpfaaGreatDoor
