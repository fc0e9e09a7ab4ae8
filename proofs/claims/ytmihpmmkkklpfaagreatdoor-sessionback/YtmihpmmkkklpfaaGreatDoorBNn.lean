import Derived.Test.YtmihpmmkkklpfaaGreatDoorBSc
import Derived.RangeFuncBox
import Derived.RangeFuncNested
import Derived.RangeFuncLeaves
import Derived.RangeFuncCalls
import Derived.RangeFuncMany
import Derived.Sort.MapsRangeIn
import Derived.Sort.KeysCollected
import Derived.Shelf.Abstract
import Derived.OwnWalkIn
import Derived.TacticsInMore
import Derived.LoopNIn
import Derived.LoopIn
import Derived.RegionIn
namespace Go.Proofs.YtmihpmmkkklpfaaGreatDoor
open Go Go.RowKit Go.Shelf Go.Maps Go.Sort
set_option linter.unusedSimpArgs false
set_option linter.unusedVariables false
attribute [local go_sem] Oper.semAt_some
/-- Which numbers have come. -/
def IC (D0 : DataW Value) (left : Lit → Bool) (ss : List Int) : Prop := ss.Nodup ∧ (∀ x ∈ ss, okI x) ∧ ∀ x, okI x → (x ∈ ss ↔ (has D0 (ki x) = true ∧ left (ki x) = false))
theorem IC.start (D0 : DataW Value) : IC D0 (has D0) [] := ⟨List.nodup_nil, by simp, fun x _ => by cases has D0 (ki x) <;> simp⟩
theorem IC.step {D0 : DataW Value} {left : Lit → Bool} {ss : List Int} (h : IC D0 left ss) {x : Int} {y : DataW Value} (hx : okI x) (hlk : left (ki x) = true) (hat : ∀ zd, D0.atKey (ki x) zd = y) : IC D0 (fun z => left z && !z.sameKey (ki x)) (ss ++ [x]) := by
  have hhas : has D0 (ki x) = true := has_true_of_atKey hat
  have hnew : x ∉ ss := fun hq => by have := ((h.2.2 x hx).1 hq).2; rw [hlk] at this; cases this
  refine ⟨List.nodup_append.2 ⟨h.1, by simp, fun a ha b hb => by simp at hb; subst hb; exact fun e => hnew (e ▸ ha)⟩, fun y hy => ?_, fun y hy => ?_⟩
  · rcases List.mem_append.1 hy with q | q
    · exact h.2.1 y q
    · simp at q; subst q; exact hx
  by_cases e : y = x
  · subst e; exact ⟨fun _ => ⟨hhas, by simp [Lit.sameKey, ki]⟩, fun _ => by simp⟩
  · simp [h.2.2 y hy, e, Lit.sameKey, ki]
set_option maxRecDepth 100000 in
set_option maxHeartbeats 2000000 in
/-- maps.Values's iterator, for every loop body. -/
theorem mvals1_in (F : Fence) (n : Nat) (h8 : F.fn 98) (hro : F.round = none) (hn : 1 ≤ n) (l Bm b nn : Nat) (D0 : DataW Value) (f : Int → Option Nat) (hf : ∀ k, okI k → has D0 (ki k) = (f k).isSome ∧ ∀ v, f k = some v → ∀ z, D0.atKey (ki k) z = .held (pt v)) (J Jx : List (Int × Nat) → World → Prop)
    (hY : ∀ (pre : List (Int × Nat)) (x : Int × Nat) W, J pre W → pre.length < Maps.size D0 → YieldAt F (n - 1) Tryz.prog l #[pt x.2] W fun e W' =>
      (e = .returned (.bool true) ∧ J (pre ++ [x]) W' ∧ KeepsWalks W W') ∨ (e = .returned (.bool false) ∧ Jx (pre ++ [x]) W'))
    (W : World) (hJ : AbidesFrom W.heap.size J) (hm : W.cell? ⟨Bm, 0, none⟩ = some (.map (some b))) (hown : W.ownsMap Tryz.prog 3 hv b nn D0) (h0 : J [] W) :
    CallsIn F n Tryz.prog 98 #[.func (.yield l) #[] #[], .pointer (some ⟨Bm, 0, none⟩)] W fun e W' => (∃ v, e = .returned v) ∧
      ((∃ ps : List (Int × Nat), (ps.map (·.1)).Nodup ∧ (∀ p ∈ ps, okI p.1 ∧ f p.1 = some p.2) ∧ (∀ k, okI k → (f k).isSome → k ∈ ps.map (·.1)) ∧ J ps W') ∨ (∃ pre, True ∧ Jx pre W')) := by
  refine callsIn_of_wp Tryz.func98 rfl h8 ?_ hro
  simp only [Tryz.ntmps98, List.size_toArray, List.length_cons, List.length_nil, Nat.reduceAdd, Nat.reduceSub, Array.replicate_succ, Array.replicate_zero, List.push_toArray, List.append_toArray, List.nil_append, List.cons_append]
  gi_wp2_with (first
    | (gi_at_range; refine wpListIn_range_own _ rfl _ 94 rfl 3 114 law3 Tryz.underlying94 _ b nn _ rfl hown ?_; intro w0 hrg0 hg0 hs0)
    | gi_in)
  go_frame
  gi_loopw [4] (fun _ wr => ∃ (left : Lit → Bool) (cnt : Nat) (ps : List (Int × Nat)), wr.ranges Tryz.prog 3 hv b W.heap.size nn D0 left cnt ∧ ps.length + cnt ≤ Maps.size D0 ∧ IC D0 left (ps.map (·.1)) ∧ (∀ p ∈ ps, okI p.1 ∧ f p.1 = some p.2) ∧ J ps wr)
    (fun _ wr => wr.rangeLeft b W.heap.size)
  case atStart =>
    exact ⟨_, _, [], hrg0, by simp, IC.start D0, by simp, hJ [] W w0 none h0 hg0 (fun r e => by cases e)⟩
  case round =>
    obtain ⟨left, cnt, ps, hrg, hcs, hC, hV, hJs⟩ := hrel
    gi_wp2_with (first
      | (gi_at_next; refine wpListIn_next_ranges _ rfl _ rfl 3 law3 hv (fun x : Int => Value.int .i64 x) (fun v : Value => v) (fun key kl hk => by obtain ⟨x, hx, _⟩ := Maps.keyOf_int_inv Tryz.underlying3 hk; exact ⟨x, hx⟩) (fun v y _ => ⟨v, rfl⟩) b W.heap.size nn _ _ _ rfl hrg ?_ ?_)
      | gi_in)
    · intro hc0 hl0
      gi_wp2
      go_end0
      refine ⟨⟨_, rfl⟩, .inl ⟨ps, hC.1, hV, fun k hk hs => (hC.2.2 k hk).2 ⟨?_, hl0 _⟩, hJs⟩⟩
      rw [(hf k hk).1]
      exact hs
    · intro x c kl yd yp w2 cnt2 hkey hlk hvv hat hrg2 hlt hg2 hs2 hen
      obtain ⟨x', ex, rfl, hwx⟩ := Maps.keyOf_int_inv Tryz.underlying3 hkey
      cases ex
      have hyd : yd = .held c := by simp [hv] at hvv; exact hvv.1.symm
      subst hyd
      have hokx : okI x := hwx
      have hhas := has_true_of_atKey hat
      obtain ⟨v0, hv0⟩ : ∃ v0, f x = some v0 := by
        have := (hf x hokx).1
        rw [show has D0 (ki x) = true from hhas] at this
        exact Option.isSome_iff_exists.1 this.symm
      have hc0 : c = pt v0 := by
        have h1 := hat (.held c)
        have h2 := (hf x hokx).2 v0 hv0 (.held c)
        have h3 : D0.atKey (ki x) (.held c) = .held c := h1
        rw [h3] at h2
        injection h2
      subst hc0
      have hJ2 : J ps w2 := hJ ps wr w2 (some W.heap.size) hJs hg2 (fun r e => by cases e; exact ⟨Nat.le_refl _, hrg.iter_walk⟩)
      obtain ⟨fn, tmps, assign, body, hy, hR⟩ := hY ps (x, v0) w2 hJ2 (by omega)
      dsimp only at hy
      clear hs2
      gi_wp2
      refine hR.mono ?_
      have hC2 : IC D0 (fun z => left z && !z.sameKey (ki x)) ((ps ++ [(x, v0)]).map (·.1)) := by simpa using hC.step hokx hlk hat
      have hV2 : ∀ p ∈ ps ++ [(x, v0)], okI p.1 ∧ f p.1 = some p.2 := fun p hp => (List.mem_append.1 hp).elim (hV p) (fun e => by simp at e; subst e; exact ⟨hokx, hv0⟩)
      rintro e W3 (⟨rfl, hJ3, hk3⟩ | ⟨rfl, hJx3⟩)
      · gi_wp2
        have hrg3 := hrg2.of_walks hk3
        go_roundw
        case rel => exact ⟨_, cnt2, ps ++ [(x, v0)], hrg3, by simp; omega, hC2, hV2, hJ3⟩
        case measure => rw [hrg3.left_eq, hrg.left_eq]; exact hlt
      · gi_wp2
        refine bodyPost_ret (results_none rfl _ _ _) rfl ?_
        exact ⟨⟨_, rfl⟩, .inr ⟨ps ++ [(x, v0)], trivial, hJx3⟩⟩
theorem mvals_stops (F : Fence) (n : Nat) (h8 : F.fn 98) (hro : F.round = none) (hn : 1 ≤ n) (Bm b nn : Nat) (D0 : DataW Value) (f : Int → Option Nat) (hf : ∀ k, okI k → has D0 (ki k) = (f k).isSome ∧ ∀ v, f k = some v → ∀ z, D0.atKey (ki k) z = .held (pt v)) (w : World) (hBm : Bm < w.heap.size) (hm : w.cell? ⟨Bm, 0, none⟩ = some (.map (some b))) (hown : w.ownsMap Tryz.prog 3 hv b nn D0) :
    SeqStopsK F n Tryz.prog 98 #[.pointer (some ⟨Bm, 0, none⟩)] (fun x : Int × Nat => #[pt x.2]) KeepsWalks (fun ps => (ps.map (·.1)).Nodup ∧ (∀ p ∈ ps, okI p.1 ∧ f p.1 = some p.2) ∧ ∀ k, okI k → (f k).isSome → k ∈ ps.map (·.1)) (fun _ => True) (Maps.size D0) w := fun l J Jx W hW hJ _ hY h0 => by
  have hown' : W.ownsMap Tryz.prog 3 hv b nn D0 := by
    have hbl := hown.lt
    obtain ⟨es, clock, hb, Ft, hs, hD⟩ := hown
    exact ⟨es, clock, (hW.block b hbl).trans hb, Ft, hs, hD⟩
  refine (mvals1_in F n h8 hro hn l Bm b nn D0 f hf J Jx hY W hJ ((hW.cell (p := ⟨Bm, 0, none⟩) hBm).trans hm) hown' h0).mono ?_
  rintro e W' ⟨he, ⟨ps, h1, h2, h3, h4⟩ | ⟨pre, h5, h6⟩⟩
  · exact ⟨he, .inl ⟨ps, ⟨h1, h2, h3⟩, h4⟩⟩
  · exact ⟨he, .inr ⟨pre, h5, h6⟩⟩
set_option maxRecDepth 100000 in
set_option maxHeartbeats 2000000 in
theorem mvals1_nil (F : Fence) (n : Nat) (h8 : F.fn 98) (hro : F.round = none) (l Bm : Nat) (J : List (Int × Nat) → World → Prop) (W : World) (hJ : AbidesFrom W.heap.size J) (hm : W.cell? ⟨Bm, 0, none⟩ = some (.map none)) (h0 : J [] W) :
    CallsIn F n Tryz.prog 98 #[.func (.yield l) #[] #[], .pointer (some ⟨Bm, 0, none⟩)] W fun e W' => (∃ v, e = .returned v) ∧ J [] W' := by
  refine callsIn_of_wp Tryz.func98 rfl h8 ?_ hro
  simp only [Tryz.ntmps98, List.size_toArray, List.length_cons, List.length_nil, Nat.reduceAdd, Nat.reduceSub, Array.replicate_succ, Array.replicate_zero, List.push_toArray, List.append_toArray, List.nil_append, List.cons_append]
  have hrg := run_range_nilMap (P := Tryz.prog) W 94 3 114 Tryz.underlying94
  have hnx : ∀ ty, (Instr.next (.pointer (some ⟨W.heap.size, 0, none⟩)) false ty).run Tryz.prog (W.alloc (.mapIter none 0 #[] 0)) = _ := fun ty => run_next_nilMap _ ty 0 0 #[]
  gi_wp2
  refine wpIn_loop_rounds 1 ?_
  rw [roundsIn_succ]
  gi_wp2
  go_end0
  exact ⟨⟨_, rfl⟩, hJ [] W _ none h0 (World.grownBy_alloc W _ none) (fun r e => by cases e)⟩
/-- All entries of a map, in some order. -/
def AllOf (f : Int → Option Nat) (ps : List (Int × Nat)) : Prop := (ps.map (·.1)).Nodup ∧ (∀ p ∈ ps, okI p.1 ∧ f p.1 = some p.2) ∧ ∀ k, okI k → (f k).isSome → k ∈ ps.map (·.1)
theorem stops_any (F : Fence) (n : Nat) (h8 : F.fn 98) (hro : F.round = none) (hn : 1 ≤ n) (Bm nn : Nat) (mv : Value) (f : Int → Option Nat) (w : World) (hM : MI w mv nn (fun k => (f k).map pt)) (hBm : Bm < w.heap.size) (hm : w.cell? ⟨Bm, 0, none⟩ = some mv) :
    SeqStopsK F n Tryz.prog 98 #[.pointer (some ⟨Bm, 0, none⟩)] (fun x : Int × Nat => #[pt x.2]) KeepsWalks (AllOf f) (fun _ => True) nn w := by
  rcases hM with ⟨rfl, rfl, hN⟩ | ⟨mb, D, rfl, h2, h3, h4⟩
  · intro l J Jx W hW hJ _ hY h0
    refine (mvals1_nil F n h8 hro l Bm J W hJ ((hW.cell (p := ⟨Bm, 0, none⟩) hBm).trans hm) h0).mono ?_
    rintro e W' ⟨he, hj⟩
    refine ⟨he, .inl ⟨[], ⟨by simp, by simp, fun k hk hs => ?_⟩, hj⟩⟩
    have := hN k hk
    simp only [Option.map_eq_none_iff] at this
    rw [this] at hs
    cases hs
  · have := mvals_stops F n h8 hro hn Bm mb nn D f (fun k hk => by
      obtain ⟨a, b⟩ := h4 k hk
      exact ⟨by simpa using a, fun v hv z => b (pt v) (by simp [hv]) z⟩) w hBm hm h2
    rw [h3] at this
    exact this
end Go.Proofs.YtmihpmmkkklpfaaGreatDoor
namespace Go.Proofs.YtmihpmmkkklpfaaGreatDoor
open Go Go.RowKit Go.Shelf Go.Maps Go.Sort
set_option linter.unusedSimpArgs false
set_option linter.unusedVariables false
attribute [local go_sem] Oper.semAt_some
set_option maxHeartbeats 1000000 in
theorem mvals_any (mv : Value) (hmv : mv = .map none ∨ ∃ mb, mv = .map (some mb)) (w : World) :
    Calls Tryz.prog 71 #[mv] w fun e w' => e = .returned (.func (.func 98) #[] #[.pointer (some ⟨w.heap.size, 0, none⟩)]) ∧ w' = w.alloc (.cells #[mv] 94) := by
  rcases hmv with rfl | ⟨mb, rfl⟩
  · go_enter Tryz.func71, Tryz.ntmps71
    go_wp2
    go_ret
    exact ⟨rfl, rfl⟩
  · go_enter Tryz.func71, Tryz.ntmps71
    go_wp2
    go_ret
    exact ⟨rfl, rfl⟩
theorem info78 : (Tryz.prog.info? 114).map (fun i => (i.zero, i.size, i.bytes)) = some (some (.pointer none), 1, 8) := by kernel_rfl
theorem info_parts {P : Program} {t s b : Nat} {z : Value} (h : (P.info? t).map (fun i => (i.zero, i.size, i.bytes)) = some (some z, s, b)) : ∃ i, P.info? t = some i ∧ i.zero = some z ∧ i.size = s ∧ i.bytes = b := by
  obtain ⟨i, hi, hz⟩ := Option.map_eq_some_iff.1 h
  simp only [Prod.mk.injEq] at hz
  exact ⟨i, hi, hz.1, hz.2.1, hz.2.2⟩
def ptrs (ps : List (Int × Nat)) : List Value := ps.map (fun p => pt p.2)
set_option maxRecDepth 100000 in
set_option maxHeartbeats 4000000 in
theorem appseq_any (Bm nn : Nat) (mv : Value) (f : Int → Option Nat) (w : World) (hM : MI w mv nn (fun k => (f k).map pt)) (hBm : Bm < w.heap.size) (hm : w.cell? ⟨Bm, 0, none⟩ = some mv) (hl : nn ≤ 1000000) :
    Calls Tryz.prog 128 #[.slice none 0 0, .func (.func 98) #[] #[.pointer (some ⟨Bm, 0, none⟩)]] w fun e w' => ∃ v ps, e = .returned v ∧ AllOf f ps ∧ w'.ownsRow w.heap.size 114 1 v ps.length (ptrs ps) ∧ Below w.heap.size w w' := by
  obtain ⟨i0, hi, hz0, hz1, hz2⟩ := info_parts info78
  have HM : Hid (MI w mv nn (fun k => (f k).map pt)) := hM
  have HL : Hid (nn ≤ 1000000) := hl
  have HB : Hid (w.cell? ⟨Bm, 0, none⟩ = some mv) := hm
  clear hl hm hM
  refine (callsIn_wide (n := 5)).1 ?_
  refine callsIn_of_wp_marks Tryz.func128 rfl trivial ?_ rfl
  simp only [Tryz.ntmps128, List.size_toArray, List.length_cons, List.length_nil, Nat.reduceAdd, Nat.reduceSub, Array.replicate_succ, Array.replicate_zero, List.push_toArray, List.append_toArray, List.nil_append, List.cons_append]
  gi_wp2
  have bO := Boxed.new w 139 (.slice none 0 0)
  have hB0 : Below w.heap.size w (w.alloc (.cells #[.slice none 0 0] 139)) := (Below.refl _ _).alloc (Nat.le_refl _) _
  refine wpIn_rangeFunc_ownG rfl (by omega) (gf := 98) (lb := #[.pointer (some ⟨Bm, 0, none⟩)]) rfl trivial (enters_of Tryz.func98 (by kernel_rfl) rfl)
    (stops_any Fence.wide _ trivial rfl (by omega) Bm nn mv f _ (HM.out.keep (fun b hb => hB0.block b (HM.out.lt hb))) (by simp; omega) ((hB0.cell (p := ⟨Bm, 0, none⟩) hBm).trans HB.out)) walksK_t walksK_b (Below.refl _ _) (fun _ => rfl)
    (fun pre W => (∃ v, Boxed W w.heap.size 139 v ∧ W.ownsRow w.heap.size 114 1 v pre.length (ptrs pre) ∧ True) ∧ Below w.heap.size w W)
    (fun _ _ _ => False)
    (OwnFrom.and (Own.from (holdsRow_own w.heap.size w.heap.size 139 114 1 (fun (pre : List (Int × Nat)) => pre.length) (fun (pre : List (Int × Nat)) => ptrs pre) (fun _ _ => True)) _) (ownFrom_below (Nat.le_refl _) (by simp)))
    (fun _ _ _ _ _ hs _ _ => hs)
    ⟨⟨_, bO, World.ownsRow_nil _ _ _ _, trivial⟩, hB0⟩
    (fun x => { tmps := #[.slice none 0 0, .func (.func 98) #[] #[.pointer (some ⟨Bm, 0, none⟩)], .pointer (some ⟨w.heap.size, 0, none⟩), undef, .slice none 0 0, pt x.2, .func (.func 98) #[] #[.pointer (some ⟨Bm, 0, none⟩)], pt x.2, undef, undef, undef, undef, undef], defers := [] }) ?assign ?body ?done ?stop
  case assign =>
    intro l x W K hK
    gi_wp2
    exact hK
  case body =>
    rintro l pre x W ⟨⟨v, hv', hrow, -⟩, hB⟩ hlt
    have hc := hv'.cell
    have hpl : pre.length ≤ 1000000 := by have := HL.out; omega
    unfold pt
    gi_wp2_with (gi_at_builtin; refine wpListIn_append_own _ rfl _ _ 139 rfl w.heap.size 114 i0 (.pointer none) 1 8 Tryz.underlying139 hi hz0 hz1 hz2 rfl (by decide) _ _ _ rfl (hrow.alloc _) ⟨W.heap.size, 0, none⟩ 1 1 [.pointer (some ⟨x.2, 0, none⟩)] rfl rfl (cell_one_new _ _ _) (by simp [Value.oneCell']) (by unfold maxLen; omega) (by omega) (by have := hB.size; simp; omega) ?_; intro v' w1 hown' hgrow _; obtain ⟨g', cap', rfl⟩ := ownsRow_succ hown'; obtain ⟨hv1, hv2, hr2, hk2, hb2⟩ := hv'.appended (by decide) hrow hB.size (Nat.le_refl _) hown' hgrow; have hc1 := hv1.cell; have hf1 := hv1.frozen)
    refine ⟨hk2.from _, hk2.walks, ⟨⟨_, hv2, ?_, trivial⟩, hB.trans hb2⟩⟩
    simpa [ptrs, pt] using hr2
  case done =>
    rintro D ys W hD hA ⟨⟨v, hv', hrow, -⟩, hB⟩ hK
    have hc := hv'.cell
    gi_wp2
    refine ⟨by simp, .inl ⟨_, _, rfl, run_takeDeferred hK, ?_⟩⟩
    refine ⟨_, results_tmp rfl _ _ _, v, ys, rfl, hA, ?_, hB.trans (belowK_b (w := w) (Nat.le_refl _) W D _ _ (by simp at hD; omega) hK rfl rfl)⟩
    exact ownsRow_putObj hrow (.deferred none) hK rfl
  case stop =>
    rintro D c pre W _ _ h _
    exact h.elim
set_option maxHeartbeats 1000000 in
theorem collect_any (Bm nn : Nat) (mv : Value) (f : Int → Option Nat) (w : World) (hM : MI w mv nn (fun k => (f k).map pt)) (hBm : Bm < w.heap.size) (hm : w.cell? ⟨Bm, 0, none⟩ = some mv) (hl : nn ≤ 1000000) :
    Calls Tryz.prog 96 #[.func (.func 98) #[] #[.pointer (some ⟨Bm, 0, none⟩)]] w fun e w' => ∃ v ps, e = .returned v ∧ AllOf f ps ∧ w'.ownsRow w.heap.size 114 1 v ps.length (ptrs ps) ∧ Below w.heap.size w w' := by
  have A := appseq_any Bm nn mv f w hM hBm hm hl
  clear hM hBm hm hl
  go_enter Tryz.func96, Tryz.ntmps96
  go_wp2_with (go_at_call 128; refine A.mono ?_; clear A; rintro e w' ⟨v, ps, rfl, hA, ho, hb⟩)
  go_ret
  exact ⟨v, ps, rfl, hA, ho, hb⟩
end Go.Proofs.YtmihpmmkkklpfaaGreatDoor
