import Derived.Test.YtipagdhoeocjeaaGreatNe
import Derived.Maps.RangeWalk
import Derived.Shelf.SlIter.Nil
import Derived.Shelf.SortM.Plain
import Derived.Shelf.SortM.SortNone
import Derived.Sort.KeysCollected
import Derived.Lib.MinMax
import Derived.RangeFuncNested
import Derived.RangeFuncLeaves
import Derived.RangeFuncCalls
import Derived.Shelf.Abstract
import Derived.Shelf.RegionOpen
import Derived.WalkKit
import Derived.OwnWalkIn
import Derived.TacticsInMore
import Derived.LoopNIn
import Derived.LoopIn
import Derived.RegionIn
import Derived.RangeFuncBox
import Derived.RangeFuncWrites
import Derived.Maps.AppendAt
namespace Go.Proofs.YtipagdhoeocjeaaGreat.Li
open Go Go.RowKit Go.Shelf
set_option linter.unusedSimpArgs false
set_option linter.unusedVariables false
attribute [local go_sem] Oper.semAt_some
theorem kt_same {x y : ByteArray} : (kt y).sameKey (kt x) = true ↔ y = x := by
  constructor
  · intro h
    have h2 : (y.data.toList == x.data.toList) = true := h
    exact un_inj (eq_of_beq h2)
  · intro h
    rw [h]
    simp [Lit.sameKey, kt]
theorem abides_below' {α : Type} {B : Nat} {J : List α → World → Prop} (h : AbidesFrom B J) {s : List α} {W W' : World} (hj : J s W) (hb : Below W.heap.size W W') : J s W' := h s W W' none hj ⟨hb.os, hb.tape, hb.output, hb.size, fun k hk _ => hb.block k hk⟩ (fun r e => by cases e)
/-- What a map holds under a key that it has. -/
def kadr : Option Value → Option Addr
  | some (.pointer a) => a
  | _ => none
abbrev kv1 (kd : ByteArray → Option Value) (y : ByteArray) : Value := .pointer (kadr (kd y))
/-- A map of nodes. -/
def AllP (kd : ByteArray → Option Value) : Prop := ∀ y v, okT y → kd y = some v → ∃ a, v = .pointer a
/-- The keys whose values have come. -/
structure Col (kd : ByteArray → Option Value) (nk : Nat) (left : Lit → Bool) (cnt : Nat) (ys : List ByteArray) : Prop where
  nd : ys.Nodup
  has : ∀ y ∈ ys, okT y ∧ (kd y).isSome = true ∧ left (kt y) = false
  all : ∀ y, okT y → (kd y).isSome = true → left (kt y) = false → y ∈ ys
  le : ys.length + cnt ≤ nk
theorem Col.step {kd : ByteArray → Option Value} {nk cnt cnt2 : Nat} {left : Lit → Bool} {ys : List ByteArray} {x : ByteArray} (h : Col kd nk left cnt ys) (hx : okT x) (hs : (kd x).isSome = true) (hl : left (kt x) = true) (hc : cnt2 + 1 ≤ cnt) : Col kd nk (fun z => left z && !z.sameKey (kt x)) cnt2 (ys ++ [x]) := by
  have nx : x ∉ ys := fun c => by have := (h.has x c).2.2; rw [hl] at this; cases this
  refine ⟨List.nodup_append.2 ⟨h.nd, List.nodup_cons.2 ⟨by simp, List.nodup_nil⟩, fun a ha b hb e => ?_⟩, fun y hy => ?_, fun y oy sy ly => ?_, ?_⟩
  · rw [List.mem_singleton] at hb
    rw [hb] at e
    rw [e] at ha
    exact nx ha
  · rcases List.mem_append.1 hy with c | c
    · obtain ⟨a, b, c⟩ := h.has y c
      exact ⟨a, b, by simp [c]⟩
    · rw [List.mem_singleton] at c
      subst c
      exact ⟨hx, hs, by simp [kt_same.2 rfl]⟩
  · by_cases c : y = x
    · rw [c]; simp
    · refine List.mem_append.2 (.inl (h.all y oy sy ?_))
      have : (kt y).sameKey (kt x) = false := by
        cases d : (kt y).sameKey (kt x) with
        | false => rfl
        | true => exact absurd (kt_same.1 d) c
      rw [this] at ly
      simpa using ly
  · have := h.le
    simp
    omega
theorem values_any (mo : Option Nat) (w : World) : Calls Tryz.prog 72 #[.map mo] w fun e w' => e = .returned (.func (.func 84) #[] #[ptr w.heap.size]) ∧ w' = w.alloc (.cells #[.map mo] 73) := by
  unfold ptr
  go_enter Tryz.func72, Tryz.ntmps72
  go_wp2_with fail
  go_ret
  exact ⟨rfl, rfl⟩
set_option maxRecDepth 100000 in
set_option maxHeartbeats 4000000 in
/-- maps.Values's iterator. -/
theorem vals_stops {w : World} {mo : Option Nat} {nk : Nat} {kd : ByteArray → Option Value} (hm : MG w (.map mo) nk kd) (hp : AllP kd) {bs : Nat} (hbs : w.heap[bs]? = some (.cells #[.map mo] 73 (0, 0))) (n : Nat) (hn : 1 ≤ n) :
    SeqStopsK Fence.wide n Tryz.prog 84 #[ptr bs] (fun y : ByteArray => #[kv1 kd y]) KeepsWalks (fun ys => ys.Nodup ∧ ∀ y, y ∈ ys ↔ okT y ∧ (kd y).isSome = true) (fun _ => True) nk w := fun l J Jx W hW hA hAx hY hJ0 => by
  have hbW : W.heap[bs]? = some (.cells #[.map mo] 73 (0, 0)) := (hW.block bs (Array.getElem?_eq_some_iff.1 hbs).1).trans hbs
  have c0 : W.cell? ⟨bs, 0, none⟩ = some (.map mo) := box_cells hbW 0 _ rfl
  have hmW : MG W (.map mo) nk kd := hm.keep (fun b e => hW.block b (hm.lt e))
  have HY := hidi hY
  clear hY hbs hbW hm
  unfold ptr at *
  rcases hmW with ⟨z, n0, k0⟩ | ⟨mb, D, z, hown, hsz, hD⟩
  · cases z
    have hrg := run_range_nilMap (P := Tryz.prog) W 73 9 60 Tryz.underlying73
    have hnx : ∀ ty, (Instr.next (.pointer (some ⟨W.heap.size, 0, none⟩)) false ty).run Tryz.prog (W.alloc (.mapIter none 0 #[] 0)) = _ := fun ty => run_next_nilMap _ ty 0 0 #[]
    have hJ1 : J [] (W.alloc (.mapIter none 0 #[] 0)) := abides_below' hA hJ0 ((Below.refl _ _).alloc (Nat.le_refl _) _)
    have HJ1 := hidi hJ1
    clear hJ1 hJ0 hA hAx HY
    refine callsIn_of_wp Tryz.func84 rfl trivial ?_ rfl
    simp only [Tryz.ntmps84, List.size_toArray, List.length_cons, List.length_nil, Nat.reduceAdd, Nat.reduceSub, Array.replicate_succ, Array.replicate_zero, List.push_toArray, List.append_toArray, List.nil_append, List.cons_append]
    gi_wp2
    gi_loopw [4] (fun _ wr => wr = W.alloc (.mapIter none 0 #[] 0)) (fun _ _ => 0)
    case atStart => rfl
    case round =>
      subst hrel
      gi_wp2
      refine bodyPost_end (results_none rfl _ _ _) rfl ?_
      exact ⟨⟨_, rfl⟩, .inl ⟨_, ⟨List.nodup_nil, fun y => ⟨fun c => (by cases c), fun c => by have := k0 y c.1; rw [this] at c; cases c.2⟩⟩, HJ1.out⟩⟩
  · cases z
    have HD := hidi hD
    refine callsIn_of_wp Tryz.func84 rfl trivial ?_ rfl
    simp only [Tryz.ntmps84, List.size_toArray, List.length_cons, List.length_nil, Nat.reduceAdd, Nat.reduceSub, Array.replicate_succ, Array.replicate_zero, List.push_toArray, List.append_toArray, List.nil_append, List.cons_append]
    gi_wp2_with (gi_at_range; refine wpListIn_range_own _ rfl _ 73 rfl 9 60 law9 Tryz.underlying73 hv mb nk D rfl hown ?_; intro w0 hrg0 hg0 hs0)
    (try go_frame)
    gi_loopw [4] (fun _ wr => ∃ (left : Lit → Bool) (cnt : Nat) (ys : List ByteArray), wr.ranges Tryz.prog 9 hv mb W.heap.size nk D left cnt ∧ Col kd nk left cnt ys ∧ J ys wr)
      (fun _ wr => wr.rangeLeft mb W.heap.size)
    case atStart =>
      refine ⟨_, _, [], hrg0, ⟨List.nodup_nil, fun y h => (by cases h), fun y oy sy ly => ?_, by rw [hsz]; simp⟩, hA [] W w0 none hJ0 hg0 (fun r e => by cases e)⟩
      have := (HD.out y oy).1
      rw [sy, ly] at this
      cases this
    case round =>
      obtain ⟨left, cnt, ys, hrg, hC, hJs⟩ := hrel
      gi_wp2_with (gi_at_next; refine wpListIn_next_ranges _ rfl _ rfl 9 law9 hv Value.string (fun v : Value => v) (fun key kl hk => by obtain ⟨x, hx, _⟩ := Go.WideMaps.string_of_keyOf Tryz.underlying9 hk; exact ⟨x, hx⟩) (fun v y _ => ⟨v, rfl⟩) mb W.heap.size nk D _ _ rfl hrg ?_ ?_)
      · intro hc0 hl0
        gi_wp2
        refine bodyPost_end (results_none rfl _ _ _) rfl ?_
        exact ⟨⟨_, rfl⟩, .inl ⟨ys, ⟨hC.nd, fun y => ⟨fun c => ⟨(hC.has y c).1, (hC.has y c).2.1⟩, fun c => hC.all y c.1 c.2 (hl0 _)⟩⟩, hJs⟩⟩
      · intro xk cv kl yd yp w2 cnt2 hkey hlk hvv hat hrg2 hlt2 hg2 hs2 hen
        obtain ⟨x', ex, rfl, hwx⟩ := Go.WideMaps.string_of_keyOf Tryz.underlying9 hkey
        cases ex
        have hyd : yd = .held cv := by simp [hv] at hvv; exact hvv.1.symm
        subst hyd
        have hhas : Maps.has D (kt xk) = true := Go.Maps.has_true_of_atKey hat
        obtain ⟨q, hq⟩ : ∃ q, kd xk = some q := by
          have := (HD.out xk hwx).1
          rw [hhas] at this
          exact Option.isSome_iff_exists.1 this.symm
        have hcv : cv = q := by
          have h1 := hat (.held cv)
          have h2 := (HD.out xk hwx).2 q hq (.held cv)
          rw [show D.atKey (kt xk) (.held cv) = _ from h1] at h2
          injection h2
        subst hcv
        have hJ2 : J ys w2 := hA ys wr w2 (some W.heap.size) hJs hg2 (fun r e => by cases e; exact ⟨Nat.le_refl _, hrg.iter_walk⟩)
        have hC2 := hC.step hwx (by rw [hq]; rfl) hlk hlt2
        obtain ⟨fn, tmps, assign, body, hy, hR⟩ := HY.out ys xk w2 hJ2 (by have := hC.le; omega)
        obtain ⟨ca, rfl⟩ := hp xk cv hwx hq
        rw [show kv1 kd xk = .pointer ca by unfold kv1; rw [hq]; rfl] at hy
        clear hs2
        gi_wp2
        refine hR.mono ?_
        rintro e W3 (⟨rfl, hJ3, hk3⟩ | ⟨rfl, hJx3⟩)
        · gi_wp2
          have hrg3 := hrg2.of_walks hk3
          go_roundw
          case rel => exact ⟨_, cnt2, ys ++ [xk], hrg3, hC2, hJ3⟩
          case measure => rw [hrg3.left_eq, hrg.left_eq]; exact hlt2
        · gi_wp2
          (try simp only [Exit.inBlock, Exit.then, Exit.noGoto])
          refine bodyPost_ret (results_none rfl _ _ _) rfl ?_
          exact ⟨⟨_, rfl⟩, .inr ⟨_, trivial, hJx3⟩⟩
end Go.Proofs.YtipagdhoeocjeaaGreat.Li
namespace Go.Proofs.YtipagdhoeocjeaaGreat.Li
open Go Go.RowKit Go.Shelf
set_option linter.unusedSimpArgs false
set_option linter.unusedVariables false
attribute [local go_sem] Oper.semAt_some
theorem info52 : (Tryz.prog.info? 60).map (fun i => (i.zero, i.size, i.bytes)) = some (some (.pointer none), 1, 8) := by kernel_rfl
/-- The values of a map, in some order. -/
structure Vs (kd : ByteArray → Option Value) (ys : List ByteArray) : Prop where
  nd : ys.Nodup
  mem : ∀ y, y ∈ ys ↔ okT y ∧ (kd y).isSome = true
set_option maxRecDepth 100000 in
set_option maxHeartbeats 4000000 in
theorem vals_append {w : World} {mo : Option Nat} {nk : Nat} {kd : ByteArray → Option Value} (hm : MG w (.map mo) nk kd) (hp : AllP kd) (hn : nk ≤ 1000000) {bs : Nat} (hbs : w.heap[bs]? = some (.cells #[.map mo] 73 (0, 0))) :
    Calls Tryz.prog 93 #[.slice none 0 0, .func (.func 84) #[] #[ptr bs]] w fun e w' => ∃ v ys, e = .returned v ∧ Vs kd ys ∧ w'.ownsRow w.heap.size 60 1 v ys.length (ys.map (kv1 kd)) ∧ Below w.heap.size w w' := by
  obtain ⟨i0, hi, hz0, hz1, hz2⟩ := info_parts info52
  obtain ⟨W0, hW0⟩ : ∃ W0, W0 = w.alloc (.cells #[.slice none 0 0] 100) := ⟨_, rfl⟩
  have bO : Boxed W0 w.heap.size 100 (.slice none 0 0) := by rw [hW0]; exact Boxed.new w 100 (.slice none 0 0)
  have hB0 : Below w.heap.size w W0 := by rw [hW0]; exact (Below.refl _ w).alloc (Nat.le_refl _) _
  have sW : w.heap.size < W0.heap.size := bO.lt
  have hs0 : W0.heap.size = w.heap.size + 1 := by rw [hW0]; simp
  have m0 : MG W0 (.map mo) nk kd := hm.keep (fun b e => hB0.block b (hm.lt e))
  have hb0 : W0.heap[bs]? = some (.cells #[.map mo] 73 (0, 0)) := (hB0.block bs (Array.getElem?_eq_some_iff.1 hbs).1).trans hbs
  have ST := vals_stops m0 hp hb0 4 (by omega)
  clear hm hbs m0 hb0
  refine (callsIn_wide (n := 5)).1 ?_
  refine callsIn_of_wp_marks Tryz.func93 rfl trivial ?_ rfl
  simp only [Tryz.ntmps93, List.size_toArray, List.length_cons, List.length_nil, Nat.reduceAdd, Nat.reduceSub, Array.replicate_succ, Array.replicate_zero, List.push_toArray, List.append_toArray, List.nil_append, List.cons_append]
  gi_wp2
  rw [← hW0]
  refine wpIn_rangeFunc_ownG rfl (by omega) (gf := 84) (lb := #[ptr bs]) rfl trivial (enters_of Tryz.func84 (by kernel_rfl) rfl)
    ST (fun h k => h.trans k) (fun W l o o' _ h _ h2 => KeepsWalks.putObj _ h h2) (Below.refl _ _) (fun _ => rfl)
    (fun (pre : List ByteArray) W => (∃ v, Boxed W w.heap.size 100 v ∧ W.ownsRow w.heap.size 60 1 v pre.length (pre.map (kv1 kd)) ∧ True) ∧ Below w.heap.size w W)
    (fun _ _ _ => False)
    (OwnFrom.and (Own.from (holdsRow_own w.heap.size w.heap.size 100 60 1 (fun pre : List ByteArray => pre.length) (fun pre => pre.map (kv1 kd)) (fun pre v => True)) _) (ownFrom_below (Nat.le_refl _) (by omega)))
    (fun _ _ _ _ _ hs _ _ => hs)
    ⟨⟨_, bO, World.ownsRow_nil _ _ _ _, trivial⟩, hB0⟩
    (fun x => { tmps := #[.slice none 0 0, .func (.func 84) #[] #[ptr bs], .pointer (some ⟨w.heap.size, 0, none⟩), undef, .slice none 0 0, kv1 kd x, .func (.func 84) #[] #[ptr bs], kv1 kd x, undef, undef, undef, undef, undef], defers := [] }) ?assign ?body ?done ?stop
  case assign =>
    intro l x W K hK
    gi_wp2
    exact hK
  case body =>
    rintro l pre x W ⟨⟨v, hv, hrow, _⟩, hB⟩ hlt
    have hc := hv.cell
    have hB' := hB.size
    have hpm : (pre ++ [x]).map (kv1 kd) = pre.map (kv1 kd) ++ [.pointer (kadr (kd x))] := by simp
    have hpl : (pre ++ [x]).length = pre.length + 1 := by simp
    gi_wp2_with (gi_at_builtin; go_loud (refine wpListIn_append_own _ rfl _ _ 100 rfl w.heap.size 60 i0 (.pointer none) 1 8 Tryz.underlying100 hi hz0 hz1 hz2 rfl (by decide) _ _ _ rfl (hrow.alloc _) ⟨W.heap.size, 0, none⟩ 1 1 [.pointer (kadr (kd x))] rfl rfl (cell_one_new _ _ _) (by simp [Value.oneCell']) (by unfold maxLen; omega) (by omega) (by have := hB.size; simp; omega) ?_; intro v' w1 hown' hgrow _; obtain ⟨g', cap', rfl⟩ := ownsRow_succ hown'; obtain ⟨hv1, hv2, hr2, hk2, hb2⟩ := hv.appended (by decide) hrow hB.size (Nat.le_refl _) hown' hgrow; have hc1 := hv1.cell; have hf1 := hv1.frozen))
    exact ⟨hk2.from _, hk2.walks, ⟨_, hv2, by rw [hpm, hpl]; exact hr2, trivial⟩, hB.trans hb2⟩
  case done =>
    rintro D ys W hD hS ⟨⟨v, hv, hrow, _⟩, hB⟩ hK
    have hc := hv.cell
    gi_wp2
    refine ⟨by simp, .inl ⟨_, _, rfl, run_takeDeferred hK, ?_⟩⟩
    exact ⟨_, results_tmp rfl _ _ _, v, ys, rfl, ⟨hS.1, hS.2⟩, ownsRow_putObj hrow _ hK rfl, hB.trans (belowK_b (w := w) (Nat.le_refl _) W D _ _ (by omega) hK rfl rfl)⟩
  case stop =>
    rintro D c pre W _ _ h _
    exact h.elim
set_option maxRecDepth 100000 in
/-- slices.Collect(maps.Values(m)), the iterator in hand. -/
theorem vals_collect {w : World} {mo : Option Nat} {nk : Nat} {kd : ByteArray → Option Value} (hm : MG w (.map mo) nk kd) (hp : AllP kd) (hn : nk ≤ 1000000) {bs : Nat} (hbs : w.heap[bs]? = some (.cells #[.map mo] 73 (0, 0))) :
    Calls Tryz.prog 82 #[.func (.func 84) #[] #[ptr bs]] w fun e w' => ∃ v ys, e = .returned v ∧ Vs kd ys ∧ w'.ownsRow w.heap.size 60 1 v ys.length (ys.map (kv1 kd)) ∧ Below w.heap.size w w' := by
  have VA := hidi (vals_append hm hp hn hbs)
  clear hm hbs
  unfold ptr at *
  go_enter Tryz.func82, Tryz.ntmps82
  go_wp2_with (go_at_call 93; refine VA.out.mono ?_; rintro e w1 ⟨v, ys, rfl, h1, h2, h3⟩; have H := hidi (And.intro h1 (And.intro h2 h3)); obtain ⟨a, c, rfl⟩ := own_sl h2; clear h1 h2 h3 VA)
  go_ret
  exact ⟨_, ys, rfl, H.out⟩
end Go.Proofs.YtipagdhoeocjeaaGreat.Li
