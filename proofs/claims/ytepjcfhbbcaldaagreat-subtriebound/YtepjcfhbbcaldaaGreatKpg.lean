import Derived.Test.YtepjcfhbbcaldaaGreatKng
import Derived.SizedLaws
import Derived.Deep.Slices
import Derived.Deep.Strs
import Derived.Deep.SlicePairs
import Derived.ChangeSlices
import Derived.ChangeArms
import Derived.ProofKit
import Derived.OpenShut
import Derived.ShutString
import Derived.ChangeOld
import Derived.Below
import Derived.Test.YtepjcfhbbcaldaaGreatKnb
import Derived.Test.YtepjcfhbbcaldaaGreatKie
import Derived.RangeFuncBox
import Derived.RangeFuncWrites
import Derived.Maps.AppendAt
namespace Go.Proofs.YtepjcfhbbcaldaaGreat.Li
open Go Go.RowKit Go.ChangeShapes Go.WideShapes
set_option linter.unusedSimpArgs false
set_option linter.unusedVariables false
set_option maxRecDepth 100000
section
variable {H : Type} {enc : TypeId × Value → H} {W : World} {base : Nat} {held : Bool}
/-- All that a datum holds is within the reach. -/
def Wk (t : TypeId) (d : DataW H) : Prop := ∀ x ∈ d.weights Tryz.prog t, x ≤ reachBytes
theorem wtrod_field {t : TypeId} {fs : Array Field} {fuel : Nat} {cs : List Value} {x : DataW H × List MemPlace} (ht : Tryz.prog.underlying t = some (.struct fs)) (h : DataW.trod enc Tryz.prog W base (fun _ => true) held fuel t cs = some x) (hw : Wk t x.1)
    (i ty off size : Nat) (hf : ∃ f, fs[i]? = some f ∧ f.type = ty ∧ f.offset = off) (hs : Tryz.prog.cellsOf ty = size) : ∃ n y, DataW.trod enc Tryz.prog W base (fun _ => true) held n ty ((cs.drop off).take size) = some y ∧ Wk ty y.1 := by
  obtain ⟨xs, n, _, hx0, _, hl, hx⟩ := DataW.trod_struct ht h
  obtain ⟨f, hf, rfl, rfl⟩ := hf
  subst hs
  have hi : i < fs.size := (Array.getElem?_eq_some_iff.1 hf).1
  refine ⟨n, xs[i]'(by omega), by rw [hx i f hf, List.getElem?_eq_getElem], fun z hz => hw z ?_⟩
  rw [hx0]
  have e : (DataW.agg (xs.map (·.1)) : DataW H).weights Tryz.prog t = DataW.weightsEach Tryz.prog (fs.toList.map (·.type)) (xs.map (·.1)) := by simp [DataW.weights, ht]
  rw [show ((DataW.agg (xs.map (·.1)) : DataW H), xs.flatMap (·.2)).1 = DataW.agg (xs.map (·.1)) from rfl, e]
  refine DataW.weights_mem_each (j := i) (t := f.type) (d := (xs[i]'(by omega)).1) ?_ ?_ z hz
  · simp [hf]
  · simp [show i < xs.length by omega]
theorem wk_all {e : TypeId} : ∀ {el : List (DataW H)} {d : DataW H}, d ∈ el → ∀ x ∈ d.weights Tryz.prog e, x ∈ DataW.weightsAll Tryz.prog e el
  | d0 :: r, d, hd, x, hx => by
    rw [DataW.weightsAll]
    rcases List.mem_cons.1 hd with rfl | h
    · exact List.mem_append.2 (.inl hx)
    · exact List.mem_append.2 (.inr (wk_all h x hx))
theorem wk_elem {t e : TypeId} {el sp : List (DataW H)} {d : DataW H} (ht : Tryz.prog.underlying t = some (.slice e)) (hw : Wk t (.slice el sp)) (hd : d ∈ el) : Wk e d := fun x hx => hw x (by
  have := wk_all hd x hx
  simp only [DataW.weights, ht]
  exact List.mem_cons_of_mem _ (List.mem_append.2 (.inl this)))
theorem reach_is : reachBytes = 140737488351232 := by decide
theorem bplain_add (b off j : Nat) : (⟨b, off, none⟩ : Addr).add j = ⟨b, off + j, none⟩ := by
  unfold Addr.add
  split <;> simp_all
theorem bcells3 : Tryz.prog.cellsOf 3 = 1 := by kernel_rfl
theorem bcells9 : Tryz.prog.cellsOf 9 = 1 := by kernel_rfl
theorem str_size {s : ByteArray} : s.data.toList.length = s.size := Array.length_toList
theorem open_sub {cs : List Value} (hl : cs.length = 3) {n : Nat} {y : DataW H × List MemPlace} (h : DataW.trod enc Tryz.prog W base (fun _ => true) held n 29 cs = some y) (hw : Wk 29 y.1) : ∃ s : Sb, cs = [.string s.f, .string s.x, .int .i64 s.q] ∧ s.f.size ≤ 140737488355328 ∧ s.x.size ≤ 140737488355328 := by
  match cs, hl with
  | [c0, c1, c2], _ =>
    obtain ⟨n0, y0, t0, k0⟩ := wtrod_field Tryz.underlying29 h hw 0 9 0 _ ⟨_, rfl, rfl, rfl⟩ bcells9
    obtain ⟨n1, y1, t1, k1⟩ := wtrod_field Tryz.underlying29 h hw 1 9 1 _ ⟨_, rfl, rfl, rfl⟩ bcells9
    obtain ⟨n2, y2, t2, k2⟩ := wtrod_field Tryz.underlying29 h hw 2 3 2 _ ⟨_, rfl, rfl, rfl⟩ bcells3
    obtain ⟨s0, e0, g0, w0⟩ := DataW.trod_string Tryz.underlying9 (show DataW.trod enc Tryz.prog W base (fun _ => true) held _ 9 [c0] = _ from t0)
    obtain ⟨s1, e1, g1, w1⟩ := DataW.trod_string Tryz.underlying9 (show DataW.trod enc Tryz.prog W base (fun _ => true) held _ 9 [c1] = _ from t1)
    obtain ⟨s2, e2, w2⟩ := DataW.trod_int Tryz.underlying3 (show DataW.trod enc Tryz.prog W base (fun _ => true) held _ 3 [c2] = _ from t2)
    simp at e0 e1 e2
    subst e0 e1 e2
    refine ⟨⟨s0, s1, s2⟩, rfl, ?_, ?_⟩
    · rw [g0] at k0
      have := k0 s0.data.toList.length (by simp [DataW.weights])
      rw [reach_is, str_size] at this
      show s0.size ≤ _
      omega
    · rw [g1] at k1
      have := k1 s1.data.toList.length (by simp [DataW.weights])
      rw [reach_is, str_size] at this
      show s1.size ≤ _
      omega
theorem open_subs {a : Option Addr} {len cap : Nat} {d : DataW H} {p : List MemPlace} (hp : ∀ ad, a = some ad → ∃ b off, ad = ⟨b, off, none⟩) (h : DataW.Trod enc Tryz.prog W base (fun _ => true) held 22 (.slice a len cap) d p) (hw : Wk 22 d) : ∃ l : List Sb, SbAt W (.slice a len cap) l ∧ ∀ s ∈ l, s.f.size ≤ 140737488355328 ∧ s.x.size ≤ 140737488355328 := by
  obtain ⟨fuel, hf⟩ := h
  have hf' : DataW.trod enc Tryz.prog W base (fun _ => true) held fuel 22 [.slice a len cap] = some (d, p) := hf
  rcases Go.Deep.open_slice Tryz.underlying22 hf' with ⟨hcs, _⟩ | ⟨x, l, c, m, n, D, Q, hcs, _, hl, hm, hmm, hx0, hx⟩
  · simp only [List.cons.injEq, Value.slice.injEq, and_true] at hcs
    obtain ⟨rfl, rfl, rfl⟩ := hcs
    exact ⟨[], ⟨⟨_, _, _, rfl, rfl, Nat.le_refl _, fun c => (c rfl).elim⟩⟩, fun s hs => by cases hs⟩
  · simp only [List.cons.injEq, Value.slice.injEq, and_true] at hcs
    obtain ⟨rfl, rfl, rfl⟩ := hcs
    simp at hmm
    obtain ⟨b, off, rfl⟩ := hp x rfl
    have hd : d = .slice ((List.range len).map D) ((List.range (m - len)).map fun j => D (len + j)) := congrArg Prod.fst hx0
    rw [hd] at hw
    have each : ∀ i, i < len → ∃ s : Sb, (W.cell? ⟨b, off + i * 3, none⟩ = some (.string s.f) ∧ W.cell? ⟨b, off + i * 3 + 1, none⟩ = some (.string s.x) ∧ W.cell? ⟨b, off + i * 3 + 2, none⟩ = some (.int .i64 s.q)) ∧ s.f.size ≤ 140737488355328 ∧ s.x.size ≤ 140737488355328 := fun i hi => by
      obtain ⟨cs', h1, h2⟩ := hx i (by omega)
      rw [show Tryz.prog.cellsOf 29 = 3 by kernel_rfl, bplain_add] at h1
      obtain ⟨_, hlen, hcell⟩ := World.cells?_some h1
      obtain ⟨s, e, r⟩ := open_sub hlen h2 (wk_elem Tryz.underlying22 hw (List.mem_map.2 ⟨i, List.mem_range.2 hi, rfl⟩))
      have h0 := hcell 0 (by omega)
      have h1 := hcell 1 (by omega)
      have h2 := hcell 2 (by omega)
      rw [bplain_add, e] at h0 h1 h2
      exact ⟨s, ⟨h0, h1, h2⟩, r⟩
    haveI : Inhabited Sb := ⟨⟨⟨#[]⟩, ⟨#[]⟩, 0⟩⟩
    obtain ⟨z, hz⟩ := Go.Deep.choose_lt each
    refine ⟨(List.range len).map z, ⟨⟨_, _, _, rfl, by simp, hl, fun hne => ⟨b, off, rfl, ?_, fun i s hs => ?_⟩⟩⟩, fun s hs => ?_⟩
    · have h0 : 0 < len := by
        rcases Nat.eq_zero_or_pos len with e | e
        · rw [e] at hne; exact (hne rfl).elim
        · exact e
      exact World.block_lt_of_cell? _ _ (hz 0 h0).1.1
    · have hi : i < len := by have := (List.getElem?_eq_some_iff.1 hs).1; simpa using this
      rw [List.getElem?_map, List.getElem?_range hi] at hs
      simp at hs
      subst hs
      exact (hz i hi).1
    · obtain ⟨i, hi, rfl⟩ := List.mem_map.1 hs
      exact (hz i (List.mem_range.1 hi)).2
end
end Go.Proofs.YtepjcfhbbcaldaaGreat.Li
namespace Go.Proofs.YtepjcfhbbcaldaaGreat.Li
open Go Go.RowKit Go.Shelf
set_option linter.unusedSimpArgs false
set_option linter.unusedVariables false
attribute [local go_sem] Oper.semAt_some
/-- What a map holds under a key that it has. -/
def kadr : Option Value → Option Addr
  | some (.pointer a) => a
  | _ => none
abbrev kv1 (kd : ByteArray → Option Value) (y : ByteArray) : Value := .pointer (kadr (kd y))
/-- A map of nodes. -/
def AllP (kd : ByteArray → Option Value) : Prop := ∀ y v, okT y → kd y = some v → ∃ a, v = .pointer a
/-- The keys whose values have come. -/
structure Col (kd : ByteArray → Option Value) (nk : Nat) (left : Lit → Bool) (cnt : Nat) (ys : List ByteArray) : Prop where
  nd : ys.Nodup
  has : ∀ y ∈ ys, okT y ∧ (kd y).isSome = true ∧ left (kt y) = false
  all : ∀ y, okT y → (kd y).isSome = true → left (kt y) = false → y ∈ ys
  le : ys.length + cnt ≤ nk
theorem Col.step {kd : ByteArray → Option Value} {nk cnt cnt2 : Nat} {left : Lit → Bool} {ys : List ByteArray} {x : ByteArray} (h : Col kd nk left cnt ys) (hx : okT x) (hs : (kd x).isSome = true) (hl : left (kt x) = true) (hc : cnt2 + 1 ≤ cnt) : Col kd nk (fun z => left z && !z.sameKey (kt x)) cnt2 (ys ++ [x]) := by
  have nx : x ∉ ys := fun c => by have := (h.has x c).2.2; rw [hl] at this; cases this
  refine ⟨List.nodup_append.2 ⟨h.nd, List.nodup_cons.2 ⟨by simp, List.nodup_nil⟩, fun a ha b hb e => ?_⟩, fun y hy => ?_, fun y oy sy ly => ?_, ?_⟩
  · rw [List.mem_singleton] at hb
    rw [hb] at e
    rw [e] at ha
    exact nx ha
  · rcases List.mem_append.1 hy with c | c
    · obtain ⟨a, b, c⟩ := h.has y c
      exact ⟨a, b, by simp [c]⟩
    · rw [List.mem_singleton] at c
      subst c
      exact ⟨hx, hs, by simp [kt_same.2 rfl]⟩
  · by_cases c : y = x
    · rw [c]; simp
    · refine List.mem_append.2 (.inl (h.all y oy sy ?_))
      have : (kt y).sameKey (kt x) = false := by
        cases d : (kt y).sameKey (kt x) with
        | false => rfl
        | true => exact absurd (kt_same.1 d) c
      rw [this] at ly
      simpa using ly
  · have := h.le
    simp
    omega
theorem values_any (mo : Option Nat) (w : World) : Calls Tryz.prog 46 #[.map mo] w fun e w' => e = .returned (.func (.func 63) #[] #[ptr w.heap.size]) ∧ w' = w.alloc (.cells #[.map mo] 69) := by
  unfold ptr
  go_enter Tryz.func46, Tryz.ntmps46
  go_wp2_with fail
  go_ret
  exact ⟨rfl, rfl⟩
set_option maxRecDepth 100000 in
set_option maxHeartbeats 4000000 in
/-- maps.Values's iterator. -/
theorem vals_stops {w : World} {mo : Option Nat} {nk : Nat} {kd : ByteArray → Option Value} (hm : MG w (.map mo) nk kd) (hp : AllP kd) {bs : Nat} (hbs : w.heap[bs]? = some (.cells #[.map mo] 69 (0, 0))) (n : Nat) (hn : 1 ≤ n) :
    SeqStopsK Fence.wide n Tryz.prog 63 #[ptr bs] (fun y : ByteArray => #[kv1 kd y]) KeepsWalks (fun ys => ys.Nodup ∧ ∀ y, y ∈ ys ↔ okT y ∧ (kd y).isSome = true) (fun _ => True) nk w := fun l J Jx W hW hA hAx hY hJ0 => by
  have hbW : W.heap[bs]? = some (.cells #[.map mo] 69 (0, 0)) := (hW.block bs (Array.getElem?_eq_some_iff.1 hbs).1).trans hbs
  have c0 : W.cell? ⟨bs, 0, none⟩ = some (.map mo) := box_cells hbW 0 _ rfl
  have hmW : MG W (.map mo) nk kd := hm.keep (fun b e => hW.block b (hm.lt e))
  have HY := hidi hY
  clear hY hbs hbW hm
  unfold ptr at *
  rcases hmW with ⟨z, n0, k0⟩ | ⟨mb, D, z, hown, hsz, hD⟩
  · cases z
    have hrg := run_range_nilMap (P := Tryz.prog) W 69 9 52 Tryz.underlying69
    have hnx : ∀ ty, (Instr.next (.pointer (some ⟨W.heap.size, 0, none⟩)) false ty).run Tryz.prog (W.alloc (.mapIter none 0 #[] 0)) = _ := fun ty => run_next_nilMap _ ty 0 0 #[]
    have hJ1 : J [] (W.alloc (.mapIter none 0 #[] 0)) := abides_below' hA hJ0 ((Below.refl _ _).alloc (Nat.le_refl _) _)
    have HJ1 := hidi hJ1
    clear hJ1 hJ0 hA hAx HY
    refine callsIn_of_wp Tryz.func63 rfl trivial ?_ rfl
    simp only [Tryz.ntmps63, List.size_toArray, List.length_cons, List.length_nil, Nat.reduceAdd, Nat.reduceSub, Array.replicate_succ, Array.replicate_zero, List.push_toArray, List.append_toArray, List.nil_append, List.cons_append]
    gi_wp2
    gi_loopw [4] (fun _ wr => wr = W.alloc (.mapIter none 0 #[] 0)) (fun _ _ => 0)
    case atStart => rfl
    case round =>
      subst hrel
      gi_wp2
      refine bodyPost_end (results_none rfl _ _ _) rfl ?_
      exact ⟨⟨_, rfl⟩, .inl ⟨_, ⟨List.nodup_nil, fun y => ⟨fun c => (by cases c), fun c => by have := k0 y c.1; rw [this] at c; cases c.2⟩⟩, HJ1.out⟩⟩
  · cases z
    have HD := hidi hD
    refine callsIn_of_wp Tryz.func63 rfl trivial ?_ rfl
    simp only [Tryz.ntmps63, List.size_toArray, List.length_cons, List.length_nil, Nat.reduceAdd, Nat.reduceSub, Array.replicate_succ, Array.replicate_zero, List.push_toArray, List.append_toArray, List.nil_append, List.cons_append]
    gi_wp2_with (gi_at_range; refine wpListIn_range_own _ rfl _ 69 rfl 9 52 law9 Tryz.underlying69 hv mb nk D rfl hown ?_; intro w0 hrg0 hg0 hs0)
    (try go_frame)
    gi_loopw [4] (fun _ wr => ∃ (left : Lit → Bool) (cnt : Nat) (ys : List ByteArray), wr.ranges Tryz.prog 9 hv mb W.heap.size nk D left cnt ∧ Col kd nk left cnt ys ∧ J ys wr)
      (fun _ wr => wr.rangeLeft mb W.heap.size)
    case atStart =>
      refine ⟨_, _, [], hrg0, ⟨List.nodup_nil, fun y h => (by cases h), fun y oy sy ly => ?_, by rw [hsz]; simp⟩, hA [] W w0 none hJ0 hg0 (fun r e => by cases e)⟩
      have := (HD.out y oy).1
      rw [sy, ly] at this
      cases this
    case round =>
      obtain ⟨left, cnt, ys, hrg, hC, hJs⟩ := hrel
      gi_wp2_with (gi_at_next; refine wpListIn_next_ranges _ rfl _ rfl 9 law9 hv Value.string (fun v : Value => v) (fun key kl hk => by obtain ⟨x, hx, _⟩ := Go.WideMaps.string_of_keyOf Tryz.underlying9 hk; exact ⟨x, hx⟩) (fun v y _ => ⟨v, rfl⟩) mb W.heap.size nk D _ _ rfl hrg ?_ ?_)
      · intro hc0 hl0
        gi_wp2
        refine bodyPost_end (results_none rfl _ _ _) rfl ?_
        exact ⟨⟨_, rfl⟩, .inl ⟨ys, ⟨hC.nd, fun y => ⟨fun c => ⟨(hC.has y c).1, (hC.has y c).2.1⟩, fun c => hC.all y c.1 c.2 (hl0 _)⟩⟩, hJs⟩⟩
      · intro xk cv kl yd yp w2 cnt2 hkey hlk hvv hat hrg2 hlt2 hg2 hs2 hen
        obtain ⟨x', ex, rfl, hwx⟩ := Go.WideMaps.string_of_keyOf Tryz.underlying9 hkey
        cases ex
        have hyd : yd = .held cv := by simp [hv] at hvv; exact hvv.1.symm
        subst hyd
        have hhas : Maps.has D (kt xk) = true := Go.Maps.has_true_of_atKey hat
        obtain ⟨q, hq⟩ : ∃ q, kd xk = some q := by
          have := (HD.out xk hwx).1
          rw [hhas] at this
          exact Option.isSome_iff_exists.1 this.symm
        have hcv : cv = q := by
          have h1 := hat (.held cv)
          have h2 := (HD.out xk hwx).2 q hq (.held cv)
          rw [show D.atKey (kt xk) (.held cv) = _ from h1] at h2
          injection h2
        subst hcv
        have hJ2 : J ys w2 := hA ys wr w2 (some W.heap.size) hJs hg2 (fun r e => by cases e; exact ⟨Nat.le_refl _, hrg.iter_walk⟩)
        have hC2 := hC.step hwx (by rw [hq]; rfl) hlk hlt2
        obtain ⟨fn, tmps, assign, body, hy, hR⟩ := HY.out ys xk w2 hJ2 (by have := hC.le; omega)
        obtain ⟨ca, rfl⟩ := hp xk cv hwx hq
        rw [show kv1 kd xk = .pointer ca by unfold kv1; rw [hq]; rfl] at hy
        clear hs2
        gi_wp2
        refine hR.mono ?_
        rintro e W3 (⟨rfl, hJ3, hk3⟩ | ⟨rfl, hJx3⟩)
        · gi_wp2
          have hrg3 := hrg2.of_walks hk3
          go_roundw
          case rel => exact ⟨_, cnt2, ys ++ [xk], hrg3, hC2, hJ3⟩
          case measure => rw [hrg3.left_eq, hrg.left_eq]; exact hlt2
        · gi_wp2
          (try simp only [Exit.inBlock, Exit.then, Exit.noGoto])
          refine bodyPost_ret (results_none rfl _ _ _) rfl ?_
          exact ⟨⟨_, rfl⟩, .inr ⟨_, trivial, hJx3⟩⟩
end Go.Proofs.YtepjcfhbbcaldaaGreat.Li
namespace Go.Proofs.YtepjcfhbbcaldaaGreat.Li
open Go Go.RowKit Go.Shelf
set_option linter.unusedSimpArgs false
set_option linter.unusedVariables false
attribute [local go_sem] Oper.semAt_some
theorem info52 : (Tryz.prog.info? 52).map (fun i => (i.zero, i.size, i.bytes)) = some (some (.pointer none), 1, 8) := by kernel_rfl
/-- The values of a map, in some order. -/
structure Vs (kd : ByteArray → Option Value) (ys : List ByteArray) : Prop where
  nd : ys.Nodup
  mem : ∀ y, y ∈ ys ↔ okT y ∧ (kd y).isSome = true
set_option maxRecDepth 100000 in
set_option maxHeartbeats 4000000 in
theorem vals_append {w : World} {mo : Option Nat} {nk : Nat} {kd : ByteArray → Option Value} (hm : MG w (.map mo) nk kd) (hp : AllP kd) (hn : nk ≤ 1000000) {bs : Nat} (hbs : w.heap[bs]? = some (.cells #[.map mo] 69 (0, 0))) :
    Calls Tryz.prog 62 #[.slice none 0 0, .func (.func 63) #[] #[ptr bs]] w fun e w' => ∃ v ys, e = .returned v ∧ Vs kd ys ∧ w'.ownsRow w.heap.size 52 1 v ys.length (ys.map (kv1 kd)) ∧ Below w.heap.size w w' := by
  obtain ⟨i0, hi, hz0, hz1, hz2⟩ := info_parts info52
  obtain ⟨W0, hW0⟩ : ∃ W0, W0 = w.alloc (.cells #[.slice none 0 0] 87) := ⟨_, rfl⟩
  have bO : Boxed W0 w.heap.size 87 (.slice none 0 0) := by rw [hW0]; exact Boxed.new w 87 (.slice none 0 0)
  have hB0 : Below w.heap.size w W0 := by rw [hW0]; exact (Below.refl _ w).alloc (Nat.le_refl _) _
  have sW : w.heap.size < W0.heap.size := bO.lt
  have hs0 : W0.heap.size = w.heap.size + 1 := by rw [hW0]; simp
  have m0 : MG W0 (.map mo) nk kd := hm.keep (fun b e => hB0.block b (hm.lt e))
  have hb0 : W0.heap[bs]? = some (.cells #[.map mo] 69 (0, 0)) := (hB0.block bs (Array.getElem?_eq_some_iff.1 hbs).1).trans hbs
  have ST := vals_stops m0 hp hb0 4 (by omega)
  clear hm hbs m0 hb0
  refine (callsIn_wide (n := 5)).1 ?_
  refine callsIn_of_wp_marks Tryz.func62 rfl trivial ?_ rfl
  simp only [Tryz.ntmps62, List.size_toArray, List.length_cons, List.length_nil, Nat.reduceAdd, Nat.reduceSub, Array.replicate_succ, Array.replicate_zero, List.push_toArray, List.append_toArray, List.nil_append, List.cons_append]
  gi_wp2
  rw [← hW0]
  refine wpIn_rangeFunc_ownG rfl (by omega) (gf := 63) (lb := #[ptr bs]) rfl trivial (enters_of Tryz.func63 (by kernel_rfl) rfl)
    ST (fun h k => h.trans k) (fun W l o o' _ h _ h2 => KeepsWalks.putObj _ h h2) (Below.refl _ _) (fun _ => rfl)
    (fun (pre : List ByteArray) W => (∃ v, Boxed W w.heap.size 87 v ∧ W.ownsRow w.heap.size 52 1 v pre.length (pre.map (kv1 kd)) ∧ True) ∧ Below w.heap.size w W)
    (fun _ _ _ => False)
    (OwnFrom.and (Own.from (holdsRow_own w.heap.size w.heap.size 87 52 1 (fun pre : List ByteArray => pre.length) (fun pre => pre.map (kv1 kd)) (fun pre v => True)) _) (ownFrom_below (Nat.le_refl _) (by omega)))
    (fun _ _ _ _ _ hs _ _ => hs)
    ⟨⟨_, bO, World.ownsRow_nil _ _ _ _, trivial⟩, hB0⟩
    (fun x => { tmps := #[.slice none 0 0, .func (.func 63) #[] #[ptr bs], .pointer (some ⟨w.heap.size, 0, none⟩), undef, .slice none 0 0, kv1 kd x, .func (.func 63) #[] #[ptr bs], kv1 kd x, undef, undef, undef, undef, undef], defers := [] }) ?assign ?body ?done ?stop
  case assign =>
    intro l x W K hK
    gi_wp2
    exact hK
  case body =>
    rintro l pre x W ⟨⟨v, hv, hrow, _⟩, hB⟩ hlt
    have hc := hv.cell
    have hB' := hB.size
    have hpm : (pre ++ [x]).map (kv1 kd) = pre.map (kv1 kd) ++ [.pointer (kadr (kd x))] := by simp
    have hpl : (pre ++ [x]).length = pre.length + 1 := by simp
    gi_wp2_with (gi_at_builtin; go_loud (refine wpListIn_append_own _ rfl _ _ 87 rfl w.heap.size 52 i0 (.pointer none) 1 8 Tryz.underlying87 hi hz0 hz1 hz2 rfl (by decide) _ _ _ rfl (hrow.alloc _) ⟨W.heap.size, 0, none⟩ 1 1 [.pointer (kadr (kd x))] rfl rfl (cell_one_new _ _ _) (by simp [Value.oneCell']) (by unfold maxLen; omega) (by omega) (by have := hB.size; simp; omega) ?_; intro v' w1 hown' hgrow _; obtain ⟨g', cap', rfl⟩ := ownsRow_succ hown'; obtain ⟨hv1, hv2, hr2, hk2, hb2⟩ := hv.appended (by decide) hrow hB.size (Nat.le_refl _) hown' hgrow; have hc1 := hv1.cell; have hf1 := hv1.frozen))
    exact ⟨hk2.from _, hk2.walks, ⟨_, hv2, by rw [hpm, hpl]; exact hr2, trivial⟩, hB.trans hb2⟩
  case done =>
    rintro D ys W hD hS ⟨⟨v, hv, hrow, _⟩, hB⟩ hK
    have hc := hv.cell
    gi_wp2
    refine ⟨by simp, .inl ⟨_, _, rfl, run_takeDeferred hK, ?_⟩⟩
    exact ⟨_, results_tmp rfl _ _ _, v, ys, rfl, ⟨hS.1, hS.2⟩, ownsRow_putObj hrow _ hK rfl, hB.trans (belowK_b (w := w) (Nat.le_refl _) W D _ _ (by omega) hK rfl rfl)⟩
  case stop =>
    rintro D c pre W _ _ h _
    exact h.elim
set_option maxRecDepth 100000 in
/-- slices.Collect(maps.Values(m)), the iterator in hand. -/
theorem vals_collect {w : World} {mo : Option Nat} {nk : Nat} {kd : ByteArray → Option Value} (hm : MG w (.map mo) nk kd) (hp : AllP kd) (hn : nk ≤ 1000000) {bs : Nat} (hbs : w.heap[bs]? = some (.cells #[.map mo] 69 (0, 0))) :
    Calls Tryz.prog 45 #[.func (.func 63) #[] #[ptr bs]] w fun e w' => ∃ v ys, e = .returned v ∧ Vs kd ys ∧ w'.ownsRow w.heap.size 52 1 v ys.length (ys.map (kv1 kd)) ∧ Below w.heap.size w w' := by
  have VA := hidi (vals_append hm hp hn hbs)
  clear hm hbs
  unfold ptr at *
  go_enter Tryz.func45, Tryz.ntmps45
  go_wp2_with (go_at_call 62; refine VA.out.mono ?_; rintro e w1 ⟨v, ys, rfl, h1, h2, h3⟩; have H := hidi (And.intro h1 (And.intro h2 h3)); obtain ⟨a, c, rfl⟩ := own_sl h2; clear h1 h2 h3 VA)
  go_ret
  exact ⟨_, ys, rfl, H.out⟩
end Go.Proofs.YtepjcfhbbcaldaaGreat.Li
namespace Go.Proofs.YtepjcfhbbcaldaaGreat.Li
open Go Go.RowKit
set_option linter.unusedSimpArgs false
set_option linter.unusedVariables false
variable {w wr w2 : World} {tb m r P : Nat} {nf nf2 nf3 nn : Int} {T T2 T3 : List Fn} {d f f2 f3 k : Fn} {x y0 y1 : ByteArray}
theorem PM.below {B : List ByteArray} {S0 : List Nd} (h : PM w tb m r nf nn T B S0) (hb : Below w.heap.size w w2) : PM w2 tb m r nf nn T B S0 :=
  ⟨(hb.block tb (Array.getElem?_eq_some_iff.1 h.tr).1).trans h.tr, h.inv, h.rt, fun f hf e => by
    obtain ⟨N, ff⟩ := h.nd f hf e
    exact ⟨N, ff.keep (Below.ch (S := fun _ => False) hb) (fun _ _ q => q) (fun _ q => q.elim) (Nat.le_refl _) (fun _ _ => Iff.rfl)⟩, fun f hf e => by
    obtain ⟨N, ff⟩ := h.nd0 f hf e
    exact ⟨N, ff.keep (Below.ch (S := fun _ => False) hb) (fun _ _ q => q) (fun _ q => q.elim) (Nat.le_refl _) (fun _ _ => Iff.rfl)⟩, h.dis, h.ok⟩
theorem WoE.below {fA : List ByteArray} {fp : Nat} {F : List ByteArray → Prop} {res : Value} (h : WoE w tb m r P T fA fp d y0 F x res) (hb : Below w.heap.size w w2) : WoE w2 tb m r P T fA fp d y0 F x res := by
  obtain ⟨⟨T', nf', pm, a⟩, ⟨o2, lq, e2, k2, n, rr, b1, b2⟩⟩ := h
  exact ⟨⟨T', nf', pm.below hb, a⟩, ⟨o2, lq, e2, k2, n, rr, (hb.block fp (Array.getElem?_eq_some_iff.1 b1).1).trans b1, own_below b2 hb⟩⟩
/-- At a node, or below one of these. -/
def LvF (f : Fn) (K : List Fn) (F' : List ByteArray) : Prop := F' = f.s.A ∨ ∃ k ∈ K, k.s.A <+: F'
theorem LvF.more {K : List Fn} {F' : List ByteArray} : LvF f (K ++ [k]) F' ↔ LvF f K F' ∨ k.s.A <+: F' := by
  unfold LvF
  constructor
  · rintro (c | ⟨q, hq, c⟩)
    · exact .inl (.inl c)
    · rcases List.mem_append.1 hq with hq | hq
      · exact .inl (.inr ⟨q, hq, c⟩)
      · rw [List.mem_singleton] at hq
        subst hq
        exact .inr c
  · rintro ((c | ⟨q, hq, c⟩) | c)
    · exact .inl c
    · exact .inr ⟨q, List.mem_append.2 (.inl hq), c⟩
    · exact .inr ⟨k, by simp, c⟩
theorem QS.pred {F G : List ByteArray → Prop} {B : List ByteArray} (q : QS tb P nf T T2 F x B) (h1 : ∀ F' z, HasE T2 F' x z → ¬ G F') (h2 : ∀ F' z, HasE T F' x z → F F' → G F') : QS tb P nf T T2 G x B :=
  ⟨fun F' y z => by
    rw [q.has]
    constructor
    · rintro ⟨a, b⟩
      refine ⟨a, ?_⟩
      rintro ⟨c, rfl⟩
      exact h1 F' z ((q.has F' y z).2 ⟨a, b⟩) c
    · rintro ⟨a, b⟩
      refine ⟨a, ?_⟩
      rintro ⟨c, rfl⟩
      exact b ⟨h2 F' z a c, rfl⟩, q.is, q.frm, q.cn, q.few, q.le, q.ok⟩
/-- While the kids of a node are left: K are those that were. -/
structure Lv (w wr : World) (tb m r P : Nat) (nf : Int) (T : List Fn) (f : Fn) (x : ByteArray) (K : List Fn) (T2 : List Fn) (nf2 : Int) (f2 : Fn) (Fs : List (List ByteArray)) : Prop where
  up : Up wr tb m r P T f (LvF f K) x T2 nf2 f2
  ch : Ch (isT tb T) w wr
  nd : Fs.Nodup
  mem : ∀ F, F ∈ Fs ↔ LvF f K F ∧ ∃ z, HasE T F x z
  nil : Fs = [] → Below w.heap.size w wr
  kid : ∀ y g, (∀ k ∈ K, ¬ AtK (T.map Fn.s) f.s y k.s) → (AtK (T2.map Fn.s) f.s y g ↔ AtK (T.map Fn.s) f.s y g)
  keep : ∀ a ∈ T, a.s.A ≠ f.s.A → (∀ k ∈ K, ¬ k.s.A <+: a.s.A) → a ∈ T2
variable {K : List Fn} {Fs Fk : List (List ByteArray)} {B : List ByteArray}
theorem Lv.start_no (h : TM w tb m r nf (T.length : Int) T) (b : Bs P nf T B) (hB : B <+: f.s.A) (hf : f ∈ T) (hx : f.en x = none) : Lv w w tb m r P nf T f x [] T nf f [] := by
  have no : ∀ F z, LvF f [] F → ¬ HasE T F x z := fun F z c q => by
    rcases c with c | ⟨_, c, _⟩
    · obtain ⟨g, hg, g1, g2⟩ := q
      obtain rfl := h.same hg hf (g1.trans c)
      rw [hx] at g2
      cases g2
    · cases c
  refine ⟨⟨h, ⟨fun F' y z => ⟨fun c => ⟨c, ?_⟩, fun c => c.1⟩, fun j c => c, fun g hg => ?_, b.cn, b.few, Nat.le_refl _, b.ok⟩, hf, rfl, fun a ha _ => ha, fun _ _ _ _ => Iff.rfl⟩, Ch.refl _ _, List.nodup_nil, fun F => ⟨fun c => (by cases c), fun ⟨c, z, q⟩ => (no F z c q).elim⟩, fun _ => Below.refl _ _, fun _ _ _ => Iff.rfl, fun a ha _ _ => ha⟩
  · rintro ⟨c1, rfl⟩
    exact no F' z c1 c
  · rcases b.frm g hg with c | c | c | c
    · exact .inl c
    · exact .inr (.inl c)
    · exact .inr (.inr (.inl c))
    · exact .inr (.inr (.inr (c.trans hB)))
theorem Lv.start_yes {q : Int} (hf : f ∈ T) (hx : f.en x = some q) {T2 : List Fn} {nf2 : Int} {f2 : Fn} (h : TM w tb m r nf nn T) (u : Up wr tb m r P T f (fun F' => F' = f.s.A) x T2 nf2 f2) (k1 : ∀ y g, AtK (T2.map Fn.s) f.s y g ↔ AtK (T.map Fn.s) f.s y g) (k2 : ∀ a ∈ T, a.s.A ≠ f.s.A → a ∈ T2) (hc : Ch (isT tb T) w wr) : Lv w wr tb m r P nf T f x [] T2 nf2 f2 [f.s.A] := by
  have lf : ∀ F', LvF f [] F' ↔ F' = f.s.A := fun F' => ⟨fun c => c.elim id (fun ⟨_, c, _⟩ => (by cases c)), fun c => .inl c⟩
  have e : (fun F' => F' = f.s.A) = LvF f [] := by
    funext F'
    exact propext (lf F').symm
  rw [e] at u
  refine ⟨u, hc, by simp, fun F => ?_, fun c => (by cases c), fun y g _ => k1 y g, fun a ha hn _ => k2 a ha hn⟩
  rw [List.mem_singleton, lf]
  exact ⟨fun c => ⟨c, q, f, hf, c.symm, hx⟩, fun c => c.1⟩
theorem Lv.below (h : Lv w wr tb m r P nf T f x K T2 nf2 f2 Fs) (hb : Below wr.heap.size wr w2) : Lv w w2 tb m r P nf T f x K T2 nf2 f2 Fs := by
  obtain ⟨⟨u1, u2, u3, u4, u5, u6⟩, b, c, d, e, g, i⟩ := h
  exact ⟨⟨u1.below hb, u2, u3, u4, u5, u6⟩, b.then (Below.ch hb), c, d, fun q => (e q).trans (hb.mono (e q).size), g, i⟩
theorem Lv.bs (h : Lv w wr tb m r P nf T f x K T2 nf2 f2 Fs) (b : Bs P nf T B) : Bs P nf2 T2 f.s.A :=
  ⟨h.up.q.frm, h.up.q.cn, h.up.q.few, fun F' y z c => h.up.q.ok F' y z ((h.up.q.has F' y z).1 c).1, Nat.lt_of_le_of_lt h.up.q.le b.len⟩
theorem Lv.step0 (h : Lv w wr tb m r P nf T f x K T2 nf2 f2 Fs) (hb : Below wr.heap.size wr w2) (no : ∀ F z, k.s.A <+: F → ¬ HasE T2 F x z) : Lv w w2 tb m r P nf T f x (K ++ [k]) T2 nf2 f2 Fs := by
  have h' := h.below hb
  obtain ⟨⟨u1, u2, u3, u4, u5, u6⟩, b, c, d, e, g, i⟩ := h'
  refine ⟨⟨u1, u2.pred (fun F' z a c => ?_) (fun F' z _ c => LvF.more.2 (.inl c)), u3, u4, u5, u6⟩, b, c, fun F => ?_, e, fun y g' hk => g y g' (fun q hq => hk q (List.mem_append.2 (.inl hq))), fun a ha hn hk => i a ha hn (fun q hq => hk q (List.mem_append.2 (.inl hq)))⟩
  · rcases LvF.more.1 c with c | c
    · exact ((u2.has F' x z).1 a).2 ⟨c, rfl⟩
    · exact no F' z c a
  · rw [d]
    constructor
    · rintro ⟨c1, c2⟩
      exact ⟨LvF.more.2 (.inl c1), c2⟩
    · rintro ⟨c1, z, c2⟩
      rcases LvF.more.1 c1 with c | c
      · exact ⟨c, z, c2⟩
      · refine Classical.byContradiction fun q => no F z c ((u2.has F x z).2 ⟨c2, fun c3 => q ⟨c3.1, z, c2⟩⟩)
theorem Lv.step1 (h : Lv w wr tb m r P nf T f x K T2 nf2 f2 Fs) (ak : AtK (T.map Fn.s) f.s y1 k.s) (u : Up w2 tb m r P T2 f2 (fun F' => k.s.A <+: F') x T3 nf3 f3) (k1 : ∀ y g, y ≠ y1 → (AtK (T3.map Fn.s) f2.s y g ↔ AtK (T2.map Fn.s) f2.s y g)) (k2 : ∀ a ∈ T2, ¬ k.s.A <+: a.s.A → a.s.A ≠ f2.s.A → a ∈ T3) (hc : Ch (isT tb T2) wr w2)
    (nd : Fk.Nodup) (hF : ∀ F, F ∈ Fk ↔ k.s.A <+: F ∧ ∃ z, HasE T2 F x z) (ne : Fk ≠ []) : Lv w w2 tb m r P nf T f x (K ++ [k]) T3 nf3 f3 (Fs ++ Fk) := by
  obtain ⟨⟨u1, u2, u3, u4, u5, u6⟩, b, c, d, e, g, i⟩ := h
  obtain ⟨v1, v2, v3, v4, v5, v6⟩ := u
  rw [u4] at k1 k2 v2 v4 v5 v6
  have dis : ∀ F, F ∈ Fk → ¬ LvF f K F := fun F hF' cF => by
    obtain ⟨_, z, hz⟩ := (hF F).1 hF'
    exact ((u2.has F x z).1 hz).2 ⟨cF, rfl⟩
  refine ⟨⟨v1, ⟨fun F' y z => ?_, fun j c => u2.is j (v2.is j c), v2.frm, v2.cn, v2.few, Nat.le_trans v2.le u2.le, u2.ok⟩, v3, v4, fun a ha hl => v5 a (u5 a ha hl) hl, fun a hl y g' => (v6 a hl y g').trans (u6 a hl y g')⟩, b.trans hc (fun j _ c => u2.is j c), List.nodup_append.2 ⟨c, nd, fun a ha b' hb' e' => ?_⟩, fun F => ?_, fun q => ?_, fun y g' hk => ?_, fun a ha hn hk => ?_⟩
  · rw [v2.has, u2.has, LvF.more]
    constructor
    · rintro ⟨⟨a, b1⟩, b2⟩
      exact ⟨a, fun ⟨c1, c2⟩ => c1.elim (fun c1 => b1 ⟨c1, c2⟩) (fun c1 => b2 ⟨c1, c2⟩)⟩
    · rintro ⟨a, b1⟩
      exact ⟨⟨a, fun ⟨c1, c2⟩ => b1 ⟨.inl c1, c2⟩⟩, fun ⟨c1, c2⟩ => b1 ⟨.inr c1, c2⟩⟩
  · rw [← e'] at hb'
    exact dis a hb' ((d a).1 ha).1
  · rw [List.mem_append, d, hF, LvF.more]
    constructor
    · rintro (⟨c1, c2⟩ | ⟨c1, z, c2⟩)
      · exact ⟨.inl c1, c2⟩
      · exact ⟨.inr c1, z, ((u2.has F x z).1 c2).1⟩
    · rintro ⟨c1, z, c2⟩
      by_cases cl : LvF f K F
      · exact .inl ⟨cl, z, c2⟩
      · rcases c1 with c1 | c1
        · exact (cl c1).elim
        · exact .inr ⟨c1, z, (u2.has F x z).2 ⟨c2, fun c3 => cl c3.1⟩⟩
  · exact absurd (List.append_eq_nil_iff.1 q).2 ne
  · have ny : y ≠ y1 := fun q => hk k (by simp) (by rw [q]; exact ak)
    rw [k1 y g' ny]
    exact g y g' (fun q hq => hk q (List.mem_append.2 (.inl hq)))
  · exact k2 a (i a ha hn (fun q hq => hk q (List.mem_append.2 (.inl hq)))) (hk k (by simp)) hn
/-- All kids were left. -/
theorem lvf_all (h : TM w tb m r nf nn T) (hf : f ∈ T) (hK : ∀ k ∈ K, Kid f.s k.s) (all : ∀ g ∈ T, Kid f.s g.s → g ∈ K) {F : List ByteArray} {z : Int} (hz : HasE T F x z) : LvF f K F ↔ f.s.A <+: F := by
  constructor
  · rintro (c | ⟨k, hk, c⟩)
    · rw [c]; exact List.prefix_refl _
    · exact (hK k hk).goes.trans c
  · intro p
    obtain ⟨g, hg, rfl, _⟩ := hz
    obtain ⟨t, e⟩ := p
    cases t with
    | nil => exact .inl (by rw [← e, List.append_nil])
    | cons y t =>
      obtain ⟨q, hq, ka, kp⟩ := atk_rest h hf hg e.symm
      exact .inr ⟨q, all q hq ka.2.1, kp⟩
theorem Lv.ends (h0 : TM w tb m r nf nn T) (hf : f ∈ T) (h : Lv w wr tb m r P nf T f x K T2 nf2 f2 Fs) (hK : ∀ k ∈ K, Kid f.s k.s) (all : ∀ g ∈ T, Kid f.s g.s → g ∈ K) : Up wr tb m r P T f (fun F' => f.s.A <+: F') x T2 nf2 f2 ∧ ∀ F, F ∈ Fs ↔ f.s.A <+: F ∧ ∃ z, HasE T F x z := by
  obtain ⟨⟨u1, u2, u3, u4, u5, u6⟩, b, c, d, e, g, i⟩ := h
  refine ⟨⟨u1, u2.pred (fun F' z a p => ?_) (fun F' z a p => (lvf_all h0 hf hK all a).1 p), u3, u4, u5, u6⟩, fun F => ?_⟩
  · obtain ⟨a1, a2⟩ := (u2.has F' x z).1 a
    exact a2 ⟨(lvf_all h0 hf hK all a1).2 p, rfl⟩
  · rw [d]
    constructor
    · rintro ⟨c1, z, c2⟩
      exact ⟨(lvf_all h0 hf hK all c2).1 c1, z, c2⟩
    · rintro ⟨c1, z, c2⟩
      exact ⟨(lvf_all h0 hf hK all c2).2 c1, z, c2⟩
end Go.Proofs.YtepjcfhbbcaldaaGreat.Li
namespace Go.Proofs.YtepjcfhbbcaldaaGreat.Li
open Go Go.RowKit
set_option linter.unusedSimpArgs false
set_option linter.unusedVariables false
variable {w wr w2 : World} {tb m r P N : Nat} {nf nf2 nf3 nn : Int} {T T2 T3 : List Fn} {d f f2 f3 k : Fn} {x y0 y1 : ByteArray} {K : List Fn} {Fs Fk : List (List ByteArray)} {B : List ByteArray}
/-- What leave tells. -/
def LvR (w w' : World) (T : List Fn) (f : Fn) (x : ByteArray) (Q : Value → World → Prop) (e : Ending) : Prop := ∃ res Fs, e = .returned (.tuple #[res, .int .i64 (Fs.length : Int)]) ∧ List.Nodup Fs ∧ (∀ F, F ∈ Fs ↔ f.s.A <+: F ∧ ∃ z, HasE T F x z) ∧ ((Fs = [] ∧ res = ptr f.s.p ∧ Below w.heap.size w w') ∨ (Fs ≠ [] ∧ Q res w'))
/-- What leave does below a node. -/
def LeaveOk (tb m r P : Nat) (x : ByteArray) (N : Nat) : Prop := ∀ (w : World) (nf : Int) (T : List Fn) (f d : Fn) (y0 : ByteArray), 65537 ≤ f.s.A.length + N → TM w tb m r nf (T.length : Int) T → Bs P nf T d.s.A → f ∈ T → d ∈ T → AtK (T.map Fn.s) d.s y0 f.s →
  Calls Tryz.prog 27 #[ptr tb, ptr f.s.p, .string x] w fun e w' => LvR w w' T f x (fun res w' => WoE w' tb m r P T f.s.A f.s.p d y0 (fun F' => f.s.A <+: F') x res ∧ Ch (isT tb T) w w') e
theorem Lv.len (h : Lv w wr tb m r P nf T f x K T2 nf2 f2 Fs) : Fs.length ≤ T.length := by
  have := nodup_le Fs (T.map (fun f => f.s.A)) h.nd (fun F hF => by
    obtain ⟨_, z, g, hg, e, _⟩ := (h.mem F).1 hF
    exact List.mem_map.2 ⟨g, hg, e⟩)
  rw [List.length_map] at this
  exact this
/-- The kids of a node, in some order. -/
structure Pk (T : List Fn) (f : Fn) (K : List Fn) : Prop where
  mem : ∀ k ∈ K, k ∈ T ∧ Kid f.s k.s
  all : ∀ g ∈ T, Kid f.s g.s → g ∈ K
  apart : ∀ i k, K[i]? = some k → ∃ y, AtK (T.map Fn.s) f.s y k.s ∧ (∀ k' ∈ K.take i, ¬ AtK (T.map Fn.s) f.s y k'.s) ∧ (∀ k' ∈ K.take i, ¬ k'.s.A <+: k.s.A)
theorem pk_of (h : TM w tb m r nf nn T) (hf : f ∈ T) {kd : ByteArray → Option Value} {ys : List ByteArray} (hk : Kds (T.map Fn.s) f.s kd) (vs : Vs kd ys) : ∃ K : List Fn, K.length = ys.length ∧ ys.map (kv1 kd) = K.map (fun k => ptr k.s.p) ∧ Pk T f K := by
  have each : ∀ y ∈ ys, ∃ q : Fn, q ∈ T ∧ AtK (T.map Fn.s) f.s y q.s ∧ kd y = some (ptr q.s.p) := fun y hy => by
    obtain ⟨oy, hs⟩ := (vs.mem y).1 hy
    obtain ⟨v, hv⟩ := Option.isSome_iff_exists.1 hs
    obtain ⟨e, he, rfl⟩ := (hk y v oy).1 hv
    obtain ⟨q, hq, rfl⟩ := List.mem_map.1 he.1
    exact ⟨q, hq, he, hv⟩
  obtain ⟨K, k1, k2⟩ := pick_list ys each
  have at_ : ∀ i k, K[i]? = some k → ∃ y, ys[i]? = some y ∧ k ∈ T ∧ AtK (T.map Fn.s) f.s y k.s ∧ kd y = some (ptr k.s.p) := fun i k hi => by
    have hl := (List.getElem?_eq_some_iff.1 hi).1
    obtain ⟨q, q1, q2, q3, q4⟩ := k2 i _ (List.getElem?_eq_getElem (by omega : i < ys.length))
    rw [hi] at q1
    cases q1
    exact ⟨_, List.getElem?_eq_getElem (by omega), q2, q3, q4⟩
  refine ⟨K, k1, ?_, ⟨fun k hk => ?_, fun g hg kg => ?_, fun i k hi => ?_⟩⟩
  · refine List.ext_getElem? (fun i => ?_)
    rw [List.getElem?_map, List.getElem?_map]
    cases c : K[i]? with
    | none =>
      have : ys[i]? = none := by rw [List.getElem?_eq_none_iff] at c ⊢; omega
      rw [this]; rfl
    | some k =>
      obtain ⟨y, e1, _, _, e4⟩ := at_ i k c
      rw [e1]
      show some (kv1 kd y) = some (ptr k.s.p)
      unfold kv1
      rw [e4]
      rfl
  · obtain ⟨i, hi⟩ := List.getElem?_of_mem hk
    obtain ⟨y, _, e2, e3, _⟩ := at_ i k hi
    exact ⟨e2, e3.2.1⟩
  · have lt := top_lt kg.1 (h.inv.le g.s (List.mem_map_of_mem hg)).1
    obtain ⟨y, hy⟩ : ∃ y, g.s.A[g.s.top]? = some y := ⟨_, List.getElem?_eq_getElem lt⟩
    have ak : AtK (T.map Fn.s) f.s y g.s := ⟨List.mem_map_of_mem hg, kg, hy⟩
    have oy : okT y := by have := (h.ok g hg).1 y (List.mem_of_getElem? hy); unfold okT maxLen; omega
    have hv := (hk y _ oy).2 ⟨g.s, ak, rfl⟩
    obtain ⟨i, hi⟩ := List.getElem?_of_mem ((vs.mem y).2 ⟨oy, by rw [hv]; rfl⟩)
    obtain ⟨q, q1, q2, q3, _⟩ := k2 i y hi
    have := h.same q2 hg (congrArg Nd.A (h.inv.atk q3 ak))
    rw [← this]
    exact List.mem_of_getElem? q1
  · obtain ⟨y, e1, e2, e3, _⟩ := at_ i k hi
    have oth : ∀ k' ∈ K.take i, ∃ y', y' ≠ y ∧ AtK (T.map Fn.s) f.s y' k'.s := fun k' hk' => by
      obtain ⟨j, hj⟩ := List.getElem?_of_mem hk'
      have jl : j < i := by
        have := (List.getElem?_eq_some_iff.1 hj).1
        rw [List.length_take] at this
        omega
      rw [List.getElem?_take, if_pos jl] at hj
      obtain ⟨y', a1, a2, a3, _⟩ := at_ j k' hj
      refine ⟨y', fun q => ?_, a3⟩
      rw [q] at a1
      have li := (List.getElem?_eq_some_iff.1 e1)
      have lj := (List.getElem?_eq_some_iff.1 a1)
      obtain ⟨l1, q1⟩ := li
      obtain ⟨l2, q2⟩ := lj
      exact (List.pairwise_iff_getElem.1 vs.nd) j i l2 l1 jl (q2.trans q1.symm)
    refine ⟨y, e3, fun k' hk' c => ?_, fun k' hk' c => ?_⟩
    · obtain ⟨y', ne, a⟩ := oth k' hk'
      have := a.2.2
      rw [c.2.2] at this
      injection this with this
      exact ne this.symm
    · obtain ⟨y', ne, a⟩ := oth k' hk'
      have p1 : (f.s.A ++ [y']) <+: k.s.A := by rw [← atk_take a.2.1 a.2.2]; exact (List.take_prefix _ _).trans c
      have p2 : (f.s.A ++ [y]) <+: k.s.A := by rw [← atk_take e3.2.1 e3.2.2]; exact List.take_prefix _ _
      obtain ⟨t1, h1⟩ := p1
      obtain ⟨t2, h2⟩ := p2
      rw [← h2, List.append_assoc, List.append_assoc] at h1
      have := List.append_cancel_left h1
      simp at this
      exact ne this.1
theorem take_next {K : List Fn} {i : Nat} (hi : K[i]? = some k) : K.take (i + 1) = K.take i ++ [k] := by
  rw [List.take_add_one, hi]
  rfl
/-- One kid is left. -/
theorem leave_kid (IH : LeaveOk tb m r P x N) (h0 : TM w tb m r nf (T.length : Int) T) (b : Bs P nf T B) (hf : f ∈ T) (pk : Pk T f K) {i : Nat} (hi : K[i]? = some k) (hN : 65537 ≤ f.s.A.length + (N + 1)) (lv : Lv w wr tb m r P nf T f x (K.take i) T2 nf2 f2 Fs) :
    Calls Tryz.prog 27 #[ptr tb, ptr k.s.p, .string x] wr fun e w' => ∃ (res : Option Addr) (Fk : List (List ByteArray)), e = .returned (.tuple #[.pointer res, .int .i64 (Fk.length : Int)]) ∧ Fk.length ≤ 900000 ∧
      ((Fk = [] ∧ Below wr.heap.size wr w' ∧ Lv w w' tb m r P nf T f x (K.take (i + 1)) T2 nf2 f2 Fs) ∨
       (Fk ≠ [] ∧ Calls Tryz.prog 20 #[ptr tb, ptr f.s.p] w' (fun e w'' => e = .returned (ptr f.s.p) ∧ Below w'.heap.size w' w'') ∧ ∀ w'', Below w'.heap.size w' w'' → Calls Tryz.prog 43 #[ptr f.s.p, ptr k.s.p, .pointer res] w'' fun e w3 => e = .returned (.tuple #[]) ∧ Ch (isT tb T) wr w3 ∧ ∃ T3 nf3 f3, Lv w w3 tb m r P nf T f x (K.take (i + 1)) T3 nf3 f3 (Fs ++ Fk))) := by
  obtain ⟨y, ak, n1, n2⟩ := pk.apart i k hi
  have hkT := (pk.mem k (List.mem_of_getElem? hi)).1
  have klt := ak.2.1.lt (h0.inv.le k.s ak.1).1
  have hk2 : k ∈ T2 := lv.keep k hkT (fun q => by rw [q] at klt; omega) n2
  have ak2 : AtK (T2.map Fn.s) f2.s y k.s := by rw [lv.up.s]; exact (lv.kid y k.s n1).2 ak
  have b2 := lv.bs b
  have b2' : Bs P nf2 T2 f2.s.A := by rw [lv.up.s]; exact b2
  rw [take_next hi]
  refine (IH wr nf2 T2 k f2 y (by omega) lv.up.tm b2' hk2 lv.up.mem ak2).mono ?_
  rintro e w' ⟨res, Fk, rfl, nd, hF, c⟩
  obtain ⟨ra, rfl⟩ : ∃ ra, res = .pointer ra := by
    rcases c with ⟨_, c2, _⟩ | ⟨_, wo, _⟩
    · exact ⟨_, c2⟩
    · obtain ⟨⟨_, _, _, _, _, _, _, c⟩, _⟩ := wo
      rcases c with ⟨c, _⟩ | ⟨q, _, c, _⟩
      · exact ⟨_, c⟩
      · exact ⟨_, c⟩
  have fl : Fk.length ≤ 900000 := by
    have q := nodup_le Fk (T2.map (fun f => f.s.A)) nd (fun F hFk => by
      obtain ⟨_, z, g, hg, e, _⟩ := (hF F).1 hFk
      exact List.mem_map.2 ⟨g, hg, e⟩)
    rw [List.length_map] at q
    have := b2.len
    omega
  refine ⟨ra, Fk, rfl, fl, ?_⟩
  rcases c with ⟨c1, c2, c3⟩ | ⟨c1, wo, hc⟩
  · refine .inl ⟨c1, c3, lv.step0 c3 (fun F z p q => ?_)⟩
    have := (hF F).2 ⟨p, z, q⟩
    rw [c1] at this
    cases this
  · refine .inr ⟨c1, ?_, fun w'' hb => ?_⟩
    · obtain ⟨⟨T', nf', pm, q, kU, _⟩, _⟩ := wo
      have f2' : f2 ∈ T' := kU f2 lv.up.mem (fun p => by have := p.length_le; rw [lv.up.s] at this; omega)
      obtain ⟨_, ff⟩ := pm.nd0 f2 f2' rfl
      have := own_any pm.tr ff.at_
      rw [lv.up.s] at this
      exact this
    · have := replace_up lv.up.tm b2' lv.up.mem hk2 ak2 (wo.below hb) (hc.then (Below.ch hb))
      rw [lv.up.s] at this
      refine this.mono ?_
      rintro e w3 ⟨rfl, ⟨T3, nf3, f3, u, k1, k2⟩, hc3⟩
      refine ⟨rfl, hc3.mono (fun j _ c => lv.up.q.is j c), T3, nf3, f3, lv.step1 ak u ?_ ?_ hc3 nd hF c1⟩
      · rw [lv.up.s]; exact k1
      · rw [lv.up.s]; exact k2
end Go.Proofs.YtepjcfhbbcaldaaGreat.Li
namespace Go.Proofs.YtepjcfhbbcaldaaGreat.Li
open Go Go.RowKit
set_option linter.unusedSimpArgs false
set_option linter.unusedVariables false
variable {w wr w2 : World} {tb m r P N : Nat} {nf nf2 nf3 nn : Int} {T T2 T3 : List Fn} {d f f2 f3 k : Fn} {x y0 y1 : ByteArray} {K : List Fn} {Fs Fk : List (List ByteArray)} {B : List ByteArray} {i : Nat} {v : Value}
theorem row52 {w : World} {b : Nat} {a : Option Addr} {n c : Nat} {xs : List Value} (h : w.ownsRow b 52 1 (.slice a n c) n xs) (hi : xs[i]? = some v) (il : i < n) : ∃ g o, a = some ⟨g, o, none⟩ ∧ w.cell? ⟨g, o + i, none⟩ = some v := by
  rcases h.2 with ⟨e, h0⟩ | ⟨g, cap, cur, e, _, hb, h1, h2, h3, h4⟩
  · omega
  · injection e with e1 e2 e3
    refine ⟨g, 0, e1, ?_⟩
    have hc : cur[0 + i]? = some v := by
      have := congrArg (fun l => l[i]?) h4
      rw [Nat.mul_one, List.getElem?_take, if_pos il, hi] at this
      rw [Nat.zero_add, ← Array.getElem?_toList]
      exact this
    exact box_cells hb (0 + i) v hc
/-- The kids are at hand. -/
structure Stt (w wr : World) (tb m r P : Nat) (nf : Int) (T : List Fn) (f : Fn) (x : ByteArray) (K : List Fn) (i : Nat) (v : Value) (T2 : List Fn) (nf2 : Int) (f2 : Fn) (Fs : List (List ByteArray)) : Prop where
  lv : Lv w wr tb m r P nf T f x (K.take i) T2 nf2 f2 Fs
  row : wr.ownsRow w.heap.size 52 1 v K.length (K.map (fun k => ptr k.s.p))
theorem Stt.start (h0 : TM w tb m r nf (T.length : Int) T) (b : Bs P nf T B) (hf : f ∈ T) (lv : Lv w wr tb m r P nf T f x [] T2 nf2 f2 Fs) : ∃ ko nk kd, wr.cell? ⟨f.s.p, 3, none⟩ = some (.map ko) ∧ MG wr (.map ko) nk kd ∧ AllP kd ∧ nk ≤ 1000000 ∧ ∀ ys v w3, Vs kd ys → w3.ownsRow (wr.alloc (.cells #[.map ko] 69)).heap.size 52 1 v ys.length (ys.map (kv1 kd)) → Below (wr.alloc (.cells #[.map ko] 69)).heap.size (wr.alloc (.cells #[.map ko] 69)) w3 → ∃ K : List Fn, ys.length = K.length ∧ Pk T f K ∧ Stt w w3 tb m r P nf T f x K 0 v T2 nf2 f2 Fs := by
  have f2n := lv.up.tm.nd f2 lv.up.mem
  obtain ⟨nk, kd, n1, n2, n3⟩ := f2n.kv
  obtain ⟨ko, hko⟩ := map_of n2
  have n3' : Kds (T.map Fn.s) f.s kd := fun y v oy => by
    rw [n3 y v oy, lv.up.s]
    constructor
    · rintro ⟨e, c1, c2⟩
      exact ⟨e, (lv.kid y e (fun k hk => by cases hk)).1 c1, c2⟩
    · rintro ⟨e, c1, c2⟩
      exact ⟨e, (lv.kid y e (fun k hk => by cases hk)).2 c1, c2⟩
  refine ⟨ko, nk, kd, ?_, by rw [← hko]; exact n2, fun y v oy e => ?_, ?_, fun ys v w3 vs o hb => ?_⟩
  · rw [← hko, ← lv.up.s]
    exact box_cells f2n.at_ 3 _ rfl
  · obtain ⟨e', _, c⟩ := (n3 y v oy).1 e
    exact ⟨_, c⟩
  · have := lv.up.q.le
    have := b.len
    omega
  · obtain ⟨K, k1, k2, k3⟩ := pk_of h0 hf n3' vs
    have ba : Below wr.heap.size wr w3 := ((Below.refl _ _).alloc (Nat.le_refl _) _).trans (hb.mono (by simp))
    refine ⟨K, k1.symm, k3, ⟨by rw [List.take_zero]; exact lv.below ba, ?_⟩⟩
    rw [k1, ← k2]
    refine row_base o (fun g e => ?_)
    have h1 := row_ge o e
    have h2 := lv.ch.size
    simp at h1
    omega
theorem Stt.keep (h : Stt w wr tb m r P nf T f x K i v T2 nf2 f2 Fs) (h0 : TM w tb m r nf nn T) (hc : Ch (isT tb T) wr w2) : w2.ownsRow w.heap.size 52 1 v K.length (K.map (fun k => ptr k.s.p)) :=
  own_ch h.row hc (fun g e c => by have := row_ge h.row e; have := h0.islt c; omega)
theorem Stt.kid (IH : LeaveOk tb m r P x N) (h0 : TM w tb m r nf (T.length : Int) T) (b : Bs P nf T B) (hf : f ∈ T) (pk : Pk T f K) (hi : K[i]? = some k) (hN : 65537 ≤ f.s.A.length + (N + 1)) (st : Stt w wr tb m r P nf T f x K i v T2 nf2 f2 Fs) :
    Calls Tryz.prog 27 #[ptr tb, ptr k.s.p, .string x] wr fun e w' => ∃ (res : Option Addr) (Fk : List (List ByteArray)), e = .returned (.tuple #[.pointer res, .int .i64 (Fk.length : Int)]) ∧ Fk.length ≤ 900000 ∧
      ((Fk.length = 0 ∧ Stt w w' tb m r P nf T f x K (i + 1) v T2 nf2 f2 Fs) ∨
       (0 < Fk.length ∧ Calls Tryz.prog 20 #[ptr tb, ptr f.s.p] w' (fun e w'' => e = .returned (ptr f.s.p) ∧ Below w'.heap.size w' w'') ∧ ∀ w'', Below w'.heap.size w' w'' → Calls Tryz.prog 43 #[ptr f.s.p, ptr k.s.p, .pointer res] w'' fun e w3 => e = .returned (.tuple #[]) ∧ ∃ T3 nf3 f3, Stt w w3 tb m r P nf T f x K (i + 1) v T3 nf3 f3 (Fs ++ Fk))) := by
  refine (leave_kid IH h0 b hf pk hi hN st.lv).mono ?_
  rintro e w' ⟨res, Fk, rfl, fl, c⟩
  refine ⟨res, Fk, rfl, fl, ?_⟩
  rcases c with ⟨c1, c2, c3⟩ | ⟨c1, c2, c3⟩
  · exact .inl ⟨by rw [c1]; rfl, c3, own_below st.row c2⟩
  · refine .inr ⟨List.length_pos_iff.2 c1, c2, fun w'' hb => (c3 w'' hb).mono ?_⟩
    rintro e w3 ⟨rfl, hc, T3, nf3, f3, lv⟩
    exact ⟨rfl, T3, nf3, f3, lv, st.keep h0 hc⟩
end Go.Proofs.YtepjcfhbbcaldaaGreat.Li
namespace Go.Proofs.YtepjcfhbbcaldaaGreat.Li
open Go Go.RowKit
set_option linter.unusedSimpArgs false
set_option linter.unusedVariables false
variable {w wr w2 : World} {tb m r P N : Nat} {nf nf2 nf3 nn : Int} {T T2 T3 : List Fn} {d f f2 f3 k : Fn} {x y0 y1 : ByteArray} {K : List Fn} {Fs Fk : List (List ByteArray)} {B : List ByteArray}
theorem row_max {w : World} {b e s n : Nat} {v : Value} {xs : List Value} (h : w.ownsRow b e s v n xs) : n ≤ maxLen := by
  rcases h.2 with ⟨_, h0⟩ | ⟨g, cap, cur, e, _, hb, h1, h2, h3, h4⟩
  · omega
  · omega
theorem Stt.ends (h : TM w tb m r nf (T.length : Int) T) (hf : f ∈ T) (pk : Pk T f K) {v : Value} (st : Stt w wr tb m r P nf T f x K K.length v T2 nf2 f2 Fs) {Q : Value → World → Prop} (ti : TidyOk tb m r P T f (fun F' => f.s.A <+: F') x w Q) :
    (Fs.length = 0 → LvR w wr T f x Q (.returned (.tuple #[ptr f.s.p, .int .i64 (Fs.length : Int)]))) ∧ (0 < Fs.length → Calls Tryz.prog 42 #[ptr tb, ptr f.s.p] wr fun e w' => ∃ res, e = .returned res ∧ LvR w w' T f x Q (.returned (.tuple #[res, .int .i64 (Fs.length : Int)]))) := by
  have lv := st.lv
  rw [List.take_length] at lv
  obtain ⟨u, hm⟩ := lv.ends h hf (fun k hk => (pk.mem k hk).2) pk.all
  refine ⟨fun c => ⟨_, Fs, rfl, lv.nd, hm, .inl ⟨List.length_eq_zero_iff.1 c, rfl, lv.nil (List.length_eq_zero_iff.1 c)⟩⟩, fun c => ?_⟩
  refine (ti wr T2 nf2 f2 u lv.ch).mono ?_
  rintro e w' ⟨res, rfl, hQ⟩
  exact ⟨res, rfl, res, Fs, rfl, lv.nd, hm, .inr ⟨List.length_pos_iff.1 c, hQ⟩⟩
set_option maxRecDepth 100000 in
set_option maxHeartbeats 4000000 in
theorem leave_core (IH : LeaveOk tb m r P x N) (h : TM w tb m r nf (T.length : Int) T) (b : Bs P nf T B) (hB : B <+: f.s.A) (hP : P ≤ 100000) (hx : okT x) (hf : f ∈ T) (hN : 65537 ≤ f.s.A.length + (N + 1)) {Q : Value → World → Prop} (ti : TidyOk tb m r P T f (fun F' => f.s.A <+: F') x w Q) :
    Calls Tryz.prog 27 #[ptr tb, ptr f.s.p, .string x] w fun e w' => LvR w w' T f x Q e := by
  have fd := h.nd f hf
  obtain ⟨eo, heo⟩ := map_of fd.ev
  have c2 : w.cell? ⟨f.s.p, 2, none⟩ = some (.map eo) := by rw [← heo]; exact box_cells fd.at_ 2 _ rfl
  have LK2 : (Instr.lookup 61 (.map eo) (.string x) true).run Tryz.prog w = .ok (.tuple #[((f.en x).map (Value.int .i64)).getD (.int .i64 0), .bool ((f.en x).map (Value.int .i64)).isSome]) w := by
    have := fd.ev.look2 Tryz.underlying61 zero3 hx
    rw [heo] at this
    exact this
  have TL := hidi b.len
  have KD := hidi (fun (i : Nat) (k : Fn) (v : Value) (wr : World) (T2 : List Fn) (nf2 : Int) (f2 : Fn) (Fs : List (List ByteArray)) (K : List Fn) (pk : Pk T f K) (hi : K[i]? = some k) (st : Stt w wr tb m r P nf T f x K i v T2 nf2 f2 Fs) => Stt.kid IH h b hf pk hi hN st)
  have EN := hidi (fun (wr : World) (v : Value) (T2 : List Fn) (nf2 : Int) (f2 : Fn) (Fs : List (List ByteArray)) (K : List Fn) (pk : Pk T f K) (st : Stt w wr tb m r P nf T f x K K.length v T2 nf2 f2 Fs) => Stt.ends h hf pk st ti)
  have zz : ∀ {wa : World} {T2 : List Fn} {nf2 : Int} {f2 : Fn} {Fs : List (List ByteArray)} (lv : Lv w wa tb m r P nf T f x [] T2 nf2 f2 Fs), ∃ ko nk kd, wa.cell? ⟨f.s.p, 3, none⟩ = some (.map ko) ∧ Calls Tryz.prog 45 #[.func (.func 63) #[] #[ptr wa.heap.size]] (wa.alloc (.cells #[.map ko] 69)) (fun e w' => ∃ v ys K, e = .returned v ∧ (∃ a c, v = .slice a (ys : List ByteArray).length c) ∧ ys.length = List.length K ∧ Pk T f K ∧ Stt w w' tb m r P nf T f x K 0 v T2 nf2 f2 Fs) := fun {wa T2 nf2 f2 Fs} lv => by
    obtain ⟨ko, nk, kd, c3, hMG, hAP, hNK, sp⟩ := Stt.start h b hf lv
    refine ⟨ko, nk, kd, c3, (vals_collect (hMG.keep (fun b e => ((Below.refl wa.heap.size wa).alloc (Nat.le_refl _) _).block b (hMG.lt e))) hAP hNK (heap_alloc_new wa _)).mono ?_⟩
    rintro e wc ⟨v, ys, rfl, hvs, hrow, hbc⟩
    obtain ⟨K, k1, pk, st⟩ := sp ys v wc hvs hrow hbc
    exact ⟨v, ys, K, rfl, own_sl hrow, k1, pk, st⟩
  cases hen : f.en x with
  | none =>
    rw [hen] at LK2
    have hlook : (Instr.lookup 61 (.map eo) (.string x) true).run Tryz.prog w = .ok (.tuple #[.int .i64 0, .bool false]) w := LK2
    obtain ⟨ko, nk, kd, c3, cl⟩ := zz (Lv.start_no h b hB hf hen)
    have CL := hidi cl
    unfold ptr at *
    clear IH h b hB hP hx hf hN ti fd heo LK2 hen zz cl
    go_enter Tryz.func27, Tryz.ntmps27
    go_wp2_with (first
      | (go_at_call 46; refine (values_any _ _).mono ?_; rintro e wb ⟨rfl, rfl⟩; unfold ptr)
      | (go_at_call 45; refine CL.out.mono ?_; rintro e wc ⟨v, ys, K, rfl, ⟨va, vc, rfl⟩, k1, pk, st⟩; have ST := hidi st; have PK := hidi pk; have HK := hidi k1; clear st pk k1 CL c3 c2 hlook))

    obtain ⟨len, hlen⟩ : ∃ len, len = ys.length := ⟨_, rfl⟩
    rw [← hlen] at ST ⊢
    have HL : Hid (len = K.length) := hlen.trans HK.out
    clear hlen HK
    go_loopg [1, 8, 41] len (fun gg s1 s8 s41 wr => ∃ (i : Nat) (T2 : List Fn) (nf2 : Int) (f2 : Fn) (Fs : List (List ByteArray)), i ≤ len ∧ gg = len - i ∧ s1 = .pointer (some ⟨f.s.p, 0, none⟩) ∧ s8 = .int .i64 (Fs.length : Int) ∧ s41 = .int .i64 (i : Int) ∧ Hid (Stt w wr tb m r P nf T f x K i (.slice va len vc) T2 nf2 f2 Fs))
    case atStart => exact ⟨0, _, _, _, _, Nat.zero_le _, rfl, rfl, rfl, rfl, ST⟩
    case round =>
      clear ST
      obtain ⟨i, T2', nf2', f2', Fs', hi, rfl, rfl, rfl, rfl, ST⟩ := hrel
      have FL := hidi ST.out.lv.len
      by_cases hlt : i < len
      · have hlt' : (i : Int) < len := by omega
        obtain ⟨k, hk⟩ : ∃ k, K[i]? = some k := ⟨_, List.getElem?_eq_getElem (by have := HL.out; omega)⟩
        have KC := hidi (KD.out _ _ _ _ _ _ _ _ _ PK.out hk ST.out)
        obtain ⟨g, o, rfl, hc⟩ := row52 (v := ptr k.s.p) (i := i) (by have := ST.out.row; rw [← HL.out] at this; exact this) (by rw [List.getElem?_map, hk]; rfl) hlt
        have hw1 : IntKind.i64.wrap ((i : Int) + 1) = (i : Int) + 1 := by rw [IntKind.wrap_i64]; have := row_max ST.out.row; unfold maxLen at this; have := HL.out; omega
        unfold ptr at *
        clear hk ST
        go_wp2_with (first
          | (go_at_call 27; refine KC.out.mono ?_; rintro e wk ⟨res, Fk, rfl, fl, cc⟩; obtain ⟨gl, hgl⟩ : ∃ gl, gl = Fk.length := ⟨_, rfl⟩; rw [← hgl] at cc ⊢; have hw2 : IntKind.i64.wrap ((Fs'.length : Int) + gl) = (Fs'.length : Int) + gl := (by rw [IntKind.wrap_i64]; have := FL.out; have := TL.out; omega); have CC := hidi cc; have GL := hidi hgl; clear KC fl cc hgl hc)
          | (go_at_call 20; rcases CC.out with ⟨c, _⟩ | ⟨_, c, c'⟩; · exfalso; omega
             refine c.mono ?_; rintro e wo ⟨rfl, hb⟩; have R3 := hidi (c' wo hb); clear hb c c' CC)
          | (go_at_call 43; refine R3.out.mono ?_; rintro e wp ⟨rfl, T3, nf3, f3, st⟩; have S3 := hidi st; clear st R3))
        · go_roundg (len - (i + 1))
          case measure => omega
          case rel => exact ⟨i + 1, T3, nf3, f3, Fs' ++ Fk, by omega, rfl, rfl, by have := GL.out; simp; omega, by simp, S3⟩
        · rcases CC.out with ⟨c1, st⟩ | ⟨c1, _⟩
          · have S3 := hidi st
            clear st CC
            go_roundg (len - (i + 1))
            case measure => omega
            case rel => exact ⟨i + 1, T2', nf2', f2', Fs', by omega, rfl, rfl, rfl, by simp, S3⟩
          · exfalso; omega
      · have hlt' : ¬ (i : Int) < len := by omega
        have e : i = K.length := by have := HL.out; omega
        have st := ST.out
        rw [e] at st
        have EE := hidi (EN.out _ _ _ _ _ _ _ PK.out st)
        clear st ST e
        unfold ptr at *
        go_wp2_with (go_at_call 42; refine (EE.out.2 (by omega)).mono ?_; rintro e wz ⟨res, rfl, hq⟩; have HQ := hidi hq; clear hq)
        · go_ret2
          exact HQ.out
        · go_ret2
          exact EE.out.1 (by omega)
  | some q =>
    rw [hen] at LK2
    have hlook : (Instr.lookup 61 (.map eo) (.string x) true).run Tryz.prog w = .ok (.tuple #[.int .i64 q, .bool true]) w := LK2
    have OW := hidi (own_any h.tr fd.at_)
    have FO := hidi (fun (w1 : World) (hb : Below w.heap.size w w1) => (show Calls Tryz.prog 41 #[ptr tb, ptr f.s.p, .string x] w1 fun e w2 => e = .returned (.tuple #[]) ∧ ∃ T2 nf2 f2, Lv w w2 tb m r P nf T f x [] T2 nf2 f2 [f.s.A] from by
      refine (forget_up h b hB hP hf hen hb).mono ?_
      rintro e w2 ⟨rfl, ⟨T2, nf2, f2, u, k1, k2⟩, hc⟩
      exact ⟨rfl, T2, nf2, f2, Lv.start_yes hf hen h u k1 k2 hc⟩))
    have ZF := hidi (fun (wa : World) (T2 : List Fn) (nf2 : Int) (f2 : Fn) (lv : Lv w wa tb m r P nf T f x [] T2 nf2 f2 [f.s.A]) => zz lv)
    unfold ptr at *
    clear IH h b hB hP hx hf hN ti fd heo LK2 hen zz
    go_enter Tryz.func27, Tryz.ntmps27
    go_wp2_with (first
      | (go_at_call 20; refine OW.out.mono ?_; rintro e w1 ⟨rfl, hb⟩; have F1 := hidi (FO.out w1 hb); clear hb OW FO)
      | (go_at_call 41; refine F1.out.mono ?_; rintro e wa ⟨rfl, T2, nf2, f2, lv⟩; obtain ⟨ko, nk, kd, c3, cl⟩ := ZF.out _ _ _ _ lv; have CL := hidi cl; clear lv cl ZF F1)
      | (go_at_call 46; refine (values_any _ _).mono ?_; rintro e wb ⟨rfl, rfl⟩; unfold ptr)
      | (go_at_call 45; refine CL.out.mono ?_; rintro e wc ⟨v, ys, K, rfl, ⟨va, vc, rfl⟩, k1, pk, st⟩; have ST := hidi st; have PK := hidi pk; have HK := hidi k1; clear st pk k1 CL c3 c2 hlook))

    obtain ⟨len, hlen⟩ : ∃ len, len = ys.length := ⟨_, rfl⟩
    rw [← hlen] at ST ⊢
    have HL : Hid (len = K.length) := hlen.trans HK.out
    clear hlen HK
    go_loopg [1, 8, 41] len (fun gg s1 s8 s41 wr => ∃ (i : Nat) (T2 : List Fn) (nf2 : Int) (f2 : Fn) (Fs : List (List ByteArray)), i ≤ len ∧ gg = len - i ∧ s1 = .pointer (some ⟨f.s.p, 0, none⟩) ∧ s8 = .int .i64 (Fs.length : Int) ∧ s41 = .int .i64 (i : Int) ∧ Hid (Stt w wr tb m r P nf T f x K i (.slice va len vc) T2 nf2 f2 Fs))
    case atStart => exact ⟨0, _, _, _, _, Nat.zero_le _, rfl, rfl, rfl, rfl, ST⟩
    case round =>
      clear ST
      obtain ⟨i, T2', nf2', f2', Fs', hi, rfl, rfl, rfl, rfl, ST⟩ := hrel
      have FL := hidi ST.out.lv.len
      by_cases hlt : i < len
      · have hlt' : (i : Int) < len := by omega
        obtain ⟨k, hk⟩ : ∃ k, K[i]? = some k := ⟨_, List.getElem?_eq_getElem (by have := HL.out; omega)⟩
        have KC := hidi (KD.out _ _ _ _ _ _ _ _ _ PK.out hk ST.out)
        obtain ⟨g, o, rfl, hc⟩ := row52 (v := ptr k.s.p) (i := i) (by have := ST.out.row; rw [← HL.out] at this; exact this) (by rw [List.getElem?_map, hk]; rfl) hlt
        have hw1 : IntKind.i64.wrap ((i : Int) + 1) = (i : Int) + 1 := by rw [IntKind.wrap_i64]; have := row_max ST.out.row; unfold maxLen at this; have := HL.out; omega
        unfold ptr at *
        clear hk ST
        go_wp2_with (first
          | (go_at_call 27; refine KC.out.mono ?_; rintro e wk ⟨res, Fk, rfl, fl, cc⟩; obtain ⟨gl, hgl⟩ : ∃ gl, gl = Fk.length := ⟨_, rfl⟩; rw [← hgl] at cc ⊢; have hw2 : IntKind.i64.wrap ((Fs'.length : Int) + gl) = (Fs'.length : Int) + gl := (by rw [IntKind.wrap_i64]; have := FL.out; have := TL.out; omega); have CC := hidi cc; have GL := hidi hgl; clear KC fl cc hgl hc)
          | (go_at_call 20; rcases CC.out with ⟨c, _⟩ | ⟨_, c, c'⟩; · exfalso; omega
             refine c.mono ?_; rintro e wo ⟨rfl, hb⟩; have R3 := hidi (c' wo hb); clear hb c c' CC)
          | (go_at_call 43; refine R3.out.mono ?_; rintro e wp ⟨rfl, T3, nf3, f3, st⟩; have S3 := hidi st; clear st R3))
        · go_roundg (len - (i + 1))
          case measure => omega
          case rel => exact ⟨i + 1, T3, nf3, f3, Fs' ++ Fk, by omega, rfl, rfl, by have := GL.out; simp; omega, by simp, S3⟩
        · rcases CC.out with ⟨c1, st⟩ | ⟨c1, _⟩
          · have S3 := hidi st
            clear st CC
            go_roundg (len - (i + 1))
            case measure => omega
            case rel => exact ⟨i + 1, T2', nf2', f2', Fs', by omega, rfl, rfl, rfl, by simp, S3⟩
          · exfalso; omega
      · have hlt' : ¬ (i : Int) < len := by omega
        have e : i = K.length := by have := HL.out; omega
        have st := ST.out
        rw [e] at st
        have EE := hidi (EN.out _ _ _ _ _ _ _ PK.out st)
        clear st ST e
        unfold ptr at *
        go_wp2_with (go_at_call 42; refine (EE.out.2 (by omega)).mono ?_; rintro e wz ⟨res, rfl, hq⟩; have HQ := hidi hq; clear hq)
        · go_ret2
          exact HQ.out
        · go_ret2
          exact EE.out.1 (by omega)
end Go.Proofs.YtepjcfhbbcaldaaGreat.Li
