import Derived.Test.YtepjcfhbbcaldaaGreatKib
import Derived.RangeFuncBox
import Derived.RangeFuncNested
import Derived.RangeFuncLeaves
import Derived.RangeFuncCalls
import Derived.Shelf.Abstract
import Derived.Shelf.RegionOpen
import Derived.WalkKit
import Derived.OwnWalkIn
import Derived.TacticsInMore
import Derived.LoopNIn
import Derived.LoopIn
import Derived.RegionIn
import Derived.Deep.RegionHeld
import Derived.Deep.RegionHeldLaw
import Derived.Test.YtepjcfhbbcaldaaGreatCc
namespace Go.Proofs.YtepjcfhbbcaldaaGreat.Li
open Go Go.RowKit Go.Maps Go.Sort Go.Shelf
set_option linter.unusedSimpArgs false
set_option linter.unusedVariables false
attribute [local go_sem] Oper.semAt_some
/-- slices.Sorted(maps.Keys(m)), the iterator in hand. -/
theorem sortedKB_any {w : World} {mv : Value} {n : Nat} {f : ByteArray → Option Value} (hm : MG w mv n f) (hn : n ≤ 1000000) (Bm : Nat) (hBm : Bm < w.heap.size) (hc : w.cell? ⟨Bm, 0, none⟩ = some mv) :
    Calls Tryz.prog 47 #[.func (.func 77) #[] #[.pointer (some ⟨Bm, 0, none⟩)]] w fun e w' => ∃ v L, e = .returned v ∧ w'.ownsRow w.heap.size 9 1 v L.length (L.map Value.string) ∧ KsOf f n L ∧ Below w.heap.size w w' := by
  rcases hm with ⟨rfl, rfl, h2⟩ | ⟨mb, D, rfl, hown, hsz, hD⟩
  · have hseq : SeqGives Fence.wide 2 Tryz.prog 77 #[.pointer (some ⟨Bm, 0, none⟩)] encStr (fun ss : List (List UInt8) => ss = []) 0 w := AnyZ.keys_gives_nil (ρ := Tryz.keysB_ren) { Tryz.keysB with } Fence.wide _ trivial rfl Bm w hBm hc
    have cS := AnyZ.sorted_in Tryz.sortedA Fence.wide 5 trivial trivial trivial trivial rfl (by omega) (sortsA _) (enters_of Tryz.func65 (by kernel_rfl) rfl) 77 #[.pointer (some ⟨Bm, 0, none⟩)] trivial (enters_of Tryz.func77 (by kernel_rfl) rfl) _ _ (by unfold maxLen; omega) (by omega) _ hseq
    change CallsIn _ _ Tryz.prog 47 _ _ _ at cS
    refine (callsIn_wide.1 cS).mono ?_
    rintro e w' ⟨v, ss, rfl, rfl, hrow, hnil, hb⟩
    refine ⟨v, [], rfl, by rw [List.mergeSort_nil] at hrow; exact hrow, ⟨rfl, List.Pairwise.nil, fun y => ⟨fun c => (by cases c), fun c => ?_⟩⟩, hb⟩
    rw [h2 y c.1] at c
    cases c.2
  · have hseq : SeqGives Fence.wide 2 Tryz.prog 77 #[.pointer (some ⟨Bm, 0, none⟩)] encStr (fun ss => ss.Perm (strKeys D)) (Maps.size D) w := AnyZ.keys_gives (ρ := Tryz.keysB_ren) { Tryz.keysB with } Fence.wide _ trivial rfl (by omega) Bm mb n D w hBm hc hown
    have cS := AnyZ.sorted_in Tryz.sortedA Fence.wide 5 trivial trivial trivial trivial rfl (by omega) (sortsA _) (enters_of Tryz.func65 (by kernel_rfl) rfl) 77 #[.pointer (some ⟨Bm, 0, none⟩)] trivial (enters_of Tryz.func77 (by kernel_rfl) rfl) _ _ (by rw [hsz]; unfold maxLen; omega) (by rw [hsz]; omega) _ hseq
    change CallsIn _ _ Tryz.prog 47 _ _ _ at cS
    refine (callsIn_wide.1 cS).mono ?_
    rintro e w' ⟨v, ss, rfl, hS, hrow, hnil, hb⟩
    refine ⟨v, (ss.mergeSort (fun x y => decide (x ≤ y))).map mkB, rfl, ?_, ks_of hown hsz hD hS, hb⟩
    rw [List.length_map, List.length_mergeSort, ← enc_mk]
    exact hrow
/-! ### the nodes right below a node, in order -/
variable {w : World} {tb m r : Nat} {nf nn : Int} {T : List Fn} {f : Fn}
/-- A node right below f. -/
abbrev Kd (T : List Fn) (f : Fn) := {q : Fn // q ∈ T ∧ Kid f.s q.s}
/-- All nodes right below f, by the first levels of their edges. -/
structure KidsOf (T : List Fn) (f : Fn) (L : List ByteArray) (K : List Fn) : Prop where
  len : K.length = L.length
  ord : L.Pairwise fun a b => unB a < unB b
  at_ : ∀ (i : Nat) (x : ByteArray), L[i]? = some x → ∃ q, K[i]? = some q ∧ q ∈ T ∧ AtK (T.map Fn.s) f.s x q.s
  all : ∀ q ∈ T, Kid f.s q.s → ∃ (i : Nat) (x : ByteArray), L[i]? = some x ∧ K[i]? = some q ∧ q.s.A[q.s.top]? = some x
theorem pick_list {α β : Type} {P : α → β → Prop} : ∀ (L : List α), (∀ x ∈ L, ∃ q, P x q) → ∃ K : List β, K.length = L.length ∧ ∀ (i : Nat) (x : α), L[i]? = some x → ∃ q, K[i]? = some q ∧ P x q
  | [], _ => ⟨[], rfl, fun i x h => by simp at h⟩
  | a :: L, h => by
    obtain ⟨q, hq⟩ := h a List.mem_cons_self
    obtain ⟨K, k1, k2⟩ := pick_list L (fun x hx => h x (List.mem_cons_of_mem _ hx))
    refine ⟨q :: K, by simp [k1], fun i x hi => ?_⟩
    cases i with
    | zero => simp at hi; subst hi; exact ⟨q, rfl, hq⟩
    | succ i => exact k2 i x (by simpa using hi)
theorem kids_pick (h : TM w tb m r nf nn T) (hf : f ∈ T) {nk : Nat} {kd : ByteArray → Option Value} {L : List ByteArray} (ks : KsOf kd nk L) (hk : Kds (T.map Fn.s) f.s kd) :
    ∃ K : List (Kd T f), K.length = L.length ∧ (∀ (i : Nat) (x : ByteArray), L[i]? = some x → ∃ q, K[i]? = some q ∧ kd x = some (ptr q.1.s.p)) ∧ KidsOf T f L (K.map (·.1)) := by
  have each : ∀ x ∈ L, ∃ q : Kd T f, AtK (T.map Fn.s) f.s x q.1.s ∧ kd x = some (ptr q.1.s.p) := fun x hx => by
    obtain ⟨ox, hs⟩ := (ks.mem x).1 hx
    obtain ⟨v, hv⟩ := Option.isSome_iff_exists.1 hs
    obtain ⟨e, he, rfl⟩ := (hk x v ox).1 hv
    obtain ⟨q, hq, rfl⟩ := List.mem_map.1 he.1
    exact ⟨⟨q, hq, he.2.1⟩, he, hv⟩
  obtain ⟨K, k1, k2⟩ := pick_list L each
  refine ⟨K, k1, fun i x hi => ?_, ⟨by simp [k1], ks.ord, fun i x hi => ?_, fun q hq kq => ?_⟩⟩
  · obtain ⟨q, a, _, c⟩ := k2 i x hi
    exact ⟨q, a, c⟩
  · obtain ⟨q, a, b, c⟩ := k2 i x hi
    exact ⟨q.1, by simp [a], q.2.1, b⟩
  · have lt := top_lt kq.1 (h.inv.le q.s (List.mem_map_of_mem hq)).1
    obtain ⟨x, hx⟩ : ∃ x, q.s.A[q.s.top]? = some x := ⟨_, List.getElem?_eq_getElem lt⟩
    have ak : AtK (T.map Fn.s) f.s x q.s := ⟨List.mem_map_of_mem hq, kq, hx⟩
    have ox : okT x := by have := (h.ok q hq).1 x (List.mem_of_getElem? hx); unfold okT maxLen; omega
    have hv := (hk x _ ox).2 ⟨q.s, ak, rfl⟩
    obtain ⟨i, hi⟩ := List.getElem?_of_mem ((ks.mem x).2 ⟨ox, by rw [hv]; rfl⟩)
    obtain ⟨q', a, b, c⟩ := k2 i x hi
    have e := h.inv.atk b ak
    have : q'.1 = q := h.same q'.2.1 hq (by rw [e])
    exact ⟨i, x, hi, by simp [a, this], hx⟩
/-- What a round keeps: all that lay below, and all cells but shapes'. -/
structure Kn (n₀ : Nat) (W W' : World) : Prop where
  be : Below n₀ W W'
  cl : ∀ (k : Nat) (cs : Array Value) (t : Nat) (fz : Nat × Nat), W.heap[k]? = some (Obj.cells cs t fz) → t ≠ 49 → W'.heap[k]? = some (Obj.cells cs t fz)
theorem Kn.refl (n₀ : Nat) (W : World) : Kn n₀ W W := ⟨Below.refl _ _, fun _ _ _ _ h _ => h⟩
theorem Kn_t {n₀ : Nat} {A B C : World} (h : Kn n₀ A B) (k : Kn n₀ B C) : Kn n₀ A C := ⟨h.be.trans k.be, fun j cs t fz e ht => k.cl j cs t fz (h.cl j cs t fz e ht) ht⟩
theorem Kn_b {n₀ : Nat} {w : World} (hn : n₀ ≤ w.heap.size) (W : World) (l : Nat) (o o' : Obj) (hl : w.heap.size ≤ l) (h : W.heap[l]? = some o) (h1 : o.isCells = false) (h2 : o.isWalk = false) : Kn n₀ W (W.putObj l o') :=
  ⟨belowK_b hn W l o o' hl h h1 h2, fun k cs t fz e _ => by
    by_cases c : k = l
    · subst c; rw [h] at e; cases e; cases h1
    · exact (World.putObj_heap_other c).trans e⟩
theorem Kn.of {n₀ : Nat} {W W' : World} (h : Below W.heap.size W W') (hn : n₀ ≤ W.heap.size) : Kn n₀ W W' := ⟨h.mono hn, fun k cs t fz e _ => (h.block k (Array.getElem?_eq_some_iff.1 e).1).trans e⟩
theorem Kn.cell {n₀ : Nat} {W W' : World} (h : Kn n₀ W W') {k t : Nat} {cs : Array Value} {fz : Nat × Nat} (e : W.heap[k]? = some (.cells cs t fz)) (ht : t ≠ 49) (o : Nat) : W'.cell? ⟨k, o, none⟩ = W.cell? ⟨k, o, none⟩ := by
  unfold World.cell?
  rw [h.cl k cs t fz e ht, e]
theorem abides_below' {α : Type} {B : Nat} {J : List α → World → Prop} (h : AbidesFrom B J) {s : List α} {W W' : World} (hj : J s W) (hb : Below W.heap.size W W') : J s W' := h s W W' none hj ⟨hb.os, hb.tape, hb.output, hb.size, fun k hk _ => hb.block k hk⟩ (fun r e => by cases e)
theorem inord_any (p : Nat) (w : World) : Calls Tryz.prog 54 #[ptr p] w fun e w' => e = .returned (.func (.func 69) #[] #[ptr w.heap.size]) ∧ w' = w.alloc (.cells #[ptr p] 52) := by
  unfold ptr
  go_enter Tryz.func54, Tryz.ntmps54
  go_wp2_with fail
  go_ret
  exact ⟨rfl, rfl⟩
set_option maxRecDepth 100000 in
set_option maxHeartbeats 4000000 in
/-- inOrder's iterator. -/
theorem inord_stops (h : TM w tb m r nf nn T) (hf : f ∈ T) (hl : T.length ≤ 900000) {n₀ bs : Nat} (h0 : ∀ k, f.has k → k < n₀) (hn0 : n₀ ≤ w.heap.size) (hbs : w.heap[bs]? = some (.cells #[ptr f.s.p] 52 (0, 0))) (n : Nat) (hn : 1 ≤ n) :
    SeqStopsK Fence.wide n Tryz.prog 69 #[ptr bs] (fun q : Kd T f => #[ptr q.1.s.p]) (Kn n₀) (fun ys => ∃ L, KidsOf T f L (ys.map (·.1))) (fun _ => True) T.length w := fun l J Jx W hW hA hAx hY hJ0 => by
  have hT := h.below hW
  have fd := hT.nd f hf
  obtain ⟨nk, kd, b1, b2, b3⟩ := fd.kv
  obtain ⟨mo, hmo⟩ : ∃ mo, f.kv = .map mo := by
    rcases b2.mk with e | ⟨mb, e⟩
    · exact ⟨_, e⟩
    · exact ⟨_, e⟩
  have hbW : W.heap[bs]? = some (.cells #[ptr f.s.p] 52 (0, 0)) := (hW.block bs (Array.getElem?_eq_some_iff.1 hbs).1).trans hbs
  have c0 : W.cell? ⟨bs, 0, none⟩ = some (ptr f.s.p) := box_cells hbW 0 _ rfl
  have c1 : W.cell? ⟨f.s.p, 3, none⟩ = some (.map mo) := by rw [← hmo]; exact box_cells fd.at_ 3 _ rfl
  have b2' : MG (W.alloc (.cells #[.map mo] 69)) (.map mo) nk kd := by rw [← hmo]; exact b2.keep (fun b e => ((Below.refl W.heap.size W).alloc (Nat.le_refl _) _).block b (b2.lt e))
  have KY := hidi (fun W => keysB_any mo W)
  have SK := hidi (sortedKB_any b2' (by omega) W.heap.size (by simp) (box_cells (heap_alloc_new W _) 0 _ rfl))
  have FIN := hidi (fun (w2 : World) (v : Value) (L : List ByteArray) (ho : w2.ownsRow (W.alloc (.cells #[.map mo] 69)).heap.size 9 1 v L.length (L.map Value.string)) (ks : KsOf kd nk L) (hb : Below (W.alloc (.cells #[.map mo] 69)).heap.size (W.alloc (.cells #[.map mo] 69)) w2) =>
    (show ∃ K : List (Kd T f), K.length = L.length ∧ L.length ≤ T.length ∧ KidsOf T f L (K.map (·.1)) ∧ J [] w2 ∧ ∃ a c, v = .slice a L.length c ∧ ∀ (i : Nat) (x : ByteArray), L[i]? = some x → ∃ q g o, a = some ⟨g, o, none⟩ ∧ K[i]? = some q ∧ ∀ wx, Kn n₀ w2 wx → wx.cell? ⟨g, o + i, none⟩ = some (.string x) ∧ wx.cell? ⟨bs, 0, none⟩ = some (ptr f.s.p) ∧ wx.cell? ⟨f.s.p, 3, none⟩ = some (.map mo) ∧ (Instr.lookup 69 (.map mo) (.string x) false).run Tryz.prog wx = .ok (ptr q.1.s.p) wx from by
      have ba : Below W.heap.size W w2 := ((Below.refl W.heap.size W).alloc (Nat.le_refl _) _).trans (hb.mono (by simp))
      obtain ⟨K, k1, k2, k3⟩ := kids_pick hT hf ks b3
      have R := rw_own ho
      obtain ⟨a, n', cap, rfl, hn', hc, hrow⟩ := R.row
      subst hn'
      refine ⟨K, k1, by rw [ks.len]; exact b1, k3, abides_below' hA hJ0 ba, a, cap, rfl, fun i x hi => ?_⟩
      obtain ⟨g, o, rfl, hg, hcells⟩ := hrow (fun e => by subst e; simp at hi)
      obtain ⟨q, hq, hkx⟩ := k2 i x hi
      obtain ⟨cur, hcur⟩ := R.ty g rfl
      refine ⟨q, g, o, rfl, hq, fun wx kn => ?_⟩
      have bb := hT.below ba
      have fd2 := bb.nd f hf
      have ox := ((ks.mem x).1 (List.mem_of_getElem? hi)).1
      refine ⟨(kn.cell hcur (by decide) _).trans (hcells i x hi), (kn.cell ((ba.block bs (Array.getElem?_eq_some_iff.1 hbW).1).trans hbW) (by decide) _).trans (box_cells ((ba.block bs (Array.getElem?_eq_some_iff.1 hbW).1).trans hbW) 0 _ rfl), (kn.cell fd2.at_ (by decide) _).trans (by rw [← hmo]; exact box_cells fd2.at_ 3 _ rfl), ?_⟩
      have b4 : MG wx f.kv nk kd := (b2.keep (w' := w2) (fun b e => ba.block b (b2.lt e))).keep (fun b e => kn.be.block b (h0 b (.inr (.inr e))))
      have := b4.look Tryz.underlying69 zero59 ox
      rw [hkx, hmo] at this
      exact this))
  have HY := hidi hY
  have HL := hidi hl
  clear hY h hf hl h0 hn0 hbs hT fd b1 b2 b3 b2' hbW hmo
  unfold ptr at *
  refine callsIn_of_wp Tryz.func69 rfl trivial ?_ rfl
  simp only [Tryz.ntmps69, List.size_toArray, List.length_cons, List.length_nil, Nat.reduceAdd, Nat.reduceSub, Array.replicate_succ, Array.replicate_zero, List.push_toArray, List.append_toArray, List.nil_append, List.cons_append]
  gi_wp2_with (first
    | (refine ⟨trivial, ?_⟩; gi_at_call 70; refine ((callsIn_wide (n := _)).2 (KY.out _)).mono ?_; rintro e w1 ⟨rfl, rfl⟩)
    | (refine ⟨trivial, ?_⟩; gi_at_call 47; refine ((callsIn_wide (n := _)).2 SK.out).mono ?_; rintro e w2 ⟨v, L, rfl, ho, ks, hb⟩; obtain ⟨K, k1, k2, k3, k4, a, c, hv, k5⟩ := FIN.out w2 v L ho ks hb; subst hv; have K5 := hidi k5; have K1 := hidi (And.intro k1 (And.intro k2 k3)); have K4 := hidi k4; clear ho ks hb k1 k2 k3 k4 k5 FIN SK KY c0 c1))
  obtain ⟨len, hlen⟩ : ∃ len, len = L.length := ⟨_, rfl⟩
  rw [← hlen]
  have HN := hidi hlen
  clear hlen
  gi_loopw [12] (fun i wr => ∃ k q : Nat, k + q = len ∧ i = .int .i64 (k : Int) ∧ Hid (J (K.take k) wr ∧ Kn n₀ w2 wr))
    (fun i _ => ((len : Int) - intOf i).toNat)
  case atStart => exact ⟨0, len, by omega, rfl, K4.out, Kn.refl _ _⟩
  case round =>
    obtain ⟨k, q, hk, rfl, HJ⟩ := hrel
    cases q with
    | zero =>
      obtain rfl : k = len := by omega
      have hq : ¬ (k : Int) < (k : Int) := by omega
      have e1 : K.take k = K := by rw [HN.out, ← K1.out.1]; exact List.take_length
      have HJ2 := HJ.out.1
      rw [e1] at HJ2
      gi_wp2
      refine bodyPost_end (results_none rfl _ _ _) rfl ?_
      exact ⟨⟨_, rfl⟩, .inl ⟨_, ⟨L, K1.out.2.2⟩, HJ2⟩⟩
    | succ q =>
      have hq1 : (k : Int) < len := by omega
      have hk0 : (0 : Int) ≤ (k : Int) := by omega
      have hw1 : IntKind.i64.wrap ((k : Int) + 1) = (k : Int) + 1 := by rw [IntKind.wrap_i64]; have := K1.out.2.1; have := HN.out; have := HL.out; omega
      obtain ⟨x, hx⟩ : ∃ x, L[k]? = some x := ⟨_, List.getElem?_eq_getElem (by have := HN.out; omega)⟩
      obtain ⟨kd1, g, o, rfl, hkq, hcl⟩ := K5.out k x hx
      obtain ⟨d0, d1, d2, d3⟩ := hcl wr HJ.out.2
      have HT : Hid (K.take (k + 1) = K.take k ++ [kd1]) := by show _ = _; rw [List.take_add_one, hkq]; rfl
      have hpl : (K.take k).length < T.length := by rw [List.length_take]; have := K1.out; have := HN.out; omega
      obtain ⟨fn, tmps, assign, body, hy, hR⟩ := HY.out _ kd1 wr HJ.out.1 hpl
      clear hx hkq hcl hpl
      gi_wp2
      refine hR.mono ?_
      rintro e W3 (⟨rfl, hJ3, hk3⟩ | ⟨rfl, hJx3⟩)
      · have H3 := hidi (And.intro hJ3 hk3)
        clear hJ3 hk3
        gi_wp2
        go_roundw
        case rel => exact ⟨k + 1, q, by omega, by simp, by rw [HT.out]; exact H3.out.1, Kn_t HJ.out.2 H3.out.2⟩
        case measure => simp [intOf]; omega
      · have H3 := hidi hJx3
        clear hJx3
        gi_wp2
        (try simp only [Exit.inBlock, Exit.then, Exit.noGoto])
        refine bodyPost_ret (results_none rfl _ _ _) rfl ?_
        exact ⟨⟨_, rfl⟩, .inr ⟨_, trivial, H3.out⟩⟩
end Go.Proofs.YtepjcfhbbcaldaaGreat.Li
namespace Go.Proofs.YtepjcfhbbcaldaaGreat.Li
open Go Go.RowKit
set_option linter.unusedSimpArgs false
set_option linter.unusedVariables false
/-! ### A region that draws its order, in a round -/
theorem upon_round {F : Fence} {n : Nat} {P : Program} {o : Oper} {a : Act} {K : Act → World → Prop} {Q : Exit → Act → World → Prop} {r : Result Next} (l : Nat) (h : o.uponIn F n P a K Q r) : o.uponIn (F.inRound l) n P a K Q r := by
  cases r with
  | halt x w => exact h
  | ok x w => cases x <;> exact h
theorem op_round {F : Fence} {n : Nat} {P : Program} {o : Oper} {a : Act} {w : World} {K : Act → World → Prop} {Q : Exit → Act → World → Prop} (l : Nat) (hF : F.round = none) (hd : ∀ c, o.op ≠ .defer c) (h : o.wpIn F n P a w K Q) : o.wpIn (F.inRound l) n P a w K Q := by
  refine ⟨h.1, ?_⟩
  have h2 := h.2
  rw [hF, Oper.semAt_none] at h2
  rw [Fence.inRound_round, Oper.semAt_some l _ o hd]
  exact upon_round l h2
theorem any_round {F : Fence} {n : Nat} {P : Program} {md : Region.Mode} {ops : Array Oper} {Q : Exit → Act → World → Prop} (l : Nat) (hF : F.round = none) (hd : ∀ (i : Nat) (o : Oper), ops[i]? = some o → ∀ c, o.op ≠ .defer c) : ∀ (fuel : Nat) (listed : Array Bool) (a : Act) (w : World), wpAnyIn F n P md ops Q fuel listed a w → wpAnyIn (F.inRound l) n P md ops Q fuel listed a w
  | 0, listed, a, w, h => h
  | fuel + 1, listed, a, w, h => by
    refine ⟨h.1, fun i hi => ?_⟩
    have h1 := h.2 i hi
    unfold wpOpIn at h1 ⊢
    cases ho : ops[i]? with
    | none =>
      rw [ho] at h1
      exact any_round l hF hd fuel _ _ _ h1
    | some o =>
      rw [ho] at h1
      simp only at h1 ⊢
      split
      · rename_i hw
        rw [if_pos hw] at h1
        exact Oper.wpIn_mono (fun a w q => any_round l hF hd fuel _ a w q) (op_round l hF (hd i o ho) h1)
      · rename_i hw
        rw [if_neg hw] at h1
        exact ⟨h1.1, any_round l hF hd fuel _ _ _ h1.2⟩
/-- No operation of these puts a call off. -/
def noDefer (ops : Array Oper) : Bool := ops.all fun o => match o.op with
  | .defer _ => false
  | _ => true
theorem noDefer_spec {ops : Array Oper} (h : noDefer ops = true) : ∀ (i : Nat) (o : Oper), ops[i]? = some o → ∀ c, o.op ≠ .defer c := by
  intro i o ho c q
  unfold noDefer at h
  have := Array.all_eq_true_iff_forall_mem.1 h o (Array.mem_of_getElem? ho)
  rw [q] at this
  cases this
/-- What goes whatever the order is, goes within the widest fence. -/
theorem any_wide {n : Nat} {P : Program} {md : Region.Mode} {ops : Array Oper} {Q : Exit → Act → World → Prop} (hQ : ¬ LetsOut Q) : ∀ (fuel : Nat) (listed : Array Bool) (a : Act) (w : World), wpAny P md ops Q fuel listed a w → wpAnyIn Fence.wide n P md ops Q fuel listed a w
  | 0, listed, a, w, h => h
  | fuel + 1, listed, a, w, h => by
    refine ⟨h.1, fun i hi => ?_⟩
    have h1 := h.2 i hi
    unfold wpOp at h1
    unfold wpOpIn
    cases ho : ops[i]? with
    | none =>
      rw [ho] at h1
      exact any_wide hQ fuel _ _ _ h1
    | some o =>
      rw [ho] at h1
      simp only at h1 ⊢
      split
      · rename_i hw
        rw [if_pos hw] at h1
        have h2 := h1.resolve_right (fun q => hQ q.2)
        refine ⟨fun f _ => trivial, ?_⟩
        have e : o.semAt Fence.wide.round a.eval = execOp a.eval o := Oper.semAt_none _ _
        rw [e]
        unfold Oper.wp at h2
        generalize (execOp a.eval o).run P w = r at h2 ⊢
        cases r with
        | halt x w' => cases x <;> exact h2
        | ok x w' =>
          cases x with
          | value v => exact any_wide hQ fuel _ _ _ h2
          | skip => exact any_wide hQ fuel _ _ _ h2
          | defer d => exact any_wide hQ fuel _ _ _ h2
          | enter f args => 
            refine ⟨fun q => (by cases q), callsIn_wide.2 (Calls.mono h2 (fun e w'' he => ?_))⟩
            cases e with
            | returned v => exact any_wide hQ fuel _ _ _ he
            | panicked c => exact he
            | outgrown => exact he
          | row row args => 
            refine ⟨fun q => (by cases q), ?_⟩
            intro c cs _
            obtain ⟨v, w'', he, st⟩ := h2 c cs
            exact ⟨v, w'', any_wide hQ fuel _ _ _ he, stepsIn_wide.2 st⟩
          | _ => exact h2.elim
      · rename_i hw
        rw [if_neg hw] at h1
        exact ⟨fun f _ => trivial, any_wide hQ fuel _ _ _ h1⟩
theorem region_round {n : Nat} {P : Program} {id : Nat} {ops : Array Oper} {Q : Exit → Act → World → Prop} {a : Act} {w : World} {l : Nat} (hm : P.follows .mixedOrders = true) (hd : noDefer ops = true) (h : wpAnyIn Fence.wide n P .any ops Q ops.size (Array.replicate ops.size false) a w.drew) : (Code.region id ops true).wpIn (Fence.wide.inRound l) n P Q a w :=
  wpIn_region_any hm (any_round l rfl (noDefer_spec hd) _ _ _ _ h)
theorem region_round_held {n : Nat} {P : Program} {id : Nat} {ops : Array Oper} {Q : Exit → Act → World → Prop} {a : Act} {w : World} {l : Nat} (S : World → Prop) (hm : P.follows .mixedOrders = true) (hd : noDefer ops = true) (hQ : ¬ LetsOut Q) (hS : S w.drew) (h : S w.drew → wpAnyH P .any ops Q S ops.size (Array.replicate ops.size false) a w.drew) : (Code.region id ops true).wpIn (Fence.wide.inRound l) n P Q a w :=
  region_round hm hd (any_wide hQ _ _ _ _ (wpAny_of_held _ _ _ _ (h hS)))
/-! ### A region that draws its order, of which some operations (Ts) may end what held of the world till then -/
section
variable {P : Program} {ops : Array Oper} {Q : Exit → Act → World → Prop} {md : Region.Mode} {S : World → Prop} {T : List Nat}
def wpAnyU (P : Program) (md : Region.Mode) (ops : Array Oper) (Q : Exit → Act → World → Prop) (S : World → Prop) (T : List Nat) : Nat → Array Bool → Act → World → Prop
  | 0, listed, a, w => Region.ready md ops listed = [] ∧ Q .normal a w
  | fuel + 1, listed, a, w =>
    (Region.ready md ops listed = [] → Q .normal a w) ∧
    ∀ i ∈ Region.ready md ops listed, wpOp P ops Q i (fun a' w' => (i ∉ T → S w') ∧ wpAnyU P md ops Q S T fuel (listed.setIfInBounds i true) a' w') a w
theorem wpAny_of_U : ∀ (fuel : Nat) (listed : Array Bool) (a : Act) (w : World), wpAnyU P md ops Q S T fuel listed a w → wpAny P md ops Q fuel listed a w
  | 0, _, _, _, h => h
  | fuel + 1, _, _, _, h => ⟨h.1, fun i hi => wpOp_mono (fun a' w' h' => wpAny_of_U fuel _ a' w' h'.2) (h.2 i hi)⟩
/-- Does T wait for it? -/
def waitsT (md : Region.Mode) (ops : Array Oper) (i T : Nat) : Bool := match ops[T]? with
  | some o => o.after.toList.any (fun e => Region.binds md e && e.on == i)
  | none => true
theorem wpAnyU_first {i : Nat} {oi : Oper} {v : Value} (hi : ops[i]? = some oi) (hT : T.all (waitsT md ops i) = true) (hsel : ∀ (j : Nat) (o : Oper) cs b, ops[j]? = some o → o.op ≠ .select cs b)
    (hQ : ∀ c a w, Q (.panic c) (a.put oi.dst v) w → Q (.panic c) a w) :
    ∀ (fuel : Nat) (listed : Array Bool) (a : Act) (w : World),
      (∀ j oj, ops[j]? = some oj → j ≠ i → listed.getD j true = false → (∀ e ∈ oj.after, Region.binds md e = true → e.on ≠ i) → oi.apart ops oj = true) →
      i ∈ Region.ready md ops listed → YieldsIf P ops S oi v a → S w →
      wpAnyU P md ops Q S T fuel (listed.setIfInBounds i true) (a.put oi.dst v) w → wpAnyU P md ops Q S T (fuel + 1) listed a w := by
  intro fuel
  induction fuel with
  | zero =>
    intro listed a w _ hr hy hS H
    refine ⟨fun h => (by rw [h] at hr; cases hr), fun j hj => ?_⟩
    by_cases hji : j = i
    · subst hji; exact hy.wpOp hi hS ⟨fun _ => hS, H⟩
    · have := ready_mono hj hji
      rw [H.1] at this
      cases this
  | succ fuel ih =>
    intro listed a w hfree hr hy hS H
    refine ⟨fun h => (by rw [h] at hr; cases hr), fun j hj => ?_⟩
    by_cases hji : j = i
    · subst hji; exact hy.wpOp hi hS ⟨fun _ => hS, H⟩
    · have h1 := H.2 j (ready_mono hj hji)
      obtain ⟨hjun, oj, hoj, hall⟩ := mem_ready.1 hj
      have hnot : ∀ e ∈ oj.after, Region.binds md e = true → e.on ≠ i := fun e he hb heq => by
        have h1 := hall e he hb
        have h0 := (mem_ready.1 hr).1
        rw [heq] at h1
        rcases Nat.lt_or_ge i listed.size with h' | h'
        · simp [h'] at h0 h1; rw [h0] at h1; cases h1
        · simp [Array.getElem?_eq_none h'] at h1
      have hjT : j ∉ T := fun e => by
        have hT := List.all_eq_true.1 hT j e
        unfold waitsT at hT
        rw [hoj] at hT
        simp only [List.any_eq_true, Bool.and_eq_true, beq_iff_eq] at hT
        obtain ⟨e, he, hb, ho⟩ := hT
        exact hnot e (Array.mem_toList_iff.1 he) hb ho
      have h2 := wpOp_putIf hoj (hfree j oj hoj hji hjun hnot) (fun cs b => hsel i oi cs b hi) (fun cs b => hsel j oj cs b hoj) hQ hy h1
      have hfree' : ∀ k ok, ops[k]? = some ok → k ≠ i → (listed.setIfInBounds j true).getD k true = false →
          (∀ e ∈ ok.after, Region.binds md e = true → e.on ≠ i) → oi.apart ops ok = true := fun k ok hk hki hun hno => by
        refine hfree k ok hk hki ?_ hno
        by_cases hjk : j = k
        · subst hjk; exact hjun
        · rw [getD_set_ne true hjk] at hun; exact hun
      refine wpOp_mono (fun a' w' h3 => ⟨fun _ => h3.2.1 hjT, ih (listed.setIfInBounds j true) a' w' hfree' (ready_mono hr (Ne.symm hji)) h3.1 (h3.2.1 hjT) ?_⟩) h2
      rw [Array.setIfInBounds_comm _ _ hji]
      exact h3.2.2
theorem wpAnyU_take {i : Nat} {oi : Oper} {v : Value} {fuel : Nat} {listed : Array Bool} {a : Act} {w : World} (hi : ops[i]? = some oi) (hT : T.all (waitsT md ops i) = true)
    (hs : Region.noSelect ops = true) (hf : Region.free md ops listed i = true) (hr : (Region.ready md ops listed).contains i = true)
    (hQ : ∀ c a w, Q (.panic c) (a.put oi.dst v) w → Q (.panic c) a w) (hy : YieldsIf P ops S oi v a) (hS : S w)
    (h : wpAnyU P md ops Q S T fuel (listed.setIfInBounds i true) (a.put oi.dst v) w) : wpAnyU P md ops Q S T (fuel + 1) listed a w :=
  wpAnyU_first hi hT (Region.noSelect_spec hs) hQ fuel listed a w (Region.free_spec hi hf) (by simpa using hr) hy hS h
def AllReadyU (P : Program) (md : Region.Mode) (ops : Array Oper) (Q : Exit → Act → World → Prop) (S : World → Prop) (T : List Nat) (fuel : Nat) (listed : Array Bool) (a : Act) (w : World) (rs : List Nat) : Prop :=
  ∀ i ∈ rs, wpOp P ops Q i (fun a' w' => (i ∉ T → S w') ∧ wpAnyU P md ops Q S T fuel (listed.setIfInBounds i true) a' w') a w
theorem AllReadyU.nil {fuel : Nat} {listed : Array Bool} {a : Act} {w : World} : AllReadyU P md ops Q S T fuel listed a w [] := fun _ h => by cases h
theorem AllReadyU.cons {fuel : Nat} {listed : Array Bool} {a : Act} {w : World} {i : Nat} {o : Oper} {rs : List Nat} (ho : ops[i]? = some o)
    (h : ∀ K' : Act → World → Prop, Shut (∀ a w, S w → (S w → wpAnyU P md ops Q S T fuel (listed.setIfInBounds i true) a w) → K' a w) → if Region.wanted o (yielded ops a.tmps) = true then Oper.wp P o a w K' Q else K' (a.put o.dst undef) w)
    (hs : AllReadyU P md ops Q S T fuel listed a w rs) : AllReadyU P md ops Q S T fuel listed a w (i :: rs) := fun j hj => by
  rcases List.mem_cons.1 hj with rfl | hj
  · exact wpOp_step ho (fun K' hK => h K' (fun a w hS hW => hK a w ⟨fun _ => hS, hW hS⟩))
  · exact hs j hj
/-- One of those behind which nothing is asked. -/
theorem AllReadyU.free {fuel : Nat} {listed : Array Bool} {a : Act} {w : World} {i : Nat} {o : Oper} {rs : List Nat} (ho : ops[i]? = some o) (hi : T.contains i = true)
    (h : ∀ K' : Act → World → Prop, Shut (∀ a w, wpAnyU P md ops Q S T fuel (listed.setIfInBounds i true) a w → K' a w) → if Region.wanted o (yielded ops a.tmps) = true then Oper.wp P o a w K' Q else K' (a.put o.dst undef) w)
    (hs : AllReadyU P md ops Q S T fuel listed a w rs) : AllReadyU P md ops Q S T fuel listed a w (i :: rs) := fun j hj => by
  rcases List.mem_cons.1 hj with rfl | hj
  · exact wpOp_step ho (fun K' hK => h K' (fun a w hW => hK a w ⟨fun q => absurd (by simpa using hi) q, hW⟩))
  · exact hs j hj
theorem wpAnyU_ready {rs : List Nat} {fuel : Nat} {listed : Array Bool} {a : Act} {w : World} (hr : Region.ready md ops listed = rs) (hne : rs ≠ [])
    (h : AllReadyU P md ops Q S T fuel listed a w rs) : wpAnyU P md ops Q S T (fuel + 1) listed a w := ⟨fun h0 => absurd (hr ▸ h0) hne, hr ▸ h⟩
theorem wpAnyU_done {listed : Array Bool} {a : Act} {w : World} (hr : Region.ready md ops listed = []) (h : Q .normal a w) : ∀ fuel, wpAnyU P md ops Q S T fuel listed a w
  | 0 => ⟨hr, h⟩
  | _ + 1 => ⟨fun _ => h, by rw [hr]; simp⟩
theorem wp_region_U {id : Nat} {a : Act} {w : World} (S : World → Prop) (T : List Nat) (hm : P.follows .mixedOrders = true) (hS : S w.drew)
    (h : S w.drew → wpAnyU P .any ops Q S T ops.size (Array.replicate ops.size false) a w.drew) : (Code.region id ops true).wp P Q a w :=
  wp_region_any hm (wpAny_of_U _ _ _ _ (h hS))
theorem region_round_U {n : Nat} {id l : Nat} {a : Act} {w : World} (S : World → Prop) (T : List Nat) (hm : P.follows .mixedOrders = true) (hd : noDefer ops = true) (hQ : ¬ LetsOut Q) (hS : S w.drew)
    (h : S w.drew → wpAnyU P .any ops Q S T ops.size (Array.replicate ops.size false) a w.drew) : (Code.region id ops true).wpIn (Fence.wide.inRound l) n P Q a w :=
  region_round hm hd (any_wide hQ _ _ _ _ (wpAny_of_U _ _ _ _ (h hS)))
end
end Go.Proofs.YtepjcfhbbcaldaaGreat.Li
namespace Go.Proofs.YtepjcfhbbcaldaaGreat.Li
open Go Go.RowKit Go.Shelf
set_option linter.unusedSimpArgs false
set_option linter.unusedVariables false
theorem own_blk {w w' : World} {B e s n : Nat} {v : Value} {xs : List Value} (h : w.ownsRow B e s v n xs) (hb : ∀ g, v.ownBlock = some g → w'.heap[g]? = w.heap[g]?) : w'.ownsRow B e s v n xs := by
  refine ⟨h.1, ?_⟩
  rcases h.2 with q | ⟨g, cap, cur, rfl, a, b, c⟩
  · exact .inl q
  · exact .inr ⟨g, cap, cur, rfl, a, (hb g rfl).trans b, c⟩
/-- What a shape's levels, entries and kids are. -/
abbrev V3 := Value × Value × Value
def shc (l : List V3) : List Value := l.flatMap fun u => [u.1, .bool false, u.2.1, u.2.2]
theorem shc_app (l k : List V3) : shc (l ++ k) = shc l ++ shc k := by simp [shc]
theorem shc_len (l : List V3) : (shc l).length = l.length * 4 := by
  induction l with
  | nil => rfl
  | cons a l ih => simp only [shc, List.flatMap_cons, List.length_append, List.length_cons, List.length_nil] at ih ⊢; omega
/-- THE SHAPE OF A NODE IN MEMORY, V its blocks. -/
inductive ShAt (w : World) (V : Nat → Prop) (T : List Fn) : Fn → V3 → Prop
  | mk (f : Fn) (u : V3) (L : List ByteArray) (K : List Fn) (E : List ByteArray) (vs : List V3)
      (lv : w.ownsRow 0 9 1 u.1 f.s.m (f.s.edge.map Value.string)) (lV : ∀ g, u.1.ownBlock = some g → V g)
      (en : w.ownsRow 0 45 2 u.2.1 E.length (prow (eL f.en E))) (eV : ∀ g, u.2.1.ownBlock = some g → V g)
      (es : KsOf (fun y => (f.en y).map (Value.int .i64)) f.ne E)
      (ks : KidsOf T f L K) (len : vs.length = K.length)
      (kd : w.ownsRow 0 49 4 u.2.2 vs.length (shc vs)) (kV : ∀ g, u.2.2.ownBlock = some g → V g)
      (sub : ∀ (i : Nat) (q : Fn) (v : V3), K[i]? = some q → vs[i]? = some v → ShAt w V T q v) : ShAt w V T f u
theorem ShAt.keep {w w' : World} {V V' : Nat → Prop} {T : List Fn} {f : Fn} {u : V3} (h : ShAt w V T f u) (hb : ∀ g, V g → w'.heap[g]? = w.heap[g]?) (hV : ∀ g, V g → V' g) : ShAt w' V' T f u := by
  induction h with
  | mk f u L K E vs lv lV en eV es ks len kd kV sub ih =>
    exact .mk f u L K E vs (own_blk lv (fun g e => hb g (lV g e))) (fun g e => hV g (lV g e)) (own_blk en (fun g e => hb g (eV g e))) (fun g e => hV g (eV g e)) es ks len (own_blk kd (fun g e => hb g (kV g e))) (fun g e => hV g (kV g e)) ih
/-- Rows of cells, from a block on. -/
def VC (n₀ : Nat) (w : World) (V : Nat → Prop) : Prop := ∀ k, V k → n₀ ≤ k ∧ ∃ cs t, w.heap[k]? = some (.cells cs t (0, 0))
theorem VC.lt {n₀ : Nat} {w : World} {V : Nat → Prop} (h : VC n₀ w V) {k : Nat} (hk : V k) : k < w.heap.size := by
  obtain ⟨_, cs, t, e⟩ := h k hk
  exact (Array.getElem?_eq_some_iff.1 e).1
theorem VC.keep {n₀ : Nat} {w w' : World} {V : Nat → Prop} (h : VC n₀ w V) (hb : ∀ k, V k → w'.heap[k]? = w.heap[k]?) : VC n₀ w' V := fun k hk => by
  obtain ⟨a, cs, t, e⟩ := h k hk
  exact ⟨a, cs, t, (hb k hk).trans e⟩
theorem clone_any {w : World} {lv : Value} {m : Nat} {L : List ByteArray} (R : w.ownsRow 0 9 1 lv m (L.map Value.string)) (hm : m ≤ 1000001) :
    Calls Tryz.prog 53 #[lv] w fun e w' => ∃ v', e = .returned v' ∧ w'.ownsRow w.heap.size 9 1 v' m (L.map Value.string) ∧ Below w.heap.size w w' := by
  rcases R.2 with ⟨e, e0⟩ | ⟨g, cap, cur, e, _⟩
  · subst e
    refine (Tryz.slices_Clone_string_nil 0 0 w).mono ?_
    rintro e w' ⟨rfl, rfl⟩
    exact ⟨_, rfl, row_base R (fun g hg => by simp [Value.ownBlock] at hg), Below.refl _ _⟩
  · subst e
    have := clone_row (k := 0) (n := m) R (by omega) hm cap
    rw [List.drop_zero, List.take_of_length_le (by have := R.1; simp at this; omega)] at this
    exact this
/-- What shape leaves. -/
structure ShR (w w' : World) (T : List Fn) (f : Fn) (u : V3) (V : Nat → Prop) : Prop where
  sh : ShAt w' V T f u
  vc : VC w.heap.size w' V
  be : Below w.heap.size w w'
/-- The state while the kids come. -/
structure Sq (n₀ B2 B3 : Nat) (T : List Fn) (f : Fn) (ul ue vk : Value) (E : List ByteArray) (K : List Fn) (vs : List V3) (V : Nat → Prop) (w : World) : Prop where
  b2 : w.heap[B2]? = some (.cells #[.slice none 0 0, .bool false, .slice none 0 0, .slice none 0 0] 49 (0, 0))
  b3 : w.heap[B3]? = some (.cells #[ul, .bool false, ue, vk] 49 (0, 0))
  ne : B2 ≠ B3
  lo : n₀ ≤ B2 ∧ n₀ ≤ B3
  lv : w.ownsRow 0 9 1 ul f.s.m (f.s.edge.map Value.string)
  en : w.ownsRow 0 45 2 ue E.length (prow (eL f.en E))
  es : KsOf (fun y => (f.en y).map (Value.int .i64)) f.ne E
  lV : ∀ g, ul.ownBlock = some g → V g
  eV : ∀ g, ue.ownBlock = some g → V g
  vc : VC n₀ w V
  v2 : ¬ V B2 ∧ ¬ V B3
  row : w.ownsRow n₀ 49 4 vk vs.length (shc vs)
  rV : ∀ g, vk.ownBlock = some g → ¬ V g ∧ g ≠ B2 ∧ g ≠ B3
  len : vs.length = K.length
  sub : ∀ (i : Nat) (q : Fn) (v : V3), K[i]? = some q → vs[i]? = some v → ShAt w V T q v
variable {n₀ B2 B3 : Nat} {T : List Fn} {f : Fn} {ul ue vk : Value} {E : List ByteArray} {K : List Fn} {vs : List V3} {V : Nat → Prop} {w w' : World}
/-- The blocks that the state speaks of. -/
def Sb3 (B2 B3 : Nat) (vk : Value) (V : Nat → Prop) (k : Nat) : Prop := k = B2 ∨ k = B3 ∨ vk.ownBlock = some k ∨ V k
theorem Sq.cells (h : Sq n₀ B2 B3 T f ul ue vk E K vs V w) {k : Nat} (hk : Sb3 B2 B3 vk V k) : n₀ ≤ k ∧ ∃ cs t, w.heap[k]? = some (.cells cs t (0, 0)) := by
  rcases hk with rfl | rfl | e | e
  · exact ⟨h.lo.1, _, _, h.b2⟩
  · exact ⟨h.lo.2, _, _, h.b3⟩
  · obtain ⟨cur, q⟩ := own_lt h.row e
    exact ⟨row_ge h.row e, _, _, q⟩
  · exact h.vc k e
theorem Sq.keep (h : Sq n₀ B2 B3 T f ul ue vk E K vs V w) (hb : ∀ k, Sb3 B2 B3 vk V k → w'.heap[k]? = w.heap[k]?) : Sq n₀ B2 B3 T f ul ue vk E K vs V w' :=
  ⟨(hb _ (.inl rfl)).trans h.b2, (hb _ (.inr (.inl rfl))).trans h.b3, h.ne, h.lo, own_blk h.lv (fun g e => hb g (.inr (.inr (.inr (h.lV g e))))), own_blk h.en (fun g e => hb g (.inr (.inr (.inr (h.eV g e))))), h.es, h.lV, h.eV, h.vc.keep (fun k hk => hb k (.inr (.inr (.inr hk)))), h.v2, own_blk h.row (fun g e => hb g (.inr (.inr (.inl e)))), h.rV, h.len, fun i q v a b => (h.sub i q v a b).keep (fun g e => hb g (.inr (.inr (.inr e)))) (fun _ e => e)⟩
theorem Sq.below (h : Sq n₀ B2 B3 T f ul ue vk E K vs V w) (hb : Below w.heap.size w w') : Sq n₀ B2 B3 T f ul ue vk E K vs V w' := h.keep (fun k hk => by
  obtain ⟨_, cs, t, e⟩ := h.cells hk
  exact hb.block k (Array.getElem?_eq_some_iff.1 e).1)
theorem info49 : (Tryz.prog.info? 49).map (fun i => (i.zero, i.size, i.bytes)) = some (some (.agg #[.slice none 0 0, .bool false, .slice none 0 0, .slice none 0 0]), 4, 80) := by kernel_rfl
/-- One more kid. -/
structure Sn (w1 w2 : World) (g k : Nat) (B3 : Nat) (ul ue v' : Value) (xs : List Value) (u : V3) : Prop where
  row : w2.ownsRow 0 49 4 v' (k + 1) (xs ++ [u.1, .bool false, u.2.1, u.2.2])
  b3 : w2.heap[B3]? = some (.cells #[ul, .bool false, ue, v'] 49 (0, 0))
  ch : Ch (fun j => j = g ∨ j = B3) w1 w2
theorem set4 {w : World} {g c k : Nat} {xs : List Value} {a b d : Value} {z0 z1 z2 z3 : Value} (h : w.ownsRow 0 49 4 (.slice (some ⟨g, 0, none⟩) (k + 1) c) (k + 1) (xs ++ [z0, z1, z2, z3])) (hl : xs.length = k * 4) :
    ((((w.setCell ⟨g, k * 4, none⟩ a).setCell ⟨g, k * 4 + 1, none⟩ (.bool false)).setCell ⟨g, k * 4 + 2, none⟩ b).setCell ⟨g, k * 4 + 3, none⟩ d).ownsRow 0 49 4 (.slice (some ⟨g, 0, none⟩) (k + 1) c) (k + 1) (xs ++ [a, .bool false, b, d]) := by
  have := (((h.stored (k * 4) a).1.stored (k * 4 + 1) (.bool false)).1.stored (k * 4 + 2) b).1.stored (k * 4 + 3) d
  have e : ((((xs ++ [z0, z1, z2, z3]).set (k * 4) a).set (k * 4 + 1) (.bool false)).set (k * 4 + 2) b).set (k * 4 + 3) d = xs ++ [a, .bool false, b, d] := by
    rw [← hl, List.set_append_right _ _ (by omega), List.set_append_right _ _ (by omega), List.set_append_right _ _ (by omega), List.set_append_right _ _ (by omega)]
    simp
  rw [e] at this
  exact this.1
theorem sn_a {w : World} {g c k : Nat} {xs : List Value} {u : V3} {z0 z1 z2 z3 o : Value} (h : w.ownsRow 0 49 4 (.slice (some ⟨g, 0, none⟩) (k + 1) c) (k + 1) (xs ++ [z0, z1, z2, z3])) (hl : xs.length = k * 4) (hb : w.heap[B3]? = some (.cells #[ul, .bool false, ue, o] 49 (0, 0))) (hg : g ≠ B3) :
    Sn w (((((w.setCell ⟨g, k * 4, none⟩ u.1).setCell ⟨g, k * 4 + 1, none⟩ (.bool false)).setCell ⟨g, k * 4 + 2, none⟩ u.2.1).setCell ⟨g, k * 4 + 3, none⟩ u.2.2).setCell ⟨B3, 3, none⟩ (.slice (some ⟨g, 0, none⟩) (k + 1) c)) g k B3 ul ue (.slice (some ⟨g, 0, none⟩) (k + 1) c) xs u := by
  have r := set4 (a := u.1) (b := u.2.1) (d := u.2.2) h hl
  have c4 : Ch (fun j => j = g) w ((((w.setCell ⟨g, k * 4, none⟩ u.1).setCell ⟨g, k * 4 + 1, none⟩ (.bool false)).setCell ⟨g, k * 4 + 2, none⟩ u.2.1).setCell ⟨g, k * 4 + 3, none⟩ u.2.2) := (((ch_set g _ _).then (ch_set g _ _)).then (ch_set g _ _)).then (ch_set g _ _)
  have b4 := (c4.block B3 (Array.getElem?_eq_some_iff.1 hb).1 (fun e => hg e.symm)).trans hb
  refine ⟨own_blk r (fun j e => ?_), by rw [heap_set b4]; rfl, (c4.mono (fun j _ e => .inl e)).then ((ch_set B3 3 _).mono (fun j _ e => .inr e))⟩
  cases e
  exact heap_set_ne _ hg
theorem sn_b {w : World} {g c k : Nat} {xs : List Value} {u : V3} {z0 z1 z2 z3 o : Value} (h : w.ownsRow 0 49 4 (.slice (some ⟨g, 0, none⟩) (k + 1) c) (k + 1) (xs ++ [z0, z1, z2, z3])) (hl : xs.length = k * 4) (hb : w.heap[B3]? = some (.cells #[ul, .bool false, ue, o] 49 (0, 0))) (hg : g ≠ B3) :
    Sn w (((((w.setCell ⟨B3, 3, none⟩ (.slice (some ⟨g, 0, none⟩) (k + 1) c)).setCell ⟨g, k * 4, none⟩ u.1).setCell ⟨g, k * 4 + 1, none⟩ (.bool false)).setCell ⟨g, k * 4 + 2, none⟩ u.2.1).setCell ⟨g, k * 4 + 3, none⟩ u.2.2) g k B3 ul ue (.slice (some ⟨g, 0, none⟩) (k + 1) c) xs u := by
  have h' := own_blk (w' := w.setCell ⟨B3, 3, none⟩ (.slice (some ⟨g, 0, none⟩) (k + 1) c)) h (fun j e => by cases e; exact heap_set_ne _ hg)
  have r := set4 (a := u.1) (b := u.2.1) (d := u.2.2) h' hl
  have c4 : Ch (fun j => j = g) (w.setCell ⟨B3, 3, none⟩ (.slice (some ⟨g, 0, none⟩) (k + 1) c)) (((((w.setCell ⟨B3, 3, none⟩ (.slice (some ⟨g, 0, none⟩) (k + 1) c)).setCell ⟨g, k * 4, none⟩ u.1).setCell ⟨g, k * 4 + 1, none⟩ (.bool false)).setCell ⟨g, k * 4 + 2, none⟩ u.2.1).setCell ⟨g, k * 4 + 3, none⟩ u.2.2) := (((ch_set g _ _).then (ch_set g _ _)).then (ch_set g _ _)).then (ch_set g _ _)
  have b1 : (w.setCell ⟨B3, 3, none⟩ (.slice (some ⟨g, 0, none⟩) (k + 1) c)).heap[B3]? = some (.cells #[ul, .bool false, ue, .slice (some ⟨g, 0, none⟩) (k + 1) c] 49 (0, 0)) := by rw [heap_set hb]; rfl
  refine ⟨r, (c4.block B3 (Array.getElem?_eq_some_iff.1 b1).1 (fun e => hg e.symm)).trans b1, ((ch_set B3 3 _).mono (fun j _ e => .inr e)).then (c4.mono (fun j _ e => .inl e))⟩
theorem Sq.step {w1 w2 : World} {q : Fn} {u : V3} {Vn : Nat → Prop} {v' : Value} {N g : Nat} (h : Sq n₀ B2 B3 T f ul ue vk E K vs V w) (sh : ShAt w Vn T q u) (vn : VC N w Vn) (hN : ∀ k, Sb3 B2 B3 vk V k → k < N) (h0 : n₀ ≤ N)
    (c1 : Ch (fun j => vk.ownBlock = some j) w w1) (hg : v'.ownBlock = some g) (gg : vk.ownBlock = some g ∨ w.heap.size ≤ g) (sn : Sn w1 w2 g vs.length B3 ul ue v' (shc vs) u) :
    Sq n₀ B2 B3 T f ul ue v' E (K ++ [q]) (vs ++ [u]) (fun k => V k ∨ Vn k) w2 ∧ Ch (fun j => j = B3 ∨ vk.ownBlock = some j) w w2 := by
  have lt2 := (Array.getElem?_eq_some_iff.1 h.b2).1
  have lt3 := (Array.getElem?_eq_some_iff.1 h.b3).1
  have cc : Ch (fun j => j = B3 ∨ vk.ownBlock = some j) w w2 := (c1.mono (fun j _ e => .inr e)).trans sn.ch (fun j hj e => by
    rcases e with rfl | e
    · rcases gg with e | e
      · exact .inr e
      · omega
    · exact .inl e)
  have VO : ∀ k, V k → w2.heap[k]? = w.heap[k]? := fun k hk => cc.block k (h.vc.lt hk) (fun e => by
    rcases e with rfl | e
    · exact h.v2.2 hk
    · exact (h.rV k e).1 hk)
  have VN : ∀ k, Vn k → w2.heap[k]? = w.heap[k]? := fun k hk => cc.block k (vn.lt hk) (fun e => by
    have := (vn k hk).1
    rcases e with rfl | e
    · have := hN _ (.inr (.inl rfl)); omega
    · have := hN _ (.inr (.inr (.inl e))); omega)
  refine ⟨⟨(cc.block B2 lt2 (fun e => by
      rcases e with e | e
      · exact h.ne e
      · exact (h.rV B2 e).2.1 rfl)).trans h.b2, sn.b3, h.ne, h.lo, own_blk h.lv (fun j e => VO j (h.lV j e)), own_blk h.en (fun j e => VO j (h.eV j e)), h.es, fun j e => .inl (h.lV j e), fun j e => .inl (h.eV j e), ?_, ?_, ?_, ?_, by simp [h.len], ?_⟩, cc⟩
  · rintro k (hk | hk)
    · exact h.vc.keep VO k hk
    · obtain ⟨a, b⟩ := vn.keep VN k hk
      exact ⟨by omega, b⟩
  · refine ⟨fun e => ?_, fun e => ?_⟩
    · rcases e with e | e
      · exact h.v2.1 e
      · have := (vn _ e).1; have := hN _ (.inl rfl); omega
    · rcases e with e | e
      · exact h.v2.2 e
      · have := (vn _ e).1; have := hN _ (.inr (.inl rfl)); omega
  · have : shc (vs ++ [u]) = shc vs ++ [u.1, .bool false, u.2.1, u.2.2] := by rw [shc_app]; rfl
    rw [this, List.length_append]
    refine row_base sn.row (fun j e => ?_)
    rw [hg] at e
    cases e
    rcases gg with e | e
    · exact row_ge h.row e
    · have := h.lo.1; omega
  · intro j e
    rw [hg] at e
    cases e
    rcases gg with e | e
    · refine ⟨fun c => ?_, (h.rV _ e).2⟩
      rcases c with c | c
      · exact (h.rV _ e).1 c
      · have := (vn _ c).1; have := hN _ (.inr (.inr (.inl e))); omega
    · refine ⟨fun c => ?_, by omega, by omega⟩
      rcases c with c | c
      · have := h.vc.lt c; omega
      · have := vn.lt c; omega
  · intro i q' v hq hv
    by_cases c : i < K.length
    · rw [List.getElem?_append_left c] at hq
      rw [List.getElem?_append_left (by rw [h.len]; exact c)] at hv
      exact (h.sub i q' v hq hv).keep VO (fun k e => .inl e)
    · rw [List.getElem?_append_right (by omega)] at hq
      rw [List.getElem?_append_right (by rw [h.len]; omega), h.len] at hv
      by_cases e : i - K.length = 0
      · rw [e] at hq hv
        simp at hq hv
        subst hq hv
        exact sh.keep VN (fun k e => .inr e)
      · obtain ⟨j, hj⟩ : ∃ j, i - K.length = j + 1 := ⟨i - K.length - 1, by omega⟩
        rw [hj] at hq
        simp at hq
/-- The shape when all kids have come. -/
theorem Sq.whole (h : Sq n₀ B2 B3 T f ul ue vk E K vs V w) {L : List ByteArray} (ks : KidsOf T f L K) : ShAt w (fun k => V k ∨ vk.ownBlock = some k) T f (ul, ue, vk) ∧ VC n₀ w (fun k => V k ∨ vk.ownBlock = some k) :=
  ⟨.mk f _ L K E vs h.lv (fun g e => .inl (h.lV g e)) h.en (fun g e => .inl (h.eV g e)) h.es ks h.len (own0 h.row) (fun g e => .inr e) (fun i q v a b => (h.sub i q v a b).keep (fun _ _ => rfl) (fun g e => .inl e)),
   fun k hk => h.cells (hk.elim (fun e => .inr (.inr (.inr e))) (fun e => .inr (.inr (.inl e))))⟩
theorem sq_append {ka : Option Addr} {kc N : Nat} (h : Sq n₀ B2 B3 T f ul ue (.slice ka vs.length kc) E K vs V w) (hz : w.heap[N]? = some (.cells #[.slice none 0 0, .bool false, .slice none 0 0, .slice none 0 0] 49 (0, 0))) (hk : vs.length ≤ 900000) :
    ∃ g c w1, (Builtin.append_ #[47, 47] 47 #[.slice ka vs.length kc, .slice (some ⟨N, 0, none⟩) 1 1]).run Tryz.prog w = .ok (.slice (some ⟨g, 0, none⟩) (vs.length + 1) c) w1 ∧ w1.ownsRow 0 49 4 (.slice (some ⟨g, 0, none⟩) (vs.length + 1) c) (vs.length + 1) (shc vs ++ [.slice none 0 0, .bool false, .slice none 0 0, .slice none 0 0]) ∧ Ch (fun j => (Value.slice ka vs.length kc).ownBlock = some j) w w1 ∧ ((Value.slice ka vs.length kc).ownBlock = some g ∨ w.heap.size ≤ g) := by
  obtain ⟨i0, hi0, hzz⟩ := Option.map_eq_some_iff.1 info49
  simp only [Prod.mk.injEq] at hzz
  obtain ⟨v', w', hr, h2, h3, h4, h5⟩ := run_append_own_at (P := Tryz.prog) w 0 47 47 49 i0 _ 4 80 Tryz.underlying47 hi0 hzz.1 hzz.2.1 hzz.2.2 (by rfl) (by decide) _ vs.length (shc vs) (own0 h.row) ⟨N, 0, none⟩ 1 1 [.slice none 0 0, .bool false, .slice none 0 0, .slice none 0 0] (by rfl) (fun j u hu => by
    rw [addr_at]
    exact box_cells hz j u (by simpa using hu)) (by intro u hu; simp at hu; rcases hu with rfl | rfl | rfl | rfl <;> rfl) (by unfold maxLen; omega) (by omega) (by omega)
  rcases h2.2 with ⟨_, q⟩ | ⟨g', cap', cur, rfl, _⟩
  · omega
  · refine ⟨g', cap', w', hr, h2, (ch_grown h3).mono (fun j _ q => q), ?_⟩
    rcases h5 with q | q
    · exact .inl (by rw [← q]; rfl)
    · simp [Value.ownBlock] at q
      exact .inr (by omega)
theorem ShAt.form {u : V3} (h : ShAt w V T f u) : ∃ a n c a' n' c' a'' n'' c'', u = (.slice a n c, .slice a' n' c', .slice a'' n'' c'') := by
  cases h with
  | mk _ _ L K E vs lv lV en eV es ks len kd kV sub =>
    obtain ⟨a, c, e⟩ := own_sl lv
    obtain ⟨a', c', e'⟩ := own_sl en
    obtain ⟨a'', c'', e''⟩ := own_sl kd
    obtain ⟨u1, u2, u3⟩ := u
    simp only at e e' e''
    subst e e' e''
    exact ⟨_, _, _, _, _, _, _, _, _, rfl⟩
set_option maxRecDepth 100000 in
theorem step_st4 {ops : Array Oper} {o : Oper} {a : Act} {w : World} {K : Act → World → Prop} {Q : Exit → Act → World → Prop} {E : Prop} (hg : o.guard = none) (x y : Operand) (hop : o.op = Op.store 49 x y) {g k n1 c1 n2 c2 n3 c3 : Nat} {a1 a2 a3 : Option Addr} {z0 z1 z2 z3 : Value}
    (hx : a.eval x = .pointer (some ⟨g, k, none⟩)) (hy : a.eval y = .agg #[.slice a1 n1 c1, .bool false, .slice a2 n2 c2, .slice a3 n3 c3]) (e0 : w.cell? ⟨g, k, none⟩ = some z0) (e1 : w.cell? ⟨g, k + 1, none⟩ = some z1) (e2 : w.cell? ⟨g, k + 2, none⟩ = some z2) (e3 : w.cell? ⟨g, k + 3, none⟩ = some z3)
    (f0 : w.frozen? ⟨g, k, none⟩ = false) (f1 : w.frozen? ⟨g, k + 1, none⟩ = false) (f2 : w.frozen? ⟨g, k + 2, none⟩ = false) (f3 : w.frozen? ⟨g, k + 3, none⟩ = false)
    (hK : K (a.put o.dst undef) ((((w.setCell ⟨g, k, none⟩ (.slice a1 n1 c1)).setCell ⟨g, k + 1, none⟩ (.bool false)).setCell ⟨g, k + 2, none⟩ (.slice a2 n2 c2)).setCell ⟨g, k + 3, none⟩ (.slice a3 n3 c3))) : if Region.wanted o (yielded ops a.tmps) = true then Oper.wp Tryz.prog o a w K Q else E := by
  have hw : Region.wanted o (yielded ops a.tmps) = true := by simp [Region.wanted, hg]
  rw [if_pos hw]
  unfold Oper.wp
  have hr : (execOp a.eval o).run Tryz.prog w = .ok .skip ((((w.setCell ⟨g, k, none⟩ (.slice a1 n1 c1)).setCell ⟨g, k + 1, none⟩ (.bool false)).setCell ⟨g, k + 2, none⟩ (.slice a2 n2 c2)).setCell ⟨g, k + 3, none⟩ (.slice a3 n3 c3)) := by
    simp only [execOp, hop, hx, hy]
    go_simp
  rw [hr]
  exact hK
end Go.Proofs.YtepjcfhbbcaldaaGreat.Li
