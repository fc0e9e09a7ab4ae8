import Derived.RangeFuncBox
import Derived.RangeFuncNested
import Derived.RangeFuncLeaves
import Derived.RangeFuncCalls
import Derived.Shelf.Abstract
import Derived.Shelf.RegionOpen
import Derived.WalkKit
import Derived.OwnWalkIn
import Derived.TacticsInMore
import Derived.LoopNIn
import Derived.LoopIn
import Derived.RegionIn
import Derived.Maps.AppendAt
import Derived.Test.YtglnldopnoafoaaGreatDoorWb
namespace Go.Proofs.YtglnldopnoafoaaGreatDoor
open Go Go.RowKit Go.Shelf
set_option linter.unusedSimpArgs false
set_option linter.unusedVariables false

attribute [local go_sem] Oper.semAt_some

/-- What has come when k rounds are over. -/
def upto {α : Type} (f : Nat → α) (k : Nat) : List α := (List.range k).map f
theorem upto_succ {α : Type} (f : Nat → α) (k : Nat) : upto f (k + 1) = upto f k ++ [f k] := by simp [upto, List.range_succ]
theorem upto_length {α : Type} (f : Nat → α) (k : Nat) : (upto f k).length = k := by simp [upto]
/-- The texts of a row from the last on, each with its place. -/
def bkw (zs : List ByteArray) (j : Nat) : Nat × ByteArray := (zs.length - 1 - j, zs[zs.length - 1 - j]?.getD ⟨#[]⟩)

/-- What a round keeps: all that lay below, and the box. -/
def Kb (n₀ Bs : Nat) (W W' : World) : Prop := Below n₀ W W' ∧ W'.cell? ⟨Bs, 0, none⟩ = W.cell? ⟨Bs, 0, none⟩
theorem Kb.refl (n₀ Bs : Nat) (W : World) : Kb n₀ Bs W W := ⟨Below.refl _ _, rfl⟩
theorem Kb_t {n₀ Bs : Nat} {A B C : World} (h : Kb n₀ Bs A B) (k : Kb n₀ Bs B C) : Kb n₀ Bs A C := ⟨h.1.trans k.1, k.2.trans h.2⟩
theorem Kb_b {n₀ Bs : Nat} {w : World} (hn : n₀ ≤ w.heap.size) (hb : Bs < w.heap.size) (W : World) (l : Nat) (o o' : Obj) (hl : w.heap.size ≤ l) (h : W.heap[l]? = some o) (h1 : o.isCells = false) (h2 : o.isWalk = false) : Kb n₀ Bs W (W.putObj l o') :=
  ⟨belowK_b hn W l o o' hl h h1 h2, (belowK_b (Nat.le_refl _) W l o o' hl h h1 h2).cell (p := ⟨Bs, 0, none⟩) hb⟩
set_option maxRecDepth 100000 in
set_option maxHeartbeats 2000000 in
theorem back1_in (F : Fence) (n : Nat) (h8 : F.fn 154) (hro : F.round = none) (hn : 1 ≤ n) (l Bs n₀ b off cap : Nat) (zs : List ByteArray) (hreach : zs.length ≤ 1000001) (hcap : zs.length ≤ cap) (hb : b < n₀) (J Jx : List (Nat × ByteArray) → World → Prop)
    (hY : ∀ pre x W, J pre W → pre.length < zs.length → YieldAt F (n - 1) Tryz.prog l #[.int .i64 (x.1 : Int), .string x.2] W fun e W' =>
      (e = .returned (.bool true) ∧ J (pre ++ [x]) W' ∧ Kb n₀ Bs W W') ∨ (e = .returned (.bool false) ∧ Jx (pre ++ [x]) W'))
    (W : World) (hBs : W.cell? ⟨Bs, 0, none⟩ = some (.slice (some ⟨b, off, none⟩) zs.length cap)) (hc : ∀ j, j < zs.length → W.cell? ⟨b, off + j, none⟩ = some (.string (zs[j]?.getD ⟨#[]⟩))) (h0 : J [] W) :
    CallsIn F n Tryz.prog 154 #[.func (.yield l) #[] #[], .pointer (some ⟨Bs, 0, none⟩)] W fun e W' => (∃ v, e = .returned v) ∧
      ((∃ ys, ys = upto (bkw zs) zs.length ∧ J ys W') ∨ (∃ pre, (∃ k, k ≤ zs.length ∧ pre = upto (bkw zs) k) ∧ Jx pre W')) := by
  obtain ⟨len, hlen⟩ : ∃ len, len = zs.length := ⟨_, rfl⟩
  rw [← hlen] at hBs hY hreach hcap hc ⊢
  have HL : Hid (len = zs.length) := hlen
  clear hlen
  refine callsIn_of_wp Tryz.func154 rfl h8 ?_ hro
  simp only [Tryz.ntmps154, List.size_toArray, List.length_cons, List.length_nil, Nat.reduceAdd, Nat.reduceSub, Array.replicate_succ, Array.replicate_zero, List.push_toArray, List.append_toArray, List.nil_append, List.cons_append]
  have hw0 : IntKind.i64.wrap ((len : Int) - 1) = (len : Int) - 1 := by rw [IntKind.wrap_i64]; omega
  gi_wp2
  gi_loopw [3] (fun i wr => ∃ k m : Nat, k + m = len ∧ i = .int .i64 ((m : Int) - 1) ∧ J (upto (bkw zs) k) wr ∧ Kb n₀ Bs W wr)
    (fun i _ => (intOf i + 1).toNat)
  case atStart => exact ⟨0, len, by omega, rfl, h0, Kb.refl _ _ _⟩
  case round =>
    obtain ⟨k, m, hk, rfl, hJs, hnx⟩ := hrel
    have hBx : wr.cell? ⟨Bs, 0, none⟩ = some (.slice (some ⟨b, off, none⟩) len cap) := hnx.2.trans hBs
    cases m with
    | zero =>
      obtain rfl : k = len := by omega
      have hq : ¬ (0 : Int) ≤ ((0 : Nat) : Int) - 1 := by omega
      gi_wp2
      go_end0
      first | exact ⟨⟨_, rfl⟩, .inl ⟨_, rfl, hJs⟩⟩ | exact ⟨⟨_, rfl⟩, .inl hJs⟩
    | succ q =>
      have eq1 : (((q + 1 : Nat) : Int) - 1) = (q : Int) := by omega
      rw [eq1]
      have hlt : q < len := by omega
      have hbk : bkw zs k = (q, zs[q]?.getD ⟨#[]⟩) := by
        unfold bkw
        rw [← HL.out, show len - 1 - k = q by omega]
      have hcx' : wr.cell? ⟨b, off + q, none⟩ = some (.string (zs[q]?.getD ⟨#[]⟩)) := (hnx.1.cell (p := ⟨b, off + q, none⟩) hb).trans (hc q (by omega))
      obtain ⟨fn, tmps, assign, body, hy, hR⟩ := hY _ (q, zs[q]?.getD ⟨#[]⟩) wr hJs (by rw [upto_length]; omega)
      dsimp only at hy
      have hw1 : IntKind.i64.wrap ((q : Int) - 1) = (q : Int) - 1 := by rw [IntKind.wrap_i64]; omega
      have hq0 : (0 : Int) ≤ (q : Int) := by omega
      have hq1 : (q : Int) < len := by omega
      gi_wp2
      refine hR.mono ?_
      rintro e W3 (⟨rfl, hJ3, hk3⟩ | ⟨rfl, hJx3⟩)
      · gi_wp2
        go_roundw
        case rel => exact ⟨k + 1, q, by omega, by simp, by rw [upto_succ, hbk]; exact hJ3, Kb_t hnx hk3⟩
        case measure => simp [intOf]
      · gi_wp2
        refine bodyPost_ret (results_none rfl _ _ _) rfl ?_
        exact ⟨⟨_, rfl⟩, .inr ⟨_, ⟨k + 1, by omega, by rw [upto_succ, hbk]⟩, hJx3⟩⟩
set_option maxRecDepth 100000 in
set_option maxHeartbeats 1000000 in
theorem back1_nil_in (F : Fence) (n : Nat) (h8 : F.fn 154) (hro : F.round = none) (l Bs cap : Nat) (a : Option Addr) (J : List (Nat × ByteArray) → World → Prop) (W : World) (hBs : W.cell? ⟨Bs, 0, none⟩ = some (.slice a 0 cap)) (h0 : J [] W) :
    CallsIn F n Tryz.prog 154 #[.func (.yield l) #[] #[], .pointer (some ⟨Bs, 0, none⟩)] W fun e W' => (∃ v, e = .returned v) ∧ J [] W' := by
  refine callsIn_of_wp Tryz.func154 rfl h8 ?_ hro
  simp only [Tryz.ntmps154, List.size_toArray, List.length_cons, List.length_nil, Nat.reduceAdd, Nat.reduceSub, Array.replicate_succ, Array.replicate_zero, List.push_toArray, List.append_toArray, List.nil_append, List.cons_append]
  gi_wp2
  gi_loopw [3] (fun i wr => i = .int .i64 (-1) ∧ J [] wr) (fun _ _ => 0)
  case atStart => exact ⟨rfl, h0⟩
  case round =>
    obtain ⟨rfl, hJs⟩ := hrel
    gi_wp2
    go_end0
    exact ⟨⟨_, rfl⟩, hJs⟩
set_option maxHeartbeats 1000000 in
theorem back_in (F : Fence) (n : Nat) (h6 : F.fn 141) (hro : F.round = none) (a : Option Addr) (len cap : Nat) (w : World) :
    CallsIn F n Tryz.prog 141 #[.slice a len cap] w fun e w' => e = .returned (.func (.func 154) #[] #[.pointer (some ⟨w.heap.size, 0, none⟩)]) ∧ w' = w.alloc (.cells #[.slice a len cap] 22) := by
  refine callsIn_of_wp Tryz.func141 rfl h6 ?_ hro
  simp only [Tryz.ntmps141, List.size_toArray, List.length_cons, List.length_nil, Nat.reduceAdd, Nat.reduceSub, Array.replicate_succ, Array.replicate_zero, List.push_toArray, List.append_toArray, List.nil_append, List.cons_append]
  gi_wp2
  go_ret
  exact ⟨rfl, rfl⟩
theorem back_stops (F : Fence) (n : Nat) (h8 : F.fn 154) (hro : F.round = none) (hn : 1 ≤ n) (Bs n₀ : Nat) (sv : Value) (zs : List ByteArray) (hreach : zs.length ≤ 1000001) (w : World) (hBs : Bs < w.heap.size) (hn₀ : n₀ ≤ w.heap.size)
    (hc : w.cell? ⟨Bs, 0, none⟩ = some sv) (w0 : World) (hI : Row w0 sv zs) (h0 : w0.heap.size ≤ n₀) (hB0 : Below w0.heap.size w0 w) :
    SeqStopsK F n Tryz.prog 154 #[.pointer (some ⟨Bs, 0, none⟩)] (fun x : Nat × ByteArray => #[Value.int .i64 (x.1 : Int), Value.string x.2]) (Kb n₀ Bs) (fun ys => ys = upto (bkw zs) zs.length)
      (fun pre => ∃ k, k ≤ zs.length ∧ pre = upto (bkw zs) k) zs.length w := fun l J Jx W hW _ _ hY hJ0 => by
  have hc' := (hW.cell (p := ⟨Bs, 0, none⟩) hBs).trans hc
  have hI2 := hI.later (hB0.trans (hW.mono (Nat.le_trans h0 hn₀)))
  obtain ⟨a, k, cap, rfl, hk, hcp, hx⟩ := hI
  subst hk
  cases zs with
  | nil => exact (back1_nil_in F n h8 hro l Bs cap a J W hc' hJ0).mono fun e W' ⟨he, hj⟩ => ⟨he, .inl ⟨_, rfl, hj⟩⟩
  | cons z r =>
    obtain ⟨g, o, rfl, hg, hcl⟩ := hx (by simp)
    obtain ⟨g', o', n', cap', hv', hn2, hc2, hg2, c0, hk2⟩ := hI2.cons
    simp only [Value.slice.injEq, Option.some.injEq, Addr.mk.injEq] at hv'
    obtain ⟨⟨rfl, rfl, -⟩, rfl, rfl⟩ := hv'
    refine back1_in F n h8 hro hn l Bs n₀ g o cap (z :: r) hreach hcp (by omega) J Jx hY W hc' ?_ hJ0
    intro j hj
    cases j with
    | zero => exact c0
    | succ j =>
      have hj' : j < r.length := by simpa using hj
      have := hk2 j r[j] (by simp [hj'])
      rw [this]
      simp [hj']

theorem upto_all (zs : List ByteArray) : (upto (bkw zs) zs.length).map (·.2) = zs.reverse := by
  apply List.ext_getElem
  · simp [upto]
  · intro i h1 h2
    have : i < zs.length := by simpa using h2
    have h3 : zs.length - 1 - i < zs.length := by omega
    simp [upto, bkw, h3]
theorem info9 : (Tryz.prog.info? 9).map (fun i => (i.zero, i.size, i.bytes)) = some (some (.string ⟨#[]⟩), 1, 16) := by kernel_rfl
/-- What is collected. -/
def fl (pre : List (Nat × ByteArray)) : List Value := pre.map fun x => Value.string (mkB (fillB (unB x.2)))
theorem fl_snoc (pre : List (Nat × ByteArray)) (x : Nat × ByteArray) : fl (pre ++ [x]) = fl pre ++ [Value.string (mkB (fillB (unB x.2)))] := by simp [fl]

theorem stepIn_append {F : Fence} {n : Nat} {P : Program} {w : World} {ops : Array Oper} {o : Oper} {a : Act} {K : Act → World → Prop} {Q : Exit → Act → World → Prop} {E : Prop}
    (hg : o.guard = none) (s x : Operand) (t : TypeId) (hop : o.op = Op.call { callee := Callee.builtin Builtin.append, args := #[s, x], argTypes := #[t, t] })
    (base : Nat) (e : TypeId) (i : TypeInfo) (z : Value) (size bytes : Nat) (h1 : P.underlying t = some (.slice e)) (h2 : P.info? e = some i) (h3 : i.zero = some z) (h4 : i.size = size) (h5 : i.bytes = bytes) (h6 : z.cells.size = size) (h7 : 0 < size)
    (v : Value) (k : Nat) (xs : List Value) (hs : a.eval s = v) (hown : w.ownsRow base e size v k xs) (ad : Addr) (m c : Nat) (news : List Value) (hx : a.eval x = .slice (some ad) m c) (hn : news.length = m * size)
    (hc : ∀ j u, news[j]? = some u → w.cell? (ad.add j) = some u) (h1c : ∀ u ∈ news, u.oneCell' = true) (b1 : k + m ≤ maxLen) (b2 : (k + m) * bytes ≤ 140737488355328) (b3 : base ≤ w.heap.size)
    (hK : ∀ v' w', w'.ownsRow base e size v' (k + m) (xs ++ news) → w.grownBy w' v.ownBlock → K (a.put o.dst v') w') :
    if Region.wanted o (yielded ops a.tmps) = true then Oper.wpIn F n P o a w K Q else E := by
  have hw : Region.wanted o (yielded ops a.tmps) = true := by simp [Region.wanted, hg]
  rw [if_pos hw]
  obtain ⟨v', w', hrun, r1, r2, r3⟩ := run_append_own (P := P) w base t o.type e i z size bytes h1 h2 h3 h4 h5 h6 h7 v k xs hown ad m c news hn hc h1c b1 b2 b3
  unfold Oper.wpIn
  refine ⟨?_, ?_⟩
  · simp [Oper.about, hop, resolve, Target.leads, Sem.run_pure]
  · rw [Oper.semAt_plain F _ _ (by rw [hop]; intro c hc'; cases hc')]
    simp [execOp, hop, resolve, invoke, builtin, hs, hx, hrun, Result.andThen]
    exact hK v' w' r1 r2

set_option maxRecDepth 100000 in
set_option maxHeartbeats 4000000 in
theorem filled_any (xs : List ByteArray) (v0 : Value) (w : World) (R : Row w v0 xs) (hl : xs.length ≤ 1000000) : Calls Tryz.prog 88 #[v0] w fun e w' => ∃ v, e = .returned v ∧ w'.ownsRow w.heap.size 9 1 v xs.length (fl (upto (bkw xs) xs.length)) ∧ Below w.heap.size w w' := by
  obtain ⟨i0, hi, hz0, hz1, hz2⟩ := info_parts info9
  have HR : Hid (Row w v0 xs) := R
  obtain ⟨a, n, cap, rfl, hn, hc, hx⟩ := R
  obtain ⟨wm, hmk, hom, hgm⟩ := run_make_own (P := Tryz.prog) w w.heap.size 22 9 i0 (.string ⟨#[]⟩) 1 Tryz.underlying22 hi hz0 hz1 .i64 .i64 (n + 1) (by rw [hz2]; omega) (by unfold maxLen; omega) (Nat.le_refl _)
  have hmk' : (Instr.makeSlice 22 (.int .i64 0) (.int .i64 ((n : Int) + 1))).run Tryz.prog w = .ok (.slice (some ⟨w.heap.size, 0, none⟩) 0 (n + 1)) wm := hmk
  have hw : IntKind.i64.wrap ((n : Int) + 1) = (n : Int) + 1 := by rw [IntKind.wrap_i64]; omega
  have bm : Below w.heap.size w wm := ⟨hgm.os, hgm.tape, hgm.output, hgm.size, fun k hk => hgm.block k hk (fun e => by cases e)⟩
  have hms : w.heap.size < wm.heap.size := (hom.lt w.heap.size rfl).2
  have HN : Hid (n = xs.length) := hn
  have HL : Hid (xs.length ≤ 1000000) := hl
  clear hn hc hx hmk hgm hl
  refine (callsIn_wide (n := 5)).1 ?_
  refine callsIn_of_wp_marks Tryz.func88 rfl trivial ?_ rfl
  simp only [Tryz.ntmps88, List.size_toArray, List.length_cons, List.length_nil, Nat.reduceAdd, Nat.reduceSub, Array.replicate_succ, Array.replicate_zero, List.push_toArray, List.append_toArray, List.nil_append, List.cons_append]
  gi_wp2_with (refine ⟨trivial, ?_⟩; gi_at_call 141; refine (back_in Fence.wide _ trivial rfl _ _ _ _).mono ?_; rintro e w' ⟨rfl, rfl⟩)
  have bO := Boxed.new wm 22 (.slice (some ⟨w.heap.size, 0, none⟩) 0 (n + 1))
  have bN := Boxed.new (wm.alloc (.cells #[.slice (some ⟨w.heap.size, 0, none⟩) 0 (n + 1)] 22)) 22 (.slice a n cap)
  rw [World.size_alloc] at bN
  have hB0 : Below w.heap.size w ((wm.alloc (.cells #[.slice (some ⟨w.heap.size, 0, none⟩) 0 (n + 1)] 22)).alloc (.cells #[.slice a n cap] 22)) := (bm.alloc (by omega) _).alloc (by simp; omega) _
  refine wpIn_rangeFunc_ownG rfl (by omega) (gf := 154) (lb := #[.pointer (some ⟨wm.heap.size + 1, 0, none⟩)]) rfl trivial (enters_of Tryz.func154 (by kernel_rfl) rfl)
    (back_stops Fence.wide _ trivial rfl (by omega) (wm.heap.size + 1) w.heap.size (.slice a n cap) xs (by have := HL.out; omega) _ (by simp) (by simp; omega) bN.cell w HR.out (Nat.le_refl _) hB0) Kb_t (Kb_b (by simp; omega) (by simp)) (Below.refl _ _) (fun _ => rfl)
    (fun pre W => ((∃ v, Boxed W wm.heap.size 22 v ∧ W.ownsRow w.heap.size 9 1 v pre.length (fl pre) ∧ True) ∧ Boxed W (wm.heap.size + 1) 22 (.slice a n cap)) ∧ Below w.heap.size w W)
    (fun _ _ _ => False)
    (OwnFrom.and (Own.from (fun s A B row hs hg hr => ⟨holdsRow_own w.heap.size wm.heap.size 22 9 1 (fun pre => pre.length) (fun pre => fl pre) (fun _ _ => True) s A B row hs.1 hg hr, boxed_own (wm.heap.size + 1) 22 (fun _ => Value.slice a n cap) s A B row hs.2 hg hr⟩) _) (ownFrom_below (Nat.le_refl _) (by simp; omega)))
    (fun _ _ _ _ _ hs _ _ => hs)
    ⟨⟨⟨_, bO.alloc _, (hom.alloc _).alloc _, trivial⟩, bN⟩, hB0⟩
    (fun x => { tmps := #[.slice a n cap, undef, .slice none 0 0, .pointer (some ⟨wm.heap.size, 0, none⟩), undef, .string x.2, .slice a n cap, .int .i64 n, .int .i64 ((n : Int) + 1), .slice (some ⟨w.heap.size, 0, none⟩) 0 (n + 1), .slice a n cap, .func (.func 154) #[] #[.pointer (some ⟨wm.heap.size + 1, 0, none⟩)], .int .i64 (x.1 : Int), .string x.2, undef, undef, undef, undef, undef, undef], defers := [] }) ?assign ?body ?done ?stop
  case assign =>
    intro l x W K hK
    gi_wp2
    exact hK
  case body =>
    rintro l pre x W ⟨⟨⟨v, hv, hrow, -⟩, hbx⟩, hB⟩ hlt
    have hc := hv.cell
    have hpl : pre.length ≤ 1000000 := by have := HL.out; omega
    have hmx : Tryz.prog.follows .mixedOrders = true := by kernel_rfl
    gi_wp2
    have FA : Hid (∀ W1, Calls Tryz.prog 142 #[.string x.2] W1 fun e w' => e = .returned (.string (mkB (fillB (unB x.2)))) ∧ w' = W1) := fun W1 => fill_any x.2 W1
    refine wpIn_region_any hmx ?_
    change wpAnyIn _ _ _ _ _ _ _ _ _ (World.drew _)
    have hvd : Boxed W.drew wm.heap.size 22 v := hv
    have hbxd : Boxed W.drew (wm.heap.size + 1) 22 (.slice a n cap) := hbx
    have hca := (hv.alloc (.cells #[.string (mkB (fillB (unB x.2)))] 9)).cell
    have hrowd : W.drew.ownsRow w.heap.size 9 1 v pre.length (fl pre) := hrow
    refine wpAnyIn_ready (rs := [0, 1]) (by kernel_rfl) (by simp) ?_
    refine (AllReadyIn.cons rfl (fun K hK => ?_) (AllReadyIn.cons rfl (fun K hK => ?_) AllReadyIn.nil))
    · go_simp
      refine hK _ _ ?_
      clear hK K
      refine wpAnyIn_ready (rs := [1]) (by kernel_rfl) (by simp) ?_
      refine (AllReadyIn.cons rfl (fun K hK => ?_) AllReadyIn.nil)
      · go_simp
        refine hK _ _ ?_
        clear hK K
        refine wpAnyIn_ready (rs := [2]) (by kernel_rfl) (by simp) ?_
        refine (AllReadyIn.cons rfl (fun K hK => ?_) AllReadyIn.nil)
        · go_simp
          refine ⟨trivial, ?_⟩
          refine (CallsIn.inRound l (callsIn_wide.2 (FA.out _))).mono ?_
          rintro e w' ⟨rfl, rfl⟩
          refine hK _ _ ?_
          clear hK K
          refine wpAnyIn_ready (rs := [3]) (by kernel_rfl) (by simp) ?_
          refine (AllReadyIn.cons rfl (fun K hK => ?_) AllReadyIn.nil)
          · go_simp
            refine hK _ _ ?_
            clear hK K
            refine wpAnyIn_ready (rs := [4]) (by kernel_rfl) (by simp) ?_
            refine (AllReadyIn.cons rfl (fun K hK => ?_) AllReadyIn.nil)
            · refine stepIn_append rfl (.tmp 14) (.tmp 17) 22 rfl w.heap.size 9 i0 (.string ⟨#[]⟩) 1 16 Tryz.underlying22 hi hz0 hz1 hz2 rfl (by decide) v pre.length (fl pre) rfl (hrowd.alloc _) ⟨W.heap.size, 0, none⟩ 1 1 [.string (mkB (fillB (unB x.2)))] rfl rfl (cell_one_new _ _ _) (by simp [Value.oneCell']) (by unfold maxLen; omega) (by omega) (by have := hB.size; simp; omega) ?_
              intro v' w1 hown' hgrow
              obtain ⟨g', cap', rfl⟩ := ownsRow_succ hown'
              obtain ⟨hv1, hv2, hr2, hk2, hb2⟩ := hvd.appended (by decide) hrowd hB.size (by omega) hown' hgrow
              have hbx1 : Boxed w1 (wm.heap.size + 1) 22 (.slice a n cap) := (hbxd.alloc _).kept hgrow (hbxd.not_row (by decide) hrowd)
              have hbx2 : Boxed (w1.setCell ⟨wm.heap.size, 0, none⟩ (.slice (some ⟨g', 0, none⟩) (pre.length + 1) cap')) (wm.heap.size + 1) 22 (.slice a n cap) := hbx1.other (by omega) _
              have hc1 := hv1.cell
              have hf1 := hv1.frozen
              refine hK _ _ ?_
              clear hK K
              refine wpAnyIn_ready (rs := [5]) (by kernel_rfl) (by simp) ?_
              refine (AllReadyIn.cons rfl (fun K hK => ?_) AllReadyIn.nil)
              · go_simp
                refine hK _ _ ?_
                clear hK K
                refine wpAnyIn_done (by kernel_rfl) ?_ _
                try gi_wp2
                refine ⟨((KeepsOthers.drew W).trans hk2).from _, ⟨((Below.refl w.heap.size W).drew).trans hb2, ?_⟩, ⟨⟨⟨_, hv2, ?_, trivial⟩, ?_⟩, hB.trans (((Below.refl w.heap.size W).drew).trans hb2)⟩⟩
                · exact hbx2.cell.trans hbx.cell.symm
                · rw [fl_snoc]; simpa using hr2
                · exact hbx2
    · go_simp
      refine hK _ _ ?_
      clear hK K
      refine wpAnyIn_ready (rs := [0, 2]) (by kernel_rfl) (by simp) ?_
      refine (AllReadyIn.cons rfl (fun K hK => ?_) (AllReadyIn.cons rfl (fun K hK => ?_) AllReadyIn.nil))
      · go_simp
        refine hK _ _ ?_
        clear hK K
        refine wpAnyIn_ready (rs := [2]) (by kernel_rfl) (by simp) ?_
        refine (AllReadyIn.cons rfl (fun K hK => ?_) AllReadyIn.nil)
        · go_simp
          refine ⟨trivial, ?_⟩
          refine (CallsIn.inRound l (callsIn_wide.2 (FA.out _))).mono ?_
          rintro e w' ⟨rfl, rfl⟩
          refine hK _ _ ?_
          clear hK K
          refine wpAnyIn_ready (rs := [3]) (by kernel_rfl) (by simp) ?_
          refine (AllReadyIn.cons rfl (fun K hK => ?_) AllReadyIn.nil)
          · go_simp
            refine hK _ _ ?_
            clear hK K
            refine wpAnyIn_ready (rs := [4]) (by kernel_rfl) (by simp) ?_
            refine (AllReadyIn.cons rfl (fun K hK => ?_) AllReadyIn.nil)
            · refine stepIn_append rfl (.tmp 14) (.tmp 17) 22 rfl w.heap.size 9 i0 (.string ⟨#[]⟩) 1 16 Tryz.underlying22 hi hz0 hz1 hz2 rfl (by decide) v pre.length (fl pre) rfl (hrowd.alloc _) ⟨W.heap.size, 0, none⟩ 1 1 [.string (mkB (fillB (unB x.2)))] rfl rfl (cell_one_new _ _ _) (by simp [Value.oneCell']) (by unfold maxLen; omega) (by omega) (by have := hB.size; simp; omega) ?_
              intro v' w1 hown' hgrow
              obtain ⟨g', cap', rfl⟩ := ownsRow_succ hown'
              obtain ⟨hv1, hv2, hr2, hk2, hb2⟩ := hvd.appended (by decide) hrowd hB.size (by omega) hown' hgrow
              have hbx1 : Boxed w1 (wm.heap.size + 1) 22 (.slice a n cap) := (hbxd.alloc _).kept hgrow (hbxd.not_row (by decide) hrowd)
              have hbx2 : Boxed (w1.setCell ⟨wm.heap.size, 0, none⟩ (.slice (some ⟨g', 0, none⟩) (pre.length + 1) cap')) (wm.heap.size + 1) 22 (.slice a n cap) := hbx1.other (by omega) _
              have hc1 := hv1.cell
              have hf1 := hv1.frozen
              refine hK _ _ ?_
              clear hK K
              refine wpAnyIn_ready (rs := [5]) (by kernel_rfl) (by simp) ?_
              refine (AllReadyIn.cons rfl (fun K hK => ?_) AllReadyIn.nil)
              · go_simp
                refine hK _ _ ?_
                clear hK K
                refine wpAnyIn_done (by kernel_rfl) ?_ _
                try gi_wp2
                refine ⟨((KeepsOthers.drew W).trans hk2).from _, ⟨((Below.refl w.heap.size W).drew).trans hb2, ?_⟩, ⟨⟨⟨_, hv2, ?_, trivial⟩, ?_⟩, hB.trans (((Below.refl w.heap.size W).drew).trans hb2)⟩⟩
                · exact hbx2.cell.trans hbx.cell.symm
                · rw [fl_snoc]; simpa using hr2
                · exact hbx2
      · go_simp
        refine ⟨trivial, ?_⟩
        refine (CallsIn.inRound l (callsIn_wide.2 (FA.out _))).mono ?_
        rintro e w' ⟨rfl, rfl⟩
        refine hK _ _ ?_
        clear hK K
        refine wpAnyIn_ready (rs := [0, 3]) (by kernel_rfl) (by simp) ?_
        refine (AllReadyIn.cons rfl (fun K hK => ?_) (AllReadyIn.cons rfl (fun K hK => ?_) AllReadyIn.nil))
        · go_simp
          refine hK _ _ ?_
          clear hK K
          refine wpAnyIn_ready (rs := [3]) (by kernel_rfl) (by simp) ?_
          refine (AllReadyIn.cons rfl (fun K hK => ?_) AllReadyIn.nil)
          · go_simp
            refine hK _ _ ?_
            clear hK K
            refine wpAnyIn_ready (rs := [4]) (by kernel_rfl) (by simp) ?_
            refine (AllReadyIn.cons rfl (fun K hK => ?_) AllReadyIn.nil)
            · refine stepIn_append rfl (.tmp 14) (.tmp 17) 22 rfl w.heap.size 9 i0 (.string ⟨#[]⟩) 1 16 Tryz.underlying22 hi hz0 hz1 hz2 rfl (by decide) v pre.length (fl pre) rfl (hrowd.alloc _) ⟨W.heap.size, 0, none⟩ 1 1 [.string (mkB (fillB (unB x.2)))] rfl rfl (cell_one_new _ _ _) (by simp [Value.oneCell']) (by unfold maxLen; omega) (by omega) (by have := hB.size; simp; omega) ?_
              intro v' w1 hown' hgrow
              obtain ⟨g', cap', rfl⟩ := ownsRow_succ hown'
              obtain ⟨hv1, hv2, hr2, hk2, hb2⟩ := hvd.appended (by decide) hrowd hB.size (by omega) hown' hgrow
              have hbx1 : Boxed w1 (wm.heap.size + 1) 22 (.slice a n cap) := (hbxd.alloc _).kept hgrow (hbxd.not_row (by decide) hrowd)
              have hbx2 : Boxed (w1.setCell ⟨wm.heap.size, 0, none⟩ (.slice (some ⟨g', 0, none⟩) (pre.length + 1) cap')) (wm.heap.size + 1) 22 (.slice a n cap) := hbx1.other (by omega) _
              have hc1 := hv1.cell
              have hf1 := hv1.frozen
              refine hK _ _ ?_
              clear hK K
              refine wpAnyIn_ready (rs := [5]) (by kernel_rfl) (by simp) ?_
              refine (AllReadyIn.cons rfl (fun K hK => ?_) AllReadyIn.nil)
              · go_simp
                refine hK _ _ ?_
                clear hK K
                refine wpAnyIn_done (by kernel_rfl) ?_ _
                try gi_wp2
                refine ⟨((KeepsOthers.drew W).trans hk2).from _, ⟨((Below.refl w.heap.size W).drew).trans hb2, ?_⟩, ⟨⟨⟨_, hv2, ?_, trivial⟩, ?_⟩, hB.trans (((Below.refl w.heap.size W).drew).trans hb2)⟩⟩
                · exact hbx2.cell.trans hbx.cell.symm
                · rw [fl_snoc]; simpa using hr2
                · exact hbx2
        · go_simp
          refine hK _ _ ?_
          clear hK K
          refine wpAnyIn_ready (rs := [0]) (by kernel_rfl) (by simp) ?_
          refine (AllReadyIn.cons rfl (fun K hK => ?_) AllReadyIn.nil)
          · go_simp
            refine hK _ _ ?_
            clear hK K
            refine wpAnyIn_ready (rs := [4]) (by kernel_rfl) (by simp) ?_
            refine (AllReadyIn.cons rfl (fun K hK => ?_) AllReadyIn.nil)
            · refine stepIn_append rfl (.tmp 14) (.tmp 17) 22 rfl w.heap.size 9 i0 (.string ⟨#[]⟩) 1 16 Tryz.underlying22 hi hz0 hz1 hz2 rfl (by decide) v pre.length (fl pre) rfl (hrowd.alloc _) ⟨W.heap.size, 0, none⟩ 1 1 [.string (mkB (fillB (unB x.2)))] rfl rfl (cell_one_new _ _ _) (by simp [Value.oneCell']) (by unfold maxLen; omega) (by omega) (by have := hB.size; simp; omega) ?_
              intro v' w1 hown' hgrow
              obtain ⟨g', cap', rfl⟩ := ownsRow_succ hown'
              obtain ⟨hv1, hv2, hr2, hk2, hb2⟩ := hvd.appended (by decide) hrowd hB.size (by omega) hown' hgrow
              have hbx1 : Boxed w1 (wm.heap.size + 1) 22 (.slice a n cap) := (hbxd.alloc _).kept hgrow (hbxd.not_row (by decide) hrowd)
              have hbx2 : Boxed (w1.setCell ⟨wm.heap.size, 0, none⟩ (.slice (some ⟨g', 0, none⟩) (pre.length + 1) cap')) (wm.heap.size + 1) 22 (.slice a n cap) := hbx1.other (by omega) _
              have hc1 := hv1.cell
              have hf1 := hv1.frozen
              refine hK _ _ ?_
              clear hK K
              refine wpAnyIn_ready (rs := [5]) (by kernel_rfl) (by simp) ?_
              refine (AllReadyIn.cons rfl (fun K hK => ?_) AllReadyIn.nil)
              · go_simp
                refine hK _ _ ?_
                clear hK K
                refine wpAnyIn_done (by kernel_rfl) ?_ _
                try gi_wp2
                refine ⟨((KeepsOthers.drew W).trans hk2).from _, ⟨((Below.refl w.heap.size W).drew).trans hb2, ?_⟩, ⟨⟨⟨_, hv2, ?_, trivial⟩, ?_⟩, hB.trans (((Below.refl w.heap.size W).drew).trans hb2)⟩⟩
                · exact hbx2.cell.trans hbx.cell.symm
                · rw [fl_snoc]; simpa using hr2
                · exact hbx2
  case done =>
    rintro D ys W hD rfl ⟨⟨⟨v, hv, hrow, -⟩, hbx⟩, hB⟩ hK
    have hc := hv.cell
    gi_wp2
    refine ⟨by simp, .inl ⟨_, _, rfl, run_takeDeferred hK, ?_⟩⟩
    refine ⟨_, results_tmp rfl _ _ _, v, rfl, ?_, hB.trans (belowK_b (w := w) (Nat.le_refl _) W D _ _ (by simp at hD; omega) hK rfl rfl)⟩
    have := ownsRow_putObj hrow (.deferred none) hK rfl
    rw [upto_length] at this
    exact this
  case stop =>
    rintro D c pre W _ _ h _
    exact h.elim
end Go.Proofs.YtglnldopnoafoaaGreatDoor

namespace Go.Proofs.YtglnldopnoafoaaGreatDoor
open Go Go.RowKit
set_option linter.unusedSimpArgs false
set_option linter.unusedVariables false

end Go.Proofs.YtglnldopnoafoaaGreatDoor

namespace Go.Proofs.YtglnldopnoafoaaGreatDoor
open Go Go.RowKit
set_option linter.unusedSimpArgs false
set_option linter.unusedVariables false

theorem fl_upto (xs : List ByteArray) : fl (upto (bkw xs) xs.length) = ((((xs.map unB).map fillB).reverse).map mkB).map Value.string := by
  have h := upto_all xs
  have e : fl (upto (bkw xs) xs.length) = ((upto (bkw xs) xs.length).map (·.2)).map (fun s => Value.string (mkB (fillB (unB s)))) := by simp [fl]
  rw [e, h]
  simp [List.map_reverse]
theorem filled_told (xs : List ByteArray) (v0 : Value) (w : World) (R : Row w v0 xs) (hl : xs.length ≤ 1000000) : Calls Tryz.prog 88 #[v0] w fun e w' => ∃ v, e = .returned v ∧ Told w' w.heap.size v (some ((xs.map unB).map fillB)) ∧ Below w.heap.size w w' := by
  refine (filled_any xs v0 w R hl).mono ?_
  rintro e w' ⟨v, rfl, ho, hb⟩
  refine ⟨v, rfl, ?_, hb⟩
  intro t ht
  simp only [Option.some.injEq] at ht
  subst ht
  rw [fl_upto] at ho
  simpa using ho
abbrev BeyOk (fs gs : List ByteArray) : Prop := ∀ (vf vg : Value) (w : World), Row w vf fs → Row w vg gs → Calls Tryz.prog 89 #[vf, vg] w fun e w' => ∃ v, e = .returned (.tuple #[v, .bool (bey (fs.map unB) (gs.map unB)).isSome]) ∧ Told w' w.heap.size v (bey (fs.map unB) (gs.map unB)) ∧ Below w.heap.size w w'
set_option maxRecDepth 100000 in
set_option maxHeartbeats 1000000 in
theorem bey_nils : BeyOk [] [] := by
  intro vf vg w Rf Rg
  have e0 : bey (([] : List ByteArray).map unB) (([] : List ByteArray).map unB) = none := rfl
  rw [e0]
  obtain ⟨a, cap, rfl⟩ := Rf.nil
  obtain ⟨a2, cap2, rfl⟩ := Rg.nil
  have B0 : Hid (Below w.heap.size w w) := Below.refl _ _
  clear Rf Rg e0
  go_enter Tryz.func89, Tryz.ntmps89
  go_wp2_with fail
  go_ret2
  exact ⟨_, rfl, told_none _ _ _, B0.out⟩
set_option maxRecDepth 100000 in
set_option maxHeartbeats 1000000 in
theorem bey_rest (x : ByteArray) (r : List ByteArray) (hl : (x :: r).length ≤ 1000000) : BeyOk (x :: r) [] := by
  intro vf vg w Rf Rg
  have e0 : bey ((x :: r).map unB) (([] : List ByteArray).map unB) = some (((x :: r).map unB).map fillB) := rfl
  rw [e0]
  obtain ⟨a2, cap2, rfl⟩ := Rg.nil
  have HF : Hid (Calls Tryz.prog 88 #[vf] w fun e w' => ∃ v, e = .returned v ∧ Told w' w.heap.size v (some (((x :: r).map unB).map fillB)) ∧ Below w.heap.size w w') := filled_told (x :: r) vf w Rf hl
  obtain ⟨g, o, k, cap, rfl, hn, hc, hg, c0, hk⟩ := Rf.cons
  have q0 : ((k : Int) == 0) = false := by rw [beq_eq_false_iff_ne]; omega
  obtain ⟨T, hT⟩ : ∃ T, ((x :: r).map unB).map fillB = T := ⟨_, rfl⟩
  rw [hT] at HF ⊢
  clear Rf Rg e0 hk hg hc hn hT hl
  go_enter Tryz.func89, Tryz.ntmps89
  go_wp2_with fail
  go_must (go_at_call 88)
  refine HF.out.mono ?_
  rintro e w1 ⟨v, rfl, ht, hb⟩
  have HT : Hid (Told w1 w.heap.size v (some T)) := ht
  have HB : Hid (Below w.heap.size w w1) := hb
  clear ht hb
  go_wp2_with fail
  go_ret2
  exact ⟨_, rfl, HT.out, HB.out⟩
set_option maxRecDepth 100000 in
set_option maxHeartbeats 1000000 in
theorem bey_nil_hash (y : ByteArray) (s : List ByteArray) (hy : unB y = [35]) : BeyOk [] (y :: s) := by
  intro vf vg w Rf Rg
  have e0 : bey (([] : List ByteArray).map unB) ((y :: s).map unB) = none := by simp [bey, hy]
  rw [e0]
  obtain ⟨g2, o2, k2, cap2, rfl, hn2, hc2, hg2, c2, hk2⟩ := Rg.cons
  have q2 : ((k2 : Int) == 0) = false := by rw [beq_eq_false_iff_ne]; omega
  have p2 : (0 : Int) < k2 := by omega
  have q3 : (y.toList == [35]) = true := by rw [eq_one']; simp [hy]
  obtain ⟨a, cap, rfl⟩ := Rf.nil
  have B0 : Hid (Below w.heap.size w w) := Below.refl _ _
  clear Rf Rg e0 hk2 hn2 hc2 hg2 hy
  go_enter Tryz.func89, Tryz.ntmps89
  go_wp2_with fail
  go_ret2
  exact ⟨_, rfl, told_none _ _ _, B0.out⟩
set_option maxRecDepth 100000 in
set_option maxHeartbeats 1000000 in
theorem bey_cons_hash (x : ByteArray) (r : List ByteArray) (y : ByteArray) (s : List ByteArray) (hy : unB y = [35]) : BeyOk (x :: r) (y :: s) := by
  intro vf vg w Rf Rg
  have e0 : bey (((x :: r) : List ByteArray).map unB) ((y :: s).map unB) = none := by simp [bey, hy]
  rw [e0]
  obtain ⟨g2, o2, k2, cap2, rfl, hn2, hc2, hg2, c2, hk2⟩ := Rg.cons
  have q2 : ((k2 : Int) == 0) = false := by rw [beq_eq_false_iff_ne]; omega
  have p2 : (0 : Int) < k2 := by omega
  have q3 : (y.toList == [35]) = true := by rw [eq_one']; simp [hy]
  obtain ⟨g, o, k, cap, rfl, hn, hc, hg, c0, hk⟩ := Rf.cons
  have q0 : ((k : Int) == 0) = false := by rw [beq_eq_false_iff_ne]; omega
  clear hn hc hg c0 hk
  have B0 : Hid (Below w.heap.size w w) := Below.refl _ _
  clear Rf Rg e0 hk2 hn2 hc2 hg2 hy
  go_enter Tryz.func89, Tryz.ntmps89
  go_wp2_with fail
  go_ret2
  exact ⟨_, rfl, told_none _ _ _, B0.out⟩
set_option maxRecDepth 100000 in
set_option maxHeartbeats 1000000 in
theorem bey_nil_end (y : ByteArray) (s : List ByteArray) (hy : ¬ unB y = [35]) : BeyOk [] (y :: s) := by
  intro vf vg w Rf Rg
  have e0 : bey (([] : List ByteArray).map unB) ((y :: s).map unB) = some [] := by simp [bey, hy]
  rw [e0]
  have HM : Hid (Calls Tryz.prog 143 #[vf] w fun e w' => e = .returned (.bool true) ∧ w' = w) := by have := mayEnd_any [] vf w Rf; exact this
  obtain ⟨g2, o2, k2, cap2, rfl, hn2, hc2, hg2, c2, hk2⟩ := Rg.cons
  have q2 : ((k2 : Int) == 0) = false := by rw [beq_eq_false_iff_ne]; omega
  have p2 : (0 : Int) < k2 := by omega
  have q3 : (y.toList == [35]) = false := by rw [eq_one']; simp [hy]
  obtain ⟨a, cap, rfl⟩ := Rf.nil
  have B0 : Hid (Below w.heap.size w w) := Below.refl _ _
  clear Rf Rg e0 hk2 hn2 hc2 hg2 hy
  go_enter Tryz.func89, Tryz.ntmps89
  go_wp2_with fail
  go_must (go_at_call 143)
  refine HM.out.mono ?_
  rintro e w1 ⟨rfl, hee⟩
  obtain rfl := hee.symm
  clear hee
  go_wp2_with fail
  go_ret2
  exact ⟨_, rfl, told_nil _ _, B0.out⟩
set_option maxRecDepth 100000 in
set_option maxHeartbeats 1000000 in
theorem bey_cons_end (x : ByteArray) (r : List ByteArray) (y : ByteArray) (s : List ByteArray) (hy : ¬ unB y = [35]) (hx : unB x = [35]) : BeyOk (x :: r) (y :: s) := by
  intro vf vg w Rf Rg
  have e0 : bey (((x :: r) : List ByteArray).map unB) ((y :: s).map unB) = some [] := by simp [bey, hy, hx]
  rw [e0]
  have HM : Hid (Calls Tryz.prog 143 #[vf] w fun e w' => e = .returned (.bool true) ∧ w' = w) := by have := mayEnd_any (x :: r) vf w Rf; rw [show mayE ((x :: r).map unB) = true by simp [mayE, hx]] at this; exact this
  obtain ⟨g2, o2, k2, cap2, rfl, hn2, hc2, hg2, c2, hk2⟩ := Rg.cons
  have q2 : ((k2 : Int) == 0) = false := by rw [beq_eq_false_iff_ne]; omega
  have p2 : (0 : Int) < k2 := by omega
  have q3 : (y.toList == [35]) = false := by rw [eq_one']; simp [hy]
  obtain ⟨g, o, k, cap, rfl, hn, hc, hg, c0, hk⟩ := Rf.cons
  have q0 : ((k : Int) == 0) = false := by rw [beq_eq_false_iff_ne]; omega
  clear hn hc hg c0 hk
  have B0 : Hid (Below w.heap.size w w) := Below.refl _ _
  clear Rf Rg e0 hk2 hn2 hc2 hg2 hy
  go_enter Tryz.func89, Tryz.ntmps89
  go_wp2_with fail
  go_must (go_at_call 143)
  refine HM.out.mono ?_
  rintro e w1 ⟨rfl, hee⟩
  obtain rfl := hee.symm
  clear hee
  go_wp2_with fail
  go_ret2
  exact ⟨_, rfl, told_nil _ _, B0.out⟩
theorem Row.cap {w : World} {a : Option Addr} {n c d : Nat} {xs : List ByteArray} (h : Row w (.slice a n c) xs) (hd : n ≤ d) : Row w (.slice a n d) xs := by
  obtain ⟨a', n', cap', e, hn, hc, hx⟩ := h
  simp only [Value.slice.injEq] at e
  obtain ⟨rfl, rfl, rfl⟩ := e
  exact ⟨a, n, d, rfl, hn, hd, hx⟩
theorem sh_len : ∀ (t u : List Bs), Sh t u → t.length ≤ u.length
  | [], _, _ => by simp
  | _ :: _, [], h => h.elim
  | x :: t, y :: u, h => by have := sh_len t u h.2; simp; exact this
end Go.Proofs.YtglnldopnoafoaaGreatDoor

