import Derived.RangeFuncBox
import Derived.RangeFuncNested
import Derived.RangeFuncLeaves
import Derived.RangeFuncCalls
import Derived.Shelf.Abstract
import Derived.WalkKit
import Derived.OwnWalkIn
import Derived.TacticsInMore
import Derived.LoopNIn
import Derived.LoopIn
import Derived.RegionIn
import Derived.Maps.AppendAt
import Derived.Scope
import Derived.Test.YtenaliaefbkbcaaGreatMj
namespace Go.Proofs.YtenaliaefbkbcaaGreat.Li
open Go Go.RowKit Go.Shelf
set_option linter.unusedSimpArgs false
set_option linter.unusedVariables false
attribute [local go_sem] Oper.semAt_some
/-- What a round keeps. -/
structure Kq (n₀ bs bt : Nat) (W W' : World) : Prop where
  bel : Below n₀ W W'
  s : W'.heap[bs]? = W.heap[bs]?
  t : W'.heap[bt]? = W.heap[bt]?
theorem Kq.refl (n₀ bs bt : Nat) (W : World) : Kq n₀ bs bt W W := ⟨Below.refl _ _, rfl, rfl⟩
theorem Kq.trans {n₀ bs bt : Nat} {A B C : World} (h : Kq n₀ bs bt A B) (k : Kq n₀ bs bt B C) : Kq n₀ bs bt A C := ⟨h.bel.trans k.bel, k.s.trans h.s, k.t.trans h.t⟩
theorem Kq.below {n₀ bs bt : Nat} {A B : World} (h : Below A.heap.size A B) (h0 : n₀ ≤ A.heap.size) (h1 : bs < A.heap.size) (h2 : bt < A.heap.size) : Kq n₀ bs bt A B := ⟨h.mono h0, h.block bs h1, h.block bt h2⟩
theorem wpIn_scope {n : Nat} {P : Program} {c : Code} {Q : Exit → Act → World → Prop} {a : Act} {w : World} (h : c.wpIn Fence.wide n P (Exit.noGoto Q) a w) : (Code.scope c).wpIn Fence.wide n P Q a w := wpIn_wide.2 (wp_scope_straight (wpIn_wide.1 h))
theorem abides_below {B : Nat} {J : List Fl → World → Prop} (h : AbidesFrom B J) {s : List Fl} {W W' : World} (hj : J s W) (hb : Below W.heap.size W W') : J s W' := h s W W' none hj ⟨hb.os, hb.tape, hb.output, hb.size, fun k hk _ => hb.block k hk⟩ (fun r e => by cases e)
def ms (L : List Fl) (t : ByteArray) : List Fl := L.filter (fun x => mch x.f t)
set_option maxRecDepth 100000 in
set_option maxHeartbeats 2000000 in
theorem match_in (n : Nat) (hn : 1 ≤ n) (l bs bt n₀ sb F c : Nat) (L : List Fl) (t : ByteArray) (hl : L.length ≤ 900000) (hc : L.length ≤ c) (J Jx : List Fl → World → Prop)
    (hY : ∀ pre x W, x ∈ L → J pre W → pre.length < L.length → YieldAt Fence.wide (n - 1) Tryz.prog l #[.agg #[.string x.f, x.v]] W fun e W' =>
      (e = .returned (.bool true) ∧ J (pre ++ [x]) W' ∧ Kq n₀ bs bt W W') ∨ (e = .returned (.bool false) ∧ Jx (pre ++ [x]) W'))
    (W : World) (hA : AbidesFrom W.heap.size J) (hs : W.heap[bs]? = some (.cells #[.pointer (some ⟨sb, 0, none⟩)] 25)) (ht : W.heap[bt]? = some (.cells #[.string t] 9))
    (a : Option Addr) (hf : W.cell? ⟨sb, 0, none⟩ = some (.slice a L.length c)) (ha : 0 < L.length → a = some ⟨F, 0, none⟩ ∧ F < n₀) (h0n : n₀ ≤ W.heap.size) (hcell : ∀ i (hi : i < L.length), W.cell? ⟨F, i * 2, none⟩ = some (.string L[i].f) ∧ W.cell? ⟨F, i * 2 + 1, none⟩ = some L[i].v) (hsl : ∀ x ∈ L, ∃ a n c, x.v = .slice a n c) (h0 : J [] W) :
    CallsIn Fence.wide n Tryz.prog 79 #[.func (.yield l) #[] #[], .pointer (some ⟨bs, 0, none⟩), .pointer (some ⟨bt, 0, none⟩)] W fun e W' => (∃ v, e = .returned v) ∧
      ((∃ ys, ys = ms L t ∧ J ys W') ∨ (∃ pre, True ∧ Jx pre W')) := by
  have s0 := box_cells hs 0 _ rfl
  have t0 := box_cells ht 0 _ rfl
  refine callsIn_of_wp Tryz.func79 rfl trivial ?_ rfl
  simp only [Tryz.ntmps79, List.size_toArray, List.length_cons, List.length_nil, Nat.reduceAdd, Nat.reduceSub, Array.replicate_succ, Array.replicate_zero, List.push_toArray, List.append_toArray, List.nil_append, List.cons_append]
  obtain ⟨len, hlen⟩ : ∃ len, len = L.length := ⟨_, rfl⟩
  rw [← hlen] at hf
  have HL : Hid (len = L.length) := hlen
  have HAF := hidi ha
  have HM := hidi (fun (n : Nat) (f : ByteArray) (w : World) => (callsIn_wide (n := n)).2 (tmatch_any f t w))
  have HC := hidi (And.intro hcell (And.intro hl (And.intro hc hsl)))
  have HS := hidi (And.intro hs ht)
  clear hcell hl hc hlen hsl ha
  gi_wp2
  refine wpIn_scope ?_
  gi_wp2
  refine wpIn_label ?_
  gi_wp2
  gi_loopw [11] (fun i wr => ∃ k m : Nat, k + m = len ∧ i = .int .i64 (k : Int) ∧ Hid (J (ms (L.take k) t) wr ∧ Kq n₀ bs bt W wr))
    (fun i _ => ((len : Int) - intOf i).toNat)
  case atStart => exact ⟨0, len, by omega, rfl, h0, Kq.refl _ _ _ _⟩
  case round =>
    obtain ⟨k, m, hk, rfl, HJ⟩ := hrel
    cases m with
    | zero =>
      obtain rfl : k = len := by omega
      have hq : ¬ (k : Int) < (k : Int) := by omega
      have e1 : L.take k = L := by rw [HL.out]; exact List.take_length
      have HJ2 := HJ.out.1
      rw [e1] at HJ2
      gi_wp2
      refine bodyPost_end (results_none rfl _ _ _) rfl ?_
      exact ⟨⟨_, rfl⟩, .inl ⟨_, rfl, HJ2⟩⟩
    | succ q =>
      have hq1 : (k : Int) < len := by omega
      have hk0 : (0 : Int) ≤ (k : Int) := by omega
      have hkl : k < L.length := by rw [← HL.out]; omega
      obtain ⟨haF, hF⟩ := HAF.out (by omega)
      subst haF
      have hw1 : IntKind.i64.wrap ((k : Int) + 1) = (k : Int) + 1 := by rw [IntKind.wrap_i64]; have := HC.out.2.1; have := HL.out; omega
      obtain ⟨x, hx⟩ : ∃ x, x = L[k] := ⟨_, rfl⟩
      have hc0 := (HC.out.1 k hkl).1
      have hc1 := (HC.out.1 k hkl).2
      rw [← hx] at hc0 hc1
      have d0 := (HJ.out.2.bel.cell (p := ⟨F, k * 2, none⟩) hF).trans hc0
      have d1 := (HJ.out.2.bel.cell (p := ⟨F, k * 2 + 1, none⟩) hF).trans hc1
      have d2 : wr.cell? ⟨bt, 0, none⟩ = some (.string t) := box_cells (HJ.out.2.t.trans HS.out.2) 0 _ rfl
      clear hc0 hc1
      obtain ⟨xa, xn, xc, hxv⟩ := HC.out.2.2.2 x (by rw [hx]; exact List.getElem_mem hkl)
      have HX := hidi hx
      clear hx
      obtain ⟨f, es, v⟩ := x
      simp only at hxv d0 d1
      subst hxv
      have hbt : bt < wr.heap.size := (Array.getElem?_eq_some_iff.1 (HJ.out.2.t.trans HS.out.2)).1
      have d3 : (wr.alloc (.cells #[.string f, .slice xa xn xc] 76)).cell? ⟨bt, 0, none⟩ = some (.string t) := ((Below.refl wr.heap.size wr).alloc (Nat.le_refl _) (.cells #[.string f, .slice xa xn xc] 76)).cell (p := ⟨bt, 0, none⟩) hbt ▸ d2
      have b1 : Below wr.heap.size wr (wr.alloc (.cells #[.string f, .slice xa xn xc] 76)) := (Below.refl wr.heap.size wr).alloc (Nat.le_refl _) _
      have HN := hidi (fun (w2 : World) (hb : Below (wr.alloc (.cells #[.string f, .slice xa xn xc] 76)).heap.size (wr.alloc (.cells #[.string f, .slice xa xn xc] 76)) w2) => (show w2.cell? ⟨wr.heap.size, 0, none⟩ = some (.string f) ∧ w2.cell? ⟨wr.heap.size, 1, none⟩ = some (.slice xa xn xc) ∧ Below wr.heap.size wr w2 from ⟨box_cells (later_at (heap_alloc_new wr (.cells #[.string f, .slice xa xn xc] 76)) hb) 0 _ rfl, box_cells (later_at (heap_alloc_new wr (.cells #[.string f, .slice xa xn xc] 76)) hb) 1 _ rfl, b1.trans (hb.mono b1.size)⟩))
      have hsb : bs < wr.heap.size := (Array.getElem?_eq_some_iff.1 (HJ.out.2.s.trans HS.out.1)).1
      have H0 := hidi (Nat.le_trans h0n HJ.out.2.bel.size)
      have HA := hidi hA
      have HT : Hid (L.take (k + 1) = L.take k ++ [⟨f, es, .slice xa xn xc⟩]) := by show _ = _; rw [List.take_add_one, List.getElem?_eq_getElem hkl, ← HX.out]; rfl
      have HM1 := hidi (fun n w => HM.out n f w)
      have HMem : Hid ((⟨f, es, .slice xa xn xc⟩ : Fl) ∈ L) := by show _ ∈ _; rw [HX.out]; exact List.getElem_mem hkl
      cases hm : mch f t with
      | false =>
        rw [hm] at HM1
        have HE : Hid (ms (L.take (k + 1)) t = ms (L.take k) t) := by show _ = _; rw [HT.out]; simp [ms, hm]
        clear b1 hm
        gi_wp2_with (refine ⟨trivial, ?_⟩; gi_at_call 10; refine (HM1.out _ _).mono ?_; rintro e w2 ⟨rfl, hb⟩; have HB := hidi (HN.out w2 hb); clear hb)
        go_roundw
        case rel => exact ⟨k + 1, q, by omega, by simp, by rw [HE.out]; exact abides_below HA.out HJ.out.1 HB.out.2.2, HJ.out.2.trans (Kq.below HB.out.2.2 H0.out hsb hbt)⟩
        case measure => simp [intOf]; omega
      | true =>
        rw [hm] at HM1
        have HE : Hid (ms (L.take (k + 1)) t = ms (L.take k) t ++ [⟨f, es, .slice xa xn xc⟩]) := by show _ = _; rw [HT.out]; simp [ms, hm]
        have hpl : (ms (L.take k) t).length < L.length := by
          have := List.length_filter_le (fun x => mch x.f t) (L.take k)
          rw [List.length_take] at this
          show (List.filter _ _).length < _
          omega
        clear b1 hm
        gi_wp2_with (refine ⟨trivial, ?_⟩; gi_at_call 10; refine (HM1.out _ _).mono ?_; rintro e w2 ⟨rfl, hb⟩; obtain ⟨e0, e1, hb2⟩ := HN.out w2 hb; have HB := hidi hb2; clear hb hb2; obtain ⟨fn, tmps, assign, body, hy, hR⟩ := hY _ ⟨f, es, .slice xa xn xc⟩ w2 HMem.out (abides_below HA.out HJ.out.1 HB.out) hpl)
        refine hR.mono ?_
        rintro e W3 (⟨rfl, hJ3, hk3⟩ | ⟨rfl, hJx3⟩)
        · have H3 := hidi (And.intro hJ3 hk3)
          clear hJ3 hk3
          gi_wp2
          go_roundw
          case rel => exact ⟨k + 1, q, by omega, by simp, by rw [HE.out]; exact H3.out.1, (HJ.out.2.trans (Kq.below HB.out H0.out hsb hbt)).trans H3.out.2⟩
          case measure => simp [intOf]; omega
        · have H3 := hidi hJx3
          clear hJx3
          gi_wp2
          (try simp only [Exit.inBlock, Exit.then, Exit.noGoto])
          refine bodyPost_ret (results_none rfl _ _ _) rfl ?_
          exact ⟨⟨_, rfl⟩, .inr ⟨_, trivial, H3.out⟩⟩
theorem match_any (sb : Nat) (t : ByteArray) (w : World) :
    Calls Tryz.prog 55 #[.pointer (some ⟨sb, 0, none⟩), .string t] w fun e w' => e = .returned (.func (.func 79) #[] #[.pointer (some ⟨w.heap.size, 0, none⟩), .pointer (some ⟨w.heap.size + 1, 0, none⟩)]) ∧ w' = (w.alloc (.cells #[.pointer (some ⟨sb, 0, none⟩)] 25)).alloc (.cells #[.string t] 9) := by
  go_enter Tryz.func55, Tryz.ntmps55
  go_wp2
  go_ret
  exact ⟨rfl, rfl⟩
end Go.Proofs.YtenaliaefbkbcaaGreat.Li
namespace Go.Proofs.YtenaliaefbkbcaaGreat.Li
open Go Go.RowKit Go.Shelf
set_option linter.unusedSimpArgs false
set_option linter.unusedVariables false
/-! ### CompactFunc, purely -/
def cm1 : ByteArray → List En → List En
  | _, [] => []
  | p, y :: r => if y.1 = p then cm1 y.1 r else y :: cm1 y.1 r
def cmpct : List En → List En
  | [] => []
  | x :: r => x :: cm1 x.1 r
def lastK : ByteArray → List En → ByteArray
  | p, [] => p
  | _, y :: r => lastK y.1 r
def tl (y : En) (p : ByteArray) : List En := if y.1 = p then [] else [y]
theorem tl_eq {y : En} {p : ByteArray} (h : y.1 = p) : tl y p = [] := by unfold tl; exact if_pos h
theorem tl_ne {y : En} {p : ByteArray} (h : ¬ y.1 = p) : tl y p = [y] := by unfold tl; exact if_neg h
theorem cm1_eq {y : En} {p : ByteArray} {r : List En} (h : y.1 = p) : cm1 p (y :: r) = cm1 y.1 r := by rw [cm1]; exact if_pos h
theorem cm1_ne {y : En} {p : ByteArray} {r : List En} (h : ¬ y.1 = p) : cm1 p (y :: r) = y :: cm1 y.1 r := by rw [cm1]; exact if_neg h
theorem cm1_snoc (y : En) : ∀ (r : List En) (p : ByteArray), cm1 p (r ++ [y]) = cm1 p r ++ tl y (lastK p r)
  | [], p => by
    by_cases h : y.1 = p
    · rw [List.nil_append, cm1_eq h]
      show _ = cm1 p [] ++ tl y p
      rw [tl_eq h]
      rfl
    · rw [List.nil_append, cm1_ne h]
      show _ = cm1 p [] ++ tl y p
      rw [tl_ne h]
      rfl
  | z :: r, p => by
    show cm1 p (z :: (r ++ [y])) = cm1 p (z :: r) ++ tl y (lastK z.1 r)
    by_cases h : z.1 = p
    · rw [cm1_eq h, cm1_eq h, cm1_snoc y r z.1]
    · rw [cm1_ne h, cm1_ne h, cm1_snoc y r z.1, List.cons_append]
theorem lastK_get : ∀ (r : List En) (x : En) (i : Nat) (z : En), (x :: r).length = i + 1 → (x :: r)[i]? = some z → lastK x.1 r = z.1
  | [], x, i, z, h, hz => by
    simp at h
    subst h
    simp at hz
    simp [lastK, hz]
  | y :: r, x, i, z, h, hz => by
    cases i with
    | zero => simp at h
    | succ i =>
      simp only [lastK]
      exact lastK_get r y i z (by simpa using h) (by simpa using hz)
theorem cmpct_step {xs : List En} {m : Nat} (hm : 1 ≤ m) {y z : En} (hy : xs[m]? = some y) (hz : xs[m - 1]? = some z) : cmpct (xs.take (m + 1)) = cmpct (xs.take m) ++ tl y z.1 := by
  have hl : m < xs.length := (List.getElem?_eq_some_iff.1 hy).1
  have e : xs.take (m + 1) = xs.take m ++ [y] := by rw [List.take_add_one, hy]; rfl
  rw [e]
  cases hx : xs.take m with
  | nil =>
    have := congrArg List.length hx
    rw [List.length_take, List.length_nil] at this
    omega
  | cons x r =>
    have hlen : (x :: r).length = m := by rw [← hx, List.length_take]; omega
    have hzz : (x :: r)[m - 1]? = some z := by rw [← hx, List.getElem?_take, if_pos (by omega)]; exact hz
    show x :: cm1 x.1 (r ++ [y]) = (x :: cm1 x.1 r) ++ _
    rw [cm1_snoc, lastK_get r x (m - 1) z (by omega) hzz, List.cons_append]
theorem cmpct_le : ∀ (xs : List En), (cmpct xs).length ≤ xs.length
  | [] => by simp [cmpct]
  | x :: r => by
    have : ∀ (r : List En) (p : ByteArray), (cm1 p r).length ≤ r.length := by
      intro r
      induction r with
      | nil => intro p; exact Nat.le_refl _
      | cons y r ih =>
        intro p
        by_cases h : y.1 = p
        · rw [cm1_eq h]; have := ih y.1; simp; omega
        · rw [cm1_ne h]; have := ih y.1; simp; omega
    have := this r x.1
    simp [cmpct]
    exact this
/-! ### Rows that are written over -/
theorem own_set1 {w : World} {B e g c i : Nat} {L : List PV} {x : PV} (h : w.ownsRow B e 2 (.slice (some ⟨g, 0, none⟩) L.length c) L.length (prow L)) (hx : L[i]? = some x) (k : ByteArray) :
    (w.setCell ⟨g, i * 2, none⟩ (.string k)).ownsRow B e 2 (.slice (some ⟨g, 0, none⟩) L.length c) L.length (prow (L.set i (k, x.2))) := by
  have key : ∀ (L : List PV) (i : Nat), L[i]? = some x → prow (L.set i (k, x.2)) = (prow L).set (2 * i) (.string k) := by
    intro L
    induction L with
    | nil => intro i h; simp at h
    | cons y r ih =>
      intro i h
      cases i with
      | zero =>
        simp at h
        subst h
        rfl
      | succ i =>
        have := ih i (by simpa using h)
        show pcs y ++ prow (r.set i (k, x.2)) = (pcs y ++ prow r).set (2 * (i + 1)) (.string k)
        rw [this, show 2 * (i + 1) = (2 * i) + 2 by omega]
        rfl
  refine ⟨by rw [prow_len, List.length_set], ?_⟩
  rcases h.2 with ⟨h1, h2⟩ | ⟨g', cap, cur, h1, h2, h3, h4, h5, h6, h7⟩
  · cases h1
  · simp only [Value.slice.injEq, Option.some.injEq, Addr.mk.injEq] at h1
    obtain ⟨⟨rfl, -, -⟩, -, rfl⟩ := h1
    refine .inr ⟨g, c, cur.setIfInBounds (i * 2) (.string k), rfl, h2, heap_set h3 _, h4, h5, ?_, ?_⟩
    · simpa using h6
    · rw [key L i hx, ← h7, Array.toList_setIfInBounds, List.take_set, Nat.mul_comm i 2]
theorem own_put {w : World} {B e g c i : Nat} {L : List PV} (h : w.ownsRow B e 2 (.slice (some ⟨g, 0, none⟩) L.length c) L.length (prow L)) (hi : i < L.length) (x : PV) :
    ((w.setCell ⟨g, i * 2, none⟩ (.string x.1)).setCell ⟨g, i * 2 + 1, none⟩ x.2).ownsRow B e 2 (.slice (some ⟨g, 0, none⟩) L.length c) L.length (prow (L.set i x)) := by
  have h1 := own_set1 h (List.getElem?_eq_getElem hi) x.1
  have e1 : L.length = (L.set i (x.1, L[i].2)).length := by simp
  rw [e1] at h1
  have h2 := own_set h1 (x := (x.1, L[i].2)) (i := i) (by simp [hi]) x.2
  rw [← e1] at h2
  simpa using h2
/-- A first part of a row is a row. -/
theorem own_take {w : World} {B e g n c k : Nat} {L : List PV} (h : w.ownsRow B e 2 (.slice (some ⟨g, 0, none⟩) n c) n (prow L)) (hk : k ≤ n) : w.ownsRow B e 2 (.slice (some ⟨g, 0, none⟩) k c) k (prow (L.take k)) := by
  have hl : L.length = n := by have := h.1; rw [prow_len] at this; omega
  have key : ∀ (L : List PV) (k : Nat), prow (L.take k) = (prow L).take (k * 2) := by
    intro L
    induction L with
    | nil => intro k; simp [prow]
    | cons y r ih =>
      intro k
      cases k with
      | zero => simp [prow]
      | succ k =>
        show pcs y ++ prow (r.take k) = (pcs y ++ prow r).take ((k + 1) * 2)
        rw [ih k, show (k + 1) * 2 = k * 2 + 2 by omega]
        rfl
  refine ⟨by rw [prow_len, List.length_take]; omega, ?_⟩
  rcases h.2 with ⟨h1, h2⟩ | ⟨g', cap, cur, h1, h2, h3, h4, h5, h6, h7⟩
  · cases h1
  · simp only [Value.slice.injEq, Option.some.injEq, Addr.mk.injEq] at h1
    obtain ⟨⟨rfl, -, -⟩, -, rfl⟩ := h1
    refine .inr ⟨g, c, cur, rfl, h2, h3, by omega, h5, h6, ?_⟩
    rw [key L k, ← h7, List.take_take, Nat.min_eq_left (by omega)]
set_option maxRecDepth 100000 in
set_option maxHeartbeats 2000000 in
theorem sameKey_any (a b : ByteArray) (p q : Int) (w : World) : Calls Tryz.prog 59 #[.agg #[.string a, .int .i64 p], .agg #[.string b, .int .i64 q]] w fun e w' => e = .returned (.bool (decide (a = b))) ∧ Below w.heap.size w w' := by
  have e := teq a b
  generalize decide (a = b) = r at e ⊢
  go_enter Tryz.func59, Tryz.ntmps59
  go_wp2
  go_ret
  refine ⟨rfl, ?_⟩
  exact ((Below.refl w.heap.size w).alloc (Nat.le_refl _) _).alloc (by simp) _
end Go.Proofs.YtenaliaefbkbcaaGreat.Li
