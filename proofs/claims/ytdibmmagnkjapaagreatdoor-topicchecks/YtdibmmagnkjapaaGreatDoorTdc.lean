import Derived.Test.YtdibmmagnkjapaaGreatDoorBya
import Derived.Test.YtdibmmagnkjapaaGreatDoorCmj
import Derived.Deep.LoopGhost
import Derived.Laws.Tables
import Derived.Lib.AppendIntMem
namespace Go.Proofs.YtdibmmagnkjapaaGreatDoor
open Go Go.RowKit
set_option linter.unusedSimpArgs false
set_option linter.unusedVariables false

theorem hidi {p : Prop} (h : p) : Hid p := h
theorem pow_at : Tryz.prog.globalNamed "internal/strconv.uint64pow10" = some 1 := by kernel_rfl
/-- The table of powers. -/
abbrev Tab (w : World) : Prop := Lib.TabIs Tryz.prog w "internal/strconv.uint64pow10" .u64 Lib.pow10Tab
theorem Tab.keep {w w' : World} (h : Tab w) (hk : w'.heap[1]? = w.heap[1]?) : Tab w' := by
  have h' : w.var? Tryz.prog "internal/strconv.uint64pow10" = _ := h
  show w'.var? Tryz.prog "internal/strconv.uint64pow10" = _
  rw [← h']
  unfold World.var?
  rw [pow_at]
  simp only [Option.bind_some, hk]
theorem Tab.lt {w : World} (h : Tab w) : 1 < w.heap.size := by
  have h' : w.var? Tryz.prog "internal/strconv.uint64pow10" = _ := h
  unfold World.var? at h'
  rw [pow_at] at h'
  simp only [Option.bind_some] at h'
  rcases Nat.lt_or_ge 1 w.heap.size with q | q
  · exact q
  · rw [Array.getElem?_eq_none q] at h'
    cases h'
theorem ito_of {w : World} (h : Tab w) : Ito w := fun n h0 h1 => by
  refine (Tryz.strconv_Itoa n h0 h1 w h).mono ?_
  rintro e w' ⟨rfl, k, os, rfl⟩
  exact ⟨⟨_, rfl⟩, Lib.below_grow _ _ (Nat.le_refl _) k os⟩
theorem its_of {S : Nat → Prop} {w : World} (h : Tab w) (hs : ¬ S 1) : ItS S w := fun wx c => ito_of (h.keep (c.block 1 h.lt hs))
/-- The law's sameTexts. -/
theorem Row.len {w : World} {v : Value} {xs : List ByteArray} (h : Row w v xs) : ∃ a c, v = .slice a xs.length c ∧ xs.length ≤ c := by
  obtain ⟨a, n, cap, rfl, rfl, hc, _⟩ := h
  exact ⟨a, cap, rfl, hc⟩
theorem Row.cell {w : World} {a : Option Addr} {n c : Nat} {xs : List ByteArray} (h : Row w (.slice a n c) xs) {i : Nat} (hi : i < xs.length) : ∃ g o, a = some ⟨g, o, none⟩ ∧ w.cell? ⟨g, o + i, none⟩ = some (.string xs[i]) := by
  obtain ⟨a1, n1, c1, e, hn, hc, hx⟩ := h
  injection e with e1 e2 e3
  subst e1 e2 e3
  obtain ⟨g, o, rfl, _, h1⟩ := hx (fun q => by rw [q] at hi; simp at hi)
  exact ⟨g, o, rfl, h1 i _ (List.getElem?_eq_getElem hi)⟩
set_option maxRecDepth 100000 in
set_option maxHeartbeats 1000000 in
theorem lsame_any (xs : List ByteArray) (v v' : Value) (w : World) (R : Row w v xs) (R' : Row w v' xs) (hl : xs.length ≤ 1000001) : Calls Tryz.prog 11 #[v, v'] w fun e w' => e = .returned (.bool true) ∧ Below w.heap.size w w' := by
  obtain ⟨a, c, rfl, hc⟩ := R.len
  obtain ⟨a', c', rfl, hc'⟩ := R'.len
  have CA : Hid (∀ W, Below w.heap.size w W → ∀ i, i < xs.length → ∃ g o g' o' x, a = some ⟨g, o, none⟩ ∧ a' = some ⟨g', o', none⟩ ∧ W.cell? ⟨g, o + i, none⟩ = some (.string x) ∧ W.cell? ⟨g', o' + i, none⟩ = some (.string x)) := fun W hW i hi => by
    obtain ⟨g, o, e, h1⟩ := (R.later hW).cell hi
    obtain ⟨g', o', e', h1'⟩ := (R'.later hW).cell hi
    exact ⟨g, o, g', o', _, e, e', h1, h1'⟩
  have B0 : Hid (Below w.heap.size w w) := Below.refl _ _
  clear R R'
  obtain ⟨l, hl'⟩ : ∃ l, xs.length = l := ⟨_, rfl⟩
  rw [hl'] at CA hl hc hc' ⊢
  clear hl'
  go_enter Tryz.func11, Tryz.ntmps11
  go_wp2
  go_loopg [5] l (fun gk s5 wx => ∃ i : Nat, i + gk = l ∧ s5 = .int .i64 i ∧ Hid (Below w.heap.size w wx))
  case atStart => exact ⟨0, by omega, rfl, B0.out⟩
  case round =>
    obtain ⟨k, hk, rfl, HH⟩ := hrel
    clear B0
    cases gk with
    | succ gk =>
      obtain ⟨g, o, g', o', x, rfl, rfl, ca, cb⟩ := CA.out _ HH.out k (by omega)
      have hk' : (k : Int) < l := by omega
      have hk0 : (0 : Int) ≤ k := by omega
      have hwi : IntKind.i64.wrap ((k : Int) + 1) = (k : Int) + 1 := by rw [IntKind.wrap_i64]; omega
      go_wp2
      go_quiet (fail)
      have hb2 := below_drewN HH.out nq
      have B2 := hidi hb2
      clear hb2 HH
      go_wp2
      go_roundg gk
      case measure => omega
      case rel => exact ⟨k + 1, by omega, by simp, B2.out⟩
    | zero =>
      obtain rfl : k = l := by omega
      have hk' : ¬ (k : Int) < k := by omega
      go_wp2
      go_ret
      exact ⟨rfl, HH.out⟩
/-- A new book's cells. -/
noncomputable def bk0 : Array Value := (Tryz.prog.built 44 []).getD #[]
set_option maxRecDepth 100000 in
theorem bk0_some : (Tryz.prog.built 44 []).isSome = true := by kernel_rfl
theorem wp_build0 {o : Oper} {a : Act} {w : World} {K : Act → World → Prop} {Q : Exit → Act → World → Prop} (ho : o.op = .build 44 #[]) (h : K (a.put o.dst (.agg bk0)) w) : o.wp Tryz.prog a w K Q := by
  have e : (Array.map (fun (x : Nat × Operand) => match x with | (i, x) => (i, a.eval x)) #[]).toList = [] := by simp
  refine wp_build 44 #[] ho ?_ ?_
  · rw [e]
    exact bk0_some
  · rw [e]
    exact h
def nilAt : Option Value → Bool
  | some (.slice none 0 0) => true
  | _ => false
theorem nilAt_eq {v : Option Value} (h : nilAt v = true) : v = some (.slice none 0 0) := by
  unfold nilAt at h
  split at h
  · rfl
  · cases h
theorem bk0_hd : Hd bk0 0 0 0 := by
  have hr : ((List.range 17).all fun k => (List.range 8).all fun i => nilAt (((Tryz.prog.built 44 []).getD #[])[4 + 9 * k + i]?)) = true := by kernel_rfl
  refine ⟨by unfold bk0; kernel_rfl, by unfold bk0; kernel_rfl, by unfold bk0; kernel_rfl, by unfold bk0; kernel_rfl, by unfold bk0; kernel_rfl, fun k hk hk' i hi => ?_⟩
  have h1 := List.all_eq_true.1 hr k (List.mem_range.2 (by omega))
  have h2 := List.all_eq_true.1 h1 i (List.mem_range.2 (by omega))
  exact nilAt_eq h2
theorem bk0_rows : ∀ i, i < 8 → bk0[22 + i]? = some (.slice none 0 0) := by
  have hr : ((List.range 8).all fun i => nilAt (((Tryz.prog.built 44 []).getD #[])[22 + i]?)) = true := by kernel_rfl
  intro i hi
  exact nilAt_eq (List.all_eq_true.1 hr i (List.mem_range.2 hi))
end Go.Proofs.YtdibmmagnkjapaaGreatDoor
namespace Go.Proofs.YtdibmmagnkjapaaGreatDoor
open Go Go.RowKit
set_option linter.unusedSimpArgs false
set_option linter.unusedVariables false

/-! ### TopicChecks, walked over contracts -/
set_option maxRecDepth 100000 in
set_option maxHeartbeats 1000000 in
theorem tchecks_long {w : World} (s : ByteArray) (h : 200000 < s.size) : Calls Tryz.prog 3 #[.string s] w fun e w' => e = .returned (.bool true) ∧ Below w.heap.size w w' := by
  have B0 : Hid (Below w.heap.size w w) := Below.refl _ _
  have h' : (200000 : Int) < (s.size : Int) := by omega
  go_enter Tryz.func3, Tryz.ntmps3
  go_wp2_with fail
  (try go_ret)
  exact ⟨rfl, B0.out⟩
set_option maxRecDepth 100000 in
set_option maxHeartbeats 2000000 in
theorem tchecks_walk {w : World} (s : ByteArray) (hs : ¬ 200000 < s.size) (t q : Int) (Po : Ending → World → Prop) {K1 : Value → World → Prop} (St : Value → Nat → Nat → World → Prop) (S1 : Value → Nat → Nat → Option Addr → Nat → Nat → World → Prop) (S2 : Value → Nat → Nat → World → Prop)
    (h1 : Calls Tryz.prog 5 #[.string s] w fun r w' => ∃ v, r = .returned v ∧ K1 v w')
    (h2 : ∀ v W, K1 v W → St v W.heap.size 0 (W.alloc (.cells bk0 44)))
    (h3 : ∀ v b i W, i < 3 → St v b i W → Calls Tryz.prog 6 #[.string s] W fun r w' => ∃ a l c, r = .returned (.slice a l c) ∧ S1 v b i a l c w')
    (h4 : ∀ v b i a l c W, S1 v b i a l c W → Calls Tryz.prog 7 #[.string s] W fun r w' => r = .returned (.int .i64 t) ∧ S1 v b i a l c w')
    (h5 : ∀ v b i a l c W, S1 v b i a l c W → Calls Tryz.prog 8 #[.string s] W fun r w' => r = .returned (.int .i64 t) ∧ S1 v b i a l c w')
    (h6 : ∀ v b i a l c W, S1 v b i a l c W → Calls Tryz.prog 9 #[.string s] W fun r w' => r = .returned (.int .i64 q) ∧ S1 v b i a l c w')
    (h7 : ∀ v b i a l c W, S1 v b i a l c W → Calls Tryz.prog 10 #[.string s] W fun r w' => r = .returned (.int .i64 q) ∧ S1 v b i a l c w')
    (h8 : ∀ v b i a l c W, S1 v b i a l c W → Calls Tryz.prog 11 #[.slice a l c, v] W fun r w' => r = .returned (.bool true) ∧ S1 v b i a l c w')
    (h9 : ∀ v b i a l c W, S1 v b i a l c W → Calls Tryz.prog 12 #[.slice a l c] W fun r w' => r = .returned (.string s) ∧ S1 v b i a l c w')
    (h10 : ∀ v b i a l c W, S1 v b i a l c W → l ≤ 2000 → Calls Tryz.prog 13 #[.pointer (some ⟨b, 0, none⟩), .slice a l c, .int .i64 (100 * (i : Int) + 1)] W fun r w' => r = .returned (.tuple #[]) ∧ S2 v b i w')
    (h11 : ∀ v b i W, i < 3 → S2 v b i W → Calls Tryz.prog 14 #[.pointer (some ⟨b, 0, none⟩)] W fun r w' => r = .returned (.bool true) ∧ St v b (i + 1) w')
    (h12 : ∀ v b W, St v b 3 W → Po (.returned (.bool true)) W)
    (h13 : ∀ v b i a l c W, S1 v b i a l c W → Po (.returned (.bool true)) W) :
    Calls Tryz.prog 3 #[.string s] w Po := by
  have H1 := hidi h1
  have H2 := hidi h2
  have H3 := hidi h3
  have H4 := hidi h4
  have H5 := hidi h5
  have H6 := hidi h6
  have H7 := hidi h7
  have H8 := hidi h8
  have H9 := hidi h9
  have H10 := hidi h10
  have H11 := hidi h11
  have H12 := hidi h12
  have H13 := hidi h13
  clear h1 h2 h3 h4 h5 h6 h7 h8 h9 h10 h11 h12 h13
  have e0 : ¬ (200000 : Int) < (s.size : Int) := by omega
  clear hs
  go_enter Tryz.func3, Tryz.ntmps3
  go_wp2_with fail
  go_must (go_at_call 5)
  refine (H1.out).mono ?_
  rintro r w1 ⟨v, rfl, hk⟩
  have J1 := hidi (H2.out _ _ hk)
  clear hk
  go_wp2_with fail
  refine wp_build0 rfl ?_
  go_at_K
  go_wp2_with fail
  go_loopg [5, 6] 3 (fun gk s5 s6 wx => ∃ i : Nat, i + gk = 3 ∧ s5 = .int .i64 i ∧ Hid (St v w1.heap.size i wx))
  case atStart => exact ⟨0, by omega, rfl, J1.out⟩
  case round =>
    obtain ⟨i, hi, rfl, HH⟩ := hrel
    clear J1
    cases gk with
    | zero =>
      obtain rfl : i = 3 := by omega
      have Z := hidi (H12.out _ _ _ HH.out)
      clear HH
      go_wp2_with fail
      all_goals (try go_ret)
      all_goals exact Z.out
    | succ gk =>
      have hz : (i : Int) < 3 := by omega
      have hwi : IntKind.i64.wrap ((i : Int) + 1) = (i : Int) + 1 := by rw [IntKind.wrap_i64]; omega
      have hw2 : IntKind.i64.wrap (100 * (i : Int)) = 100 * (i : Int) := by rw [IntKind.wrap_i64]; omega
      have hw3 : IntKind.i64.wrap (100 * (i : Int) + 1) = 100 * (i : Int) + 1 := by rw [IntKind.wrap_i64]; omega
      have J2 := hidi (H3.out _ _ _ _ (by omega) HH.out)
      clear HH
      go_wp2_with fail
      go_must (go_at_call 6)
      refine (J2.out).mono ?_
      rintro r w2 ⟨a, l, c, rfl, hk⟩
      have J3 := hidi (H4.out _ _ _ _ _ _ _ hk)
      clear hk J2
      go_wp2_with fail
      go_must (go_at_call 7)
      refine (J3.out).mono ?_
      rintro r w3 ⟨rfl, hk⟩
      have J4 := hidi (H5.out _ _ _ _ _ _ _ hk)
      clear hk J3
      go_wp2_with fail
      go_must (go_at_call 8)
      refine (J4.out).mono ?_
      rintro r w4 ⟨rfl, hk⟩
      have J5 := hidi (H6.out _ _ _ _ _ _ _ hk)
      clear hk J4
      go_wp2_with fail
      go_must (go_at_call 9)
      refine (J5.out).mono ?_
      rintro r w5 ⟨rfl, hk⟩
      have J6 := hidi (H7.out _ _ _ _ _ _ _ hk)
      clear hk J5
      go_wp2_with fail
      go_must (go_at_call 10)
      refine (J6.out).mono ?_
      rintro r w6 ⟨rfl, hk⟩
      have J7 := hidi (H8.out _ _ _ _ _ _ _ hk)
      clear hk J6
      go_wp2_with fail
      go_must (go_at_call 11)
      refine (J7.out).mono ?_
      rintro r w7 ⟨rfl, hk⟩
      have J8 := hidi (H9.out _ _ _ _ _ _ _ hk)
      clear hk J7
      go_wp2_with fail
      go_must (go_at_call 12)
      refine (J8.out).mono ?_
      rintro r w8 ⟨rfl, hk⟩
      by_cases hl : l ≤ 2000
      · have hl' : ¬ (2000 : Int) < (l : Int) := by omega
        have J9 := hidi (H10.out _ _ _ _ _ _ _ hk hl)
        clear hk J8
        go_wp2_with fail
        go_must (go_at_call 13)
        refine (J9.out).mono ?_
        rintro r w9 ⟨rfl, hk⟩
        have J10 := hidi (H11.out _ _ _ _ (by omega) hk)
        clear hk J9
        go_wp2_with fail
        go_must (go_at_call 14)
        refine (J10.out).mono ?_
        rintro r w10 ⟨rfl, hk⟩
        have J11 := hidi hk
        clear hk J10
        go_wp2_with fail
        go_roundg gk
        case measure => omega
        case rel => exact ⟨i + 1, by omega, by simp, J11.out⟩
      · have hl' : (2000 : Int) < (l : Int) := by omega
        have Z := hidi (H13.out _ _ _ _ _ _ _ hk)
        clear hk J8
        go_wp2_with fail
        all_goals (try go_ret)
        all_goals exact Z.out
end Go.Proofs.YtdibmmagnkjapaaGreatDoor
namespace Go.Proofs.YtdibmmagnkjapaaGreatDoor
open Go Go.RowKit
set_option linter.unusedSimpArgs false
set_option linter.unusedVariables false

/-! ### TopicChecks: what is in memory -/
/-- The book stands, and what lay below it lies there still. -/
structure TS (w : World) (s : ByteArray) (v : Value) (b i : Nat) (W0 : World) (U : Nat → Prop) (W : World) : Prop where
  sz : W0.heap.size = b
  b0 : Below w.heap.size w W0
  row : Row W0 v (levels s)
  be : Below b W0 W
  bk : Bk W b i U
  lo : ∀ k, U k → b ≤ k
theorem TS.below {w : World} {s : ByteArray} {v : Value} {b i : Nat} {W0 : World} {U : Nat → Prop} {W W' : World} (h : TS w s v b i W0 U W) (hb : Below W.heap.size W W') : TS w s v b i W0 U W' :=
  ⟨h.sz, h.b0, h.row, h.be.trans (hb.mono (by have := h.be.size; have := h.sz; omega)), h.bk.keep (fun k q => hb.block k (h.bk.lt q)), h.lo⟩
theorem TS.bel {w : World} {s : ByteArray} {v : Value} {b i : Nat} {W0 : World} {U : Nat → Prop} {W : World} (h : TS w s v b i W0 U W) : Below w.heap.size w W := h.b0.trans (h.be.mono (by have := h.b0.size; have := h.sz; omega))
theorem TS.rowAt {w : World} {s : ByteArray} {v : Value} {b i : Nat} {W0 : World} {U : Nat → Prop} {W : World} (h : TS w s v b i W0 U W) : Row W v (levels s) := h.row.later (h.sz ▸ h.be)
/-- A list that came of it, and that no one else holds. -/
structure TL (s : ByteArray) (b : Nat) (U : Nat → Prop) (a : Option Addr) (l c : Nat) (W : World) : Prop where
  own : W.ownsRow 0 9 1 (.slice a l c) l ((levels s).map Value.string)
  len : l = (levels s).length
  off : ∀ g, (Value.slice a l c).ownBlock = some g → ¬ U g ∧ b ≤ g
theorem TL.below {s : ByteArray} {b : Nat} {U : Nat → Prop} {a : Option Addr} {l c : Nat} {W W' : World} (h : TL s b U a l c W) (hb : Below W.heap.size W W') : TL s b U a l c W' :=
  ⟨own_keep h.own (fun k q => hb.block k ((h.own.lt k q).2)), h.len, h.off⟩
theorem levels_ne (s : ByteArray) : levels s ≠ [] := fun q => by
  have h := lvs_some s s.size 0 0
  have q' : lvs s s.size 0 0 = [] := q
  rw [q'] at h
  simp at h
theorem levels_join (s : ByteArray) : joinL ((levels s).map unB) = unB s := by rw [levels_split, join_split]
set_option maxHeartbeats 1000000 in
/-- TOPICCHECKS, WHOLE. -/
theorem tchecks_any {w : World} (s : ByteArray) (hT : Tab w) : Calls Tryz.prog 3 #[.string s] w fun e w' => e = .returned (.bool true) ∧ Below w.heap.size w w' := by
  by_cases hs : 200000 < s.size
  · exact tchecks_long s hs
  have hlev := levels_len s
  have h1w := hT.lt
  refine tchecks_walk s hs (tcode s) (rfc s) _ (K1 := fun v W => Below w.heap.size w W ∧ Row W v (levels s)) (fun v b i W => i ≤ 3 ∧ ∃ W0 U, TS w s v b i W0 U W) (fun v b i a l c W => i < 3 ∧ ∃ W0 U, TS w s v b i W0 U W ∧ TL s b U a l c W) (fun v b i W => i < 3 ∧ ∃ W0 U, TS w s v b (i + 1) W0 U W) ?_ ?_ ?_ ?_ ?_ ?_ ?_ ?_ ?_ ?_ ?_ ?_ ?_
  · refine (levels_any s (by omega) w).mono ?_
    rintro e w' ⟨v, rfl, ho, hb⟩
    exact ⟨v, rfl, hb, row_of ho⟩
  · rintro v W ⟨hb, hr⟩
    exact ⟨Nat.zero_le _, W, _, rfl, hb, hr, (Below.refl _ _).alloc (Nat.le_refl _) _, bk_start (heap_alloc_new W _) bk0_hd bk0_rows, fun k q => by omega⟩
  · rintro v b i W hi ⟨_, W0, U, h⟩
    refine (tlevels_any s (by omega) W).mono ?_
    rintro e w' ⟨u, rfl, ho, hb⟩
    obtain ⟨a, c, rfl⟩ := own_sl ho
    refine ⟨a, _, c, rfl, hi, W0, U, h.below hb, own_zero ho, rfl, fun g q => ?_⟩
    have h1 := ho.lt g q
    have h2 := h.be.size
    have h3 := h.sz
    exact ⟨fun u => by have := h.bk.lt u; omega, by omega⟩
  · rintro v b i a l c W ⟨hi, W0, U, h, t⟩
    refine (tcheck_any s W).mono ?_
    rintro e w' ⟨rfl, hb⟩
    exact ⟨rfl, hi, W0, U, h.below hb, t.below hb⟩
  · rintro v b i a l c W ⟨hi, W0, U, h, t⟩
    refine (rcheck_any s W).mono ?_
    rintro e w' ⟨rfl, rfl⟩
    exact ⟨rfl, hi, W0, U, h, t⟩
  · rintro v b i a l c W ⟨hi, W0, U, h, t⟩
    refine (fcheck_any s W).mono ?_
    rintro e w' ⟨rfl, hb⟩
    exact ⟨rfl, hi, W0, U, h.below hb, t.below hb⟩
  · rintro v b i a l c W ⟨hi, W0, U, h, t⟩
    refine (rfilter_any s W).mono ?_
    rintro e w' ⟨rfl, hb⟩
    exact ⟨rfl, hi, W0, U, h.below hb, t.below hb⟩
  · rintro v b i a l c W ⟨hi, W0, U, h, t⟩
    have hr : Row W (.slice a l c) (levels s) := by
      have := t.own
      rw [t.len] at this ⊢
      exact row_of this
    refine (lsame_any (levels s) _ v W hr h.rowAt (by omega)).mono ?_
    rintro e w' ⟨rfl, hb⟩
    exact ⟨rfl, hi, W0, U, h.below hb, t.below hb⟩
  · rintro v b i a l c W ⟨hi, W0, U, h, t⟩
    have hr : Row W (.slice a l c) (levels s) := by
      have := t.own
      rw [t.len] at this ⊢
      exact row_of this
    refine (join_any (levels s) _ W hr (levels_ne s) (by omega) (by rw [levels_join, un_size]; omega)).mono ?_
    rintro e w' ⟨rfl, hb⟩
    rw [levels_join, mk_un]
    exact ⟨rfl, hi, W0, U, h.below hb, t.below hb⟩
  · rintro v b i a l c W ⟨hi, W0, U, h, t⟩ hl
    have hoff : ∀ g, (Value.slice a l c).ownBlock = some g → ¬ U g := fun g q => (t.off g q).1
    have hbw := h.bel
    have hsz := h.sz
    have hb0 := h.b0.size
    have hTW : Tab W := hT.keep (hbw.block 1 h1w)
    refine (bk_step h.bk (by omega) a l c _ (100 * (i : Int) + 1) t.own (fun u hu => ?_) (by omega) hoff (its_of hTW ?_)).mono ?_
    · obtain ⟨x, _, rfl⟩ := List.mem_map.1 hu
      exact ⟨x, rfl, trivial, trivial⟩
    · rintro (q | q)
      · have := h.lo 1 q
        omega
      · have := (t.off 1 q).2
        omega
    · rintro e w' ⟨rfl, U', hbk, hch, hun⟩
      have hsW := h.be.size
      refine ⟨rfl, hi, W0, U', hsz, h.b0, h.row, ⟨hch.os.trans h.be.os, hch.tape.trans h.be.tape, hch.output.trans h.be.output, Nat.le_trans hsW hch.size, fun k hk => (hch.block k (by omega) (fun q => ?_)).trans (h.be.block k hk)⟩, hbk, fun k q => ?_⟩
      · rcases q with q | q
        · have := h.lo k q
          omega
        · have := (t.off k q).2
          omega
      · rcases hun k q with (q | q) | q
        · exact h.lo k q
        · exact (t.off k q).2
        · omega
  · rintro v b i W hi ⟨_, W0, U, h⟩
    refine (bk_hold h.bk (by omega)).mono ?_
    rintro e w' ⟨rfl, hb⟩
    exact ⟨rfl, by omega, W0, U, h.below hb⟩
  · rintro v b W ⟨_, W0, U, h⟩
    exact ⟨rfl, h.bel⟩
  · rintro v b i a l c W ⟨_, W0, U, h, _⟩
    exact ⟨rfl, h.bel⟩
end Go.Proofs.YtdibmmagnkjapaaGreatDoor
