import Derived.Test.YtglnldopnoafoaaGreatDoorBya
import Derived.Test.YtglnldopnoafoaaGreatDoorZc
import Derived.Test.YtglnldopnoafoaaGreatDoorShelj
import Derived.Deep.LoopGhost
import Derived.Laws.Tables
import Derived.Lib.AppendIntMem
namespace Go.Proofs.YtglnldopnoafoaaGreatDoor
open Go Go.RowKit
set_option linter.unusedSimpArgs false
set_option linter.unusedVariables false

theorem pow_at : Tryz.prog.globalNamed "internal/strconv.uint64pow10" = some 1 := by kernel_rfl
/-- The table of powers. -/
abbrev Tab (w : World) : Prop := Lib.TabIs Tryz.prog w "internal/strconv.uint64pow10" .u64 Lib.pow10Tab
theorem Tab.keep {w w' : World} (h : Tab w) (hk : w'.heap[1]? = w.heap[1]?) : Tab w' := by
  have h' : w.var? Tryz.prog "internal/strconv.uint64pow10" = _ := h
  show w'.var? Tryz.prog "internal/strconv.uint64pow10" = _
  rw [← h']
  unfold World.var?
  rw [pow_at]
  simp only [Option.bind_some, hk]
theorem Tab.lt {w : World} (h : Tab w) : 1 < w.heap.size := by
  have h' : w.var? Tryz.prog "internal/strconv.uint64pow10" = _ := h
  unfold World.var? at h'
  rw [pow_at] at h'
  simp only [Option.bind_some] at h'
  rcases Nat.lt_or_ge 1 w.heap.size with q | q
  · exact q
  · rw [Array.getElem?_eq_none q] at h'
    cases h'
theorem ito_of {w : World} (h : Tab w) : Ito w := fun n h0 h1 => by
  refine (Tryz.strconv_Itoa n h0 h1 w h).mono ?_
  rintro e w' ⟨rfl, k, os, rfl⟩
  exact ⟨⟨_, rfl⟩, Lib.below_grow _ _ (Nat.le_refl _) k os⟩
theorem its_of {S : Nat → Prop} {w : World} (h : Tab w) (hs : ¬ S 1) : ItS S w := fun wx c => ito_of (h.keep (c.block 1 h.lt hs))
set_option maxRecDepth 100000 in
set_option maxHeartbeats 1000000 in
theorem lsame_any (xs : List ByteArray) (v v' : Value) (w : World) (R : Row w v xs) (R' : Row w v' xs) (hl : xs.length ≤ 1000001) : Calls Tryz.prog 9 #[v, v'] w fun e w' => e = .returned (.bool true) ∧ Below w.heap.size w w' := by
  obtain ⟨a, c, rfl, hc⟩ := R.len
  obtain ⟨a', c', rfl, hc'⟩ := R'.len
  have CA : Hid (∀ W, Below w.heap.size w W → ∀ i, i < xs.length → ∃ g o g' o' x, a = some ⟨g, o, none⟩ ∧ a' = some ⟨g', o', none⟩ ∧ W.cell? ⟨g, o + i, none⟩ = some (.string x) ∧ W.cell? ⟨g', o' + i, none⟩ = some (.string x)) := fun W hW i hi => by
    obtain ⟨g, o, e, h1⟩ := (R.later hW).cell hi
    obtain ⟨g', o', e', h1'⟩ := (R'.later hW).cell hi
    exact ⟨g, o, g', o', _, e, e', h1, h1'⟩
  have B0 : Hid (Below w.heap.size w w) := Below.refl _ _
  clear R R'
  obtain ⟨l, hl'⟩ : ∃ l, xs.length = l := ⟨_, rfl⟩
  rw [hl'] at CA hl hc hc' ⊢
  clear hl'
  go_enter Tryz.func9, Tryz.ntmps9
  go_wp2
  go_loopg [5] l (fun gk s5 wx => ∃ i : Nat, i + gk = l ∧ s5 = .int .i64 i ∧ Hid (Below w.heap.size w wx))
  case atStart => exact ⟨0, by omega, rfl, B0.out⟩
  case round =>
    obtain ⟨k, hk, rfl, HH⟩ := hrel
    clear B0
    cases gk with
    | succ gk =>
      obtain ⟨g, o, g', o', x, rfl, rfl, ca, cb⟩ := CA.out _ HH.out k (by omega)
      have hk' : (k : Int) < l := by omega
      have hk0 : (0 : Int) ≤ k := by omega
      have hwi : IntKind.i64.wrap ((k : Int) + 1) = (k : Int) + 1 := by rw [IntKind.wrap_i64]; omega
      go_wp2
      go_quiet (fail)
      have hb2 := below_drewN HH.out nq
      have B2 := hidi hb2
      clear hb2 HH
      go_wp2
      go_roundg gk
      case measure => omega
      case rel => exact ⟨k + 1, by omega, by simp, B2.out⟩
    | zero =>
      obtain rfl : k = l := by omega
      have hk' : ¬ (k : Int) < k := by omega
      go_wp2
      go_ret
      exact ⟨rfl, HH.out⟩
/-- A new book's cells. -/
noncomputable def bk0 : Array Value := (Tryz.prog.built 51 []).getD #[]
set_option maxRecDepth 100000 in
theorem bk0_some : (Tryz.prog.built 51 []).isSome = true := by kernel_rfl
theorem wp_build0 {o : Oper} {a : Act} {w : World} {K : Act → World → Prop} {Q : Exit → Act → World → Prop} (ho : o.op = .build 51 #[]) (h : K (a.put o.dst (.agg bk0)) w) : o.wp Tryz.prog a w K Q := by
  have e : (Array.map (fun (x : Nat × Operand) => match x with | (i, x) => (i, a.eval x)) #[]).toList = [] := by simp
  refine wp_build 51 #[] ho ?_ ?_
  · rw [e]
    exact bk0_some
  · rw [e]
    exact h
def nilAt : Option Value → Bool
  | some (.slice none 0 0) => true
  | _ => false
theorem nilAt_eq {v : Option Value} (h : nilAt v = true) : v = some (.slice none 0 0) := by
  unfold nilAt at h
  split at h
  · rfl
  · cases h
theorem bk0_hd : Hd bk0 0 0 0 := by
  have hr : ((List.range 17).all fun k => (List.range 8).all fun i => nilAt (((Tryz.prog.built 51 []).getD #[])[4 + 9 * k + i]?)) = true := by kernel_rfl
  refine ⟨by unfold bk0; kernel_rfl, by unfold bk0; kernel_rfl, by unfold bk0; kernel_rfl, by unfold bk0; kernel_rfl, by unfold bk0; kernel_rfl, fun k hk hk' i hi => ?_⟩
  have h1 := List.all_eq_true.1 hr k (List.mem_range.2 (by omega))
  have h2 := List.all_eq_true.1 h1 i (List.mem_range.2 (by omega))
  exact nilAt_eq h2
theorem bk0_rows : ∀ i, i < 8 → bk0[22 + i]? = some (.slice none 0 0) := by
  have hr : ((List.range 8).all fun i => nilAt (((Tryz.prog.built 51 []).getD #[])[22 + i]?)) = true := by kernel_rfl
  intro i hi
  exact nilAt_eq (List.all_eq_true.1 hr i (List.mem_range.2 hi))
end Go.Proofs.YtglnldopnoafoaaGreatDoor
namespace Go.Proofs.YtglnldopnoafoaaGreatDoor
open Go Go.RowKit
set_option linter.unusedSimpArgs false
set_option linter.unusedVariables false

/-! ### A count of parts -/
def cAdd (L n : Int) : Int := if 0 ≤ L then L - n else L
def IsB (e : Ending) : Prop := ∃ b, e = .returned (.bool b)
/-- A count in memory. -/
def Ct (w : World) (c : Nat) (L : Int) : Prop := w.heap[c]? = some (.cells #[.int .i64 L] 57 (0, 0))
theorem Ct.cell {w : World} {c : Nat} {L : Int} (h : Ct w c L) : w.cell? ⟨c, 0, none⟩ = some (.int .i64 L) := by unfold Ct at h; simp [World.cell?, h]
theorem Ct.free {w : World} {c : Nat} {L : Int} (h : Ct w c L) : w.frozen? ⟨c, 0, none⟩ = false := by unfold Ct at h; simp [World.frozen?, h]
theorem Ct.set {w : World} {c : Nat} {L : Int} (h : Ct w c L) (L' : Int) : Ct (w.setCell ⟨c, 0, none⟩ (.int .i64 L')) c L' := by
  have := heap_set (i := 0) h (.int .i64 L')
  simpa [Ct] using this
set_option maxHeartbeats 400000 in
theorem add_any {w : World} {c : Nat} {L : Int} (h : Ct w c L) (n : Int) (hL : L ≤ 2 ^ 60) (hn : 0 ≤ n ∧ n ≤ 2 ^ 63 - 1) :
    Calls Tryz.prog 55 #[.pointer (some ⟨c, 0, none⟩), .int .i64 n] w fun e w' => IsB e ∧ Ct w' c (cAdd L n) ∧ Ch (fun k => k = c) w w' := by
  have c0 := h.cell
  have f0 := h.free
  by_cases hp : 0 ≤ L
  · have hw : IntKind.i64.wrap (L - n) = L - n := by rw [IntKind.wrap_i64]; omega
    have c1 := (h.set (L - n)).cell
    have HZ : Hid (Ct (w.setCell ⟨c, 0, none⟩ (.int .i64 (L - n))) c (cAdd L n) ∧ Ch (fun k => k = c) w (w.setCell ⟨c, 0, none⟩ (.int .i64 (L - n)))) := ⟨by rw [cAdd, if_pos hp]; exact h.set _, ch_set _ _ _⟩
    clear h hn hL
    go_enter Tryz.func55, Tryz.ntmps55
    go_wp2
    go_ret
    exact ⟨⟨_, rfl⟩, HZ.out⟩
  · have HZ : Hid (Ct w c (cAdd L n) ∧ Ch (fun k => k = c) w w) := ⟨by rw [cAdd, if_neg hp]; exact h, Ch.refl _ _⟩
    have hp' : ¬ L ≥ 0 := hp
    clear h hn hL
    go_enter Tryz.func55, Tryz.ntmps55
    go_wp2
    go_ret
    exact ⟨⟨_, rfl⟩, HZ.out⟩
theorem cAdd_le {L n : Int} (hn : 0 ≤ n) : cAdd L n ≤ L := by
  unfold cAdd
  split <;> omega
set_option maxHeartbeats 400000 in
theorem text_any {w : World} {c : Nat} {L : Int} (h : Ct w c L) (s : ByteArray) (hL : L ≤ 2 ^ 60) (hs : s.size ≤ maxLen) :
    Calls Tryz.prog 14 #[.pointer (some ⟨c, 0, none⟩), .string s] w fun e w' => e = .returned (.tuple #[]) ∧ Ct w' c (cAdd (cAdd L 1) s.size) ∧ Ch (fun k => k = c) w w' := by
  have hs' : (s.size : Int) ≤ 2 ^ 63 - 1 := by unfold maxLen at hs; omega
  have hb : cAdd L 1 ≤ L := cAdd_le (by omega)
  have HA := hidi (add_any h 1 (by omega) (by omega))
  have HB : Hid (∀ w', Ct w' c (cAdd L 1) → Calls Tryz.prog 55 #[.pointer (some ⟨c, 0, none⟩), .int .i64 s.size] w' fun e w'' => IsB e ∧ Ct w'' c (cAdd (cAdd L 1) s.size) ∧ Ch (fun k => k = c) w' w'') := fun w' h' => add_any h' _ (by omega) (by omega)
  clear h hL hs hs' hb
  go_enter Tryz.func14, Tryz.ntmps14
  go_wp2_with fail
  go_must (go_at_call 55)
  refine (HA.out).mono ?_
  rintro r w1 ⟨⟨b, rfl⟩, hk, hc⟩
  have J := hidi (HB.out _ hk)
  have C1 := hidi hc
  clear hk hc HA HB
  go_wp2_with fail
  go_must (go_at_call 55)
  refine (J.out).mono ?_
  rintro r w2 ⟨⟨b2, rfl⟩, hk, hc⟩
  have Z : Hid (Ct w2 c (cAdd (cAdd L 1) s.size) ∧ Ch (fun k => k = c) w w2) := ⟨hk, C1.out.trans hc (fun _ _ q => q)⟩
  clear hk hc J C1
  go_wp2_with fail
  exact bodyPost_end (results_none rfl _ _ _) rfl ⟨rfl, Z.out⟩
def cnt : Int → List ByteArray → Int
  | L, [] => L
  | L, x :: r => if 0 ≤ L then cnt (cAdd (cAdd L 1) x.size) r else L
def totT : List ByteArray → Int
  | [] => 0
  | x :: r => 1 + x.size + totT r
theorem cnt_neg {L : Int} (h : ¬ 0 ≤ L) (xs : List ByteArray) : cnt L xs = L := by cases xs <;> simp [cnt, h]
theorem cnt_le : ∀ (xs : List ByteArray) (L : Int), 0 ≤ cnt L xs → totT xs ≤ L
  | [], L, h => h
  | x :: r, L, h => by
    unfold cnt at h
    split at h
    · rename_i hp
      by_cases h1 : 0 ≤ L - 1
      · have e : cAdd (cAdd L 1) x.size = L - 1 - x.size := by rw [cAdd, cAdd, if_pos hp, if_pos h1]
        rw [e] at h
        have := cnt_le r _ h
        unfold totT
        omega
      · have e : cAdd (cAdd L 1) x.size = L - 1 := by rw [cAdd, cAdd, if_pos hp, if_neg h1]
        rw [e, cnt_neg h1] at h
        exact absurd h h1
    · rename_i hp
      exact absurd h hp
theorem ok_any {w : World} {c : Nat} {L : Int} (h : Ct w c L) : Calls Tryz.prog 6 #[.pointer (some ⟨c, 0, none⟩)] w fun e w' => e = .returned (.bool (decide (0 ≤ L))) ∧ w' = w := by
  have c0 := h.cell
  clear h
  by_cases hp : 0 ≤ L
  · have hp' : L ≥ 0 := hp
    rw [decide_eq_true hp]
    go_enter Tryz.func6, Tryz.ntmps6
    go_wp2
    go_ret
    exact ⟨rfl, rfl⟩
  · have hp' : ¬ L ≥ 0 := hp
    rw [decide_eq_false hp]
    go_enter Tryz.func6, Tryz.ntmps6
    go_wp2
    go_ret
    exact ⟨rfl, rfl⟩
theorem many_any (n : Int) (w : World) : Calls Tryz.prog 4 #[.int .i64 n] w fun e w' => e = .returned (.pointer (some ⟨w.heap.size, 0, none⟩)) ∧ Ct w' w.heap.size n ∧ Below w.heap.size w w' := by
  have HZ : Hid (Ct (w.alloc (.cells #[.int .i64 n] 57)) w.heap.size n ∧ Below w.heap.size w (w.alloc (.cells #[.int .i64 n] 57))) := ⟨heap_alloc_new _ _, (Below.refl _ _).alloc (Nat.le_refl _) _⟩
  go_enter Tryz.func4, Tryz.ntmps4
  go_wp2
  go_ret
  exact ⟨rfl, HZ.out⟩
theorem cnt_step {L : Int} {x : ByteArray} {r : List ByteArray} (h : 0 ≤ L) : cnt L (x :: r) = cnt (cAdd (cAdd L 1) x.size) r := by simp [cnt, h]
theorem drop_cons {xs : List ByteArray} {i : Nat} (hi : i < xs.length) : xs.drop i = xs[i] :: xs.drop (i + 1) := (List.drop_eq_getElem_cons hi)
set_option maxRecDepth 100000 in
set_option maxHeartbeats 1000000 in
/-- The parts of a list of texts are counted. -/
theorem texts_any {w0 w : World} {c : Nat} {L : Int} {a : Option Addr} {n cap : Nat} (xs : List ByteArray) (hn : n = xs.length) (h : Ct w c L) (hL : L ≤ 2 ^ 60) (R : Row w0 (.slice a n cap) xs) (hb : Below w0.heap.size w0 w) (hc : w0.heap.size ≤ c) (hl : n ≤ maxLen) (hs : ∀ x ∈ xs, x.size ≤ maxLen) :
    Calls Tryz.prog 5 #[.pointer (some ⟨c, 0, none⟩), .slice a n cap] w fun e w' => e = .returned (.tuple #[]) ∧ Ct w' c (cnt L xs) ∧ Ch (fun k => k = c) w w' := by
  have HX : Hid (∀ W, Below w0.heap.size w0 W → ∀ i (hi : i < xs.length), ∃ g o, a = some ⟨g, o, none⟩ ∧ W.cell? ⟨g, o + i, none⟩ = some (.string xs[i])) := fun W hW i hi => (R.later hW).cell hi
  have HM : Hid (n ≤ 2 ^ 63 - 1 ∧ n ≤ cap) := ⟨by unfold maxLen at hl; omega, by obtain ⟨a', n', c', e, _, q, _⟩ := R; injection e with _ e2 e3; omega⟩
  have HT : Hid (∀ W M, Ct W c M → M ≤ 2 ^ 60 → ∀ i (hi : i < xs.length), Calls Tryz.prog 14 #[.pointer (some ⟨c, 0, none⟩), .string xs[i]] W fun e w' => e = .returned (.tuple #[]) ∧ Ct w' c (cAdd (cAdd M 1) xs[i].size) ∧ Ch (fun k => k = c) W w') := fun W M h1 h2 i hi => text_any h1 _ h2 (hs _ (List.getElem_mem hi))
  have HB : Hid (∀ W, Ch (fun k => k = c) w W → Below w0.heap.size w0 W) := fun W q => hb.trans ⟨q.os, q.tape, q.output, q.size, fun k hk => q.block k (by have := hb.size; omega) (by omega)⟩
  have HS : Hid (∃ M, Ct w c M ∧ M ≤ 2 ^ 60 ∧ cnt M (xs.drop 0) = cnt L xs ∧ Ch (fun k => k = c) w w) := ⟨L, h, hL, rfl, Ch.refl _ _⟩
  have HN : Hid (n = xs.length) := hn
  clear R hb hc hl hs h hL hn
  go_enter Tryz.func5, Tryz.ntmps5
  go_wp2
  go_loopg [4] n (fun gk s4 wx => ∃ i : Nat, i + gk = n ∧ s4 = .int .i64 i ∧ Hid (∃ M, Ct wx c M ∧ M ≤ 2 ^ 60 ∧ cnt M (xs.drop i) = cnt L xs ∧ Ch (fun k => k = c) w wx))
  case atStart => exact ⟨0, by omega, rfl, HS.out⟩
  case round =>
    obtain ⟨i, hi, rfl, HH⟩ := hrel
    clear HS
    cases gk with
    | zero =>
      obtain rfl : i = n := by omega
      have hz : ¬ (i : Int) < (i : Int) := by omega
      have Z : Hid (Ct wr c (cnt L xs) ∧ Ch (fun k => k = c) w wr) := by
        obtain ⟨M, h1, h2, h3, h4⟩ := HH.out
        have hN := HN.out
        rw [List.drop_eq_nil_of_le (by omega)] at h3
        exact ⟨h3 ▸ h1, h4⟩
      clear HH
      go_wp2
      exact bodyPost_end (results_none rfl _ _ _) rfl ⟨rfl, Z.out⟩
    | succ gk =>
      have hz : (i : Int) < (n : Int) := by omega
      have hz0 : (0 : Int) ≤ (i : Int) := by omega
      obtain ⟨M, h1, h2, h3, h4⟩ := HH.out
      have hi2 : i < xs.length := by have := HN.out; omega
      clear HH
      by_cases hp : 0 ≤ M
      · obtain ⟨g, o, ea, ce⟩ := HX.out _ (HB.out _ h4) i hi2
        subst ea
        have J1 := hidi (ok_any h1)
        have e1 : decide (0 ≤ M) = true := decide_eq_true hp
        have J2 := hidi (HT.out _ _ h1 h2 i hi2)
        have hwi : IntKind.i64.wrap ((i : Int) + 1) = (i : Int) + 1 := by rw [IntKind.wrap_i64]; have := HM.out; omega
        have HD : Hid (cnt (cAdd (cAdd M 1) xs[i].size) (xs.drop (i + 1)) = cnt L xs ∧ cAdd (cAdd M 1) xs[i].size ≤ 2 ^ 60 ∧ Ch (fun k => k = c) w wr) := ⟨by rw [← h3, drop_cons hi2, cnt_step hp], Int.le_trans (cAdd_le (by omega)) (Int.le_trans (cAdd_le (by omega)) h2), h4⟩
        clear h1 h2 h3 h4
        obtain ⟨x, hx⟩ : ∃ x, xs[i] = x := ⟨_, rfl⟩
        rw [hx] at ce J2 HD
        rw [e1] at J1
        clear hx e1
        go_wp2_with fail
        go_must (go_at_call 6)
        refine (J1.out).mono ?_
        rintro r wq ⟨rfl, he⟩
        obtain rfl := he.symm
        clear J1
        go_wp2_with fail
        go_must (go_at_call 14)
        refine (J2.out).mono ?_
        rintro r w2 ⟨rfl, q1, q2⟩
        have HZ : Hid (∃ M', Ct w2 c M' ∧ M' ≤ 2 ^ 60 ∧ cnt M' (xs.drop (i + 1)) = cnt L xs ∧ Ch (fun k => k = c) w w2) := ⟨_, q1, HD.out.2.1, HD.out.1, HD.out.2.2.trans q2 (fun _ _ q => q)⟩
        clear q1 q2 J2
        go_wp2_with fail
        go_roundg gk
        case measure => omega
        case rel => exact ⟨i + 1, by omega, by simp, HZ.out⟩
      · have J1 := hidi (ok_any h1)
        have e1 : decide (0 ≤ M) = false := decide_eq_false hp
        have Z : Hid (Ct wr c (cnt L xs) ∧ Ch (fun k => k = c) w wr) := ⟨by rw [← h3, cnt_neg hp]; exact h1, h4⟩
        clear h1 h2 h3 h4
        rw [e1] at J1
        clear e1
        go_wp2_with fail
        go_must (go_at_call 6)
        refine (J1.out).mono ?_
        rintro r wq ⟨rfl, he⟩
        obtain rfl := he.symm
        clear J1
        go_wp2_with fail
        exact bodyPost_end (results_none rfl _ _ _) rfl ⟨rfl, Z.out⟩
end Go.Proofs.YtglnldopnoafoaaGreatDoor
