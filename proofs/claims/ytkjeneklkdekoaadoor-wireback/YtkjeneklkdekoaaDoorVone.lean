import Derived.Test.YtkjeneklkdekoaaDoorKone
namespace Go.Proofs.YtkjeneklkdekoaaDoor
open Go Go.RowKit
set_option linter.unusedSimpArgs false
set_option linter.unusedVariables false

theorem came_cells {w : World} {ad : Addr} {l k : Nat} {z : Nat → Int} (h : Came w (some ad) l k z) : ∀ j u, (cellsOf z l)[j]? = some u → w.cell? (ad.add j) = some u := by
  intro j u hj
  obtain ⟨q1, rfl⟩ := cellsOf_get z l j u hj
  obtain ⟨_, _, ⟨h, _⟩ | ⟨ad', h, hc⟩⟩ := h
  · cases h
  · obtain rfl := Option.some.inj h
    exact hc j q1
theorem came_nil {w : World} {l k : Nat} {z : Nat → Int} (h : Came w none l k z) : l = 0 ∧ k = 0 := by
  obtain ⟨_, _, ⟨_, h1, h2⟩ | ⟨_, h, _⟩⟩ := h
  · exact ⟨h1, h2⟩
  · cases h

/-- What is owned, whatever its value. -/
def OwnV (w w' : World) (e : Ending) (n : Nat) (xs : List Value) : Prop := ∃ a c, e = .returned (.slice a n c) ∧ w'.ownsRow w.heap.size 5 1 (.slice a n c) n xs ∧ Below w.heap.size w w'

theorem own_slice {w : World} {base n : Nat} {v : Value} {xs : List Value} (h : w.ownsRow base 5 1 v n xs) : ∃ a c, v = .slice a n c := by
  obtain ⟨_, ⟨rfl, rfl⟩ | ⟨g, cp, cur, hv, _⟩⟩ := h
  · exact ⟨none, 0, rfl⟩
  · exact ⟨_, cp, hv⟩

set_option maxRecDepth 100000 in
set_option maxHeartbeats 1000000 in
theorem lbehind_any (a0 a1 : Option Addr) (l0 k0 l1 k1 : Nat) (z0 z1 : Nat → Int) (w : World) (h0 : Came w a0 l0 k0 z0) (h1 : Came w a1 l1 k1 z1) (hl0 : l0 ≤ 400000) (hl1 : l1 ≤ 400000) :
    Calls Tryd.prog 8 #[.slice a0 l0 k0, .slice a1 l1 k1] w fun e w' => OwnV w w' e (l0 + l1) (cellsOf z0 l0 ++ cellsOf z1 l1) := by
  obtain ⟨i0, hi, hz0, hz1, hz2⟩ := info_parts Tryd.info5
  have H1 : Hid (∀ w', Below w.heap.size w w' → Came w' a1 l1 k1 z1) := fun w' hb => came_below (B := 0) h1 hb
  have H0 : Hid (Came w a0 l0 k0 z0) := h0
  have HN : Hid (a1 = none → l1 = 0 ∧ k1 = 0) := by rintro rfl; exact came_nil h1
  clear h0 h1
  cases a0 with
  | none =>
    obtain ⟨rfl, rfl⟩ := came_nil H0.out
    have O0 : Hid (w.ownsRow w.heap.size 5 1 (.slice none 0 0) 0 []) := World.ownsRow_nil _ _ _ _
    cases a1 with
    | none =>
      obtain ⟨rfl, rfl⟩ := HN.out rfl
      go_enter Tryd.func8, Tryd.ntmps8
      go_wp2_with (first | (at_builtin; refine wpList_append_own_none rfl (.tmp 6) (.tmp 7) 22 rfl w.heap.size 5 i0 1 Tryd.underlying22 hi _ 0 [] rfl O0.out rfl ?_) | (at_builtin; refine wpList_append_own_none rfl (.tmp 9) (.tmp 10) 22 rfl w.heap.size 5 i0 1 Tryd.underlying22 hi _ 0 [] rfl O0.out rfl ?_))
      go_ret
      exact ⟨none, 0, rfl, O0.out, Below.refl _ _⟩
    | some a1 =>
      go_enter Tryd.func8, Tryd.ntmps8
      go_wp2_with (first | (at_builtin; refine wpList_append_own_none rfl (.tmp 6) (.tmp 7) 22 rfl w.heap.size 5 i0 1 Tryd.underlying22 hi _ 0 [] rfl O0.out rfl ?_) | (at_builtin; refine wpList_append_own _ rfl (.tmp 9) (.tmp 10) 22 rfl w.heap.size 5 i0 (.int .u8 0) 1 1 Tryd.underlying22 hi hz0 hz1 hz2 rfl (by decide) _ _ _ rfl O0.out a1 l1 k1 (cellsOf z1 l1) rfl ?c0 ?c1 ?c2 ?c3 ?c4 ?c5 ?_))
      case c0 => simp [cellsOf]
      case c1 => exact came_cells (H1.out _ (Below.refl _ _))
      case c2 => exact fun u hu => cellsOf_one z1 l1 u hu
      case c3 => unfold maxLen; omega
      case c4 => omega
      case c5 => exact Nat.le_refl _
      intro v2 w2 hown2 hgrow2 _
      have hb2 := (Below.refl w.heap.size w).grown hgrow2 (Nat.le_refl _) (fun q hq => (O0.out.lt q hq).1)
      obtain ⟨a, c, rfl⟩ := own_slice hown2
      have HS : Hid (w2.ownsRow w.heap.size 5 1 (.slice a (0 + l1) c) (0 + l1) ([] ++ cellsOf z1 l1) ∧ Below w.heap.size w w2) := ⟨by simpa using hown2, hb2⟩
      clear hown2 hgrow2 hb2
      go_wp2
      go_ret
      first | exact ⟨a, c, rfl, HS.out.1, HS.out.2⟩ | exact ⟨a, c, by rw [Nat.zero_add]; rfl, HS.out.1, HS.out.2⟩
  | some a0 =>
    have O0 : Hid (w.ownsRow w.heap.size 5 1 (.slice none 0 0) 0 []) := World.ownsRow_nil _ _ _ _
    go_enter Tryd.func8, Tryd.ntmps8
    go_wp2_with (at_builtin; refine wpList_append_own _ rfl (.tmp 6) (.tmp 7) 22 rfl w.heap.size 5 i0 (.int .u8 0) 1 1 Tryd.underlying22 hi hz0 hz1 hz2 rfl (by decide) _ _ _ rfl O0.out a0 l0 k0 (cellsOf z0 l0) rfl ?d0 ?d1 ?d2 ?d3 ?d4 ?d5 ?_)
    case d0 => simp [cellsOf]
    case d1 => exact came_cells H0.out
    case d2 => exact fun u hu => cellsOf_one z0 l0 u hu
    case d3 => unfold maxLen; omega
    case d4 => omega
    case d5 => exact Nat.le_refl _
    intro v1 w1 hown1 hgrow1 _
    have hb1 := (Below.refl w.heap.size w).grown hgrow1 (Nat.le_refl _) (fun q hq => (O0.out.lt q hq).1)
    have hown1' : w1.ownsRow w.heap.size 5 1 v1 l0 (cellsOf z0 l0) := by simpa using hown1
    obtain ⟨a, c, rfl⟩ := own_slice hown1'
    have HS : Hid (w1.ownsRow w.heap.size 5 1 (.slice a l0 c) l0 (cellsOf z0 l0) ∧ Below w.heap.size w w1) := ⟨hown1', hb1⟩
    clear hown1 hown1' hgrow1 hb1
    cases a1 with
    | none =>
      obtain ⟨rfl, rfl⟩ := HN.out rfl
      go_wp2_with (at_builtin; refine wpList_append_own_none rfl (.tmp 9) (.tmp 10) 22 rfl w.heap.size 5 i0 1 Tryd.underlying22 hi _ l0 (cellsOf z0 l0) rfl HS.out.1 rfl ?_)
      go_ret
      exact ⟨a, c, rfl, by simpa [cellsOf] using HS.out.1, HS.out.2⟩
    | some a1 =>
      go_wp2_with (at_builtin; refine wpList_append_own _ rfl (.tmp 9) (.tmp 10) 22 rfl w.heap.size 5 i0 (.int .u8 0) 1 1 Tryd.underlying22 hi hz0 hz1 hz2 rfl (by decide) _ _ _ rfl HS.out.1 a1 l1 k1 (cellsOf z1 l1) rfl ?e0 ?e1 ?e2 ?e3 ?e4 ?e5 ?_)
      case e0 => simp [cellsOf]
      case e1 => exact came_cells (H1.out _ HS.out.2)
      case e2 => exact fun u hu => cellsOf_one z1 l1 u hu
      case e3 => unfold maxLen; omega
      case e4 => omega
      case e5 => exact HS.out.2.size
      intro v2 w2 hown2 hgrow2 _
      have hb2 := HS.out.2.grown hgrow2 HS.out.2.size (fun q hq => (HS.out.1.lt q hq).1)
      obtain ⟨a2, c2, rfl⟩ := own_slice hown2
      have HS2 : Hid (w2.ownsRow w.heap.size 5 1 (.slice a2 (l0 + l1) c2) (l0 + l1) (cellsOf z0 l0 ++ cellsOf z1 l1) ∧ Below w.heap.size w w2) := ⟨hown2, hb2⟩
      clear hown2 hgrow2 hb2
      go_wp2
      go_ret
      exact ⟨a2, c2, rfl, HS2.out.1, HS2.out.2⟩

theorem cellsOf_congr (z z' : Nat → Int) (n : Nat) (h : ∀ i, i < n → z i = z' i) : cellsOf z n = cellsOf z' n := by
  unfold cellsOf
  apply List.map_congr_left
  intro i hi
  rw [h i (List.mem_range.1 hi)]
/-- Bytes, and others behind them. -/
def cat (z : Nat → Int) (n : Nat) (z' : Nat → Int) : Nat → Int := fun i => if i < n then z i else z' (i - n)
theorem cat_bd {z z' : Nat → Int} {n : Nat} (h : ∀ i, 0 ≤ z i ∧ z i ≤ 255) (h' : ∀ i, 0 ≤ z' i ∧ z' i ≤ 255) (i : Nat) : 0 ≤ cat z n z' i ∧ cat z n z' i ≤ 255 := by
  unfold cat
  split
  · exact h i
  · exact h' _
theorem cells_cat (z z' : Nat → Int) (n : Nat) : ∀ m, cellsOf z n ++ cellsOf z' m = cellsOf (cat z n z') (n + m)
  | 0 => by
    rw [Nat.add_zero, cellsOf_zero, List.append_nil]
    exact cellsOf_congr _ _ _ fun i hi => by simp [cat, hi]
  | m + 1 => by
    rw [cellsOf_succ, ← List.append_assoc, cells_cat z z' n m, ← Nat.add_assoc, cellsOf_succ]
    have e : cat z n z' (n + m) = z' m := by unfold cat; rw [if_neg (by omega), Nat.add_sub_cancel_left]
    rw [e]

/-- What Length tells, in three ways. -/
theorem len_ways (len : Nat) (z : Nat → Int) (hz : ∀ i, 0 ≤ z i ∧ z i ≤ 255) :
    (lenZ len z = (0, 0, 10) ∧ len < 4 ∧ ∃ m, lenZ (len + 1) (cat z len (lZ [0])) = (m, (len : Int) + 1, 0) ∧ 0 ≤ m) ∨ (lenZ len z = (0, 0, 12) ∧ 4 ≤ len) ∨
    (∃ n k, lenZ len z = (n, k, 0) ∧ 1 ≤ k ∧ k ≤ 4 ∧ k ≤ len ∧ 0 ≤ n ∧ n ≤ 268435455 ∧ (kn n : Int) ≤ k) := by
  have b0 := hz 0
  have b1 := hz 1
  have b2 := hz 2
  have b3 := hz 3
  by_cases a0 : len = 0
  · subst a0
    left
    refine ⟨lenX_short0  rfl, by decide, 0 % 128, ?_, by omega⟩
    exact lenX_done0  (by decide) (show (0 : Int) < 128 by decide)
  by_cases c0 : z 0 < 128
  · right; right
    refine ⟨z 0 % 128, 1, lenX_done0  a0 c0, by decide, by decide, by omega, by omega, by omega, ?_⟩
    unfold kn
    split
    · omega
    · split
      · omega
      · split <;> omega
  by_cases a1 : len = 1
  · subst a1
    left
    refine ⟨lenX_short1 a0 c0 rfl, by decide, z 0 % 128 + 0 % 128 * 128, ?_, by omega⟩
    exact lenX_done1 (by decide) c0 (by decide) (show (0 : Int) < 128 by decide)
  by_cases c1 : z 1 < 128
  · right; right
    refine ⟨z 0 % 128 + z 1 % 128 * 128, 2, lenX_done1 a0 c0 a1 c1, by decide, by decide, by omega, by omega, by omega, ?_⟩
    unfold kn
    split
    · omega
    · split
      · omega
      · split <;> omega
  by_cases a2 : len = 2
  · subst a2
    left
    refine ⟨lenX_short2 a0 c0 a1 c1 rfl, by decide, z 0 % 128 + z 1 % 128 * 128 + 0 % 128 * 16384, ?_, by omega⟩
    exact lenX_done2 (by decide) c0 (by decide) c1 (by decide) (show (0 : Int) < 128 by decide)
  by_cases c2 : z 2 < 128
  · right; right
    refine ⟨z 0 % 128 + z 1 % 128 * 128 + z 2 % 128 * 16384, 3, lenX_done2 a0 c0 a1 c1 a2 c2, by decide, by decide, by omega, by omega, by omega, ?_⟩
    unfold kn
    split
    · omega
    · split
      · omega
      · split <;> omega
  by_cases a3 : len = 3
  · subst a3
    left
    refine ⟨lenX_short3 a0 c0 a1 c1 a2 c2 rfl, by decide, z 0 % 128 + z 1 % 128 * 128 + z 2 % 128 * 16384 + 0 % 128 * 2097152, ?_, by omega⟩
    exact lenX_done3 (by decide) c0 (by decide) c1 (by decide) c2 (by decide) (show (0 : Int) < 128 by decide)
  by_cases c3 : z 3 < 128
  · right; right
    refine ⟨z 0 % 128 + z 1 % 128 * 128 + z 2 % 128 * 16384 + z 3 % 128 * 2097152, 4, lenX_done3 a0 c0 a1 c1 a2 c2 a3 c3, by decide, by decide, by omega, by omega, by omega, ?_⟩
    unfold kn
    split
    · omega
    · split
      · omega
      · split <;> omega
  right; left
  exact ⟨lenX_form a0 c0 a1 c1 a2 c2 a3 c3, by omega⟩
end Go.Proofs.YtkjeneklkdekoaaDoor
