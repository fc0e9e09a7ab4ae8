import Derived.Test.YtkjeneklkdekoaaGreatDoorGthree
import Derived.Deep.RegionWith
namespace Go.Proofs.YtkjeneklkdekoaaGreatDoor
open Go Go.RowKit
set_option linter.unusedSimpArgs false
set_option linter.unusedVariables false

/-- The bytes of a short list. -/
def lZ (l : List Int) : Nat → Int := fun i => l.getD i 0
theorem lZ_bd (l : List Int) (h : ∀ x ∈ l, 0 ≤ x ∧ x ≤ 255) (i : Nat) : 0 ≤ lZ l i ∧ lZ l i ≤ 255 := by
  unfold lZ
  rw [List.getD_eq_getElem?_getD]
  cases e : l[i]? with
  | none => simp
  | some x => exact h x (List.mem_of_getElem? e)

theorem below_of_gb {w w' : World} {B rb : Nat} (h : w.grownBy w' (some rb)) (hr : B ≤ rb) (hB : B ≤ w.heap.size) : Below B w w' := ⟨h.os, h.tape, h.output, h.size, fun k hk => h.block k (by omega) (by simp; omega)⟩

theorem nil_came (w : World) (z : Nat → Int) (hz : ∀ i, 0 ≤ z i ∧ z i ≤ 255) : Came w none 0 0 z := ⟨Nat.le_refl _, hz, .inl ⟨rfl, rfl, rfl⟩⟩

/-- New memory with these bytes. -/
def MadeZ (w w' : World) (g n cp : Nat) (z : Nat → Int) : Prop := Came w' (some ⟨g, 0, none⟩) n cp z ∧ Below w.heap.size w w'

theorem made_z {w w' : World} {e : Ending} {n : Nat} {xs : List Value} {z : Nat → Int} (h : Made w w' e n xs) (hx : xs = cellsOf z n) (hz : ∀ i, 0 ≤ z i ∧ z i ≤ 255) : ∃ g cp, e = .returned (.slice (some ⟨g, 0, none⟩) n cp) ∧ MadeZ w w' g n cp z := by
  obtain ⟨g, cp, rfl, ho, hb⟩ := h
  rw [hx] at ho
  exact ⟨g, cp, rfl, made_came (w := w) ho hz, hb⟩

theorem same_z (w : World) (a b : Addr) (n k k' : Nat) (z : Nat → Int) (h : Came w (some a) n k z) (h' : Came w (some b) n k' z) : Calls Tryz.prog 8 #[.slice (some a) n k, .slice (some b) n k'] w fun e w' => e = .returned (.bool true) ∧ w' = w := by
  have t := same_any (some a) (some b) n k n k' z z w h h'
  rw [beq_self_eq_true] at t
  exact t
set_option maxHeartbeats 400000 in
theorem num_any (n : Int) (w : World) :
    Calls Tryz.prog 27 #[.int .i64 n] w fun e w' => e = .returned (.int .i64 n) ∧ w' = w := by
  go_enter Tryz.func27, Tryz.ntmps27
  go_wp2
  go_ret
  exact ⟨rfl, rfl⟩
end Go.Proofs.YtkjeneklkdekoaaGreatDoor
namespace Go.Proofs.YtkjeneklkdekoaaGreatDoor
open Go Go.RowKit
set_option linter.unusedSimpArgs false
set_option linter.unusedVariables false

theorem came_cells {w : World} {ad : Addr} {l k : Nat} {z : Nat → Int} (h : Came w (some ad) l k z) : ∀ j u, (cellsOf z l)[j]? = some u → w.cell? (ad.add j) = some u := by
  intro j u hj
  obtain ⟨q1, rfl⟩ := cellsOf_get z l j u hj
  obtain ⟨_, _, ⟨h, _⟩ | ⟨ad', h, hc⟩⟩ := h
  · cases h
  · obtain rfl := Option.some.inj h
    exact hc j q1
theorem came_nil {w : World} {l k : Nat} {z : Nat → Int} (h : Came w none l k z) : l = 0 ∧ k = 0 := by
  obtain ⟨_, _, ⟨_, h1, h2⟩ | ⟨_, h, _⟩⟩ := h
  · exact ⟨h1, h2⟩
  · cases h

/-- What is owned, whatever its value. -/
def OwnV (w w' : World) (e : Ending) (n : Nat) (xs : List Value) : Prop := ∃ a c, e = .returned (.slice a n c) ∧ w'.ownsRow w.heap.size 5 1 (.slice a n c) n xs ∧ Below w.heap.size w w'

theorem own_slice {w : World} {base n : Nat} {v : Value} {xs : List Value} (h : w.ownsRow base 5 1 v n xs) : ∃ a c, v = .slice a n c := by
  obtain ⟨_, ⟨rfl, rfl⟩ | ⟨g, cp, cur, hv, _⟩⟩ := h
  · exact ⟨none, 0, rfl⟩
  · exact ⟨_, cp, hv⟩

set_option maxRecDepth 100000 in
set_option maxHeartbeats 1000000 in
theorem lbehind_any (a0 a1 : Option Addr) (l0 k0 l1 k1 : Nat) (z0 z1 : Nat → Int) (w : World) (h0 : Came w a0 l0 k0 z0) (h1 : Came w a1 l1 k1 z1) (hl0 : l0 ≤ 400000) (hl1 : l1 ≤ 400000) :
    Calls Tryz.prog 10 #[.slice a0 l0 k0, .slice a1 l1 k1] w fun e w' => OwnV w w' e (l0 + l1) (cellsOf z0 l0 ++ cellsOf z1 l1) := by
  obtain ⟨i0, hi, hz0, hz1, hz2⟩ := info_parts Tryz.info5
  have H1 : Hid (∀ w', Below w.heap.size w w' → Came w' a1 l1 k1 z1) := fun w' hb => came_below (B := 0) h1 hb
  have H0 : Hid (Came w a0 l0 k0 z0) := h0
  have HN : Hid (a1 = none → l1 = 0 ∧ k1 = 0) := by rintro rfl; exact came_nil h1
  clear h0 h1
  cases a0 with
  | none =>
    obtain ⟨rfl, rfl⟩ := came_nil H0.out
    have O0 : Hid (w.ownsRow w.heap.size 5 1 (.slice none 0 0) 0 []) := World.ownsRow_nil _ _ _ _
    cases a1 with
    | none =>
      obtain ⟨rfl, rfl⟩ := HN.out rfl
      go_enter Tryz.func10, Tryz.ntmps10
      go_wp2_with (first | (at_builtin; refine wpList_append_own_none rfl (.tmp 6) (.tmp 7) 22 rfl w.heap.size 5 i0 1 Tryz.underlying22 hi _ 0 [] rfl O0.out rfl ?_) | (at_builtin; refine wpList_append_own_none rfl (.tmp 9) (.tmp 10) 22 rfl w.heap.size 5 i0 1 Tryz.underlying22 hi _ 0 [] rfl O0.out rfl ?_))
      go_ret
      exact ⟨none, 0, rfl, O0.out, Below.refl _ _⟩
    | some a1 =>
      go_enter Tryz.func10, Tryz.ntmps10
      go_wp2_with (first | (at_builtin; refine wpList_append_own_none rfl (.tmp 6) (.tmp 7) 22 rfl w.heap.size 5 i0 1 Tryz.underlying22 hi _ 0 [] rfl O0.out rfl ?_) | (at_builtin; refine wpList_append_own _ rfl (.tmp 9) (.tmp 10) 22 rfl w.heap.size 5 i0 (.int .u8 0) 1 1 Tryz.underlying22 hi hz0 hz1 hz2 rfl (by decide) _ _ _ rfl O0.out a1 l1 k1 (cellsOf z1 l1) rfl ?c0 ?c1 ?c2 ?c3 ?c4 ?c5 ?_))
      case c0 => simp [cellsOf]
      case c1 => exact came_cells (H1.out _ (Below.refl _ _))
      case c2 => exact fun u hu => cellsOf_one z1 l1 u hu
      case c3 => unfold maxLen; omega
      case c4 => omega
      case c5 => exact Nat.le_refl _
      intro v2 w2 hown2 hgrow2 _
      have hb2 := (Below.refl w.heap.size w).grown hgrow2 (Nat.le_refl _) (fun q hq => (O0.out.lt q hq).1)
      obtain ⟨a, c, rfl⟩ := own_slice hown2
      have HS : Hid (w2.ownsRow w.heap.size 5 1 (.slice a (0 + l1) c) (0 + l1) ([] ++ cellsOf z1 l1) ∧ Below w.heap.size w w2) := ⟨by simpa using hown2, hb2⟩
      clear hown2 hgrow2 hb2
      go_wp2
      go_ret
      first | exact ⟨a, c, rfl, HS.out.1, HS.out.2⟩ | exact ⟨a, c, by rw [Nat.zero_add]; rfl, HS.out.1, HS.out.2⟩
  | some a0 =>
    have O0 : Hid (w.ownsRow w.heap.size 5 1 (.slice none 0 0) 0 []) := World.ownsRow_nil _ _ _ _
    go_enter Tryz.func10, Tryz.ntmps10
    go_wp2_with (at_builtin; refine wpList_append_own _ rfl (.tmp 6) (.tmp 7) 22 rfl w.heap.size 5 i0 (.int .u8 0) 1 1 Tryz.underlying22 hi hz0 hz1 hz2 rfl (by decide) _ _ _ rfl O0.out a0 l0 k0 (cellsOf z0 l0) rfl ?d0 ?d1 ?d2 ?d3 ?d4 ?d5 ?_)
    case d0 => simp [cellsOf]
    case d1 => exact came_cells H0.out
    case d2 => exact fun u hu => cellsOf_one z0 l0 u hu
    case d3 => unfold maxLen; omega
    case d4 => omega
    case d5 => exact Nat.le_refl _
    intro v1 w1 hown1 hgrow1 _
    have hb1 := (Below.refl w.heap.size w).grown hgrow1 (Nat.le_refl _) (fun q hq => (O0.out.lt q hq).1)
    have hown1' : w1.ownsRow w.heap.size 5 1 v1 l0 (cellsOf z0 l0) := by simpa using hown1
    obtain ⟨a, c, rfl⟩ := own_slice hown1'
    have HS : Hid (w1.ownsRow w.heap.size 5 1 (.slice a l0 c) l0 (cellsOf z0 l0) ∧ Below w.heap.size w w1) := ⟨hown1', hb1⟩
    clear hown1 hown1' hgrow1 hb1
    cases a1 with
    | none =>
      obtain ⟨rfl, rfl⟩ := HN.out rfl
      go_wp2_with (at_builtin; refine wpList_append_own_none rfl (.tmp 9) (.tmp 10) 22 rfl w.heap.size 5 i0 1 Tryz.underlying22 hi _ l0 (cellsOf z0 l0) rfl HS.out.1 rfl ?_)
      go_ret
      exact ⟨a, c, rfl, by simpa [cellsOf] using HS.out.1, HS.out.2⟩
    | some a1 =>
      go_wp2_with (at_builtin; refine wpList_append_own _ rfl (.tmp 9) (.tmp 10) 22 rfl w.heap.size 5 i0 (.int .u8 0) 1 1 Tryz.underlying22 hi hz0 hz1 hz2 rfl (by decide) _ _ _ rfl HS.out.1 a1 l1 k1 (cellsOf z1 l1) rfl ?e0 ?e1 ?e2 ?e3 ?e4 ?e5 ?_)
      case e0 => simp [cellsOf]
      case e1 => exact came_cells (H1.out _ HS.out.2)
      case e2 => exact fun u hu => cellsOf_one z1 l1 u hu
      case e3 => unfold maxLen; omega
      case e4 => omega
      case e5 => exact HS.out.2.size
      intro v2 w2 hown2 hgrow2 _
      have hb2 := HS.out.2.grown hgrow2 HS.out.2.size (fun q hq => (HS.out.1.lt q hq).1)
      obtain ⟨a2, c2, rfl⟩ := own_slice hown2
      have HS2 : Hid (w2.ownsRow w.heap.size 5 1 (.slice a2 (l0 + l1) c2) (l0 + l1) (cellsOf z0 l0 ++ cellsOf z1 l1) ∧ Below w.heap.size w w2) := ⟨hown2, hb2⟩
      clear hown2 hgrow2 hb2
      go_wp2
      go_ret
      exact ⟨a2, c2, rfl, HS2.out.1, HS2.out.2⟩

theorem cellsOf_congr (z z' : Nat → Int) (n : Nat) (h : ∀ i, i < n → z i = z' i) : cellsOf z n = cellsOf z' n := by
  unfold cellsOf
  apply List.map_congr_left
  intro i hi
  rw [h i (List.mem_range.1 hi)]
/-- Bytes, and others behind them. -/
def cat (z : Nat → Int) (n : Nat) (z' : Nat → Int) : Nat → Int := fun i => if i < n then z i else z' (i - n)
theorem cat_bd {z z' : Nat → Int} {n : Nat} (h : ∀ i, 0 ≤ z i ∧ z i ≤ 255) (h' : ∀ i, 0 ≤ z' i ∧ z' i ≤ 255) (i : Nat) : 0 ≤ cat z n z' i ∧ cat z n z' i ≤ 255 := by
  unfold cat
  split
  · exact h i
  · exact h' _
theorem cells_cat (z z' : Nat → Int) (n : Nat) : ∀ m, cellsOf z n ++ cellsOf z' m = cellsOf (cat z n z') (n + m)
  | 0 => by
    rw [Nat.add_zero, cellsOf_zero, List.append_nil]
    exact cellsOf_congr _ _ _ fun i hi => by simp [cat, hi]
  | m + 1 => by
    rw [cellsOf_succ, ← List.append_assoc, cells_cat z z' n m, ← Nat.add_assoc, cellsOf_succ]
    have e : cat z n z' (n + m) = z' m := by unfold cat; rw [if_neg (by omega), Nat.add_sub_cancel_left]
    rw [e]

/-- What Length tells, in three ways. -/
theorem len_ways (len : Nat) (z : Nat → Int) (hz : ∀ i, 0 ≤ z i ∧ z i ≤ 255) :
    (lenZ len z = (0, 0, 10) ∧ len < 4 ∧ ∃ m, lenZ (len + 1) (cat z len (lZ [0])) = (m, (len : Int) + 1, 0) ∧ 0 ≤ m) ∨ (lenZ len z = (0, 0, 12) ∧ 4 ≤ len) ∨
    (∃ n k, lenZ len z = (n, k, 0) ∧ 1 ≤ k ∧ k ≤ 4 ∧ k ≤ len ∧ 0 ≤ n ∧ n ≤ 268435455 ∧ (kn n : Int) ≤ k) := by
  have b0 := hz 0
  have b1 := hz 1
  have b2 := hz 2
  have b3 := hz 3
  by_cases a0 : len = 0
  · subst a0
    left
    refine ⟨lenX_short0  rfl, by decide, 0 % 128, ?_, by omega⟩
    exact lenX_done0  (by decide) (show (0 : Int) < 128 by decide)
  by_cases c0 : z 0 < 128
  · right; right
    refine ⟨z 0 % 128, 1, lenX_done0  a0 c0, by decide, by decide, by omega, by omega, by omega, ?_⟩
    unfold kn
    split
    · omega
    · split
      · omega
      · split <;> omega
  by_cases a1 : len = 1
  · subst a1
    left
    refine ⟨lenX_short1 a0 c0 rfl, by decide, z 0 % 128 + 0 % 128 * 128, ?_, by omega⟩
    exact lenX_done1 (by decide) c0 (by decide) (show (0 : Int) < 128 by decide)
  by_cases c1 : z 1 < 128
  · right; right
    refine ⟨z 0 % 128 + z 1 % 128 * 128, 2, lenX_done1 a0 c0 a1 c1, by decide, by decide, by omega, by omega, by omega, ?_⟩
    unfold kn
    split
    · omega
    · split
      · omega
      · split <;> omega
  by_cases a2 : len = 2
  · subst a2
    left
    refine ⟨lenX_short2 a0 c0 a1 c1 rfl, by decide, z 0 % 128 + z 1 % 128 * 128 + 0 % 128 * 16384, ?_, by omega⟩
    exact lenX_done2 (by decide) c0 (by decide) c1 (by decide) (show (0 : Int) < 128 by decide)
  by_cases c2 : z 2 < 128
  · right; right
    refine ⟨z 0 % 128 + z 1 % 128 * 128 + z 2 % 128 * 16384, 3, lenX_done2 a0 c0 a1 c1 a2 c2, by decide, by decide, by omega, by omega, by omega, ?_⟩
    unfold kn
    split
    · omega
    · split
      · omega
      · split <;> omega
  by_cases a3 : len = 3
  · subst a3
    left
    refine ⟨lenX_short3 a0 c0 a1 c1 a2 c2 rfl, by decide, z 0 % 128 + z 1 % 128 * 128 + z 2 % 128 * 16384 + 0 % 128 * 2097152, ?_, by omega⟩
    exact lenX_done3 (by decide) c0 (by decide) c1 (by decide) c2 (by decide) (show (0 : Int) < 128 by decide)
  by_cases c3 : z 3 < 128
  · right; right
    refine ⟨z 0 % 128 + z 1 % 128 * 128 + z 2 % 128 * 16384 + z 3 % 128 * 2097152, 4, lenX_done3 a0 c0 a1 c1 a2 c2 a3 c3, by decide, by decide, by omega, by omega, by omega, ?_⟩
    unfold kn
    split
    · omega
    · split
      · omega
      · split <;> omega
  right; left
  exact ⟨lenX_form a0 c0 a1 c1 a2 c2 a3 c3, by omega⟩
end Go.Proofs.YtkjeneklkdekoaaGreatDoor
namespace Go.Proofs.YtkjeneklkdekoaaGreatDoor
open Go Go.RowKit
set_option linter.unusedSimpArgs false
set_option linter.unusedVariables false

theorem clo32_idle (rb : Nat) (pc : Addr) (f : Int) (w : World) (hp : w.cell? pc = some (.pointer (some ⟨rb, 0, none⟩))) :
    CallsD Tryz.prog 110 #[.int .i64 f, .pointer (some pc)] .returning w fun e u' w' => e = .returned (.tuple #[]) ∧ u' = .returning ∧ Below w.heap.size w w' :=
  callsD_of_wpS Tryz.func110 rfl fun c₀ cs hu => clo_idle "reader.go:29" Tryz.f110 (fun tmps w => results_none rfl _ _ _) rb pc f w hp c₀ cs hu

theorem clo35_idle (rb : Nat) (pc : Addr) (f : Int) (w : World) (hp : w.cell? pc = some (.pointer (some ⟨rb, 0, none⟩))) :
    CallsD Tryz.prog 112 #[.int .i64 f, .pointer (some pc)] .returning w fun e u' w' => e = .returned (.tuple #[]) ∧ u' = .returning ∧ Below w.heap.size w w' :=
  callsD_of_wpS Tryz.func112 rfl fun c₀ cs hu => clo_idle "reader.go:35" Tryz.f112 (fun tmps w => results_none rfl _ _ _) rb pc f w hp c₀ cs hu

theorem clo36_idle (rb : Nat) (pc : Addr) (f : Int) (w : World) (hp : w.cell? pc = some (.pointer (some ⟨rb, 0, none⟩))) :
    CallsD Tryz.prog 113 #[.int .i64 f, .pointer (some pc)] .returning w fun e u' w' => e = .returned (.tuple #[]) ∧ u' = .returning ∧ Below w.heap.size w w' :=
  callsD_of_wpS Tryz.func113 rfl fun c₀ cs hu => clo_idle "reader.go:41" Tryz.f113 (fun tmps w => results_none rfl _ _ _) rb pc f w hp c₀ cs hu

theorem clo40_idle (rb : Nat) (pc : Addr) (f : Int) (w : World) (hp : w.cell? pc = some (.pointer (some ⟨rb, 0, none⟩))) :
    CallsD Tryz.prog 120 #[.int .i64 f, .pointer (some pc)] .returning w fun e u' w' => e = .returned (.tuple #[]) ∧ u' = .returning ∧ Below w.heap.size w w' :=
  callsD_of_wpS Tryz.func120 rfl fun c₀ cs hu => clo_idle "reader.go:67" Tryz.f120 (fun tmps w => results_none rfl _ _ _) rb pc f w hp c₀ cs hu

set_option maxRecDepth 100000 in
set_option maxHeartbeats 1000000 in
theorem num4_ok (rb g n cp at0 : Nat) (p0 x0 x1 x2 x3 : Int) (w : World) (hR : RdAt w rb (.slice (some ⟨g, 0, none⟩) n cp) at0 p0 0) (h2 : n ≤ cp) (h3 : n ≤ 1000000) (hk : at0 + 4 ≤ n) (hgr : g ≠ rb)
    (z0 : 0 ≤ x0 ∧ x0 ≤ 255) (z1 : 0 ≤ x1 ∧ x1 ≤ 255) (z2 : 0 ≤ x2 ∧ x2 ≤ 255) (z3 : 0 ≤ x3 ∧ x3 ≤ 255) (c0 : w.cell? ⟨g, at0, none⟩ = some (.int .u8 x0)) (c1 : w.cell? ⟨g, at0 + 1, none⟩ = some (.int .u8 x1)) (c2 : w.cell? ⟨g, at0 + 2, none⟩ = some (.int .u8 x2)) (c3 : w.cell? ⟨g, at0 + 3, none⟩ = some (.int .u8 x3)) :
    Calls Tryz.prog 111 #[.pointer (some ⟨rb, 0, none⟩), .int .i64 4] w fun e w' => e = .returned (.int .i64 (((x0 * 256 + x1) * 256 + x2) * 256 + x3)) ∧ RdAt w' rb (.slice (some ⟨g, 0, none⟩) n cp) ((at0 + 4 : Nat) : Int) p0 0 ∧ w.grownBy w' (some rb) := by
  have HT : Hid (Calls Tryz.prog 108 #[.pointer (some ⟨rb, 0, none⟩), .int .i64 4] w fun e w' => (∃ ad, e = .returned (.slice (some ad) 4 (cp - at0)) ∧ (at0 < cp → ad = ⟨g, at0, none⟩)) ∧ RdAt w' rb (.slice (some ⟨g, 0, none⟩) n cp) ((at0 + 4 : Nat) : Int) p0 0 ∧ w.grownBy w' (some rb)) := take_ok rb g n cp at0 4 p0 w hR h2 h3 hk
  have HC : Hid (∀ w', w.grownBy w' (some rb) → w'.cell? ⟨g, at0, none⟩ = some (.int .u8 x0) ∧ w'.cell? ⟨g, at0 + 1, none⟩ = some (.int .u8 x1) ∧ w'.cell? ⟨g, at0 + 2, none⟩ = some (.int .u8 x2) ∧ w'.cell? ⟨g, at0 + 3, none⟩ = some (.int .u8 x3)) := fun w' h => ⟨h.cell c0 (by simpa using hgr), h.cell c1 (by simpa using hgr), h.cell c2 (by simpa using hgr), h.cell c3 (by simpa using hgr)⟩
  clear hR c0 c1 c2 c3
  have hat : at0 < cp := by omega
  have o0 : bits .or .i64 0 x0 = x0 := by have h := or_up 0 (by decide) 0 x0 (by omega) (by omega) (by omega) (by omega) (by omega) (by omega); omega
  have o1 : bits .or .i64 (x0 * 256) x1 = x0 * 256 + x1 := bits_join .i64 62 (by decide) wraps_i64 8 _ _ (by omega) (by omega) (by omega) (by omega) (by omega) (by omega)
  have o2 : bits .or .i64 ((x0 * 256 + x1) * 256) x2 = (x0 * 256 + x1) * 256 + x2 := bits_join .i64 62 (by decide) wraps_i64 8 _ _ (by omega) (by omega) (by omega) (by omega) (by omega) (by omega)
  have o3 : bits .or .i64 (((x0 * 256 + x1) * 256 + x2) * 256) x3 = ((x0 * 256 + x1) * 256 + x2) * 256 + x3 := bits_join .i64 62 (by decide) wraps_i64 8 _ _ (by omega) (by omega) (by omega) (by omega) (by omega) (by omega)
  go_enter Tryz.func111, Tryz.ntmps111
  go_wp2_with (go_at_call 108; refine HT.out.mono ?_; rintro e w1 ⟨⟨ad, rfl, had⟩, hR1, hg1⟩; obtain rfl := had hat; clear had; obtain ⟨d0, d1, d2, d3⟩ := HC.out _ hg1; have HR1 : Hid (RdAt w1 rb (.slice (some ⟨g, 0, none⟩) n cp) ((at0 + 4 : Nat) : Int) p0 0 ∧ w.grownBy w1 (some rb)) := ⟨hR1, hg1⟩; clear hR1 hg1)
  go_loop [5, 7, 12] (fun v _ i => (i = .int .i64 0 ∧ v = .int .i64 0) ∨ (i = .int .i64 1 ∧ v = .int .i64 x0) ∨ (i = .int .i64 2 ∧ v = .int .i64 (x0 * 256 + x1)) ∨ (i = .int .i64 3 ∧ v = .int .i64 ((x0 * 256 + x1) * 256 + x2)) ∨ (i = .int .i64 4 ∧ v = .int .i64 (((x0 * 256 + x1) * 256 + x2) * 256 + x3))) (fun _ _ i => 4 - (intOf i).toNat)
  case atStart => exact .inl ⟨rfl, rfl⟩
  case round =>
    rcases hrel with ⟨rfl, rfl⟩ | ⟨rfl, rfl⟩ | ⟨rfl, rfl⟩ | ⟨rfl, rfl⟩ | ⟨rfl, rfl⟩
    · go_wp2
      go_round
      case rel => exact .inr (.inl ⟨rfl, rfl⟩)
      case measure => simp [intOf]
    · go_wp2
      go_round
      case rel => exact .inr (.inr (.inl ⟨rfl, rfl⟩))
      case measure => simp [intOf]
    · go_wp2
      go_round
      case rel => exact .inr (.inr (.inr (.inl ⟨rfl, rfl⟩)))
      case measure => simp [intOf]
    · go_wp2
      go_round
      case rel => exact .inr (.inr (.inr (.inr ⟨rfl, rfl⟩)))
      case measure => simp [intOf]
    · go_wp2
      go_ret
      exact ⟨rfl, HR1.out.1, HR1.out.2⟩

set_option maxRecDepth 100000 in
set_option maxHeartbeats 1000000 in
theorem number_ok (rb g n cp : Nat) (z : Nat → Int) (w : World) (hR : RdAt w rb (.slice (some ⟨g, 0, none⟩) n cp) 0 0 0) (hO : Own w g n z) (h2 : n ≤ cp) (h3 : n ≤ 1000000) (hgr : g ≠ rb) (hk : 2 ≤ n) :
    Calls Tryz.prog 67 #[.pointer (some ⟨rb, 0, none⟩)] w fun e w' => e = .returned (.int .i64 (z 0 * 256 + z 1)) ∧ RdAt w' rb (.slice (some ⟨g, 0, none⟩) n cp) 2 0 0 ∧ w.grownBy w' (some rb) := by
  have hlt : rb < w.heap.size := lt_of_block hR
  have W0 : Hid (RdAt (w.alloc (.cells #[.pointer (some ⟨rb, 0, none⟩)] 55)) rb (.slice (some ⟨g, 0, none⟩) n cp) ((0 : Nat) : Int) 0 0) := hR.kept ((Below.refl _ _).alloc (Nat.le_refl _) _)
  have O0 : Hid (Own (w.alloc (.cells #[.pointer (some ⟨rb, 0, none⟩)] 55)) g n z) := hO.below ((Below.refl _ _).alloc (Nat.le_refl _) _)
  obtain ⟨_, c0, c1, c2, c3, f1, f2, f3⟩ := hR.facts
  have N0 : Hid (Calls Tryz.prog 111 #[.pointer (some ⟨rb, 0, none⟩), .int .i64 2] (w.alloc (.cells #[.pointer (some ⟨rb, 0, none⟩)] 55)) fun e w' => e = .returned (.int .i64 (z 0 * 256 + z 1)) ∧ RdAt w' rb (.slice (some ⟨g, 0, none⟩) n cp) 2 0 0 ∧ (w.alloc (.cells #[.pointer (some ⟨rb, 0, none⟩)] 55)).grownBy w' (some rb)) :=
    num2_ok rb g n cp 0 0 (z 0) (z 1) _ W0.out h2 h3 (by omega) hgr (O0.out.1 _) (O0.out.1 _) (O0.out.2 0 (by omega)) (O0.out.2 1 (by omega))
  have hmf := hmf
  clear hR hO
  go_enter_defers Tryz.func67, Tryz.ntmps67
  go_wp2_with (go_at_call 111; refine N0.out.mono ?_; rintro e w1 ⟨rfl, hR1, hg1⟩)
  refine leaves_cons (f := 110) (args := #[.int .i64 0, .pointer (some ⟨w.heap.size, 0, none⟩)]) (by simp) (by simp [go_sem]) ?_
  refine (clo32_idle rb _ 0 _ (box_cell hlt hg1)).mono ?_
  rintro e u' w4 ⟨rfl, rfl, hb4⟩
  simp [Leaves, settle, results, Tryz.results67, go_sem]
  exact ⟨hR1.kept hb4, gb_trans (gb_trans (gb_alloc (gb_refl _ _) _) hg1) (gb_below hb4)⟩

set_option maxRecDepth 100000 in
set_option maxHeartbeats 1000000 in
theorem long_ok (rb g n cp : Nat) (z : Nat → Int) (w : World) (hR : RdAt w rb (.slice (some ⟨g, 0, none⟩) n cp) 0 0 0) (hO : Own w g n z) (h2 : n ≤ cp) (h3 : n ≤ 1000000) (hgr : g ≠ rb) (hk : 4 ≤ n) :
    Calls Tryz.prog 69 #[.pointer (some ⟨rb, 0, none⟩)] w fun e w' => e = .returned (.int .i64 (((z 0 * 256 + z 1) * 256 + z 2) * 256 + z 3)) ∧ RdAt w' rb (.slice (some ⟨g, 0, none⟩) n cp) 4 0 0 ∧ w.grownBy w' (some rb) := by
  have hlt : rb < w.heap.size := lt_of_block hR
  have W0 : Hid (RdAt (w.alloc (.cells #[.pointer (some ⟨rb, 0, none⟩)] 55)) rb (.slice (some ⟨g, 0, none⟩) n cp) ((0 : Nat) : Int) 0 0) := hR.kept ((Below.refl _ _).alloc (Nat.le_refl _) _)
  have O0 : Hid (Own (w.alloc (.cells #[.pointer (some ⟨rb, 0, none⟩)] 55)) g n z) := hO.below ((Below.refl _ _).alloc (Nat.le_refl _) _)
  obtain ⟨_, c0, c1, c2, c3, f1, f2, f3⟩ := hR.facts
  have N0 : Hid (Calls Tryz.prog 111 #[.pointer (some ⟨rb, 0, none⟩), .int .i64 4] (w.alloc (.cells #[.pointer (some ⟨rb, 0, none⟩)] 55)) fun e w' => e = .returned (.int .i64 (((z 0 * 256 + z 1) * 256 + z 2) * 256 + z 3)) ∧ RdAt w' rb (.slice (some ⟨g, 0, none⟩) n cp) 4 0 0 ∧ (w.alloc (.cells #[.pointer (some ⟨rb, 0, none⟩)] 55)).grownBy w' (some rb)) :=
    num4_ok rb g n cp 0 0 (z 0) (z 1) (z 2) (z 3) _ W0.out h2 h3 (by omega) hgr (O0.out.1 _) (O0.out.1 _) (O0.out.1 _) (O0.out.1 _) (O0.out.2 0 (by omega)) (O0.out.2 1 (by omega)) (O0.out.2 2 (by omega)) (O0.out.2 3 (by omega))
  have hmf := hmf
  clear hR hO
  go_enter_defers Tryz.func69, Tryz.ntmps69
  go_wp2_with (go_at_call 111; refine N0.out.mono ?_; rintro e w1 ⟨rfl, hR1, hg1⟩)
  refine leaves_cons (f := 112) (args := #[.int .i64 0, .pointer (some ⟨w.heap.size, 0, none⟩)]) (by simp) (by simp [go_sem]) ?_
  refine (clo35_idle rb _ 0 _ (box_cell hlt hg1)).mono ?_
  rintro e u' w4 ⟨rfl, rfl, hb4⟩
  simp [Leaves, settle, results, Tryz.results69, go_sem]
  exact ⟨hR1.kept hb4, gb_trans (gb_trans (gb_alloc (gb_refl _ _) _) hg1) (gb_below hb4)⟩
end Go.Proofs.YtkjeneklkdekoaaGreatDoor
namespace Go.Proofs.YtkjeneklkdekoaaGreatDoor
open Go Go.RowKit
set_option linter.unusedSimpArgs false
set_option linter.unusedVariables false

/-- A long number's bytes. -/
def lngZ (n : Int) : Nat → Int := fun i => if i = 0 then n / 16777216 % 256 else if i = 1 then n / 65536 % 256 else if i = 2 then n / 256 % 256 else if i = 3 then n % 256 else 0
theorem lngZ_bd (n : Int) (i : Nat) : 0 ≤ lngZ n i ∧ lngZ n i ≤ 255 := by
  unfold lngZ
  split
  · omega
  · split
    · omega
    · split
      · omega
      · split <;> omega

set_option maxRecDepth 100000 in
set_option maxHeartbeats 1000000 in
theorem putLong_any (a0 : Option Addr) (l0 k0 : Nat) (z0 : Nat → Int) (n : Int) (w : World) (h0 : Came w a0 l0 k0 z0) (hl0 : l0 ≤ 400000) :
    Calls Tryz.prog 18 #[.slice a0 l0 k0, .int .i64 n] w fun e w' => Made w w' e (l0 + 4) (cellsOf z0 l0 ++ cellsOf (lngZ n) 4) := by
  have B0 : Hid (Calls Tryz.prog 82 #[.slice a0 l0 k0, .slice (some ⟨w.heap.size, 0, none⟩) 4 4] (w.alloc (.cells #[.int .u8 (n / 16777216 % 256), .int .u8 (n / 65536 % 256), .int .u8 (n / 256 % 256), .int .u8 (n % 256)] 5)) fun e w' => Made w w' e (l0 + 4) (cellsOf z0 l0 ++ cellsOf (lngZ n) 4)) :=
    (behind_any a0 ⟨w.heap.size, 0, none⟩ l0 k0 4 4 z0 (lngZ n) _ (came_below (B := 0) h0 ((Below.refl _ _).alloc (Nat.le_refl _) _)) (new_came w 4 (lngZ n) _ rfl (lngZ_bd n)) (by omega) hl0 (by omega)).mono fun e w' h => made_alloc h
  clear h0
  go_enter Tryz.func18, Tryz.ntmps18
  go_wp2_with (go_at_call 82; refine B0.out.mono ?_; rintro e w' ⟨g, cp, rfl, ho, hb⟩)
  go_ret
  exact ⟨g, cp, rfl, ho, hb⟩

set_option maxRecDepth 100000 in
set_option maxHeartbeats 1000000 in
theorem putText_bad (s : ByteArray) (c q : Nat) (hcq : chk s = (c, q)) (hq : q ≠ 0) (w : World) :
    Calls Tryz.prog 20 #[.slice none 0 0, .string s] w fun e w' => e = .returned (.tuple #[.slice none 0 0, .int .i64 q]) ∧ Below w.heap.size w w' := by
  have K0 : Hid (Calls Tryz.prog 83 #[.string s] w fun e w' => e = .returned (.tuple #[.int .i64 c, .int .i64 q]) ∧ Below w.heap.size w w') := by
    refine (chk_any s w).mono ?_
    rw [hcq]
    rintro e w' ⟨rfl, hb, _⟩
    exact ⟨rfl, hb⟩
  have j1 : ((q : Int) != 0) = true := by simp; omega
  clear hcq hq
  go_enter Tryz.func20, Tryz.ntmps20
  go_wp2_with (go_at_call 83; refine K0.out.mono ?_; rintro e w1 ⟨rfl, hb1⟩)
  go_ret2
  exact ⟨rfl, hb1⟩

set_option maxRecDepth 100000 in
set_option maxHeartbeats 1000000 in
theorem putData_long (a : Option Addr) (l k : Nat) (hl : 65535 < l) (w : World) :
    Calls Tryz.prog 21 #[.slice none 0 0, .slice a l k] w fun e w' => e = .returned (.tuple #[.slice none 0 0, .int .i64 11]) ∧ w' = w := by
  have h1 : (65535 : Int) < l := by omega
  go_enter Tryz.func21, Tryz.ntmps21
  go_wp2
  go_ret2
  exact ⟨rfl, rfl⟩
end Go.Proofs.YtkjeneklkdekoaaGreatDoor
