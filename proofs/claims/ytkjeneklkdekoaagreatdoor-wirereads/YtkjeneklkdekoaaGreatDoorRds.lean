import Derived.Test.YtkjeneklkdekoaaGreatDoorBye
import Derived.Deep.RegionHeldLaw
namespace Go.Proofs.YtkjeneklkdekoaaGreatDoor
open Go Go.RowKit
set_option linter.unusedSimpArgs false
set_option linter.unusedVariables false

/-! ### WireReads, walked over contracts -/
/-- The row of the two pairs. -/
def PC (W : World) (r1 m1 r2 m2 s : Nat) : Prop := W.cell? ⟨s, 0, none⟩ = some (.pointer (some ⟨r1, 0, none⟩)) ∧ W.cell? ⟨s, 1, none⟩ = some (.pointer (some ⟨m1, 0, none⟩)) ∧ W.cell? ⟨s, 2, none⟩ = some (.pointer (some ⟨r2, 0, none⟩)) ∧ W.cell? ⟨s, 3, none⟩ = some (.pointer (some ⟨m2, 0, none⟩))
set_option maxRecDepth 100000 in
set_option maxHeartbeats 4000000 in
theorem wreads_walk {w : World} {aa ab sa : Option Addr} {l0 ka l1 kb ns cs : Nat} (ops : List (Int × Bool)) (hn : ns = ops.length) (hc : ns ≤ cs) (hl0 : ¬ 140000 < l0) (hl1 : ¬ 140000 < l1) (hns : ¬ 300 < ns) (Po : Ending → World → Prop)
    {K1 : Nat → World → Prop} {K2 : Nat → Nat → World → Prop} {K3 : Nat → Nat → Nat → World → Prop} {K4 : Nat → Nat → Nat → Nat → World → Prop} {K5 : Nat → Nat → Nat → Nat → Nat → World → Prop} {K6 : Nat → Nat → Nat → Nat → Nat → Nat → World → Prop} (S0 : Nat → Nat → Nat → Nat → Nat → Nat → Nat → World → Prop) (L1 L2 St : Nat → Nat → Nat → Nat → Nat → Nat → Nat → Nat → World → Prop) {F1 F2 F3 : World → Prop}
    (h1 : Calls Tryz.prog 6 #[.pointer (some ⟨w.heap.size, 0, none⟩), .slice aa l0 ka] ((w.alloc (.cells rm0 40)).alloc (.cells bk0 47)) fun r w' => ∃ g1, r = .returned (.slice (some ⟨g1, 0, none⟩) l0 (l0 + 600)) ∧ K1 g1 w')
    (h2 : ∀ g1 W, K1 g1 W → Calls Tryz.prog 6 #[.pointer (some ⟨w.heap.size, 0, none⟩), .slice ab l1 kb] W fun r w' => ∃ g2, r = .returned (.slice (some ⟨g2, 0, none⟩) l1 (l1 + 600)) ∧ K2 g1 g2 w')
    (h3 : ∀ g1 g2 W, K2 g1 g2 W → Calls Tryz.prog 12 #[.slice (some ⟨g1, 0, none⟩) l0 (l0 + 600)] W fun r w' => ∃ r1, r = .returned (.pointer (some ⟨r1, 0, none⟩)) ∧ K3 g1 g2 r1 w')
    (h4 : ∀ g1 g2 r1 W, K3 g1 g2 r1 W → Calls Tryz.prog 13 #[.slice aa l0 ka] W fun r w' => ∃ m1, r = .returned (.pointer (some ⟨m1, 0, none⟩)) ∧ K4 g1 g2 r1 m1 w')
    (h5 : ∀ g1 g2 r1 m1 W, K4 g1 g2 r1 m1 W → Calls Tryz.prog 12 #[.slice (some ⟨g2, 0, none⟩) l1 (l1 + 600)] W fun r w' => ∃ r2, r = .returned (.pointer (some ⟨r2, 0, none⟩)) ∧ K5 g1 g2 r1 m1 r2 w')
    (h6 : ∀ g1 g2 r1 m1 r2 W, K5 g1 g2 r1 m1 r2 W → Calls Tryz.prog 13 #[.slice ab l1 kb] W fun r w' => ∃ m2, r = .returned (.pointer (some ⟨m2, 0, none⟩)) ∧ K6 g1 g2 r1 m1 r2 m2 w')
    (h7 : ∀ g1 g2 r1 m1 r2 m2 W, K6 g1 g2 r1 m1 r2 m2 W → S0 g1 g2 r1 m1 r2 m2 W.heap.size (W.alloc (.cells #[.pointer (some ⟨r1, 0, none⟩), .pointer (some ⟨m1, 0, none⟩), .pointer (some ⟨r2, 0, none⟩), .pointer (some ⟨m2, 0, none⟩)] 60)))
    (h8 : ∀ g1 g2 r1 m1 r2 m2 s W, S0 g1 g2 r1 m1 r2 m2 s W → PC W r1 m1 r2 m2 s)
    (h9 : ∀ g1 g2 r1 m1 r2 m2 s W, S0 g1 g2 r1 m1 r2 m2 s W → Calls Tryz.prog 8 #[.slice (some ⟨g1, 0, none⟩) l0 (l0 + 600), .slice aa l0 ka] W fun r w' => r = .returned (.bool true) ∧ w' = W)
    (h10 : ∀ g1 g2 r1 m1 r2 m2 s W, S0 g1 g2 r1 m1 r2 m2 s W → Calls Tryz.prog 8 #[.slice (some ⟨g2, 0, none⟩) l1 (l1 + 600), .slice ab l1 kb] W fun r w' => r = .returned (.bool true) ∧ w' = W)
    (h11 : ∀ g1 g2 r1 m1 r2 m2 s W, S0 g1 g2 r1 m1 r2 m2 s W → Calls Tryz.prog 9 #[.pointer (some ⟨w.heap.size, 0, none⟩)] W fun r w' => r = .returned (.bool true) ∧ w' = W)
    (h12 : ∀ g1 g2 r1 m1 r2 m2 s W, S0 g1 g2 r1 m1 r2 m2 s W → L1 g1 g2 r1 m1 r2 m2 s 0 W)
    (h13 : ∀ g1 g2 r1 m1 r2 m2 s i W, i < l0 → L1 g1 g2 r1 m1 r2 m2 s i W → ∃ v, W.cell? ⟨g1, i, none⟩ = some (.int .u8 v) ∧ W.frozen? ⟨g1, i, none⟩ = false ∧ ∀ u, L1 g1 g2 r1 m1 r2 m2 s (i + 1) (W.setCell ⟨g1, i, none⟩ (.int .u8 u)))
    (h14 : ∀ g1 g2 r1 m1 r2 m2 s W, L1 g1 g2 r1 m1 r2 m2 s l0 W → L2 g1 g2 r1 m1 r2 m2 s 0 W)
    (h15 : ∀ g1 g2 r1 m1 r2 m2 s i W, i < l1 → L2 g1 g2 r1 m1 r2 m2 s i W → ∃ v, W.cell? ⟨g2, i, none⟩ = some (.int .u8 v) ∧ W.frozen? ⟨g2, i, none⟩ = false ∧ ∀ u, L2 g1 g2 r1 m1 r2 m2 s (i + 1) (W.setCell ⟨g2, i, none⟩ (.int .u8 u)))
    (h16 : ∀ g1 g2 r1 m1 r2 m2 s W, L2 g1 g2 r1 m1 r2 m2 s l1 W → St g1 g2 r1 m1 r2 m2 s 0 W)
    (h17 : ∀ g1 g2 r1 m1 r2 m2 s i W, St g1 g2 r1 m1 r2 m2 s i W → PC W r1 m1 r2 m2 s)
    (h18 : ∀ g1 g2 r1 m1 r2 m2 s i W, St g1 g2 r1 m1 r2 m2 s i W → Calls Tryz.prog 14 #[.agg #[.pointer (some ⟨r1, 0, none⟩), .pointer (some ⟨m1, 0, none⟩)]] W fun r w' => r = .returned (.bool true) ∧ St g1 g2 r1 m1 r2 m2 s i w')
    (h19 : ∀ g1 g2 r1 m1 r2 m2 s i W, St g1 g2 r1 m1 r2 m2 s i W → Calls Tryz.prog 14 #[.agg #[.pointer (some ⟨r2, 0, none⟩), .pointer (some ⟨m2, 0, none⟩)]] W fun r w' => r = .returned (.bool true) ∧ St g1 g2 r1 m1 r2 m2 s i w')
    (h20 : ∀ g1 g2 r1 m1 r2 m2 s i j W kind sec, St g1 g2 r1 m1 r2 m2 s i W → ops[j]? = some (kind, sec) → ∃ g o, sa = some ⟨g, o, none⟩ ∧ W.cell? ⟨g, o + j * 2, none⟩ = some (.int .i64 kind) ∧ W.cell? ⟨g, o + j * 2 + 1, none⟩ = some (.bool sec))
    (h21 : ∀ g1 g2 r1 m1 r2 m2 s i W kind, St g1 g2 r1 m1 r2 m2 s i W → ops[i]? = some (kind, false) → Calls Tryz.prog 15 #[.agg #[.pointer (some ⟨r1, 0, none⟩), .pointer (some ⟨m1, 0, none⟩)], .pointer (some ⟨w.heap.size + 1, 0, none⟩), .int .i64 kind, .int .i64 (200 * (i : Int))] W.drew fun r w' => r = .returned (.bool true) ∧ St g1 g2 r1 m1 r2 m2 s (i + 1) w')
    (h22 : ∀ g1 g2 r1 m1 r2 m2 s i W kind, St g1 g2 r1 m1 r2 m2 s i W → ops[i]? = some (kind, true) → Calls Tryz.prog 15 #[.agg #[.pointer (some ⟨r2, 0, none⟩), .pointer (some ⟨m2, 0, none⟩)], .pointer (some ⟨w.heap.size + 1, 0, none⟩), .int .i64 kind, .int .i64 (200 * (i : Int))] W.drew fun r w' => r = .returned (.bool true) ∧ St g1 g2 r1 m1 r2 m2 s (i + 1) w')
    (h23 : ∀ g1 g2 r1 m1 r2 m2 s W, St g1 g2 r1 m1 r2 m2 s ns W → Calls Tryz.prog 11 #[.pointer (some ⟨w.heap.size + 1, 0, none⟩)] W fun r w' => r = .returned (.bool true) ∧ F1 w')
    (h24 : ∀ W, F1 W → Calls Tryz.prog 9 #[.pointer (some ⟨w.heap.size, 0, none⟩)] W fun r w' => r = .returned (.bool true) ∧ Po (.returned (.bool true)) w') :
    Calls Tryz.prog 4 #[.slice aa l0 ka, .slice ab l1 kb, .slice sa ns cs] w Po := by
  have H1 := hidi h1
  have H2 := hidi h2
  have H3 := hidi h3
  have H4 := hidi h4
  have H5 := hidi h5
  have H6 := hidi h6
  have H7 := hidi h7
  have H8 := hidi h8
  have H9 := hidi h9
  have H10 := hidi h10
  have H11 := hidi h11
  have H12 := hidi h12
  have H13 := hidi h13
  have H14 := hidi h14
  have H15 := hidi h15
  have H16 := hidi h16
  have H17 := hidi h17
  have H18 := hidi h18
  have H19 := hidi h19
  have H20 := hidi h20
  have H21 := hidi h21
  have H22 := hidi h22
  have H23 := hidi h23
  have H24 := hidi h24
  clear h1 h2 h3 h4 h5 h6 h7 h8 h9 h10 h11 h12 h13 h14 h15 h16 h17 h18 h19 h20 h21 h22 h23 h24
  have e0 : ¬ (140000 : Int) < (l0 : Int) := by omega
  have e1 : ¬ (140000 : Int) < (l1 : Int) := by omega
  have e2 : ¬ (300 : Int) < (ns : Int) := by omega
  have HLL : Hid (¬ 140000 < l0 ∧ ¬ 140000 < l1 ∧ ¬ 300 < ns ∧ ns = ops.length ∧ ns ≤ cs) := ⟨hl0, hl1, hns, hn, hc⟩
  clear hl0 hl1 hns hn
  unfold rm0 at *
  go_enter Tryz.func4, Tryz.ntmps4
  go_wp2_with fail
  refine wp_build0 rfl ?_
  go_at_K
  go_wp2_with fail
  go_must (go_at_call 6)
  refine (H1.out).mono ?_
  rintro r w1 ⟨g1, rfl, hk⟩
  have J1 := hidi (H2.out _ _ hk)
  clear hk
  go_wp2_with fail
  go_must (go_at_call 6)
  refine (J1.out).mono ?_
  rintro r w2 ⟨g2, rfl, hk⟩
  have J2 := hidi (H3.out _ _ _ hk)
  clear hk J1
  go_wp2_with fail
  go_must (go_at_call 12)
  refine (J2.out).mono ?_
  rintro r w3 ⟨r1, rfl, hk⟩
  have J3 := hidi (H4.out _ _ _ _ hk)
  clear hk J2
  go_wp2_with fail
  go_must (go_at_call 13)
  refine (J3.out).mono ?_
  rintro r w4 ⟨m1, rfl, hk⟩
  have J4 := hidi (H5.out _ _ _ _ _ hk)
  clear hk J3
  go_wp2_with fail
  go_must (go_at_call 12)
  refine (J4.out).mono ?_
  rintro r w5 ⟨r2, rfl, hk⟩
  have J5 := hidi (H6.out _ _ _ _ _ _ hk)
  clear hk J4
  go_wp2_with fail
  go_must (go_at_call 13)
  refine (J5.out).mono ?_
  rintro r w6 ⟨m2, rfl, hk⟩
  have J6 := hidi (H7.out _ _ _ _ _ _ _ hk)
  clear hk J5
  obtain ⟨c0, c1, c2, c3⟩ := H8.out _ _ _ _ _ _ _ _ J6.out
  have J7 := hidi (H9.out _ _ _ _ _ _ _ _ J6.out)
  have J8 := hidi (H10.out _ _ _ _ _ _ _ _ J6.out)
  have J9 := hidi (H11.out _ _ _ _ _ _ _ _ J6.out)
  have J10 := hidi (H12.out _ _ _ _ _ _ _ _ J6.out)
  clear J6
  go_wp2_with fail
  go_must (go_at_call 8)
  refine (J7.out).mono ?_
  rintro r wq ⟨rfl, he⟩
  obtain rfl := he.symm
  go_wp2_with fail
  go_must (go_at_call 8)
  refine (J8.out).mono ?_
  rintro r wq ⟨rfl, he⟩
  obtain rfl := he.symm
  go_wp2_with fail
  go_must (go_at_call 9)
  refine (J9.out).mono ?_
  rintro r wq ⟨rfl, he⟩
  obtain rfl := he.symm
  clear J7 J8 J9 c0 c1 c2 c3
  go_wp2_with fail
  go_loopg [12] l0 (fun gk s12 wx => ∃ i : Nat, i + gk = l0 ∧ s12 = .int .i64 i ∧ Hid (L1 g1 g2 r1 m1 r2 m2 w6.heap.size i wx))
  case atStart => exact ⟨0, by omega, rfl, J10.out⟩
  case round =>
    obtain ⟨i, hi, rfl, HH⟩ := hrel
    clear J10
    cases gk with
    | succ gk =>
      have hz : (i : Int) < (l0 : Int) := by omega
      have hz0 : (0 : Int) ≤ (i : Int) := by omega
      have hwi : IntKind.i64.wrap ((i : Int) + 1) = (i : Int) + 1 := by rw [IntKind.wrap_i64]; have := HLL.out; omega
      obtain ⟨v, d1, d2, d3⟩ := H13.out _ _ _ _ _ _ _ _ _ (by omega) HH.out
      have J4 := hidi d3
      clear d3 HH
      go_wp2_with fail
      go_roundg gk
      case measure => omega
      case rel => exact ⟨i + 1, by omega, by simp, J4.out _⟩
    | zero =>
      obtain rfl : i = l0 := by omega
      have hz : ¬ (i : Int) < (i : Int) := by omega
      have J4 := hidi (H14.out _ _ _ _ _ _ _ _ HH.out)
      clear HH
      go_wp2_with fail
      go_loopg [13] l1 (fun gk s13 wx => ∃ j : Nat, j + gk = l1 ∧ s13 = .int .i64 j ∧ Hid (L2 g1 g2 r1 m1 r2 m2 w6.heap.size j wx))
      case atStart => exact ⟨0, by omega, rfl, J4.out⟩
      case round =>
        obtain ⟨j, hj, rfl, HH⟩ := hrel
        clear J4
        cases gk with
        | succ gk =>
          have hz : (j : Int) < (l1 : Int) := by omega
          have hz0 : (0 : Int) ≤ (j : Int) := by omega
          have hwi : IntKind.i64.wrap ((j : Int) + 1) = (j : Int) + 1 := by rw [IntKind.wrap_i64]; have := HLL.out; omega
          obtain ⟨v, d1, d2, d3⟩ := H15.out _ _ _ _ _ _ _ _ _ (by omega) HH.out
          have J5 := hidi d3
          clear d3 HH
          go_wp2_with fail
          go_roundg gk
          case measure => omega
          case rel => exact ⟨j + 1, by omega, by simp, J5.out _⟩
        | zero =>
          obtain rfl : j = l1 := by omega
          have hz : ¬ (j : Int) < (j : Int) := by omega
          have J5 := hidi (H16.out _ _ _ _ _ _ _ _ HH.out)
          obtain ⟨c0, c1, c2, c3⟩ := H17.out _ _ _ _ _ _ _ _ _ J5.out
          have J6 := hidi (H18.out _ _ _ _ _ _ _ _ _ J5.out)
          clear HH J5
          go_wp2_with fail
          go_must (go_at_call 14)
          refine (J6.out).mono ?_
          clear c0 c1 c2 c3
          rintro r w8 ⟨rfl, hk⟩
          obtain ⟨c0, c1, c2, c3⟩ := H17.out _ _ _ _ _ _ _ _ _ hk
          have J7 := hidi (H19.out _ _ _ _ _ _ _ _ _ hk)
          clear hk J6
          go_wp2_with fail
          go_must (go_at_call 14)
          refine (J7.out).mono ?_
          clear c0 c1 c2 c3
          rintro r w9 ⟨rfl, hk⟩
          have J8 := hidi hk
          clear hk J7
          go_wp2_with fail
          go_loopg [14, 15] ns (fun gk s14 s15 wx => ∃ t : Nat, t + gk = ns ∧ s14 = .int .i64 t ∧ Hid (St g1 g2 r1 m1 r2 m2 w6.heap.size t wx))
          case atStart => exact ⟨0, by omega, rfl, J8.out⟩
          case round =>
            obtain ⟨t, ht, rfl, HH⟩ := hrel
            clear J8
            cases gk with
            | zero =>
              obtain rfl : t = ns := by omega
              have hz : ¬ (t : Int) < (t : Int) := by omega
              obtain ⟨c0, c1, c2, c3⟩ := H17.out _ _ _ _ _ _ _ _ _ HH.out
              have J9 := hidi (H18.out _ _ _ _ _ _ _ _ _ HH.out)
              clear HH
              go_wp2_with fail
              go_must (go_at_call 14)
              refine (J9.out).mono ?_
              clear c0 c1 c2 c3
              rintro r v1 ⟨rfl, hk⟩
              obtain ⟨c0, c1, c2, c3⟩ := H17.out _ _ _ _ _ _ _ _ _ hk
              have J10 := hidi (H19.out _ _ _ _ _ _ _ _ _ hk)
              clear hk J9
              go_wp2_with fail
              go_must (go_at_call 14)
              refine (J10.out).mono ?_
              clear c0 c1 c2 c3
              rintro r v2 ⟨rfl, hk⟩
              have J11 := hidi (H23.out _ _ _ _ _ _ _ _ hk)
              clear hk J10
              go_wp2_with fail
              go_must (go_at_call 11)
              refine (J11.out).mono ?_
              rintro r v3 ⟨rfl, hk⟩
              have J12 := hidi (H24.out _ hk)
              clear hk J11
              go_wp2_with fail
              go_must (go_at_call 9)
              refine (J12.out).mono ?_
              rintro r v4 ⟨rfl, hk⟩
              have Z := hidi hk
              clear hk J12
              go_wp2_with fail
              all_goals (try go_ret)
              all_goals exact Z.out
            | succ gk =>
              have hz : (t : Int) < (ns : Int) := by omega
              have hz0 : (0 : Int) ≤ (t : Int) := by omega
              have hwi : IntKind.i64.wrap ((t : Int) + 1) = (t : Int) + 1 := by rw [IntKind.wrap_i64]; have := HLL.out; omega
              have hw2 : IntKind.i64.wrap (200 * (t : Int)) = 200 * (t : Int) := by rw [IntKind.wrap_i64]; have := HLL.out; omega
              have hw3 : wrap64 (200 * (t : Int)) = 200 * (t : Int) := by have := HLL.out; unfold wrap64; omega
              obtain ⟨⟨kind, sec⟩, hp⟩ : ∃ p, ops[t]? = some p := ⟨_, List.getElem?_eq_getElem (by have := HLL.out; omega)⟩
              obtain ⟨g, o, rfl, d0, d1⟩ := H20.out _ _ _ _ _ _ _ _ _ _ _ _ HH.out hp
              obtain ⟨c0, c1, c2, c3⟩ := H17.out _ _ _ _ _ _ _ _ _ HH.out
              have HP := hidi hp
              clear hp
              cases sec
              · have J9 := hidi (H21.out _ _ _ _ _ _ _ _ _ _ HH.out HP.out)
                clear HH
                go_wp2_with fail
                refine wp_region_held_drew (S := fun w' => w'.cell? ⟨w6.heap.size, 0, none⟩ = some (.pointer (some ⟨r1, 0, none⟩)) ∧ w'.cell? ⟨w6.heap.size, 1, none⟩ = some (.pointer (some ⟨m1, 0, none⟩)) ∧ w'.cell? ⟨g, o + t * 2, none⟩ = some (.int .i64 kind)) (by kernel_rfl) ⟨c0, c1, d0⟩ (fun hHeld => ?_)
                change wpAnyH _ _ _ _ _ 14 #[false, false, false, false, false, false, false, false, false, false, false, false, false, false] _ (World.drew _)
                refine wpAnyH_take (i := 0) (oi := { dst := some 125, op := Go.Op.move (Go.Operand.tmp 11), type := 61, pos := "exact.go:181", after := #[], guard := none }) (v := .slice (some ⟨w6.heap.size, 0, none⟩) 2 2) rfl (by kernel_rfl) (by kernel_rfl) (by kernel_rfl) (fun _ _ _ h => h) (Or.inl ⟨by kernel_rfl, by intro wq hSw; (try dsimp only at hSw); clear hHeld; go_simp⟩) hHeld ?_
                simp only [Act.put, List.setIfInBounds_toArray, List.set_cons_zero, List.set_cons_succ]
                refine wpAnyH_take (i := 1) (oi := { dst := some 126, op := Go.Op.move (Go.Operand.tmp 15), type := 3, pos := "exact.go:181", after := #[], guard := none }) (v := .int .i64 0) rfl (by kernel_rfl) (by kernel_rfl) (by kernel_rfl) (fun _ _ _ h => h) (Or.inl ⟨by kernel_rfl, by intro wq hSw; (try dsimp only at hSw); clear hHeld; go_simp⟩) hHeld ?_
                simp only [Act.put, List.setIfInBounds_toArray, List.set_cons_zero, List.set_cons_succ]
                refine wpAnyH_take (i := 2) (oi := { dst := some 127, op := Go.Op.indexAddr 61 (Go.Operand.tmp 125) (Go.Operand.tmp 126), type := 0, pos := "exact.go:181", after := #[{ on := 0, ground := Go.Ground.data }, { on := 1, ground := Go.Ground.data }], guard := none }) (v := .pointer (some ⟨w6.heap.size, 0, none⟩)) rfl (by kernel_rfl) (by kernel_rfl) (by kernel_rfl) (fun _ _ _ h => h) (Or.inl ⟨by kernel_rfl, by intro wq hSw; (try dsimp only at hSw); clear hHeld; go_simp⟩) hHeld ?_
                simp only [Act.put, List.setIfInBounds_toArray, List.set_cons_zero, List.set_cons_succ]
                refine wpAnyH_take (i := 3) (oi := { dst := some 128, op := Go.Op.load 60 (Go.Operand.tmp 127), type := 60, pos := "exact.go:181", after := #[{ on := 2, ground := Go.Ground.data }], guard := none }) (v := .agg #[.pointer (some ⟨r1, 0, none⟩), .pointer (some ⟨m1, 0, none⟩)]) rfl (by kernel_rfl) (by kernel_rfl) (by kernel_rfl) (fun _ _ _ h => h) (Or.inl ⟨by kernel_rfl, by intro wq hSw; (try dsimp only at hSw); clear hHeld; go_simp⟩) hHeld ?_
                simp only [Act.put, List.setIfInBounds_toArray, List.set_cons_zero, List.set_cons_succ]
                refine wpAnyH_take (i := 4) (oi := { dst := some 129, op := Go.Op.move (Go.Operand.tmp 8), type := 41, pos := "exact.go:181", after := #[], guard := none }) (v := .pointer (some ⟨w.heap.size + 1, 0, none⟩)) rfl (by kernel_rfl) (by kernel_rfl) (by kernel_rfl) (fun _ _ _ h => h) (Or.inl ⟨by kernel_rfl, by intro wq hSw; (try dsimp only at hSw); clear hHeld; go_simp⟩) hHeld ?_
                simp only [Act.put, List.setIfInBounds_toArray, List.set_cons_zero, List.set_cons_succ]
                refine wpAnyH_take (i := 5) (oi := { dst := some 130, op := Go.Op.move (Go.Operand.tmp 2), type := 54, pos := "exact.go:181", after := #[], guard := none }) (v := .slice (some ⟨g, o, none⟩) ns cs) rfl (by kernel_rfl) (by kernel_rfl) (by kernel_rfl) (fun _ _ _ h => h) (Or.inl ⟨by kernel_rfl, by intro wq hSw; (try dsimp only at hSw); clear hHeld; go_simp⟩) hHeld ?_
                simp only [Act.put, List.setIfInBounds_toArray, List.set_cons_zero, List.set_cons_succ]
                refine wpAnyH_take (i := 6) (oi := { dst := some 131, op := Go.Op.move (Go.Operand.tmp 14), type := 3, pos := "exact.go:181", after := #[], guard := none }) (v := .int .i64 (t : Int)) rfl (by kernel_rfl) (by kernel_rfl) (by kernel_rfl) (fun _ _ _ h => h) (Or.inl ⟨by kernel_rfl, by intro wq hSw; (try dsimp only at hSw); clear hHeld; go_simp⟩) hHeld ?_
                simp only [Act.put, List.setIfInBounds_toArray, List.set_cons_zero, List.set_cons_succ]
                refine wpAnyH_take (i := 7) (oi := { dst := some 132, op := Go.Op.indexAddr 54 (Go.Operand.tmp 130) (Go.Operand.tmp 131), type := 0, pos := "exact.go:181", after := #[{ on := 5, ground := Go.Ground.data }, { on := 6, ground := Go.Ground.data }], guard := none }) (v := .pointer (some ⟨g, o + t * 2, none⟩)) rfl (by kernel_rfl) (by kernel_rfl) (by kernel_rfl) (fun _ _ _ h => h) (Or.inl ⟨by kernel_rfl, by intro wq hSw; (try dsimp only at hSw); clear hHeld; go_simp⟩) hHeld ?_
                simp only [Act.put, List.setIfInBounds_toArray, List.set_cons_zero, List.set_cons_succ]
                refine wpAnyH_take (i := 8) (oi := { dst := some 133, op := Go.Op.fieldAddr 63 (Go.Operand.tmp 132) 0, type := 0, pos := "exact.go:181", after := #[{ on := 7, ground := Go.Ground.data }], guard := none }) (v := .pointer (some ⟨g, o + t * 2, none⟩)) rfl (by kernel_rfl) (by kernel_rfl) (by kernel_rfl) (fun _ _ _ h => h) (Or.inl ⟨by kernel_rfl, by intro wq hSw; (try dsimp only at hSw); clear hHeld; go_simp⟩) hHeld ?_
                simp only [Act.put, List.setIfInBounds_toArray, List.set_cons_zero, List.set_cons_succ]
                refine wpAnyH_take (i := 9) (oi := { dst := some 134, op := Go.Op.load 3 (Go.Operand.tmp 133), type := 3, pos := "exact.go:181", after := #[{ on := 8, ground := Go.Ground.data }], guard := none }) (v := .int .i64 kind) rfl (by kernel_rfl) (by kernel_rfl) (by kernel_rfl) (fun _ _ _ h => h) (Or.inl ⟨by kernel_rfl, by intro wq hSw; (try dsimp only at hSw); clear hHeld; go_simp⟩) hHeld ?_
                simp only [Act.put, List.setIfInBounds_toArray, List.set_cons_zero, List.set_cons_succ]
                refine wpAnyH_take (i := 10) (oi := { dst := some 135, op := Go.Op.move (Go.Operand.tmp 14), type := 3, pos := "exact.go:181", after := #[], guard := none }) (v := .int .i64 (t : Int)) rfl (by kernel_rfl) (by kernel_rfl) (by kernel_rfl) (fun _ _ _ h => h) (Or.inl ⟨by kernel_rfl, by intro wq hSw; (try dsimp only at hSw); clear hHeld; go_simp⟩) hHeld ?_
                simp only [Act.put, List.setIfInBounds_toArray, List.set_cons_zero, List.set_cons_succ]
                refine wpAnyH_take (i := 11) (oi := { dst := some 136, op := Go.Op.binOp Go.BinOp.mul 3 (Go.Operand.const (Go.Value.int Go.IntKind.i64 200)) (Go.Operand.tmp 135) 3, type := 3, pos := "exact.go:181", after := #[{ on := 10, ground := Go.Ground.data }], guard := none }) (v := .int .i64 (200 * (t : Int))) rfl (by kernel_rfl) (by kernel_rfl) (by kernel_rfl) (fun _ _ _ h => h) (Or.inl ⟨by kernel_rfl, by intro wq hSw; (try dsimp only at hSw); clear hHeld; go_simp⟩) hHeld ?_
                simp only [Act.put, List.setIfInBounds_toArray, List.set_cons_zero, List.set_cons_succ]
                refine wpAnyH_ready (rs := [12]) (by kernel_rfl) (by simp) ?_
                refine AllReadyH.cons (o := { dst := some 137, op := Go.Op.call { callee := Go.Callee.value (Go.Operand.func 15), args := #[Go.Operand.tmp 128, Go.Operand.tmp 129, Go.Operand.tmp 134, Go.Operand.tmp 136], argTypes := #[60, 41, 3, 3] }, type := 4, pos := "exact.go:181", after := #[{ on := 3, ground := Go.Ground.data }, { on := 4, ground := Go.Ground.data }, { on := 9, ground := Go.Ground.data }, { on := 11, ground := Go.Ground.data }], guard := none }) (by rfl) (fun K hK => ?_) AllReadyH.nil
                go_simp
                go_wp2_with (go_at_call 15; refine (J9.out).mono ?_; rintro e w10 ⟨rfl, hk⟩)
                have J10 := hidi hk
                obtain ⟨x0, x1, x2, x3⟩ := H17.out _ _ _ _ _ _ _ _ _ hk
                obtain ⟨g3, o3, e3, y0, _⟩ := H20.out _ _ _ _ _ _ _ _ _ _ _ _ hk HP.out
                cases e3
                clear hk HP
                refine hK.out _ _ ⟨x0, x1, y0⟩ (fun hHeld => ?_)
                clear hK K
                (try simp only [Act.put, List.setIfInBounds_toArray, List.set_cons_zero, List.set_cons_succ])
                refine wpAnyH_take (i := 13) (oi := { dst := some 138, op := Go.Op.unOp Go.UnOp.not 4 (Go.Operand.tmp 137), type := 4, pos := "exact.go:181", after := #[{ on := 12, ground := Go.Ground.data }], guard := none }) (v := .bool false) rfl (by kernel_rfl) (by kernel_rfl) (by kernel_rfl) (fun _ _ _ h => h) (Or.inl ⟨by kernel_rfl, by intro wq hSw; (try dsimp only at hSw); clear hHeld; go_simp⟩) hHeld ?_
                simp only [Act.put, List.setIfInBounds_toArray, List.set_cons_zero, List.set_cons_succ]
                refine wpAnyH_done (by kernel_rfl) ?_ _
                clear hHeld
                go_wp2_with fail
                go_roundg gk
                case measure => omega
                case rel => exact ⟨t + 1, by omega, by simp, J10.out⟩
              · have J9 := hidi (H22.out _ _ _ _ _ _ _ _ _ _ HH.out HP.out)
                clear HH
                go_wp2_with fail
                refine wp_region_held_drew (S := fun w' => w'.cell? ⟨w6.heap.size, 2, none⟩ = some (.pointer (some ⟨r2, 0, none⟩)) ∧ w'.cell? ⟨w6.heap.size, 3, none⟩ = some (.pointer (some ⟨m2, 0, none⟩)) ∧ w'.cell? ⟨g, o + t * 2, none⟩ = some (.int .i64 kind)) (by kernel_rfl) ⟨c2, c3, d0⟩ (fun hHeld => ?_)
                change wpAnyH _ _ _ _ _ 14 #[false, false, false, false, false, false, false, false, false, false, false, false, false, false] _ (World.drew _)
                refine wpAnyH_take (i := 0) (oi := { dst := some 125, op := Go.Op.move (Go.Operand.tmp 11), type := 61, pos := "exact.go:181", after := #[], guard := none }) (v := .slice (some ⟨w6.heap.size, 0, none⟩) 2 2) rfl (by kernel_rfl) (by kernel_rfl) (by kernel_rfl) (fun _ _ _ h => h) (Or.inl ⟨by kernel_rfl, by intro wq hSw; (try dsimp only at hSw); clear hHeld; go_simp⟩) hHeld ?_
                simp only [Act.put, List.setIfInBounds_toArray, List.set_cons_zero, List.set_cons_succ]
                refine wpAnyH_take (i := 1) (oi := { dst := some 126, op := Go.Op.move (Go.Operand.tmp 15), type := 3, pos := "exact.go:181", after := #[], guard := none }) (v := .int .i64 1) rfl (by kernel_rfl) (by kernel_rfl) (by kernel_rfl) (fun _ _ _ h => h) (Or.inl ⟨by kernel_rfl, by intro wq hSw; (try dsimp only at hSw); clear hHeld; go_simp⟩) hHeld ?_
                simp only [Act.put, List.setIfInBounds_toArray, List.set_cons_zero, List.set_cons_succ]
                refine wpAnyH_take (i := 2) (oi := { dst := some 127, op := Go.Op.indexAddr 61 (Go.Operand.tmp 125) (Go.Operand.tmp 126), type := 0, pos := "exact.go:181", after := #[{ on := 0, ground := Go.Ground.data }, { on := 1, ground := Go.Ground.data }], guard := none }) (v := .pointer (some ⟨w6.heap.size, 2, none⟩)) rfl (by kernel_rfl) (by kernel_rfl) (by kernel_rfl) (fun _ _ _ h => h) (Or.inl ⟨by kernel_rfl, by intro wq hSw; (try dsimp only at hSw); clear hHeld; go_simp⟩) hHeld ?_
                simp only [Act.put, List.setIfInBounds_toArray, List.set_cons_zero, List.set_cons_succ]
                refine wpAnyH_take (i := 3) (oi := { dst := some 128, op := Go.Op.load 60 (Go.Operand.tmp 127), type := 60, pos := "exact.go:181", after := #[{ on := 2, ground := Go.Ground.data }], guard := none }) (v := .agg #[.pointer (some ⟨r2, 0, none⟩), .pointer (some ⟨m2, 0, none⟩)]) rfl (by kernel_rfl) (by kernel_rfl) (by kernel_rfl) (fun _ _ _ h => h) (Or.inl ⟨by kernel_rfl, by intro wq hSw; (try dsimp only at hSw); clear hHeld; go_simp⟩) hHeld ?_
                simp only [Act.put, List.setIfInBounds_toArray, List.set_cons_zero, List.set_cons_succ]
                refine wpAnyH_take (i := 4) (oi := { dst := some 129, op := Go.Op.move (Go.Operand.tmp 8), type := 41, pos := "exact.go:181", after := #[], guard := none }) (v := .pointer (some ⟨w.heap.size + 1, 0, none⟩)) rfl (by kernel_rfl) (by kernel_rfl) (by kernel_rfl) (fun _ _ _ h => h) (Or.inl ⟨by kernel_rfl, by intro wq hSw; (try dsimp only at hSw); clear hHeld; go_simp⟩) hHeld ?_
                simp only [Act.put, List.setIfInBounds_toArray, List.set_cons_zero, List.set_cons_succ]
                refine wpAnyH_take (i := 5) (oi := { dst := some 130, op := Go.Op.move (Go.Operand.tmp 2), type := 54, pos := "exact.go:181", after := #[], guard := none }) (v := .slice (some ⟨g, o, none⟩) ns cs) rfl (by kernel_rfl) (by kernel_rfl) (by kernel_rfl) (fun _ _ _ h => h) (Or.inl ⟨by kernel_rfl, by intro wq hSw; (try dsimp only at hSw); clear hHeld; go_simp⟩) hHeld ?_
                simp only [Act.put, List.setIfInBounds_toArray, List.set_cons_zero, List.set_cons_succ]
                refine wpAnyH_take (i := 6) (oi := { dst := some 131, op := Go.Op.move (Go.Operand.tmp 14), type := 3, pos := "exact.go:181", after := #[], guard := none }) (v := .int .i64 (t : Int)) rfl (by kernel_rfl) (by kernel_rfl) (by kernel_rfl) (fun _ _ _ h => h) (Or.inl ⟨by kernel_rfl, by intro wq hSw; (try dsimp only at hSw); clear hHeld; go_simp⟩) hHeld ?_
                simp only [Act.put, List.setIfInBounds_toArray, List.set_cons_zero, List.set_cons_succ]
                refine wpAnyH_take (i := 7) (oi := { dst := some 132, op := Go.Op.indexAddr 54 (Go.Operand.tmp 130) (Go.Operand.tmp 131), type := 0, pos := "exact.go:181", after := #[{ on := 5, ground := Go.Ground.data }, { on := 6, ground := Go.Ground.data }], guard := none }) (v := .pointer (some ⟨g, o + t * 2, none⟩)) rfl (by kernel_rfl) (by kernel_rfl) (by kernel_rfl) (fun _ _ _ h => h) (Or.inl ⟨by kernel_rfl, by intro wq hSw; (try dsimp only at hSw); clear hHeld; go_simp⟩) hHeld ?_
                simp only [Act.put, List.setIfInBounds_toArray, List.set_cons_zero, List.set_cons_succ]
                refine wpAnyH_take (i := 8) (oi := { dst := some 133, op := Go.Op.fieldAddr 63 (Go.Operand.tmp 132) 0, type := 0, pos := "exact.go:181", after := #[{ on := 7, ground := Go.Ground.data }], guard := none }) (v := .pointer (some ⟨g, o + t * 2, none⟩)) rfl (by kernel_rfl) (by kernel_rfl) (by kernel_rfl) (fun _ _ _ h => h) (Or.inl ⟨by kernel_rfl, by intro wq hSw; (try dsimp only at hSw); clear hHeld; go_simp⟩) hHeld ?_
                simp only [Act.put, List.setIfInBounds_toArray, List.set_cons_zero, List.set_cons_succ]
                refine wpAnyH_take (i := 9) (oi := { dst := some 134, op := Go.Op.load 3 (Go.Operand.tmp 133), type := 3, pos := "exact.go:181", after := #[{ on := 8, ground := Go.Ground.data }], guard := none }) (v := .int .i64 kind) rfl (by kernel_rfl) (by kernel_rfl) (by kernel_rfl) (fun _ _ _ h => h) (Or.inl ⟨by kernel_rfl, by intro wq hSw; (try dsimp only at hSw); clear hHeld; go_simp⟩) hHeld ?_
                simp only [Act.put, List.setIfInBounds_toArray, List.set_cons_zero, List.set_cons_succ]
                refine wpAnyH_take (i := 10) (oi := { dst := some 135, op := Go.Op.move (Go.Operand.tmp 14), type := 3, pos := "exact.go:181", after := #[], guard := none }) (v := .int .i64 (t : Int)) rfl (by kernel_rfl) (by kernel_rfl) (by kernel_rfl) (fun _ _ _ h => h) (Or.inl ⟨by kernel_rfl, by intro wq hSw; (try dsimp only at hSw); clear hHeld; go_simp⟩) hHeld ?_
                simp only [Act.put, List.setIfInBounds_toArray, List.set_cons_zero, List.set_cons_succ]
                refine wpAnyH_take (i := 11) (oi := { dst := some 136, op := Go.Op.binOp Go.BinOp.mul 3 (Go.Operand.const (Go.Value.int Go.IntKind.i64 200)) (Go.Operand.tmp 135) 3, type := 3, pos := "exact.go:181", after := #[{ on := 10, ground := Go.Ground.data }], guard := none }) (v := .int .i64 (200 * (t : Int))) rfl (by kernel_rfl) (by kernel_rfl) (by kernel_rfl) (fun _ _ _ h => h) (Or.inl ⟨by kernel_rfl, by intro wq hSw; (try dsimp only at hSw); clear hHeld; go_simp⟩) hHeld ?_
                simp only [Act.put, List.setIfInBounds_toArray, List.set_cons_zero, List.set_cons_succ]
                refine wpAnyH_ready (rs := [12]) (by kernel_rfl) (by simp) ?_
                refine AllReadyH.cons (o := { dst := some 137, op := Go.Op.call { callee := Go.Callee.value (Go.Operand.func 15), args := #[Go.Operand.tmp 128, Go.Operand.tmp 129, Go.Operand.tmp 134, Go.Operand.tmp 136], argTypes := #[60, 41, 3, 3] }, type := 4, pos := "exact.go:181", after := #[{ on := 3, ground := Go.Ground.data }, { on := 4, ground := Go.Ground.data }, { on := 9, ground := Go.Ground.data }, { on := 11, ground := Go.Ground.data }], guard := none }) (by rfl) (fun K hK => ?_) AllReadyH.nil
                go_simp
                go_wp2_with (go_at_call 15; refine (J9.out).mono ?_; rintro e w10 ⟨rfl, hk⟩)
                have J10 := hidi hk
                obtain ⟨x0, x1, x2, x3⟩ := H17.out _ _ _ _ _ _ _ _ _ hk
                obtain ⟨g3, o3, e3, y0, _⟩ := H20.out _ _ _ _ _ _ _ _ _ _ _ _ hk HP.out
                cases e3
                clear hk HP
                refine hK.out _ _ ⟨x2, x3, y0⟩ (fun hHeld => ?_)
                clear hK K
                (try simp only [Act.put, List.setIfInBounds_toArray, List.set_cons_zero, List.set_cons_succ])
                refine wpAnyH_take (i := 13) (oi := { dst := some 138, op := Go.Op.unOp Go.UnOp.not 4 (Go.Operand.tmp 137), type := 4, pos := "exact.go:181", after := #[{ on := 12, ground := Go.Ground.data }], guard := none }) (v := .bool false) rfl (by kernel_rfl) (by kernel_rfl) (by kernel_rfl) (fun _ _ _ h => h) (Or.inl ⟨by kernel_rfl, by intro wq hSw; (try dsimp only at hSw); clear hHeld; go_simp⟩) hHeld ?_
                simp only [Act.put, List.setIfInBounds_toArray, List.set_cons_zero, List.set_cons_succ]
                refine wpAnyH_done (by kernel_rfl) ?_ _
                clear hHeld
                go_wp2_with fail
                go_roundg gk
                case measure => omega
                case rel => exact ⟨t + 1, by omega, by simp, J10.out⟩
end Go.Proofs.YtkjeneklkdekoaaGreatDoor
