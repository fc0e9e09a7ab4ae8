import Derived.Test.YtkjeneklkdekoaaGreatDoorByc
import Derived.Deep.LoopGhost
import Derived.Laws.Tables
namespace Go.Proofs.YtkjeneklkdekoaaGreatDoor
open Go Go.RowKit
set_option linter.unusedSimpArgs false
set_option linter.unusedVariables false

/-- A new book's cells. -/
noncomputable def bk0 : Array Value := (Tryz.prog.built 47 []).getD #[]
set_option maxRecDepth 100000 in
theorem bk0_some : (Tryz.prog.built 47 []).isSome = true := by kernel_rfl
theorem wp_build0 {o : Oper} {a : Act} {w : World} {K : Act → World → Prop} {Q : Exit → Act → World → Prop} (ho : o.op = .build 47 #[]) (h : K (a.put o.dst (.agg bk0)) w) : o.wp Tryz.prog a w K Q := by
  have e : (Array.map (fun (x : Nat × Operand) => match x with | (i, x) => (i, a.eval x)) #[]).toList = [] := by simp
  refine wp_build 47 #[] ho ?_ ?_
  · rw [e]
    exact bk0_some
  · rw [e]
    exact h
/-- A new room's cells. -/
def rm0 : Array Value := #[.slice none 0 0, .slice none 0 0, .slice none 0 0, .slice none 0 0, .slice none 0 0, .slice none 0 0, .slice none 0 0, .slice none 0 0, .slice none 0 0, .slice none 0 0, .slice none 0 0, .slice none 0 0, .slice none 0 0, .slice none 0 0, .slice none 0 0, .slice none 0 0, .slice none 0 0, .slice none 0 0, .slice none 0 0, .slice none 0 0, .slice none 0 0, .slice none 0 0, .slice none 0 0, .slice none 0 0, .slice none 0 0, .slice none 0 0, .slice none 0 0, .slice none 0 0]
end Go.Proofs.YtkjeneklkdekoaaGreatDoor
namespace Go.Proofs.YtkjeneklkdekoaaGreatDoor
open Go Go.RowKit
set_option linter.unusedSimpArgs false
set_option linter.unusedVariables false

set_option maxRecDepth 100000 in
set_option maxHeartbeats 4000000 in
theorem wputs_walk {w : World} {ab ad : Option Addr} {l0 kb l1 kd : Nat} {n : Int} {s : ByteArray} {z0 z1 : Nat → Int} (hl0 : ¬ 140000 < l0) (hs : ¬ 140000 < s.size) (hl1 : ¬ 140000 < l1) (Po : Ending → World → Prop)
    {K1 : Nat → World → Prop} {K2 : Nat → Nat → World → Prop} (St : Nat → Nat → Nat → World → Prop) {K3 K4 K5 : Nat → Nat → Nat → World → Prop} (L1 L2 : Nat → Nat → Nat → World → Prop) {K7 : Nat → Nat → Option Addr → Nat → World → Prop} {K8 : Nat → Nat → Option Addr → Nat → Option Addr → Nat → World → Prop} {K9 K10 : World → Prop}
    (h1 : Calls Tryz.prog 6 #[.pointer (some ⟨w.heap.size, 0, none⟩), .slice ab l0 kb] ((w.alloc (.cells rm0 40)).alloc (.cells bk0 47)) fun r w' => ∃ g1, r = .returned (.slice (some ⟨g1, 0, none⟩) l0 (l0 + 600)) ∧ K1 g1 w')
    (h2 : ∀ g1 W, K1 g1 W → Calls Tryz.prog 6 #[.pointer (some ⟨w.heap.size, 0, none⟩), .slice ad l1 kd] W fun r w' => ∃ g2, r = .returned (.slice (some ⟨g2, 0, none⟩) l1 (l1 + 600)) ∧ St g1 g2 0 w')
    (h3 : ∀ g1 g2 i W, i < 2 → St g1 g2 i W → Calls Tryz.prog 7 #[.pointer (some ⟨w.heap.size + 1, 0, none⟩), .slice (some ⟨g1, 0, none⟩) l0 (l0 + 600), .slice ab l0 kb, .int .i64 n, .string s, .slice (some ⟨g2, 0, none⟩) l1 (l1 + 600), .slice ad l1 kd, .int .i64 (500 * (i : Int))] W fun r w' => r = .returned (.bool true) ∧ K3 g1 g2 i w')
    (h4 : ∀ g1 g2 i W, K3 g1 g2 i W → Calls Tryz.prog 8 #[.slice (some ⟨g1, 0, none⟩) l0 (l0 + 600), .slice ab l0 kb] W fun r w' => r = .returned (.bool true) ∧ K4 g1 g2 i w')
    (h5 : ∀ g1 g2 i W, K4 g1 g2 i W → Calls Tryz.prog 8 #[.slice (some ⟨g2, 0, none⟩) l1 (l1 + 600), .slice ad l1 kd] W fun r w' => r = .returned (.bool true) ∧ K5 g1 g2 i w')
    (h6 : ∀ g1 g2 i W, K5 g1 g2 i W → Calls Tryz.prog 9 #[.pointer (some ⟨w.heap.size, 0, none⟩)] W fun r w' => r = .returned (.bool true) ∧ St g1 g2 (i + 1) w')
    (h7 : ∀ g1 g2 W, St g1 g2 2 W → L1 g1 g2 0 W)
    (h8 : ∀ g1 g2 i W, i < l0 → L1 g1 g2 i W → W.cell? ⟨g1, i, none⟩ = some (.int .u8 (z0 i)) ∧ W.frozen? ⟨g1, i, none⟩ = false ∧ L1 g1 g2 (i + 1) (W.setCell ⟨g1, i, none⟩ (.int .u8 (IntKind.u8.wrap (z0 i + 1)))))
    (h9 : ∀ g1 g2 W, L1 g1 g2 l0 W → L2 g1 g2 0 W)
    (h10 : ∀ g1 g2 i W, i < l1 → L2 g1 g2 i W → W.cell? ⟨g2, i, none⟩ = some (.int .u8 (z1 i)) ∧ W.frozen? ⟨g2, i, none⟩ = false ∧ L2 g1 g2 (i + 1) (W.setCell ⟨g2, i, none⟩ (.int .u8 (IntKind.u8.wrap (z1 i + 3)))))
    (h11 : ∀ g1 g2 W, L2 g1 g2 l1 W → Calls Tryz.prog 10 #[.slice (some ⟨g1, 0, none⟩) l0 (l0 + 600), .slice none 0 0] W fun r w' => ∃ a c, r = .returned (.slice a l0 c) ∧ K7 g1 g2 a c w')
    (h12 : ∀ g1 g2 a c W, K7 g1 g2 a c W → Calls Tryz.prog 10 #[.slice (some ⟨g2, 0, none⟩) l1 (l1 + 600), .slice none 0 0] W fun r w' => ∃ a' c', r = .returned (.slice a' l1 c') ∧ K8 g1 g2 a c a' c' w')
    (h13 : ∀ g1 g2 a c a' c' W, K8 g1 g2 a c a' c' W → Calls Tryz.prog 7 #[.pointer (some ⟨w.heap.size + 1, 0, none⟩), .slice (some ⟨g1, 0, none⟩) l0 (l0 + 600), .slice a l0 c, .int .i64 n, .string s, .slice (some ⟨g2, 0, none⟩) l1 (l1 + 600), .slice a' l1 c', .int .i64 1000] W fun r w' => r = .returned (.bool true) ∧ K9 w')
    (h14 : ∀ W, K9 W → Calls Tryz.prog 11 #[.pointer (some ⟨w.heap.size + 1, 0, none⟩)] W fun r w' => r = .returned (.bool true) ∧ K10 w')
    (h15 : ∀ W, K10 W → Calls Tryz.prog 9 #[.pointer (some ⟨w.heap.size, 0, none⟩)] W fun r w' => r = .returned (.bool true) ∧ Po (.returned (.bool true)) w') :
    Calls Tryz.prog 3 #[.slice ab l0 kb, .int .i64 n, .string s, .slice ad l1 kd] w Po := by
  have H1 := hidi h1
  have H2 := hidi h2
  have H3 := hidi h3
  have H4 := hidi h4
  have H5 := hidi h5
  have H6 := hidi h6
  have H7 := hidi h7
  have H8 := hidi h8
  have H9 := hidi h9
  have H10 := hidi h10
  have H11 := hidi h11
  have H12 := hidi h12
  have H13 := hidi h13
  have H14 := hidi h14
  have H15 := hidi h15
  clear h1 h2 h3 h4 h5 h6 h7 h8 h9 h10 h11 h12 h13 h14 h15
  have e0 : ¬ (140000 : Int) < (l0 : Int) := by omega
  have e1 : ¬ (140000 : Int) < (s.size : Int) := by omega
  have e2 : ¬ (140000 : Int) < (l1 : Int) := by omega
  have HLL : Hid (¬ 140000 < l0 ∧ ¬ 140000 < l1) := ⟨hl0, hl1⟩
  clear hl0 hs hl1
  unfold rm0 at *
  go_enter Tryz.func3, Tryz.ntmps3
  go_wp2_with fail
  refine wp_build0 rfl ?_
  go_at_K
  go_wp2_with fail
  go_must (go_at_call 6)
  refine (H1.out).mono ?_
  rintro r w1 ⟨g1, rfl, hk⟩
  have J1 := hidi (H2.out _ _ hk)
  clear hk
  go_wp2_with fail
  go_must (go_at_call 6)
  refine (J1.out).mono ?_
  rintro r w2 ⟨g2, rfl, hk⟩
  have J2 := hidi hk
  clear hk J1
  go_wp2_with fail
  go_loopg [13] 2 (fun gk s13 wx => ∃ i : Nat, i + gk = 2 ∧ s13 = .int .i64 i ∧ Hid (St g1 g2 i wx))
  case atStart => exact ⟨0, by omega, rfl, J2.out⟩
  case round =>
    obtain ⟨i, hi, rfl, HH⟩ := hrel
    cases gk with
    | zero =>
      obtain rfl : i = 2 := by omega
      have hz : ¬ ((2 : Nat) : Int) < 2 := by decide
      have J3 := hidi (H7.out _ _ _ HH.out)
      clear HH J2
      go_wp2_with fail
      go_loopg [14] l0 (fun gk s14 wx => ∃ i : Nat, i + gk = l0 ∧ s14 = .int .i64 i ∧ Hid (L1 g1 g2 i wx))
      case atStart => exact ⟨0, by omega, rfl, J3.out⟩
      case round =>
        obtain ⟨i, hi, rfl, HH⟩ := hrel
        clear J3
        cases gk with
        | zero =>
          obtain rfl : i = l0 := by omega
          have hz : ¬ (i : Int) < (i : Int) := by omega
          have J4 := hidi (H9.out _ _ _ HH.out)
          clear HH
          go_wp2_with fail
          go_loopg [15] l1 (fun gk s15 wx => ∃ i : Nat, i + gk = l1 ∧ s15 = .int .i64 i ∧ Hid (L2 g1 g2 i wx))
          case atStart => exact ⟨0, by omega, rfl, J4.out⟩
          case round =>
            obtain ⟨j, hj, rfl, HH⟩ := hrel
            clear J4
            cases gk with
            | zero =>
              obtain rfl : j = l1 := by omega
              have hy : ¬ (j : Int) < (j : Int) := by omega
              have J5 := hidi (H11.out _ _ _ HH.out)
              clear HH
              go_wp2_with fail
              go_must (go_at_call 10)
              refine (J5.out).mono ?_
              rintro r w7 ⟨a, c, rfl, hk⟩
              have J6 := hidi (H12.out _ _ _ _ _ hk)
              clear hk J5
              go_wp2_with fail
              go_must (go_at_call 10)
              refine (J6.out).mono ?_
              rintro r w8 ⟨a', c', rfl, hk⟩
              have J7 := hidi (H13.out _ _ _ _ _ _ _ hk)
              clear hk J6
              go_wp2_with fail
              go_must (go_at_call 7)
              refine (J7.out).mono ?_
              rintro r w9 ⟨rfl, hk⟩
              have J8 := hidi (H14.out _ hk)
              clear hk J7
              go_wp2_with fail
              go_must (go_at_call 11)
              refine (J8.out).mono ?_
              rintro r w10 ⟨rfl, hk⟩
              have J9 := hidi (H15.out _ hk)
              clear hk J8
              go_wp2_with fail
              go_must (go_at_call 9)
              refine (J9.out).mono ?_
              rintro r w11 ⟨rfl, hk⟩
              have Z := hidi hk
              clear hk J9
              go_wp2_with fail
              all_goals (try go_ret)
              all_goals exact Z.out
            | succ gk =>
              have hy : (j : Int) < (l1 : Int) := by omega
              have hy0 : (0 : Int) ≤ (j : Int) := by omega
              have hwi : IntKind.i64.wrap ((j : Int) + 1) = (j : Int) + 1 := by rw [IntKind.wrap_i64]; have := HLL.out; omega
              obtain ⟨c1, c2, c3⟩ := H10.out _ _ _ _ (by omega) HH.out
              have J5 := hidi c3
              clear c3 HH
              go_wp2_with fail
              go_roundg gk
              case measure => omega
              case rel => exact ⟨j + 1, by omega, by simp, J5.out⟩
        | succ gk =>
          have hz : (i : Int) < (l0 : Int) := by omega
          have hz0 : (0 : Int) ≤ (i : Int) := by omega
          have hwi : IntKind.i64.wrap ((i : Int) + 1) = (i : Int) + 1 := by rw [IntKind.wrap_i64]; have := HLL.out; omega
          obtain ⟨c1, c2, c3⟩ := H8.out _ _ _ _ (by omega) HH.out
          have J4 := hidi c3
          clear c3 HH
          go_wp2_with fail
          go_roundg gk
          case measure => omega
          case rel => exact ⟨i + 1, by omega, by simp, J4.out⟩
    | succ gk =>
      have hz : (i : Int) < 2 := by omega
      have hwi : IntKind.i64.wrap ((i : Int) + 1) = (i : Int) + 1 := by rw [IntKind.wrap_i64]; omega
      have hw5 : IntKind.i64.wrap (500 * (i : Int)) = 500 * (i : Int) := by rw [IntKind.wrap_i64]; omega
      have J3 := hidi (H3.out _ _ _ _ (by omega) HH.out)
      clear HH J2
      go_wp2_with fail
      go_must (go_at_call 7)
      refine (J3.out).mono ?_
      rintro r w3 ⟨rfl, hk⟩
      have J4 := hidi (H4.out _ _ _ _ hk)
      clear hk J3
      go_wp2_with fail
      go_must (go_at_call 8)
      refine (J4.out).mono ?_
      rintro r w4 ⟨rfl, hk⟩
      have J5 := hidi (H5.out _ _ _ _ hk)
      clear hk J4
      go_wp2_with fail
      go_must (go_at_call 8)
      refine (J5.out).mono ?_
      rintro r w5 ⟨rfl, hk⟩
      have J6 := hidi (H6.out _ _ _ _ hk)
      clear hk J5
      go_wp2_with fail
      go_must (go_at_call 9)
      refine (J6.out).mono ?_
      rintro r w6 ⟨rfl, hk⟩
      have J7 := hidi hk
      clear hk J6
      go_wp2_with fail
      go_roundg gk
      case measure => omega
      case rel => exact ⟨i + 1, by omega, by simp, J7.out⟩
end Go.Proofs.YtkjeneklkdekoaaGreatDoor
