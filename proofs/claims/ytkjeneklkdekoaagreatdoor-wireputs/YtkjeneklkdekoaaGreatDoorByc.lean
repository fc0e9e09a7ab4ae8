import Derived.Test.YtkjeneklkdekoaaGreatDoorSfour
namespace Go.Proofs.YtkjeneklkdekoaaGreatDoor
open Go Go.RowKit
set_option linter.unusedSimpArgs false
set_option linter.unusedVariables false

theorem hidi {p : Prop} (h : p) : Hid p := h
set_option maxHeartbeats 400000 in
theorem num_o (n : Int) (w : World) : Calls Tryz.prog 27 #[.int .i64 n] w fun e w' => e = .returned (.int .i64 n) ∧ w' = w := by
  go_enter Tryz.func27, Tryz.ntmps27
  go_wp2
  go_ret
  exact ⟨rfl, rfl⟩
set_option maxRecDepth 100000 in
set_option maxHeartbeats 4000000 in
theorem puts_tt {w : World} {bb : Nat} {a0 ab a1 ao : Option Addr} {l0 k0 kb l1 k1 ko : Nat} {n mark ec : Int} {s : ByteArray} (K : Nat → List Value → World → Prop) (Po : Ending → World → Prop) (hm : 0 ≤ mark ∧ mark ≤ 100000)
    (h1 : Calls Tryz.prog 17 #[.slice a0 l0 k0, .int .i64 n] w fun r w' => ∃ x, r = .returned x ∧ K 1 [x] w')
    (h2 : ∀ x W, K 1 [x] W → Calls Tryz.prog 18 #[.slice a0 l0 k0, .int .i64 n] W fun r w' => ∃ y, r = .returned y ∧ K 2 [x, y] w')
    (h3 : ∀ x y W, K 2 [x, y] W → Calls Tryz.prog 19 #[.slice a0 l0 k0, .int .i64 n] W fun r w' => ∃ z, r = .returned z ∧ K 3 [x, y, z] w')
    (h4 : ∀ x y z W, K 3 [x, y, z] W → Calls Tryz.prog 20 #[.slice a0 l0 k0, .string s] W fun r w' => ∃ t, r = .returned (.tuple #[t, .int .i64 0]) ∧ K 4 [x, y, z, t] w')
    (h5 : ∀ x y z t W, K 4 [x, y, z, t] W → Calls Tryz.prog 21 #[.slice a0 l0 k0, .slice a1 l1 k1] W fun r w' => ∃ u, r = .returned (.tuple #[u, .int .i64 0]) ∧ K 5 [x, y, z, t, u] w')
    (h6 : ∀ x y z t u W, K 5 [x, y, z, t, u] W → Calls Tryz.prog 22 #[.int .i64 n] W fun r w' => ∃ r1, r = .returned r1 ∧ K 6 [x, y, z, t, u, r1] w')
    (h7 : ∀ x y z t u r1 W, K 6 [x, y, z, t, u, r1] W → Calls Tryz.prog 10 #[.slice ab l0 kb, r1] W fun r w' => ∃ q1, r = .returned q1 ∧ K 7 [x, y, z, t, u, r1, q1] w')
    (h8 : ∀ x y z t u r1 q1 W, K 7 [x, y, z, t, u, r1, q1] W → Calls Tryz.prog 8 #[x, q1] W fun r w' => r = .returned (.bool true) ∧ K 8 [x, y, z, t, u] w')
    (h9 : ∀ x y z t u W, K 8 [x, y, z, t, u] W → Calls Tryz.prog 23 #[.int .i64 n] W fun r w' => ∃ r1, r = .returned r1 ∧ K 9 [x, y, z, t, u, r1] w')
    (h10 : ∀ x y z t u r1 W, K 9 [x, y, z, t, u, r1] W → Calls Tryz.prog 10 #[.slice ab l0 kb, r1] W fun r w' => ∃ q1, r = .returned q1 ∧ K 10 [x, y, z, t, u, r1, q1] w')
    (h11 : ∀ x y z t u r1 q1 W, K 10 [x, y, z, t, u, r1, q1] W → Calls Tryz.prog 8 #[y, q1] W fun r w' => r = .returned (.bool true) ∧ K 11 [x, y, z, t, u] w')
    (h12 : ∀ x y z t u W, K 11 [x, y, z, t, u] W → Calls Tryz.prog 24 #[.int .i64 n] W fun r w' => ∃ r1, r = .returned r1 ∧ K 12 [x, y, z, t, u, r1] w')
    (h13 : ∀ x y z t u r1 W, K 12 [x, y, z, t, u, r1] W → Calls Tryz.prog 10 #[.slice ab l0 kb, r1] W fun r w' => ∃ q1, r = .returned q1 ∧ K 13 [x, y, z, t, u, r1, q1] w')
    (h14 : ∀ x y z t u r1 q1 W, K 13 [x, y, z, t, u, r1, q1] W → Calls Tryz.prog 8 #[z, q1] W fun r w' => r = .returned (.bool true) ∧ K 14 [x, y, z, t, u] w')
    (h15 : ∀ x y z t u W, K 14 [x, y, z, t, u] W → Calls Tryz.prog 25 #[.string s] W fun r w' => ∃ tx, r = .returned (.tuple #[tx, .int .i64 0]) ∧ K 15 [x, y, z, t, u, tx] w')
    (h16 : ∀ x y z t u tx W, K 15 [x, y, z, t, u, tx] W → Calls Tryz.prog 26 #[.slice ao l1 ko] W fun r w' => ∃ dt, r = .returned (.tuple #[dt, .int .i64 0]) ∧ K 16 [x, y, z, t, u, tx, dt] w')
    (h17 : ∀ x y z t u tx dt W, K 16 [x, y, z, t, u, tx, dt] W → Calls Tryz.prog 10 #[.slice ab l0 kb, tx] W fun r w' => ∃ q1, r = .returned q1 ∧ K 17 [x, y, z, t, u, tx, dt, q1] w')
    (h18 : ∀ x y z t u tx dt q1 W, K 17 [x, y, z, t, u, tx, dt, q1] W → Calls Tryz.prog 8 #[t, q1] W fun r w' => r = .returned (.bool true) ∧ K 18 [x, y, z, t, u, tx, dt] w')
    (h19 : ∀ x y z t u tx dt W, K 18 [x, y, z, t, u, tx, dt] W → Calls Tryz.prog 10 #[.slice ab l0 kb, dt] W fun r w' => ∃ q1, r = .returned q1 ∧ K 19 [x, y, z, t, u, tx, dt, q1] w')
    (h20 : ∀ x y z t u tx dt q1 W, K 19 [x, y, z, t, u, tx, dt, q1] W → Calls Tryz.prog 8 #[u, q1] W fun r w' => r = .returned (.bool true) ∧ K 20 [x, y, z, t, u] w')
    (h21 : ∀ x y z t u W, K 20 [x, y, z, t, u] W → Calls Tryz.prog 28 #[.pointer (some ⟨bb, 0, none⟩), x, .int .i64 mark] W fun r w' => r = .returned (.tuple #[]) ∧ K 21 [y, z, t, u] w')
    (h22 : ∀ y z t u W, K 21 [y, z, t, u] W → Calls Tryz.prog 28 #[.pointer (some ⟨bb, 0, none⟩), y, .int .i64 (mark + 20)] W fun r w' => r = .returned (.tuple #[]) ∧ K 22 [z, t, u] w')
    (h23 : ∀ z t u W, K 22 [z, t, u] W → Calls Tryz.prog 28 #[.pointer (some ⟨bb, 0, none⟩), z, .int .i64 (mark + 40)] W fun r w' => r = .returned (.tuple #[]) ∧ K 23 [t, u] w')
    (h24 : ∀ t u W, K 23 [t, u] W → Calls Tryz.prog 28 #[.pointer (some ⟨bb, 0, none⟩), t, .int .i64 (mark + 60)] W fun r w' => r = .returned (.tuple #[]) ∧ K 24 [u] w')
    (h25 : ∀ u W, K 24 [u] W → Calls Tryz.prog 28 #[.pointer (some ⟨bb, 0, none⟩), u, .int .i64 (mark + 80)] W fun r w' => r = .returned (.tuple #[]) ∧ Po (.returned (.bool true)) w') :
    Calls Tryz.prog 7 #[.pointer (some ⟨bb, 0, none⟩), .slice a0 l0 k0, .slice ab l0 kb, .int .i64 n, .string s, .slice a1 l1 k1, .slice ao l1 ko, .int .i64 mark] w Po := by
  have H1 := hidi h1
  have H2 := hidi h2
  have H3 := hidi h3
  have H4 := hidi h4
  have H5 := hidi h5
  have H6 := hidi h6
  have H7 := hidi h7
  have H8 := hidi h8
  have H9 := hidi h9
  have H10 := hidi h10
  have H11 := hidi h11
  have H12 := hidi h12
  have H13 := hidi h13
  have H14 := hidi h14
  have H15 := hidi h15
  have H16 := hidi h16
  have H17 := hidi h17
  have H18 := hidi h18
  have H19 := hidi h19
  have H20 := hidi h20
  have H21 := hidi h21
  have H22 := hidi h22
  have H23 := hidi h23
  have H24 := hidi h24
  have H25 := hidi h25
  clear h1 h2 h3 h4 h5 h6 h7 h8 h9 h10 h11 h12 h13 h14 h15 h16 h17 h18 h19 h20 h21 h22 h23 h24 h25
  have m20 : IntKind.i64.wrap (mark + 20) = mark + 20 := by rw [IntKind.wrap_i64]; omega
  have m40 : IntKind.i64.wrap (mark + 40) = mark + 40 := by rw [IntKind.wrap_i64]; omega
  have m60 : IntKind.i64.wrap (mark + 60) = mark + 60 := by rw [IntKind.wrap_i64]; omega
  have m80 : IntKind.i64.wrap (mark + 80) = mark + 80 := by rw [IntKind.wrap_i64]; omega
  clear hm
  go_enter Tryz.func7, Tryz.ntmps7
  go_wp2_with fail
  go_must (go_at_call 17)
  refine (H1.out).mono ?_
  rintro r w1 ⟨x, rfl, hk⟩
  have J1 := hidi (H2.out _ _ hk)
  clear hk
  go_wp2_with fail
  go_must (go_at_call 18)
  refine (J1.out).mono ?_
  rintro r w2 ⟨y, rfl, hk⟩
  have J2 := hidi (H3.out _ _ _ hk)
  clear hk J1
  go_wp2_with fail
  go_must (go_at_call 19)
  refine (J2.out).mono ?_
  rintro r w3 ⟨z, rfl, hk⟩
  have J3 := hidi (H4.out _ _ _ _ hk)
  clear hk J2
  go_wp2_with fail
  go_must (go_at_call 20)
  refine (J3.out).mono ?_
  rintro r w4 ⟨t, rfl, hk⟩
  have J4 := hidi (H5.out _ _ _ _ _ hk)
  clear hk J3
  go_wp2_with fail
  go_must (go_at_call 21)
  refine (J4.out).mono ?_
  rintro r w5 ⟨u, rfl, hk⟩
  have J5 := hidi (H6.out _ _ _ _ _ _ hk)
  clear hk J4
  go_wp2_with fail
  go_must (go_at_call 22)
  refine (J5.out).mono ?_
  rintro r w6 ⟨r1, rfl, hk⟩
  have J6 := hidi (H7.out _ _ _ _ _ _ _ hk)
  clear hk J5
  go_wp2_with fail
  go_must (go_at_call 10)
  refine (J6.out).mono ?_
  rintro r w7 ⟨q1, rfl, hk⟩
  have J7 := hidi (H8.out _ _ _ _ _ _ _ _ hk)
  clear hk J6
  go_wp2_with fail
  go_must (go_at_call 8)
  refine (J7.out).mono ?_
  rintro r w8 ⟨rfl, hk⟩
  have J8 := hidi (H9.out _ _ _ _ _ _ hk)
  clear hk J7
  go_wp2_with fail
  go_must (go_at_call 23)
  refine (J8.out).mono ?_
  rintro r w9 ⟨r1, rfl, hk⟩
  have J9 := hidi (H10.out _ _ _ _ _ _ _ hk)
  clear hk J8
  go_wp2_with fail
  go_must (go_at_call 10)
  refine (J9.out).mono ?_
  rintro r w10 ⟨q1, rfl, hk⟩
  have J10 := hidi (H11.out _ _ _ _ _ _ _ _ hk)
  clear hk J9
  go_wp2_with fail
  go_must (go_at_call 8)
  refine (J10.out).mono ?_
  rintro r w11 ⟨rfl, hk⟩
  have J11 := hidi (H12.out _ _ _ _ _ _ hk)
  clear hk J10
  go_wp2_with fail
  go_must (go_at_call 24)
  refine (J11.out).mono ?_
  rintro r w12 ⟨r1, rfl, hk⟩
  have J12 := hidi (H13.out _ _ _ _ _ _ _ hk)
  clear hk J11
  go_wp2_with fail
  go_must (go_at_call 10)
  refine (J12.out).mono ?_
  rintro r w13 ⟨q1, rfl, hk⟩
  have J13 := hidi (H14.out _ _ _ _ _ _ _ _ hk)
  clear hk J12
  go_wp2_with fail
  go_must (go_at_call 8)
  refine (J13.out).mono ?_
  rintro r w14 ⟨rfl, hk⟩
  have J14 := hidi (H15.out _ _ _ _ _ _ hk)
  clear hk J13
  go_wp2_with fail
  go_must (go_at_call 25)
  refine (J14.out).mono ?_
  rintro r w15 ⟨tx, rfl, hk⟩
  have J15 := hidi (H16.out _ _ _ _ _ _ _ hk)
  clear hk J14
  go_wp2_with fail
  go_must (go_at_call 26)
  refine (J15.out).mono ?_
  rintro r w16 ⟨dt, rfl, hk⟩
  have J16 := hidi (H17.out _ _ _ _ _ _ _ _ hk)
  clear hk J15
  go_wp2_with fail
  go_must (go_at_call 27)
  refine (num_o 0 _).mono ?_
  rintro r w' ⟨rfl, he⟩
  obtain rfl := he.symm
  clear he
  go_wp2_with fail
  go_must (go_at_call 27)
  refine (num_o 0 _).mono ?_
  rintro r w' ⟨rfl, he⟩
  obtain rfl := he.symm
  clear he
  go_wp2_with fail
  go_must (go_at_call 10)
  refine (J16.out).mono ?_
  rintro r w17 ⟨q1, rfl, hk⟩
  have J17 := hidi (H18.out _ _ _ _ _ _ _ _ _ hk)
  clear hk J16
  go_wp2_with fail
  go_must (go_at_call 8)
  refine (J17.out).mono ?_
  rintro r w18 ⟨rfl, hk⟩
  have J18 := hidi (H19.out _ _ _ _ _ _ _ _ hk)
  clear hk J17
  go_wp2_with fail
  go_must (go_at_call 10)
  refine (J18.out).mono ?_
  rintro r w19 ⟨q1, rfl, hk⟩
  have J19 := hidi (H20.out _ _ _ _ _ _ _ _ _ hk)
  clear hk J18
  go_wp2_with fail
  go_must (go_at_call 8)
  refine (J19.out).mono ?_
  rintro r w20 ⟨rfl, hk⟩
  have J20 := hidi (H21.out _ _ _ _ _ _ hk)
  clear hk J19
  go_wp2_with fail
  go_must (go_at_call 28)
  refine (J20.out).mono ?_
  rintro r w21 ⟨rfl, hk⟩
  have J21 := hidi (H22.out _ _ _ _ _ hk)
  clear hk J20
  go_wp2_with fail
  go_must (go_at_call 28)
  refine (J21.out).mono ?_
  rintro r w22 ⟨rfl, hk⟩
  have J22 := hidi (H23.out _ _ _ _ hk)
  clear hk J21
  go_wp2_with fail
  go_must (go_at_call 28)
  refine (J22.out).mono ?_
  rintro r w23 ⟨rfl, hk⟩
  have J23 := hidi (H24.out _ _ _ hk)
  clear hk J22
  go_wp2_with fail
  go_must (go_at_call 28)
  refine (J23.out).mono ?_
  rintro r w24 ⟨rfl, hk⟩
  have J24 := hidi (H25.out _ _ hk)
  clear hk J23
  go_wp2_with fail
  go_must (go_at_call 28)
  refine (J24.out).mono ?_
  rintro r w25 ⟨rfl, hk⟩
  have Z := hidi hk
  clear hk
  go_wp2_with fail
  all_goals (try go_ret)
  all_goals exact Z.out
set_option maxRecDepth 100000 in
set_option maxHeartbeats 4000000 in
theorem puts_tn {w : World} {bb : Nat} {a0 ab a1 ao : Option Addr} {l0 k0 kb l1 k1 ko : Nat} {n mark ec : Int} {s : ByteArray} (K : Nat → List Value → World → Prop) (Po : Ending → World → Prop) (hm : 0 ≤ mark ∧ mark ≤ 100000)
    (h1 : Calls Tryz.prog 17 #[.slice a0 l0 k0, .int .i64 n] w fun r w' => ∃ x, r = .returned x ∧ K 1 [x] w')
    (h2 : ∀ x W, K 1 [x] W → Calls Tryz.prog 18 #[.slice a0 l0 k0, .int .i64 n] W fun r w' => ∃ y, r = .returned y ∧ K 2 [x, y] w')
    (h3 : ∀ x y W, K 2 [x, y] W → Calls Tryz.prog 19 #[.slice a0 l0 k0, .int .i64 n] W fun r w' => ∃ z, r = .returned z ∧ K 3 [x, y, z] w')
    (h4 : ∀ x y z W, K 3 [x, y, z] W → Calls Tryz.prog 20 #[.slice a0 l0 k0, .string s] W fun r w' => ∃ t, r = .returned (.tuple #[t, .int .i64 0]) ∧ K 4 [x, y, z, t] w')
    (h5 : ∀ x y z t W, K 4 [x, y, z, t] W → Calls Tryz.prog 21 #[.slice a0 l0 k0, .slice a1 l1 k1] W fun r w' => r = .returned (.tuple #[.slice none 0 0, .int .i64 11]) ∧ K 5 [x, y, z, t] w')
    (h6 : ∀ x y z t W, K 5 [x, y, z, t] W → Calls Tryz.prog 22 #[.int .i64 n] W fun r w' => ∃ r1, r = .returned r1 ∧ K 6 [x, y, z, t, r1] w')
    (h7 : ∀ x y z t r1 W, K 6 [x, y, z, t, r1] W → Calls Tryz.prog 10 #[.slice ab l0 kb, r1] W fun r w' => ∃ q1, r = .returned q1 ∧ K 7 [x, y, z, t, r1, q1] w')
    (h8 : ∀ x y z t r1 q1 W, K 7 [x, y, z, t, r1, q1] W → Calls Tryz.prog 8 #[x, q1] W fun r w' => r = .returned (.bool true) ∧ K 8 [x, y, z, t] w')
    (h9 : ∀ x y z t W, K 8 [x, y, z, t] W → Calls Tryz.prog 23 #[.int .i64 n] W fun r w' => ∃ r1, r = .returned r1 ∧ K 9 [x, y, z, t, r1] w')
    (h10 : ∀ x y z t r1 W, K 9 [x, y, z, t, r1] W → Calls Tryz.prog 10 #[.slice ab l0 kb, r1] W fun r w' => ∃ q1, r = .returned q1 ∧ K 10 [x, y, z, t, r1, q1] w')
    (h11 : ∀ x y z t r1 q1 W, K 10 [x, y, z, t, r1, q1] W → Calls Tryz.prog 8 #[y, q1] W fun r w' => r = .returned (.bool true) ∧ K 11 [x, y, z, t] w')
    (h12 : ∀ x y z t W, K 11 [x, y, z, t] W → Calls Tryz.prog 24 #[.int .i64 n] W fun r w' => ∃ r1, r = .returned r1 ∧ K 12 [x, y, z, t, r1] w')
    (h13 : ∀ x y z t r1 W, K 12 [x, y, z, t, r1] W → Calls Tryz.prog 10 #[.slice ab l0 kb, r1] W fun r w' => ∃ q1, r = .returned q1 ∧ K 13 [x, y, z, t, r1, q1] w')
    (h14 : ∀ x y z t r1 q1 W, K 13 [x, y, z, t, r1, q1] W → Calls Tryz.prog 8 #[z, q1] W fun r w' => r = .returned (.bool true) ∧ K 14 [x, y, z, t] w')
    (h15 : ∀ x y z t W, K 14 [x, y, z, t] W → Calls Tryz.prog 25 #[.string s] W fun r w' => ∃ tx, r = .returned (.tuple #[tx, .int .i64 0]) ∧ K 15 [x, y, z, t, tx] w')
    (h16 : ∀ x y z t tx W, K 15 [x, y, z, t, tx] W → Calls Tryz.prog 26 #[.slice ao l1 ko] W fun r w' => r = .returned (.tuple #[.slice none 0 0, .int .i64 11]) ∧ K 16 [x, y, z, t, tx] w')
    (h17 : ∀ x y z t tx W, K 16 [x, y, z, t, tx] W → Calls Tryz.prog 10 #[.slice ab l0 kb, tx] W fun r w' => ∃ q1, r = .returned q1 ∧ K 17 [x, y, z, t, tx, q1] w')
    (h18 : ∀ x y z t tx q1 W, K 17 [x, y, z, t, tx, q1] W → Calls Tryz.prog 8 #[t, q1] W fun r w' => r = .returned (.bool true) ∧ K 18 [x, y, z, t] w')
    (h19 : ∀ x y z t W, K 18 [x, y, z, t] W → Calls Tryz.prog 28 #[.pointer (some ⟨bb, 0, none⟩), x, .int .i64 mark] W fun r w' => r = .returned (.tuple #[]) ∧ K 19 [y, z, t] w')
    (h20 : ∀ y z t W, K 19 [y, z, t] W → Calls Tryz.prog 28 #[.pointer (some ⟨bb, 0, none⟩), y, .int .i64 (mark + 20)] W fun r w' => r = .returned (.tuple #[]) ∧ K 20 [z, t] w')
    (h21 : ∀ z t W, K 20 [z, t] W → Calls Tryz.prog 28 #[.pointer (some ⟨bb, 0, none⟩), z, .int .i64 (mark + 40)] W fun r w' => r = .returned (.tuple #[]) ∧ K 21 [t] w')
    (h22 : ∀ t W, K 21 [t] W → Calls Tryz.prog 28 #[.pointer (some ⟨bb, 0, none⟩), t, .int .i64 (mark + 60)] W fun r w' => r = .returned (.tuple #[]) ∧ K 22 [] w')
    (h23 : ∀ W, K 22 [] W → Calls Tryz.prog 28 #[.pointer (some ⟨bb, 0, none⟩), .slice none 0 0, .int .i64 (mark + 80)] W fun r w' => r = .returned (.tuple #[]) ∧ Po (.returned (.bool true)) w') :
    Calls Tryz.prog 7 #[.pointer (some ⟨bb, 0, none⟩), .slice a0 l0 k0, .slice ab l0 kb, .int .i64 n, .string s, .slice a1 l1 k1, .slice ao l1 ko, .int .i64 mark] w Po := by
  have H1 := hidi h1
  have H2 := hidi h2
  have H3 := hidi h3
  have H4 := hidi h4
  have H5 := hidi h5
  have H6 := hidi h6
  have H7 := hidi h7
  have H8 := hidi h8
  have H9 := hidi h9
  have H10 := hidi h10
  have H11 := hidi h11
  have H12 := hidi h12
  have H13 := hidi h13
  have H14 := hidi h14
  have H15 := hidi h15
  have H16 := hidi h16
  have H17 := hidi h17
  have H18 := hidi h18
  have H19 := hidi h19
  have H20 := hidi h20
  have H21 := hidi h21
  have H22 := hidi h22
  have H23 := hidi h23
  clear h1 h2 h3 h4 h5 h6 h7 h8 h9 h10 h11 h12 h13 h14 h15 h16 h17 h18 h19 h20 h21 h22 h23
  have m20 : IntKind.i64.wrap (mark + 20) = mark + 20 := by rw [IntKind.wrap_i64]; omega
  have m40 : IntKind.i64.wrap (mark + 40) = mark + 40 := by rw [IntKind.wrap_i64]; omega
  have m60 : IntKind.i64.wrap (mark + 60) = mark + 60 := by rw [IntKind.wrap_i64]; omega
  have m80 : IntKind.i64.wrap (mark + 80) = mark + 80 := by rw [IntKind.wrap_i64]; omega
  clear hm
  go_enter Tryz.func7, Tryz.ntmps7
  go_wp2_with fail
  go_must (go_at_call 17)
  refine (H1.out).mono ?_
  rintro r w1 ⟨x, rfl, hk⟩
  have J1 := hidi (H2.out _ _ hk)
  clear hk
  go_wp2_with fail
  go_must (go_at_call 18)
  refine (J1.out).mono ?_
  rintro r w2 ⟨y, rfl, hk⟩
  have J2 := hidi (H3.out _ _ _ hk)
  clear hk J1
  go_wp2_with fail
  go_must (go_at_call 19)
  refine (J2.out).mono ?_
  rintro r w3 ⟨z, rfl, hk⟩
  have J3 := hidi (H4.out _ _ _ _ hk)
  clear hk J2
  go_wp2_with fail
  go_must (go_at_call 20)
  refine (J3.out).mono ?_
  rintro r w4 ⟨t, rfl, hk⟩
  have J4 := hidi (H5.out _ _ _ _ _ hk)
  clear hk J3
  go_wp2_with fail
  go_must (go_at_call 21)
  refine (J4.out).mono ?_
  rintro r w5 ⟨rfl, hk⟩
  have J5 := hidi (H6.out _ _ _ _ _ hk)
  clear hk J4
  go_wp2_with fail
  go_must (go_at_call 22)
  refine (J5.out).mono ?_
  rintro r w6 ⟨r1, rfl, hk⟩
  have J6 := hidi (H7.out _ _ _ _ _ _ hk)
  clear hk J5
  go_wp2_with fail
  go_must (go_at_call 10)
  refine (J6.out).mono ?_
  rintro r w7 ⟨q1, rfl, hk⟩
  have J7 := hidi (H8.out _ _ _ _ _ _ _ hk)
  clear hk J6
  go_wp2_with fail
  go_must (go_at_call 8)
  refine (J7.out).mono ?_
  rintro r w8 ⟨rfl, hk⟩
  have J8 := hidi (H9.out _ _ _ _ _ hk)
  clear hk J7
  go_wp2_with fail
  go_must (go_at_call 23)
  refine (J8.out).mono ?_
  rintro r w9 ⟨r1, rfl, hk⟩
  have J9 := hidi (H10.out _ _ _ _ _ _ hk)
  clear hk J8
  go_wp2_with fail
  go_must (go_at_call 10)
  refine (J9.out).mono ?_
  rintro r w10 ⟨q1, rfl, hk⟩
  have J10 := hidi (H11.out _ _ _ _ _ _ _ hk)
  clear hk J9
  go_wp2_with fail
  go_must (go_at_call 8)
  refine (J10.out).mono ?_
  rintro r w11 ⟨rfl, hk⟩
  have J11 := hidi (H12.out _ _ _ _ _ hk)
  clear hk J10
  go_wp2_with fail
  go_must (go_at_call 24)
  refine (J11.out).mono ?_
  rintro r w12 ⟨r1, rfl, hk⟩
  have J12 := hidi (H13.out _ _ _ _ _ _ hk)
  clear hk J11
  go_wp2_with fail
  go_must (go_at_call 10)
  refine (J12.out).mono ?_
  rintro r w13 ⟨q1, rfl, hk⟩
  have J13 := hidi (H14.out _ _ _ _ _ _ _ hk)
  clear hk J12
  go_wp2_with fail
  go_must (go_at_call 8)
  refine (J13.out).mono ?_
  rintro r w14 ⟨rfl, hk⟩
  have J14 := hidi (H15.out _ _ _ _ _ hk)
  clear hk J13
  go_wp2_with fail
  go_must (go_at_call 25)
  refine (J14.out).mono ?_
  rintro r w15 ⟨tx, rfl, hk⟩
  have J15 := hidi (H16.out _ _ _ _ _ _ hk)
  clear hk J14
  go_wp2_with fail
  go_must (go_at_call 26)
  refine (J15.out).mono ?_
  rintro r w16 ⟨rfl, hk⟩
  have J16 := hidi (H17.out _ _ _ _ _ _ hk)
  clear hk J15
  go_wp2_with fail
  go_must (go_at_call 27)
  refine (num_o 0 _).mono ?_
  rintro r w' ⟨rfl, he⟩
  obtain rfl := he.symm
  clear he
  go_wp2_with fail
  go_must (go_at_call 27)
  refine (num_o 11 _).mono ?_
  rintro r w' ⟨rfl, he⟩
  obtain rfl := he.symm
  clear he
  go_wp2_with fail
  go_must (go_at_call 10)
  refine (J16.out).mono ?_
  rintro r w17 ⟨q1, rfl, hk⟩
  have J17 := hidi (H18.out _ _ _ _ _ _ _ hk)
  clear hk J16
  go_wp2_with fail
  go_must (go_at_call 8)
  refine (J17.out).mono ?_
  rintro r w18 ⟨rfl, hk⟩
  have J18 := hidi (H19.out _ _ _ _ _ hk)
  clear hk J17
  go_wp2_with fail
  go_must (go_at_call 28)
  refine (J18.out).mono ?_
  rintro r w19 ⟨rfl, hk⟩
  have J19 := hidi (H20.out _ _ _ _ hk)
  clear hk J18
  go_wp2_with fail
  go_must (go_at_call 28)
  refine (J19.out).mono ?_
  rintro r w20 ⟨rfl, hk⟩
  have J20 := hidi (H21.out _ _ _ hk)
  clear hk J19
  go_wp2_with fail
  go_must (go_at_call 28)
  refine (J20.out).mono ?_
  rintro r w21 ⟨rfl, hk⟩
  have J21 := hidi (H22.out _ _ hk)
  clear hk J20
  go_wp2_with fail
  go_must (go_at_call 28)
  refine (J21.out).mono ?_
  rintro r w22 ⟨rfl, hk⟩
  have J22 := hidi (H23.out _ hk)
  clear hk J21
  go_wp2_with fail
  go_must (go_at_call 28)
  refine (J22.out).mono ?_
  rintro r w23 ⟨rfl, hk⟩
  have Z := hidi hk
  clear hk
  go_wp2_with fail
  all_goals (try go_ret)
  all_goals exact Z.out
set_option maxRecDepth 100000 in
set_option maxHeartbeats 4000000 in
theorem puts_nt {w : World} {bb : Nat} {a0 ab a1 ao : Option Addr} {l0 k0 kb l1 k1 ko : Nat} {n mark ec : Int} {s : ByteArray} (K : Nat → List Value → World → Prop) (Po : Ending → World → Prop) (hm : 0 ≤ mark ∧ mark ≤ 100000) (hec : ec ≠ 0)
    (h1 : Calls Tryz.prog 17 #[.slice a0 l0 k0, .int .i64 n] w fun r w' => ∃ x, r = .returned x ∧ K 1 [x] w')
    (h2 : ∀ x W, K 1 [x] W → Calls Tryz.prog 18 #[.slice a0 l0 k0, .int .i64 n] W fun r w' => ∃ y, r = .returned y ∧ K 2 [x, y] w')
    (h3 : ∀ x y W, K 2 [x, y] W → Calls Tryz.prog 19 #[.slice a0 l0 k0, .int .i64 n] W fun r w' => ∃ z, r = .returned z ∧ K 3 [x, y, z] w')
    (h4 : ∀ x y z W, K 3 [x, y, z] W → Calls Tryz.prog 20 #[.slice a0 l0 k0, .string s] W fun r w' => r = .returned (.tuple #[.slice none 0 0, .int .i64 ec]) ∧ K 4 [x, y, z] w')
    (h5 : ∀ x y z W, K 4 [x, y, z] W → Calls Tryz.prog 21 #[.slice a0 l0 k0, .slice a1 l1 k1] W fun r w' => ∃ u, r = .returned (.tuple #[u, .int .i64 0]) ∧ K 5 [x, y, z, u] w')
    (h6 : ∀ x y z u W, K 5 [x, y, z, u] W → Calls Tryz.prog 22 #[.int .i64 n] W fun r w' => ∃ r1, r = .returned r1 ∧ K 6 [x, y, z, u, r1] w')
    (h7 : ∀ x y z u r1 W, K 6 [x, y, z, u, r1] W → Calls Tryz.prog 10 #[.slice ab l0 kb, r1] W fun r w' => ∃ q1, r = .returned q1 ∧ K 7 [x, y, z, u, r1, q1] w')
    (h8 : ∀ x y z u r1 q1 W, K 7 [x, y, z, u, r1, q1] W → Calls Tryz.prog 8 #[x, q1] W fun r w' => r = .returned (.bool true) ∧ K 8 [x, y, z, u] w')
    (h9 : ∀ x y z u W, K 8 [x, y, z, u] W → Calls Tryz.prog 23 #[.int .i64 n] W fun r w' => ∃ r1, r = .returned r1 ∧ K 9 [x, y, z, u, r1] w')
    (h10 : ∀ x y z u r1 W, K 9 [x, y, z, u, r1] W → Calls Tryz.prog 10 #[.slice ab l0 kb, r1] W fun r w' => ∃ q1, r = .returned q1 ∧ K 10 [x, y, z, u, r1, q1] w')
    (h11 : ∀ x y z u r1 q1 W, K 10 [x, y, z, u, r1, q1] W → Calls Tryz.prog 8 #[y, q1] W fun r w' => r = .returned (.bool true) ∧ K 11 [x, y, z, u] w')
    (h12 : ∀ x y z u W, K 11 [x, y, z, u] W → Calls Tryz.prog 24 #[.int .i64 n] W fun r w' => ∃ r1, r = .returned r1 ∧ K 12 [x, y, z, u, r1] w')
    (h13 : ∀ x y z u r1 W, K 12 [x, y, z, u, r1] W → Calls Tryz.prog 10 #[.slice ab l0 kb, r1] W fun r w' => ∃ q1, r = .returned q1 ∧ K 13 [x, y, z, u, r1, q1] w')
    (h14 : ∀ x y z u r1 q1 W, K 13 [x, y, z, u, r1, q1] W → Calls Tryz.prog 8 #[z, q1] W fun r w' => r = .returned (.bool true) ∧ K 14 [x, y, z, u] w')
    (h15 : ∀ x y z u W, K 14 [x, y, z, u] W → Calls Tryz.prog 25 #[.string s] W fun r w' => r = .returned (.tuple #[.slice none 0 0, .int .i64 ec]) ∧ K 15 [x, y, z, u] w')
    (h16 : ∀ x y z u W, K 15 [x, y, z, u] W → Calls Tryz.prog 26 #[.slice ao l1 ko] W fun r w' => ∃ dt, r = .returned (.tuple #[dt, .int .i64 0]) ∧ K 16 [x, y, z, u, dt] w')
    (h17 : ∀ x y z u dt W, K 16 [x, y, z, u, dt] W → Calls Tryz.prog 10 #[.slice ab l0 kb, dt] W fun r w' => ∃ q1, r = .returned q1 ∧ K 17 [x, y, z, u, dt, q1] w')
    (h18 : ∀ x y z u dt q1 W, K 17 [x, y, z, u, dt, q1] W → Calls Tryz.prog 8 #[u, q1] W fun r w' => r = .returned (.bool true) ∧ K 18 [x, y, z, u] w')
    (h19 : ∀ x y z u W, K 18 [x, y, z, u] W → Calls Tryz.prog 28 #[.pointer (some ⟨bb, 0, none⟩), x, .int .i64 mark] W fun r w' => r = .returned (.tuple #[]) ∧ K 19 [y, z, u] w')
    (h20 : ∀ y z u W, K 19 [y, z, u] W → Calls Tryz.prog 28 #[.pointer (some ⟨bb, 0, none⟩), y, .int .i64 (mark + 20)] W fun r w' => r = .returned (.tuple #[]) ∧ K 20 [z, u] w')
    (h21 : ∀ z u W, K 20 [z, u] W → Calls Tryz.prog 28 #[.pointer (some ⟨bb, 0, none⟩), z, .int .i64 (mark + 40)] W fun r w' => r = .returned (.tuple #[]) ∧ K 21 [u] w')
    (h22 : ∀ u W, K 21 [u] W → Calls Tryz.prog 28 #[.pointer (some ⟨bb, 0, none⟩), .slice none 0 0, .int .i64 (mark + 60)] W fun r w' => r = .returned (.tuple #[]) ∧ K 22 [u] w')
    (h23 : ∀ u W, K 22 [u] W → Calls Tryz.prog 28 #[.pointer (some ⟨bb, 0, none⟩), u, .int .i64 (mark + 80)] W fun r w' => r = .returned (.tuple #[]) ∧ Po (.returned (.bool true)) w') :
    Calls Tryz.prog 7 #[.pointer (some ⟨bb, 0, none⟩), .slice a0 l0 k0, .slice ab l0 kb, .int .i64 n, .string s, .slice a1 l1 k1, .slice ao l1 ko, .int .i64 mark] w Po := by
  have H1 := hidi h1
  have H2 := hidi h2
  have H3 := hidi h3
  have H4 := hidi h4
  have H5 := hidi h5
  have H6 := hidi h6
  have H7 := hidi h7
  have H8 := hidi h8
  have H9 := hidi h9
  have H10 := hidi h10
  have H11 := hidi h11
  have H12 := hidi h12
  have H13 := hidi h13
  have H14 := hidi h14
  have H15 := hidi h15
  have H16 := hidi h16
  have H17 := hidi h17
  have H18 := hidi h18
  have H19 := hidi h19
  have H20 := hidi h20
  have H21 := hidi h21
  have H22 := hidi h22
  have H23 := hidi h23
  clear h1 h2 h3 h4 h5 h6 h7 h8 h9 h10 h11 h12 h13 h14 h15 h16 h17 h18 h19 h20 h21 h22 h23
  have m20 : IntKind.i64.wrap (mark + 20) = mark + 20 := by rw [IntKind.wrap_i64]; omega
  have m40 : IntKind.i64.wrap (mark + 40) = mark + 40 := by rw [IntKind.wrap_i64]; omega
  have m60 : IntKind.i64.wrap (mark + 60) = mark + 60 := by rw [IntKind.wrap_i64]; omega
  have m80 : IntKind.i64.wrap (mark + 80) = mark + 80 := by rw [IntKind.wrap_i64]; omega
  clear hm
  have e1 : (ec == 0) = false := by simpa using hec
  have e2 : (ec != 0) = true := by simpa using hec
  clear hec
  go_enter Tryz.func7, Tryz.ntmps7
  go_wp2_with fail
  go_must (go_at_call 17)
  refine (H1.out).mono ?_
  rintro r w1 ⟨x, rfl, hk⟩
  have J1 := hidi (H2.out _ _ hk)
  clear hk
  go_wp2_with fail
  go_must (go_at_call 18)
  refine (J1.out).mono ?_
  rintro r w2 ⟨y, rfl, hk⟩
  have J2 := hidi (H3.out _ _ _ hk)
  clear hk J1
  go_wp2_with fail
  go_must (go_at_call 19)
  refine (J2.out).mono ?_
  rintro r w3 ⟨z, rfl, hk⟩
  have J3 := hidi (H4.out _ _ _ _ hk)
  clear hk J2
  go_wp2_with fail
  go_must (go_at_call 20)
  refine (J3.out).mono ?_
  rintro r w4 ⟨rfl, hk⟩
  have J4 := hidi (H5.out _ _ _ _ hk)
  clear hk J3
  go_wp2_with fail
  go_must (go_at_call 21)
  refine (J4.out).mono ?_
  rintro r w5 ⟨u, rfl, hk⟩
  have J5 := hidi (H6.out _ _ _ _ _ hk)
  clear hk J4
  go_wp2_with fail
  go_must (go_at_call 22)
  refine (J5.out).mono ?_
  rintro r w6 ⟨r1, rfl, hk⟩
  have J6 := hidi (H7.out _ _ _ _ _ _ hk)
  clear hk J5
  go_wp2_with fail
  go_must (go_at_call 10)
  refine (J6.out).mono ?_
  rintro r w7 ⟨q1, rfl, hk⟩
  have J7 := hidi (H8.out _ _ _ _ _ _ _ hk)
  clear hk J6
  go_wp2_with fail
  go_must (go_at_call 8)
  refine (J7.out).mono ?_
  rintro r w8 ⟨rfl, hk⟩
  have J8 := hidi (H9.out _ _ _ _ _ hk)
  clear hk J7
  go_wp2_with fail
  go_must (go_at_call 23)
  refine (J8.out).mono ?_
  rintro r w9 ⟨r1, rfl, hk⟩
  have J9 := hidi (H10.out _ _ _ _ _ _ hk)
  clear hk J8
  go_wp2_with fail
  go_must (go_at_call 10)
  refine (J9.out).mono ?_
  rintro r w10 ⟨q1, rfl, hk⟩
  have J10 := hidi (H11.out _ _ _ _ _ _ _ hk)
  clear hk J9
  go_wp2_with fail
  go_must (go_at_call 8)
  refine (J10.out).mono ?_
  rintro r w11 ⟨rfl, hk⟩
  have J11 := hidi (H12.out _ _ _ _ _ hk)
  clear hk J10
  go_wp2_with fail
  go_must (go_at_call 24)
  refine (J11.out).mono ?_
  rintro r w12 ⟨r1, rfl, hk⟩
  have J12 := hidi (H13.out _ _ _ _ _ _ hk)
  clear hk J11
  go_wp2_with fail
  go_must (go_at_call 10)
  refine (J12.out).mono ?_
  rintro r w13 ⟨q1, rfl, hk⟩
  have J13 := hidi (H14.out _ _ _ _ _ _ _ hk)
  clear hk J12
  go_wp2_with fail
  go_must (go_at_call 8)
  refine (J13.out).mono ?_
  rintro r w14 ⟨rfl, hk⟩
  have J14 := hidi (H15.out _ _ _ _ _ hk)
  clear hk J13
  go_wp2_with fail
  go_must (go_at_call 25)
  refine (J14.out).mono ?_
  rintro r w15 ⟨rfl, hk⟩
  have J15 := hidi (H16.out _ _ _ _ _ hk)
  clear hk J14
  go_wp2_with fail
  go_must (go_at_call 26)
  refine (J15.out).mono ?_
  rintro r w16 ⟨dt, rfl, hk⟩
  have J16 := hidi (H17.out _ _ _ _ _ _ hk)
  clear hk J15
  go_wp2_with fail
  go_must (go_at_call 27)
  refine (num_o ec _).mono ?_
  rintro r w' ⟨rfl, he⟩
  obtain rfl := he.symm
  clear he
  go_wp2_with fail
  go_must (go_at_call 27)
  refine (num_o 0 _).mono ?_
  rintro r w' ⟨rfl, he⟩
  obtain rfl := he.symm
  clear he
  go_wp2_with fail
  go_must (go_at_call 10)
  refine (J16.out).mono ?_
  rintro r w17 ⟨q1, rfl, hk⟩
  have J17 := hidi (H18.out _ _ _ _ _ _ _ hk)
  clear hk J16
  go_wp2_with fail
  go_must (go_at_call 8)
  refine (J17.out).mono ?_
  rintro r w18 ⟨rfl, hk⟩
  have J18 := hidi (H19.out _ _ _ _ _ hk)
  clear hk J17
  go_wp2_with fail
  go_must (go_at_call 28)
  refine (J18.out).mono ?_
  rintro r w19 ⟨rfl, hk⟩
  have J19 := hidi (H20.out _ _ _ _ hk)
  clear hk J18
  go_wp2_with fail
  go_must (go_at_call 28)
  refine (J19.out).mono ?_
  rintro r w20 ⟨rfl, hk⟩
  have J20 := hidi (H21.out _ _ _ hk)
  clear hk J19
  go_wp2_with fail
  go_must (go_at_call 28)
  refine (J20.out).mono ?_
  rintro r w21 ⟨rfl, hk⟩
  have J21 := hidi (H22.out _ _ hk)
  clear hk J20
  go_wp2_with fail
  go_must (go_at_call 28)
  refine (J21.out).mono ?_
  rintro r w22 ⟨rfl, hk⟩
  have J22 := hidi (H23.out _ _ hk)
  clear hk J21
  go_wp2_with fail
  go_must (go_at_call 28)
  refine (J22.out).mono ?_
  rintro r w23 ⟨rfl, hk⟩
  have Z := hidi hk
  clear hk
  go_wp2_with fail
  all_goals (try go_ret)
  all_goals exact Z.out
set_option maxRecDepth 100000 in
set_option maxHeartbeats 4000000 in
theorem puts_nn {w : World} {bb : Nat} {a0 ab a1 ao : Option Addr} {l0 k0 kb l1 k1 ko : Nat} {n mark ec : Int} {s : ByteArray} (K : Nat → List Value → World → Prop) (Po : Ending → World → Prop) (hm : 0 ≤ mark ∧ mark ≤ 100000) (hec : ec ≠ 0)
    (h1 : Calls Tryz.prog 17 #[.slice a0 l0 k0, .int .i64 n] w fun r w' => ∃ x, r = .returned x ∧ K 1 [x] w')
    (h2 : ∀ x W, K 1 [x] W → Calls Tryz.prog 18 #[.slice a0 l0 k0, .int .i64 n] W fun r w' => ∃ y, r = .returned y ∧ K 2 [x, y] w')
    (h3 : ∀ x y W, K 2 [x, y] W → Calls Tryz.prog 19 #[.slice a0 l0 k0, .int .i64 n] W fun r w' => ∃ z, r = .returned z ∧ K 3 [x, y, z] w')
    (h4 : ∀ x y z W, K 3 [x, y, z] W → Calls Tryz.prog 20 #[.slice a0 l0 k0, .string s] W fun r w' => r = .returned (.tuple #[.slice none 0 0, .int .i64 ec]) ∧ K 4 [x, y, z] w')
    (h5 : ∀ x y z W, K 4 [x, y, z] W → Calls Tryz.prog 21 #[.slice a0 l0 k0, .slice a1 l1 k1] W fun r w' => r = .returned (.tuple #[.slice none 0 0, .int .i64 11]) ∧ K 5 [x, y, z] w')
    (h6 : ∀ x y z W, K 5 [x, y, z] W → Calls Tryz.prog 22 #[.int .i64 n] W fun r w' => ∃ r1, r = .returned r1 ∧ K 6 [x, y, z, r1] w')
    (h7 : ∀ x y z r1 W, K 6 [x, y, z, r1] W → Calls Tryz.prog 10 #[.slice ab l0 kb, r1] W fun r w' => ∃ q1, r = .returned q1 ∧ K 7 [x, y, z, r1, q1] w')
    (h8 : ∀ x y z r1 q1 W, K 7 [x, y, z, r1, q1] W → Calls Tryz.prog 8 #[x, q1] W fun r w' => r = .returned (.bool true) ∧ K 8 [x, y, z] w')
    (h9 : ∀ x y z W, K 8 [x, y, z] W → Calls Tryz.prog 23 #[.int .i64 n] W fun r w' => ∃ r1, r = .returned r1 ∧ K 9 [x, y, z, r1] w')
    (h10 : ∀ x y z r1 W, K 9 [x, y, z, r1] W → Calls Tryz.prog 10 #[.slice ab l0 kb, r1] W fun r w' => ∃ q1, r = .returned q1 ∧ K 10 [x, y, z, r1, q1] w')
    (h11 : ∀ x y z r1 q1 W, K 10 [x, y, z, r1, q1] W → Calls Tryz.prog 8 #[y, q1] W fun r w' => r = .returned (.bool true) ∧ K 11 [x, y, z] w')
    (h12 : ∀ x y z W, K 11 [x, y, z] W → Calls Tryz.prog 24 #[.int .i64 n] W fun r w' => ∃ r1, r = .returned r1 ∧ K 12 [x, y, z, r1] w')
    (h13 : ∀ x y z r1 W, K 12 [x, y, z, r1] W → Calls Tryz.prog 10 #[.slice ab l0 kb, r1] W fun r w' => ∃ q1, r = .returned q1 ∧ K 13 [x, y, z, r1, q1] w')
    (h14 : ∀ x y z r1 q1 W, K 13 [x, y, z, r1, q1] W → Calls Tryz.prog 8 #[z, q1] W fun r w' => r = .returned (.bool true) ∧ K 14 [x, y, z] w')
    (h15 : ∀ x y z W, K 14 [x, y, z] W → Calls Tryz.prog 25 #[.string s] W fun r w' => r = .returned (.tuple #[.slice none 0 0, .int .i64 ec]) ∧ K 15 [x, y, z] w')
    (h16 : ∀ x y z W, K 15 [x, y, z] W → Calls Tryz.prog 26 #[.slice ao l1 ko] W fun r w' => r = .returned (.tuple #[.slice none 0 0, .int .i64 11]) ∧ K 16 [x, y, z] w')
    (h17 : ∀ x y z W, K 16 [x, y, z] W → Calls Tryz.prog 28 #[.pointer (some ⟨bb, 0, none⟩), x, .int .i64 mark] W fun r w' => r = .returned (.tuple #[]) ∧ K 17 [y, z] w')
    (h18 : ∀ y z W, K 17 [y, z] W → Calls Tryz.prog 28 #[.pointer (some ⟨bb, 0, none⟩), y, .int .i64 (mark + 20)] W fun r w' => r = .returned (.tuple #[]) ∧ K 18 [z] w')
    (h19 : ∀ z W, K 18 [z] W → Calls Tryz.prog 28 #[.pointer (some ⟨bb, 0, none⟩), z, .int .i64 (mark + 40)] W fun r w' => r = .returned (.tuple #[]) ∧ K 19 [] w')
    (h20 : ∀ W, K 19 [] W → Calls Tryz.prog 28 #[.pointer (some ⟨bb, 0, none⟩), .slice none 0 0, .int .i64 (mark + 60)] W fun r w' => r = .returned (.tuple #[]) ∧ K 20 [] w')
    (h21 : ∀ W, K 20 [] W → Calls Tryz.prog 28 #[.pointer (some ⟨bb, 0, none⟩), .slice none 0 0, .int .i64 (mark + 80)] W fun r w' => r = .returned (.tuple #[]) ∧ Po (.returned (.bool true)) w') :
    Calls Tryz.prog 7 #[.pointer (some ⟨bb, 0, none⟩), .slice a0 l0 k0, .slice ab l0 kb, .int .i64 n, .string s, .slice a1 l1 k1, .slice ao l1 ko, .int .i64 mark] w Po := by
  have H1 := hidi h1
  have H2 := hidi h2
  have H3 := hidi h3
  have H4 := hidi h4
  have H5 := hidi h5
  have H6 := hidi h6
  have H7 := hidi h7
  have H8 := hidi h8
  have H9 := hidi h9
  have H10 := hidi h10
  have H11 := hidi h11
  have H12 := hidi h12
  have H13 := hidi h13
  have H14 := hidi h14
  have H15 := hidi h15
  have H16 := hidi h16
  have H17 := hidi h17
  have H18 := hidi h18
  have H19 := hidi h19
  have H20 := hidi h20
  have H21 := hidi h21
  clear h1 h2 h3 h4 h5 h6 h7 h8 h9 h10 h11 h12 h13 h14 h15 h16 h17 h18 h19 h20 h21
  have m20 : IntKind.i64.wrap (mark + 20) = mark + 20 := by rw [IntKind.wrap_i64]; omega
  have m40 : IntKind.i64.wrap (mark + 40) = mark + 40 := by rw [IntKind.wrap_i64]; omega
  have m60 : IntKind.i64.wrap (mark + 60) = mark + 60 := by rw [IntKind.wrap_i64]; omega
  have m80 : IntKind.i64.wrap (mark + 80) = mark + 80 := by rw [IntKind.wrap_i64]; omega
  clear hm
  have e1 : (ec == 0) = false := by simpa using hec
  have e2 : (ec != 0) = true := by simpa using hec
  clear hec
  go_enter Tryz.func7, Tryz.ntmps7
  go_wp2_with fail
  go_must (go_at_call 17)
  refine (H1.out).mono ?_
  rintro r w1 ⟨x, rfl, hk⟩
  have J1 := hidi (H2.out _ _ hk)
  clear hk
  go_wp2_with fail
  go_must (go_at_call 18)
  refine (J1.out).mono ?_
  rintro r w2 ⟨y, rfl, hk⟩
  have J2 := hidi (H3.out _ _ _ hk)
  clear hk J1
  go_wp2_with fail
  go_must (go_at_call 19)
  refine (J2.out).mono ?_
  rintro r w3 ⟨z, rfl, hk⟩
  have J3 := hidi (H4.out _ _ _ _ hk)
  clear hk J2
  go_wp2_with fail
  go_must (go_at_call 20)
  refine (J3.out).mono ?_
  rintro r w4 ⟨rfl, hk⟩
  have J4 := hidi (H5.out _ _ _ _ hk)
  clear hk J3
  go_wp2_with fail
  go_must (go_at_call 21)
  refine (J4.out).mono ?_
  rintro r w5 ⟨rfl, hk⟩
  have J5 := hidi (H6.out _ _ _ _ hk)
  clear hk J4
  go_wp2_with fail
  go_must (go_at_call 22)
  refine (J5.out).mono ?_
  rintro r w6 ⟨r1, rfl, hk⟩
  have J6 := hidi (H7.out _ _ _ _ _ hk)
  clear hk J5
  go_wp2_with fail
  go_must (go_at_call 10)
  refine (J6.out).mono ?_
  rintro r w7 ⟨q1, rfl, hk⟩
  have J7 := hidi (H8.out _ _ _ _ _ _ hk)
  clear hk J6
  go_wp2_with fail
  go_must (go_at_call 8)
  refine (J7.out).mono ?_
  rintro r w8 ⟨rfl, hk⟩
  have J8 := hidi (H9.out _ _ _ _ hk)
  clear hk J7
  go_wp2_with fail
  go_must (go_at_call 23)
  refine (J8.out).mono ?_
  rintro r w9 ⟨r1, rfl, hk⟩
  have J9 := hidi (H10.out _ _ _ _ _ hk)
  clear hk J8
  go_wp2_with fail
  go_must (go_at_call 10)
  refine (J9.out).mono ?_
  rintro r w10 ⟨q1, rfl, hk⟩
  have J10 := hidi (H11.out _ _ _ _ _ _ hk)
  clear hk J9
  go_wp2_with fail
  go_must (go_at_call 8)
  refine (J10.out).mono ?_
  rintro r w11 ⟨rfl, hk⟩
  have J11 := hidi (H12.out _ _ _ _ hk)
  clear hk J10
  go_wp2_with fail
  go_must (go_at_call 24)
  refine (J11.out).mono ?_
  rintro r w12 ⟨r1, rfl, hk⟩
  have J12 := hidi (H13.out _ _ _ _ _ hk)
  clear hk J11
  go_wp2_with fail
  go_must (go_at_call 10)
  refine (J12.out).mono ?_
  rintro r w13 ⟨q1, rfl, hk⟩
  have J13 := hidi (H14.out _ _ _ _ _ _ hk)
  clear hk J12
  go_wp2_with fail
  go_must (go_at_call 8)
  refine (J13.out).mono ?_
  rintro r w14 ⟨rfl, hk⟩
  have J14 := hidi (H15.out _ _ _ _ hk)
  clear hk J13
  go_wp2_with fail
  go_must (go_at_call 25)
  refine (J14.out).mono ?_
  rintro r w15 ⟨rfl, hk⟩
  have J15 := hidi (H16.out _ _ _ _ hk)
  clear hk J14
  go_wp2_with fail
  go_must (go_at_call 26)
  refine (J15.out).mono ?_
  rintro r w16 ⟨rfl, hk⟩
  have J16 := hidi (H17.out _ _ _ _ hk)
  clear hk J15
  go_wp2_with fail
  go_must (go_at_call 27)
  refine (num_o ec _).mono ?_
  rintro r w' ⟨rfl, he⟩
  obtain rfl := he.symm
  clear he
  go_wp2_with fail
  go_must (go_at_call 27)
  refine (num_o 11 _).mono ?_
  rintro r w' ⟨rfl, he⟩
  obtain rfl := he.symm
  clear he
  go_wp2_with fail
  go_must (go_at_call 28)
  refine (J16.out).mono ?_
  rintro r w17 ⟨rfl, hk⟩
  have J17 := hidi (H18.out _ _ _ hk)
  clear hk J16
  go_wp2_with fail
  go_must (go_at_call 28)
  refine (J17.out).mono ?_
  rintro r w18 ⟨rfl, hk⟩
  have J18 := hidi (H19.out _ _ hk)
  clear hk J17
  go_wp2_with fail
  go_must (go_at_call 28)
  refine (J18.out).mono ?_
  rintro r w19 ⟨rfl, hk⟩
  have J19 := hidi (H20.out _ hk)
  clear hk J18
  go_wp2_with fail
  go_must (go_at_call 28)
  refine (J19.out).mono ?_
  rintro r w20 ⟨rfl, hk⟩
  have J20 := hidi (H21.out _ hk)
  clear hk J19
  go_wp2_with fail
  go_must (go_at_call 28)
  refine (J20.out).mono ?_
  rintro r w21 ⟨rfl, hk⟩
  have Z := hidi hk
  clear hk
  go_wp2_with fail
  all_goals (try go_ret)
  all_goals exact Z.out
end Go.Proofs.YtkjeneklkdekoaaGreatDoor
