import Derived.Test.YtdhinpmjbcohaaaSiM
namespace Go.Proofs.Ytdhinpmjbcohaaa
open Go Go.RowKit
set_option linter.unusedSimpArgs false
set_option linter.unusedVariables false
open Si

theorem kn1 : (ltop (⟨#[97]⟩ : ByteArray) (1 : Int) []).take 2 = [(⟨#[97]⟩, 1)] := by decide
theorem kn2 : (ltop (⟨#[98]⟩ : ByteArray) (2 : Int) [(⟨#[97]⟩, 1)]).take 2 = [(⟨#[98]⟩, 2), (⟨#[97]⟩, 1)] := by decide
theorem kn3 : lused [((⟨#[98]⟩ : ByteArray), (2 : Int)), (⟨#[97]⟩, 1)] ⟨#[97]⟩ = [(⟨#[97]⟩, 1), (⟨#[98]⟩, 2)] := by decide
theorem kn3a : lget [((⟨#[98]⟩ : ByteArray), (2 : Int)), (⟨#[97]⟩, 1)] ⟨#[97]⟩ = some 1 := by decide
theorem kn4 : (ltop (⟨#[99]⟩ : ByteArray) (3 : Int) [(⟨#[97]⟩, 1), (⟨#[98]⟩, 2)]).take 2 = [(⟨#[99]⟩, 3), (⟨#[97]⟩, 1)] := by decide
theorem kn5 : lused [((⟨#[99]⟩ : ByteArray), (3 : Int)), (⟨#[97]⟩, 1)] ⟨#[98]⟩ = [(⟨#[99]⟩, 3), (⟨#[97]⟩, 1)] := by decide
theorem kn5a : lget [((⟨#[99]⟩ : ByteArray), (3 : Int)), (⟨#[97]⟩, 1)] ⟨#[98]⟩ = none := by decide
theorem kn6 : lout [((⟨#[99]⟩ : ByteArray), (3 : Int)), (⟨#[97]⟩, 1)] ⟨#[99]⟩ = [(⟨#[97]⟩, 1)] := by decide
theorem kn6a : lget [((⟨#[99]⟩ : ByteArray), (3 : Int)), (⟨#[97]⟩, 1)] ⟨#[99]⟩ = some 3 := by decide
theorem kn7 : lout [((⟨#[97]⟩ : ByteArray), (1 : Int))] ⟨#[99]⟩ = [(⟨#[97]⟩, 1)] := by decide
theorem kn7a : lget [((⟨#[97]⟩ : ByteArray), (1 : Int))] ⟨#[99]⟩ = none := by decide
theorem ok1 (x : UInt8) : okK (⟨#[x]⟩ : ByteArray) := by
  show (ByteArray.size ⟨#[x]⟩) ≤ maxLen
  simp [ByteArray.size, maxLen]

set_option maxRecDepth 100000 in
set_option maxHeartbeats 4000000 in
theorem known_any (w : World) : Calls Try.prog 13 #[] w fun r w' => r = .returned (.bool true) ∧ Below w.heap.size w w' := by
  have N0 : Hid (Calls Try.prog 25 #[.int .i64 2] w fun r w' => r = .returned (pt w.heap.size) ∧ St w w' w.heap.size 2 []) := new_st 2 w
  have P1 : Hid (∀ w1, St w w1 w.heap.size 2 [] → Calls Try.prog 31 #[pt w.heap.size, .string ⟨#[97]⟩, .int .i64 1] w1 fun r w' => r = .returned (.tuple #[]) ∧ St w w' w.heap.size 2 [(⟨#[97]⟩, 1)]) := fun w1 h => by
    have := put_st (k := ⟨#[97]⟩) (v := 1) h (ok1 97) (by decide)
    rwa [kn1] at this
  have P2 : Hid (∀ w1, St w w1 w.heap.size 2 [(⟨#[97]⟩, 1)] → Calls Try.prog 31 #[pt w.heap.size, .string ⟨#[98]⟩, .int .i64 2] w1 fun r w' => r = .returned (.tuple #[]) ∧ St w w' w.heap.size 2 [(⟨#[98]⟩, 2), (⟨#[97]⟩, 1)]) := fun w1 h => by
    have := put_st (k := ⟨#[98]⟩) (v := 2) h (ok1 98) (by decide)
    rwa [kn2] at this
  have G3 : Hid (∀ w1, St w w1 w.heap.size 2 [(⟨#[98]⟩, 2), (⟨#[97]⟩, 1)] → Calls Try.prog 29 #[pt w.heap.size, .string ⟨#[97]⟩] w1 fun r w' => r = .returned (.tuple #[.int .i64 1, .bool true]) ∧ St w w' w.heap.size 2 [(⟨#[97]⟩, 1), (⟨#[98]⟩, 2)]) := fun w1 h => by
    have := get_st (k := ⟨#[97]⟩) h (ok1 97)
    rw [kn3, kn3a] at this
    exact this
  have P4 : Hid (∀ w1, St w w1 w.heap.size 2 [(⟨#[97]⟩, 1), (⟨#[98]⟩, 2)] → Calls Try.prog 31 #[pt w.heap.size, .string ⟨#[99]⟩, .int .i64 3] w1 fun r w' => r = .returned (.tuple #[]) ∧ St w w' w.heap.size 2 [(⟨#[99]⟩, 3), (⟨#[97]⟩, 1)]) := fun w1 h => by
    have := put_st (k := ⟨#[99]⟩) (v := 3) h (ok1 99) (by decide)
    rwa [kn4] at this
  have G5 : Hid (∀ w1, St w w1 w.heap.size 2 [(⟨#[99]⟩, 3), (⟨#[97]⟩, 1)] → Calls Try.prog 29 #[pt w.heap.size, .string ⟨#[98]⟩] w1 fun r w' => r = .returned (.tuple #[.int .i64 0, .bool false]) ∧ St w w' w.heap.size 2 [(⟨#[99]⟩, 3), (⟨#[97]⟩, 1)]) := fun w1 h => by
    have := get_st (k := ⟨#[98]⟩) h (ok1 98)
    rw [kn5, kn5a] at this
    exact this
  have O5 : Hid (∀ w1, St w w1 w.heap.size 2 [(⟨#[99]⟩, 3), (⟨#[97]⟩, 1)] → Calls Try.prog 38 #[pt w.heap.size] w1 fun r w' => r = .returned (.tuple #[.string ⟨#[97]⟩, .bool true]) ∧ w' = w1) := fun w1 h => oldest_st h
  have L5 : Hid (∀ w1, St w w1 w.heap.size 2 [(⟨#[99]⟩, 3), (⟨#[97]⟩, 1)] → Calls Try.prog 37 #[pt w.heap.size] w1 fun r w' => r = .returned (.int .i64 2) ∧ w' = w1) := fun w1 h => len_st h
  have D6 : Hid (∀ w1, St w w1 w.heap.size 2 [(⟨#[99]⟩, 3), (⟨#[97]⟩, 1)] → Calls Try.prog 33 #[pt w.heap.size, .string ⟨#[99]⟩] w1 fun r w' => r = .returned (.bool true) ∧ St w w' w.heap.size 2 [(⟨#[97]⟩, 1)]) := fun w1 h => by
    have := drop_st (k := ⟨#[99]⟩) h (ok1 99)
    rw [kn6, kn6a] at this
    exact this
  have D7 : Hid (∀ w1, St w w1 w.heap.size 2 [(⟨#[97]⟩, 1)] → Calls Try.prog 33 #[pt w.heap.size, .string ⟨#[99]⟩] w1 fun r w' => r = .returned (.bool false) ∧ St w w' w.heap.size 2 [(⟨#[97]⟩, 1)]) := fun w1 h => by
    have := drop_st (k := ⟨#[99]⟩) h (ok1 99)
    rw [kn7, kn7a] at this
    exact this
  have C8 : Hid (∀ w1, St w w1 w.heap.size 2 [(⟨#[97]⟩, 1)] → Calls Try.prog 35 #[pt w.heap.size] w1 fun r w' => r = .returned (.int .i64 1) ∧ St w w' w.heap.size 2 []) := fun w1 h => clear_st h
  have L9 : Hid (∀ w1, St w w1 w.heap.size 2 [] → Calls Try.prog 37 #[pt w.heap.size] w1 fun r w' => r = .returned (.int .i64 0) ∧ w' = w1) := fun w1 h => len_st h
  have BB : Hid (∀ w1, St w w1 w.heap.size 2 [] → Below w.heap.size w w1) := fun w1 h => h.below
  unfold pt at N0 P1 P2 G3 P4 G5 O5 L5 D6 D7 C8 L9
  go_enter Try.func13, Try.ntmps13
  go_wp2_with fail
  go_must (go_at_call 25)
  refine (N0.out).mono ?_
  rintro r w1 ⟨rfl, h1⟩
  have s1 : Hid (St w w1 w.heap.size 2 []) := h1
  clear h1
  go_wp2_with fail
  go_must (go_at_call 31)
  refine (P1.out w1 s1.out).mono ?_
  rintro r w2 ⟨rfl, h1⟩
  have s2 : Hid (St w w2 w.heap.size 2 [(⟨#[97]⟩, 1)]) := h1
  clear h1
  go_wp2_with fail
  go_must (go_at_call 31)
  refine (P2.out w2 s2.out).mono ?_
  rintro r w3 ⟨rfl, h1⟩
  have s3 : Hid (St w w3 w.heap.size 2 [(⟨#[98]⟩, 2), (⟨#[97]⟩, 1)]) := h1
  clear h1
  go_wp2_with fail
  go_must (go_at_call 29)
  refine (G3.out w3 s3.out).mono ?_
  rintro r w4 ⟨rfl, h1⟩
  have s4 : Hid (St w w4 w.heap.size 2 [(⟨#[97]⟩, 1), (⟨#[98]⟩, 2)]) := h1
  clear h1
  go_wp2_with fail
  go_must (go_at_call 31)
  refine (P4.out w4 s4.out).mono ?_
  rintro r w5 ⟨rfl, h1⟩
  have s5 : Hid (St w w5 w.heap.size 2 [(⟨#[99]⟩, 3), (⟨#[97]⟩, 1)]) := h1
  clear h1
  go_wp2_with fail
  go_must (go_at_call 29)
  refine (G5.out w5 s5.out).mono ?_
  rintro r w6 ⟨rfl, h1⟩
  have s6 : Hid (St w w6 w.heap.size 2 [(⟨#[99]⟩, 3), (⟨#[97]⟩, 1)]) := h1
  clear h1
  go_wp2_with fail
  go_must (go_at_call 38)
  refine (O5.out w6 s6.out).mono ?_
  rintro r w' ⟨rfl, he⟩
  obtain rfl := he.symm
  clear he
  go_wp2_with fail
  go_must (go_at_call 37)
  refine (L5.out w6 s6.out).mono ?_
  rintro r w' ⟨rfl, he⟩
  obtain rfl := he.symm
  clear he
  go_wp2_with fail
  go_must (go_at_call 33)
  refine (D6.out w6 s6.out).mono ?_
  rintro r w7 ⟨rfl, h1⟩
  have s7 : Hid (St w w7 w.heap.size 2 [(⟨#[97]⟩, 1)]) := h1
  clear h1
  go_wp2_with fail
  go_must (go_at_call 33)
  refine (D7.out w7 s7.out).mono ?_
  rintro r w8 ⟨rfl, h1⟩
  have s8 : Hid (St w w8 w.heap.size 2 [(⟨#[97]⟩, 1)]) := h1
  clear h1
  go_wp2_with fail
  go_must (go_at_call 35)
  refine (C8.out w8 s8.out).mono ?_
  rintro r w9 ⟨rfl, h1⟩
  have s9 : Hid (St w w9 w.heap.size 2 []) := h1
  clear h1
  go_wp2_with fail
  go_must (go_at_call 37)
  refine (L9.out w9 s9.out).mono ?_
  rintro r w' ⟨rfl, he⟩
  obtain rfl := he.symm
  clear he
  go_wp2_with fail
  go_ret
  exact ⟨rfl, BB.out w9 s9.out⟩
end Go.Proofs.Ytdhinpmjbcohaaa
