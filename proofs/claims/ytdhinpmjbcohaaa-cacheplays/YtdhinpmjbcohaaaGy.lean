import Derived.Test.YtdhinpmjbcohaaaGx
namespace Go.Proofs.Ytdhinpmjbcohaaa
open Go Go.RowKit Go.Shelf
set_option linter.unusedSimpArgs false
set_option linter.unusedVariables false
open Rf (e2 e2_len e2_app e2_one ER own_er own_shape app_many addr0)

/-- given's own variables. -/
def gvw (w : World) (cb mb kb vb : Nat) (n : Int) : World := ((((w.alloc (.cells #[pt cb, pt mb, pt kb, pt vb] 28)).alloc (.cells #[.int .i64 n] 3)).alloc (.cells #[.slice none 0 0] 77)).alloc (.cells #[.bool true] 4)).alloc (.cells #[.bool false] 4)
theorem func_ne (w : World) (q : Value) : (binOp .eql 84 (.func (.func 60) #[] #[q]) .nilFunc).run Try.prog w = .ok (.bool false) w := by kernel_rfl
set_option maxRecDepth 100000 in
set_option maxHeartbeats 2000000 in
theorem given_zero {w : World} {cb mb kb vb Bc : Nat} : Calls Try.prog 41 #[.agg #[pt cb, pt mb, pt kb, pt vb], .func (.func 60) #[] #[.pointer (some ⟨Bc, 0, none⟩)], .int .i64 0] w fun r w' => r = .returned (.tuple #[.slice none 0 0, .bool true]) ∧ Below w.heap.size w w' := by
  have hf := func_ne ((w.alloc (.cells #[pt cb, pt mb, pt kb, pt vb] 28)).alloc (.cells #[.int .i64 0] 3)) (.pointer (some ⟨Bc, 0, none⟩))
  have B0 : Hid (Below w.heap.size w ((w.alloc (.cells #[pt cb, pt mb, pt kb, pt vb] 28)).alloc (.cells #[.int .i64 0] 3))) := ((Below.refl _ _).alloc (Nat.le_refl _) _).alloc (by simp) _
  unfold pt at *
  go_enter Try.func41, Try.ntmps41
  go_wp2_with fail
  go_ret2
  exact ⟨rfl, B0.out⟩
set_option maxRecDepth 100000 in
set_option maxHeartbeats 2000000 in
theorem given_walk {w : World} {cb mb kb vb Bc : Nat} {n : Int} (hn : n ≠ 0) {R1 : World → Prop} (h60 : Calls Try.prog 60 #[.func (.func 62) #[] #[pt (w.heap.size + 4), pt (w.heap.size + 3), pt (w.heap.size + 2), pt w.heap.size, pt (w.heap.size + 1)], .pointer (some ⟨Bc, 0, none⟩)] (gvw w cb mb kb vb n) fun r w' => (∃ v, r = .returned v) ∧ R1 w')
    (R : Ending → World → Prop) (hR : ∀ w1, R1 w1 → ∃ a m c, w1.cell? ⟨w.heap.size + 2, 0, none⟩ = some (.slice a m c) ∧ w1.cell? ⟨w.heap.size + 3, 0, none⟩ = some (.bool true) ∧ R (.returned (.tuple #[.slice a m c, .bool true])) w1.drew) :
    Calls Try.prog 41 #[.agg #[pt cb, pt mb, pt kb, pt vb], .func (.func 60) #[] #[.pointer (some ⟨Bc, 0, none⟩)], .int .i64 n] w R := by
  have hf := func_ne ((w.alloc (.cells #[pt cb, pt mb, pt kb, pt vb] 28)).alloc (.cells #[.int .i64 n] 3)) (.pointer (some ⟨Bc, 0, none⟩))
  have hn0 : (n == 0) = false := by simpa using hn
  have H60 : Hid (Calls Try.prog 60 #[.func (.func 62) #[] #[pt (w.heap.size + 4), pt (w.heap.size + 3), pt (w.heap.size + 2), pt w.heap.size, pt (w.heap.size + 1)], .pointer (some ⟨Bc, 0, none⟩)] (gvw w cb mb kb vb n) fun r w' => (∃ v, r = .returned v) ∧ R1 w') := h60
  have HR : Hid (∀ w1, R1 w1 → ∃ a m c, w1.cell? ⟨w.heap.size + 2, 0, none⟩ = some (.slice a m c) ∧ w1.cell? ⟨w.heap.size + 3, 0, none⟩ = some (.bool true) ∧ R (.returned (.tuple #[.slice a m c, .bool true])) w1.drew) := hR
  clear h60 hR hn
  unfold gvw pt at *
  go_enter Try.func41, Try.ntmps41
  go_wp2_with fail
  go_must (go_at_call 60)
  refine (H60.out).mono ?_
  rintro r w1 ⟨⟨u, rfl⟩, h1⟩
  obtain ⟨a, m, c, c1, c2, h2⟩ := HR.out w1 h1
  have Z : Hid (R (.returned (.tuple #[.slice a m c, .bool true])) w1.drew) := h2
  clear h1 h2
  go_wp2_with fail
  go_region
  all_goals go_wp2_with fail
  all_goals (try go_ret2)
  all_goals exact Z.out
end Go.Proofs.Ytdhinpmjbcohaaa
