import Derived.Test.YtglnldopnoafoaaWp
namespace Go.Proofs.Ytglnldopnoafoaa
open Go Go.RowKit
set_option linter.unusedSimpArgs false
set_option linter.unusedVariables false

set_option maxRecDepth 100000 in
set_option maxHeartbeats 1000000 in
theorem same_any (xs : List ByteArray) (hl : xs.length ≤ 1000) (va vb : Value) (w : World) (Ra : Row w va xs) (Rb : Row w vb xs) : Calls Try.prog 33 #[va, vb] w fun e w' => e = .returned (.bool true) ∧ ∃ k, w' = w.drewN k := by
  obtain ⟨a, n, cap, rfl, hn, hc, hx⟩ := Ra
  obtain ⟨a2, n2, cap2, rfl, hn2, hc2, hx2⟩ := Rb
  obtain rfl : n2 = n := by omega
  have HN : Hid (n2 = xs.length ∧ n2 ≤ 1000 ∧ n2 ≤ cap ∧ n2 ≤ cap2) := ⟨hn, by omega, hc, hc2⟩
  have H1 : Hid (xs ≠ [] → ∃ g o, a = some ⟨g, o, none⟩ ∧ ∀ k x, xs[k]? = some x → w.cell? ⟨g, o + k, none⟩ = some (.string x)) := fun h => by obtain ⟨g, o, h1, _, h2⟩ := hx h; exact ⟨g, o, h1, h2⟩
  have H2 : Hid (xs ≠ [] → ∃ g o, a2 = some ⟨g, o, none⟩ ∧ ∀ k x, xs[k]? = some x → w.cell? ⟨g, o + k, none⟩ = some (.string x)) := fun h => by obtain ⟨g, o, h1, _, h2⟩ := hx2 h; exact ⟨g, o, h1, h2⟩
  clear hx hx2 hn hn2 hc hc2 hl
  go_enter Try.func33, Try.ntmps33
  go_wp2_with fail
  go_loopg [5] n2 (fun gk s5 wx => ∃ j : Nat, j + gk = n2 ∧ s5 = .int .i64 j ∧ Hid (∃ k, wx = w.drewN k))
  case atStart => exact ⟨0, by omega, rfl, 0, rfl⟩
  case round =>
    obtain ⟨j, hj, rfl, HW⟩ := hrel
    cases gk with
    | zero =>
      have hjz : ¬ (j : Int) < (n2 : Int) := by omega
      go_wp2_with fail
      go_ret
      exact ⟨rfl, HW.out⟩
    | succ gk =>
      have hjz : (j : Int) < (n2 : Int) := by omega
      have hj0 : (0 : Int) ≤ (j : Int) := by omega
      have hwj : IntKind.i64.wrap ((j : Int) + 1) = (j : Int) + 1 := by rw [IntKind.wrap_i64]; have := HN.out; omega
      obtain ⟨x, hx⟩ : ∃ x, xs[j]? = some x := ⟨_, List.getElem?_eq_getElem (by have := HN.out; omega)⟩
      have hne : xs ≠ [] := by intro h; rw [h] at hx; simp at hx
      obtain ⟨g, o, rfl, hk⟩ := H1.out hne
      obtain ⟨g2, o2, rfl, hk2⟩ := H2.out hne
      obtain ⟨k, hw⟩ := HW.out
      have c1 : wr.cell? ⟨g, o + j, none⟩ = some (.string x) := by rw [hw]; exact hk j x hx
      have c2 : wr.cell? ⟨g2, o2 + j, none⟩ = some (.string x) := by rw [hw]; exact hk2 j x hx
      have HW2 : Hid (∀ m, ∃ k, wr.drewN m = w.drewN k) := fun m => ⟨k + m, by rw [hw, World.drewN_drewN]⟩
      clear hk hk2 hw hx hne H1 H2 HW
      go_wp2_with fail
      go_quiet (fail)
      have HW3 : Hid (∃ k, wr.drewN nq = w.drewN k) := HW2.out nq
      go_wp2_with fail
      go_roundg gk
      case measure => omega
      case rel => exact ⟨j + 1, by omega, by first | rfl | simp, HW3⟩
theorem meet_lit (f g : ByteArray) (t : Bs) (h : meetP f g = some t) (w : World) : Calls Try.prog 7 #[.string f, .string g] w fun e w' => e = .returned (.tuple #[.string (mkB t), .bool true]) ∧ Below w.heap.size w w' := by
  have := meet_any f g w
  rw [h] at this
  exact this
theorem meet_lit0 (f g : ByteArray) (h : meetP f g = none) (w : World) : Calls Try.prog 7 #[.string f, .string g] w fun e w' => e = .returned (.tuple #[.string (mkB []), .bool false]) ∧ Below w.heap.size w w' := by
  have := meet_any f g w
  rw [h] at this
  exact this
theorem out_lit (f g : ByteArray) (t : Bs) (h : outP f g = some t) (w : World) : Calls Try.prog 10 #[.string f, .string g] w fun e w' => e = .returned (.tuple #[.string (mkB t), .bool true]) ∧ Below w.heap.size w w' := by
  have := outf_any f g w
  rw [h] at this
  exact this
theorem out_lit0 (f g : ByteArray) (h : outP f g = none) (w : World) : Calls Try.prog 10 #[.string f, .string g] w fun e w' => e = .returned (.tuple #[.string (mkB []), .bool false]) ∧ Below w.heap.size w w' := by
  have := outf_any f g w
  rw [h] at this
  exact this
theorem k1 : meetP ⟨#[97, 47, 43]⟩ ⟨#[43, 47, 98]⟩ = some [97, 47, 98] := by kernel_rfl
theorem k2 : meetP ⟨#[43]⟩ ⟨#[36, 97]⟩ = none := by kernel_rfl
theorem k3 : outP ⟨#[35]⟩ ⟨#[43, 47, 35]⟩ = none := by kernel_rfl
theorem k4 : outP ⟨#[97, 47, 35]⟩ ⟨#[97, 47, 43]⟩ = some [97] := by kernel_rfl
theorem k5 : lea 4 [⟨#[97, 47, 98]⟩, ⟨#[97, 47, 43]⟩, ⟨#[43, 47, 35]⟩, ⟨#[35]⟩] = [⟨#[43, 47, 35]⟩] := by kernel_rfl
theorem k6 : mch ⟨#[97, 47, 35]⟩ (mkB [97]) = true := by kernel_rfl
theorem k7 : mch ⟨#[97, 47, 43]⟩ (mkB [97]) = false := by kernel_rfl
theorem k8 : inP ⟨#[97, 47, 98]⟩ ⟨#[97, 47, 43]⟩ = true := by kernel_rfl
theorem k9 : inP ⟨#[97, 47, 43]⟩ ⟨#[97, 47, 98]⟩ = false := by kernel_rfl
end Go.Proofs.Ytglnldopnoafoaa
