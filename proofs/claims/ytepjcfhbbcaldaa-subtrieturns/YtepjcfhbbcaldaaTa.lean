import Derived.Test.YtepjcfhbbcaldaaShelf
import Derived.Test.YtepjcfhbbcaldaaRk
import Derived.Laws.Runes
import Derived.WalkMore
import Derived.Deep.QuietTactic
import Derived.BigQuiet
namespace Go.Proofs.Ytepjcfhbbcaldaa
open Go Go.RowKit
set_option linter.unusedSimpArgs false
set_option linter.unusedVariables false

set_option maxRecDepth 1000000 in
set_option maxHeartbeats 400000 in
theorem rune_bad (r : Int) (h : 128 ≤ r) (hn : ¬ r = 65533) (hv : Lib.validRune r = false) (w : World) : Calls Try.prog 87 #[.string ⟨#[43, 35]⟩, .int .i32 r] w fun e w' => e = .returned (.int .i64 (-1)) ∧ Below w.heap.size w w' := by
  have h1 : ¬ r < 128 := by omega
  have h0 : 0 ≤ r := by omega
  go_enter Try.func87, Try.ntmps87
  go_wp2_with (go_at_call 102; refine (Try.utf8_ValidRune _ _).mono ?_; rintro e w' ⟨rfl, rfl⟩; rw [hv])
  go_ret
  exact ⟨rfl, Below.refl _ _⟩

theorem valid_rune (r : Int) (h : Lib.validRune r = true) : Utf8.valid r = true := by
  revert h
  simp [Lib.validRune, Utf8.valid]
  omega

set_option maxRecDepth 1000000 in
set_option maxHeartbeats 400000 in
theorem rune_good (r : Int) (h : 128 ≤ r) (hn : ¬ r = 65533) (hv : Lib.validRune r = true) (w : World) : Calls Try.prog 87 #[.string ⟨#[43, 35]⟩, .int .i32 r] w fun e w' => e = .returned (.int .i64 (-1)) ∧ Below w.heap.size w w' := by
  have h1 : ¬ r < 128 := by omega
  have h0 : 0 ≤ r := by omega
  have hcv : ∀ w, (convert 21 9 (.int .i32 r)).run Try.prog w = .ok (.string (Utf8.encode r)) w := fun w => run_convert_int_string w 21 9 .i32 r (by rw [Try.underlying21]; rfl) Try.underlying9
  obtain ⟨f1, f2, f3⟩ := encode_facts r (valid_rune r hv) h
  generalize Utf8.encode r = rs at *
  have hs3 : rs.size = 2 ∨ rs.size = 3 ∨ rs.size = 4 := by omega
  rcases hs3 with hs | hs | hs
  · have f4 := f3 (by omega)
    have hs' : (rs.size : Int) - 1 = 1 := by omega
    have hl : (1 : Int) < rs.size := by omega
    obtain ⟨x, hx⟩ : ∃ x : UInt8, rs[1]'(by omega) = x := ⟨_, rfl⟩
    have hx2 : 128 ≤ x.toNat := by rw [← hx]; simpa [hs] using f4
    have hne : ((((⟨#[43, 35]⟩ : ByteArray)[1]'(by decide)).toNat : Int) != (x.toNat : Int)) = true := by
      have e : ((⟨#[43, 35]⟩ : ByteArray)[1]'(by decide)).toNat = 35 := rfl
      rw [e]; simp; omega
    have IB : Hid (∀ w, Calls Try.prog 101 #[.string ByteArray.empty, .int .u8 (x.toNat : Int)] w fun e w' => e = .returned (.int .i64 (-1)) ∧ w' = w) := fun w => Try.strings_IndexByte ByteArray.empty _ w
    have hw2 : IntKind.i64.wrap 2 = 2 := by kernel_rfl
    clear f3 f4 f1 f2 h
    go_enter Try.func87, Try.ntmps87
    go_wp2_with (go_at_call 102; refine (Try.utf8_ValidRune _ _).mono ?_; rintro e w' ⟨rfl, rfl⟩; rw [hv])
    go_step3
    go_wp2
    go_loopw [9, 10] (fun i f wx => i = .int .i64 1 ∧ f = .int .i64 0 ∧ wx = w') (fun _ _ _ => 0)
    case atStart => exact ⟨by first | rfl | simp [hs'], rfl, rfl⟩
    case round =>
      obtain ⟨rfl, rfl, rfl⟩ := hrel
      go_wp2
      go_step3
      go_wp2
      go_quiet (fail)
      have hb1 : Below wr.heap.size wr (wr.drewN nq) := below_drewN (Below.refl _ _) nq
      obtain ⟨w1, hw1⟩ : ∃ w1, w1 = wr.drewN nq := ⟨_, rfl⟩
      rw [← hw1] at hb1 ⊢
      have B1 : Hid (Below wr.heap.size wr w1) := hb1
      clear hw1 hb1
      go_wp2
      go_quiet ((go_at_call 101; exact Calls.quiet_of_same (IB.out _)))
      have hb2 : Below w1.heap.size w1 (w1.drewN nq) := below_drewN (Below.refl _ _) nq
      obtain ⟨w2, hw2⟩ : ∃ w2, w2 = w1.drewN nq := ⟨_, rfl⟩
      rw [← hw2] at hb2 ⊢
      have B2 : Hid (Below wr.heap.size wr w2) := B1.out.trans (hb2.mono B1.out.size)
      clear hw2 hb2
      go_wp2
      exact bodyPost_ret (P := Try.prog) (fn := Try.f87) (R := fun e w' => e = Ending.returned (Value.int IntKind.i64 (-1)) ∧ Below wr.heap.size wr w') (results_tmp rfl _ _ _) rfl ⟨rfl, B2.out⟩
  · have hs' : (rs.size : Int) - 1 = 2 := by omega
    clear f3 f1 f2 h
    go_enter Try.func87, Try.ntmps87
    go_wp2_with (go_at_call 102; refine (Try.utf8_ValidRune _ _).mono ?_; rintro e w' ⟨rfl, rfl⟩; rw [hv])
    go_step3
    go_wp2
    go_loopw [9, 10] (fun i f wx => i = .int .i64 2 ∧ f = .int .i64 0 ∧ wx = w') (fun _ _ _ => 0)
    case atStart => exact ⟨by first | rfl | simp, rfl, rfl⟩
    case round =>
      obtain ⟨rfl, rfl, rfl⟩ := hrel
      go_wp2
      try rw [Exit.noGoto_ret]
      go_ret
      exact ⟨rfl, Below.refl _ _⟩
  · have hs' : (rs.size : Int) - 1 = 3 := by omega
    clear f3 f1 f2 h
    go_enter Try.func87, Try.ntmps87
    go_wp2_with (go_at_call 102; refine (Try.utf8_ValidRune _ _).mono ?_; rintro e w' ⟨rfl, rfl⟩; rw [hv])
    go_step3
    go_wp2
    go_loopw [9, 10] (fun i f wx => i = .int .i64 3 ∧ f = .int .i64 0 ∧ wx = w') (fun _ _ _ => 0)
    case atStart => exact ⟨by first | rfl | simp, rfl, rfl⟩
    case round =>
      obtain ⟨rfl, rfl, rfl⟩ := hrel
      go_wp2
      try rw [Exit.noGoto_ret]
      go_ret
      exact ⟨rfl, Below.refl _ _⟩

set_option maxRecDepth 1000000 in
set_option maxHeartbeats 400000 in
theorem rune_err (w : World) : Calls Try.prog 87 #[.string ⟨#[43, 35]⟩, .int .i32 65533] w fun e w' => e = .returned (.int .i64 (-1)) ∧ Below w.heap.size w w' := by
  go_enter Try.func87, Try.ntmps87
  go_wp2
  go_loopw [5, 6] (fun i c w' => ∃ k : Nat, w' = w.iter ⟨#[43, 35]⟩ k ∧ k ≤ 2) (fun _ _ w' => 2 - w'.iterPos w.heap.size)
  case atStart => exact ⟨0, rfl, by omega⟩
  case round =>
    obtain ⟨k, rfl, hk⟩ := hrel
    have : k = 0 ∨ k = 1 ∨ k = 2 := by omega
    rcases this with rfl | rfl | rfl
    · have hnx : ∀ ty, (Instr.next (.pointer (some ⟨w.heap.size, 0, none⟩)) true ty).run Try.prog (w.iter ⟨#[43, 35]⟩ 0) = .ok (.tuple #[.bool true, .int .i64 0, .int .i32 43]) (w.iter ⟨#[43, 35]⟩ 1) := fun ty => run_next_any w ⟨#[43, 35]⟩ 0 ty (by decide)
      go_wp2
      go_roundw
      case rel => exact ⟨1, rfl, by omega⟩
      case measure => simp
    · have hnx : ∀ ty, (Instr.next (.pointer (some ⟨w.heap.size, 0, none⟩)) true ty).run Try.prog (w.iter ⟨#[43, 35]⟩ 1) = .ok (.tuple #[.bool true, .int .i64 1, .int .i32 35]) (w.iter ⟨#[43, 35]⟩ 2) := fun ty => run_next_any w ⟨#[43, 35]⟩ 1 ty (by decide)
      go_wp2
      go_roundw
      case rel => exact ⟨2, rfl, by omega⟩
      case measure => simp
    · have hnx : ∀ ty, (Instr.next (.pointer (some ⟨w.heap.size, 0, none⟩)) true ty).run Try.prog (w.iter ⟨#[43, 35]⟩ 2) = _ := fun ty => run_next_end w ⟨#[43, 35]⟩ 2 ty (by decide)
      go_wp2
      go_ret
      exact ⟨rfl, below_iter _ _ _⟩
end Go.Proofs.Ytepjcfhbbcaldaa
