import Derived.Test.YtmihpmmkkklpfaaGreatDoorNd
import Derived.Shelf.Spec.TrailingZeros
import Derived.Deep.LoopGhost
namespace Go.Proofs.YtmihpmmkkklpfaaGreatDoor
open Go Go.RowKit
set_option linter.unusedSimpArgs false
set_option linter.unusedVariables false
/-- What the library's TrailingZeros64 answers. -/
def TzOk (w : World) : Prop := ∀ x : Nat, x < 18446744073709551616 → x ≠ 0 → Calls Tryz.prog 131 #[.int .u64 x] w fun e w' => e = .returned (.int .i64 (Lib.ctz 64 x)) ∧ w' = w
theorem anot_nat (x y : Nat) (hx : x < 18446744073709551616) (hy : y < 18446744073709551616) : bits BinOp.andNot IntKind.u64 (x : Int) (y : Int) = ((x &&& (18446744073709551615 - y) : Nat) : Int) := u64_andNot_nat x y hx hy
theorem xor_all (x : Nat) (hx : x < 18446744073709551616) : bits BinOp.xor IntKind.u64 IntKind.u64.max (x : Int) = ((18446744073709551615 - x : Nat) : Int) := by
  have e : IntKind.u64.max = ((18446744073709551615 : Nat) : Int) := by decide
  rw [e, u64_xor_nat _ _ (by omega) hx]
  congr 1
  apply Nat.eq_of_testBit_eq
  intro q
  rw [Nat.testBit_xor, comp_bit x q hx]
  have h1 := Nat.testBit_two_pow_sub_one 64 q
  have e2 : (2 : Nat) ^ 64 - 1 = 18446744073709551615 := by decide
  rw [e2] at h1
  rw [h1]
  by_cases hq : q < 64
  · simp [hq]
  · have : x.testBit q = false := Nat.testBit_lt_two_pow (Nat.lt_of_lt_of_le hx (by have := Nat.pow_le_pow_right (n := 2) (by omega) (Nat.le_of_not_lt hq); simpa using this))
    simp [hq, this]
theorem and_lt (a b : Nat) (h : a < 18446744073709551616) : a &&& b < 18446744073709551616 := Nat.lt_of_le_of_lt Nat.and_le_left h
theorem upto_bt (id : Nat) : bt id ||| (bt id - 1) < 18446744073709551616 := upto_lt (id % 64) (Nat.mod_lt _ (by omega))
theorem or_nat (a b : Nat) (ha : a < 18446744073709551616) (hb : b < 18446744073709551616) : bits BinOp.or IntKind.u64 (a : Int) (b : Int) = ((a ||| b : Nat) : Int) := bits_or_u64_nat a b ha hb
set_option maxRecDepth 100000 in
set_option maxHeartbeats 1000000 in
theorem above_walk (nb i last : Nat) (mv : Value) (W : Nat → Nat) (T : Nat → Bool) (w : World) (hl : last ≤ 65535) (hc : w.cell? ⟨nb, i, none⟩ = some mv) (hW : WB W T) (hlk : ∀ k : Nat, k < 1024 → (Instr.lookup 97 mv (.int .i64 (k : Int)) false).run Tryz.prog w = .ok (.int .u64 (W k)) w) (hT : TzOk w) (hfree : ∃ j, 1 ≤ j ∧ j ≤ 65535 ∧ T j = false) :
    Calls Tryz.prog 101 #[.pointer (some ⟨nb, i, none⟩), .int .i64 last] w fun e w' => (∃ id : Nat, e = .returned (.int .i64 id) ∧ Abv T last id) ∧ w' = w := by
  have hb := bit_any last
  have hb0 := bit_any 0
  have HT : Hid (TzOk w) := hT
  have HW : Hid (WB W T) := hW
  have HL : Hid (∀ k : Nat, k < 1024 → (Instr.lookup 97 mv (.int .i64 (k : Int)) false).run Tryz.prog w = .ok (.int .u64 (W k)) w) := hlk
  have HF : Hid (∃ j, 1 ≤ j ∧ j ≤ 65535 ∧ T j = false) := hfree
  clear hT hW hlk hfree
  go_enter Tryz.func101, Tryz.ntmps101
  go_wp2_with fail
  go_loopg [8] 1025 (fun gk s8 wx => ∃ j : Nat, j + gk = 1025 ∧ s8 = .int .i64 j ∧ Hid (∀ q, 1 ≤ q → q ≤ 65535 → pos last q < j → T q = true) ∧ Hid (wx = w))
  case atStart => exact ⟨0, by omega, rfl, fun q _ _ h => absurd h (Nat.not_lt_zero _), rfl⟩
  case round =>
    obtain ⟨j, hj, rfl, HI, HX⟩ := hrel
    obtain rfl : wr = w := HX.out
    clear HX
    cases gk with
    | zero =>
      exfalso
      obtain ⟨q, q1, q2, q3⟩ := HF.out
      have := HI.out q q1 q2 (by have := pos_le last q hl q2; omega)
      rw [this] at q3
      cases q3
    | succ gk =>
      obtain ⟨bl, hbl⟩ : ∃ bl : Nat, bl = (last / 64 + j) % 1024 := ⟨_, rfl⟩
      have hbl2 : ((last : Int) / 64 + (j : Int)) % 1024 = (bl : Int) := by omega
      have hw0 : IntKind.i64.wrap ((last : Int) / 64) = (last : Int) / 64 := by rw [IntKind.wrap_i64]; omega
      have hw1 : IntKind.i64.wrap ((last : Int) / 64 + (j : Int)) = (last : Int) / 64 + (j : Int) := by rw [IntKind.wrap_i64]; omega
      have hw2 : IntKind.i64.wrap ((j : Int) + 1) = (j : Int) + 1 := by rw [IntKind.wrap_i64]; omega
      have hlk := HL.out bl (by omega)
      obtain ⟨x, hx⟩ : ∃ x, x = W bl := ⟨_, rfl⟩
      have hx64 : x < 18446744073709551616 := by rw [hx]; exact (HW.out bl).1
      rw [← hx] at hlk
      have hlt : (j : Int) < 1025 := by omega
      have HB : Hid (bl = (last / 64 + j) % 1024) := hbl
      have HXX : Hid (x = W bl) := hx
      clear hbl hx
      have hF0l : 18446744073709551615 - x < 18446744073709551616 := by omega
      have c1 := xor_all x hx64
      have c0 : bits BinOp.xor IntKind.u64 (if IntKind.u64.signed = true then -1 else IntKind.u64.max) (x : Int) = ((18446744073709551615 - x : Nat) : Int) := by rw [if_neg (by decide)]; exact xor_all x hx64
      have c2 : IntKind.u64.wrap ((bt last : Int) - 1) = ((bt last - 1 : Nat) : Int) := by rw [IntKind.wrap_u64]; have := bt_lt last; have := bt_pos last; omega
      have c3 := or_nat (bt last) (bt last - 1) (bt_lt last) (by have := bt_lt last; omega)
      have c4 := anot_nat (18446744073709551615 - x) _ hF0l (upto_bt last)
      have c5 := anot_nat ((18446744073709551615 - x) &&& (18446744073709551615 - (bt last ||| (bt last - 1)))) (bt 0) (and_lt _ _ hF0l) (bt_lt 0)
      have c6 := anot_nat (18446744073709551615 - x) (bt 0) hF0l (bt_lt 0)
      have HFl : Hid (∀ a b, fill x (last % 64) a b = (if b then (if a then (18446744073709551615 - x) &&& (18446744073709551615 - (bt last ||| (bt last - 1))) &&& (18446744073709551615 - bt 0) else (18446744073709551615 - x) &&& (18446744073709551615 - bt 0)) else (if a then (18446744073709551615 - x) &&& (18446744073709551615 - (bt last ||| (bt last - 1))) else 18446744073709551615 - x))) := fun a b => by cases a <;> cases b <;> rfl
      generalize 18446744073709551615 - x = F0 at *
      generalize bt last - 1 = B1 at *
      generalize bt last ||| B1 = M at *
      generalize F0 &&& (18446744073709551615 - M) = F1 at *
      generalize F1 &&& (18446744073709551615 - bt 0) = F2 at *
      generalize F0 &&& (18446744073709551615 - bt 0) = F3 at *
      obtain ⟨fw, hfw⟩ : ∃ fw, fw = fill (W bl) (last % 64) (decide (j = 0)) (decide (bl = 0)) := ⟨_, rfl⟩
      have hfl : fw < 18446744073709551616 := by rw [hfw]; exact fill_lt _ _ _ _
      have hfx : fw = fill x (last % 64) (decide (j = 0)) (decide (bl = 0)) := by rw [HXX.out]; exact hfw
      rw [HFl.out] at hfx
      by_cases hz : fw = 0
      · have K1 : Hid (∀ q, 1 ≤ q → q ≤ 65535 → pos last q < j + 1 → T q = true) := above_on HW.out hl (by omega) HB.out HI.out (by rw [← hfw]; exact hz)
        clear hfw HFl HB HXX HI HF HW HL HT hx64 hfl
        by_cases hj0 : j = 0 <;> by_cases hb0' : bl = 0
        · have hjb : ((j : Int) == 0) = true := by simpa using hj0
          have hbb : ((bl : Int) == 0) = true := by simpa using hb0'
          simp only [hj0, hb0', decide_true, decide_false, if_true, if_false, Bool.false_eq_true] at hfx
          have hzf : ((F2 : Int) != 0) = false := by rw [← hfx]; simpa using hz
          clear hj0 hb0' hfx hz hl
          go_wp2_with (first | (go_at_call 102; first | (refine (hb _).mono ?_; rintro e w' ⟨rfl, rfl⟩) | (refine (hb0 _).mono ?_; rintro e w' ⟨rfl, rfl⟩)))
          go_roundg gk
          case measure => omega
          case rel => exact ⟨j + 1, by omega, by first | rfl | simp, K1.out, rfl⟩
        · have hjb : ((j : Int) == 0) = true := by simpa using hj0
          have hbb : ((bl : Int) == 0) = false := by simpa using hb0'
          simp only [hj0, hb0', decide_true, decide_false, if_true, if_false, Bool.false_eq_true] at hfx
          have hzf : ((F1 : Int) != 0) = false := by rw [← hfx]; simpa using hz
          clear hj0 hb0' hfx hz hl
          go_wp2_with (first | (go_at_call 102; first | (refine (hb _).mono ?_; rintro e w' ⟨rfl, rfl⟩) | (refine (hb0 _).mono ?_; rintro e w' ⟨rfl, rfl⟩)))
          go_roundg gk
          case measure => omega
          case rel => exact ⟨j + 1, by omega, by first | rfl | simp, K1.out, rfl⟩
        · have hjb : ((j : Int) == 0) = false := by simpa using hj0
          have hbb : ((bl : Int) == 0) = true := by simpa using hb0'
          simp only [hj0, hb0', decide_true, decide_false, if_true, if_false, Bool.false_eq_true] at hfx
          have hzf : ((F3 : Int) != 0) = false := by rw [← hfx]; simpa using hz
          clear hj0 hb0' hfx hz hl
          go_wp2_with (first | (go_at_call 102; first | (refine (hb _).mono ?_; rintro e w' ⟨rfl, rfl⟩) | (refine (hb0 _).mono ?_; rintro e w' ⟨rfl, rfl⟩)))
          go_roundg gk
          case measure => omega
          case rel => exact ⟨j + 1, by omega, by first | rfl | simp, K1.out, rfl⟩
        · have hjb : ((j : Int) == 0) = false := by simpa using hj0
          have hbb : ((bl : Int) == 0) = false := by simpa using hb0'
          simp only [hj0, hb0', decide_true, decide_false, if_true, if_false, Bool.false_eq_true] at hfx
          have hzf : ((F0 : Int) != 0) = false := by rw [← hfx]; simpa using hz
          clear hj0 hb0' hfx hz hl
          go_wp2_with (first | (go_at_call 102; first | (refine (hb _).mono ?_; rintro e w' ⟨rfl, rfl⟩) | (refine (hb0 _).mono ?_; rintro e w' ⟨rfl, rfl⟩)))
          go_roundg gk
          case measure => omega
          case rel => exact ⟨j + 1, by omega, by first | rfl | simp, K1.out, rfl⟩
      · have K0 := above_found HW.out hl (by omega) HB.out HI.out hfw hz
        obtain ⟨cz, hcz⟩ : ∃ cz, cz = Lib.ctz 64 fw := ⟨_, rfl⟩
        have hcz2 : cz < 64 := by rw [hcz]; exact (ctz_bits fw hz hfl).1
        rw [← hcz] at K0
        have HC : Hid (Calls Tryz.prog 131 #[.int .u64 (fw : Int)] wr fun e w' => e = .returned (.int .i64 (cz : Int)) ∧ w' = wr) := by rw [hcz]; exact HT.out fw hfl hz
        have K1 : Hid (Abv T last (bl * 64 + cz)) := K0
        have hblt : bl < 1024 := by rw [HB.out]; exact Nat.mod_lt _ (by omega)
        have hw3 : IntKind.i64.wrap ((bl : Int) * 64) = (bl : Int) * 64 := by rw [IntKind.wrap_i64]; omega
        have hw4 : IntKind.i64.wrap ((bl : Int) * 64 + (cz : Int)) = (bl : Int) * 64 + (cz : Int) := by rw [IntKind.wrap_i64]; omega
        clear K0 hfw HFl HB HXX HI HF HW HL HT hx64 hfl hcz
        by_cases hj0 : j = 0 <;> by_cases hb0' : bl = 0
        · have hjb : ((j : Int) == 0) = true := by simpa using hj0
          have hbb : ((bl : Int) == 0) = true := by simpa using hb0'
          simp only [hj0, hb0', decide_true, decide_false, if_true, if_false, Bool.false_eq_true] at hfx
          have hzf : ((F2 : Int) != 0) = true := by rw [← hfx]; simpa using hz
          have hcl : Hid (Calls Tryz.prog 131 #[.int .u64 (F2 : Int)] wr fun e w' => e = .returned (.int .i64 (cz : Int)) ∧ w' = wr) := by rw [← hfx]; exact HC.out
          clear hj0 hb0' hfx hz
          go_wp2_with (first | (go_at_call 102; first | (refine (hb _).mono ?_; rintro e w' ⟨rfl, rfl⟩) | (refine (hb0 _).mono ?_; rintro e w' ⟨rfl, rfl⟩)) | (go_at_call 131; refine (hcl.out).mono ?_; rintro e w' ⟨rfl, rfl⟩))
          go_ret
          exact ⟨⟨bl * 64 + cz, by simp, K1.out⟩, rfl⟩
        · have hjb : ((j : Int) == 0) = true := by simpa using hj0
          have hbb : ((bl : Int) == 0) = false := by simpa using hb0'
          simp only [hj0, hb0', decide_true, decide_false, if_true, if_false, Bool.false_eq_true] at hfx
          have hzf : ((F1 : Int) != 0) = true := by rw [← hfx]; simpa using hz
          have hcl : Hid (Calls Tryz.prog 131 #[.int .u64 (F1 : Int)] wr fun e w' => e = .returned (.int .i64 (cz : Int)) ∧ w' = wr) := by rw [← hfx]; exact HC.out
          clear hj0 hb0' hfx hz
          go_wp2_with (first | (go_at_call 102; first | (refine (hb _).mono ?_; rintro e w' ⟨rfl, rfl⟩) | (refine (hb0 _).mono ?_; rintro e w' ⟨rfl, rfl⟩)) | (go_at_call 131; refine (hcl.out).mono ?_; rintro e w' ⟨rfl, rfl⟩))
          go_ret
          exact ⟨⟨bl * 64 + cz, by simp, K1.out⟩, rfl⟩
        · have hjb : ((j : Int) == 0) = false := by simpa using hj0
          have hbb : ((bl : Int) == 0) = true := by simpa using hb0'
          simp only [hj0, hb0', decide_true, decide_false, if_true, if_false, Bool.false_eq_true] at hfx
          have hzf : ((F3 : Int) != 0) = true := by rw [← hfx]; simpa using hz
          have hcl : Hid (Calls Tryz.prog 131 #[.int .u64 (F3 : Int)] wr fun e w' => e = .returned (.int .i64 (cz : Int)) ∧ w' = wr) := by rw [← hfx]; exact HC.out
          clear hj0 hb0' hfx hz
          go_wp2_with (first | (go_at_call 102; first | (refine (hb _).mono ?_; rintro e w' ⟨rfl, rfl⟩) | (refine (hb0 _).mono ?_; rintro e w' ⟨rfl, rfl⟩)) | (go_at_call 131; refine (hcl.out).mono ?_; rintro e w' ⟨rfl, rfl⟩))
          go_ret
          exact ⟨⟨bl * 64 + cz, by simp, K1.out⟩, rfl⟩
        · have hjb : ((j : Int) == 0) = false := by simpa using hj0
          have hbb : ((bl : Int) == 0) = false := by simpa using hb0'
          simp only [hj0, hb0', decide_true, decide_false, if_true, if_false, Bool.false_eq_true] at hfx
          have hzf : ((F0 : Int) != 0) = true := by rw [← hfx]; simpa using hz
          have hcl : Hid (Calls Tryz.prog 131 #[.int .u64 (F0 : Int)] wr fun e w' => e = .returned (.int .i64 (cz : Int)) ∧ w' = wr) := by rw [← hfx]; exact HC.out
          clear hj0 hb0' hfx hz
          go_wp2_with (first | (go_at_call 102; first | (refine (hb _).mono ?_; rintro e w' ⟨rfl, rfl⟩) | (refine (hb0 _).mono ?_; rintro e w' ⟨rfl, rfl⟩)) | (go_at_call 131; refine (hcl.out).mono ?_; rintro e w' ⟨rfl, rfl⟩))
          go_ret
          exact ⟨⟨bl * 64 + cz, by simp, K1.out⟩, rfl⟩
end Go.Proofs.YtmihpmmkkklpfaaGreatDoor
namespace Go.Proofs.YtmihpmmkkklpfaaGreatDoor
open Go Go.RowKit
set_option linter.unusedSimpArgs false
set_option linter.unusedVariables false
set_option maxRecDepth 100000 in
set_option maxHeartbeats 1000000 in
theorem tz_core (x k idx : Nat) (w : World) (hx0 : ((x : Int) == 0) = false)
    (key : IntKind.u64.wrap (bits BinOp.and IntKind.u64 (x : Int) (IntKind.u64.wrap (-(x : Int))) * 285870213051353865) / 288230376151711744 = (idx : Int))
    (hi : idx < 64) (hk : k < 64) (hcell : w.cell? ⟨0, idx, none⟩ = some (.int .u8 k)) :
    Calls Tryz.prog 131 #[.int .u64 x] w fun e w' => e = .returned (.int .i64 k) ∧ w' = w := by
  go_enter Tryz.func131, Tryz.ntmps131
  go_wp2_with (simp only [key])
  go_ret
  exact ⟨rfl, rfl⟩
theorem tzOk {w : World} (hT : TabAt 0 Lib.deBruijn64tab w) : TzOk w := by
  intro x hx hx0
  obtain ⟨hlow, hk⟩ := Lib.lowest_bit 64 x hx0 hx
  obtain ⟨hi, htab⟩ := Lib.deBruijn64_at _ hk
  refine tz_core x (Lib.ctz 64 x) _ w (by simpa using hx0) (tz64_key x _ hx hx0 hlow) hi hk ?_
  have hc := hT _ hi
  rw [htab] at hc
  exact hc
end Go.Proofs.YtmihpmmkkklpfaaGreatDoor
