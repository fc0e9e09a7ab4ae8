import Derived.Test.YtglnldopnoafoaaGreatDoorRa
namespace Go.Proofs.YtglnldopnoafoaaGreatDoor
open Go Go.RowKit
set_option linter.unusedSimpArgs false
set_option linter.unusedVariables false

theorem more_is (c : Nat) (hc : c ≤ 255) (n : Int) (L H : Nat) (h : mr c = (n, L, H)) (w : World) : Calls Tryz.prog 155 #[.int .u8 c] w fun e w' => e = .returned (.tuple #[.int .i64 n, .int .u8 L, .int .u8 H]) ∧ w' = w := by
  have := more_any c hc w
  rw [h] at this
  exact this

set_option maxHeartbeats 2000000 in
theorem rtext_any (s : ByteArray) (w : World) : Calls Tryz.prog 145 #[.string s] w fun e w' => e = .returned (.bool (txt s)) ∧ w' = w := by
  by_cases hl : 65535 < s.size
  · have e : txt s = false := by simp [txt, chk, hl]
    rw [e]; clear e
    have hl' : (65535 : Int) < s.size := by omega
    go_enter Tryz.func145, Tryz.ntmps145
    go_wp2
    go_ret
    exact ⟨rfl, rfl⟩
  have HE : Hid (chk s = chkF s s.size 0) := by simp [chk, hl, Hid]
  have hl' : ¬ (65535 : Int) < s.size := by omega
  have HS : Hid (s.size ≤ 65535) := by show _ ≤ _; omega
  clear hl
  obtain ⟨x, hx⟩ : ∃ x, x = txt s := ⟨_, rfl⟩
  rw [← hx]
  have HX : Hid (x = txt s) := hx
  clear hx
  go_enter Tryz.func145, Tryz.ntmps145
  go_wp2_with fail
  clear hl'
  go_loopg [3] s.size (fun g s3 wx => wx = w ∧ ∃ k b : Nat, k ≤ s.size ∧ g = s.size - k ∧ s3 = .int .i64 k ∧ Hid (chk s = chkF s b k) ∧ Hid (s.size ≤ k + b))
  case atStart => exact ⟨rfl, 0, s.size, Nat.zero_le _, rfl, rfl, HE, by show _ ≤ _; omega⟩
  case round =>
    obtain ⟨hw0, k, b, hk, rfl, rfl, HC, HB⟩ := hrel
    obtain rfl := hw0.symm
    clear hw0
    by_cases hlt : k < s.size
    · have hlt' : (k : Int) < s.size := by omega
      have HA : Hid (atB s k = (s[k]'hlt).toNat) := atB_in s k hlt
      have H255 : Hid ((s[k]'hlt).toNat ≤ 255) := by show _ ≤ _; have := (s[k]'hlt).toNat_lt; omega
      by_cases hz : (s[k]'hlt).toNat = 0
      · have hz' : (((s[k]'hlt).toNat : Int) == 0) = true := by simp [hz]
        have HR : Hid (x = false) := by
          show _ = _
          have h1 := HC.out; rw [chkF_zero s b k hlt HB.out (by rw [HA.out]; exact hz)] at h1
          rw [HX.out, txt, h1]; rfl
        clear hz
        go_wp2
        go_ret
        exact ⟨by rw [HR.out]; rfl, rfl⟩
      have hz' : (((s[k]'hlt).toNat : Int) == 0) = false := by simp; omega
      have HZ : Hid (¬ atB s k = 0) := by show ¬ atB s k = 0; rw [HA.out]; exact hz
      clear hz
      obtain ⟨n, L, H, hm⟩ : ∃ n L H, mr (s[k]'hlt).toNat = (n, L, H) := ⟨_, _, _, rfl⟩
      have HM : Hid (mr (s[k]'hlt).toNat = (n, L, H)) := hm
      have HM2 : Hid (mr (atB s k) = (n, L, H)) := by show _ = _; rw [HA.out]; exact hm
      have hmost := mr_most (atB s k)
      rw [HM2.out] at hmost
      simp only at hmost
      have HN : Hid (n ≤ 3 ∧ -1 ≤ n) := hmost
      clear hm hmost
      have HF : Hid (point s k = 0 → x = false) := fun h => by
        have h1 := HC.out; rw [chkF_utf s b k hlt HB.out HZ.out h] at h1
        rw [HX.out, txt, h1]; rfl
      by_cases hn : n < 0
      · have HR : Hid (x = false) := HF.out (point_neg s k (by rw [HM2.out]; exact hn))
        go_wp2_with (go_at_call 155; refine (more_is _ H255.out n L H HM.out _).mono ?_; rintro e w' ⟨rfl, hee⟩; obtain rfl := hee.symm; clear hee)
        go_ret
        exact ⟨by rw [HR.out]; rfl, rfl⟩
      obtain ⟨m, rfl⟩ : ∃ m : Nat, n = m := ⟨n.toNat, by omega⟩
      have hw : IntKind.i64.wrap ((k : Int) + m) = (k : Int) + m := by rw [IntKind.wrap_i64]; have := HS.out; have := HN.out; omega
      by_cases he : s.size ≤ k + m
      · have he' : (s.size : Int) ≤ (k : Int) + m := by omega
        have HR : Hid (x = false) := by
          by_cases m0 : m = 0
          · subst m0; omega
          · exact HF.out (point_no s k m (by rw [HM2.out]) ⟨m, by omega, Nat.le_refl _, fun hi => by
              have h1 := mr_low (atB s k) (by rw [HM2.out]; simp only; omega)
              have h2 := hi.1
              rw [atB_out s (k + m) (by omega)] at h2
              unfold lo5 at h2
              split at h2 <;> omega⟩)
        go_wp2_with (go_at_call 155; refine (more_is _ H255.out m L H HM.out _).mono ?_; rintro e w' ⟨rfl, hee⟩; obtain rfl := hee.symm; clear hee)
        go_ret
        exact ⟨by rw [HR.out]; rfl, rfl⟩
      have he' : ¬ (s.size : Int) ≤ (k : Int) + m := by omega
      have HEN : Hid (k + m < s.size) := by show _ < _; omega
      clear he
      go_wp2_with (first | (go_at_call 155; refine (more_is _ H255.out m L H HM.out _).mono ?_; rintro e w' ⟨rfl, hee⟩; obtain rfl := hee.symm; clear hee) | fail)
      clear he' hw hz'
      go_loopg [5, 6, 7] m (fun g s5 s6 s7 wx => wx = w ∧ ∃ j : Nat, 1 ≤ j ∧ j ≤ m + 1 ∧ g = m + 1 - j ∧ s7 = .int .i64 j ∧ s5 = .int .u8 (lo5 L j) ∧ s6 = .int .u8 (hi5 H j) ∧ Hid (∀ i, 1 ≤ i → i < j → In5 s k L H i))
      case atStart => exact ⟨rfl, 1, Nat.le_refl _, by omega, by omega, rfl, rfl, rfl, fun i h1 h2 => by omega⟩
      case round =>
        obtain ⟨hw0, j, hj1, hj2, rfl, rfl, rfl, rfl, HI⟩ := hrel
        obtain rfl := hw0.symm
        clear hw0
        by_cases hjm : j ≤ m
        · have hjm' : (j : Int) ≤ m := by omega
          have hw : IntKind.i64.wrap ((k : Int) + j) = (k : Int) + j := by rw [IntKind.wrap_i64]; have := HS.out; have := HN.out; omega
          have hlt2 : k + j < s.size := by have := HEN.out; omega
          have hlt3 : (k : Int) + j < s.size := by omega
          have hge3 : (0 : Int) ≤ (k : Int) + j := by omega
          have htn : ((k : Int) + j).toNat = k + j := by omega
          have HJ : Hid (atB s (k + j) = (s[k + j]'hlt2).toNat) := atB_in s (k + j) hlt2
          have hw2 : IntKind.i64.wrap ((j : Int) + 1) = (j : Int) + 1 := by rw [IntKind.wrap_i64]; have := HN.out; omega
          by_cases hi : In5 s k L H j
          · have g1 : ¬ ((s[k + j]'hlt2).toNat : Int) < (lo5 L j : Int) := by have := hi.1; rw [HJ.out] at this; omega
            have g2 : ¬ (hi5 H j : Int) < ((s[k + j]'hlt2).toNat : Int) := by have := hi.2; rw [HJ.out] at this; omega
            have HI2 : Hid (∀ i, 1 ≤ i → i < j + 1 → In5 s k L H i) := fun i h1 h2 => by
              by_cases e : i = j
              · subst e; exact hi
              · exact HI.out i h1 (by omega)
            clear hi
            go_wp2
            go_roundg (m + 1 - (j + 1))
            case measure => omega
            case rel => exact ⟨rfl, j + 1, by omega, by omega, rfl, by first | rfl | simp, by rw [show lo5 L (j + 1) = 128 from if_neg (by omega)]; rfl, by rw [show hi5 H (j + 1) = 191 from if_neg (by omega)]; rfl, HI2⟩
          · have HR : Hid (x = false) := HF.out (point_no s k m (by rw [HM2.out]) ⟨j, hj1, hjm, by rw [HM2.out]; exact hi⟩)
            by_cases g1 : (s[k + j]'hlt2).toNat < lo5 L j
            · have g1' : ((s[k + j]'hlt2).toNat : Int) < (lo5 L j : Int) := by omega
              clear hi g1
              go_wp2
              go_ret
              exact ⟨by rw [HR.out]; rfl, rfl⟩
            · have g1' : ¬ ((s[k + j]'hlt2).toNat : Int) < (lo5 L j : Int) := by omega
              have g2 : (hi5 H j : Int) < ((s[k + j]'hlt2).toNat : Int) := by
                have : ¬ (lo5 L j ≤ atB s (k + j) ∧ atB s (k + j) ≤ hi5 H j) := hi
                rw [HJ.out] at this
                omega
              clear hi g1
              go_wp2
              go_ret
              exact ⟨by rw [HR.out]; rfl, rfl⟩
        · obtain rfl : j = m + 1 := by omega
          have hjm' : ¬ ((m + 1 : Nat) : Int) ≤ m := by omega
          have HP : Hid (point s k = m + 1) := point_ok s k m (by rw [HM2.out]) (fun i h1 h2 => by rw [HM2.out]; exact HI.out i h1 (by omega))
          have hw1 : IntKind.i64.wrap ((k : Int) + m) = (k : Int) + m := by rw [IntKind.wrap_i64]; have := HS.out; have := HN.out; omega
          have hw2 : IntKind.i64.wrap ((k : Int) + m + 1) = (k : Int) + m + 1 := by rw [IntKind.wrap_i64]; have := HS.out; have := HN.out; omega
          go_wp2
          go_roundg (s.size - (k + m + 1))
          case measure => have := HEN.out; omega
          case rel =>
            obtain ⟨b', e1, e2⟩ := chkF_step s b k hlt HB.out HZ.out (by rw [HP.out]; omega)
            rw [HP.out] at e1 e2
            exact ⟨rfl, k + (m + 1), b', by have := HEN.out; omega, by omega, by first | rfl | (simp; omega), HC.out.trans e1, e2⟩
    · obtain rfl : k = s.size := by omega
      have hlt' : ¬ (s.size : Int) < s.size := by omega
      have HR : Hid (x = true) := by
        show _ = _
        have h1 := HC.out; rw [chkF_end s b _ hlt] at h1
        rw [HX.out, txt, h1]; rfl
      go_wp2
      go_ret
      exact ⟨by rw [HR.out]; rfl, rfl⟩
end Go.Proofs.YtglnldopnoafoaaGreatDoor

