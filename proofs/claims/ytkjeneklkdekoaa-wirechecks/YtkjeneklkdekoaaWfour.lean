import Derived.Test.YtkjeneklkdekoaaWthree
namespace Go.Proofs.Ytkjeneklkdekoaa
open Go.RowKit
set_option linter.unusedSimpArgs false
set_option linter.unusedVariables false

/-- What Check tells from a place on, in so many steps at most. -/
def chkF (s : ByteArray) : Nat → Nat → Nat × Nat
  | 0, _ => (0, 0)
  | b + 1, k => if k < s.size then (if atB s k = 0 then (k, 14) else if point s k = 0 then (k, 13) else chkF s b (k + point s k)) else (0, 0)
/-- What Check tells. -/
def chk (s : ByteArray) : Nat × Nat := if 65535 < s.size then (65535, 11) else chkF s s.size 0

theorem chkF_end (s : ByteArray) (b k : Nat) (h : ¬ k < s.size) : chkF s b k = (0, 0) := by
  cases b with
  | zero => rfl
  | succ b => simp [chkF, h]
theorem chkF_zero (s : ByteArray) (b k : Nat) (h : k < s.size) (hb : s.size ≤ k + b) (hz : atB s k = 0) : chkF s b k = (k, 14) := by
  cases b with
  | zero => omega
  | succ b => simp [chkF, h, hz]
theorem chkF_utf (s : ByteArray) (b k : Nat) (h : k < s.size) (hb : s.size ≤ k + b) (hz : ¬ atB s k = 0) (hp : point s k = 0) : chkF s b k = (k, 13) := by
  cases b with
  | zero => omega
  | succ b => simp [chkF, h, hz, hp]
theorem chkF_step (s : ByteArray) (b k : Nat) (h : k < s.size) (hb : s.size ≤ k + b) (hz : ¬ atB s k = 0) (hp : ¬ point s k = 0) : ∃ b', chkF s b k = chkF s b' (k + point s k) ∧ s.size ≤ k + point s k + b' := by
  cases b with
  | zero => omega
  | succ b => exact ⟨b, by simp [chkF, h, hz, hp], by omega⟩

set_option maxHeartbeats 400000 in
theorem ref_any (s : ByteArray) (w : World) :
    Calls Try.prog 6 #[.string s] w fun e w' => e = .returned (.tuple #[.int .i64 (chk s).1, .int .i64 (chk s).2]) ∧ w' = w := by
  by_cases hl : 65535 < s.size
  · have e : chk s = (65535, 11) := by simp [chk, hl]
    rw [e]
    clear e
    have hl' : (65535 : Int) < s.size := by omega
    go_enter Try.func6, Try.ntmps6
    go_wp2
    go_ret2
    exact ⟨rfl, rfl⟩
  · have HE : Hid (chk s = chkF s s.size 0) := by simp [chk, hl, Hid]
    have hl' : ¬ (65535 : Int) < s.size := by omega
    have hs : s.size ≤ 65535 := by omega
    go_enter Try.func6, Try.ntmps6
    go_wp2
    go_loop [4] (fun i => ∃ k b : Nat, k ≤ s.size ∧ i = .int .i64 k ∧ chk s = chkF s b k ∧ s.size ≤ k + b) (fun i => s.size - (intOf i).toNat)
    case atStart => exact ⟨0, s.size, Nat.zero_le _, rfl, HE.out, by omega⟩
    case round =>
      obtain ⟨k, b, hk, rfl, hc, hb⟩ := hrel
      have HC : Hid (chk s = chkF s b k) := hc
      clear hc
      by_cases hlt : k < s.size
      · have hat := atB_in s k hlt
        have HA : Hid (atB s k = (s[k]'hlt).toNat) := hat
        clear hat
        by_cases hz : (s[k]'hlt).toNat = 0
        · have hz' : (((s[k]'hlt).toNat : Int) == 0) = true := by simp [hz]
          have HR : Hid (chk s = (k, 14)) := by have h1 := HC.out; rw [chkF_zero s b k hlt hb (by rw [HA.out]; exact hz)] at h1; exact h1
          clear hz
          go_wp2
          go_ret2
          exact ⟨by rw [HR.out]; rfl, rfl⟩
        · have hz' : (((s[k]'hlt).toNat : Int) == 0) = false := by simp; omega
          have HZ : Hid (¬ atB s k = 0) := by have h1 := HA.out; show ¬ atB s k = 0; rw [h1]; exact hz
          clear hz
          by_cases hp : point s k = 0
          · have hp' : ((point s k : Int) == 0) = true := by simp [hp]
            have HR : Hid (chk s = (k, 13)) := by have h1 := HC.out; rw [chkF_utf s b k hlt hb HZ.out hp] at h1; exact h1
            clear hp
            go_wp2_with (go_at_call 14; refine (point_any _ _ (by omega) _).mono ?_; rintro e w' ⟨rfl, rfl⟩)
            go_ret2
            exact ⟨by rw [HR.out]; rfl, rfl⟩
          · have hp' : ((point s k : Int) == 0) = false := by simp; omega
            have hple := point_le s k hlt
            have HP : Hid (¬ point s k = 0) := hp
            clear hp
            go_wp2_with (go_at_call 14; refine (point_any _ _ (by omega) _).mono ?_; rintro e w' ⟨rfl, rfl⟩)
            go_round
            case rel =>
              obtain ⟨b', e1, e2⟩ := chkF_step s b k hlt hb HZ.out HP.out
              exact ⟨k + point s k, b', hple, by go_num, HC.out.trans e1, e2⟩
            case measure => have h1 := HP.out; simp [intOf]; omega
      · have HR : Hid (chk s = (0, 0)) := by have h1 := HC.out; rw [chkF_end s b k hlt] at h1; exact h1
        go_wp2
        go_ret2
        exact ⟨by rw [HR.out]; rfl, rfl⟩
end Go.Proofs.Ytkjeneklkdekoaa
