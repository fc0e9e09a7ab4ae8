import Derived.Test.YtmihpmmkkklpfaaGreatDoorTLa
import Derived.BigQuiet
import Derived.Deep.QuietTactic
import Derived.Deep.LoopGhost
namespace Go.Proofs.YtmihpmmkkklpfaaGreatDoor.Tq
open Go Go.RowKit
open Tp
set_option linter.unusedSimpArgs false
set_option linter.unusedVariables false

theorem rank_any (c : UInt8) (w : World) : Calls Tryz.prog 116 #[.int .u8 (c.toNat : Int)] w fun e w' => e = .returned (.int .i64 (rk c)) ∧ w' = w := by
  by_cases h : c = 47
  · subst h
    go_enter Tryz.func116, Tryz.ntmps116
    go_wp2
    go_ret
    exact ⟨rfl, rfl⟩
  · have h1 : ¬ c.toNat = 47 := fun e => h (UInt8.toNat_inj.1 e)
    have h2 : ((c.toNat : Int) == 47) = false := by simp; omega
    have e : rk c = c.toNat := by simp [rk, h]
    rw [e]
    have hw : IntKind.i64.wrap (c.toNat : Int) = (c.toNat : Int) := by rw [IntKind.wrap_i64]; have := c.toNat_lt; omega
    clear h h1 e
    go_enter Tryz.func116, Tryz.ntmps116
    go_wp2
    go_ret
    exact ⟨rfl, rfl⟩
/-- The order of two numbers. -/
def sg (x y : Int) : Int := if x < y then -1 else if y < x then 1 else 0
theorem cmpInt_any (x y : Int) (w : World) : Calls Tryz.prog 99 #[.int .i64 x, .int .i64 y] w fun e w' => e = .returned (.int .i64 (sg x y)) ∧ w' = w := by
  have hx : (x != x) = false := by simp
  have hy : (y != y) = false := by simp
  by_cases h1 : x < y
  · rw [show sg x y = -1 by simp [sg, h1]]
    go_enter Tryz.func99, Tryz.ntmps99
    go_wp2
    go_ret
    exact ⟨rfl, rfl⟩
  by_cases h2 : y < x
  · rw [show sg x y = 1 by simp [sg, h1, h2]]
    go_enter Tryz.func99, Tryz.ntmps99
    go_wp2
    go_ret
    exact ⟨rfl, rfl⟩
  rw [show sg x y = 0 by simp [sg, h1, h2]]
  go_enter Tryz.func99, Tryz.ntmps99
  go_wp2
  go_ret
  exact ⟨rfl, rfl⟩
end Go.Proofs.YtmihpmmkkklpfaaGreatDoor.Tq
namespace Go.Proofs.YtmihpmmkkklpfaaGreatDoor.Tq
open Go Go.RowKit
open Tp
set_option linter.unusedSimpArgs false
set_option linter.unusedVariables false

theorem cmpL_len : ∀ (a b : Bs), (∀ i, i < min a.length b.length → a[i]? = b[i]?) → cmpL a b = sg a.length b.length
  | [], [], _ => rfl
  | [], y :: ys, _ => by simp only [cmpL, sg, List.length_cons, List.length_nil]; rw [if_pos (by omega)]
  | x :: xs, [], _ => by simp only [cmpL, sg, List.length_cons, List.length_nil]; rw [if_neg (by omega), if_pos (by omega)]
  | x :: xs, y :: ys, h => by
    have h0 := h 0 (by simp)
    simp at h0
    subst h0
    simp only [cmpL, if_true]
    rw [cmpL_len xs ys (fun i hi => by have := h (i + 1) (by simp; omega); simpa using this)]
    simp only [sg, List.length_cons]
    congr 1
    · simp only [Int.natCast_add, eq_iff_iff]; omega
    · congr 1
      simp only [Int.natCast_add, eq_iff_iff]; omega
theorem cmpL_part : ∀ (a b : Bs) (k : Nat) (x y : UInt8), (∀ i, i < k → a[i]? = b[i]?) → a[k]? = some x → b[k]? = some y → ¬ x = y → cmpL a b = sg (rk x) (rk y)
  | [], _, k, _, _, _, h, _, _ => by simp at h
  | _ :: _, [], k, _, _, _, _, h, _ => by simp at h
  | p :: ps, q :: qs, 0, x, y, _, h1, h2, hn => by
    simp at h1 h2
    subst h1; subst h2
    have : ¬ rk p = rk q := fun e => hn (rk_inj e)
    simp only [cmpL, sg, if_neg hn]
    by_cases h : rk p < rk q
    · rw [if_pos h, if_pos h]
    · rw [if_neg h, if_neg h, if_pos (by omega)]
  | p :: ps, q :: qs, k + 1, x, y, h, h1, h2, hn => by
    have h0 := h 0 (by omega)
    simp at h0
    subst h0
    simp only [cmpL, if_true]
    exact cmpL_part ps qs k x y (fun i hi => by have := h (i + 1) (by omega); simpa using this) (by simpa using h1) (by simpa using h2) hn
theorem un_get (s : ByteArray) (i : Nat) (h : i < s.size) : (unB s)[i]? = some (s[i]'h) := by
  have h' : i < (unB s).length := by rw [un_size]; exact h
  rw [List.getElem?_eq_getElem h']; rfl

end Go.Proofs.YtmihpmmkkklpfaaGreatDoor.Tq
namespace Go.Proofs.YtmihpmmkkklpfaaGreatDoor.Tq
open Go Go.RowKit
open Tp
set_option linter.unusedSimpArgs false
set_option linter.unusedVariables false

/-! ### Texts in topic's order -/
def cmpB (a b : ByteArray) : Int := cmpL (unB a) (unB b)
theorem cmpB_flip (a b : ByteArray) : cmpB b a = - cmpB a b := cmpL_flip _ _
theorem cmpB_zero {a b : ByteArray} (h : cmpB a b = 0) : a = b := by
  have := (cmpL_zero _ _).1 h
  rw [← mk_un a, ← mk_un b, this]
theorem cmpB_trans {a b c : ByteArray} (h : cmpB a b ≤ 0) (k : cmpB b c ≤ 0) : cmpB a c ≤ 0 := cmpL_trans _ _ _ h k
/-- In order. -/
theorem cmpB_self (a : ByteArray) : cmpB a a = 0 := by have := cmpB_flip a a; omega
/-! ### topic.Compare: it draws, and does nothing else to the world -/
def Dr (w w' : World) : Prop := ∃ q, w' = w.drewN q
theorem Dr.refl (w : World) : Dr w w := ⟨0, rfl⟩
theorem dr_drewN {w w' : World} (h : Dr w w') (n : Nat) : Dr w (w'.drewN n) := by
  obtain ⟨q, rfl⟩ := h
  exact ⟨q + n, by simp [World.drewN, Nat.add_assoc]⟩
set_option maxRecDepth 100000 in
set_option maxHeartbeats 1000000 in
theorem compare_le_dr (a b : ByteArray) (ha : a.size ≤ 1000000) (hb : b.size ≤ 1000000) (hm : ¬ b.size < a.size) (w : World) : Calls Tryz.prog 86 #[.string a, .string b] w fun e w' => e = .returned (.int .i64 (cmpL (unB a) (unB b))) ∧ Dr w w' := by
  have HA : Hid (a.size ≤ 1000000) := ha
  have HB : Hid (b.size ≤ 1000000) := hb
  obtain ⟨x, hx⟩ : ∃ x, x = cmpL (unB a) (unB b) := ⟨_, rfl⟩
  rw [← hx]
  have HX : Hid (x = cmpL (unB a) (unB b)) := hx
  have HM : Hid (a.size ≤ a.size ∧ a.size ≤ b.size ∧ a.size = min a.size b.size) := ⟨by omega, by omega, by omega⟩
  clear hx ha hb
  go_enter Tryz.func86, Tryz.ntmps86
  go_wp2_with fail
  clear hm
  go_loopg [11] a.size (fun g s11 wx => ∃ k : Nat, k ≤ a.size ∧ g = a.size - k ∧ s11 = .int .i64 k ∧ Hid (Dr w wx) ∧ Hid (∀ i, i < k → (unB a)[i]? = (unB b)[i]?))
  case atStart => exact ⟨0, Nat.zero_le _, rfl, rfl, Dr.refl _, fun i hi => absurd hi (Nat.not_lt_zero i)⟩
  case round =>
    obtain ⟨k, hk, rfl, rfl, B, HE⟩ := hrel
    by_cases hlt : k < a.size
    · have hlt' : (k : Int) < a.size := by omega
      have la : k < a.size := by have := HM.out; omega
      have lb : k < b.size := by have := HM.out; omega
      have la' : (k : Int) < a.size := by omega
      have lb' : (k : Int) < b.size := by omega
      have hw : IntKind.i64.wrap ((k : Int) + 1) = (k : Int) + 1 := by rw [IntKind.wrap_i64]; have := HA.out; omega
      obtain ⟨p, hp⟩ : ∃ p, a[k]'la = p := ⟨_, rfl⟩
      obtain ⟨q, hq⟩ : ∃ q, b[k]'lb = q := ⟨_, rfl⟩
      have HP : Hid ((unB a)[k]? = some p) := by show _ = _; rw [un_get a k la, hp]
      have HQ : Hid ((unB b)[k]? = some q) := by show _ = _; rw [un_get b k lb, hq]
      by_cases hpq : p = q
      · subst hpq
        have HE2 : Hid (∀ i, i < k + 1 → (unB a)[i]? = (unB b)[i]?) := fun i hi => by
          by_cases e : i = k
          · subst e; rw [HP.out, HQ.out]
          · exact HE.out i (by omega)
        have hne : ((p.toNat : Int) != (p.toNat : Int)) = false := by simp
        go_wp2
        go_quiet (fail)
        have hb1 : Dr w (wr.drewN nq) := dr_drewN B.out nq
        have B1 : Hid (Dr w (wr.drewN nq)) := hb1
        clear hb1
        go_wp2
        go_roundg (a.size - (k + 1))
        case measure => omega
        case rel => exact ⟨k + 1, by omega, by omega, by first | rfl | simp, B1, HE2⟩
      · have hne : ((p.toNat : Int) != (q.toNat : Int)) = true := by
          have : ¬ p.toNat = q.toNat := fun e => hpq (UInt8.toNat_inj.1 e)
          simp; omega
        have HR : Hid (x = sg (rk p) (rk q)) := by show _ = _; rw [HX.out]; exact cmpL_part _ _ k p q HE.out HP.out HQ.out hpq
        clear hpq
        go_wp2
        go_quiet (fail)
        obtain ⟨w1, hw1⟩ : ∃ w1, w1 = wr.drewN nq := ⟨_, rfl⟩
        have hb1 : Dr w (wr.drewN nq) := dr_drewN B.out nq
        rw [← hw1] at hb1 ⊢
        have B1 : Hid (Dr w w1) := hb1
        clear hw1 hb1 B
        go_wp2
        go_quiet (first | (go_at_call 116; exact Calls.quiet_of_same (rank_any _ _)) | (go_at_call 99; exact Calls.quiet_of_same (cmpInt_any _ _ _)))
        have hb2 : Dr w (w1.drewN nq) := dr_drewN B1.out nq
        have B2 : Hid (Dr w (w1.drewN nq)) := hb2
        clear hb2
        go_wp2
        go_ret
        exact ⟨by rw [HR.out]; rfl, B2.out⟩
    · obtain rfl : k = a.size := by omega
      have hlt' : ¬ (a.size : Int) < a.size := by omega
      have HR : Hid (x = sg a.size b.size) := by
        show _ = _
        have h1 := HM.out
        rw [HX.out, cmpL_len _ _ (fun i hi => HE.out i (by rw [un_size, un_size] at hi; omega)), un_size, un_size]
      go_wp2_with (go_at_call 99; refine (cmpInt_any _ _ _).mono ?_; rintro e w' ⟨rfl, hee⟩; obtain rfl := hee.symm; clear hee)
      go_ret
      exact ⟨by rw [HR.out]; rfl, B.out⟩
set_option maxRecDepth 100000 in
set_option maxHeartbeats 1000000 in
theorem compare_gt_dr (a b : ByteArray) (ha : a.size ≤ 1000000) (hb : b.size ≤ 1000000) (hm : b.size < a.size) (w : World) : Calls Tryz.prog 86 #[.string a, .string b] w fun e w' => e = .returned (.int .i64 (cmpL (unB a) (unB b))) ∧ Dr w w' := by
  have HA : Hid (a.size ≤ 1000000) := ha
  have HB : Hid (b.size ≤ 1000000) := hb
  obtain ⟨x, hx⟩ : ∃ x, x = cmpL (unB a) (unB b) := ⟨_, rfl⟩
  rw [← hx]
  have HX : Hid (x = cmpL (unB a) (unB b)) := hx
  have HM : Hid (b.size ≤ a.size ∧ b.size ≤ b.size ∧ b.size = min a.size b.size) := ⟨by omega, by omega, by omega⟩
  clear hx ha hb
  go_enter Tryz.func86, Tryz.ntmps86
  go_wp2_with fail
  clear hm
  go_loopg [11] b.size (fun g s11 wx => ∃ k : Nat, k ≤ b.size ∧ g = b.size - k ∧ s11 = .int .i64 k ∧ Hid (Dr w wx) ∧ Hid (∀ i, i < k → (unB a)[i]? = (unB b)[i]?))
  case atStart => exact ⟨0, Nat.zero_le _, rfl, rfl, Dr.refl _, fun i hi => absurd hi (Nat.not_lt_zero i)⟩
  case round =>
    obtain ⟨k, hk, rfl, rfl, B, HE⟩ := hrel
    by_cases hlt : k < b.size
    · have hlt' : (k : Int) < b.size := by omega
      have la : k < a.size := by have := HM.out; omega
      have lb : k < b.size := by have := HM.out; omega
      have la' : (k : Int) < a.size := by omega
      have lb' : (k : Int) < b.size := by omega
      have hw : IntKind.i64.wrap ((k : Int) + 1) = (k : Int) + 1 := by rw [IntKind.wrap_i64]; have := HA.out; omega
      obtain ⟨p, hp⟩ : ∃ p, a[k]'la = p := ⟨_, rfl⟩
      obtain ⟨q, hq⟩ : ∃ q, b[k]'lb = q := ⟨_, rfl⟩
      have HP : Hid ((unB a)[k]? = some p) := by show _ = _; rw [un_get a k la, hp]
      have HQ : Hid ((unB b)[k]? = some q) := by show _ = _; rw [un_get b k lb, hq]
      by_cases hpq : p = q
      · subst hpq
        have HE2 : Hid (∀ i, i < k + 1 → (unB a)[i]? = (unB b)[i]?) := fun i hi => by
          by_cases e : i = k
          · subst e; rw [HP.out, HQ.out]
          · exact HE.out i (by omega)
        have hne : ((p.toNat : Int) != (p.toNat : Int)) = false := by simp
        go_wp2
        go_quiet (fail)
        have hb1 : Dr w (wr.drewN nq) := dr_drewN B.out nq
        have B1 : Hid (Dr w (wr.drewN nq)) := hb1
        clear hb1
        go_wp2
        go_roundg (b.size - (k + 1))
        case measure => omega
        case rel => exact ⟨k + 1, by omega, by omega, by first | rfl | simp, B1, HE2⟩
      · have hne : ((p.toNat : Int) != (q.toNat : Int)) = true := by
          have : ¬ p.toNat = q.toNat := fun e => hpq (UInt8.toNat_inj.1 e)
          simp; omega
        have HR : Hid (x = sg (rk p) (rk q)) := by show _ = _; rw [HX.out]; exact cmpL_part _ _ k p q HE.out HP.out HQ.out hpq
        clear hpq
        go_wp2
        go_quiet (fail)
        obtain ⟨w1, hw1⟩ : ∃ w1, w1 = wr.drewN nq := ⟨_, rfl⟩
        have hb1 : Dr w (wr.drewN nq) := dr_drewN B.out nq
        rw [← hw1] at hb1 ⊢
        have B1 : Hid (Dr w w1) := hb1
        clear hw1 hb1 B
        go_wp2
        go_quiet (first | (go_at_call 116; exact Calls.quiet_of_same (rank_any _ _)) | (go_at_call 99; exact Calls.quiet_of_same (cmpInt_any _ _ _)))
        have hb2 : Dr w (w1.drewN nq) := dr_drewN B1.out nq
        have B2 : Hid (Dr w (w1.drewN nq)) := hb2
        clear hb2
        go_wp2
        go_ret
        exact ⟨by rw [HR.out]; rfl, B2.out⟩
    · obtain rfl : k = b.size := by omega
      have hlt' : ¬ (b.size : Int) < b.size := by omega
      have HR : Hid (x = sg a.size b.size) := by
        show _ = _
        have h1 := HM.out
        rw [HX.out, cmpL_len _ _ (fun i hi => HE.out i (by rw [un_size, un_size] at hi; omega)), un_size, un_size]
      go_wp2_with (go_at_call 99; refine (cmpInt_any _ _ _).mono ?_; rintro e w' ⟨rfl, hee⟩; obtain rfl := hee.symm; clear hee)
      go_ret
      exact ⟨by rw [HR.out]; rfl, B.out⟩

theorem compare_dr (a b : ByteArray) (ha : a.size ≤ 1000000) (hb : b.size ≤ 1000000) (w : World) : Calls Tryz.prog 86 #[.string a, .string b] w fun e w' => e = .returned (.int .i64 (cmpL (unB a) (unB b))) ∧ Dr w w' := by
  by_cases h : b.size < a.size
  · exact compare_gt_dr a b ha hb h w
  · exact compare_le_dr a b ha hb h w
end Go.Proofs.YtmihpmmkkklpfaaGreatDoor.Tq
