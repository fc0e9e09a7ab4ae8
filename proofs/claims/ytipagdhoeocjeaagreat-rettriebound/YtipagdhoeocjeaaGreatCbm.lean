import Derived.Test.YtipagdhoeocjeaaGreatCc
namespace Go.Proofs.YtipagdhoeocjeaaGreat
open Go Go.RowKit
set_option linter.unusedSimpArgs false
set_option linter.unusedVariables false
theorem rank_any (c : UInt8) (w : World) : Calls Tryz.prog 43 #[.int .u8 (c.toNat : Int)] w fun e w' => e = .returned (.int .i64 (rk c)) ∧ w' = w := by
  by_cases h : c = 47
  · subst h
    go_enter Tryz.func43, Tryz.ntmps43
    go_wp2
    go_ret
    exact ⟨rfl, rfl⟩
  · have h1 : ¬ c.toNat = 47 := fun e => h (UInt8.toNat_inj.1 e)
    have h2 : ((c.toNat : Int) == 47) = false := by simp; omega
    have e : rk c = c.toNat := by simp [rk, h]
    rw [e]
    have hw : IntKind.i64.wrap (c.toNat : Int) = (c.toNat : Int) := by rw [IntKind.wrap_i64]; have := c.toNat_lt; omega
    clear h h1 e
    go_enter Tryz.func43, Tryz.ntmps43
    go_wp2
    go_ret
    exact ⟨rfl, rfl⟩
theorem cmpInt_any (x y : Int) (w : World) : Calls Tryz.prog 42 #[.int .i64 x, .int .i64 y] w fun e w' => e = .returned (.int .i64 (sg x y)) ∧ w' = w := by
  have hx : (x != x) = false := by simp
  have hy : (y != y) = false := by simp
  by_cases h1 : x < y
  · rw [show sg x y = -1 by simp [sg, h1]]
    go_enter Tryz.func42, Tryz.ntmps42
    go_wp2
    go_ret
    exact ⟨rfl, rfl⟩
  by_cases h2 : y < x
  · rw [show sg x y = 1 by simp [sg, h1, h2]]
    go_enter Tryz.func42, Tryz.ntmps42
    go_wp2
    go_ret
    exact ⟨rfl, rfl⟩
  rw [show sg x y = 0 by simp [sg, h1, h2]]
  go_enter Tryz.func42, Tryz.ntmps42
  go_wp2
  go_ret
  exact ⟨rfl, rfl⟩
set_option maxRecDepth 100000 in
set_option maxHeartbeats 1000000 in
theorem compare_le (a b : ByteArray) (ha : a.size ≤ 1000000) (hb : b.size ≤ 1000000) (hm : ¬ b.size < a.size) (w : World) : Calls Tryz.prog 22 #[.string a, .string b] w fun e w' => e = .returned (.int .i64 (cmpL (unB a) (unB b))) ∧ Below w.heap.size w w' := by
  have HA : Hid (a.size ≤ 1000000) := ha
  have HB : Hid (b.size ≤ 1000000) := hb
  obtain ⟨x, hx⟩ : ∃ x, x = cmpL (unB a) (unB b) := ⟨_, rfl⟩
  rw [← hx]
  have HX : Hid (x = cmpL (unB a) (unB b)) := hx
  have HM : Hid (a.size ≤ a.size ∧ a.size ≤ b.size ∧ a.size = min a.size b.size) := ⟨by omega, by omega, by omega⟩
  clear hx ha hb
  go_enter Tryz.func22, Tryz.ntmps22
  go_wp2_with fail
  clear hm
  go_loopg [11] a.size (fun g s11 wx => ∃ k : Nat, k ≤ a.size ∧ g = a.size - k ∧ s11 = .int .i64 k ∧ Hid (Below w.heap.size w wx) ∧ Hid (∀ i, i < k → (unB a)[i]? = (unB b)[i]?))
  case atStart => exact ⟨0, Nat.zero_le _, rfl, rfl, Below.refl _ _, fun i hi => absurd hi (Nat.not_lt_zero i)⟩
  case round =>
    obtain ⟨k, hk, rfl, rfl, B, HE⟩ := hrel
    by_cases hlt : k < a.size
    · have hlt' : (k : Int) < a.size := by omega
      have la : k < a.size := by have := HM.out; omega
      have lb : k < b.size := by have := HM.out; omega
      have la' : (k : Int) < a.size := by omega
      have lb' : (k : Int) < b.size := by omega
      have hw : IntKind.i64.wrap ((k : Int) + 1) = (k : Int) + 1 := by rw [IntKind.wrap_i64]; have := HA.out; omega
      obtain ⟨p, hp⟩ : ∃ p, a[k]'la = p := ⟨_, rfl⟩
      obtain ⟨q, hq⟩ : ∃ q, b[k]'lb = q := ⟨_, rfl⟩
      have HP : Hid ((unB a)[k]? = some p) := by show _ = _; rw [un_get a k la, hp]
      have HQ : Hid ((unB b)[k]? = some q) := by show _ = _; rw [un_get b k lb, hq]
      by_cases hpq : p = q
      · subst hpq
        have HE2 : Hid (∀ i, i < k + 1 → (unB a)[i]? = (unB b)[i]?) := fun i hi => by
          by_cases e : i = k
          · subst e; rw [HP.out, HQ.out]
          · exact HE.out i (by omega)
        have hne : ((p.toNat : Int) != (p.toNat : Int)) = false := by simp
        go_wp2
        go_quiet (fail)
        have hb1 : Below w.heap.size w (wr.drewN nq) := below_drewN B.out nq
        have B1 : Hid (Below w.heap.size w (wr.drewN nq)) := hb1
        clear hb1
        go_wp2
        go_roundg (a.size - (k + 1))
        case measure => omega
        case rel => exact ⟨k + 1, by omega, by omega, by first | rfl | simp, B1, HE2⟩
      · have hne : ((p.toNat : Int) != (q.toNat : Int)) = true := by
          have : ¬ p.toNat = q.toNat := fun e => hpq (UInt8.toNat_inj.1 e)
          simp; omega
        have HR : Hid (x = sg (rk p) (rk q)) := by show _ = _; rw [HX.out]; exact cmpL_part _ _ k p q HE.out HP.out HQ.out hpq
        clear hpq
        go_wp2
        go_quiet (fail)
        obtain ⟨w1, hw1⟩ : ∃ w1, w1 = wr.drewN nq := ⟨_, rfl⟩
        have hb1 : Below w.heap.size w (wr.drewN nq) := below_drewN B.out nq
        rw [← hw1] at hb1 ⊢
        have B1 : Hid (Below w.heap.size w w1) := hb1
        clear hw1 hb1 B
        go_wp2
        go_quiet (first | (go_at_call 43; exact Calls.quiet_of_same (rank_any _ _)) | (go_at_call 42; exact Calls.quiet_of_same (cmpInt_any _ _ _)))
        have hb2 : Below w.heap.size w (w1.drewN nq) := below_drewN B1.out nq
        have B2 : Hid (Below w.heap.size w (w1.drewN nq)) := hb2
        clear hb2
        go_wp2
        go_ret
        exact ⟨by rw [HR.out]; rfl, B2.out⟩
    · obtain rfl : k = a.size := by omega
      have hlt' : ¬ (a.size : Int) < a.size := by omega
      have HR : Hid (x = sg a.size b.size) := by
        show _ = _
        have h1 := HM.out
        rw [HX.out, cmpL_len _ _ (fun i hi => HE.out i (by rw [un_size, un_size] at hi; omega)), un_size, un_size]
      go_wp2_with (go_at_call 42; refine (cmpInt_any _ _ _).mono ?_; rintro e w' ⟨rfl, hee⟩; obtain rfl := hee.symm; clear hee)
      go_ret
      exact ⟨by rw [HR.out]; rfl, B.out⟩
set_option maxRecDepth 100000 in
set_option maxHeartbeats 1000000 in
theorem compare_gt (a b : ByteArray) (ha : a.size ≤ 1000000) (hb : b.size ≤ 1000000) (hm : b.size < a.size) (w : World) : Calls Tryz.prog 22 #[.string a, .string b] w fun e w' => e = .returned (.int .i64 (cmpL (unB a) (unB b))) ∧ Below w.heap.size w w' := by
  have HA : Hid (a.size ≤ 1000000) := ha
  have HB : Hid (b.size ≤ 1000000) := hb
  obtain ⟨x, hx⟩ : ∃ x, x = cmpL (unB a) (unB b) := ⟨_, rfl⟩
  rw [← hx]
  have HX : Hid (x = cmpL (unB a) (unB b)) := hx
  have HM : Hid (b.size ≤ a.size ∧ b.size ≤ b.size ∧ b.size = min a.size b.size) := ⟨by omega, by omega, by omega⟩
  clear hx ha hb
  go_enter Tryz.func22, Tryz.ntmps22
  go_wp2_with fail
  clear hm
  go_loopg [11] b.size (fun g s11 wx => ∃ k : Nat, k ≤ b.size ∧ g = b.size - k ∧ s11 = .int .i64 k ∧ Hid (Below w.heap.size w wx) ∧ Hid (∀ i, i < k → (unB a)[i]? = (unB b)[i]?))
  case atStart => exact ⟨0, Nat.zero_le _, rfl, rfl, Below.refl _ _, fun i hi => absurd hi (Nat.not_lt_zero i)⟩
  case round =>
    obtain ⟨k, hk, rfl, rfl, B, HE⟩ := hrel
    by_cases hlt : k < b.size
    · have hlt' : (k : Int) < b.size := by omega
      have la : k < a.size := by have := HM.out; omega
      have lb : k < b.size := by have := HM.out; omega
      have la' : (k : Int) < a.size := by omega
      have lb' : (k : Int) < b.size := by omega
      have hw : IntKind.i64.wrap ((k : Int) + 1) = (k : Int) + 1 := by rw [IntKind.wrap_i64]; have := HA.out; omega
      obtain ⟨p, hp⟩ : ∃ p, a[k]'la = p := ⟨_, rfl⟩
      obtain ⟨q, hq⟩ : ∃ q, b[k]'lb = q := ⟨_, rfl⟩
      have HP : Hid ((unB a)[k]? = some p) := by show _ = _; rw [un_get a k la, hp]
      have HQ : Hid ((unB b)[k]? = some q) := by show _ = _; rw [un_get b k lb, hq]
      by_cases hpq : p = q
      · subst hpq
        have HE2 : Hid (∀ i, i < k + 1 → (unB a)[i]? = (unB b)[i]?) := fun i hi => by
          by_cases e : i = k
          · subst e; rw [HP.out, HQ.out]
          · exact HE.out i (by omega)
        have hne : ((p.toNat : Int) != (p.toNat : Int)) = false := by simp
        go_wp2
        go_quiet (fail)
        have hb1 : Below w.heap.size w (wr.drewN nq) := below_drewN B.out nq
        have B1 : Hid (Below w.heap.size w (wr.drewN nq)) := hb1
        clear hb1
        go_wp2
        go_roundg (b.size - (k + 1))
        case measure => omega
        case rel => exact ⟨k + 1, by omega, by omega, by first | rfl | simp, B1, HE2⟩
      · have hne : ((p.toNat : Int) != (q.toNat : Int)) = true := by
          have : ¬ p.toNat = q.toNat := fun e => hpq (UInt8.toNat_inj.1 e)
          simp; omega
        have HR : Hid (x = sg (rk p) (rk q)) := by show _ = _; rw [HX.out]; exact cmpL_part _ _ k p q HE.out HP.out HQ.out hpq
        clear hpq
        go_wp2
        go_quiet (fail)
        obtain ⟨w1, hw1⟩ : ∃ w1, w1 = wr.drewN nq := ⟨_, rfl⟩
        have hb1 : Below w.heap.size w (wr.drewN nq) := below_drewN B.out nq
        rw [← hw1] at hb1 ⊢
        have B1 : Hid (Below w.heap.size w w1) := hb1
        clear hw1 hb1 B
        go_wp2
        go_quiet (first | (go_at_call 43; exact Calls.quiet_of_same (rank_any _ _)) | (go_at_call 42; exact Calls.quiet_of_same (cmpInt_any _ _ _)))
        have hb2 : Below w.heap.size w (w1.drewN nq) := below_drewN B1.out nq
        have B2 : Hid (Below w.heap.size w (w1.drewN nq)) := hb2
        clear hb2
        go_wp2
        go_ret
        exact ⟨by rw [HR.out]; rfl, B2.out⟩
    · obtain rfl : k = b.size := by omega
      have hlt' : ¬ (b.size : Int) < b.size := by omega
      have HR : Hid (x = sg a.size b.size) := by
        show _ = _
        have h1 := HM.out
        rw [HX.out, cmpL_len _ _ (fun i hi => HE.out i (by rw [un_size, un_size] at hi; omega)), un_size, un_size]
      go_wp2_with (go_at_call 42; refine (cmpInt_any _ _ _).mono ?_; rintro e w' ⟨rfl, hee⟩; obtain rfl := hee.symm; clear hee)
      go_ret
      exact ⟨by rw [HR.out]; rfl, B.out⟩

theorem compare_any (a b : ByteArray) (ha : a.size ≤ 1000000) (hb : b.size ≤ 1000000) (w : World) : Calls Tryz.prog 22 #[.string a, .string b] w fun e w' => e = .returned (.int .i64 (cmpL (unB a) (unB b))) ∧ Below w.heap.size w w' := by
  by_cases h : b.size < a.size
  · exact compare_gt a b ha hb h w
  · exact compare_le a b ha hb h w
end Go.Proofs.YtipagdhoeocjeaaGreat
