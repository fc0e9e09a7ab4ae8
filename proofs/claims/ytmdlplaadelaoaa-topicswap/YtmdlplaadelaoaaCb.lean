import Derived.Test.YtmdlplaadelaoaaCa
import Derived.Deep.LoopGhost
namespace Go.Proofs.Ytmdlplaadelaoaa
open Go Go.RowKit
set_option linter.unusedSimpArgs false
set_option linter.unusedVariables false

theorem cmpL_len : ∀ (a b : Bs), (∀ i, i < min a.length b.length → a[i]? = b[i]?) → cmpL a b = sg a.length b.length
  | [], [], _ => rfl
  | [], y :: ys, _ => by simp only [cmpL, sg, List.length_cons, List.length_nil]; rw [if_pos (by omega)]
  | x :: xs, [], _ => by simp only [cmpL, sg, List.length_cons, List.length_nil]; rw [if_neg (by omega), if_pos (by omega)]
  | x :: xs, y :: ys, h => by
    have h0 := h 0 (by simp)
    simp at h0
    subst h0
    simp only [cmpL, if_true]
    rw [cmpL_len xs ys (fun i hi => by have := h (i + 1) (by simp; omega); simpa using this)]
    simp only [sg, List.length_cons]
    congr 1
    · simp only [Int.natCast_add, eq_iff_iff]; omega
    · congr 1
      simp only [Int.natCast_add, eq_iff_iff]; omega
theorem cmpL_part : ∀ (a b : Bs) (k : Nat) (x y : UInt8), (∀ i, i < k → a[i]? = b[i]?) → a[k]? = some x → b[k]? = some y → ¬ x = y → cmpL a b = sg (rk x) (rk y)
  | [], _, k, _, _, _, h, _, _ => by simp at h
  | _ :: _, [], k, _, _, _, _, h, _ => by simp at h
  | p :: ps, q :: qs, 0, x, y, _, h1, h2, hn => by
    simp at h1 h2
    subst h1; subst h2
    have : ¬ rk p = rk q := fun e => hn (rk_inj e)
    simp only [cmpL, sg, if_neg hn]
    by_cases h : rk p < rk q
    · rw [if_pos h, if_pos h]
    · rw [if_neg h, if_neg h, if_pos (by omega)]
  | p :: ps, q :: qs, k + 1, x, y, h, h1, h2, hn => by
    have h0 := h 0 (by omega)
    simp at h0
    subst h0
    simp only [cmpL, if_true]
    exact cmpL_part ps qs k x y (fun i hi => by have := h (i + 1) (by omega); simpa using this) (by simpa using h1) (by simpa using h2) hn
theorem un_get (s : ByteArray) (i : Nat) (h : i < s.size) : (unB s)[i]? = some (s[i]'h) := by
  have h' : i < (unB s).length := by rw [un_size]; exact h
  rw [List.getElem?_eq_getElem h']; rfl

set_option maxRecDepth 100000 in
set_option maxHeartbeats 1000000 in
theorem compare_le (a b : ByteArray) (ha : a.size ≤ 1000000) (hb : b.size ≤ 1000000) (hm : ¬ b.size < a.size) (w : World) : Calls Try.prog 7 #[.string a, .string b] w fun e w' => e = .returned (.int .i64 (cmpL (unB a) (unB b))) ∧ Below w.heap.size w w' := by
  have HA : Hid (a.size ≤ 1000000) := ha
  have HB : Hid (b.size ≤ 1000000) := hb
  obtain ⟨x, hx⟩ : ∃ x, x = cmpL (unB a) (unB b) := ⟨_, rfl⟩
  rw [← hx]
  have HX : Hid (x = cmpL (unB a) (unB b)) := hx
  have HM : Hid (a.size ≤ a.size ∧ a.size ≤ b.size ∧ a.size = min a.size b.size) := ⟨by omega, by omega, by omega⟩
  clear hx ha hb
  go_enter Try.func7, Try.ntmps7
  go_wp2_with fail
  clear hm
  go_loopg [11] a.size (fun g s11 wx => ∃ k : Nat, k ≤ a.size ∧ g = a.size - k ∧ s11 = .int .i64 k ∧ Hid (Below w.heap.size w wx) ∧ Hid (∀ i, i < k → (unB a)[i]? = (unB b)[i]?))
  case atStart => exact ⟨0, Nat.zero_le _, rfl, rfl, Below.refl _ _, fun i hi => absurd hi (Nat.not_lt_zero i)⟩
  case round =>
    obtain ⟨k, hk, rfl, rfl, B, HE⟩ := hrel
    by_cases hlt : k < a.size
    · have hlt' : (k : Int) < a.size := by omega
      have la : k < a.size := by have := HM.out; omega
      have lb : k < b.size := by have := HM.out; omega
      have la' : (k : Int) < a.size := by omega
      have lb' : (k : Int) < b.size := by omega
      have hw : IntKind.i64.wrap ((k : Int) + 1) = (k : Int) + 1 := by rw [IntKind.wrap_i64]; have := HA.out; omega
      obtain ⟨p, hp⟩ : ∃ p, a[k]'la = p := ⟨_, rfl⟩
      obtain ⟨q, hq⟩ : ∃ q, b[k]'lb = q := ⟨_, rfl⟩
      have HP : Hid ((unB a)[k]? = some p) := by show _ = _; rw [un_get a k la, hp]
      have HQ : Hid ((unB b)[k]? = some q) := by show _ = _; rw [un_get b k lb, hq]
      by_cases hpq : p = q
      · subst hpq
        have HE2 : Hid (∀ i, i < k + 1 → (unB a)[i]? = (unB b)[i]?) := fun i hi => by
          by_cases e : i = k
          · subst e; rw [HP.out, HQ.out]
          · exact HE.out i (by omega)
        have hne : ((p.toNat : Int) != (p.toNat : Int)) = false := by simp
        go_wp2
        go_quiet (fail)
        have hb1 : Below w.heap.size w (wr.drewN nq) := below_drewN B.out nq
        have B1 : Hid (Below w.heap.size w (wr.drewN nq)) := hb1
        clear hb1
        go_wp2
        go_roundg (a.size - (k + 1))
        case measure => omega
        case rel => exact ⟨k + 1, by omega, by omega, by first | rfl | simp, B1, HE2⟩
      · have hne : ((p.toNat : Int) != (q.toNat : Int)) = true := by
          have : ¬ p.toNat = q.toNat := fun e => hpq (UInt8.toNat_inj.1 e)
          simp; omega
        have HR : Hid (x = sg (rk p) (rk q)) := by show _ = _; rw [HX.out]; exact cmpL_part _ _ k p q HE.out HP.out HQ.out hpq
        clear hpq
        go_wp2
        go_quiet (fail)
        obtain ⟨w1, hw1⟩ : ∃ w1, w1 = wr.drewN nq := ⟨_, rfl⟩
        have hb1 : Below w.heap.size w (wr.drewN nq) := below_drewN B.out nq
        rw [← hw1] at hb1 ⊢
        have B1 : Hid (Below w.heap.size w w1) := hb1
        clear hw1 hb1 B
        go_wp2
        go_quiet (first | (go_at_call 19; exact Calls.quiet_of_same (rank_any _ _)) | (go_at_call 18; exact Calls.quiet_of_same (cmpInt_any _ _ _)))
        have hb2 : Below w.heap.size w (w1.drewN nq) := below_drewN B1.out nq
        have B2 : Hid (Below w.heap.size w (w1.drewN nq)) := hb2
        clear hb2
        go_wp2
        go_ret
        exact ⟨by rw [HR.out]; rfl, B2.out⟩
    · obtain rfl : k = a.size := by omega
      have hlt' : ¬ (a.size : Int) < a.size := by omega
      have HR : Hid (x = sg a.size b.size) := by
        show _ = _
        have h1 := HM.out
        rw [HX.out, cmpL_len _ _ (fun i hi => HE.out i (by rw [un_size, un_size] at hi; omega)), un_size, un_size]
      go_wp2_with (go_at_call 18; refine (cmpInt_any _ _ _).mono ?_; rintro e w' ⟨rfl, hee⟩; obtain rfl := hee.symm; clear hee)
      go_ret
      exact ⟨by rw [HR.out]; rfl, B.out⟩
set_option maxRecDepth 100000 in
set_option maxHeartbeats 1000000 in
theorem compare_gt (a b : ByteArray) (ha : a.size ≤ 1000000) (hb : b.size ≤ 1000000) (hm : b.size < a.size) (w : World) : Calls Try.prog 7 #[.string a, .string b] w fun e w' => e = .returned (.int .i64 (cmpL (unB a) (unB b))) ∧ Below w.heap.size w w' := by
  have HA : Hid (a.size ≤ 1000000) := ha
  have HB : Hid (b.size ≤ 1000000) := hb
  obtain ⟨x, hx⟩ : ∃ x, x = cmpL (unB a) (unB b) := ⟨_, rfl⟩
  rw [← hx]
  have HX : Hid (x = cmpL (unB a) (unB b)) := hx
  have HM : Hid (b.size ≤ a.size ∧ b.size ≤ b.size ∧ b.size = min a.size b.size) := ⟨by omega, by omega, by omega⟩
  clear hx ha hb
  go_enter Try.func7, Try.ntmps7
  go_wp2_with fail
  clear hm
  go_loopg [11] b.size (fun g s11 wx => ∃ k : Nat, k ≤ b.size ∧ g = b.size - k ∧ s11 = .int .i64 k ∧ Hid (Below w.heap.size w wx) ∧ Hid (∀ i, i < k → (unB a)[i]? = (unB b)[i]?))
  case atStart => exact ⟨0, Nat.zero_le _, rfl, rfl, Below.refl _ _, fun i hi => absurd hi (Nat.not_lt_zero i)⟩
  case round =>
    obtain ⟨k, hk, rfl, rfl, B, HE⟩ := hrel
    by_cases hlt : k < b.size
    · have hlt' : (k : Int) < b.size := by omega
      have la : k < a.size := by have := HM.out; omega
      have lb : k < b.size := by have := HM.out; omega
      have la' : (k : Int) < a.size := by omega
      have lb' : (k : Int) < b.size := by omega
      have hw : IntKind.i64.wrap ((k : Int) + 1) = (k : Int) + 1 := by rw [IntKind.wrap_i64]; have := HA.out; omega
      obtain ⟨p, hp⟩ : ∃ p, a[k]'la = p := ⟨_, rfl⟩
      obtain ⟨q, hq⟩ : ∃ q, b[k]'lb = q := ⟨_, rfl⟩
      have HP : Hid ((unB a)[k]? = some p) := by show _ = _; rw [un_get a k la, hp]
      have HQ : Hid ((unB b)[k]? = some q) := by show _ = _; rw [un_get b k lb, hq]
      by_cases hpq : p = q
      · subst hpq
        have HE2 : Hid (∀ i, i < k + 1 → (unB a)[i]? = (unB b)[i]?) := fun i hi => by
          by_cases e : i = k
          · subst e; rw [HP.out, HQ.out]
          · exact HE.out i (by omega)
        have hne : ((p.toNat : Int) != (p.toNat : Int)) = false := by simp
        go_wp2
        go_quiet (fail)
        have hb1 : Below w.heap.size w (wr.drewN nq) := below_drewN B.out nq
        have B1 : Hid (Below w.heap.size w (wr.drewN nq)) := hb1
        clear hb1
        go_wp2
        go_roundg (b.size - (k + 1))
        case measure => omega
        case rel => exact ⟨k + 1, by omega, by omega, by first | rfl | simp, B1, HE2⟩
      · have hne : ((p.toNat : Int) != (q.toNat : Int)) = true := by
          have : ¬ p.toNat = q.toNat := fun e => hpq (UInt8.toNat_inj.1 e)
          simp; omega
        have HR : Hid (x = sg (rk p) (rk q)) := by show _ = _; rw [HX.out]; exact cmpL_part _ _ k p q HE.out HP.out HQ.out hpq
        clear hpq
        go_wp2
        go_quiet (fail)
        obtain ⟨w1, hw1⟩ : ∃ w1, w1 = wr.drewN nq := ⟨_, rfl⟩
        have hb1 : Below w.heap.size w (wr.drewN nq) := below_drewN B.out nq
        rw [← hw1] at hb1 ⊢
        have B1 : Hid (Below w.heap.size w w1) := hb1
        clear hw1 hb1 B
        go_wp2
        go_quiet (first | (go_at_call 19; exact Calls.quiet_of_same (rank_any _ _)) | (go_at_call 18; exact Calls.quiet_of_same (cmpInt_any _ _ _)))
        have hb2 : Below w.heap.size w (w1.drewN nq) := below_drewN B1.out nq
        have B2 : Hid (Below w.heap.size w (w1.drewN nq)) := hb2
        clear hb2
        go_wp2
        go_ret
        exact ⟨by rw [HR.out]; rfl, B2.out⟩
    · obtain rfl : k = b.size := by omega
      have hlt' : ¬ (b.size : Int) < b.size := by omega
      have HR : Hid (x = sg a.size b.size) := by
        show _ = _
        have h1 := HM.out
        rw [HX.out, cmpL_len _ _ (fun i hi => HE.out i (by rw [un_size, un_size] at hi; omega)), un_size, un_size]
      go_wp2_with (go_at_call 18; refine (cmpInt_any _ _ _).mono ?_; rintro e w' ⟨rfl, hee⟩; obtain rfl := hee.symm; clear hee)
      go_ret
      exact ⟨by rw [HR.out]; rfl, B.out⟩

theorem compare_any (a b : ByteArray) (ha : a.size ≤ 1000000) (hb : b.size ≤ 1000000) (w : World) : Calls Try.prog 7 #[.string a, .string b] w fun e w' => e = .returned (.int .i64 (cmpL (unB a) (unB b))) ∧ Below w.heap.size w w' := by
  by_cases h : b.size < a.size
  · exact compare_gt a b ha hb h w
  · exact compare_le a b ha hb h w
end Go.Proofs.Ytmdlplaadelaoaa
