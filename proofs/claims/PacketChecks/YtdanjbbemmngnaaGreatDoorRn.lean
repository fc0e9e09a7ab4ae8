import Derived.Test.YtdanjbbemmngnaaGreatDoorRl
import Derived.Test.YtdanjbbemmngnaaGreatDoorRe
namespace Go.Proofs.YtdanjbbemmngnaaGreatDoor
open Go Go.RowKit Go.Sort
set_option linter.unusedSimpArgs false
set_option linter.unusedVariables false

/-- What the document's look at filters tells. -/
def rflts (p : Pk) (c : Cn) : Bool := allN p.asks.n (fun i => rfc (c.af i) == 0) && allN p.filters.n (fun i => rfc (c.fs i) == 0)

set_option maxHeartbeats 4000000 in
set_option maxRecDepth 100000 in
theorem rfilters_any (p : Pk) (c : Cn) (w : World) (hin : In w p c) (ha : p.asks.n ≤ 1000000) (hd : p.filters.n ≤ 1000000) : Calls Tryz.prog 98 #[p.v] w fun e w' => e = .returned (.bool (rflts p c)) ∧ Below w.heap.size w w' := by
  obtain ⟨x, hx⟩ : ∃ x, x = rflts p c := ⟨_, rfl⟩
  rw [← hx]
  have HX : Hid (x = rflts p c) := hx
  clear hx
  obtain ⟨P, hP⟩ : ∃ P, P = pkCells p := ⟨_, rfl⟩
  obtain ⟨W, hW⟩ : ∃ W, W = w.alloc (.cells P 29) := ⟨_, rfl⟩
  have b0 : Hid (Below w.heap.size w W) := box_below hW
  have FA : Hid (∀ k v, (pkCells p)[k]? = some v → W.cell? ⟨w.heap.size, k, none⟩ = some v) := fun k v h => by rw [hW]; exact box_cell w P 29 k v (by rw [hP]; exact h)
  rw [show p.v = .agg P by rw [hP]; rfl]
  clear hP
  have HA : Hid (As W p.asks c.af c.aq) := hin.asks.below b0.out
  have HS : Hid (Ss W p.filters c.fs) := hin.filters.below b0.out
  have LA : Hid (p.asks.n ≤ 1000000) := ha
  have LC : Hid (p.filters.n ≤ 1000000) := hd
  have R0 : Hid (Below W.heap.size W W) := Below.refl _ _
  have BW : Hid (∀ w', Below W.heap.size W w' → Below w.heap.size w w') := fun w' hb => b0.out.trans (hb.mono b0.out.size)
  clear hin ha hd
  go_enter Tryz.func98, Tryz.ntmps98
  go_upto_region 1 with fail
  rw [← hW]
  clear hW
  go_wp2_with fail
  go_loopg [3] p.asks.n (fun g s3 wx => ∃ k : Nat, s3 = .int .i64 k ∧ k + g = p.asks.n ∧ Hid (Below W.heap.size W wx) ∧ Hid (∀ j, j < k → (rfc (c.af j) == 0) = true))
  case atStart => exact ⟨0, rfl, by omega, R0, fun j hj => absurd hj (Nat.not_lt_zero _)⟩
  case round =>
    obtain ⟨k, rfl, hkg, B, HD⟩ := hrel
    have c22 := cell_later B.out (FA.out 22 (.slice p.asks.a p.asks.n p.asks.c) rfl)
    by_cases hk : k < p.asks.n
    · have hk' : (k : Int) < p.asks.n := by omega
      obtain ⟨b, off, he, hc⟩ : ∃ b off, p.asks.a = some ⟨b, off, none⟩ ∧ ∀ i, i < p.asks.n → (W.cell? ⟨b, off + i * 2, none⟩ = some (.string (c.af i)) ∧ W.cell? ⟨b, off + i * 2 + 1, none⟩ = some (.int .i64 (c.aq i))) := by
        rcases HA.out.2 with h | h
        · omega
        · exact h
      have hac : p.asks.n ≤ p.asks.c := HA.out.1
      rw [he] at c22
      have d1 := cell_later B.out (hc k hk).1
      have hw : IntKind.i64.wrap ((k : Int) + 1) = (k : Int) + 1 := by rw [IntKind.wrap_i64]; have := LA.out; omega
      clear hc he
      go_wp2_with fail
      go_must (go_at_call 141)
      refine (rfilter_any (c.af k) _).mono ?_
      rintro e w1 ⟨rfl, hb⟩
      have B1 : Hid (Below W.heap.size W w1) := B.out.trans (hb.mono B.out.size)
      clear hb c22 d1
      cases hq : (rfc (c.af k) == 0)
      case false =>
        have hq' : (rfc (c.af k) != 0) = true := by simpa using hq
        have HR : Hid (x = false) := by show _ = _; rw [HX.out, rflts, allN_false (f := fun i => rfc (c.af i) == 0) k hk hq]; rfl
        clear hq
        go_wp2
        go_ret
        exact ⟨by rw [HR.out]; rfl, BW.out _ B1.out⟩
      have hq' : (rfc (c.af k) != 0) = false := by simpa using hq
      have HN : Hid (∀ j, j < k + 1 → (rfc (c.af j) == 0) = true) := fun j hj => by
        rcases Nat.lt_or_ge j k with h | h
        · exact HD.out j h
        · obtain rfl : j = k := by omega
          exact hq
      clear hq
      go_wp2
      go_roundg (p.asks.n - (k + 1))
      case measure => omega
      case rel => exact ⟨k + 1, by first | rfl | simp, by omega, B1, HN⟩
    · obtain rfl : k = p.asks.n := by omega
      have hk' : ¬ (p.asks.n : Int) < p.asks.n := by omega
      have AL : Hid (allN p.asks.n (fun i => rfc (c.af i) == 0) = true) := (allN_iff _ _).2 HD.out
      go_wp2_with fail
      clear hk' c22
      go_loopg [4] p.filters.n (fun g s4 wx => ∃ k : Nat, s4 = .int .i64 k ∧ k + g = p.filters.n ∧ Hid (Below W.heap.size W wx) ∧ Hid (∀ j, j < k → (rfc (c.fs j) == 0) = true))
      case atStart => exact ⟨0, rfl, by omega, B, fun j hj => absurd hj (Nat.not_lt_zero _)⟩
      case round =>
        obtain ⟨j, rfl, hjg, C, HC⟩ := hrel
        have c24 := cell_later C.out (FA.out 24 (.slice p.filters.a p.filters.n p.filters.c) rfl)
        by_cases hj : j < p.filters.n
        · have hj' : (j : Int) < p.filters.n := by omega
          obtain ⟨b, off, he, hc⟩ : ∃ b off, p.filters.a = some ⟨b, off, none⟩ ∧ ∀ i, i < p.filters.n → W.cell? ⟨b, off + i, none⟩ = some (.string (c.fs i)) := by
            rcases HS.out.2 with h | h
            · omega
            · exact h
          have hac : p.filters.n ≤ p.filters.c := HS.out.1
          rw [he] at c24
          have d1 := cell_later C.out (hc j hj)
          have hw : IntKind.i64.wrap ((j : Int) + 1) = (j : Int) + 1 := by rw [IntKind.wrap_i64]; have := LC.out; omega
          clear hc he
          go_wp2_with fail
          go_must (go_at_call 141)
          refine (rfilter_any (c.fs j) _).mono ?_
          rintro e w1 ⟨rfl, hb⟩
          have B1 : Hid (Below W.heap.size W w1) := C.out.trans (hb.mono C.out.size)
          clear hb c24 d1
          cases hq : (rfc (c.fs j) == 0)
          case false =>
            have hq' : (rfc (c.fs j) != 0) = true := by simpa using hq
            have HR : Hid (x = false) := by show _ = _; rw [HX.out, rflts, allN_false (f := fun i => rfc (c.fs i) == 0) j hj hq]; simp
            clear hq
            go_wp2
            go_ret
            exact ⟨by rw [HR.out]; rfl, BW.out _ B1.out⟩
          have hq' : (rfc (c.fs j) != 0) = false := by simpa using hq
          have HN : Hid (∀ i, i < j + 1 → (rfc (c.fs i) == 0) = true) := fun i hi => by
            rcases Nat.lt_or_ge i j with h | h
            · exact HC.out i h
            · obtain rfl : i = j := by omega
              exact hq
          clear hq
          go_wp2
          go_roundg (p.filters.n - (j + 1))
          case measure => omega
          case rel => exact ⟨j + 1, by first | rfl | simp, by omega, B1, HN⟩
        · obtain rfl : j = p.filters.n := by omega
          have hj' : ¬ (p.filters.n : Int) < p.filters.n := by omega
          have CL : Hid (allN p.filters.n (fun i => rfc (c.fs i) == 0) = true) := (allN_iff _ _).2 HC.out
          have HR : Hid (x = true) := by show _ = _; rw [HX.out, rflts, AL.out, CL.out]; rfl
          go_wp2
          go_ret
          exact ⟨by rw [HR.out]; rfl, BW.out _ C.out⟩
end Go.Proofs.YtdanjbbemmngnaaGreatDoor
