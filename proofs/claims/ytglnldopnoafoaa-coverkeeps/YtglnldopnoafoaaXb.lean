import Derived.Test.YtglnldopnoafoaaXa
import Derived.Lib.QuietBelow
import Derived.BigQuiet
namespace Go.Proofs.Ytglnldopnoafoaa
open Go Go.RowKit
set_option linter.unusedSimpArgs false
set_option linter.unusedVariables false

theorem Row.at' {w : World} {a : Option Addr} {n cap : Nat} {xs : List ByteArray} (h : Row w (.slice a n cap) xs) (hne : xs ≠ []) : ∃ g o, a = some ⟨g, o, none⟩ ∧ g < w.heap.size ∧ ∀ k x, xs[k]? = some x → w.cell? ⟨g, o + k, none⟩ = some (.string x) := by
  obtain ⟨a', n', cap', e, hn, hc, hx⟩ := h
  simp only [Value.slice.injEq] at e
  obtain ⟨rfl, rfl, rfl⟩ := e
  exact hx hne
set_option maxRecDepth 100000 in
set_option maxHeartbeats 4000000 in
theorem keeps_any (l : List ByteArray) (t : ByteArray) (hl : l.length ≤ 9223372036854775807) (v : Value) (w : World) (R : Row w v l) : Calls Try.prog 6 #[v, .string t] w fun e w' => e = .returned (.bool true) ∧ Below w.heap.size w w' := by
  have RR : Hid (Row w v l) := R
  obtain ⟨a, n, cap, rfl, hn, hc, hx⟩ := R
  have HN : Hid (n = l.length ∧ n ≤ 9223372036854775807 ∧ n ≤ cap) := ⟨hn, by omega, hc⟩
  have HC : Hid (∀ w1, Below w.heap.size w w1 → ∀ j x, l[j]? = some x → ∃ g o, a = some ⟨g, o, none⟩ ∧ w1.cell? ⟨g, o + j, none⟩ = some (.string x)) := by
    intro w1 hb j x hj
    obtain ⟨g, o, h1, h2, h3⟩ := hx (by intro h; rw [h] at hj; simp at hj)
    exact ⟨g, o, h1, (hb.cell (p := ⟨g, o + j, none⟩) h2).trans (h3 j x hj)⟩
  have B0 : Hid (Below w.heap.size w w) := Below.refl _ _
  clear hx hn hc hl
  go_enter Try.func6, Try.ntmps6
  go_wp2_with fail
  go_loopg [5, 6] n (fun gk s5 s6 wx => ∃ (j : Nat) (N : Int), j + gk = n ∧ s5 = .int .i64 N ∧ s6 = .int .i64 j ∧ w = wx)
  case atStart => exact ⟨0, _, by omega, rfl, rfl, rfl⟩
  case round =>
    obtain ⟨j, N, hj, rfl, rfl, rfl⟩ := hrel
    by_cases hgo : 0 < gk ∧ N ≤ 20000
    · obtain ⟨hg, hN⟩ := hgo
      have hjz : (j : Int) < (n : Int) := by omega
      have hj0 : (0 : Int) ≤ (j : Int) := by omega
      have hwj : IntKind.i64.wrap ((j : Int) + 1) = (j : Int) + 1 := by rw [IntKind.wrap_i64]; have := HN.out; omega
      obtain ⟨x, hx⟩ : ∃ x, l[j]? = some x := ⟨_, List.getElem?_eq_getElem (by have := HN.out; omega)⟩
      obtain ⟨g, o, rfl, hcell⟩ := HC.out w B0.out j x hx
      obtain ⟨N1, hN1⟩ : ∃ N1, IntKind.i64.wrap (N + 1) = N1 := ⟨_, rfl⟩
      obtain ⟨N2, hN2⟩ : ∃ N2, IntKind.i64.wrap (N1 + (x.size : Int)) = N2 := ⟨_, rfl⟩
      clear hx
      go_wp2_with fail
      go_roundg (gk - 1)
      case measure => omega
      case rel => exact ⟨j + 1, N2, by omega, by first | rfl | simp, by first | rfl | simp, rfl⟩
    · by_cases hg : gk = 0
      · have hjz : ¬ (j : Int) < (n : Int) := by omega
        by_cases h1 : (20000 : Int) < N
        · clear hgo
          go_wp2_with fail
          go_ret
          exact ⟨rfl, B0.out⟩
        · by_cases h2 : (40 : Int) < (n : Int)
          · clear hgo
            go_wp2_with fail
            go_ret
            exact ⟨rfl, B0.out⟩
          · have HNN : Hid (n ≤ 40) := by show _ ≤ _; omega
            clear hgo hg hj
            go_wp2_with fail
            go_must (go_at_call 13)
            refine (known_any w).mono ?_
            rintro e w1 ⟨rfl, hb⟩
            have B1 : Hid (Below w.heap.size w w1) := hb
            have R1 : Hid (Row w1 (.slice a n cap) l) := RR.out.later hb
            clear hb
            go_wp2_with fail
            go_must (go_at_call 16)
            refine (least_any l (by have := HNN.out; have := HN.out; omega) _ w1 R1.out).mono ?_
            rintro e w2 ⟨vx, rfl, hr, hb⟩
            have B2 : Hid (Below w.heap.size w w2) := B1.out.trans (hb.mono B1.out.size)
            obtain ⟨X, hX⟩ : ∃ X, lea l.length l = X := ⟨_, rfl⟩
            rw [hX] at hr
            have HXS : Hid (X.Sublist l ∧ Apart 0 X ∧ (X = [] ↔ l = []) ∧ anyM l t l.length = anyM X t X.length) := by
              rw [← hX]
              exact ⟨lea_sub _ _, lea_apart _ _ (Nat.le_refl _) (fun i j x y h1 h2 hx hy => by have := (List.getElem?_eq_some_iff.1 hx).1; omega), lea_none _ _ (Nat.le_refl _), anyM_same l t⟩
            obtain ⟨ax, m, cx, rfl, hm, hcx, hxx⟩ := hr
            have HM : Hid (m = X.length ∧ m ≤ 40) := ⟨hm, by have := HXS.out.1.length_le; have := HN.out; have := HNN.out; omega⟩
            have HCX : Hid (∀ w3, Below w2.heap.size w2 w3 → ∀ j x, X[j]? = some x → ∃ g o, ax = some ⟨g, o, none⟩ ∧ w3.cell? ⟨g, o + j, none⟩ = some (.string x)) := by
              intro w3 hb j x hj
              obtain ⟨g, o, h1, h2, h3⟩ := hxx (by intro h; rw [h] at hj; simp at hj)
              exact ⟨g, o, h1, (hb.cell (p := ⟨g, o + j, none⟩) h2).trans (h3 j x hj)⟩
            clear hb hX hm hcx hxx R1 B1 h1 h2 hjz
            go_wp2_with fail
            go_loopg [8, 10] n (fun gk s8 s10 wx => ∃ (i : Nat), i + gk = n ∧ s8 = .bool (anyM l t i) ∧ s10 = .int .i64 i ∧ Hid (Below w2.heap.size w2 wx))
            case atStart => exact ⟨0, by omega, rfl, rfl, Below.refl _ _⟩
            case round =>
              obtain ⟨i, hi, rfl, rfl, BX⟩ := hrel
              cases gk with
              | succ gk =>
                have hiz : (i : Int) < (n : Int) := by omega
                have hi0 : (0 : Int) ≤ (i : Int) := by omega
                have hwi : IntKind.i64.wrap ((i : Int) + 1) = (i : Int) + 1 := by rw [IntKind.wrap_i64]; have := HNN.out; omega
                obtain ⟨x, hx⟩ : ∃ x, l[i]? = some x := ⟨_, List.getElem?_eq_getElem (by have := HN.out; omega)⟩
                obtain ⟨g, o, rfl, hcell⟩ := HC.out wr (B2.out.trans (BX.out.mono B2.out.size)) i x hx
                have HS : Hid (anyM l t (i + 1) = (anyM l t i || mch x t)) := anyM_succ l t i x hx
                obtain ⟨b, hb⟩ : ∃ b, anyM l t i = b := ⟨_, rfl⟩
                rw [hb] at HS ⊢
                clear hx hb
                cases b with
                | true =>
                  have HS2 : Hid (Value.bool (anyM l t (i + 1)) = Value.bool true) := by show _ = _; rw [HS.out]; rfl
                  go_wp2_with fail
                  go_roundg gk
                  case measure => omega
                  case rel => exact ⟨i + 1, by omega, by rw [HS2.out], by first | rfl | simp, BX⟩
                | false =>
                  have HS2 : Hid (Value.bool (anyM l t (i + 1)) = Value.bool (mch x t)) := by show _ = _; rw [HS.out]; rfl
                  go_wp2_with fail
                  go_must (go_at_call 14)
                  refine (tmatch_any x t wr).mono ?_
                  rintro e w3 ⟨rfl, hb⟩
                  have BX3 : Hid (Below w2.heap.size w2 w3) := BX.out.trans (hb.mono BX.out.size)
                  clear hb
                  go_wp2_with fail
                  go_roundg gk
                  case measure => omega
                  case rel => exact ⟨i + 1, by omega, by rw [HS2.out], by first | rfl | simp, BX3⟩
              | zero =>
                have hiz : ¬ (i : Int) < (n : Int) := by omega
                have HI : Hid (i = n) := by show _ = _; omega
                clear hi
                go_wp2_with fail
                obtain ⟨b8, hb8⟩ : ∃ b8, anyM l t i = b8 := ⟨_, rfl⟩
                have HS8 : Hid (b8 = anyM X t X.length) := by
                  show _ = _
                  rw [← hb8, ← HXS.out.2.2.2, HI.out, HN.out.1]
                rw [hb8]
                clear hb8
                obtain ⟨z0, hz0⟩ : ∃ z0, ((n : Int) == 0) = z0 := ⟨_, rfl⟩
                have HZ0 : Hid (((m : Int) == 0) = z0) := by
                  show _ = _
                  rw [← hz0]
                  have h5 := HXS.out.2.2.1
                  have h6 := HM.out.1
                  have h7 := HN.out.1
                  have h8 : (m = 0 ↔ n = 0) := by
                    rw [h6, h7]
                    constructor
                    · intro h; exact List.length_eq_zero_iff.2 (h5.1 (List.length_eq_zero_iff.1 h))
                    · intro h; exact List.length_eq_zero_iff.2 (h5.2 (List.length_eq_zero_iff.1 h))
                  apply Bool.eq_iff_iff.2
                  simp only [beq_iff_eq]
                  omega
                clear HI
                go_loopg [9, 11, 12] m (fun gk s9 s11 s12 wx => ∃ i k : Nat, i + gk = m ∧ k ≤ n ∧ s9 = .bool (anyM X t i) ∧ s11 = .int .i64 k ∧ s12 = .int .i64 i ∧ Hid (Below w2.heap.size w2 wx) ∧ Hid ((X.drop i).Sublist (l.drop k)))
                case atStart => exact ⟨0, 0, by omega, by omega, rfl, rfl, rfl, BX, by show List.Sublist _ _; simpa using HXS.out.1⟩
                case round =>
                  obtain ⟨i, k, hi, hkn0, rfl, rfl, rfl, BI, SUB⟩ := hrel
                  cases gk with
                  | zero =>
                    have hiz2 : ¬ (i : Int) < (m : Int) := by omega
                    have HI2 : Hid (anyM X t i = b8) := by show _ = _; rw [HS8.out, show i = X.length by have := HM.out; omega]
                    have BE : Hid (Below w.heap.size w wr) := B2.out.trans (BI.out.mono B2.out.size)
                    rw [HI2.out]
                    have hz1 := HZ0.out
                    clear hi
                    cases b8 <;> cases z0 <;> (go_wp2_with fail; go_ret; exact ⟨by first | rfl | (simp only [hz0, hz1]; rfl) | (simp [hz0, hz1]), BE.out⟩)
                  | succ GI =>
                    have hiz2 : (i : Int) < (m : Int) := by omega
                    have hi02 : (0 : Int) ≤ (i : Int) := by omega
                    have hwi2 : IntKind.i64.wrap ((i : Int) + 1) = (i : Int) + 1 := by rw [IntKind.wrap_i64]; have := HM.out; omega
                    obtain ⟨x, hx⟩ : ∃ x, X[i]? = some x := ⟨_, List.getElem?_eq_getElem (by have := HM.out; omega)⟩
                    have HX : Hid (X[i]? = some x) := hx
                    have HDX : Hid (X.drop i = x :: X.drop (i + 1)) := by
                      obtain ⟨h5, h6⟩ := List.getElem?_eq_some_iff.1 hx
                      show _ = _
                      rw [List.drop_eq_getElem_cons h5, h6]
                    obtain ⟨g9, o9, hax9, hcell9⟩ := HCX.out wr BI.out i x hx
                    have HS : Hid (anyM X t (i + 1) = (anyM X t i || mch x t)) := anyM_succ X t i x hx
                    obtain ⟨b, hb⟩ : ∃ b, anyM X t i = b := ⟨_, rfl⟩
                    rw [hb] at HS ⊢
                    subst hax9
                    clear hx hb
                    cases b with
                    | true =>
                      have HS2 : Hid (Value.bool (anyM X t (i + 1)) = Value.bool true) := by show _ = _; rw [HS.out]; rfl
                      obtain ⟨w3, hw3⟩ : ∃ w3, w3 = wr := ⟨_, rfl⟩
                      have BQ : Hid (Below w2.heap.size w2 w3) := by rw [hw3]; exact BI.out
                      rw [← hw3]
                      rw [← hw3] at hcell9
                      clear hw3 BI
                      go_wp2_with fail
                      go_loopg [11] (n - k) (fun g2 s11 wy => ∃ k2 : Nat, k2 + g2 = n ∧ s11 = .int .i64 k2 ∧ Hid (∃ q, wy = w3.drewN q) ∧ Hid ((X.drop i).Sublist (l.drop k2)))
                      case atStart => exact ⟨k, by omega, rfl, ⟨0, rfl⟩, SUB⟩
                      case round =>
                        obtain ⟨k2, hk2, rfl, HW, SUB2⟩ := hrel
                        obtain ⟨q, hq⟩ := HW.out
                        have hkn : k2 < n := by
                          apply Classical.byContradiction
                          intro h
                          have h3 := SUB2.out
                          have hnil : l.drop k2 = [] := List.drop_eq_nil_of_le (by have := HN.out; omega)
                          rw [HDX.out, hnil] at h3
                          cases h3
                        obtain ⟨y, hy⟩ : ∃ y, l[k2]? = some y := ⟨_, List.getElem?_eq_getElem (by have := HN.out; omega)⟩
                        have BY : Hid (Below w2.heap.size w2 wr) := by rw [hq]; exact below_drewN BQ.out q
                        obtain ⟨gl, ol, rfl, hcl⟩ := HC.out wr (B2.out.trans (BY.out.mono B2.out.size)) k2 y hy
                        obtain ⟨gx, ox, hgx0, hcx2⟩ := HCX.out wr BY.out i x HX.out
                        simp only [Option.some.injEq, Addr.mk.injEq] at hgx0
                        obtain ⟨rfl, rfl, -⟩ := hgx0
                        have hkz : (k2 : Int) < (n : Int) := by omega
                        have hk0 : (0 : Int) ≤ (k2 : Int) := by omega
                        have hwk : IntKind.i64.wrap ((k2 : Int) + 1) = (k2 : Int) + 1 := by rw [IntKind.wrap_i64]; have := HNN.out; omega
                        have STEP : Hid ((unB x = unB y → (X.drop (i + 1)).Sublist (l.drop (k2 + 1))) ∧ (¬ unB x = unB y → (X.drop i).Sublist (l.drop (k2 + 1)))) := by
                          have h3 := SUB2.out
                          have h4 : l.drop k2 = y :: l.drop (k2 + 1) := by
                            obtain ⟨h5, h6⟩ := List.getElem?_eq_some_iff.1 hy
                            rw [List.drop_eq_getElem_cons h5, h6]
                          rw [HDX.out, h4] at h3
                          obtain ⟨s1, s2⟩ := sub_step h3
                          refine ⟨fun h => s1 (un_inj h), fun h => ?_⟩
                          rw [HDX.out]
                          exact s2 (fun e => h (by rw [e]))
                        have HG : Hid (k2 + 1 ≤ n ∧ ∃ g3, k2 + 1 + g3 = n ∧ g3 < gk) := by
                          cases gk with
                          | zero => omega
                          | succ g3 => exact ⟨by omega, g3, by omega, by omega⟩
                        have HW2 : Hid (∀ m, ∃ q, wr.drewN m = w3.drewN q) := fun m => ⟨q + m, by rw [hq, World.drewN_drewN]⟩
                        by_cases hxy : unB x = unB y
                        · have q1 : (y.toList == x.toList) = true := by rw [eq_two]; simp [hxy]
                          have S3 : Hid ((X.drop (i + 1)).Sublist (l.drop (k2 + 1))) := STEP.out.1 hxy
                          clear hxy hy hkn hq SUB2 STEP HW
                          go_wp2_with fail
                          go_quiet (fail)
                          have BZ : Hid (Below w2.heap.size w2 (wr.drewN nq)) := below_drewN BY.out nq
                          obtain ⟨w4, hw4⟩ : ∃ w4, w4 = wr.drewN nq := ⟨_, rfl⟩
                          rw [← hw4] at BZ ⊢
                          clear hw4
                          have hke : ((k2 : Int) == (n : Int)) = false := by rw [beq_eq_false_iff_ne]; omega
                          go_wp2_with fail
                          go_loopg [13] m (fun g4 s13 wz => ∃ j4 : Nat, j4 + g4 = m ∧ s13 = .int .i64 j4 ∧ Hid (Below w2.heap.size w2 wz))
                          case atStart => exact ⟨0, by omega, rfl, BZ⟩
                          case round =>
                            obtain ⟨j4, hj4, rfl, BV⟩ := hrel
                            cases gk with
                            | zero =>
                              have hjz4 : ¬ (j4 : Int) < (m : Int) := by omega
                              go_wp2_with fail
                              go_roundg GI
                              case measure => omega
                              case rel => exact ⟨i + 1, k2 + 1, by omega, HG.out.1, by rw [HS2.out], by first | rfl | simp, by first | rfl | simp, BV, S3⟩
                            | succ g4 =>
                              have hjz4 : (j4 : Int) < (m : Int) := by omega
                              have hj40 : (0 : Int) ≤ (j4 : Int) := by omega
                              have hwj4 : IntKind.i64.wrap ((j4 : Int) + 1) = (j4 : Int) + 1 := by rw [IntKind.wrap_i64]; have := HM.out; omega
                              obtain ⟨z, hz⟩ : ∃ z, X[j4]? = some z := ⟨_, List.getElem?_eq_getElem (by have := HM.out; omega)⟩
                              obtain ⟨gz, oz, hgz, hcz⟩ := HCX.out wr BV.out j4 z hz
                              simp only [Option.some.injEq, Addr.mk.injEq] at hgz
                              obtain ⟨rfl, rfl, -⟩ := hgz
                              obtain ⟨gx3, ox3, hgx, hcx3⟩ := HCX.out wr BV.out i x HX.out
                              simp only [Option.some.injEq, Addr.mk.injEq] at hgx
                              obtain ⟨rfl, rfl, -⟩ := hgx
                              by_cases hji : j4 = i
                              · have hne : ((j4 : Int) != (i : Int)) = false := by simp [hji]
                                clear hji hz
                                go_wp2_with fail
                                go_quiet (fail)
                                have BV2 : Hid (Below w2.heap.size w2 (wr.drewN nq)) := below_drewN BV.out nq
                                obtain ⟨w5, hw5⟩ : ∃ w5, w5 = wr.drewN nq := ⟨_, rfl⟩
                                rw [← hw5] at BV2 ⊢
                                clear hw5
                                go_wp2_with fail
                                go_roundg g4
                                case measure => omega
                                case rel => exact ⟨j4 + 1, by omega, by first | rfl | simp, BV2⟩
                              · have hne : ((j4 : Int) != (i : Int)) = true := by simp; omega
                                have hne2 : ((j4 : Int) == (i : Int)) = false := by simp; omega
                                have HIN : Hid (inP x z = false) := HXS.out.2.1 i j4 x z (Nat.zero_le _) (fun e => hji e.symm) HX.out hz
                                clear hji hz
                                have C12 : Hid (∀ W, Calls Try.prog 12 #[.string x, .string z] W fun e w' => e = .returned (.bool false) ∧ Below W.heap.size W w') := fun W => by have := within_any x z W; rw [HIN.out] at this; exact this
                                have kx := fun d os => ((below_regrown wr d os).cell (block_lt_of_cell hcx3)).trans hcx3
                                have kz := fun d os => ((below_regrown wr d os).cell (block_lt_of_cell hcz)).trans hcz
                                go_wp2_with fail
                                refine wp_region_quiet_below (by kernel_rfl) (by kernel_rfl) ?_
                                repeat (go_big_quiet_step (exact Calls.regrown_of (C12.out _)))
                                refine wpQuiet_nil ?_
                                rintro _ ⟨⟨d, os⟩, rfl⟩
                                have BV2 : Hid (Below w2.heap.size w2 (Sort.grow (redrawn wr d) os)) := BV.out.trans ((below_regrown wr d os).mono BV.out.size)
                                obtain ⟨w5, hw5⟩ : ∃ w5, w5 = Sort.grow (redrawn wr d) os := ⟨_, rfl⟩
                                rw [← hw5] at BV2 ⊢
                                clear hw5
                                go_wp2_with fail
                                go_roundg g4
                                case measure => omega
                                case rel => exact ⟨j4 + 1, by omega, by first | rfl | simp, BV2⟩
                        · have q1 : (y.toList == x.toList) = false := by rw [eq_two]; simp; exact fun h => hxy h.symm
                          have S3 : Hid ((X.drop i).Sublist (l.drop (k2 + 1))) := STEP.out.2 hxy
                          obtain ⟨hG1, g3, hG2, hG3⟩ := HG.out
                          clear hxy hy hkn hq SUB2 STEP HW
                          go_wp2_with fail
                          go_quiet (fail)
                          have HW3 : Hid (∃ q, wr.drewN nq = w3.drewN q) := HW2.out nq
                          obtain ⟨w4, hw4⟩ : ∃ w4, w4 = wr.drewN nq := ⟨_, rfl⟩
                          rw [← hw4] at HW3 ⊢
                          clear hw4
                          go_wp2_with fail
                          go_roundg g3
                          case measure => omega
                          case rel => exact ⟨k2 + 1, hG2, by first | rfl | simp, HW3, S3⟩
                    | false =>
                      obtain ⟨b9, hb9⟩ : ∃ b9, mch x t = b9 := ⟨_, rfl⟩
                      have HS2 : Hid (Value.bool (anyM X t (i + 1)) = Value.bool b9) := by show _ = _; rw [HS.out, hb9]; rfl
                      have HB9 : Hid (mch x t = b9) := hb9
                      clear hb9
                      go_wp2_with fail
                      go_must (go_at_call 14)
                      refine (tmatch_any x t wr).mono ?_
                      rintro e w3 ⟨rfl, hb⟩
                      have BQ : Hid (Below w2.heap.size w2 w3) := BI.out.trans (hb.mono BI.out.size)
                      rw [HB9.out]
                      clear hb BI hcell9
                      go_wp2_with fail
                      go_loopg [11] (n - k) (fun g2 s11 wy => ∃ k2 : Nat, k2 + g2 = n ∧ s11 = .int .i64 k2 ∧ Hid (∃ q, wy = w3.drewN q) ∧ Hid ((X.drop i).Sublist (l.drop k2)))
                      case atStart => exact ⟨k, by omega, rfl, ⟨0, rfl⟩, SUB⟩
                      case round =>
                        obtain ⟨k2, hk2, rfl, HW, SUB2⟩ := hrel
                        obtain ⟨q, hq⟩ := HW.out
                        have hkn : k2 < n := by
                          apply Classical.byContradiction
                          intro h
                          have h3 := SUB2.out
                          have hnil : l.drop k2 = [] := List.drop_eq_nil_of_le (by have := HN.out; omega)
                          rw [HDX.out, hnil] at h3
                          cases h3
                        obtain ⟨y, hy⟩ : ∃ y, l[k2]? = some y := ⟨_, List.getElem?_eq_getElem (by have := HN.out; omega)⟩
                        have BY : Hid (Below w2.heap.size w2 wr) := by rw [hq]; exact below_drewN BQ.out q
                        obtain ⟨gl, ol, rfl, hcl⟩ := HC.out wr (B2.out.trans (BY.out.mono B2.out.size)) k2 y hy
                        obtain ⟨gx, ox, hgx0, hcx2⟩ := HCX.out wr BY.out i x HX.out
                        simp only [Option.some.injEq, Addr.mk.injEq] at hgx0
                        obtain ⟨rfl, rfl, -⟩ := hgx0
                        have hkz : (k2 : Int) < (n : Int) := by omega
                        have hk0 : (0 : Int) ≤ (k2 : Int) := by omega
                        have hwk : IntKind.i64.wrap ((k2 : Int) + 1) = (k2 : Int) + 1 := by rw [IntKind.wrap_i64]; have := HNN.out; omega
                        have STEP : Hid ((unB x = unB y → (X.drop (i + 1)).Sublist (l.drop (k2 + 1))) ∧ (¬ unB x = unB y → (X.drop i).Sublist (l.drop (k2 + 1)))) := by
                          have h3 := SUB2.out
                          have h4 : l.drop k2 = y :: l.drop (k2 + 1) := by
                            obtain ⟨h5, h6⟩ := List.getElem?_eq_some_iff.1 hy
                            rw [List.drop_eq_getElem_cons h5, h6]
                          rw [HDX.out, h4] at h3
                          obtain ⟨s1, s2⟩ := sub_step h3
                          refine ⟨fun h => s1 (un_inj h), fun h => ?_⟩
                          rw [HDX.out]
                          exact s2 (fun e => h (by rw [e]))
                        have HG : Hid (k2 + 1 ≤ n ∧ ∃ g3, k2 + 1 + g3 = n ∧ g3 < gk) := by
                          cases gk with
                          | zero => omega
                          | succ g3 => exact ⟨by omega, g3, by omega, by omega⟩
                        have HW2 : Hid (∀ m, ∃ q, wr.drewN m = w3.drewN q) := fun m => ⟨q + m, by rw [hq, World.drewN_drewN]⟩
                        by_cases hxy : unB x = unB y
                        · have q1 : (y.toList == x.toList) = true := by rw [eq_two]; simp [hxy]
                          have S3 : Hid ((X.drop (i + 1)).Sublist (l.drop (k2 + 1))) := STEP.out.1 hxy
                          clear hxy hy hkn hq SUB2 STEP HW
                          go_wp2_with fail
                          go_quiet (fail)
                          have BZ : Hid (Below w2.heap.size w2 (wr.drewN nq)) := below_drewN BY.out nq
                          obtain ⟨w4, hw4⟩ : ∃ w4, w4 = wr.drewN nq := ⟨_, rfl⟩
                          rw [← hw4] at BZ ⊢
                          clear hw4
                          have hke : ((k2 : Int) == (n : Int)) = false := by rw [beq_eq_false_iff_ne]; omega
                          go_wp2_with fail
                          go_loopg [13] m (fun g4 s13 wz => ∃ j4 : Nat, j4 + g4 = m ∧ s13 = .int .i64 j4 ∧ Hid (Below w2.heap.size w2 wz))
                          case atStart => exact ⟨0, by omega, rfl, BZ⟩
                          case round =>
                            obtain ⟨j4, hj4, rfl, BV⟩ := hrel
                            cases gk with
                            | zero =>
                              have hjz4 : ¬ (j4 : Int) < (m : Int) := by omega
                              go_wp2_with fail
                              go_roundg GI
                              case measure => omega
                              case rel => exact ⟨i + 1, k2 + 1, by omega, HG.out.1, by rw [HS2.out], by first | rfl | simp, by first | rfl | simp, BV, S3⟩
                            | succ g4 =>
                              have hjz4 : (j4 : Int) < (m : Int) := by omega
                              have hj40 : (0 : Int) ≤ (j4 : Int) := by omega
                              have hwj4 : IntKind.i64.wrap ((j4 : Int) + 1) = (j4 : Int) + 1 := by rw [IntKind.wrap_i64]; have := HM.out; omega
                              obtain ⟨z, hz⟩ : ∃ z, X[j4]? = some z := ⟨_, List.getElem?_eq_getElem (by have := HM.out; omega)⟩
                              obtain ⟨gz, oz, hgz, hcz⟩ := HCX.out wr BV.out j4 z hz
                              simp only [Option.some.injEq, Addr.mk.injEq] at hgz
                              obtain ⟨rfl, rfl, -⟩ := hgz
                              obtain ⟨gx3, ox3, hgx, hcx3⟩ := HCX.out wr BV.out i x HX.out
                              simp only [Option.some.injEq, Addr.mk.injEq] at hgx
                              obtain ⟨rfl, rfl, -⟩ := hgx
                              by_cases hji : j4 = i
                              · have hne : ((j4 : Int) != (i : Int)) = false := by simp [hji]
                                clear hji hz
                                go_wp2_with fail
                                go_quiet (fail)
                                have BV2 : Hid (Below w2.heap.size w2 (wr.drewN nq)) := below_drewN BV.out nq
                                obtain ⟨w5, hw5⟩ : ∃ w5, w5 = wr.drewN nq := ⟨_, rfl⟩
                                rw [← hw5] at BV2 ⊢
                                clear hw5
                                go_wp2_with fail
                                go_roundg g4
                                case measure => omega
                                case rel => exact ⟨j4 + 1, by omega, by first | rfl | simp, BV2⟩
                              · have hne : ((j4 : Int) != (i : Int)) = true := by simp; omega
                                have hne2 : ((j4 : Int) == (i : Int)) = false := by simp; omega
                                have HIN : Hid (inP x z = false) := HXS.out.2.1 i j4 x z (Nat.zero_le _) (fun e => hji e.symm) HX.out hz
                                clear hji hz
                                have C12 : Hid (∀ W, Calls Try.prog 12 #[.string x, .string z] W fun e w' => e = .returned (.bool false) ∧ Below W.heap.size W w') := fun W => by have := within_any x z W; rw [HIN.out] at this; exact this
                                have kx := fun d os => ((below_regrown wr d os).cell (block_lt_of_cell hcx3)).trans hcx3
                                have kz := fun d os => ((below_regrown wr d os).cell (block_lt_of_cell hcz)).trans hcz
                                go_wp2_with fail
                                refine wp_region_quiet_below (by kernel_rfl) (by kernel_rfl) ?_
                                repeat (go_big_quiet_step (exact Calls.regrown_of (C12.out _)))
                                refine wpQuiet_nil ?_
                                rintro _ ⟨⟨d, os⟩, rfl⟩
                                have BV2 : Hid (Below w2.heap.size w2 (Sort.grow (redrawn wr d) os)) := BV.out.trans ((below_regrown wr d os).mono BV.out.size)
                                obtain ⟨w5, hw5⟩ : ∃ w5, w5 = Sort.grow (redrawn wr d) os := ⟨_, rfl⟩
                                rw [← hw5] at BV2 ⊢
                                clear hw5
                                go_wp2_with fail
                                go_roundg g4
                                case measure => omega
                                case rel => exact ⟨j4 + 1, by omega, by first | rfl | simp, BV2⟩
                        · have q1 : (y.toList == x.toList) = false := by rw [eq_two]; simp; exact fun h => hxy h.symm
                          have S3 : Hid ((X.drop i).Sublist (l.drop (k2 + 1))) := STEP.out.2 hxy
                          obtain ⟨hG1, g3, hG2, hG3⟩ := HG.out
                          clear hxy hy hkn hq SUB2 STEP HW
                          go_wp2_with fail
                          go_quiet (fail)
                          have HW3 : Hid (∃ q, wr.drewN nq = w3.drewN q) := HW2.out nq
                          obtain ⟨w4, hw4⟩ : ∃ w4, w4 = wr.drewN nq := ⟨_, rfl⟩
                          rw [← hw4] at HW3 ⊢
                          clear hw4
                          go_wp2_with fail
                          go_roundg g3
                          case measure => omega
                          case rel => exact ⟨k2 + 1, hG2, by first | rfl | simp, HW3, S3⟩
      · have hjz : (j : Int) < (n : Int) := by omega
        have h1 : ¬ N ≤ 20000 := fun h => hgo ⟨by omega, h⟩
        have h2 : (20000 : Int) < N := by omega
        clear hgo hg
        go_wp2_with fail
        go_ret
        exact ⟨rfl, B0.out⟩
end Go.Proofs.Ytglnldopnoafoaa
