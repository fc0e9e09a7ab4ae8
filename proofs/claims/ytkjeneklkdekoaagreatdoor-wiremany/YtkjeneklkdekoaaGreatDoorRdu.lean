import Derived.Test.YtkjeneklkdekoaaGreatDoorBye
import Derived.Test.YtkjeneklkdekoaaGreatDoorBld
import Derived.Lib.MinMax
import Derived.Deep.RegionHeldLaw
namespace Go.Proofs.YtkjeneklkdekoaaGreatDoor
open Go Go.RowKit
set_option linter.unusedSimpArgs false
set_option linter.unusedVariables false

/-! ### WireMany, walked over contracts -/
theorem cell_two {w : World} {b : Nat} {x y : Value} {t : TypeId} (h : w.heap[b]? = some (.cells #[x, y] t (0, 0))) : ∀ (j : Nat) (u : Value), [x, y][j]? = some u → w.cell? ((⟨b, 0, none⟩ : Addr).add j) = some u := fun j u hu => by
  have e : (⟨b, 0, none⟩ : Addr).add j = ⟨b, j, none⟩ := by unfold Addr.add; split <;> simp_all
  rw [e]
  match j, hu with
  | 0, hu => simp at hu; subst hu; simp [World.cell?, h]
  | 1, hu => simp at hu; subst hu; simp [World.cell?, h]
theorem info60 : (Tryz.prog.info? 60).map (fun i => (i.zero, i.size, i.bytes)) = some (some (.agg #[.pointer none, .pointer none]), 2, 16) := by kernel_rfl
theorem wm_facts {t j i : Nat} (ht : t ≤ 60) (hj : j ≤ 20) (hi : 2 ≤ i) (hi' : i ≤ 20) : IntKind.i64.wrap ((j : Int) * 7) = (j : Int) * 7 ∧ IntKind.i64.wrap ((t : Int) + (j : Int) * 7) = (t : Int) + (j : Int) * 7 ∧ IntKind.i64.wrap (1000 * (t : Int)) = 1000 * (t : Int) ∧ IntKind.i64.wrap (20 * (j : Int)) = 20 * (j : Int) ∧ IntKind.i64.wrap (1000 * (t : Int) + 20 * (j : Int)) = 1000 * (t : Int) + 20 * (j : Int) ∧ wrap64 ((j : Int) * 7) = (j : Int) * 7 ∧ wrap64 ((t : Int) + (j : Int) * 7) = (t : Int) + (j : Int) * 7 ∧ wrap64 (1000 * (t : Int)) = 1000 * (t : Int) ∧ wrap64 (20 * (j : Int)) = 20 * (j : Int) ∧ wrap64 (1000 * (t : Int) + 20 * (j : Int)) = 1000 * (t : Int) + 20 * (j : Int) := by
  refine ⟨?_, ?_, ?_, ?_, ?_, ?_, ?_, ?_, ?_, ?_⟩
  · rw [IntKind.wrap_i64]; omega
  · rw [IntKind.wrap_i64]; omega
  · rw [IntKind.wrap_i64]; omega
  · rw [IntKind.wrap_i64]; omega
  · rw [IntKind.wrap_i64]; omega
  · unfold wrap64; omega
  · unfold wrap64; omega
  · unfold wrap64; omega
  · unfold wrap64; omega
  · unfold wrap64; omega
theorem wm_mod {t j i : Nat} (hi : 2 ≤ i) (hi' : i ≤ 20) : ∃ q : Nat, q < i ∧ Int.tmod ((t : Int) + (j : Int) * 7) (i : Int) = (q : Int) ∧ IntKind.i64.wrap (q : Int) = (q : Int) ∧ wrap64 (q : Int) = (q : Int) ∧ (q : Int) < (i : Int) ∧ (0 : Int) ≤ (q : Int) := by
  have hq : (t + j * 7) % i < i := Nat.mod_lt _ (by omega)
  refine ⟨(t + j * 7) % i, hq, ?_, ?_, ?_, ?_, ?_⟩
  · rw [Int.tmod_eq_emod_of_nonneg (by omega)]
    simp
  · rw [IntKind.wrap_i64]
    generalize (t + j * 7) % i = q at *
    omega
  · unfold wrap64
    generalize (t + j * 7) % i = q at *
    omega
  · generalize (t + j * 7) % i = q at *
    omega
  · generalize (t + j * 7) % i = q at *
    omega
theorem agg_ptrs : (Value.agg #[.pointer none, .pointer none]).cells.size = 2 := by simp [Value.cells]
set_option maxRecDepth 100000 in
set_option maxHeartbeats 4000000 in
theorem wmany_walk {w : World} {ab sa : Option Addr} {lb kb ns cs n : Nat} (ops : List (Int × Bool)) (hn : ns = ops.length) (hc : ns ≤ cs) (hl0 : ¬ 4096 < lb) (hns : ¬ 60 < ns) (hn2 : ¬ n < 2) (hn20 : ¬ 20 < n) (Po : Ending → World → Prop) (A : Nat → Value → World → Prop) {K1 : Nat → Value → Nat → World → Prop} {K2 : Nat → Value → Nat → Nat → World → Prop} (fa : Nat → Option Addr) (T : Nat → (Nat → Nat) → (Nat → Nat) → Nat → Nat → World → Prop)
    (h0 : A 0 (.slice none 0 0) (w.alloc (.cells bk0 47)))
    (h1 : ∀ i : Nat, ∀ w' : World, (Instr.slice 22 (.slice ab lb kb) (some (.int .i64 (min i lb : Nat))) none none).run Tryz.prog w' = .ok (.slice (fa i) (lb - min i lb) (kb - min i lb)) w')
    (h2 : ∀ i v W, i < n → A i v W → Calls Tryz.prog 12 #[.slice (fa i) (lb - min i lb) (kb - min i lb)] W fun r w' => ∃ rb, r = .returned (.pointer (some ⟨rb, 0, none⟩)) ∧ K1 i v rb w')
    (h3 : ∀ i v rb W, K1 i v rb W → Calls Tryz.prog 13 #[.slice (fa i) (lb - min i lb) (kb - min i lb)] W fun r w' => ∃ mb, r = .returned (.pointer (some ⟨mb, 0, none⟩)) ∧ K2 i v rb mb w')
    (h4 : ∀ i v rb mb W, K2 i v rb mb W → ∃ xs, ((W.alloc (.cells #[.pointer (some ⟨rb, 0, none⟩), .pointer (some ⟨mb, 0, none⟩)] 60)).alloc (.cells #[.pointer (some ⟨rb, 0, none⟩), .pointer (some ⟨mb, 0, none⟩)] 60)).ownsRow 0 60 2 v i xs ∧ ∀ v' W', W'.ownsRow 0 60 2 v' (i + 1) (xs ++ [.pointer (some ⟨rb, 0, none⟩), .pointer (some ⟨mb, 0, none⟩)]) → ((W.alloc (.cells #[.pointer (some ⟨rb, 0, none⟩), .pointer (some ⟨mb, 0, none⟩)] 60)).alloc (.cells #[.pointer (some ⟨rb, 0, none⟩), .pointer (some ⟨mb, 0, none⟩)] 60)).grownBy W' v.ownBlock → (v'.ownBlock = v.ownBlock ∨ v'.ownBlock = some ((W.alloc (.cells #[.pointer (some ⟨rb, 0, none⟩), .pointer (some ⟨mb, 0, none⟩)] 60)).alloc (.cells #[.pointer (some ⟨rb, 0, none⟩), .pointer (some ⟨mb, 0, none⟩)] 60)).heap.size) → A (i + 1) v' W')
    (h5 : ∀ v W, A n v W → ∃ g c r m, v = .slice (some ⟨g, 0, none⟩) n c ∧ n ≤ c ∧ T g r m 0 0 W)
    (h6 : ∀ g r m i j W q, T g r m i j W → q < n → W.cell? ⟨g, q * 2, none⟩ = some (.pointer (some ⟨(r q), 0, none⟩)) ∧ W.cell? ⟨g, q * 2 + 1, none⟩ = some (.pointer (some ⟨(m q), 0, none⟩)))
    (h7 : ∀ g r m i j k W kind sec, T g r m i j W → ops[k]? = some (kind, sec) → ∃ g' o, sa = some ⟨g', o, none⟩ ∧ W.cell? ⟨g', o + k * 2, none⟩ = some (.int .i64 kind))
    (h8 : ∀ g r m i j W q kind sec, T g r m i j W → j < n → q < n → ops[i]? = some (kind, sec) → Calls Tryz.prog 15 #[.agg #[.pointer (some ⟨(r q), 0, none⟩), .pointer (some ⟨(m q), 0, none⟩)], .pointer (some ⟨w.heap.size, 0, none⟩), .int .i64 kind, .int .i64 (1000 * (i : Int) + 20 * (j : Int))] W.drew fun e w' => e = .returned (.bool true) ∧ T g r m i (j + 1) w')
    (h9 : ∀ g r m i W, i < ns → T g r m i n W → T g r m (i + 1) 0 W)
    (h10 : ∀ g r m W q, T g r m ns 0 W → q < n → Calls Tryz.prog 14 #[.agg #[.pointer (some ⟨(r q), 0, none⟩), .pointer (some ⟨(m q), 0, none⟩)]] W fun e w' => e = .returned (.bool true) ∧ T g r m ns 0 w')
    (h11 : ∀ g r m W, T g r m ns 0 W → Calls Tryz.prog 11 #[.pointer (some ⟨w.heap.size, 0, none⟩)] W fun e w' => e = .returned (.bool true) ∧ Po (.returned (.bool true)) w') :
    Calls Tryz.prog 5 #[.slice ab lb kb, .int .i64 (n : Int), .slice sa ns cs] w Po := by
  have H0 := hidi h0
  have H1 := hidi h1
  have H2 := hidi h2
  have H3 := hidi h3
  have H4 := hidi h4
  have H5 := hidi h5
  have H6 := hidi h6
  have H7 := hidi h7
  have H8 := hidi h8
  have H9 := hidi h9
  have H10 := hidi h10
  have H11 := hidi h11
  clear h0 h1 h2 h3 h4 h5 h6 h7 h8 h9 h10 h11
  have e0 : ¬ (4096 : Int) < (lb : Int) := by omega
  have e1 : ¬ (60 : Int) < (ns : Int) := by omega
  have e2 : ¬ (n : Int) < 2 := by omega
  have e3 : ¬ (20 : Int) < (n : Int) := by omega
  have HLL : Hid (¬ 4096 < lb ∧ ¬ 60 < ns ∧ ¬ n < 2 ∧ ¬ 20 < n ∧ ns = ops.length ∧ ns ≤ cs) := ⟨hl0, hns, hn2, hn20, hn, hc⟩
  clear hl0 hns hn2 hn20 hn hc
  obtain ⟨i0, hi60, hz0, hz1, hz2⟩ := info_parts info60
  go_enter Tryz.func5, Tryz.ntmps5
  go_wp2_with fail
  refine wp_build0 rfl ?_
  go_at_K
  go_wp2_with fail
  go_loopg [8, 9, 10, 11] n (fun gk s8 s9 s10 s11 wx => ∃ (i : Nat) (v : Value), i + gk = n ∧ s8 = v ∧ s9 = .int .i64 i ∧ Hid (A i v wx))
  case atStart => exact ⟨0, _, by omega, rfl, rfl, H0.out⟩
  case round =>
    obtain ⟨i, v, hi, rfl, rfl, HH⟩ := hrel
    cases gk with
    | succ gk =>
      have hz : (i : Int) < (n : Int) := by omega
      have hwi : IntKind.i64.wrap ((i : Int) + 1) = (i : Int) + 1 := by rw [IntKind.wrap_i64]; have := HLL.out; omega
      have hmin : min (i : Int) (lb : Int) = ((min i lb : Nat) : Int) := by omega
      have hsl := H1.out i
      have J1 := hidi (H2.out _ _ _ (by omega) HH.out)
      obtain ⟨mn, hm⟩ : ∃ m, min i lb = m := ⟨_, rfl⟩
      obtain ⟨f, hf⟩ : ∃ f, fa i = f := ⟨_, rfl⟩
      rw [hm] at hmin hsl J1
      rw [hf] at hsl J1
      have HM := hidi (⟨hm, hf⟩ : min i lb = mn ∧ fa i = f)
      have hm2 : (0 : Int) ≤ (mn : Int) ∧ (mn : Int) ≤ (lb : Int) := by omega
      clear hm hf HH
      go_wp2_with fail
      go_must (go_at_call 12)
      refine (J1.out).mono ?_
      rintro r w1 ⟨rb, rfl, hk⟩
      have J2 := hidi (H3.out _ _ _ _ hk)
      rw [HM.out.1, HM.out.2] at J2
      clear hk J1
      go_wp2_with fail
      go_must (go_at_call 13)
      refine (J2.out).mono ?_
      rintro r w2 ⟨mb, rfl, hk⟩
      obtain ⟨xs, q1, q2⟩ := H4.out _ _ _ _ _ hk
      have ROW := hidi q1
      have NXT := hidi q2
      clear hk q1 q2 J2
      go_wp2_with (at_builtin; refine wpList_push rfl (.tmp 52) (.tmp 54) 61 rfl 0 60 i0 (.agg #[.pointer none, .pointer none]) 2 16 Tryz.underlying61 hi60 hz0 hz1 hz2 agg_ptrs (by decide) _ _ _ rfl ROW.out ⟨w2.heap.size + 1, 0, none⟩ 1 1 [.pointer (some ⟨rb, 0, none⟩), .pointer (some ⟨mb, 0, none⟩)] rfl (by decide) rfl (cell_two (heap_alloc2_new w2 _ _)) ?c2 ?c3 ?c4 (Nat.zero_le _) ?_)
      case c2 => intro u hu; simp at hu; rcases hu with rfl | rfl <;> rfl
      case c3 => have := HLL.out; unfold maxLen; omega
      case c4 => have := HLL.out; omega
      intro v' w3 ho hg hne hbl
      have Z := hidi (NXT.out _ _ ho hg (by simpa using hbl))
      clear ho hg hne hbl NXT ROW
      go_wp2_with fail
      go_roundg gk
      case measure => omega
      case rel => exact ⟨i + 1, v', by omega, rfl, by simp, Z.out⟩
    | zero =>
      obtain rfl : i = n := by omega
      have hz : ¬ (i : Int) < (i : Int) := by omega
      obtain ⟨g, c, r, m, rfl, hgc, ht⟩ := H5.out _ _ HH.out
      have J0 := hidi ht
      clear ht HH
      go_wp2_with fail
      go_loopg [12, 13] ns (fun gk s12 s13 wx => ∃ t : Nat, t + gk = ns ∧ s12 = .int .i64 t ∧ Hid (T g r m t 0 wx))
      case atStart => exact ⟨0, by omega, rfl, J0.out⟩
      case round =>
        obtain ⟨t, ht, rfl, HH⟩ := hrel
        clear J0
        cases gk with
        | zero =>
          obtain rfl : t = ns := by omega
          have hzt : ¬ (t : Int) < (t : Int) := by omega
          go_wp2_with fail
          go_loopg [14] i (fun gk s14 wx => ∃ q : Nat, q + gk = i ∧ s14 = .int .i64 q ∧ Hid (T g r m t 0 wx))
          case atStart => exact ⟨0, by omega, rfl, HH.out⟩
          case round =>
            obtain ⟨q, hq, rfl, HK⟩ := hrel
            clear HH
            cases gk with
            | zero =>
              obtain rfl : q = i := by omega
              have J1 := hidi (H11.out _ _ _ _ HK.out)
              clear HK
              go_wp2_with fail
              go_must (go_at_call 11)
              refine (J1.out).mono ?_
              rintro e w4 ⟨rfl, hk⟩
              have Z := hidi hk
              clear hk J1
              go_wp2_with fail
              all_goals (try go_ret)
              all_goals exact Z.out
            | succ gk =>
              have hzq : (q : Int) < (i : Int) := by omega
              have hzq0 : (0 : Int) ≤ (q : Int) := by omega
              have hwq : IntKind.i64.wrap ((q : Int) + 1) = (q : Int) + 1 := by rw [IntKind.wrap_i64]; have := HLL.out; omega
              obtain ⟨c0, c1⟩ := H6.out _ _ _ _ _ _ q HK.out (by omega)
              have J1 := hidi (H10.out _ _ _ _ q HK.out (by omega))
              clear HK
              go_wp2_with fail
              go_must (go_at_call 14)
              refine (J1.out).mono ?_
              rintro e w4 ⟨rfl, hk⟩
              have Z := hidi hk
              clear hk J1
              go_wp2_with fail
              go_roundg gk
              case measure => omega
              case rel => exact ⟨q + 1, by omega, by simp, Z.out⟩
        | succ gt =>
          have hzt : (t : Int) < (ns : Int) := by omega
          have hzt0 : (0 : Int) ≤ (t : Int) := by omega
          have hwt : IntKind.i64.wrap ((t : Int) + 1) = (t : Int) + 1 := by rw [IntKind.wrap_i64]; have := HLL.out; omega
          obtain ⟨⟨kind, sec⟩, hp⟩ : ∃ p, ops[t]? = some p := ⟨_, List.getElem?_eq_getElem (by have := HLL.out; omega)⟩
          have HP := hidi hp
          clear hp
          go_wp2_with fail
          go_loopg [13] i (fun gj s13 wx => ∃ j : Nat, j + gj = i ∧ s13 = .int .i64 j ∧ Hid (T g r m t j wx))
          case atStart => exact ⟨0, by omega, rfl, HH.out⟩
          case round =>
            obtain ⟨j, hj, rfl, HK⟩ := hrel
            clear HH
            cases gk with
            | zero =>
              obtain rfl : j = i := by omega
              have Z := hidi (H9.out _ _ _ _ _ (by omega) HK.out)
              clear HK
              go_wp2_with fail
              go_roundg gt
              case measure => omega
              case rel => exact ⟨t + 1, by omega, by simp, Z.out⟩
            | succ gj =>
              have hzj : (j : Int) < (i : Int) := by omega
              have hwj : IntKind.i64.wrap ((j : Int) + 1) = (j : Int) + 1 := by rw [IntKind.wrap_i64]; have := HLL.out; omega
              obtain ⟨hq7, hq8, hqd, hqe, hqf, hr7, hr8, hrd, hre, hrf⟩ := wm_facts (t := t) (j := j) (i := i) (by have := HLL.out; omega) (by have := HLL.out; omega) (by have := HLL.out; omega) (by have := HLL.out; omega)
              obtain ⟨q, hql, hq9, hqa, hra, hqz, hqy⟩ := wm_mod (t := t) (j := j) (i := i) (by have := HLL.out; omega) (by have := HLL.out; omega)
              have hqb : ((i : Int) == 0) = false := by have := HLL.out; simp; omega
              have hqc : ¬ (i : Int) = 0 := by have := HLL.out; omega
              have hqn : ¬ i = 0 := by have := HLL.out; omega
              obtain ⟨c0, c1⟩ := H6.out _ _ _ _ _ _ q HK.out hql
              obtain ⟨g', o, rfl, d0⟩ := H7.out _ _ _ _ _ _ _ _ _ HK.out HP.out
              have J1 := hidi (H8.out _ _ _ _ _ _ q _ _ HK.out (by omega) hql HP.out)
              clear HK
              go_wp2_with fail
              refine wp_region_held_drew (S := fun w' => w'.cell? ⟨g, q * 2, none⟩ = some (.pointer (some ⟨(r q), 0, none⟩)) ∧ w'.cell? ⟨g, q * 2 + 1, none⟩ = some (.pointer (some ⟨(m q), 0, none⟩)) ∧ w'.cell? ⟨g', o + t * 2, none⟩ = some (.int .i64 kind)) (by kernel_rfl) ⟨c0, c1, d0⟩ (fun hHeld => ?_)
              change wpAnyH _ _ _ _ _ 22 #[false, false, false, false, false, false, false, false, false, false, false, false, false, false, false, false, false, false, false, false, false, false] _ (World.drew _)
              refine wpAnyH_take (i := 0) (oi := { dst := some 67, op := Go.Op.move (Go.Operand.tmp 8), type := 61, pos := "exact.go:205", after := #[], guard := none }) (v := .slice (some ⟨g, 0, none⟩) i c) rfl (by kernel_rfl) (by kernel_rfl) (by kernel_rfl) (fun _ _ _ h => h) (Or.inl ⟨by kernel_rfl, by intro wq hSw; (try dsimp only at hSw); clear hHeld; go_simp⟩) hHeld ?_
              simp only [Act.put, List.setIfInBounds_toArray, List.set_cons_zero, List.set_cons_succ]
              refine wpAnyH_take (i := 1) (oi := { dst := some 68, op := Go.Op.move (Go.Operand.tmp 12), type := 3, pos := "exact.go:205", after := #[], guard := none }) (v := .int .i64 (t : Int)) rfl (by kernel_rfl) (by kernel_rfl) (by kernel_rfl) (fun _ _ _ h => h) (Or.inl ⟨by kernel_rfl, by intro wq hSw; (try dsimp only at hSw); clear hHeld; go_simp⟩) hHeld ?_
              simp only [Act.put, List.setIfInBounds_toArray, List.set_cons_zero, List.set_cons_succ]
              refine wpAnyH_take (i := 2) (oi := { dst := some 69, op := Go.Op.move (Go.Operand.tmp 13), type := 3, pos := "exact.go:205", after := #[], guard := none }) (v := .int .i64 (j : Int)) rfl (by kernel_rfl) (by kernel_rfl) (by kernel_rfl) (fun _ _ _ h => h) (Or.inl ⟨by kernel_rfl, by intro wq hSw; (try dsimp only at hSw); clear hHeld; go_simp⟩) hHeld ?_
              simp only [Act.put, List.setIfInBounds_toArray, List.set_cons_zero, List.set_cons_succ]
              refine wpAnyH_take (i := 3) (oi := { dst := some 70, op := Go.Op.binOp Go.BinOp.mul 3 (Go.Operand.tmp 69) (Go.Operand.const (Go.Value.int Go.IntKind.i64 7)) 3, type := 3, pos := "exact.go:205", after := #[{ on := 2, ground := Go.Ground.data }], guard := none }) (v := .int .i64 ((j : Int) * 7)) rfl (by kernel_rfl) (by kernel_rfl) (by kernel_rfl) (fun _ _ _ h => h) (Or.inl ⟨by kernel_rfl, by intro wq hSw; (try dsimp only at hSw); clear hHeld; go_simp⟩) hHeld ?_
              simp only [Act.put, List.setIfInBounds_toArray, List.set_cons_zero, List.set_cons_succ]
              refine wpAnyH_take (i := 4) (oi := { dst := some 71, op := Go.Op.binOp Go.BinOp.add 3 (Go.Operand.tmp 68) (Go.Operand.tmp 70) 3, type := 3, pos := "exact.go:205", after := #[{ on := 1, ground := Go.Ground.data }, { on := 3, ground := Go.Ground.data }], guard := none }) (v := .int .i64 ((t : Int) + (j : Int) * 7)) rfl (by kernel_rfl) (by kernel_rfl) (by kernel_rfl) (fun _ _ _ h => h) (Or.inl ⟨by kernel_rfl, by intro wq hSw; (try dsimp only at hSw); clear hHeld; go_simp⟩) hHeld ?_
              simp only [Act.put, List.setIfInBounds_toArray, List.set_cons_zero, List.set_cons_succ]
              refine wpAnyH_take (i := 5) (oi := { dst := some 72, op := Go.Op.move (Go.Operand.tmp 1), type := 3, pos := "exact.go:205", after := #[], guard := none }) (v := .int .i64 (i : Int)) rfl (by kernel_rfl) (by kernel_rfl) (by kernel_rfl) (fun _ _ _ h => h) (Or.inl ⟨by kernel_rfl, by intro wq hSw; (try dsimp only at hSw); clear hHeld; go_simp⟩) hHeld ?_
              simp only [Act.put, List.setIfInBounds_toArray, List.set_cons_zero, List.set_cons_succ]
              refine wpAnyH_take (i := 6) (oi := { dst := some 73, op := Go.Op.binOp Go.BinOp.rem 3 (Go.Operand.tmp 71) (Go.Operand.tmp 72) 3, type := 3, pos := "exact.go:205", after := #[{ on := 4, ground := Go.Ground.data }, { on := 5, ground := Go.Ground.data }], guard := none }) (v := .int .i64 (q : Int)) rfl (by kernel_rfl) (by kernel_rfl) (by kernel_rfl) (fun _ _ _ h => h) (Or.inl ⟨by kernel_rfl, by intro wq hSw; (try dsimp only at hSw); clear hHeld; go_simp⟩) hHeld ?_
              simp only [Act.put, List.setIfInBounds_toArray, List.set_cons_zero, List.set_cons_succ]
              refine wpAnyH_take (i := 7) (oi := { dst := some 74, op := Go.Op.indexAddr 61 (Go.Operand.tmp 67) (Go.Operand.tmp 73), type := 0, pos := "exact.go:205", after := #[{ on := 0, ground := Go.Ground.data }, { on := 6, ground := Go.Ground.data }], guard := none }) (v := .pointer (some ⟨g, q * 2, none⟩)) rfl (by kernel_rfl) (by kernel_rfl) (by kernel_rfl) (fun _ _ _ h => h) (Or.inl ⟨by kernel_rfl, by intro wq hSw; (try dsimp only at hSw); clear hHeld; go_simp⟩) hHeld ?_
              simp only [Act.put, List.setIfInBounds_toArray, List.set_cons_zero, List.set_cons_succ]
              refine wpAnyH_take (i := 8) (oi := { dst := some 75, op := Go.Op.load 60 (Go.Operand.tmp 74), type := 60, pos := "exact.go:205", after := #[{ on := 7, ground := Go.Ground.data }], guard := none }) (v := .agg #[.pointer (some ⟨(r q), 0, none⟩), .pointer (some ⟨(m q), 0, none⟩)]) rfl (by kernel_rfl) (by kernel_rfl) (by kernel_rfl) (fun _ _ _ h => h) (Or.inl ⟨by kernel_rfl, by intro wq hSw; (try dsimp only at hSw); clear hHeld; go_simp⟩) hHeld ?_
              simp only [Act.put, List.setIfInBounds_toArray, List.set_cons_zero, List.set_cons_succ]
              refine wpAnyH_take (i := 9) (oi := { dst := some 76, op := Go.Op.move (Go.Operand.tmp 7), type := 41, pos := "exact.go:205", after := #[], guard := none }) (v := .pointer (some ⟨w.heap.size, 0, none⟩)) rfl (by kernel_rfl) (by kernel_rfl) (by kernel_rfl) (fun _ _ _ h => h) (Or.inl ⟨by kernel_rfl, by intro wq hSw; (try dsimp only at hSw); clear hHeld; go_simp⟩) hHeld ?_
              simp only [Act.put, List.setIfInBounds_toArray, List.set_cons_zero, List.set_cons_succ]
              refine wpAnyH_take (i := 10) (oi := { dst := some 77, op := Go.Op.move (Go.Operand.tmp 2), type := 54, pos := "exact.go:205", after := #[], guard := none }) (v := .slice (some ⟨g', o, none⟩) ns cs) rfl (by kernel_rfl) (by kernel_rfl) (by kernel_rfl) (fun _ _ _ h => h) (Or.inl ⟨by kernel_rfl, by intro wq hSw; (try dsimp only at hSw); clear hHeld; go_simp⟩) hHeld ?_
              simp only [Act.put, List.setIfInBounds_toArray, List.set_cons_zero, List.set_cons_succ]
              refine wpAnyH_take (i := 11) (oi := { dst := some 78, op := Go.Op.move (Go.Operand.tmp 12), type := 3, pos := "exact.go:205", after := #[], guard := none }) (v := .int .i64 (t : Int)) rfl (by kernel_rfl) (by kernel_rfl) (by kernel_rfl) (fun _ _ _ h => h) (Or.inl ⟨by kernel_rfl, by intro wq hSw; (try dsimp only at hSw); clear hHeld; go_simp⟩) hHeld ?_
              simp only [Act.put, List.setIfInBounds_toArray, List.set_cons_zero, List.set_cons_succ]
              refine wpAnyH_take (i := 12) (oi := { dst := some 79, op := Go.Op.indexAddr 54 (Go.Operand.tmp 77) (Go.Operand.tmp 78), type := 0, pos := "exact.go:205", after := #[{ on := 10, ground := Go.Ground.data }, { on := 11, ground := Go.Ground.data }], guard := none }) (v := .pointer (some ⟨g', o + t * 2, none⟩)) rfl (by kernel_rfl) (by kernel_rfl) (by kernel_rfl) (fun _ _ _ h => h) (Or.inl ⟨by kernel_rfl, by intro wq hSw; (try dsimp only at hSw); clear hHeld; go_simp⟩) hHeld ?_
              simp only [Act.put, List.setIfInBounds_toArray, List.set_cons_zero, List.set_cons_succ]
              refine wpAnyH_take (i := 13) (oi := { dst := some 80, op := Go.Op.fieldAddr 63 (Go.Operand.tmp 79) 0, type := 0, pos := "exact.go:205", after := #[{ on := 12, ground := Go.Ground.data }], guard := none }) (v := .pointer (some ⟨g', o + t * 2, none⟩)) rfl (by kernel_rfl) (by kernel_rfl) (by kernel_rfl) (fun _ _ _ h => h) (Or.inl ⟨by kernel_rfl, by intro wq hSw; (try dsimp only at hSw); clear hHeld; go_simp⟩) hHeld ?_
              simp only [Act.put, List.setIfInBounds_toArray, List.set_cons_zero, List.set_cons_succ]
              refine wpAnyH_take (i := 14) (oi := { dst := some 81, op := Go.Op.load 3 (Go.Operand.tmp 80), type := 3, pos := "exact.go:205", after := #[{ on := 13, ground := Go.Ground.data }], guard := none }) (v := .int .i64 kind) rfl (by kernel_rfl) (by kernel_rfl) (by kernel_rfl) (fun _ _ _ h => h) (Or.inl ⟨by kernel_rfl, by intro wq hSw; (try dsimp only at hSw); clear hHeld; go_simp⟩) hHeld ?_
              simp only [Act.put, List.setIfInBounds_toArray, List.set_cons_zero, List.set_cons_succ]
              refine wpAnyH_take (i := 15) (oi := { dst := some 82, op := Go.Op.move (Go.Operand.tmp 12), type := 3, pos := "exact.go:205", after := #[], guard := none }) (v := .int .i64 (t : Int)) rfl (by kernel_rfl) (by kernel_rfl) (by kernel_rfl) (fun _ _ _ h => h) (Or.inl ⟨by kernel_rfl, by intro wq hSw; (try dsimp only at hSw); clear hHeld; go_simp⟩) hHeld ?_
              simp only [Act.put, List.setIfInBounds_toArray, List.set_cons_zero, List.set_cons_succ]
              refine wpAnyH_take (i := 16) (oi := { dst := some 83, op := Go.Op.binOp Go.BinOp.mul 3 (Go.Operand.const (Go.Value.int Go.IntKind.i64 1000)) (Go.Operand.tmp 82) 3, type := 3, pos := "exact.go:205", after := #[{ on := 15, ground := Go.Ground.data }], guard := none }) (v := .int .i64 (1000 * (t : Int))) rfl (by kernel_rfl) (by kernel_rfl) (by kernel_rfl) (fun _ _ _ h => h) (Or.inl ⟨by kernel_rfl, by intro wq hSw; (try dsimp only at hSw); clear hHeld; go_simp⟩) hHeld ?_
              simp only [Act.put, List.setIfInBounds_toArray, List.set_cons_zero, List.set_cons_succ]
              refine wpAnyH_take (i := 17) (oi := { dst := some 84, op := Go.Op.move (Go.Operand.tmp 13), type := 3, pos := "exact.go:205", after := #[], guard := none }) (v := .int .i64 (j : Int)) rfl (by kernel_rfl) (by kernel_rfl) (by kernel_rfl) (fun _ _ _ h => h) (Or.inl ⟨by kernel_rfl, by intro wq hSw; (try dsimp only at hSw); clear hHeld; go_simp⟩) hHeld ?_
              simp only [Act.put, List.setIfInBounds_toArray, List.set_cons_zero, List.set_cons_succ]
              refine wpAnyH_take (i := 18) (oi := { dst := some 85, op := Go.Op.binOp Go.BinOp.mul 3 (Go.Operand.const (Go.Value.int Go.IntKind.i64 20)) (Go.Operand.tmp 84) 3, type := 3, pos := "exact.go:205", after := #[{ on := 17, ground := Go.Ground.data }], guard := none }) (v := .int .i64 (20 * (j : Int))) rfl (by kernel_rfl) (by kernel_rfl) (by kernel_rfl) (fun _ _ _ h => h) (Or.inl ⟨by kernel_rfl, by intro wq hSw; (try dsimp only at hSw); clear hHeld; go_simp⟩) hHeld ?_
              simp only [Act.put, List.setIfInBounds_toArray, List.set_cons_zero, List.set_cons_succ]
              refine wpAnyH_take (i := 19) (oi := { dst := some 86, op := Go.Op.binOp Go.BinOp.add 3 (Go.Operand.tmp 83) (Go.Operand.tmp 85) 3, type := 3, pos := "exact.go:205", after := #[{ on := 16, ground := Go.Ground.data }, { on := 18, ground := Go.Ground.data }], guard := none }) (v := .int .i64 (1000 * (t : Int) + 20 * (j : Int))) rfl (by kernel_rfl) (by kernel_rfl) (by kernel_rfl) (fun _ _ _ h => h) (Or.inl ⟨by kernel_rfl, by intro wq hSw; (try dsimp only at hSw); clear hHeld; go_simp⟩) hHeld ?_
              simp only [Act.put, List.setIfInBounds_toArray, List.set_cons_zero, List.set_cons_succ]
              refine wpAnyH_ready (rs := [20]) (by kernel_rfl) (by simp) ?_
              refine AllReadyH.cons (o := { dst := some 87, op := Go.Op.call { callee := Go.Callee.value (Go.Operand.func 15), args := #[Go.Operand.tmp 75, Go.Operand.tmp 76, Go.Operand.tmp 81, Go.Operand.tmp 86], argTypes := #[60, 41, 3, 3] }, type := 4, pos := "exact.go:205", after := #[{ on := 8, ground := Go.Ground.data }, { on := 9, ground := Go.Ground.data }, { on := 14, ground := Go.Ground.data }, { on := 19, ground := Go.Ground.data }], guard := none }) (by rfl) (fun K hK => ?_) AllReadyH.nil
              go_simp
              go_wp2_with (go_at_call 15; refine (J1.out).mono ?_; rintro e w10 ⟨rfl, hk⟩)
              have Z := hidi hk
              obtain ⟨x0, x1⟩ := H6.out _ _ _ _ _ _ q hk hql
              obtain ⟨g3, o3, e4, y0⟩ := H7.out _ _ _ _ _ _ _ _ _ hk HP.out
              cases e4
              clear hk
              refine hK.out _ _ ⟨x0, x1, y0⟩ (fun hHeld => ?_)
              clear hK K
              (try simp only [Act.put, List.setIfInBounds_toArray, List.set_cons_zero, List.set_cons_succ])
              refine wpAnyH_take (i := 21) (oi := { dst := some 88, op := Go.Op.unOp Go.UnOp.not 4 (Go.Operand.tmp 87), type := 4, pos := "exact.go:205", after := #[{ on := 20, ground := Go.Ground.data }], guard := none }) (v := .bool false) rfl (by kernel_rfl) (by kernel_rfl) (by kernel_rfl) (fun _ _ _ h => h) (Or.inl ⟨by kernel_rfl, by intro wq hSw; (try dsimp only at hSw); clear hHeld; go_simp⟩) hHeld ?_
              simp only [Act.put, List.setIfInBounds_toArray, List.set_cons_zero, List.set_cons_succ]
              refine wpAnyH_done (by kernel_rfl) ?_ _
              clear hHeld
              go_wp2_with fail
              go_roundg gj
              case measure => omega
              case rel => exact ⟨j + 1, by omega, by simp, Z.out⟩
end Go.Proofs.YtkjeneklkdekoaaGreatDoor
