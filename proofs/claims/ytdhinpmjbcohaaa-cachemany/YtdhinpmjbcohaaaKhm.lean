import Derived.Test.YtdhinpmjbcohaaaOc
import Derived.Test.YtdhinpmjbcohaaaKhl
import Derived.Deep.LoopGhost
import Derived.Lib.MinMax
namespace Go.Proofs.Ytdhinpmjbcohaaa.Kp
open Go Go.RowKit Go.Shelf
set_option linter.unusedSimpArgs false
set_option linter.unusedVariables false

set_option maxRecDepth 100000 in
set_option maxHeartbeats 1000000 in
/-- What CacheMany refuses. -/
theorem many_refuse {a : Option Addr} {c n : Nat} {z most : Int} {w : World} (h : 100 < n ∨ z < 2 ∨ 20 < z) : Calls Try.prog 4 #[.int .i64 most, .int .i64 z, .slice a n c] w fun r w' => r = .returned (.bool true) ∧ w' = w := by
  by_cases h1 : 100 < n
  · have hl : (100 : Int) < (n : Int) := by omega
    clear h
    go_enter Try.func4, Try.ntmps4
    go_wp2_with fail
    (try go_ret)
    exact ⟨rfl, rfl⟩
  · have hl : ¬ (100 : Int) < (n : Int) := by omega
    by_cases h2 : z < 2
    · clear h
      go_enter Try.func4, Try.ntmps4
      go_wp2_with fail
      (try go_ret)
      exact ⟨rfl, rfl⟩
    · have h3 : 20 < z := by omega
      clear h
      go_enter Try.func4, Try.ntmps4
      go_wp2_with fail
      (try go_ret)
      exact ⟨rfl, rfl⟩
set_option maxRecDepth 100000 in
set_option maxHeartbeats 4000000 in
/-- CACHEMANY WALKED OVER CONTRACTS. A: some pairs begun; B: all there, so many calls made. -/
theorem many_walk {a : Option Addr} {c : Nat} (n k : Nat) (ops : List Op8) (most : Int) (w : World) (hn : n = ops.length) (hc : n ≤ c) (hn1 : n ≤ 100) (hk1 : 2 ≤ k) (hk2 : k ≤ 20) (A : Nat → Option Addr → Nat → World → Prop) (B : Nat → Nat → Nat → World → Prop) (Po : Ending → World → Prop)
    (h0 : A 0 none 0 w)
    (h1 : ∀ i la lc W z, i < 20 → A i la lc W → Calls Try.prog 10 #[.int .i64 z] W fun r w1 => ∃ cb mb kb vb, r = .returned (.agg #[.pointer (some ⟨cb, 0, none⟩), .pointer (some ⟨mb, 0, none⟩), .pointer (some ⟨kb, 0, none⟩), .pointer (some ⟨vb, 0, none⟩)]) ∧ ∃ va ca w2, (Builtin.append_ #[37, 37] 37 #[.slice la i lc, .slice (some ⟨w1.heap.size + 1, 0, none⟩) 1 1]).run Try.prog ((w1.alloc (.cells #[.pointer (some ⟨cb, 0, none⟩), .pointer (some ⟨mb, 0, none⟩), .pointer (some ⟨kb, 0, none⟩), .pointer (some ⟨vb, 0, none⟩)] 41)).alloc (.cells #[.pointer (some ⟨cb, 0, none⟩), .pointer (some ⟨mb, 0, none⟩), .pointer (some ⟨kb, 0, none⟩), .pointer (some ⟨vb, 0, none⟩)] 41)) = .ok (.slice va (i + 1) ca) w2 ∧ A (i + 1) va ca w2)
    (h2 : ∀ la lc W, A k la lc W → ∃ g, la = some ⟨g, 0, none⟩ ∧ k ≤ lc ∧ B 0 g lc W)
    (h3 : ∀ N g lc W t, B N g lc W → t < k → N ≤ 2000 → ∃ cb mb kb vb, (W.cell? ⟨g, t * 4, none⟩ = some (.pointer (some ⟨cb, 0, none⟩)) ∧ W.cell? ⟨g, t * 4 + 1, none⟩ = some (.pointer (some ⟨mb, 0, none⟩)) ∧ W.cell? ⟨g, t * 4 + 2, none⟩ = some (.pointer (some ⟨kb, 0, none⟩)) ∧ W.cell? ⟨g, t * 4 + 3, none⟩ = some (.pointer (some ⟨vb, 0, none⟩))) ∧ (∀ (i : Nat) (p : Op8) (v : Int), ops[i]? = some p → Calls Try.prog 11 #[.agg #[.pointer (some ⟨cb, 0, none⟩), .pointer (some ⟨mb, 0, none⟩), .pointer (some ⟨kb, 0, none⟩), .pointer (some ⟨vb, 0, none⟩)], .int .i64 p.kind, .agg #[.string p.k.1, .int .i64 p.k.2], .int .i64 v, .int .i64 p.stop] W.drew fun r w' => r = .returned (.bool true) ∧ (w'.cell? ⟨g, t * 4, none⟩ = some (.pointer (some ⟨cb, 0, none⟩)) ∧ w'.cell? ⟨g, t * 4 + 1, none⟩ = some (.pointer (some ⟨mb, 0, none⟩)) ∧ w'.cell? ⟨g, t * 4 + 2, none⟩ = some (.pointer (some ⟨kb, 0, none⟩)) ∧ w'.cell? ⟨g, t * 4 + 3, none⟩ = some (.pointer (some ⟨vb, 0, none⟩))) ∧ B (N + 1) g lc w') ∧ Calls Try.prog 12 #[.agg #[.pointer (some ⟨cb, 0, none⟩), .pointer (some ⟨mb, 0, none⟩), .pointer (some ⟨kb, 0, none⟩), .pointer (some ⟨vb, 0, none⟩)], .int .i64 (-1)] W fun r w' => r = .returned (.bool true) ∧ B N g lc w')
    (h4 : ∀ N g lc W, B N g lc W → B (N + 1) g lc W)
    (h5 : ∀ (i : Nat) (p : Op8), ops[i]? = some p → ∃ sg so, a = some ⟨sg, so, none⟩ ∧ ∀ N g lc W, B N g lc W → W.cell? ⟨sg, so + i * 6, none⟩ = some (.int .i64 p.kind) ∧ W.cell? ⟨sg, so + i * 6 + 2, none⟩ = some (.string p.k.1) ∧ W.cell? ⟨sg, so + i * 6 + 3, none⟩ = some (.int .i64 p.k.2) ∧ W.cell? ⟨sg, so + i * 6 + 4, none⟩ = some (.int .i64 p.v) ∧ W.cell? ⟨sg, so + i * 6 + 5, none⟩ = some (.int .i64 p.stop))
    (h6 : ∀ N g lc W, B N g lc W → Po (.returned (.bool true)) W) :
    Calls Try.prog 4 #[.int .i64 most, .int .i64 k, .slice a n c] w Po := by
  have H0 := hidi h0
  have H1 := hidi h1
  have H2 := hidi h2
  have H3 := hidi h3
  have H4 := hidi h4
  have H5 := hidi h5
  have H6 := hidi h6
  have HN : Hid (n = ops.length ∧ n ≤ c) := ⟨hn, hc⟩
  have hl : ¬ (100 : Int) < (n : Int) := by omega
  have hl2 : ¬ (k : Int) < 2 := by omega
  have hl3 : ¬ (20 : Int) < (k : Int) := by omega
  clear hn h0 h1 h2 h3 h4 h5 h6
  go_enter Try.func4, Try.ntmps4
  go_wp2_with fail
  go_loopg [7, 8, 9] k (fun gk s7 s8 s9 wx => ∃ i : Nat, ∃ la lc, i + gk = k ∧ s8 = .int .i64 i ∧ s7 = .slice la i lc ∧ Hid (A i la lc wx))
  case atStart => exact ⟨0, none, 0, by omega, rfl, rfl, H0⟩
  case round =>
    obtain ⟨i, la, lc, hi, rfl, rfl, HA⟩ := hrel
    cases gk with
    | zero =>
      have hz : ¬ (i : Int) < (k : Int) := by omega
      obtain rfl : k = i := by omega
      obtain ⟨g, rfl, hlc, hB⟩ := H2.out _ _ _ HA.out
      have HB := hidi hB
      clear HA hB
      go_wp2_with fail
      go_loopg [10, 11, 12] n (fun gk s10 s11 s12 wx => ∃ i : Nat, i + gk = n ∧ s10 = .int .i64 i ∧ Hid (B (i * k) g lc wx))
      case atStart => exact ⟨0, by omega, rfl, by rw [Nat.zero_mul]; exact HB⟩
      case round =>
        clear HB
        obtain ⟨i, hi, rfl, HB⟩ := hrel
        cases gk with
        | zero =>
          have hz' : ¬ (i : Int) < (n : Int) := by omega
          obtain rfl : n = i := by omega
          go_wp2_with fail
          go_loopg [13] k (fun gk s13 wx => ∃ j : Nat, j + gk = k ∧ s13 = .int .i64 j ∧ Hid (B (n * k) g lc wx))
          case atStart => exact ⟨0, by omega, rfl, HB⟩
          case round =>
            clear HB
            obtain ⟨j, hj, rfl, HB⟩ := hrel
            cases gk with
            | zero =>
              have hz2 : ¬ (j : Int) < (k : Int) := by omega
              have Z := hidi (H6.out _ _ _ _ HB.out)
              go_wp2_with fail
              all_goals (try go_ret)
              all_goals exact Z.out
            | succ gk =>
              have hz2 : (j : Int) < (k : Int) := by omega
              have hwj : IntKind.i64.wrap ((j : Int) + 1) = (j : Int) + 1 := by rw [IntKind.wrap_i64]; omega
              have hNk : n * k ≤ 2000 := Nat.le_trans (Nat.mul_le_mul hn1 hk2) (by decide)
              obtain ⟨cb, mb, kb, vb, ⟨r0, r1, r2, r3⟩, _, hcal⟩ := H3.out _ _ _ _ j HB.out (by omega) hNk
              have J3 := hidi hcal
              clear hcal hNk
              go_wp2_with fail
              go_must (go_at_call 12)
              refine (J3.out).mono ?_
              rintro r w3 ⟨rfl, hB⟩
              have HB3 := hidi hB
              clear hB r0 r1 r2 r3
              go_wp2_with fail
              go_roundg gk
              · exact ⟨j + 1, by omega, by simp, HB3⟩
              · omega
        | succ gk =>
          have hz' : (i : Int) < (n : Int) := by omega
          have hwi : IntKind.i64.wrap ((i : Int) + 1) = (i : Int) + 1 := by rw [IntKind.wrap_i64]; omega
          obtain ⟨gi, hgi⟩ : ∃ x, x = gk := ⟨_, rfl⟩
          go_wp2_with fail
          go_loopg [11, 12] k (fun gk s11 s12 wx => ∃ j : Nat, j + gk = k ∧ s11 = .int .i64 j ∧ Hid (B (i * k + j) g lc wx))
          case atStart => exact ⟨0, by omega, rfl, HB⟩
          case round =>
            clear HB
            obtain ⟨j, hj, rfl, HB⟩ := hrel
            cases gk with
            | zero =>
              have hz2 : ¬ (j : Int) < (k : Int) := by omega
              obtain rfl : k = j := by omega
              go_wp2_with fail
              go_roundg gi
              · exact ⟨i + 1, by omega, by simp, by rw [Nat.add_mul, Nat.one_mul]; exact HB⟩
              · omega
            | succ gk =>
              have hz2 : (j : Int) < (k : Int) := by omega
              have hwj : IntKind.i64.wrap ((j : Int) + 1) = (j : Int) + 1 := by rw [IntKind.wrap_i64]; omega
              obtain ⟨t, hte, ht⟩ : ∃ t : Nat, ((j : Int) * 3 + (i : Int)) % (k : Int) = (t : Int) ∧ t < k := by
                have hkp : (0 : Int) < (k : Int) := by omega
                have q1 := Int.emod_nonneg ((j : Int) * 3 + (i : Int)) (show (k : Int) ≠ 0 by omega)
                have q2 := Int.emod_lt_of_pos ((j : Int) * 3 + (i : Int)) hkp
                exact ⟨(((j : Int) * 3 + (i : Int)) % (k : Int)).toNat, by omega, by omega⟩
              have hcp : n ≤ c := HN.out.2
              by_cases hsk : ((i : Int) + (t : Int)) % 4 = 1
              · have HB4 := hidi (H4.out _ _ _ _ HB.out)
                go_wp2_with fail
                go_roundg gk
                · exact ⟨j + 1, by omega, by simp, HB4⟩
                · omega
              · have ht' : (t : Int) < (k : Int) := by omega
                obtain ⟨p, hp⟩ : ∃ p, ops[i]? = some p := ⟨_, List.getElem?_eq_getElem (by have := HN.out; omega)⟩
                obtain ⟨sg, so, rfl, hop⟩ := H5.out _ _ hp
                obtain ⟨d0, d2, d3, d4, d5⟩ := hop _ _ _ _ HB.out
                have hNN : i * k + j ≤ 2000 := by
                  have := Nat.mul_le_mul (show i ≤ 99 by omega) hk2
                  omega
                obtain ⟨cb, mb, kb, vb, ⟨r0, r1, r2, r3⟩, hcal, _⟩ := H3.out _ _ _ _ t HB.out ht hNN
                have HO := hidi hop
                have J3 : Hid (Calls Try.prog 11 #[.agg #[.pointer (some ⟨cb, 0, none⟩), .pointer (some ⟨mb, 0, none⟩), .pointer (some ⟨kb, 0, none⟩), .pointer (some ⟨vb, 0, none⟩)], .int .i64 p.kind, .agg #[.string p.k.1, .int .i64 p.k.2], .int .i64 (IntKind.i64.wrap (p.v + t)), .int .i64 p.stop] wr.drew fun r w' => r = .returned (.bool true) ∧ (w'.cell? ⟨g, t * 4, none⟩ = some (.pointer (some ⟨cb, 0, none⟩)) ∧ w'.cell? ⟨g, t * 4 + 1, none⟩ = some (.pointer (some ⟨mb, 0, none⟩)) ∧ w'.cell? ⟨g, t * 4 + 2, none⟩ = some (.pointer (some ⟨kb, 0, none⟩)) ∧ w'.cell? ⟨g, t * 4 + 3, none⟩ = some (.pointer (some ⟨vb, 0, none⟩)) ∧ w'.cell? ⟨sg, so + i * 6, none⟩ = some (.int .i64 p.kind) ∧ w'.cell? ⟨sg, so + i * 6 + 2, none⟩ = some (.string p.k.1) ∧ w'.cell? ⟨sg, so + i * 6 + 3, none⟩ = some (.int .i64 p.k.2) ∧ w'.cell? ⟨sg, so + i * 6 + 4, none⟩ = some (.int .i64 p.v) ∧ w'.cell? ⟨sg, so + i * 6 + 5, none⟩ = some (.int .i64 p.stop)) ∧ B (i * k + (j + 1)) g lc w') := (hcal i p (IntKind.i64.wrap (p.v + t)) hp).mono fun r w' ⟨e1, ⟨y0, y1, y2, y3⟩, e3⟩ => ⟨e1, ⟨y0, y1, y2, y3, hop _ _ _ _ e3⟩, e3⟩
                clear hcal hop hp hNN HO
                obtain ⟨kind, sec, ⟨ka, ki⟩, v, st⟩ := p
                simp only at d0 d2 d3 d4 d5 J3
                go_wp2_with fail
                refine wp_region_held_drew (S := fun w' => w'.cell? ⟨g, t * 4, none⟩ = some (.pointer (some ⟨cb, 0, none⟩)) ∧ w'.cell? ⟨g, t * 4 + 1, none⟩ = some (.pointer (some ⟨mb, 0, none⟩)) ∧ w'.cell? ⟨g, t * 4 + 2, none⟩ = some (.pointer (some ⟨kb, 0, none⟩)) ∧ w'.cell? ⟨g, t * 4 + 3, none⟩ = some (.pointer (some ⟨vb, 0, none⟩)) ∧ w'.cell? ⟨sg, so + i * 6, none⟩ = some (.int .i64 kind) ∧ w'.cell? ⟨sg, so + i * 6 + 2, none⟩ = some (.string ka) ∧ w'.cell? ⟨sg, so + i * 6 + 3, none⟩ = some (.int .i64 ki) ∧ w'.cell? ⟨sg, so + i * 6 + 4, none⟩ = some (.int .i64 v) ∧ w'.cell? ⟨sg, so + i * 6 + 5, none⟩ = some (.int .i64 st)) (by kernel_rfl) ⟨r0, r1, r2, r3, d0, d2, d3, d4, d5⟩ (fun hHeld => ?_)
                change wpAnyH _ _ _ _ _ 28 #[false, false, false, false, false, false, false, false, false, false, false, false, false, false, false, false, false, false, false, false, false, false, false, false, false, false, false, false] _ (World.drew _)
                refine wpAnyH_take (i := 0) (oi := { dst := some 65, op := Go.Op.move (Go.Operand.tmp 7), type := 37, pos := "exact.go:201", after := #[], guard := none }) (v := .slice (some ⟨g, 0, none⟩) k lc) rfl (by kernel_rfl) (by kernel_rfl) (by kernel_rfl) (fun _ _ _ h => h) (Or.inl ⟨by kernel_rfl, by intro wq hSw; (try dsimp only at hSw); clear hHeld; go_simp⟩) hHeld ?_
                simp only [Act.put, List.setIfInBounds_toArray, List.set_cons_zero, List.set_cons_succ]
                refine wpAnyH_take (i := 1) (oi := { dst := some 66, op := Go.Op.move (Go.Operand.tmp 12), type := 3, pos := "exact.go:201", after := #[], guard := none }) (v := .int .i64 t) rfl (by kernel_rfl) (by kernel_rfl) (by kernel_rfl) (fun _ _ _ h => h) (Or.inl ⟨by kernel_rfl, by intro wq hSw; (try dsimp only at hSw); clear hHeld; go_simp⟩) hHeld ?_
                simp only [Act.put, List.setIfInBounds_toArray, List.set_cons_zero, List.set_cons_succ]
                refine wpAnyH_take (i := 2) (oi := { dst := some 67, op := Go.Op.indexAddr 37 (Go.Operand.tmp 65) (Go.Operand.tmp 66), type := 0, pos := "exact.go:201", after := #[{ on := 0, ground := Go.Ground.data }, { on := 1, ground := Go.Ground.data }], guard := none }) (v := .pointer (some ⟨g, t * 4, none⟩)) rfl (by kernel_rfl) (by kernel_rfl) (by kernel_rfl) (fun _ _ _ h => h) (Or.inl ⟨by kernel_rfl, by intro wq hSw; (try dsimp only at hSw); clear hHeld; go_simp⟩) hHeld ?_
                simp only [Act.put, List.setIfInBounds_toArray, List.set_cons_zero, List.set_cons_succ]
                refine wpAnyH_take (i := 3) (oi := { dst := some 68, op := Go.Op.load 41 (Go.Operand.tmp 67), type := 41, pos := "exact.go:201", after := #[{ on := 2, ground := Go.Ground.data }], guard := none }) (v := .agg #[.pointer (some ⟨cb, 0, none⟩), .pointer (some ⟨mb, 0, none⟩), .pointer (some ⟨kb, 0, none⟩), .pointer (some ⟨vb, 0, none⟩)]) rfl (by kernel_rfl) (by kernel_rfl) (by kernel_rfl) (fun _ _ _ h => h) (Or.inl ⟨by kernel_rfl, by intro wq hSw; (try dsimp only at hSw); clear hHeld; go_simp⟩) hHeld ?_
                simp only [Act.put, List.setIfInBounds_toArray, List.set_cons_zero, List.set_cons_succ]
                refine wpAnyH_take (i := 4) (oi := { dst := some 69, op := Go.Op.move (Go.Operand.tmp 2), type := 22, pos := "exact.go:201", after := #[], guard := none }) (v := .slice (some ⟨sg, so, none⟩) n c) rfl (by kernel_rfl) (by kernel_rfl) (by kernel_rfl) (fun _ _ _ h => h) (Or.inl ⟨by kernel_rfl, by intro wq hSw; (try dsimp only at hSw); clear hHeld; go_simp⟩) hHeld ?_
                simp only [Act.put, List.setIfInBounds_toArray, List.set_cons_zero, List.set_cons_succ]
                refine wpAnyH_take (i := 5) (oi := { dst := some 70, op := Go.Op.move (Go.Operand.tmp 10), type := 3, pos := "exact.go:201", after := #[], guard := none }) (v := .int .i64 i) rfl (by kernel_rfl) (by kernel_rfl) (by kernel_rfl) (fun _ _ _ h => h) (Or.inl ⟨by kernel_rfl, by intro wq hSw; (try dsimp only at hSw); clear hHeld; go_simp⟩) hHeld ?_
                simp only [Act.put, List.setIfInBounds_toArray, List.set_cons_zero, List.set_cons_succ]
                refine wpAnyH_take (i := 6) (oi := { dst := some 71, op := Go.Op.indexAddr 22 (Go.Operand.tmp 69) (Go.Operand.tmp 70), type := 0, pos := "exact.go:201", after := #[{ on := 4, ground := Go.Ground.data }, { on := 5, ground := Go.Ground.data }], guard := none }) (v := .pointer (some ⟨sg, so + i * 6, none⟩)) rfl (by kernel_rfl) (by kernel_rfl) (by kernel_rfl) (fun _ _ _ h => h) (Or.inl ⟨by kernel_rfl, by intro wq hSw; (try dsimp only at hSw); clear hHeld; go_simp⟩) hHeld ?_
                simp only [Act.put, List.setIfInBounds_toArray, List.set_cons_zero, List.set_cons_succ]
                refine wpAnyH_take (i := 7) (oi := { dst := some 72, op := Go.Op.fieldAddr 33 (Go.Operand.tmp 71) 0, type := 0, pos := "exact.go:201", after := #[{ on := 6, ground := Go.Ground.data }], guard := none }) (v := .pointer (some ⟨sg, so + i * 6, none⟩)) rfl (by kernel_rfl) (by kernel_rfl) (by kernel_rfl) (fun _ _ _ h => h) (Or.inl ⟨by kernel_rfl, by intro wq hSw; (try dsimp only at hSw); clear hHeld; go_simp⟩) hHeld ?_
                simp only [Act.put, List.setIfInBounds_toArray, List.set_cons_zero, List.set_cons_succ]
                refine wpAnyH_take (i := 8) (oi := { dst := some 73, op := Go.Op.load 3 (Go.Operand.tmp 72), type := 3, pos := "exact.go:201", after := #[{ on := 7, ground := Go.Ground.data }], guard := none }) (v := .int .i64 kind) rfl (by kernel_rfl) (by kernel_rfl) (by kernel_rfl) (fun _ _ _ h => h) (Or.inl ⟨by kernel_rfl, by intro wq hSw; (try dsimp only at hSw); clear hHeld; go_simp⟩) hHeld ?_
                simp only [Act.put, List.setIfInBounds_toArray, List.set_cons_zero, List.set_cons_succ]
                refine wpAnyH_take (i := 9) (oi := { dst := some 74, op := Go.Op.move (Go.Operand.tmp 2), type := 22, pos := "exact.go:201", after := #[], guard := none }) (v := .slice (some ⟨sg, so, none⟩) n c) rfl (by kernel_rfl) (by kernel_rfl) (by kernel_rfl) (fun _ _ _ h => h) (Or.inl ⟨by kernel_rfl, by intro wq hSw; (try dsimp only at hSw); clear hHeld; go_simp⟩) hHeld ?_
                simp only [Act.put, List.setIfInBounds_toArray, List.set_cons_zero, List.set_cons_succ]
                refine wpAnyH_take (i := 10) (oi := { dst := some 75, op := Go.Op.move (Go.Operand.tmp 10), type := 3, pos := "exact.go:201", after := #[], guard := none }) (v := .int .i64 i) rfl (by kernel_rfl) (by kernel_rfl) (by kernel_rfl) (fun _ _ _ h => h) (Or.inl ⟨by kernel_rfl, by intro wq hSw; (try dsimp only at hSw); clear hHeld; go_simp⟩) hHeld ?_
                simp only [Act.put, List.setIfInBounds_toArray, List.set_cons_zero, List.set_cons_succ]
                refine wpAnyH_take (i := 11) (oi := { dst := some 76, op := Go.Op.indexAddr 22 (Go.Operand.tmp 74) (Go.Operand.tmp 75), type := 0, pos := "exact.go:201", after := #[{ on := 9, ground := Go.Ground.data }, { on := 10, ground := Go.Ground.data }], guard := none }) (v := .pointer (some ⟨sg, so + i * 6, none⟩)) rfl (by kernel_rfl) (by kernel_rfl) (by kernel_rfl) (fun _ _ _ h => h) (Or.inl ⟨by kernel_rfl, by intro wq hSw; (try dsimp only at hSw); clear hHeld; go_simp⟩) hHeld ?_
                simp only [Act.put, List.setIfInBounds_toArray, List.set_cons_zero, List.set_cons_succ]
                refine wpAnyH_take (i := 12) (oi := { dst := some 77, op := Go.Op.fieldAddr 33 (Go.Operand.tmp 76) 2, type := 0, pos := "exact.go:201", after := #[{ on := 11, ground := Go.Ground.data }], guard := none }) (v := .pointer (some ⟨sg, so + i * 6 + 2, none⟩)) rfl (by kernel_rfl) (by kernel_rfl) (by kernel_rfl) (fun _ _ _ h => h) (Or.inl ⟨by kernel_rfl, by intro wq hSw; (try dsimp only at hSw); clear hHeld; go_simp⟩) hHeld ?_
                simp only [Act.put, List.setIfInBounds_toArray, List.set_cons_zero, List.set_cons_succ]
                refine wpAnyH_take (i := 13) (oi := { dst := some 78, op := Go.Op.load 31 (Go.Operand.tmp 77), type := 31, pos := "exact.go:201", after := #[{ on := 12, ground := Go.Ground.data }], guard := none }) (v := .agg #[.string ka, .int .i64 ki]) rfl (by kernel_rfl) (by kernel_rfl) (by kernel_rfl) (fun _ _ _ h => h) (Or.inl ⟨by kernel_rfl, by intro wq hSw; (try dsimp only at hSw); clear hHeld; go_simp⟩) hHeld ?_
                simp only [Act.put, List.setIfInBounds_toArray, List.set_cons_zero, List.set_cons_succ]
                refine wpAnyH_take (i := 14) (oi := { dst := some 79, op := Go.Op.move (Go.Operand.tmp 2), type := 22, pos := "exact.go:201", after := #[], guard := none }) (v := .slice (some ⟨sg, so, none⟩) n c) rfl (by kernel_rfl) (by kernel_rfl) (by kernel_rfl) (fun _ _ _ h => h) (Or.inl ⟨by kernel_rfl, by intro wq hSw; (try dsimp only at hSw); clear hHeld; go_simp⟩) hHeld ?_
                simp only [Act.put, List.setIfInBounds_toArray, List.set_cons_zero, List.set_cons_succ]
                refine wpAnyH_take (i := 15) (oi := { dst := some 80, op := Go.Op.move (Go.Operand.tmp 10), type := 3, pos := "exact.go:201", after := #[], guard := none }) (v := .int .i64 i) rfl (by kernel_rfl) (by kernel_rfl) (by kernel_rfl) (fun _ _ _ h => h) (Or.inl ⟨by kernel_rfl, by intro wq hSw; (try dsimp only at hSw); clear hHeld; go_simp⟩) hHeld ?_
                simp only [Act.put, List.setIfInBounds_toArray, List.set_cons_zero, List.set_cons_succ]
                refine wpAnyH_take (i := 16) (oi := { dst := some 81, op := Go.Op.indexAddr 22 (Go.Operand.tmp 79) (Go.Operand.tmp 80), type := 0, pos := "exact.go:201", after := #[{ on := 14, ground := Go.Ground.data }, { on := 15, ground := Go.Ground.data }], guard := none }) (v := .pointer (some ⟨sg, so + i * 6, none⟩)) rfl (by kernel_rfl) (by kernel_rfl) (by kernel_rfl) (fun _ _ _ h => h) (Or.inl ⟨by kernel_rfl, by intro wq hSw; (try dsimp only at hSw); clear hHeld; go_simp⟩) hHeld ?_
                simp only [Act.put, List.setIfInBounds_toArray, List.set_cons_zero, List.set_cons_succ]
                refine wpAnyH_take (i := 17) (oi := { dst := some 82, op := Go.Op.fieldAddr 33 (Go.Operand.tmp 81) 3, type := 0, pos := "exact.go:201", after := #[{ on := 16, ground := Go.Ground.data }], guard := none }) (v := .pointer (some ⟨sg, so + i * 6 + 4, none⟩)) rfl (by kernel_rfl) (by kernel_rfl) (by kernel_rfl) (fun _ _ _ h => h) (Or.inl ⟨by kernel_rfl, by intro wq hSw; (try dsimp only at hSw); clear hHeld; go_simp⟩) hHeld ?_
                simp only [Act.put, List.setIfInBounds_toArray, List.set_cons_zero, List.set_cons_succ]
                refine wpAnyH_take (i := 18) (oi := { dst := some 83, op := Go.Op.load 3 (Go.Operand.tmp 82), type := 3, pos := "exact.go:201", after := #[{ on := 17, ground := Go.Ground.data }], guard := none }) (v := .int .i64 v) rfl (by kernel_rfl) (by kernel_rfl) (by kernel_rfl) (fun _ _ _ h => h) (Or.inl ⟨by kernel_rfl, by intro wq hSw; (try dsimp only at hSw); clear hHeld; go_simp⟩) hHeld ?_
                simp only [Act.put, List.setIfInBounds_toArray, List.set_cons_zero, List.set_cons_succ]
                refine wpAnyH_take (i := 19) (oi := { dst := some 84, op := Go.Op.move (Go.Operand.tmp 12), type := 3, pos := "exact.go:201", after := #[], guard := none }) (v := .int .i64 t) rfl (by kernel_rfl) (by kernel_rfl) (by kernel_rfl) (fun _ _ _ h => h) (Or.inl ⟨by kernel_rfl, by intro wq hSw; (try dsimp only at hSw); clear hHeld; go_simp⟩) hHeld ?_
                simp only [Act.put, List.setIfInBounds_toArray, List.set_cons_zero, List.set_cons_succ]
                refine wpAnyH_take (i := 20) (oi := { dst := some 85, op := Go.Op.binOp Go.BinOp.add 3 (Go.Operand.tmp 83) (Go.Operand.tmp 84) 3, type := 3, pos := "exact.go:201", after := #[{ on := 18, ground := Go.Ground.data }, { on := 19, ground := Go.Ground.data }], guard := none }) (v := .int .i64 (IntKind.i64.wrap (v + t))) rfl (by kernel_rfl) (by kernel_rfl) (by kernel_rfl) (fun _ _ _ h => h) (Or.inl ⟨by kernel_rfl, by intro wq hSw; (try dsimp only at hSw); clear hHeld; go_simp⟩) hHeld ?_
                simp only [Act.put, List.setIfInBounds_toArray, List.set_cons_zero, List.set_cons_succ]
                refine wpAnyH_take (i := 21) (oi := { dst := some 86, op := Go.Op.move (Go.Operand.tmp 2), type := 22, pos := "exact.go:201", after := #[], guard := none }) (v := .slice (some ⟨sg, so, none⟩) n c) rfl (by kernel_rfl) (by kernel_rfl) (by kernel_rfl) (fun _ _ _ h => h) (Or.inl ⟨by kernel_rfl, by intro wq hSw; (try dsimp only at hSw); clear hHeld; go_simp⟩) hHeld ?_
                simp only [Act.put, List.setIfInBounds_toArray, List.set_cons_zero, List.set_cons_succ]
                refine wpAnyH_take (i := 22) (oi := { dst := some 87, op := Go.Op.move (Go.Operand.tmp 10), type := 3, pos := "exact.go:201", after := #[], guard := none }) (v := .int .i64 i) rfl (by kernel_rfl) (by kernel_rfl) (by kernel_rfl) (fun _ _ _ h => h) (Or.inl ⟨by kernel_rfl, by intro wq hSw; (try dsimp only at hSw); clear hHeld; go_simp⟩) hHeld ?_
                simp only [Act.put, List.setIfInBounds_toArray, List.set_cons_zero, List.set_cons_succ]
                refine wpAnyH_take (i := 23) (oi := { dst := some 88, op := Go.Op.indexAddr 22 (Go.Operand.tmp 86) (Go.Operand.tmp 87), type := 0, pos := "exact.go:201", after := #[{ on := 21, ground := Go.Ground.data }, { on := 22, ground := Go.Ground.data }], guard := none }) (v := .pointer (some ⟨sg, so + i * 6, none⟩)) rfl (by kernel_rfl) (by kernel_rfl) (by kernel_rfl) (fun _ _ _ h => h) (Or.inl ⟨by kernel_rfl, by intro wq hSw; (try dsimp only at hSw); clear hHeld; go_simp⟩) hHeld ?_
                simp only [Act.put, List.setIfInBounds_toArray, List.set_cons_zero, List.set_cons_succ]
                refine wpAnyH_take (i := 24) (oi := { dst := some 89, op := Go.Op.fieldAddr 33 (Go.Operand.tmp 88) 4, type := 0, pos := "exact.go:201", after := #[{ on := 23, ground := Go.Ground.data }], guard := none }) (v := .pointer (some ⟨sg, so + i * 6 + 5, none⟩)) rfl (by kernel_rfl) (by kernel_rfl) (by kernel_rfl) (fun _ _ _ h => h) (Or.inl ⟨by kernel_rfl, by intro wq hSw; (try dsimp only at hSw); clear hHeld; go_simp⟩) hHeld ?_
                simp only [Act.put, List.setIfInBounds_toArray, List.set_cons_zero, List.set_cons_succ]
                refine wpAnyH_take (i := 25) (oi := { dst := some 90, op := Go.Op.load 3 (Go.Operand.tmp 89), type := 3, pos := "exact.go:201", after := #[{ on := 24, ground := Go.Ground.data }], guard := none }) (v := .int .i64 st) rfl (by kernel_rfl) (by kernel_rfl) (by kernel_rfl) (fun _ _ _ h => h) (Or.inl ⟨by kernel_rfl, by intro wq hSw; (try dsimp only at hSw); clear hHeld; go_simp⟩) hHeld ?_
                simp only [Act.put, List.setIfInBounds_toArray, List.set_cons_zero, List.set_cons_succ]
                clear r0 r1 r2 r3 d0 d2 d3 d4 d5
                refine wpAnyH_ready (rs := [26]) (by kernel_rfl) (by simp) ?_
                refine AllReadyH.cons (o := { dst := some 91, op := Go.Op.call { callee := Go.Callee.value (Go.Operand.func 11), args := #[Go.Operand.tmp 68, Go.Operand.tmp 73, Go.Operand.tmp 78, Go.Operand.tmp 85, Go.Operand.tmp 90], argTypes := #[41, 3, 31, 3, 3] }, type := 4, pos := "exact.go:201", after := #[{ on := 3, ground := Go.Ground.data }, { on := 8, ground := Go.Ground.data }, { on := 13, ground := Go.Ground.data }, { on := 20, ground := Go.Ground.data }, { on := 25, ground := Go.Ground.data }], guard := none }) (by rfl) (fun K hK => ?_) AllReadyH.nil
                go_simp
                go_wp2_with (go_at_call 11; refine (J3.out).mono ?_; rintro e w3 ⟨rfl, ⟨r0, r1, r2, r3, d0, d2, d3, d4, d5⟩, hB⟩)
                have HB3 := hidi hB
                clear hB
                refine hK.out _ _ ⟨r0, r1, r2, r3, d0, d2, d3, d4, d5⟩ (fun hHeld => ?_)
                clear hK K
                (try simp only [Act.put, List.setIfInBounds_toArray, List.set_cons_zero, List.set_cons_succ])
                refine wpAnyH_take (i := 27) (oi := { dst := some 92, op := Go.Op.unOp Go.UnOp.not 4 (Go.Operand.tmp 91), type := 4, pos := "exact.go:201", after := #[{ on := 26, ground := Go.Ground.data }], guard := none }) (v := .bool false) rfl (by kernel_rfl) (by kernel_rfl) (by kernel_rfl) (fun _ _ _ h => h) (Or.inl ⟨by kernel_rfl, by intro wq hSw; (try dsimp only at hSw); clear hHeld; go_simp⟩) hHeld ?_
                simp only [Act.put, List.setIfInBounds_toArray, List.set_cons_zero, List.set_cons_succ]
                refine wpAnyH_done (by kernel_rfl) ?_ _
                clear hHeld
                go_wp2_with fail
                go_roundg gk
                · exact ⟨j + 1, by omega, by simp, HB3⟩
                · omega
    | succ gk =>
      have hz : (i : Int) < (k : Int) := by omega
      have hwi : IntKind.i64.wrap ((i : Int) + 1) = (i : Int) + 1 := by rw [IntKind.wrap_i64]; omega
      go_wp2_with fail
      go_must (go_at_call 10)
      refine (H1.out i la lc wr _ (by omega) HA.out).mono ?_
      rintro r w1 ⟨cb, mb, kb, vb, rfl, va, ca, w2, hr, hA⟩
      have HR := hidi hr
      have HA2 := hidi hA
      clear hr hA HA
      go_wp2_with (at_builtin; refine Lib.wpList_append_run _ rfl (.tmp 39) (.tmp 41) 37 37 rfl _ _ rfl rfl _ w2 HR.out ?_)
      go_roundg gk
      · exact ⟨i + 1, va, ca, by omega, by simp, rfl, HA2⟩
      · omega
end Go.Proofs.Ytdhinpmjbcohaaa.Kp
