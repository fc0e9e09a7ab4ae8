import Derived.Test.YtdhinpmjbcohaaaHi
import Derived.Test.YtdhinpmjbcohaaaPf
namespace Go.Proofs.Ytdhinpmjbcohaaa
open Go Go.RowKit Go.Shelf
set_option linter.unusedSimpArgs false
set_option linter.unusedVariables false

theorem BQ.more {W : World} {cb mb kb vb s : Nat} (h : BQ W cb mb kb vb s) (o : Obj) : BQ (W.alloc o) cb mb kb vb s := by
  have hc : ∀ i v, W.cell? ⟨s, i, none⟩ = some v → (W.alloc o).cell? ⟨s, i, none⟩ = some v := fun i v hv => (cell_same ((World.grownBy_alloc W o none).block s (Rf.cell_lt'' hv) (by simp))).trans hv
  exact ⟨hc _ _ h.1, hc _ _ h.2.1, hc _ _ h.2.2.1, hc _ _ h.2.2.2⟩
set_option maxRecDepth 100000 in
set_option maxHeartbeats 4000000 in
theorem plays_walk {a : Option Addr} {c : Nat} (n : Nat) (ops : List Op8) (one two : Int) (w : World) (hn : n = ops.length) (hc : n ≤ c) {s c1 m1 k1 v1 c2 m2 k2 v2 : Nat} {K1 K2 K3 : World → Prop} (St : Nat → World → Prop) (Po : Ending → World → Prop) (h0 : Po (.returned (.bool true)) w)
    (h1 : Calls Try.prog 7 #[.int .i64 one] w fun r w' => r = .returned (.agg #[.pointer (some ⟨c1, 0, none⟩), .pointer (some ⟨m1, 0, none⟩), .pointer (some ⟨k1, 0, none⟩), .pointer (some ⟨v1, 0, none⟩)]) ∧ K1 w')
    (h2 : ∀ W, K1 W → Calls Try.prog 7 #[.int .i64 two] W fun r w' => r = .returned (.agg #[.pointer (some ⟨c2, 0, none⟩), .pointer (some ⟨m2, 0, none⟩), .pointer (some ⟨k2, 0, none⟩), .pointer (some ⟨v2, 0, none⟩)]) ∧ w'.heap.size = s ∧ K2 w')
    (h3 : ∀ W, n ≤ 600 → K2 W → St 0 ((W.alloc (.cells #[.pointer (some ⟨c1, 0, none⟩), .pointer (some ⟨m1, 0, none⟩), .pointer (some ⟨k1, 0, none⟩), .pointer (some ⟨v1, 0, none⟩)] 28)).alloc (.cells #[.pointer (some ⟨c2, 0, none⟩), .pointer (some ⟨m2, 0, none⟩), .pointer (some ⟨k2, 0, none⟩), .pointer (some ⟨v2, 0, none⟩)] 28)))
    (h4 : ∀ i W, St i W → BQ W c1 m1 k1 v1 s ∧ BQ W c2 m2 k2 v2 (s + 1))
    (h5 : ∀ i W op, St i W → ops[i]? = some op → ∃ g o, a = some ⟨g, o, none⟩ ∧ ∀ q u, (opc op)[q]? = some u → W.cell? ⟨g, o + i * 6 + q, none⟩ = some u)
    (h6 : ∀ i W kind ka ki v st, St i W → ops[i]? = some ⟨kind, false, (ka, ki), v, st⟩ → Calls Try.prog 8 #[.agg #[.pointer (some ⟨c1, 0, none⟩), .pointer (some ⟨m1, 0, none⟩), .pointer (some ⟨k1, 0, none⟩), .pointer (some ⟨v1, 0, none⟩)], .int .i64 kind, .string ka, .int .i64 v, .int .i64 st] ((W.alloc (.cells #[.int .i64 kind, .bool false, .string ka, .int .i64 ki, .int .i64 v, .int .i64 st] 33)).alloc (.cells #[.pointer (some ⟨c1, 0, none⟩), .pointer (some ⟨m1, 0, none⟩), .pointer (some ⟨k1, 0, none⟩), .pointer (some ⟨v1, 0, none⟩)] 28)) fun r w' => r = .returned (.bool true) ∧ St (i + 1) w')
    (h7 : ∀ i W kind ka ki v st, St i W → ops[i]? = some ⟨kind, true, (ka, ki), v, st⟩ → Calls Try.prog 8 #[.agg #[.pointer (some ⟨c2, 0, none⟩), .pointer (some ⟨m2, 0, none⟩), .pointer (some ⟨k2, 0, none⟩), .pointer (some ⟨v2, 0, none⟩)], .int .i64 kind, .string ka, .int .i64 v, .int .i64 st] ((W.alloc (.cells #[.int .i64 kind, .bool true, .string ka, .int .i64 ki, .int .i64 v, .int .i64 st] 33)).alloc (.cells #[.pointer (some ⟨c2, 0, none⟩), .pointer (some ⟨m2, 0, none⟩), .pointer (some ⟨k2, 0, none⟩), .pointer (some ⟨v2, 0, none⟩)] 28)) fun r w' => r = .returned (.bool true) ∧ St (i + 1) w')
    (h8 : ∀ W, St n W → Calls Try.prog 9 #[.agg #[.pointer (some ⟨c1, 0, none⟩), .pointer (some ⟨m1, 0, none⟩), .pointer (some ⟨k1, 0, none⟩), .pointer (some ⟨v1, 0, none⟩)], .int .i64 (-1)] W fun r w' => r = .returned (.bool true) ∧ BQ w' c2 m2 k2 v2 (s + 1) ∧ K3 w')
    (h9 : ∀ W, K3 W → Calls Try.prog 9 #[.agg #[.pointer (some ⟨c2, 0, none⟩), .pointer (some ⟨m2, 0, none⟩), .pointer (some ⟨k2, 0, none⟩), .pointer (some ⟨v2, 0, none⟩)], .int .i64 (-1)] W fun r w' => r = .returned (.bool true) ∧ Po (.returned (.bool true)) w') :
    Calls Try.prog 3 #[.int .i64 one, .int .i64 two, .slice a n c] w Po := by
  have H0 := hidi h0
  have H1 := hidi h1
  have H2 := hidi h2
  have H3 := hidi h3
  have H4 := hidi h4
  have H5 := hidi h5
  have H6 := hidi h6
  have H7 := hidi h7
  have H8 := hidi h8
  have H9 := hidi h9
  have HN : Hid (n = ops.length ∧ n ≤ c) := ⟨hn, hc⟩
  clear hn hc h0 h1 h2 h3 h4 h5 h6 h7 h8 h9
  by_cases hlen : 600 < n
  · have hl : (600 : Int) < (n : Int) := by omega
    go_enter Try.func3, Try.ntmps3
    go_wp2_with fail
    (try go_ret)
    exact H0.out
  · have hl : ¬ (600 : Int) < (n : Int) := by omega
    go_enter Try.func3, Try.ntmps3
    go_wp2_with fail
    go_must (go_at_call 7)
    refine (H1.out).mono ?_
    rintro r w1 ⟨rfl, hk⟩
    have J1 := hidi (H2.out _ hk)
    clear hk
    go_wp2_with fail
    go_must (go_at_call 7)
    refine (J1.out).mono ?_
    rintro r w2 ⟨rfl, hs, hk⟩
    obtain rfl := hs
    have J2 := hidi (H3.out _ (by omega) hk)
    clear hk
    go_wp2_with fail
    go_loopg [9] n (fun gk s9 wx => ∃ i : Nat, i + gk = n ∧ s9 = .int .i64 i ∧ Hid (St i wx))
    case atStart =>
      exact ⟨0, by omega, rfl, J2.out⟩
    case round =>
      obtain ⟨i, hi, rfl, HH⟩ := hrel
      cases gk with
      | zero =>
        have hz : ¬ (i : Int) < (n : Int) := by omega
        obtain rfl : i = n := by omega
        obtain ⟨⟨a0, a1, a2, a3⟩, b0, b1, b2, b3⟩ := H4.out _ _ HH.out
        have J3 := hidi (H8.out _ HH.out)
        clear HH J2
        go_wp2_with fail
        go_must (go_at_call 9)
        refine (J3.out).mono ?_
        clear b0 b1 b2 b3
        rintro r w3 ⟨rfl, ⟨b0, b1, b2, b3⟩, hk⟩
        have J4 := hidi (H9.out _ hk)
        clear hk
        go_wp2_with fail
        go_must (go_at_call 9)
        refine (J4.out).mono ?_
        rintro r w4 ⟨rfl, hk⟩
        have Z := hidi hk
        clear hk
        go_wp2_with fail
        all_goals (try go_ret)
        all_goals exact Z.out
      | succ gk =>
        have hz : (i : Int) < (n : Int) := by omega
        have hz0 : (0 : Int) ≤ (i : Int) := by omega
        obtain ⟨p, hp⟩ : ∃ p, ops[i]? = some p := ⟨_, List.getElem?_eq_getElem (by have := HN.out; omega)⟩
        obtain ⟨g, o, rfl, hcell⟩ := H5.out _ _ _ HH.out hp
        have d0 : wr.cell? ⟨g, o + i * 6, none⟩ = some (.int .i64 p.kind) := hcell 0 _ rfl
        have d1 := hcell 1 _ rfl
        have d2 := hcell 2 _ rfl
        have d3 := hcell 3 _ rfl
        have d4 := hcell 4 _ rfl
        have d5 := hcell 5 _ rfl
        have HP := hidi hp
        clear hcell hp J2
        obtain ⟨kind, sec, ⟨ka, ki⟩, v, st⟩ := p
        simp only at d0 d1 d2 d3 d4 d5
        have hwi : IntKind.i64.wrap ((i : Int) + 1) = (i : Int) + 1 := by rw [IntKind.wrap_i64]; omega
        cases sec
        · have J3 := hidi (H6.out _ _ _ _ _ _ _ HH.out HP.out)
          obtain ⟨a0, a1, a2, a3⟩ := (H4.out _ _ HH.out).1.more (.cells #[.int .i64 kind, .bool false, .string ka, .int .i64 ki, .int .i64 v, .int .i64 st] 33)
          obtain ⟨b0, b1, b2, b3⟩ := ((H4.out _ _ HH.out).2.more (.cells #[.int .i64 kind, .bool false, .string ka, .int .i64 ki, .int .i64 v, .int .i64 st] 33)).more (.cells #[.pointer (some ⟨c1, 0, none⟩), .pointer (some ⟨m1, 0, none⟩), .pointer (some ⟨k1, 0, none⟩), .pointer (some ⟨v1, 0, none⟩)] 28)
          go_wp2_with fail
          go_must (go_at_call 8)
          refine (J3.out).mono ?_
          rintro r w3 ⟨rfl, hk⟩
          have J4 := hidi hk
          clear hk
          go_wp2_with fail
          go_roundg gk
          · exact ⟨i + 1, by omega, by simp, J4.out⟩
          · omega
        · have J3 := hidi (H7.out _ _ _ _ _ _ _ HH.out HP.out)
          obtain ⟨a0, a1, a2, a3⟩ := (H4.out _ _ HH.out).1.more (.cells #[.int .i64 kind, .bool true, .string ka, .int .i64 ki, .int .i64 v, .int .i64 st] 33)
          obtain ⟨b0, b1, b2, b3⟩ := ((H4.out _ _ HH.out).2.more (.cells #[.int .i64 kind, .bool true, .string ka, .int .i64 ki, .int .i64 v, .int .i64 st] 33)).more (.cells #[.pointer (some ⟨c1, 0, none⟩), .pointer (some ⟨m1, 0, none⟩), .pointer (some ⟨k1, 0, none⟩), .pointer (some ⟨v1, 0, none⟩)] 28)
          go_wp2_with fail
          go_must (go_at_call 8)
          refine (J3.out).mono ?_
          rintro r w3 ⟨rfl, hk⟩
          have J4 := hidi hk
          clear hk
          go_wp2_with fail
          go_roundg gk
          · exact ⟨i + 1, by omega, by simp, J4.out⟩
          · omega
end Go.Proofs.Ytdhinpmjbcohaaa
