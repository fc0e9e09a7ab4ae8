import Derived.Test.YtdhinpmjbcohaaaGreatJbgv
import Derived.Test.YtdhinpmjbcohaaaGreatQaQ
import Derived.Test.YtdhinpmjbcohaaaGreatQyQ
import Derived.Test.YtdhinpmjbcohaaaGreatOd
namespace Go.Proofs.YtdhinpmjbcohaaaGreat
open Go Go.RowKit Go.Shelf
set_option linter.unusedSimpArgs false
set_option linter.unusedVariables false
set_option maxRecDepth 100000
set_option maxHeartbeats 4000000

def B4 (W : World) (s c1 m1 k1 v1 c2 m2 k2 v2 c3 m3 k3 v3 c4 m4 k4 v4 : Nat) : Prop :=
 W.cell? ⟨s, 0, none⟩ = some (.pointer (some ⟨c1, 0, none⟩)) ∧ W.cell? ⟨s, 1, none⟩ = some (.pointer (some ⟨m1, 0, none⟩)) ∧ W.cell? ⟨s, 2, none⟩ = some (.pointer (some ⟨k1, 0, none⟩)) ∧ W.cell? ⟨s, 3, none⟩ = some (.pointer (some ⟨v1, 0, none⟩)) ∧ W.cell? ⟨s + 1, 0, none⟩ = some (.pointer (some ⟨c2, 0, none⟩)) ∧ W.cell? ⟨s + 1, 1, none⟩ = some (.pointer (some ⟨m2, 0, none⟩)) ∧ W.cell? ⟨s + 1, 2, none⟩ = some (.pointer (some ⟨k2, 0, none⟩)) ∧ W.cell? ⟨s + 1, 3, none⟩ = some (.pointer (some ⟨v2, 0, none⟩)) ∧ W.cell? ⟨s + 2, 0, none⟩ = some (.pointer (some ⟨c3, 0, none⟩)) ∧ W.cell? ⟨s + 2, 1, none⟩ = some (.pointer (some ⟨m3, 0, none⟩)) ∧ W.cell? ⟨s + 2, 2, none⟩ = some (.pointer (some ⟨k3, 0, none⟩)) ∧ W.cell? ⟨s + 2, 3, none⟩ = some (.pointer (some ⟨v3, 0, none⟩)) ∧ W.cell? ⟨s + 3, 0, none⟩ = some (.pointer (some ⟨c4, 0, none⟩)) ∧ W.cell? ⟨s + 3, 1, none⟩ = some (.pointer (some ⟨m4, 0, none⟩)) ∧ W.cell? ⟨s + 3, 2, none⟩ = some (.pointer (some ⟨k4, 0, none⟩)) ∧ W.cell? ⟨s + 3, 3, none⟩ = some (.pointer (some ⟨v4, 0, none⟩))
def OBx (W : World) (bx : Nat) (op : Op8) : Prop :=
 W.cell? ⟨bx, 0, none⟩ = some (.int .i64 op.kind) ∧ W.cell? ⟨bx, 1, none⟩ = some (.bool op.second) ∧ W.cell? ⟨bx, 2, none⟩ = some (.string op.k.1) ∧ W.cell? ⟨bx, 3, none⟩ = some (.int .i64 op.k.2) ∧ W.cell? ⟨bx, 4, none⟩ = some (.int .i64 op.v) ∧ W.cell? ⟨bx, 5, none⟩ = some (.int .i64 op.stop)
theorem B4.more {W : World} {s c1 m1 k1 v1 c2 m2 k2 v2 c3 m3 k3 v3 c4 m4 k4 v4 : Nat} (h : B4 W s c1 m1 k1 v1 c2 m2 k2 v2 c3 m3 k3 v3 c4 m4 k4 v4) (o : Obj) : B4 (W.alloc o) s c1 m1 k1 v1 c2 m2 k2 v2 c3 m3 k3 v3 c4 m4 k4 v4 := by
 have hc : ∀ {g i : Nat} {v : Value}, W.cell? ⟨g, i, none⟩ = some v → (W.alloc o).cell? ⟨g, i, none⟩ = some v := fun {g i v} hv => (Ja.cell_same ((World.grownBy_alloc W o none).block g (Rf.cell_lt'' hv) (by simp))).trans hv
 obtain ⟨x0, x1, x2, x3, x4, x5, x6, x7, x8, x9, x10, x11, x12, x13, x14, x15⟩ := h
 exact ⟨hc x0, hc x1, hc x2, hc x3, hc x4, hc x5, hc x6, hc x7, hc x8, hc x9, hc x10, hc x11, hc x12, hc x13, hc x14, hc x15⟩
theorem kinds_walk {a : Option Addr} {c : Nat} (n : Nat) (ops : List Op8) (most : Int) (w : World) (hn : n = ops.length) (hc : n ≤ c) {s c1 m1 k1 v1 c2 m2 k2 v2 c3 m3 k3 v3 c4 m4 k4 v4 : Nat} {K1 K2 K3 K4 F1 F2 F3 : World → Prop} (St : Nat → World → Prop) (M1 M2 M3 : Nat → Nat → Op8 → World → Prop) (Po : Ending → World → Prop) (h0 : Po (.returned (.bool true)) w)
  (h1 : Calls Tryz.prog 4 #[.int .i64 most] w fun r w' => r = .returned (.agg #[.pointer (some ⟨c1, 0, none⟩), .pointer (some ⟨m1, 0, none⟩), .pointer (some ⟨k1, 0, none⟩), .pointer (some ⟨v1, 0, none⟩)]) ∧ K1 w')
  (h2 : ∀ W, K1 W → Calls Tryz.prog 5 #[.int .i64 most] W fun r w' => r = .returned (.agg #[.pointer (some ⟨c2, 0, none⟩), .pointer (some ⟨m2, 0, none⟩), .pointer (some ⟨k2, 0, none⟩), .pointer (some ⟨v2, 0, none⟩)]) ∧ K2 w')
  (h3 : ∀ W, K2 W → Calls Tryz.prog 6 #[.int .i64 most] W fun r w' => r = .returned (.agg #[.pointer (some ⟨c3, 0, none⟩), .pointer (some ⟨m3, 0, none⟩), .pointer (some ⟨k3, 0, none⟩), .pointer (some ⟨v3, 0, none⟩)]) ∧ K3 w')
  (h4 : ∀ W, K3 W → Calls Tryz.prog 7 #[.int .i64 most] W fun r w' => r = .returned (.agg #[.pointer (some ⟨c4, 0, none⟩), .pointer (some ⟨m4, 0, none⟩), .pointer (some ⟨k4, 0, none⟩), .pointer (some ⟨v4, 0, none⟩)]) ∧ w'.heap.size = s ∧ K4 w')
  (h5 : ∀ W, n ≤ 200 → K4 W → St 0 ((((W.alloc (.cells #[.pointer (some ⟨c1, 0, none⟩), .pointer (some ⟨m1, 0, none⟩), .pointer (some ⟨k1, 0, none⟩), .pointer (some ⟨v1, 0, none⟩)] 28)).alloc (.cells #[.pointer (some ⟨c2, 0, none⟩), .pointer (some ⟨m2, 0, none⟩), .pointer (some ⟨k2, 0, none⟩), .pointer (some ⟨v2, 0, none⟩)] 35)).alloc (.cells #[.pointer (some ⟨c3, 0, none⟩), .pointer (some ⟨m3, 0, none⟩), .pointer (some ⟨k3, 0, none⟩), .pointer (some ⟨v3, 0, none⟩)] 41)).alloc (.cells #[.pointer (some ⟨c4, 0, none⟩), .pointer (some ⟨m4, 0, none⟩), .pointer (some ⟨k4, 0, none⟩), .pointer (some ⟨v4, 0, none⟩)] 47)))
  (h6 : ∀ i W, St i W → B4 W s c1 m1 k1 v1 c2 m2 k2 v2 c3 m3 k3 v3 c4 m4 k4 v4)
  (h7 : ∀ i W op, St i W → ops[i]? = some op → ∃ g o, a = some ⟨g, o, none⟩ ∧ ∀ q u, (opc op)[q]? = some u → W.cell? ⟨g, o + i * 6 + q, none⟩ = some u)
  (ha : ∀ i W op, St i W → ops[i]? = some op → Calls Tryz.prog 8 #[.agg #[.pointer (some ⟨c1, 0, none⟩), .pointer (some ⟨m1, 0, none⟩), .pointer (some ⟨k1, 0, none⟩), .pointer (some ⟨v1, 0, none⟩)], .int .i64 op.kind, .agg #[.string op.k.1, .int .i64 op.k.2], .string op.k.1, .int .i64 op.stop] (W.alloc (.cells #[.int .i64 op.kind, .bool op.second, .string op.k.1, .int .i64 op.k.2, .int .i64 op.v, .int .i64 op.stop] 50)) fun r w' => r = .returned (.bool true) ∧ B4 w' s c1 m1 k1 v1 c2 m2 k2 v2 c3 m3 k3 v3 c4 m4 k4 v4 ∧ OBx w' W.heap.size op ∧ M1 i W.heap.size op w')
  (hb : ∀ i bx op W, M1 i bx op W → Calls Tryz.prog 9 #[.agg #[.pointer (some ⟨c2, 0, none⟩), .pointer (some ⟨m2, 0, none⟩), .pointer (some ⟨k2, 0, none⟩), .pointer (some ⟨v2, 0, none⟩)], .int .i64 op.kind, .int .i64 op.k.2, .agg #[.string ⟨#[]⟩, .int .i64 op.v], .int .i64 op.stop] W fun r w' => r = .returned (.bool true) ∧ B4 w' s c1 m1 k1 v1 c2 m2 k2 v2 c3 m3 k3 v3 c4 m4 k4 v4 ∧ OBx w' bx op ∧ M2 i bx op w')
  (hg : ∀ i bx op W, M2 i bx op W → Calls Tryz.prog 10 #[.agg #[.pointer (some ⟨c3, 0, none⟩), .pointer (some ⟨m3, 0, none⟩), .pointer (some ⟨k3, 0, none⟩), .pointer (some ⟨v3, 0, none⟩)], .int .i64 op.kind, .agg #[.int .u8 (IntKind.u8.wrap op.k.2), .int .u8 (IntKind.u8.wrap op.k.1.size)], .bool (decide (0 < op.v)), .int .i64 op.stop] W fun r w' => r = .returned (.bool true) ∧ B4 w' s c1 m1 k1 v1 c2 m2 k2 v2 c3 m3 k3 v3 c4 m4 k4 v4 ∧ OBx w' bx op ∧ M3 i bx op w')
  (hd : ∀ i bx op W, M3 i bx op W → Calls Tryz.prog 11 #[.agg #[.pointer (some ⟨c4, 0, none⟩), .pointer (some ⟨m4, 0, none⟩), .pointer (some ⟨k4, 0, none⟩), .pointer (some ⟨v4, 0, none⟩)], .int .i64 op.kind, .bool (decide (3 < op.k.2)), .int .u8 (IntKind.u8.wrap op.v), .int .i64 op.stop] W fun r w' => r = .returned (.bool true) ∧ St (i + 1) w')
  (e1 : ∀ W, St n W → Calls Tryz.prog 12 #[.agg #[.pointer (some ⟨c1, 0, none⟩), .pointer (some ⟨m1, 0, none⟩), .pointer (some ⟨k1, 0, none⟩), .pointer (some ⟨v1, 0, none⟩)], .int .i64 (-1)] W fun r w' => r = .returned (.bool true) ∧ B4 w' s c1 m1 k1 v1 c2 m2 k2 v2 c3 m3 k3 v3 c4 m4 k4 v4 ∧ F1 w')
  (e2 : ∀ W, F1 W → Calls Tryz.prog 13 #[.agg #[.pointer (some ⟨c2, 0, none⟩), .pointer (some ⟨m2, 0, none⟩), .pointer (some ⟨k2, 0, none⟩), .pointer (some ⟨v2, 0, none⟩)], .int .i64 (-1)] W fun r w' => r = .returned (.bool true) ∧ B4 w' s c1 m1 k1 v1 c2 m2 k2 v2 c3 m3 k3 v3 c4 m4 k4 v4 ∧ F2 w')
  (e3 : ∀ W, F2 W → Calls Tryz.prog 14 #[.agg #[.pointer (some ⟨c3, 0, none⟩), .pointer (some ⟨m3, 0, none⟩), .pointer (some ⟨k3, 0, none⟩), .pointer (some ⟨v3, 0, none⟩)], .int .i64 (-1)] W fun r w' => r = .returned (.bool true) ∧ B4 w' s c1 m1 k1 v1 c2 m2 k2 v2 c3 m3 k3 v3 c4 m4 k4 v4 ∧ F3 w')
  (e4 : ∀ W, F3 W → Calls Tryz.prog 15 #[.agg #[.pointer (some ⟨c4, 0, none⟩), .pointer (some ⟨m4, 0, none⟩), .pointer (some ⟨k4, 0, none⟩), .pointer (some ⟨v4, 0, none⟩)], .int .i64 (-1)] W fun r w' => r = .returned (.bool true) ∧ Po (.returned (.bool true)) w') :
  Calls Tryz.prog 3 #[.int .i64 most, .slice a n c] w Po := by
 have H0 := Ja.hidc h0
 have H1 := Ja.hidc h1
 have H2 := Ja.hidc h2
 have H3 := Ja.hidc h3
 have H4 := Ja.hidc h4
 have H5 := Ja.hidc h5
 have H6 := Ja.hidc h6
 have H7 := Ja.hidc h7
 have HA := Ja.hidc ha
 have HB := Ja.hidc hb
 have HG := Ja.hidc hg
 have HD := Ja.hidc hd
 have E1 := Ja.hidc e1
 have E2 := Ja.hidc e2
 have E3 := Ja.hidc e3
 have E4 := Ja.hidc e4
 have HN : Hid (n = ops.length ∧ n ≤ c) := ⟨hn, hc⟩
 clear hn h0 h1 h2 h3 h4 h5 h6 h7 ha hb hg hd e1 e2 e3 e4
 by_cases hlen : 200 < n
 ·
  have hl : (200 : Int) < (n : Int) := by omega
  clear hc
  go_enter Tryz.func3, Tryz.ntmps3
  go_wp2_with fail
  (try go_ret)
  exact H0.out
 ·
  have hl : ¬ (200 : Int) < (n : Int) := by omega
  go_enter Tryz.func3, Tryz.ntmps3
  go_wp2_with fail
  go_must (go_at_call 4)
  refine (H1.out).mono ?_
  rintro r w1 ⟨rfl, hk⟩
  have J1 := Ja.hidc (H2.out _ hk)
  clear hk
  go_wp2_with fail
  go_must (go_at_call 5)
  refine (J1.out).mono ?_
  rintro r w2 ⟨rfl, hk⟩
  have J2 := Ja.hidc (H3.out _ hk)
  clear hk
  go_wp2_with fail
  go_must (go_at_call 6)
  refine (J2.out).mono ?_
  rintro r w3 ⟨rfl, hk⟩
  have J3 := Ja.hidc (H4.out _ hk)
  clear hk
  go_wp2_with fail
  go_must (go_at_call 7)
  refine (J3.out).mono ?_
  rintro r w4 ⟨rfl, hs, hk⟩
  obtain rfl := hs
  have J4 := Ja.hidc (H5.out _ (by omega) hk)
  clear hk
  go_wp2_with fail
  go_loopg [9, 10] n (fun gk s9 s10 wx => ∃ i : Nat, i + gk = n ∧ s9 = .int .i64 i ∧ Hid (St i wx))
  case atStart => exact ⟨0, by omega, rfl, J4.out⟩
  case round =>
   obtain ⟨i, hi, rfl, HH⟩ := hrel
   cases gk with
   | zero =>
    have hz : ¬ (i : Int) < (n : Int) := by omega
    obtain rfl : n = i := by omega
    obtain ⟨x0, x1, x2, x3, x4, x5, x6, x7, x8, x9, x10, x11, x12, x13, x14, x15⟩ := H6.out _ _ HH.out
    have G1 := Ja.hidc (E1.out _ HH.out)
    clear HH J4
    go_wp2_with fail
    go_must (go_at_call 12)
    refine (G1.out).mono ?_
    clear x0 x1 x2 x3 x4 x5 x6 x7 x8 x9 x10 x11 x12 x13 x14 x15
    rintro r y1 ⟨rfl, ⟨x0, x1, x2, x3, x4, x5, x6, x7, x8, x9, x10, x11, x12, x13, x14, x15⟩, hk⟩
    have G2 := Ja.hidc (E2.out _ hk)
    clear hk
    go_wp2_with fail
    go_must (go_at_call 13)
    refine (G2.out).mono ?_
    clear x0 x1 x2 x3 x4 x5 x6 x7 x8 x9 x10 x11 x12 x13 x14 x15
    rintro r y2 ⟨rfl, ⟨x0, x1, x2, x3, x4, x5, x6, x7, x8, x9, x10, x11, x12, x13, x14, x15⟩, hk⟩
    have G3 := Ja.hidc (E3.out _ hk)
    clear hk
    go_wp2_with fail
    go_must (go_at_call 14)
    refine (G3.out).mono ?_
    clear x0 x1 x2 x3 x4 x5 x6 x7 x8 x9 x10 x11 x12 x13 x14 x15
    rintro r y3 ⟨rfl, ⟨x0, x1, x2, x3, x4, x5, x6, x7, x8, x9, x10, x11, x12, x13, x14, x15⟩, hk⟩
    have G4 := Ja.hidc (E4.out _ hk)
    clear hk
    go_wp2_with fail
    go_must (go_at_call 15)
    refine (G4.out).mono ?_
    rintro r y4 ⟨rfl, hk⟩
    have Z := Ja.hidc hk
    clear hk
    go_wp2_with fail
    all_goals (try go_ret)
    all_goals exact Z.out
   | succ gk =>
    have hz : (i : Int) < (n : Int) := by omega
    have hz0 : (0 : Int) ≤ (i : Int) := by omega
    obtain ⟨p, hp⟩ : ∃ p, ops[i]? = some p := ⟨_, List.getElem?_eq_getElem (by have := HN.out; omega)⟩
    obtain ⟨g, o, rfl, hcell⟩ := H7.out _ _ _ HH.out hp
    have d0 : wr.cell? ⟨g, o + i * 6, none⟩ = some (.int .i64 p.kind) := hcell 0 _ rfl
    have d1 := hcell 1 _ rfl
    have d2 := hcell 2 _ rfl
    have d3 := hcell 3 _ rfl
    have d4 := hcell 4 _ rfl
    have d5 := hcell 5 _ rfl
    have G1 := Ja.hidc (HA.out _ _ _ HH.out hp)
    have HB4 := Ja.hidc (H6.out _ _ HH.out)
    clear hcell hp J4 HH
    obtain ⟨kind, sec, ⟨ka, ki⟩, v, st⟩ := p
    have hOB : OBx = OBx := rfl
    simp only at d0 d1 d2 d3 d4 d5 G1
    have hwi : IntKind.i64.wrap ((i : Int) + 1) = (i : Int) + 1 := by rw [IntKind.wrap_i64]; omega
    obtain ⟨x0, x1, x2, x3, x4, x5, x6, x7, x8, x9, x10, x11, x12, x13, x14, x15⟩ := HB4.out.more (.cells #[.int .i64 kind, .bool sec, .string ka, .int .i64 ki, .int .i64 v, .int .i64 st] 50)
    have hb31 : ∀ w', (Instr.build 31 #[(1, .int .i64 v)]).run Tryz.prog w' = .ok (.agg #[.string ⟨#[]⟩, .int .i64 v]) w' := fun w' => run_build w' 31 _ _ (by kernel_rfl)
    clear hOB HB4
    go_wp2_with fail
    go_must (go_at_call 8)
    refine (G1.out).mono ?_
    clear x0 x1 x2 x3 x4 x5 x6 x7 x8 x9 x10 x11 x12 x13 x14 x15 d0 d1 d2 d3 d4 d5
    rintro r y1 ⟨rfl, ⟨x0, x1, x2, x3, x4, x5, x6, x7, x8, x9, x10, x11, x12, x13, x14, x15⟩, ⟨o0, o1, o2, o3, o4, o5⟩, hk⟩
    have G2 := Ja.hidc (HB.out _ _ _ _ hk)
    clear hk
    simp only at o0 o1 o2 o3 o4 o5 G2
    go_wp2_with fail
    go_must (go_at_call 9)
    refine (G2.out).mono ?_
    clear x0 x1 x2 x3 x4 x5 x6 x7 x8 x9 x10 x11 x12 x13 x14 x15 o0 o1 o2 o3 o4 o5
    rintro r y2 ⟨rfl, ⟨x0, x1, x2, x3, x4, x5, x6, x7, x8, x9, x10, x11, x12, x13, x14, x15⟩, ⟨o0, o1, o2, o3, o4, o5⟩, hk⟩
    have G3 := Ja.hidc (HG.out _ _ _ _ hk)
    clear hk
    simp only at o0 o1 o2 o3 o4 o5 G3
    go_wp2_with fail
    go_must (go_at_call 10)
    refine (G3.out).mono ?_
    clear x0 x1 x2 x3 x4 x5 x6 x7 x8 x9 x10 x11 x12 x13 x14 x15 o0 o1 o2 o3 o4 o5
    rintro r y3 ⟨rfl, ⟨x0, x1, x2, x3, x4, x5, x6, x7, x8, x9, x10, x11, x12, x13, x14, x15⟩, ⟨o0, o1, o2, o3, o4, o5⟩, hk⟩
    have G4 := Ja.hidc (HD.out _ _ _ _ hk)
    clear hk
    simp only at o0 o1 o2 o3 o4 o5 G4
    go_wp2_with fail
    go_must (go_at_call 11)
    refine (G4.out).mono ?_
    rintro r y4 ⟨rfl, hk⟩
    have Z := Ja.hidc hk
    clear hk
    go_wp2_with fail
    go_roundg gk
    ·
     exact ⟨i + 1, by omega, by simp, Z.out⟩
    ·
     omega
end Go.Proofs.YtdhinpmjbcohaaaGreat
