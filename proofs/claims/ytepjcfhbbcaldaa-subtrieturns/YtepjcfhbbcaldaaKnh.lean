import Derived.Test.YtepjcfhbbcaldaaKnf
import Derived.Test.YtepjcfhbbcaldaaKma
namespace Go.Proofs.Ytepjcfhbbcaldaa.Li
open Go Go.RowKit
set_option linter.unusedSimpArgs false
set_option linter.unusedVariables false
variable {w0 w w1 : World} {tb m r P : Nat} {T : List Fn} {nf : Int}
theorem ld0 (t1 : TS w1 tb m r 0 0 T) (t2 : ∀ F y z, ¬ HasE T F y z) (t3 : ∀ j, isT tb T j → w.heap.size ≤ j) (t4 : Below w.heap.size w w1) : LdR w w1 tb m r 0 (dE []) :=
  ⟨⟨T, 0, t1, fun F y z => ⟨fun c => (t2 F y z c).elim, fun c => by cases c⟩, t3⟩, t4⟩
theorem nn0 (t1 : TS w1 tb m r 0 0 T) : Calls Try.prog 12 #[ptr tb] w1 fun e w' => e = .returned (.int .i64 1) ∧ w' = w1 := by
  have := nodes_any t1
  have o := t1.one
  have c := t1.cnt
  have p := t1.pos
  rw [show (T.length : Int) = 1 by omega] at this
  exact this
theorem en_lit (w : World) : (w.alloc (.cells #[.string kX, .int .i64 2] 31)).ownsRow 0 31 2 (.slice (some ⟨w.heap.size, 0, none⟩) 1 1) 1 (prow (er [(kX, 2)])) := World.ownsRow_lit w #[.string kX, .int .i64 2] 1 (Nat.zero_le _) (by decide) rfl
set_option maxRecDepth 100000 in
set_option maxHeartbeats 8000000 in
/-- KNOWN: the chapter's example. -/
theorem known_any (w : World) : Calls Try.prog 6 #[] w fun e w' => e = .returned (.bool true) ∧ Below w.heap.size w w' := by
  have NW := hidi (fun w => new_any w)
  have K1 := hidi (fun (w' : World) (tb m r : Nat) (h : LdR w w' tb m r 0 (dE [])) => k1 h)
  have K2 := hidi (fun (w' : World) (tb m r : Nat) (h : LdR w w' tb m r 1 (dE D1)) => k2 h)
  have N2 := hidi (fun (w' : World) (tb m r : Nat) (h : LdR w w' tb m r 2 (dE D2)) => kn2 h)
  have K3 := hidi (fun (w' : World) (tb m r : Nat) (h : LdR w w' tb m r 2 (dE D2)) => k3 h)
  have K4 := hidi (fun (w' : World) (tb m r : Nat) (h : LdR w w' tb m r 3 (dE D3)) => k4 h)
  have F4 := hidi (fun (w' : World) (tb m r : Nat) (h : LdR w w' tb m r 4 (dE D4)) => kf4 h)
  have T4 := hidi (fun (w' wx : World) (tb m r : Nat) (h : LdR w w' tb m r 4 (dE D4)) (hb : Below w'.heap.size w' wx) => (kt_of h (by decide) (by decide +kernel)).below hb)
  have O4 := hidi (fun (w' : World) (tb m r : Nat) (h : KT w w' tb m r D4) => ko4 h)
  have Z4 := hidi (fun (w' : World) (tb m r : Nat) (h : KT w w' tb m r D4) => kz4 h)
  have L4 := hidi (fun (w' : World) (tb m r : Nat) (h : KT w w' tb m r D4) => kl4 h)
  have X4 := hidi (fun (w' : World) (tb m r : Nat) (h : KT w w' tb m r D4) => kd4 h)
  have N5 := hidi (fun (w' : World) (tb m r : Nat) (h : KT w w' tb m r D5) => kn5 h)
  have X5 := hidi (fun (w' : World) (tb m r : Nat) (h : KT w w' tb m r D5) => kd5 h)
  have N6 := hidi (fun (w' : World) (tb m r : Nat) (h : KT w w' tb m r D1) => kn6 h)
  have S6 := hidi (fun (w' : World) (tb m r : Nat) (h : KT w w' tb m r D1) => ks6 h)
  have SE := hidi (fun (w' : World) (v v' : Value) (h : w'.ownsRow 0 31 2 v 1 (prow (er [(kX, 2)]))) (h' : w'.ownsRow 0 31 2 v' 1 (prow (er [(kX, 2)]))) => sameE_any (R := [(kX, 2)]) h h' (by decide))
  have EL := hidi en_lit
  have fl : ∀ (a b : Value) (k : Option Addr) (c : Nat) (w : World), (Instr.field 49 (.agg #[a, .bool false, b, .slice k 1 c]) 3).run Try.prog w = .ok (.slice k 1 c) w := fun a b k c w => by kernel_rfl
  unfold fABC fABD fAB fA kX kY ptr at *
  go_enter Try.func6, Try.ntmps6
  go_wp2_with (first
    | (go_at_call 11; refine (NW.out _).mono ?_; rintro e w1 ⟨tb, m, r, T0, rfl, t1, t2, t3, t4⟩; have S0 := hidi (ld0 t1 t2 t3 t4); have N0 := hidi (nn0 t1); clear t1 t2 t3 t4 NW; unfold ptr at N0)
    | (go_at_call 12; refine N0.out.mono ?_; rintro e w' ⟨rfl, he⟩; obtain rfl := he.symm; clear N0; have C1 := hidi (K1.out _ _ _ _ S0.out); clear S0 K1)
    | (go_at_call 13; refine C1.out.mono ?_; rintro e w2 ⟨rfl, h⟩; have C2 := hidi (K2.out _ _ _ _ h); clear h C1 K2)
    | (go_at_call 13; refine C2.out.mono ?_; rintro e w3 ⟨rfl, h⟩; have M2 := hidi (N2.out _ _ _ _ h); have C3 := hidi (K3.out _ _ _ _ h); clear h C2 K3 N2)
    | (go_at_call 12; refine M2.out.mono ?_; rintro e w' ⟨rfl, he⟩; obtain rfl := he.symm; clear M2)
    | (go_at_call 13; refine C3.out.mono ?_; rintro e w4 ⟨rfl, h⟩; have C4 := hidi (K4.out _ _ _ _ h); clear h C3 K4)
    | (go_at_call 13; refine C4.out.mono ?_; rintro e w5 ⟨rfl, h⟩; have G4 := hidi (F4.out _ _ _ _ h); have H4 := hidi h; clear h C4 F4)
    | (go_at_call 8; refine G4.out.mono ?_; rintro e w6 ⟨v, rfl, ho, hb⟩; obtain ⟨va, vc, rfl⟩ := own_sl ho; have U4 := hidi (T4.out _ _ _ _ _ H4.out hb); have OV := hidi ho; have C5 := hidi (O4.out _ _ _ _ U4.out); clear ho hb G4 T4 H4 O4)
    | (go_at_call 15; refine C5.out.mono ?_; rintro e w7 ⟨v7, rfl, ho, hb⟩; obtain ⟨ua, uc, rfl⟩ := own_sl ho; have V4 := hidi (U4.out.below hb); have OW := hidi (own_below OV.out hb); have C6 := hidi (SE.out _ _ _ ho OW.out); clear ho hb C5 U4 OV)
    | (go_at_call 14; refine C6.out.mono ?_; rintro e w8 ⟨rfl, hb⟩; have U4 := hidi (V4.out.below hb); have OV := hidi (own_below OW.out hb); have C7 := hidi (Z4.out _ _ _ _ U4.out); clear hb C6 V4 OW Z4)
    | (go_at_call 15; refine C7.out.mono ?_; rintro e w9 ⟨za, zc, rfl, hb⟩; have V4 := hidi (U4.out.below hb); have OW := hidi (own_below OV.out hb); have C8 := hidi (L4.out _ _ _ _ V4.out); clear hb C7 U4 OV L4)
    | (go_at_call 16; refine C8.out.mono ?_; rintro e w' ⟨rfl, he⟩; obtain rfl := he.symm; have C9 := hidi (X4.out _ _ _ _ V4.out); clear C8 X4)
    | (go_at_call 17; refine C9.out.mono ?_; rintro e wa ⟨rfl, h, ho⟩; have U5 := hidi h; have OV := hidi (ho _ _ _ OW.out); have M5 := hidi (fun wx hb => N5.out wx _ _ _ (U5.out.below hb)); have SL := hidi (SE.out _ _ _ (own_below OV.out ((Below.refl wa.heap.size wa).alloc (Nat.le_refl _) (.cells #[.string { data := #[120] }, .int .i64 2] 31))) (EL.out wa)); clear h ho C9 V4 OW N5)
    | (go_at_call 14; refine SL.out.mono ?_; rintro e wb ⟨rfl, hb⟩; have bb := ((Below.refl wa.heap.size wa).alloc (Nat.le_refl _) (.cells #[.string { data := #[120] }, .int .i64 2] 31)).trans (hb.mono (by simp)); have V5 := hidi (U5.out.below bb); have M6 := hidi (M5.out wb bb); clear bb hb SL M5 U5 OV)
    | (go_at_call 12; refine M6.out.mono ?_; rintro e w' ⟨rfl, he⟩; obtain rfl := he.symm; clear M6; have Y5 := hidi (X5.out _ _ _ _ V5.out); clear X5 V5)
    | (go_at_call 17; refine Y5.out.mono ?_; rintro e wd ⟨rfl, h, ho⟩; have M7 := hidi (N6.out _ _ _ _ h); have W6 := hidi (S6.out _ _ _ _ h); have BE := hidi h.be; clear h ho Y5 N6 S6)
    | (go_at_call 12; refine M7.out.mono ?_; rintro e w' ⟨rfl, he⟩; obtain rfl := he.symm; clear M7)
    | (go_at_call 18; refine W6.out.mono ?_; rintro e wf ⟨s1, s2, s3, s4, rfl, hb⟩; have BF := hidi (BE.out.trans (hb.mono BE.out.size)); clear hb W6 BE))
  go_ret
  exact ⟨rfl, BF.out⟩
end Go.Proofs.Ytepjcfhbbcaldaa.Li
namespace Go.Proofs.Ytepjcfhbbcaldaa.Li
open Go Go.RowKit
set_option linter.unusedSimpArgs false
set_option linter.unusedVariables false
/-- What the inner loop knows: no later word so far. -/
def LsK (l : List Sb) (i : Nat) (s : Sb) (k : Nat) : Prop := ∀ j s', i < j → j < k → l[j]? = some s' → ¬ (s'.x = s.x ∧ s'.f = s.f ∧ 0 ≤ s'.q ∧ s'.q ≤ 2)
theorem lsk_more {l : List Sb} {i k : Nat} {s u : Sb} (h : LsK l i s k) (hu : l[k]? = some u) (hn : ¬ (u.x = s.x ∧ u.f = s.f ∧ 0 ≤ u.q ∧ u.q ≤ 2)) : LsK l i s (k + 1) := fun j s' h1 h2 h3 => by
  by_cases c : j = k
  · subst c; rw [hu] at h3; cases h3; exact hn
  · exact h j s' h1 (by omega) h3
theorem lsk_not {l : List Sb} {i k : Nat} {s u : Sb} (hu : l[k]? = some u) (hi : i < k) (hn : u.x = s.x ∧ u.f = s.f ∧ 0 ≤ u.q ∧ u.q ≤ 2) : ¬ LsK l i s (k + 1) := fun h => h k u hi (by omega) hu hn
theorem lsk_mono {l : List Sb} {i k : Nat} {s : Sb} (h : ¬ LsK l i s k) : ¬ LsK l i s (k + 1) := fun c => h (fun j s' h1 h2 h3 => c j s' h1 (by omega) h3)
theorem teq_iff {a b : ByteArray} : (a.toList == b.toList) = true ↔ a = b := by
  rw [beq_iff_eq, Lib.toList_data, Lib.toList_data]
  constructor
  · intro h
    cases a with | mk a => cases b with | mk b => simp at h; rw [h]
  · intro h; rw [h]
theorem tne_iff {a b : ByteArray} : (a.toList == b.toList) = false ↔ a ≠ b := by
  rw [← Bool.not_eq_true, teq_iff]
theorem al3 {w w1 : World} {a b c : Value} (h : Below (w.alloc (.cells #[a, b, c] 34)).heap.size (w.alloc (.cells #[a, b, c] 34)) w1) : w.heap.size < w1.heap.size ∧ ∀ wx, Below w1.heap.size w1 wx → wx.cell? ⟨w.heap.size, 0, none⟩ = some a ∧ wx.cell? ⟨w.heap.size, 2, none⟩ = some c := by
  have ha : (w.alloc (.cells #[a, b, c] 34)).heap.size = w.heap.size + 1 := Array.size_push _
  have h1 := h.size
  have hn := heap_alloc_new w (.cells #[a, b, c] 34)
  refine ⟨by omega, fun wx hb => ?_⟩
  have e0 := box_cells hn 0 _ rfl
  have e2 := box_cells hn 2 _ rfl
  constructor
  · rw [hb.cell (by show w.heap.size < _; omega), h.cell (by show w.heap.size < _; omega)]; exact e0
  · rw [hb.cell (by show w.heap.size < _; omega), h.cell (by show w.heap.size < _; omega)]; exact e2
def BI (b : Bool) (p : Prop) : Prop := b = true ↔ p
structure QI (w wx : World) (l : List Sb) (y t : ByteArray) (k : Nat) (q : Int) : Prop where
  be : Below w.heap.size w wx
  mx : Mx (LwK l y t k) q
set_option maxRecDepth 100000 in
set_option maxHeartbeats 8000000 in
theorem quality_any {w : World} {v : Value} {l : List Sb} (h : SbAt w v l) (hl : l.length ≤ 1000) (y t : ByteArray) :
    Calls Try.prog 9 #[v, .string y, .string t] w fun e w' => ∃ q, e = .returned (.int .i64 q) ∧ Mx (LwK l y t l.length) q ∧ Below w.heap.size w w' := by
  obtain ⟨a, n, cap, rfl, hn, hc, hrow⟩ := h.ex
  have HN := hidi (show n = l.length ∧ n ≤ cap ∧ l.length ≤ 1000 from ⟨hn, hc, hl⟩)
  have HR := hidi hrow
  have TM := hidi (fun (f : ByteArray) w => tmatch_any f t w)
  clear h hn hc hl hrow
  go_enter Try.func9, Try.ntmps9
  go_wp2_with fail
  go_loopg [7, 8] n (fun gg s7 s8 wx => ∃ k : Nat, ∃ q : Int, k ≤ n ∧ gg = n - k ∧ s7 = .int .i64 q ∧ s8 = .int .i64 k ∧ Hid (QI w wx l y t k q))
  case atStart => exact ⟨0, -1, Nat.zero_le _, rfl, rfl, rfl, ⟨Below.refl _ _, .inl ⟨rfl, fun z c => by obtain ⟨i, s, c, _⟩ := c; omega⟩⟩⟩
  case round =>
    obtain ⟨k, q, hk, rfl, rfl, rfl, Z⟩ := hrel
    by_cases hlt : k < n
    · have hlt' : (k : Int) < n := by omega
      obtain ⟨s, hs⟩ : ∃ s, l[k]? = some s := ⟨_, List.getElem?_eq_getElem (by have := HN.out.1; omega)⟩
      obtain ⟨g, o, rfl, hg, hcells⟩ := HR.out (fun e => by subst e; simp at hs)
      have HG := hidi hg
      have HC := hidi hcells
      obtain ⟨z1, z2, z3⟩ := hcells k s hs
      have y1 : wr.cell? ⟨g, o + k * 3, none⟩ = some (.string s.f) := by rw [Z.out.be.cell (by exact hg)]; exact z1
      have y2 : wr.cell? ⟨g, o + k * 3 + 1, none⟩ = some (.string s.x) := by rw [Z.out.be.cell (by exact hg)]; exact z2
      have y3 : wr.cell? ⟨g, o + k * 3 + 2, none⟩ = some (.int .i64 s.q) := by rw [Z.out.be.cell (by exact hg)]; exact z3
      have hw : IntKind.i64.wrap ((k : Int) + 1) = (k : Int) + 1 := by rw [IntKind.wrap_i64]; have := HN.out; omega
      have HS := hidi hs
      clear z1 z2 z3 hcells hg hs
      have BA := hidi (Z.out.be.alloc Z.out.be.size (.cells #[Value.string s.f, Value.string s.x, Value.int IntKind.i64 s.q] 34))
      cases e1 : (s.x.toList == y.toList) with
      | false =>
        have E1 := hidi e1
        go_wp2_with fail
        go_roundg (n - (k + 1))
        case measure => omega
        case rel => exact ⟨k + 1, q, by omega, rfl, rfl, rfl, BA.out, Z.out.mx.congr (lwk_skip HS.out (fun c => tne_iff.1 E1.out c.1))⟩
      | true =>
        have E1 := hidi e1
        by_cases q0 : s.q < 0
        · go_wp2_with fail
          go_roundg (n - (k + 1))
          case measure => omega
          case rel => exact ⟨k + 1, q, by omega, rfl, rfl, rfl, BA.out, Z.out.mx.congr (lwk_skip HS.out (fun c => by have := c.2.1; omega))⟩
        · by_cases q2 : s.q > 2
          · have q2' : 2 < s.q := q2
            go_wp2_with fail
            go_roundg (n - (k + 1))
            case measure => omega
            case rel => exact ⟨k + 1, q, by omega, rfl, rfl, rfl, BA.out, Z.out.mx.congr (lwk_skip HS.out (fun c => by have := c.2.2.1; omega))⟩
          · have q2' : ¬ 2 < s.q := q2
            have Q := hidi (show 0 ≤ s.q ∧ s.q ≤ 2 from ⟨by omega, by omega⟩)
            obtain ⟨mm, hmm⟩ : ∃ mm, mm = mch s.f t := ⟨_, rfl⟩
            have HM := hidi hmm
            have TT := hidi (fun w => TM.out s.f w)
            rw [← hmm] at TT
            clear hmm TM
            go_upto_region 7 with (go_at_call 22; refine (TT.out _).mono ?_; rintro e w1 ⟨rfl, b1⟩; have B1 : Hid (Below w.heap.size w w1 ∧ Below (wr.alloc (.cells #[Value.string s.f, Value.string s.x, Value.int IntKind.i64 s.q] 34)).heap.size (wr.alloc (.cells #[Value.string s.f, Value.string s.x, Value.int IntKind.i64 s.q] 34)) w1) := ⟨BA.out.trans (b1.mono BA.out.size), b1⟩; clear b1; cases mm)
            · go_wp2_with fail
              go_roundg (n - (k + 1))
              case measure => omega
              case rel => exact ⟨k + 1, q, by omega, rfl, rfl, rfl, B1.out.1, Z.out.mx.congr (lwk_skip HS.out (fun c => by have h1 := HM.out; rw [c.2.2.2.1] at h1; cases h1))⟩
            · have AL := hidi (al3 B1.out.2)
              have HL : Hid (LsK l k s n → Last l k s) := fun c i s' h1 h2 => c i s' h1 (by rw [HN.out.1]; exact (List.getElem?_eq_some_iff.1 h2).1) h2
              have HK : Hid (Last l k s → LsK l k s n) := fun c i s' h1 h2 h3 => c i s' h1 h3
              clear y1 y2 y3
              go_wp2_with fail
              go_loopg [10, 11] (n - (k + 1)) (fun gg s10 s11 wx => ∃ j : Nat, ∃ b : Bool, k < j ∧ j ≤ n ∧ gg = n - j ∧ s10 = .bool b ∧ s11 = .int .i64 j ∧ Hid (Below w1.heap.size w1 wx ∧ BI b (LsK l k s j)))
              case atStart => exact ⟨k + 1, true, by omega, by omega, rfl, rfl, by simp, Below.refl _ _, ⟨fun _ j s' h1 h2 => by omega, fun _ => rfl⟩⟩
              case round =>
                obtain ⟨j, b, hj1, hj2, rfl, rfl, rfl, Y⟩ := hrel
                obtain ⟨d0, d2⟩ := AL.out.2 _ Y.out.1
                have BW := hidi (B1.out.1.trans (Y.out.1.mono B1.out.1.size))
                by_cases lt : j < n
                · have lt' : (j : Int) < n := by omega
                  obtain ⟨u, hu⟩ : ∃ u, l[j]? = some u := ⟨_, List.getElem?_eq_getElem (by have := HN.out.1; omega)⟩
                  obtain ⟨z1, z2, z3⟩ := HC.out j u hu
                  have y1 : wr.cell? ⟨g, o + j * 3, none⟩ = some (.string u.f) := by rw [BW.out.cell (by exact HG.out)]; exact z1
                  have y2 : wr.cell? ⟨g, o + j * 3 + 1, none⟩ = some (.string u.x) := by rw [BW.out.cell (by exact HG.out)]; exact z2
                  have y3 : wr.cell? ⟨g, o + j * 3 + 2, none⟩ = some (.int .i64 u.q) := by rw [BW.out.cell (by exact HG.out)]; exact z3
                  have hwj : IntKind.i64.wrap ((j : Int) + 1) = (j : Int) + 1 := by rw [IntKind.wrap_i64]; have := HN.out; omega
                  have HU := hidi hu
                  clear z1 z2 z3 hu
                  cases b with
                  | false =>
                    go_wp2_with fail
                    go_quiet (fail)
                    go_wp2_with fail
                    go_roundg (n - (j + 1))
                    case measure => omega
                    case rel => exact ⟨j + 1, false, by omega, by omega, rfl, rfl, by simp, below_drewN Y.out.1, ⟨fun c => (by cases c), fun c => absurd c (lsk_mono (fun d => by cases Y.out.2.2 d))⟩⟩
                  | true =>
                    cases f1 : (u.x.toList == y.toList) with
                    | false =>
                      have F1 := hidi f1
                      go_wp2_with fail
                      go_quiet (fail)
                      go_wp2_with fail
                      go_roundg (n - (j + 1))
                      case measure => omega
                      case rel => exact ⟨j + 1, true, by omega, by omega, rfl, rfl, by simp, below_drewN Y.out.1, ⟨fun _ => lsk_more (Y.out.2.1 rfl) HU.out (fun c => tne_iff.1 F1.out (c.1.trans (teq_iff.1 E1.out))), fun _ => rfl⟩⟩
                    | true =>
                      have F1 := hidi f1
                      cases f2 : (u.f.toList == s.f.toList) with
                      | false =>
                        have F2 := hidi f2
                        go_wp2_with fail
                        go_quiet (fail)
                        go_wp2_with fail
                        go_roundg (n - (j + 1))
                        case measure => omega
                        case rel => exact ⟨j + 1, true, by omega, by omega, rfl, rfl, by simp, below_drewN Y.out.1, ⟨fun _ => lsk_more (Y.out.2.1 rfl) HU.out (fun c => tne_iff.1 F2.out c.2.1), fun _ => rfl⟩⟩
                      | true =>
                        have F2 := hidi f2
                        by_cases r0 : 0 ≤ u.q
                        · have r0' : u.q ≥ 0 := r0
                          by_cases r2 : u.q ≤ 2
                          · have R := hidi (show 0 ≤ u.q ∧ u.q ≤ 2 from ⟨r0, r2⟩)
                            go_wp2_with fail
                            go_quiet (fail)
                            go_wp2_with fail
                            go_roundg (n - (j + 1))
                            case measure => omega
                            case rel => exact ⟨j + 1, false, by omega, by omega, rfl, rfl, by simp, below_drewN Y.out.1, ⟨fun c => (by cases c), fun c => absurd c (lsk_not HU.out hj1 ⟨(teq_iff.1 F1.out).trans (teq_iff.1 E1.out).symm, teq_iff.1 F2.out, R.out⟩)⟩⟩
                          · have R := hidi r2
                            go_wp2_with fail
                            have r3 : ¬ u.q ≤ 2 := by have := R.out; omega
                            go_quiet (fail)
                            go_wp2_with fail
                            go_roundg (n - (j + 1))
                            case measure => omega
                            case rel => exact ⟨j + 1, true, by omega, by omega, rfl, (by first | rfl | (have := R.out; simp; omega)), by simp, below_drewN Y.out.1, ⟨fun _ => lsk_more (Y.out.2.1 rfl) HU.out (fun c => by have := R.out; have := c.2.2.2; omega), fun _ => rfl⟩⟩
                        · have R := hidi r0
                          go_wp2_with fail
                          have r3 : ¬ u.q ≥ 0 := by have := R.out; omega
                          have r4 : ¬ 0 ≤ u.q := r3
                          go_quiet (fail)
                          go_wp2_with fail
                          go_roundg (n - (j + 1))
                          case measure => omega
                          case rel => exact ⟨j + 1, true, by omega, by omega, rfl, rfl, by simp, below_drewN Y.out.1, ⟨fun _ => lsk_more (Y.out.2.1 rfl) HU.out (fun c => by have := R.out; have := c.2.2.1; omega), fun _ => rfl⟩⟩
                · have lt' : ¬ (j : Int) < n := by omega
                  obtain rfl : j = n := by omega
                  cases b with
                  | false =>
                    go_wp2_with fail
                    go_roundg (j - (k + 1))
                    case measure => omega
                    case rel => exact ⟨k + 1, q, by omega, rfl, rfl, rfl, BW.out, Z.out.mx.congr (lwk_skip HS.out (fun c => by cases Y.out.2.2 (HK.out c.2.2.2.2)))⟩
                  | true =>
                    go_wp2_with fail
                    go_roundg (j - (k + 1))
                    case measure => omega
                    case rel => exact ⟨k + 1, max q s.q, by omega, rfl, rfl, rfl, BW.out, Z.out.mx.add Q.out.1 Q.out.2 (lwk_add HS.out ⟨teq_iff.1 E1.out, Q.out.1, Q.out.2, HM.out.symm, HL.out (Y.out.2.1 rfl)⟩)⟩
    · have hlt' : ¬ (k : Int) < n := by omega
      obtain rfl : k = n := by omega
      go_wp2_with fail
      go_ret
      have := Z.out
      refine ⟨q, rfl, ?_, this.be⟩
      rw [← HN.out.1]
      exact this.mx
end Go.Proofs.Ytepjcfhbbcaldaa.Li
namespace Go.Proofs.Ytepjcfhbbcaldaa.Li
open Go Go.RowKit
set_option linter.unusedSimpArgs false
set_option linter.unusedVariables false
theorem SbAt.below {w w' : World} {v : Value} {l : List Sb} (h : SbAt w v l) (hb : Below w.heap.size w w') : SbAt w' v l := by
  obtain ⟨a, n, cap, rfl, hn, hc, hrow⟩ := h.ex
  refine ⟨a, n, cap, rfl, hn, hc, fun hne => ?_⟩
  obtain ⟨g, o, e, hg, hcl⟩ := hrow hne
  refine ⟨g, o, e, by have := hb.size; omega, fun k s hs => ?_⟩
  obtain ⟨x1, x2, x3⟩ := hcl k s hs
  exact ⟨by rw [hb.cell (by exact hg)]; exact x1, by rw [hb.cell (by exact hg)]; exact x2, by rw [hb.cell (by exact hg)]; exact x3⟩
/-- What the law knows of what was found. -/
structure Fq (l : List Sb) (t : ByteArray) (g : ByteArray → Option Int) (L : List ByteArray) : Prop where
  ord : L.Pairwise fun a b => unB a < unB b
  mem : ∀ y, y ∈ L ↔ (okT y ∧ (g y).isSome = true)
  q : ∀ y q, okT y → Mx (LwK l y t l.length) q → (g y = none ∧ q = -1) ∨ (g y = some q ∧ 0 ≤ q)
theorem Fq.in_ {l : List Sb} {t : ByteArray} {g : ByteArray → Option Int} {L : List ByteArray} (h : Fq l t g L) {y : ByteArray} (hy : y ∈ L) {q : Int} (hq : Mx (LwK l y t l.length) q) : (g y).getD 0 = q := by
  obtain ⟨oy, s⟩ := (h.mem y).1 hy
  rcases h.q y q oy hq with ⟨e, _⟩ | ⟨e, _⟩
  · rw [e] at s; cases s
  · rw [e]; rfl
theorem Fq.is {l : List Sb} {t : ByteArray} {g : ByteArray → Option Int} {L : List ByteArray} (h : Fq l t g L) {y : ByteArray} (oy : okT y) {q : Int} (hq : Mx (LwK l y t l.length) q) : y ∈ L ↔ 0 ≤ q := by
  rw [h.mem y]
  rcases h.q y q oy hq with ⟨e, q1⟩ | ⟨e, q1⟩
  · rw [e, q1]; simp
  · rw [e]; simp [oy, q1]
theorem fq_of {w w1 w2 : World} {tb m r : Nat} {l : List Sb} {t : ByteArray} (hl : l.length ≤ 60) (hx : ∀ s ∈ l, s.x.size ≤ 1000000) (ld : LdR w w1 tb m r l.length (hold l)) (hb : Below w1.heap.size w1 w2) :
    Calls Try.prog 8 #[ptr tb, .string t] w2 fun e w' => ∃ v g L, e = .returned v ∧ w'.ownsRow 0 31 2 v L.length (prow (eL g L)) ∧ Fq l t g L ∧ L.length ≤ 60 ∧ Below w2.heap.size w2 w' := by
  obtain ⟨⟨T, nf, ts, hE, is⟩, be⟩ := ld
  have ts2 := ts.below hb
  have gc := gc_of ts2 hE (by omega) hx
  refine (Find_any ts2.tm gc t).mono ?_
  rintro e w' ⟨v, rfl, g, n, L, fr⟩
  have fd := fd_lw (T := T) hE t
  refine ⟨v, g, L, rfl, own0 fr.row, ⟨fr.ks.ord, fun y => (fr.ks.mem y).trans (and_congr Iff.rfl (by rw [Option.isSome_map])), fun y q oy hq => mx_best hq (fr.bs y oy) (fun z => fd y z)⟩, ?_, fr.be⟩
  have sub : ∀ y ∈ L, y ∈ l.map (·.x) := fun y hy => by
    obtain ⟨oy, s⟩ := (fr.ks.mem y).1 hy
    have b := fr.bs y oy
    cases e : g y with
    | none => rw [e] at s; cases s
    | some z =>
      rw [e] at b
      obtain ⟨i, s', _, h1, h2, _⟩ := (fd y z).1 b.1
      exact List.mem_map.2 ⟨s', List.mem_of_getElem? h1, h2⟩
  have nd : L.Nodup := fr.ks.ord.imp (fun {a b} h e => by rw [e] at h; exact List.lt_irrefl _ h)
  have := nodup_le L _ nd sub
  rw [List.length_map] at this
  omega
end Go.Proofs.Ytepjcfhbbcaldaa.Li
