import Derived.Test.YtmfbkfgggdkfmaaGreatDoorCqc
import Derived.Test.YtmfbkfgggdkfmaaGreatDoorCnh
import Derived.Test.YtmfbkfgggdkfmaaGreatDoorCnc
import Derived.Shelf.Small.Utf8
import Derived.Shelf.Small.Strs
import Derived.Shelf.Utf8.RuneCount
import Derived.Shelf.Strings.Search1
import Derived.Shelf.Strings.Search2
import Derived.Shelf.Strings.Search3
import Derived.Shelf.Strings.Count
import Derived.Shelf.LaysM
import Derived.Shelf.Strings.Shaped
import Derived.Shelf.Strings.Prefix
import Derived.Shelf.Strings.Split
import Derived.Shelf.Strings.Runes
import Derived.Shelf.Strings.RuneCount
import Derived.Shelf.Strings.IndexAny
import Derived.Shelf.Strings.AsciiSet
import Derived.Shelf.Strings.IndexAnyAll
import Derived.Test.YtmfbkfgggdkfmaaGreatDoorProg
namespace Go.Proofs.YtmfbkfgggdkfmaaGreatDoor.Co
open Go Go.RowKit
open Pkt (Pk Cn Sl In By Is Ss As pkCells Gd KindsAt Small)
set_option linter.unusedSimpArgs false
set_option linter.unusedVariables false
/-! ### One of a row of Inputs -/
theorem irow_at : ∀ (L : List (Itm × Pk)) (j i : Nat) (x : Itm × Pk), L[j]? = some x → i < 28 → (irow L)[j * 28 + i]? = (iC x).toList[i]?
  | [], j, i, x, h, _ => by simp at h
  | y :: L, 0, i, x, h, hi => by
    simp at h; subst h
    show ((iC y).toList ++ irow L)[0 * 28 + i]? = _
    rw [Nat.zero_mul, Nat.zero_add]
    exact List.getElem?_append_left (show i < 28 from hi)
  | y :: L, j + 1, i, x, h, hi => by
    show ((iC y).toList ++ irow L)[(j + 1) * 28 + i]? = _
    have hs : (iC y).toList.length = 28 := rfl
    rw [List.getElem?_append_right (by rw [hs]; omega), hs, show (j + 1) * 28 + i - 28 = j * 28 + i by omega]
    exact irow_at L j i x (by simpa using h) hi
theorem inr_at {w : World} {B : Nat} {v : Value} {L : List (Itm × Pk)} {j : Nat} {x : Itm × Pk} (h : w.ownsRow B 41 28 v L.length (irow L)) (hj : L[j]? = some x) : ∃ g cap, v = .slice (some ⟨g, 0, none⟩) L.length cap ∧ L.length ≤ cap ∧ g < w.heap.size ∧ w.rangeAt g (j * 28) (iC x).toList := by
  have hjl : j < L.length := (List.getElem?_eq_some_iff.1 hj).1
  rcases h.2 with ⟨_, h0⟩ | ⟨g, cap, cur, rfl, _, hg, hnc, _, hcs, ht⟩
  · omega
  · refine ⟨g, cap, rfl, hnc, (Array.getElem?_eq_some_iff.1 hg).1, fun i u hu => ?_⟩
    have hi : i < 28 := (List.getElem?_eq_some_iff.1 hu).1
    have h1 := irow_at L j i x hj hi
    rw [hu, ← ht, List.getElem?_take_of_lt (by have : j * 28 + 28 ≤ L.length * 28 := by omega
                                               omega)] at h1
    rw [cell_of_row w g (j * 28 + i) cur 41 (0, 0) hg]
    simpa using h1
theorem range_below {w w' : World} {g off : Nat} {xs : List Value} (h : w.rangeAt g off xs) (hb : Below w.heap.size w w') (hg : g < w.heap.size) : w'.rangeAt g off xs := fun i u hu => (hb.cell (p := ⟨g, off + i, none⟩) hg).trans (h i u hu)
theorem yields_mid41 {o : Oper} {a : Act} {x : Operand} {g off : Nat} {cs : Array Value} {w : World} (ho : o.op = .load 41 x) (hx : a.eval x = .pointer (some ⟨g, off, none⟩)) (hg : w.rangeAt g off cs.toList) (hs : cs.size = 28) :
    (execOp a.eval o).run Tryz.prog w = .ok (.value (.agg cs)) w := by
  have hl : (loadVar 41 ⟨g, off, none⟩).run Tryz.prog w = .ok (.agg cs.toList.toArray) w := run_loadVar_mid w g off 41 cs.toList _ hg Tryz.underlying41 rfl (by rw [Array.length_toList, hs]; kernel_rfl)
  rw [Array.toArray_toList] at hl
  unfold execOp
  simp only [ho, hx, Instr.loadAt, Instr.sureAddr, Sem.run_bind, Sem.run_pure, Result.andThen_ok, hl]
theorem wpList_mid41 {ops : Array Oper} {Q : Exit → Act → World → Prop} {a : Act} {w : World} {o : Oper} {rest : List Oper} (hw : Region.wanted o (yielded ops a.tmps) = true) (x : Operand) (ho : o.op = .load 41 x) (g off : Nat)
    (hx : a.eval x = .pointer (some ⟨g, off, none⟩)) (cs : Array Value) (hg : w.rangeAt g off cs.toList) (hs : cs.size = 28) (h : wpList Tryz.prog ops Q rest (a.put o.dst (.agg cs)) w) : wpList Tryz.prog ops Q (o :: rest) a w :=
  wpList_step fun K hK => by
    rw [if_pos hw]
    unfold Oper.wp
    rw [yields_mid41 ho hx hg hs]
    exact hK _ _ h
/-! ### Over, and the copy -/
theorem cm_over {w W : World} {cb fb : Nat} {most : Int} {Z : Nat → Int} {N : Nat} {s : Cst} {rf : Option Nat} (h : CM w W cb fb most Z N s rf) : Calls Tryz.prog 11 #[.pointer (some ⟨cb, 0, none⟩)] W fun e w' => e = .returned (.bool s.ov) ∧ w' = W := by
  unfold CM at h
  by_cases q : s.ov = true
  · rw [if_pos q] at h
    obtain ⟨⟨⟨fp, si, bd, hc⟩, _, _⟩, _⟩ := h
    rw [q]
    exact over_any hc
  · rw [if_neg q] at h
    obtain ⟨⟨si, bd, hk⟩, -⟩ := h
    have e : s.ov = (s.st == 2) := by
      rw [show s.ov = false by simpa using q]
      rcases hk.s01 with z | z <;> rw [z] <;> rfl
    rw [e]
    exact over_any hk.lv.cn
theorem own_by {w : World} {B n : Nat} {v : Value} {z : Nat → Int} (h : w.ownsRow B 5 1 v n (cellsOf z n)) (hz : ∀ i, 0 ≤ z i ∧ z i ≤ 255) : ∃ l : Sl, v = .slice l.a l.n l.c ∧ l.n = n ∧ By w l z := by
  rcases h.2 with ⟨rfl, h0⟩ | ⟨g, cap, cur, rfl, _, hg, hnc, _⟩
  · exact ⟨⟨none, 0, 0⟩, rfl, h0.symm, Nat.le_refl _, hz, .inl rfl⟩
  · refine ⟨⟨some ⟨g, 0, none⟩, n, cap⟩, rfl, rfl, hnc, hz, .inr ⟨g, 0, rfl, fun i hi => ?_⟩⟩
    have hi' : i < n := hi
    have := h.cells (g := g) rfl i (.int .u8 (z i)) (by simp [cellsOf, hi'])
    simpa [addr_at] using this
theorem CM.start {w W : World} {cb fb : Nat} {most bd : Int} {rf : Option Nat} {Z : Nat → Int} {N : Nat} (h : KL w W cb fb most 0 0 bd rf 0 Z (0 + N)) : CM w W cb fb most Z N ⟨0, 0, false, []⟩ rf := by
  unfold CM
  rw [if_neg (by simp)]
  refine ⟨⟨0, bd, ?_⟩, Nat.zero_le _⟩
  rw [sh_zero, Nat.sub_zero]
  rw [Nat.zero_add] at h
  exact h
/-! ### What the law asks of each -/
theorem at_fst {s0 s : Cst} {L : List (Itm × Pk)} (h0 : s0.L = []) (h : s0.L ++ L.map Prod.fst = s.L) {j : Nat} {x : Itm × Pk} (hj : L[j]? = some x) : ∃ hl : j < s.L.length, s.L[j] = x.1 := by
  have hjl : j < L.length := (List.getElem?_eq_some_iff.1 hj).1
  rw [h0, List.nil_append] at h
  have h1 : (L.map Prod.fst)[j]? = some x.1 := by rw [List.getElem?_map, hj]; rfl
  rw [h] at h1
  exact List.getElem?_eq_some_iff.1 h1
/-- What holds of one that was told. -/
theorem ord_at {D : Nat → DecR} {s0 s : Cst} {L : List (Itm × Pk)} (hr : CRn D s) (h0 : s0.L = []) (h : s0.L ++ L.map Prod.fst = s.L) {j : Nat} {x : Itm × Pk} (hj : L[j]? = some x) (ha : Alike x.2 x.1.p) :
    ((x.1.a.1 ≠ 1 ∨ x.2.kind = 14) → s.ov = true ∧ j + 1 = L.length) ∧ (1 ≤ x.1.a.1 ∧ x.1.a.1 ≤ 3) ∧ (x.1.a.1 = 1 → (j = 0 ↔ x.2.kind = 1)) ∧ (x.1.a.1 = 2 → j = 0 ∧ x.1.a.2.1 = 1) ∧ (x.2.kind ≠ 2 ∧ x.2.kind ≠ 9 ∧ x.2.kind ≠ 11 ∧ x.2.kind ≠ 13) := by
  have O := hr.ord
  obtain ⟨hl, e⟩ := at_fst h0 h hj
  have hn : s.L.length = L.length := by rw [← h, h0]; simp
  have hk : x.2.kind = x.1.p.kind := by obtain ⟨_, _, _, _, _, _, q, _⟩ := ha; rw [q]
  rw [hk, ← e]
  refine ⟨fun q => ?_, O.r3 j hl, O.fst j hl, O.ref j hl, O.knd j hl⟩
  have := O.on j hl q
  exact ⟨this.1, by omega⟩
end Go.Proofs.YtmfbkfgggdkfmaaGreatDoor.Co
namespace Go.Proofs.YtmfbkfgggdkfmaaGreatDoor.Co
open Go Go.RowKit
open Pkt (Pk Cn Sl In By Is Ss As pkCells Gd KindsAt Small)
set_option linter.unusedSimpArgs false
set_option linter.unusedVariables false
/-! ### ConnOrder -/
theorem below_gn {w w' : World} (h : w.grownBy w' none) : Below w.heap.size w w' := ⟨h.os, h.tape, h.output, h.size, fun k hk => h.block k hk (by intro e; cases e)⟩
set_option maxRecDepth 100000 in
set_option maxHeartbeats 4000000 in
theorem order_any (most : Int) (l : Sl) (zb : Nat → Int) (w : World) (hl : By w l zb) (hg : Gw w) (hm : l.n ≤ 9223372036854775807) : Calls Tryz.prog 4 #[.int .i64 most, .slice l.a l.n l.c] w fun e w' => e = .returned (.bool true) ∧ Below w.heap.size w w' := by
  obtain ⟨la, ln, lc⟩ := l
  have HL := hidi hl
  have G := hidi hg
  have KN := hidi (cknown_any w hg)
  have HLb : ∀ W, Below w.heap.size w W → By W ⟨la, ln, lc⟩ zb := fun W hb => Pkt.By.below hl hb
  simp only at hm
  clear hl hg
  by_cases h1 : 65536 < ln
  · have e1 : decide ((65536 : Int) < (ln : Int)) = true := decide_eq_true (by omega)
    have e1' : (65536 : Int) < (ln : Int) := by omega
    go_enter Tryz.func4, Tryz.ntmps4
    go_wp2_with (first | (go_at_call 6; refine KN.out.mono ?_; clear KN; rintro e w1 ⟨rfl, hb1⟩; have HB1 := hidi hb1; clear hb1))
    go_ret
    exact ⟨rfl, HB1.out⟩
  have e1 : decide ((65536 : Int) < (ln : Int)) = false := decide_eq_false (by omega)
  have e1' : ¬ (65536 : Int) < (ln : Int) := by omega
  have HN := hidi (show ln ≤ 65536 by omega)
  have hw0 : IntKind.i64.wrap ((ln : Int) + 1) = (ln : Int) + 1 := by rw [IntKind.wrap_i64]; omega
  clear hm
  go_enter Tryz.func4, Tryz.ntmps4
  go_wp2_with (first
    | (go_at_call 6; refine KN.out.mono ?_; clear KN; rintro e w1 ⟨rfl, hb1⟩; have HB1 := hidi hb1; clear hb1)
    | (go_at_call 7; refine (kl_new most 0 zb G.out HB1.out).mono ?_; rintro e W1 ⟨rfl, k1, b1⟩; have K1 := hidi k1; have BW1 := hidi b1; clear k1 b1)
    | (refine wpList_push_any rfl _ _ rfl W1.heap.size 0 (.slice none 0 0) [] rfl (World.ownsRow_nil _ _ _ _) ⟨la, ln, lc⟩ zb rfl (HLb W1 K1.out.bel) (Nat.zero_le _) (by have := HN.out; show ln ≤ 400000; omega) (Nat.le_refl _) ?_; rintro v2 W2 ho2 hg2 -)
    )
  obtain ⟨cb, hcb⟩ : ∃ cb, cb = w1.heap.size + 1 := ⟨_, rfl⟩
  obtain ⟨fb, hfb⟩ : ∃ fb, fb = w1.heap.size := ⟨_, rfl⟩
  rw [← hcb, show KL w W1 cb w1.heap.size = KL w W1 cb fb by rw [hfb]] at K1
  rw [← hcb]
  rw [Nat.zero_add, List.nil_append] at ho2
  obtain ⟨l2, rfl, hn2, hb2⟩ := own_by ho2 HL.out.2.1
  have K2 := hidi (K1.out.below (below_gn hg2))
  have HB2 := hidi (And.intro hn2 hb2)
  clear hcb hfb HB1 BW1 K1 ho2 hg2 hn2 hb2 HLb e1 e1'
  refine (kl_push K2.out l2 zb zb HB2.out.2 (by decide) (by rw [HB2.out.1]; have := HN.out; omega) (by intro i hi; omega) (fun i _ => by rw [Nat.zero_add])).mono ?_
  rintro e W3 ⟨rfl, rf3, k3, -, -⟩
  rw [HB2.out.1] at k3
  have K3 := hidi (CM.start k3)
  clear k3 K2 HB2
  have AL := hidi (all_any (T := ln) K3.out HL.out.2.1 (Nat.le_refl _) (by have := HN.out; omega) (CRn.zero _) (Nat.zero_le _))
  clear K3
  go_wp2_with fail
  go_must (go_at_call 9)
  refine AL.out.mono ?_
  rintro e W4 ⟨v, s4, rf4, LQ, rfl, -, al⟩
  have A4 := hidi al
  clear al AL
  obtain ⟨va, vc, hv⟩ : ∃ a c, v = .slice a LQ.length c := by
    rcases A4.out.inr.row.2 with ⟨q1, q2⟩ | ⟨g, cap, cur, q1, _⟩
    · exact ⟨none, 0, by rw [q1, q2]⟩
    · exact ⟨_, _, q1⟩
  obtain ⟨n, hn⟩ : ∃ n, n = LQ.length := ⟨_, rfl⟩
  rw [← hn] at hv
  subst hv
  have HNL := hidi (And.intro hn (show n ≤ 65537 by
    have h1 := A4.out.cnt
    have h2 := A4.out.pl
    have h3 := HN.out
    split at h1 <;> omega))
  clear hn hw0
  go_wp2_with fail
  go_loopg [8, 9, 10] n (fun gk s8 s9 s10 wx => ∃ i : Nat, i + gk = n ∧ s8 = .int .i64 i ∧ Hid (Below W4.heap.size W4 wx))
  case atStart => exact ⟨0, by omega, rfl, Below.refl _ _⟩
  case round =>
    obtain ⟨i, hi, rfl, BX⟩ := hrel
    by_cases hin : i < n
    · have hlt : (i : Int) < (n : Int) := by omega
      have hge : (0 : Int) ≤ (i : Int) := by omega
      have hw1 : IntKind.i64.wrap ((i : Int) + 1) = (i : Int) + 1 := by rw [IntKind.wrap_i64]; have := HNL.out.2; omega
      have hw2 : IntKind.i64.wrap ((n : Int) - 1) = (n : Int) - 1 := by rw [IntKind.wrap_i64]; have := HNL.out.2; omega
      obtain ⟨x, hx⟩ : ∃ x, LQ[i]? = some x := ⟨LQ[i]'(by rw [← HNL.out.1]; exact hin), List.getElem?_eq_getElem _⟩
      obtain ⟨g, cap, hve, hcap, hgs, hrg⟩ := inr_at A4.out.inr.row hx
      rw [← HNL.out.1] at hve
      simp only [Value.slice.injEq, true_and] at hve
      obtain ⟨rfl, rfl⟩ := hve
      rw [← HNL.out.1] at hcap
      have RG := hidi (range_below hrg BX.out hgs)
      have O := ord_at A4.out.rn rfl A4.out.eq hx (A4.out.inr.its x (List.mem_of_getElem? hx)).1
      rw [← HNL.out.1] at O
      obtain ⟨⟨⟨A, C, E⟩, p, c⟩, q⟩ := x
      simp only at O
      have OO := hidi O
      clear O hx hrg hgs
      have RG := hidi (show wr.rangeAt g (i * 28) (inC A q C E).toList from RG.out)
      go_upto_region 16 with (first | (refine wpList_mid41 rfl _ rfl g (i * 28) rfl (inC A q C E) RG.out rfl ?_) | (refine wpList_store_row rfl 41 _ _ rfl wr.heap.size (inC A q C E) rfl rfl 41 (inC 0 (blank 0) 0 0) (zero_in wr) in_info rfl (in_one _ _ _ _) ?_))
      obtain ⟨w3, hw3⟩ : ∃ W, W = (wr.alloc (.cells #[.int .i64 0, .int .i64 0, .int .i64 0, .bool false, .int .i64 0, .string ⟨#[]⟩, .bool false, .string ⟨#[]⟩, .slice none 0 0, .int .i64 0, .bool false, .bool false, .string ⟨#[]⟩, .bool false, .slice none 0 0, .bool false, .int .i64 0, .bool false, .string ⟨#[]⟩, .slice none 0 0, .int .i64 0, .bool false, .int .i64 0, .slice none 0 0, .slice none 0 0, .slice none 0 0, .int .i64 0, .int .i64 0] 41)).setRow wr.heap.size (inC A q C E) := ⟨_, rfl⟩
      obtain ⟨a3, b3⟩ := ibox hw3
      obtain ⟨bx, hbx⟩ : ∃ bx, bx = wr.heap.size := ⟨_, rfl⟩
      rw [← hw3, ← hbx]
      rw [← hbx] at a3
      obtain ⟨K, hK⟩ : ∃ K, K = q.kind := ⟨_, rfl⟩
      rw [← hK] at OO
      have k0 : w3.cell? ⟨bx, 0, none⟩ = some (.int .i64 A) := box_cells a3 0 _ rfl
      have k1 : w3.cell? ⟨bx, 1, none⟩ = some (.int .i64 K) := by rw [hK]; exact box_cells a3 1 _ rfl
      have k2 : w3.cell? ⟨bx, 26, none⟩ = some (.int .i64 C) := box_cells a3 26 _ rfl
      have BL := hidi (BX.out.trans (b3.mono BX.out.size))
      have OV := hidi (cm_over (A4.out.cm.below BL.out))
      clear hw3 hbx a3 b3 hK RG BX hlt
      rcases (show A = 1 ∨ A = 2 ∨ A = 3 by have := OO.out.2.1; omega) with rfl | rfl | rfl
      · by_cases hK : K = 14
        · subst hK
          have h1 := OO.out.1 (.inr rfl)
          have h2 := OO.out.2.2.1 rfl
          have hi0 : ¬ i = 0 := fun z => absurd (h2.1 z) (by decide)
          have hnl : ¬ (i : Int) < (n : Int) - 1 := by omega
          have hni : ¬ (i : Int) = 0 := by omega
          have hni' : ((i : Int) == 0) = false := by simpa using hi0
          rw [h1.1] at OV
          clear h1 h2
          go_wp2_with (first | (go_at_call 11; refine OV.out.mono ?_; rintro e w5 ⟨rfl, rfl⟩))
          go_roundg (n - (i + 1))
          case measure => omega
          case rel => exact ⟨i + 1, by omega, by first | rfl | (simp; done) | (simp; omega), BL.out⟩
        · have hK' : (K == 14) = false := by simpa using hK
          have h2 := OO.out.2.2.1 rfl
          by_cases hi0 : i = 0
          · have hK1 := h2.1 hi0
            subst hi0
            subst hK1
            clear h2 hK hK'
            go_wp2_with (first | (go_at_call 11; refine OV.out.mono ?_; rintro e w5 ⟨rfl, rfl⟩))
            go_roundg (n - 1)
            case measure => omega
            case rel => exact ⟨1, by omega, by first | rfl | (simp; done) | (simp; omega), BL.out⟩
          · have hK1 : ¬ K = 1 := fun z => hi0 (h2.2 z)
            have hK1' : (K == 1) = false := by simpa using hK1
            have hni : ¬ (i : Int) = 0 := by omega
            have hni' : ((i : Int) == 0) = false := by simpa using hi0
            clear h2
            have n2 : ¬ K = 2 := OO.out.2.2.2.2.1
            have n9 : ¬ K = 9 := OO.out.2.2.2.2.2.1
            have n11 : ¬ K = 11 := OO.out.2.2.2.2.2.2.1
            have n13 : ¬ K = 13 := OO.out.2.2.2.2.2.2.2
            have m2 : (K == 2) = false := by simpa using n2
            have m9 : (K == 9) = false := by simpa using n9
            have m11 : (K == 11) = false := by simpa using n11
            have m13 : (K == 13) = false := by simpa using n13
            go_wp2_with (first | (go_at_call 11; refine OV.out.mono ?_; rintro e w5 ⟨rfl, rfl⟩))
            go_roundg (n - (i + 1))
            case measure => omega
            case rel => exact ⟨i + 1, by omega, by first | rfl | (simp; done) | (simp; omega), BL.out⟩
      · have h1 := OO.out.1 (.inl (by decide))
        have h2 := OO.out.2.2.2.1 rfl
        have hi0 := h2.1
        have hC := h2.2
        subst hC
        have hnl : ¬ (i : Int) < (n : Int) - 1 := by omega
        have hng : ¬ (0 : Int) < (i : Int) := by omega
        have hni' : decide ((0 : Int) < (i : Int)) = false := decide_eq_false hng
        rw [h1.1] at OV
        clear h1 h2
        have n2 : ¬ K = 2 := OO.out.2.2.2.2.1
        have n9 : ¬ K = 9 := OO.out.2.2.2.2.2.1
        have n11 : ¬ K = 11 := OO.out.2.2.2.2.2.2.1
        have n13 : ¬ K = 13 := OO.out.2.2.2.2.2.2.2
        have m2 : (K == 2) = false := by simpa using n2
        have m9 : (K == 9) = false := by simpa using n9
        have m11 : (K == 11) = false := by simpa using n11
        have m13 : (K == 13) = false := by simpa using n13
        go_wp2_with (first | (go_at_call 11; refine OV.out.mono ?_; rintro e w5 ⟨rfl, rfl⟩))
        go_roundg (n - (i + 1))
        case measure => omega
        case rel => exact ⟨i + 1, by omega, by first | rfl | (simp; done) | (simp; omega), BL.out⟩
      · have h1 := OO.out.1 (.inl (by decide))
        have hnl : ¬ (i : Int) < (n : Int) - 1 := by omega
        rw [h1.1] at OV
        clear h1
        have n2 : ¬ K = 2 := OO.out.2.2.2.2.1
        have n9 : ¬ K = 9 := OO.out.2.2.2.2.2.1
        have n11 : ¬ K = 11 := OO.out.2.2.2.2.2.2.1
        have n13 : ¬ K = 13 := OO.out.2.2.2.2.2.2.2
        have m2 : (K == 2) = false := by simpa using n2
        have m9 : (K == 9) = false := by simpa using n9
        have m11 : (K == 11) = false := by simpa using n11
        have m13 : (K == 13) = false := by simpa using n13
        go_wp2_with (first | (go_at_call 11; refine OV.out.mono ?_; rintro e w5 ⟨rfl, rfl⟩))
        go_roundg (n - (i + 1))
        case measure => omega
        case rel => exact ⟨i + 1, by omega, by first | rfl | (simp; done) | (simp; omega), BL.out⟩
    · have hlt : ¬ (i : Int) < (n : Int) := by omega
      go_wp2_with fail
      go_ret
      exact ⟨rfl, A4.out.cm.lt.2.2.2.2.trans (BX.out.mono A4.out.cm.lt.2.2.2.2.size)⟩
end Go.Proofs.YtmfbkfgggdkfmaaGreatDoor.Co
namespace Go.Proofs
open Go.Shelf
def Tryz.laysM138_ren : Go.Shelf.Ren := ⟨fun | 138 => 106 | 195 => 111 | 218 => 112 | 143 => 113 | 219 => 118 | 217 => 119 | 225 => 117 | 224 => 116 | 267 => 120 | 266 => 121 | 314 => 122 | n => n, fun | 9 => 9 | 3 => 3 | 4 => 4 | 5 => 5 | 0 => 0 | 46 => 126 | 146 => 164 | 51 => 163 | n => n, fun | 1 => 2 | n => n⟩
theorem Tryz.laysM138 : Go.Proofs.LaysM.n138 Tryz.prog Tryz.laysM138_ren := {
  mixed := by kernel_rfl
  f138 := Tryz.func106.trans (congrArg some (by kernel_rfl))
  f143 := Tryz.func113.trans (congrArg some (by kernel_rfl))
  f195 := Tryz.func111.trans (congrArg some (by kernel_rfl))
  f217 := Tryz.func119.trans (congrArg some (by kernel_rfl))
  f218 := Tryz.func112.trans (congrArg some (by kernel_rfl))
  f219 := Tryz.func118.trans (congrArg some (by kernel_rfl))
  f224 := Tryz.func116.trans (congrArg some (by kernel_rfl))
  f225 := Tryz.func117.trans (congrArg some (by kernel_rfl))
  f266 := Tryz.func121.trans (congrArg some (by kernel_rfl))
  f267 := Tryz.func120.trans (congrArg some (by kernel_rfl))
  f314 := Tryz.func122.trans (congrArg some (by kernel_rfl))
  t0 := Tryz.underlying0
  a0 := Tryz.isAgg0
  z0 := Tryz.sizeOf0
  v0 := Tryz.zeroValue0
  t3 := Tryz.underlying3
  a3 := Tryz.isAgg3
  z3 := Tryz.sizeOf3
  v3 := Tryz.zeroValue3
  t4 := Tryz.underlying4
  a4 := Tryz.isAgg4
  z4 := Tryz.sizeOf4
  v4 := Tryz.zeroValue4
  t5 := Tryz.underlying5
  a5 := Tryz.isAgg5
  z5 := Tryz.sizeOf5
  v5 := Tryz.zeroValue5
  t9 := Tryz.underlying9
  a9 := Tryz.isAgg9
  z9 := Tryz.sizeOf9
  v9 := Tryz.zeroValue9
  t46 := Tryz.underlying126
  a46 := Tryz.isAgg126
  z46 := Tryz.sizeOf126
  v46 := Tryz.zeroValue126
  t51 := Tryz.underlying163
  a51 := Tryz.isAgg163
  z51 := Tryz.sizeOf163
  v51 := Tryz.zeroValue163
  t146 := Tryz.underlying164
  a146 := Tryz.isAgg164
  z146 := Tryz.sizeOf164
  v146 := Tryz.zeroValue164
  g1 := by kernel_rfl
  i0 := by kernel_rfl
  i3 := by kernel_rfl
  i4 := by kernel_rfl
  i5 := by kernel_rfl
  i9 := by kernel_rfl
  i46 := by kernel_rfl
  i51 := by kernel_rfl
  i146 := by kernel_rfl
  m1 := by kernel_rfl
  s1_3 := fun w h => Go.Proofs.cell_of_shapedOpen_int (zero := #[.int .i64 0]) (t := 3) h (of_decide_eq_true (by kernel_rfl)) (by kernel_rfl) rfl (by kernel_rfl) (by kernel_rfl) Tryz.underlying3 }
end Go.Proofs
