import Derived.Test.YtmfbkfgggdkfmaaGreatDoorCnh
import Derived.Shelf.Small.Utf8
import Derived.Shelf.Small.Strs
import Derived.Shelf.Utf8.RuneCount
import Derived.Shelf.Strings.Search1
import Derived.Shelf.Strings.Search2
import Derived.Shelf.Strings.Search3
import Derived.Shelf.Strings.Count
import Derived.Shelf.LaysM
import Derived.Shelf.Strings.Shaped
import Derived.Shelf.Strings.Prefix
import Derived.Shelf.Strings.Split
import Derived.Shelf.Strings.Runes
import Derived.Shelf.Strings.RuneCount
import Derived.Shelf.Strings.IndexAny
import Derived.Shelf.Strings.AsciiSet
import Derived.Shelf.Strings.IndexAnyAll
import Derived.Test.YtmfbkfgggdkfmaaGreatDoorProg
namespace Go.Proofs.YtmfbkfgggdkfmaaGreatDoor.Co
open Go Go.RowKit
open Pkt (Pk Cn Sl In By Is Ss As pkCells Gd KindsAt Small wpList_load_wanted ck TT)
set_option linter.unusedSimpArgs false
set_option linter.unusedVariables false
theorem is_cell {w w' : World} {s : Sl} {z : Nat → Int} (h : Is w s z) (hb : Below w.heap.size w w') (j : Nat) (hj : j < s.n) : ∃ b off, s.a = some ⟨b, off, none⟩ ∧ s.n ≤ s.c ∧ w'.cell? ⟨b, off + j, none⟩ = some (.int .i64 (z j)) := by
  obtain ⟨b, off, e, hc⟩ := h.2.resolve_left (by omega)
  exact ⟨b, off, e, h.1, (hb.cell (p := ⟨b, off + j, none⟩) (lt_of_cell (hc j hj))).trans (hc j hj)⟩
theorem in_conK {q : Pk} {k : Int} : inA (ansP 0 (conP k)) q = inC 1 q 0 0 := rfl
theorem on_conK (k : Int) : onP 0 (conP k) = true := rfl
theorem bd_conK (k b : Int) (h : 1 ≤ k ∧ k ≤ 300) : bdP 0 b (conP k) = 3 * k / 2 := by
  show 3 * kpC k / 2 = _
  rw [show kpC k = k by unfold kpC; omega]
theorem late_in {k s : Int} (h : 1 ≤ k ∧ k ≤ 300) (hs : s ≤ k) : lateP (3 * k / 2) s = false := by
  unfold lateP
  rw [decide_eq_false (show ¬ 3 * k / 2 < s by omega), Bool.and_false]
theorem late_is {k s : Int} (h : 1 ≤ k ∧ k ≤ 300) : lateP (3 * k / 2) s = decide (3 * k < 2 * s) := by
  unfold lateP
  rw [decide_eq_true (show 0 < 3 * k / 2 by omega), Bool.true_and, Bool.eq_iff_iff, decide_eq_true_iff, decide_eq_true_iff]
  omega
set_option maxRecDepth 100000 in
set_option maxHeartbeats 8000000 in
theorem silence_any (keep : Int) (ls : Sl) (zs : Nat → Int) (w : World) (hl : Is w ls zs) (hg : Gw w) (hm : ls.n ≤ 9223372036854775807) : Calls Tryz.prog 5 #[.int .i64 keep, .slice ls.a ls.n ls.c] w fun e w' => e = .returned (.bool true) ∧ Below w.heap.size w w' := by
  obtain ⟨la, ln, lc⟩ := ls
  have HL := hidi hl
  have G := hidi hg
  have KN := hidi (cknown_any w hg)
  simp only at hm
  clear hl hg
  by_cases h1 : keep < 1
  · have e1 : decide (keep < 1) = true := decide_eq_true h1
    go_enter Tryz.func5, Tryz.ntmps5
    go_wp2_with (first | (go_at_call 6; refine KN.out.mono ?_; clear KN; rintro e w1 ⟨rfl, hb1⟩; have HB1 := hidi hb1; clear hb1))
    go_ret
    exact ⟨rfl, HB1.out⟩
  by_cases h2 : 300 < keep
  · have e1 : decide (keep < 1) = false := decide_eq_false h1
    have e2 : decide (300 < keep) = true := decide_eq_true h2
    have h2' : keep > 300 := h2
    go_enter Tryz.func5, Tryz.ntmps5
    go_wp2_with (first | (go_at_call 6; refine KN.out.mono ?_; clear KN; rintro e w1 ⟨rfl, hb1⟩; have HB1 := hidi hb1; clear hb1))
    go_ret
    exact ⟨rfl, HB1.out⟩
  by_cases h3 : 40 < ln
  · have e1 : decide (keep < 1) = false := decide_eq_false h1
    have e2 : decide (300 < keep) = false := decide_eq_false h2
    have e3 : decide ((40 : Int) < (ln : Int)) = true := decide_eq_true (by omega)
    have e3' : (40 : Int) < (ln : Int) := by omega
    go_enter Tryz.func5, Tryz.ntmps5
    go_wp2_with (first | (go_at_call 6; refine KN.out.mono ?_; clear KN; rintro e w1 ⟨rfl, hb1⟩; have HB1 := hidi hb1; clear hb1))
    go_ret
    exact ⟨rfl, HB1.out⟩
  have e1 : decide (keep < 1) = false := decide_eq_false h1
  have e2 : decide (300 < keep) = false := decide_eq_false h2
  have e3 : decide ((40 : Int) < (ln : Int)) = false := decide_eq_false (by omega)
  have e3' : ¬ (40 : Int) < (ln : Int) := by omega
  have HK := hidi (show 1 ≤ keep ∧ keep ≤ 300 ∧ ln ≤ 40 by omega)
  obtain ⟨A, hA⟩ : ∃ A, A = keep / 256 := ⟨_, rfl⟩
  obtain ⟨B, hB⟩ : ∃ B, B = keep % 256 := ⟨_, rfl⟩
  have hAB := hidi (show 0 ≤ A ∧ A ≤ 255 ∧ 0 ≤ B ∧ B ≤ 255 ∧ A * 256 + B = keep by omega)
  have ta : keep.tdiv 256 = A := by rw [hA]; exact Int.tdiv_eq_ediv_of_nonneg (by omega)
  have tb : keep.tmod 256 = B := by rw [hB]; exact Int.tmod_eq_emod_of_nonneg (by omega)
  have wa : IntKind.u8.wrap A = A := by rw [IntKind.wrap_u8]; have := hAB.out; omega
  have wb : IntKind.u8.wrap B = B := by rw [IntKind.wrap_u8]; have := hAB.out; omega
  have wa2 : wrap64 A = A := by unfold wrap64; have := hAB.out; omega
  have wa3 : A % 256 = A := by have := hAB.out; omega
  clear hA hB
  go_enter Tryz.func5, Tryz.ntmps5
  go_wp2_with (first
    | (go_at_call 6; refine KN.out.mono ?_; clear KN; rintro e w1 ⟨rfl, hb1⟩; have HB1 := hidi hb1; clear hb1)
    | (go_at_call 7; refine (kl_new 1000 1 (listZ (kbZ A B)) G.out HB1.out).mono ?_; rintro e W1 ⟨rfl, k1, -⟩; have K1 := hidi k1; clear k1))
  obtain ⟨cb, hcb⟩ : ∃ cb, cb = w1.heap.size + 1 := ⟨_, rfl⟩
  obtain ⟨fb, hfb⟩ : ∃ fb, fb = w1.heap.size := ⟨_, rfl⟩
  rw [← hcb, show KL w W1 cb w1.heap.size = KL w W1 cb fb by rw [hfb]] at K1
  rw [← hcb]
  clear hcb hfb HB1
  obtain ⟨bd0, hbd0⟩ : ∃ b : Int, b = max 1 0 := ⟨_, rfl⟩
  rw [← hbd0] at K1
  clear hbd0 ta tb wa wb wa2 wa3 e1 e2 e3 e3'
  go_must (go_at_call 8)
  refine (kl_lit [16, 12, 0, 4, 77, 81, 84, 84, 4, 2, A, B, 0, 0] _ K1.out (listZ (kbZ A B)) (lits _ _ rfl) (by intro x hx; have := hAB.out; simp only [List.mem_cons, List.not_mem_nil, or_false] at hx; omega) (by decide) (show (14 : Nat) ≤ 400000 by decide) (by intro i hi; omega) (by
    intro i hi
    have hi' : i < 14 := hi
    match i, hi' with
    | 0, _ => rfl
    | 1, _ => rfl
    | 2, _ => rfl
    | 3, _ => rfl
    | 4, _ => rfl
    | 5, _ => rfl
    | 6, _ => rfl
    | 7, _ => rfl
    | 8, _ => rfl
    | 9, _ => rfl
    | 10, _ => rfl
    | 11, _ => rfl
    | 12, _ => rfl
    | 13, _ => rfl)).mono ?_
  rintro e W2 ⟨rfl, rf2, k2, -, -⟩
  have K2 := hidi (show KL w W2 cb fb 1000 0 0 bd0 rf2 0 (listZ (kbZ A B)) 14 from k2)
  have kbz := hidi (kb_bd A B (by have := hAB.out; omega) (by have := hAB.out; omega))
  clear k2 K1
  go_wp2_with fail
  go_must (go_at_call 12)
  refine (kl_pkt K2.out kbz.out (by decide) (show decP (listZ (kbZ A B)) 14 1000 = .ok (conP keep) noCn 14 from by rw [← hAB.out.2.2.2.2]; exact kb_con 14 (.inl rfl) A B (by have := hAB.out; omega) (by have := hAB.out; omega))).mono ?_
  rintro e W3 ⟨q, rfl, -, hp, -⟩
  rw [in_conK]
  unfold PkL at hp
  rw [if_pos (on_conK keep), bd_conK keep bd0 (by have := HK.out; omega)] at hp
  obtain ⟨rf3, k3, -, -⟩ := hp
  have K3 := hidi k3
  clear k3 K2
  go_upto_region 10 with (first | (refine wpList_store_row rfl 41 _ _ rfl W3.heap.size (inC 1 q 0 0) rfl rfl 41 (inC 0 (blank 0) 0 0) (zero_in W3) in_info rfl (in_one _ _ _ _) ?_))
  obtain ⟨W4, hW4⟩ : ∃ W4, W4 = (W3.alloc (.cells #[.int .i64 0, .int .i64 0, .int .i64 0, .bool false, .int .i64 0, .string ⟨#[]⟩, .bool false, .string ⟨#[]⟩, .slice none 0 0, .int .i64 0, .bool false, .bool false, .string ⟨#[]⟩, .bool false, .slice none 0 0, .bool false, .int .i64 0, .bool false, .string ⟨#[]⟩, .slice none 0 0, .int .i64 0, .bool false, .int .i64 0, .slice none 0 0, .slice none 0 0, .slice none 0 0, .int .i64 0, .int .i64 0] 41)).setRow W3.heap.size (inC 1 q 0 0) := ⟨_, rfl⟩
  obtain ⟨a4, b4⟩ := ibox hW4
  rw [← hW4]
  have K4 := hidi (show ∃ rf P z, KL w W4 cb fb 1000 1 0 (3 * keep / 2) rf P z 0 ∧ P ≤ 14 from ⟨rf3, _, _, K3.out.below b4, by decide⟩)
  clear hW4 a4 b4 K3
  go_wp2_with fail
  go_loopg [8, 9, 10, 11, 12, 13, 14] ln (fun gk s8 s9 s10 s11 s12 s13 s14 wx => ∃ i : Nat, i + gk = ln ∧ s8 = .int .i64 i ∧ Hid (∃ rf P z, KL w wx cb fb 1000 1 0 (3 * keep / 2) rf P z 0 ∧ P ≤ 14 + 2 * i))
  case atStart => exact ⟨0, by omega, rfl, K4.out⟩
  case round =>
    obtain ⟨i, hi, rfl, KI⟩ := hrel
    clear K4
    obtain ⟨rf5, P5, z5, k5, hp5⟩ := KI.out
    have K5 := hidi (And.intro k5 hp5)
    clear k5 hp5 KI
    by_cases hin : i < ln
    · as_aux_lemma =>
      have hlt : (i : Int) < (ln : Int) := by omega
      have hge : (0 : Int) ≤ (i : Int) := by omega
      have hw1 : IntKind.i64.wrap ((i : Int) + 1) = (i : Int) + 1 := by rw [IntKind.wrap_i64]; omega
      obtain ⟨gb, go, ea, hlc, hc⟩ := is_cell HL.out K5.out.1.bel i hin
      simp only at ea hlc
      subst ea
      obtain ⟨x, hx⟩ : ∃ x, x = zs i := ⟨_, rfl⟩
      rw [← hx] at hc
      have wk : IntKind.i64.wrap (keep + 1) = keep + 1 := by rw [IntKind.wrap_i64]; have := HK.out; omega
      have wk0 : ¬ keep + 1 = 0 := by have := HK.out; omega
      have wk0' : (keep + 1 == 0) = false := by simpa using wk0
      obtain ⟨N, hN⟩ : ∃ N, N = x.tmod (keep + 1) := ⟨_, rfl⟩
      have hNb : N ≤ keep ∧ -keep ≤ N := by
        have := HK.out
        obtain ⟨m, hmk⟩ : ∃ m : Nat, keep + 1 = (m : Int) := ⟨(keep + 1).toNat, by omega⟩
        have h2 := Pkt.tmod_range x m (by omega)
        rw [hN, hmk]
        omega
      have wN : IntKind.i64.wrap N = N := by rw [IntKind.wrap_i64]; have := HK.out; omega
      have wN2 : IntKind.i64.wrap (x.tmod (keep + 1)) = N := by rw [← hN]; exact wN
      have hN' : x.tmod (keep + 1) = N := hN.symm
      have HN := hidi hNb
      clear hx hN hNb
      go_upto_region 16 with fail
      obtain ⟨m0, hm0⟩ : ∃ m : Nat, m = N.toNat := ⟨_, rfl⟩
      clear hc wk wk0 wk0' wN wN2 hN'
      go_wp2_with fail
      go_loopg [10] m0 (fun gk s10 wx => ∃ k : Nat, k + gk = m0 ∧ s10 = .int .i64 k ∧ Hid (KL w wx cb fb 1000 1 (k : Int) (3 * keep / 2) rf5 P5 z5 0))
      case atStart => exact ⟨0, by omega, rfl, K5.out.1⟩
      case round =>
        obtain ⟨k, hk, rfl, KK⟩ := hrel
        by_cases hkn : (k : Int) < N
        · have hw2 : IntKind.i64.wrap ((k : Int) + 1) = (k : Int) + 1 := by rw [IntKind.wrap_i64]; have := HN.out; have := HK.out; omega
          have TK := hidi (kl_tick KK.out (by have := HN.out; have := HK.out; omega))
          rw [late_in (by have := HK.out; omega) (by have := HN.out; omega)] at TK
          clear KK
          go_wp2_with fail
          go_must (go_at_call 13)
          refine TK.out.mono ?_
          rintro e W6 ⟨rfl, k6, -⟩
          have K6 := hidi k6
          clear k6 TK
          go_wp2_with fail
          go_roundg (m0 - (k + 1))
          case measure => omega
          case rel => exact ⟨k + 1, by omega, by first | rfl | simp, by have := K6.out; rw [show ((k + 1 : Nat) : Int) = (k : Int) + 1 by omega]; exact this⟩
        · have HP := hidi K5.out.2
          clear hk K5
          go_wp2_with fail
          go_must (go_at_call 8)
          refine (kl_lit [192] _ KK.out (listZ pgZ) (lits _ _ rfl) (by decide) (by have := HP.out; omega) (by decide) (by intro i hi; omega) (by decide)).mono ?_
          rintro e W6 ⟨rfl, rf6, k6, -, -⟩
          have K6 := hidi (show KL w W6 cb fb 1000 1 (k : Int) (3 * keep / 2) rf6 P5 (listZ pgZ) 1 from k6)
          clear k6 KK
          go_wp2_with fail
          go_must (go_at_call 12)
          refine (kl_more K6.out pg_bd (by have := HP.out; omega) pg_more).mono ?_
          rintro e W7 ⟨rfl, rf7, k7, -, -⟩
          have K7 := hidi k7
          clear k7 K6
          go_upto_region 23 with (first | (refine wpList_store_row rfl 41 _ _ rfl W7.heap.size (inC 0 (blank 0) 0 0) rfl rfl 41 (inC 0 (blank 0) 0 0) (zero_in W7) in_info rfl (in_one _ _ _ _) ?_))
          obtain ⟨W8, hW8⟩ : ∃ W, W = (W7.alloc (.cells #[.int .i64 0, .int .i64 0, .int .i64 0, .bool false, .int .i64 0, .string ⟨#[]⟩, .bool false, .string ⟨#[]⟩, .slice none 0 0, .int .i64 0, .bool false, .bool false, .string ⟨#[]⟩, .bool false, .slice none 0 0, .bool false, .int .i64 0, .bool false, .string ⟨#[]⟩, .slice none 0 0, .int .i64 0, .bool false, .int .i64 0, .slice none 0 0, .slice none 0 0, .slice none 0 0, .int .i64 0, .int .i64 0] 41)).setRow W7.heap.size (inC 0 (blank 0) 0 0) := ⟨_, rfl⟩
          obtain ⟨a8, b8⟩ := ibox hW8
          rw [← hW8]
          have K8 := hidi (K7.out.below b8)
          clear hW8 a8 b8 K7
          go_wp2_with fail
          go_must (go_at_call 8)
          refine (kl_lit [0] _ K8.out (listZ pgZ) (lits _ _ rfl) (by decide) (by have := HP.out; omega) (by decide) (fun _ _ => rfl) (by decide)).mono ?_
          rintro e W9 ⟨rfl, rf9, k9, -, -⟩
          have K9 := hidi (show KL w W9 cb fb 1000 1 (k : Int) (3 * keep / 2) rf9 P5 (listZ pgZ) 2 from k9)
          clear k9 K8
          go_wp2_with fail
          go_must (go_at_call 12)
          refine (kl_pkt K9.out pg_bd (by have := HP.out; omega) pg_ok).mono ?_
          rintro e X1 ⟨q', rfl, ⟨ha, -, -⟩, hp, -⟩
          rw [(in_ping ha).1]
          unfold PkL at hp
          rw [if_pos (show onP 1 (blank 12) = true from rfl), show bdP 1 (3 * keep / 2) (blank 12) = 3 * keep / 2 from rfl] at hp
          obtain ⟨rf10, k10, -, -⟩ := hp
          have K10 := hidi k10
          clear k10 ha K9
          go_upto_region 25 with (first | (refine wpList_store_row rfl 41 _ _ rfl X1.heap.size (inC 1 q' 0 0) rfl rfl 41 (inC 0 (blank 0) 0 0) (zero_in X1) in_info rfl (in_one _ _ _ _) ?_))
          obtain ⟨X2, hX2⟩ : ∃ W, W = (X1.alloc (.cells #[.int .i64 0, .int .i64 0, .int .i64 0, .bool false, .int .i64 0, .string ⟨#[]⟩, .bool false, .string ⟨#[]⟩, .slice none 0 0, .int .i64 0, .bool false, .bool false, .string ⟨#[]⟩, .bool false, .slice none 0 0, .bool false, .int .i64 0, .bool false, .string ⟨#[]⟩, .slice none 0 0, .int .i64 0, .bool false, .int .i64 0, .slice none 0 0, .slice none 0 0, .slice none 0 0, .int .i64 0, .int .i64 0] 41)).setRow X1.heap.size (inC 1 q' 0 0) := ⟨_, rfl⟩
          obtain ⟨a11, b11⟩ := ibox hX2
          rw [← hX2]
          have K11 := hidi (K10.out.below b11)
          clear hX2 a11 b11 K10
          go_wp2_with fail
          go_roundg (ln - (i + 1))
          case measure => omega
          case rel => exact ⟨i + 1, by omega, by first | rfl | simp, ⟨_, _, _, K11.out, by have := HP.out; omega⟩⟩
    · as_aux_lemma =>
      have hlt : ¬ (i : Int) < (ln : Int) := by omega
      obtain ⟨M, hM⟩ : ∃ M : Nat, (M : Int) = 2 * keep := ⟨(2 * keep).toNat, by have := HK.out; omega⟩
      have w2k : IntKind.i64.wrap (2 * keep) = 2 * keep := by rw [IntKind.wrap_i64]; have := HK.out; omega
      have w3k : IntKind.i64.wrap (3 * keep) = 3 * keep := by rw [IntKind.wrap_i64]; have := HK.out; omega
      clear hi hin
      go_wp2_with fail
      go_loopg [15] M (fun gk s15 wx => ∃ k : Nat, k + gk = M ∧ s15 = .int .i64 ((k : Int) + 1) ∧ Hid (KL w wx cb fb 1000 1 (k : Int) (3 * keep / 2) rf5 P5 z5 0))
      case atStart => exact ⟨0, by omega, rfl, K5.out.1⟩
      case round =>
        obtain ⟨k, hk, rfl, KK⟩ := hrel
        have HB := hidi KK.out.bel
        by_cases hkn : k < M
        · have hle : (k : Int) + 1 ≤ 2 * keep := by omega
          have hw2 : IntKind.i64.wrap ((k : Int) + 1 + 1) = (k : Int) + 1 + 1 := by rw [IntKind.wrap_i64]; have := HK.out; omega
          have hw3 : IntKind.i64.wrap (2 * ((k : Int) + 1)) = 2 * ((k : Int) + 1) := by rw [IntKind.wrap_i64]; have := HK.out; omega
          have TK := hidi (kl_tick KK.out (by have := HK.out; omega))
          rw [late_is (by have := HK.out; omega)] at TK
          obtain ⟨bb, hbb⟩ : ∃ bb, bb = decide (3 * keep < 2 * ((k : Int) + 1)) := ⟨_, rfl⟩
          have hbb2 : decide (3 * keep < 2 * ((k : Int) + 1)) = bb := hbb.symm
          rw [← hbb] at TK
          clear KK HB hbb
          go_wp2_with fail
          go_must (go_at_call 13)
          refine TK.out.mono ?_
          rintro e W6 ⟨rfl, k6, -⟩
          have K6 := hidi k6
          clear k6 TK
          go_wp2_with fail
          go_roundg (M - (k + 1))
          case measure => omega
          case rel => exact ⟨k + 1, by omega, by first | rfl | simp, by have := K6.out; rw [show ((k + 1 : Nat) : Int) = (k : Int) + 1 by omega]; exact this⟩
        · have hle : ¬ (k : Int) + 1 ≤ 2 * keep := by omega
          clear KK
          go_wp2_with fail
          go_ret
          exact ⟨rfl, HB.out⟩
end Go.Proofs.YtmfbkfgggdkfmaaGreatDoor.Co
namespace Go.Proofs
open Go.Shelf
def Tryz.laysM138_ren : Go.Shelf.Ren := ⟨fun | 138 => 106 | 195 => 111 | 218 => 112 | 143 => 113 | 219 => 118 | 217 => 119 | 225 => 117 | 224 => 116 | 267 => 120 | 266 => 121 | 314 => 122 | n => n, fun | 9 => 9 | 3 => 3 | 4 => 4 | 5 => 5 | 0 => 0 | 46 => 126 | 146 => 164 | 51 => 163 | n => n, fun | 1 => 2 | n => n⟩
theorem Tryz.laysM138 : Go.Proofs.LaysM.n138 Tryz.prog Tryz.laysM138_ren := {
  mixed := by kernel_rfl
  f138 := Tryz.func106.trans (congrArg some (by kernel_rfl))
  f143 := Tryz.func113.trans (congrArg some (by kernel_rfl))
  f195 := Tryz.func111.trans (congrArg some (by kernel_rfl))
  f217 := Tryz.func119.trans (congrArg some (by kernel_rfl))
  f218 := Tryz.func112.trans (congrArg some (by kernel_rfl))
  f219 := Tryz.func118.trans (congrArg some (by kernel_rfl))
  f224 := Tryz.func116.trans (congrArg some (by kernel_rfl))
  f225 := Tryz.func117.trans (congrArg some (by kernel_rfl))
  f266 := Tryz.func121.trans (congrArg some (by kernel_rfl))
  f267 := Tryz.func120.trans (congrArg some (by kernel_rfl))
  f314 := Tryz.func122.trans (congrArg some (by kernel_rfl))
  t0 := Tryz.underlying0
  a0 := Tryz.isAgg0
  z0 := Tryz.sizeOf0
  v0 := Tryz.zeroValue0
  t3 := Tryz.underlying3
  a3 := Tryz.isAgg3
  z3 := Tryz.sizeOf3
  v3 := Tryz.zeroValue3
  t4 := Tryz.underlying4
  a4 := Tryz.isAgg4
  z4 := Tryz.sizeOf4
  v4 := Tryz.zeroValue4
  t5 := Tryz.underlying5
  a5 := Tryz.isAgg5
  z5 := Tryz.sizeOf5
  v5 := Tryz.zeroValue5
  t9 := Tryz.underlying9
  a9 := Tryz.isAgg9
  z9 := Tryz.sizeOf9
  v9 := Tryz.zeroValue9
  t46 := Tryz.underlying126
  a46 := Tryz.isAgg126
  z46 := Tryz.sizeOf126
  v46 := Tryz.zeroValue126
  t51 := Tryz.underlying163
  a51 := Tryz.isAgg163
  z51 := Tryz.sizeOf163
  v51 := Tryz.zeroValue163
  t146 := Tryz.underlying164
  a146 := Tryz.isAgg164
  z146 := Tryz.sizeOf164
  v146 := Tryz.zeroValue164
  g1 := by kernel_rfl
  i0 := by kernel_rfl
  i3 := by kernel_rfl
  i4 := by kernel_rfl
  i5 := by kernel_rfl
  i9 := by kernel_rfl
  i46 := by kernel_rfl
  i51 := by kernel_rfl
  i146 := by kernel_rfl
  m1 := by kernel_rfl
  s1_3 := fun w h => Go.Proofs.cell_of_shapedOpen_int (zero := #[.int .i64 0]) (t := 3) h (of_decide_eq_true (by kernel_rfl)) (by kernel_rfl) rfl (by kernel_rfl) (by kernel_rfl) Tryz.underlying3 }
end Go.Proofs
