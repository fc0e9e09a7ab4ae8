import Derived.Test.YtmihpmmkkklpfaaGreatDoorSw
namespace Go.Proofs.YtmihpmmkkklpfaaGreatDoor
open Go Go.RowKit Go.Shelf Go.Maps Go.Sort
set_option linter.unusedSimpArgs false
set_option linter.unusedVariables false
/-- Numbers, and yeses and noes, that came in. -/
def IR (w : World) (a : Option Addr) (n : Nat) (z : Nat → Int) : Prop := n = 0 ∨ ∃ b off, a = some ⟨b, off, none⟩ ∧ ∀ i, i < n → w.cell? ⟨b, off + i, none⟩ = some (.int .i64 (z i))
def BR (w : World) (a : Option Addr) (n : Nat) (z : Nat → Bool) : Prop := n = 0 ∨ ∃ b off, a = some ⟨b, off, none⟩ ∧ ∀ i, i < n → w.cell? ⟨b, off + i, none⟩ = some (.bool (z i))
theorem IR.keep {w W : World} {a : Option Addr} {n : Nat} {z : Nat → Int} (h : IR w a n z) (hb : Below w.heap.size w W) : IR W a n z := h.imp id (fun ⟨b, off, e, hc⟩ => ⟨b, off, e, fun i hi => (hb.cell (p := ⟨b, off + i, none⟩) (World.block_lt_of_cell? _ _ (hc i hi))).trans (hc i hi)⟩)
theorem BR.keep {w W : World} {a : Option Addr} {n : Nat} {z : Nat → Bool} (h : BR w a n z) (hb : Below w.heap.size w W) : BR W a n z := h.imp id (fun ⟨b, off, e, hc⟩ => ⟨b, off, e, fun i hi => (hb.cell (p := ⟨b, off + i, none⟩) (World.block_lt_of_cell? _ _ (hc i hi))).trans (hc i hi)⟩)
theorem pbi_new (w : World) (y : Int) : PBi (w.alloc (.cells #[.int .u8 y] 5)) (.slice (some ⟨w.heap.size, 0, none⟩) 1 1) [y] := by
  refine .inr ⟨_, 1, 1, rfl, rfl, Nat.le_refl _, fun i hi => ?_⟩
  have hi0 : i = 0 := by omega
  subst hi0
  exact box_cells (heap_alloc_new w _) 0 _ rfl
set_option maxRecDepth 100000 in
set_option maxHeartbeats 8000000 in
theorem keeps_any {w : World} (g : Gd w) (l0 : Bool) (c1 cn cq cs c5 c6 c7 c8 : Int) (ua : Option Addr) (un uc : Nat) {qa pa : Option Addr} {N qc M pc : Nat} {Z : Nat → Int} {B : Nat → Bool} (hQ : IR w qa N Z) (hU : BR w pa M B) : Calls Tryz.prog 4 #[.agg #[.bool l0, .int .i64 c1, .int .i64 cn, .int .i64 cq, .int .i64 cs, .int .i64 c5, .int .i64 c6, .int .i64 c7, .int .i64 c8, .slice ua un uc], .slice qa N qc, .slice pa M pc] w fun e w' => e = .returned (.bool true) ∧ Below w.heap.size w w' := by
  obtain ⟨w1, hw1⟩ : ∃ w1, w1 = w.alloc (.cells #[.bool l0, .int .i64 c1, .int .i64 cn, .int .i64 cq, .int .i64 cs, .int .i64 c5, .int .i64 c6, .int .i64 c7, .int .i64 c8, .slice ua un uc] 24) := ⟨_, rfl⟩
  have x1 := heap_alloc_new w (.cells #[.bool l0, .int .i64 c1, .int .i64 cn, .int .i64 cq, .int .i64 cs, .int .i64 c5, .int .i64 c6, .int .i64 c7, .int .i64 c8, .slice ua un uc] 24)
  have b1 : Below w.heap.size w (w.alloc (.cells #[.bool l0, .int .i64 c1, .int .i64 cn, .int .i64 cq, .int .i64 cs, .int .i64 c5, .int .i64 c6, .int .i64 c7, .int .i64 c8, .slice ua un uc] 24)) := (Below.refl _ _).alloc (Nat.le_refl _) _
  rw [← hw1] at x1 b1
  have H1 := hidi (And.intro x1 b1)
  have KN := hidi (sknown_any w1 (g.below b1))
  have H := hidi (And.intro g (And.intro hQ hU))
  clear g hQ hU x1 b1
  by_cases hN : 200 < N
  · have hn : (N : Int) > 200 := by omega
    have hn' : (200 : Int) < (N : Int) := hn
    go_enter Tryz.func4, Tryz.ntmps4
    go_upto_region 1 with fail
    rw [← hw1]
    clear hw1
    go_wp2_with fail
    go_ret
    exact ⟨rfl, H1.out.2⟩
  have hn : ¬ (N : Int) > 200 := by omega
  have hn' : ¬ (200 : Int) < (N : Int) := hn
  have HN := hidi (show N ≤ 200 by omega)
  clear hN
  go_enter Tryz.func4, Tryz.ntmps4
  go_upto_region 1 with fail
  rw [← hw1]
  clear hw1
  go_upto_region 5 with (go_at_call 6; refine KN.out.mono ?_; clear KN; rintro e w2 ⟨rfl, hb2⟩; have HB2 := hidi (H1.out.2.trans (hb2.mono H1.out.2.size)); have HX2 := hidi (later_at H1.out.1 hb2); clear hb2)
  have NW := hidi (snew_any (H.out.1.below HB2.out) ⟨#[107]⟩ true l0 c1 cn cq cs c5 c6 c7 c8 ua un uc (by decide))
  have e0 := box_cells HX2.out 0 _ rfl
  have e1 := box_cells HX2.out 1 _ rfl
  have e2 := box_cells HX2.out 2 _ rfl
  have e3 := box_cells HX2.out 3 _ rfl
  have e4 := box_cells HX2.out 4 _ rfl
  have e5 := box_cells HX2.out 5 _ rfl
  have e6 := box_cells HX2.out 6 _ rfl
  have e7 := box_cells HX2.out 7 _ rfl
  have e8 := box_cells HX2.out 8 _ rfl
  have e9 := box_cells HX2.out 9 _ rfl
  go_wp2_with fail
  go_must (go_at_call 7)
  refine NW.out.mono ?_
  clear NW e0 e1 e2 e3 e4 e5 e6 e7 e8 e9
  rintro e w3 ⟨sb, wb, rfl, ss3, ks3, b3, -⟩
  obtain ⟨mo, hmo⟩ : ∃ mo, mo = min (max cs 0) 65536 := ⟨_, rfl⟩
  obtain ⟨p0, hp0⟩ : ∃ p0 : Pw, p0 = ⟨mostOf cn, queueOf cq, false, 0, [], [], []⟩ := ⟨_, rfl⟩
  rw [← hmo] at ss3
  rw [← hp0] at ks3
  have h00 : 0 < w.heap.size := by obtain ⟨o, ho, -⟩ := H.out.1.oth; exact (Array.getElem?_eq_some_iff.1 ho).1
  have I0 := hidi (show DC w w3 sb wb mo p0 0 (.slice none 0 0) (.slice none 0 0) (.slice none 0 0) [] [] [] ∧ Dv p0 [] from
    ⟨{ ks := ks3.less (fun j hj => Nat.lt_of_lt_of_le hj HB2.out.size), ss := ss3, tk := World.ownsRow_nil _ _ _ _, t0 := fun _ => rfl, dk := World.ownsRow_nil _ _ _ _, d0 := fun _ => rfl, apt := fun j hj => (by cases hj), lk := World.ownsRow_nil _ _ _ _, pb := fun q hq => (by cases hq), bel := HB2.out.trans (b3.mono HB2.out.size), w00 := h00 }, ⟨(by rw [hp0]; rfl), (by rw [hp0]; intro f hf; cases hf), (by rw [hp0]; intro z; cases z)⟩⟩)
  clear ss3 ks3 b3 h00 hp0 hmo H1 HB2 HX2 hn hn'
  go_wp2_with fail
  go_loopg [8, 9] N (fun gk s8 s9 wx => ∃ (j : Nat) (p : Pw) (tv : Value) (MT : List Mp), j + gk = N ∧ s8 = tv ∧ s9 = .int .i64 j ∧ Hid (DC w wx sb wb mo p j tv (.slice none 0 0) (.slice none 0 0) MT [] [] ∧ Dv p MT ∧ MT.length ≤ j ∧ ∀ m ∈ MT, Gm m))
  case atStart => exact ⟨0, p0, _, [], by omega, rfl, rfl, I0.out.1, I0.out.2, Nat.le_refl _, by simp⟩
  case round =>
    obtain ⟨j, p, tv, MT, hj, hs8, rfl, HI⟩ := hrel
    replace hs8 := hs8.symm
    subst hs8
    clear I0
    obtain ⟨ta, tc, htv⟩ := own_sl HI.out.1.tk
    subst htv
    obtain ⟨nt, hnt⟩ : ∃ nt, nt = MT.length := ⟨_, rfl⟩
    rw [← hnt] at HI ⊢
    have HT := hidi hnt
    clear hnt
    by_cases hjn : j < N
    · as_aux_lemma =>
      have hlt : (j : Int) < (N : Int) := by omega
      have hge : (0 : Int) ≤ (j : Int) := by omega
      have hJ : j < 200 := by have := HN.out; omega
      have hw1 : IntKind.i64.wrap ((j : Int) + 1) = (j : Int) + 1 := by rw [IntKind.wrap_i64]; omega
      have hw8 : IntKind.u8.wrap (j : Int) = (j : Int) := by rw [IntKind.wrap_u8]; omega
      obtain ⟨qb, qo, hqa, hqc⟩ := (H.out.2.1.keep HI.out.1.bel).resolve_left (by omega)
      subst hqa
      have HQ := hidi (fun (V : World) (hb : Below w.heap.size w V) => (show V.cell? ⟨qb, qo + j, none⟩ = some (.int .i64 (Z j)) from by
        obtain ⟨b, o, e, hc⟩ := (H.out.2.1.keep hb).resolve_left (by omega)
        cases e
        exact hc j hjn))
      have k0 := hqc j hjn
      have s0 : wr.cell? ⟨sb, 0, none⟩ = some (.pointer (some ⟨wb, 0, none⟩)) := box_cells HI.out.1.ss 0 _ rfl
      clear hqc
      have HG := hidi (show MT.length ≤ j ∧ ∀ m ∈ MT, Gm m from ⟨by have := HT.out; have := HI.out.2.2.1; omega, HI.out.2.2.2⟩)
      have HD := hidi (show DC w wr sb wb mo p j (.slice ta nt tc) (.slice none 0 0) (.slice none 0 0) MT [] [] ∧ Dv p MT from ⟨HI.out.1, HI.out.2.1⟩)
      clear HI k0
      by_cases hjm : j < M
      · have hltM : (j : Int) < (M : Int) := by omega
        obtain ⟨ub, uo, hpa, huc⟩ := (H.out.2.2.keep HD.out.1.bel).resolve_left (by omega)
        subst hpa
        have k1 := huc j hjm
        obtain ⟨bj, hbj⟩ : ∃ bj, B j = bj := ⟨_, rfl⟩
        rw [hbj] at k1
        have DW := hidi (dc_down HD.out.1 HD.out.2)
        clear huc hbj
        cases bj
        · as_aux_lemma =>
          go_wp2_with fail
          go_must (go_at_call 11)
          refine DW.out.mono ?_
          clear DW k1 s0 HD
          rintro e w4 ⟨rfl, p4, h4, d4⟩
          have HD := hidi (And.intro h4 d4)
          clear h4 d4
          have kq := HQ.out w4 HD.out.1.bel
          have bA : Below w4.heap.size w4 (w4.alloc (.cells #[.int .u8 (j : Int)] 5)) := (Below.refl _ _).alloc (Nat.le_refl _) _
          obtain ⟨par, hpar⟩ : ∃ par, (Int.tmod (Z j) 2 == 0) = par := ⟨_, rfl⟩
          cases par
          · have DE := hidi (dc_del (HD.out.1.below bA) HD.out.2 (by omega) (q := 1) (y := (j : Int)) (.inl rfl) (pbi_new w4 (j : Int)))
            clear bA
            go_wp2_with fail
            go_must (go_at_call 16)
            refine DE.out.mono ?_
            clear DE kq hpar
            rintro e w6 ⟨v6, ok, p6, rfl, h6, d6⟩
            cases ok
            · have H6 := hidi (And.intro h6 d6)
              clear h6 d6
              go_wp2_with fail
              go_roundg (N - (j + 1))
              case measure => omega
              case rel => exact ⟨j + 1, p6, _, MT, by omega, rfl, by first | rfl | simp, H6.out.1, by simpa using H6.out.2, by have := HG.out.1; omega, HG.out.2⟩
            · obtain ⟨g7, cap7, w7, k7, h7⟩ := h6.take ⟨⟨#[116]⟩, 1, false, [(j : Int)]⟩ (by have := HG.out.1; omega)
              rw [← HT.out, show tb ⟨⟨#[116]⟩, 1, false, [(j : Int)]⟩ = (j : Int) from rfl] at k7
              rw [← HT.out] at h7
              have HR := hidi k7
              have H7 := hidi (And.intro h7 d6)
              clear h6 d6 k7 h7
              go_wp2_with (at_builtin; refine Lib.wpList_append_run _ rfl (.tmp 79) (.tmp 82) 43 43 rfl _ _ rfl rfl _ w7 HR.out ?_)
              go_roundg (N - (j + 1))
              case measure => omega
              case rel => exact ⟨j + 1, p6, _, MT ++ [⟨⟨#[116]⟩, 1, false, [(j : Int)]⟩], by omega, rfl, by first | rfl | simp, H7.out.1, by simpa using H7.out.2, by have := HG.out.1; rw [List.length_append, List.length_singleton]; omega, fun x hx => (List.mem_append.1 hx).elim (HG.out.2 x) (fun z => by simp only [List.mem_singleton] at z; subst z; exact ⟨.inl rfl, rfl⟩)⟩
          · have DE := hidi (dc_del (HD.out.1.below bA) HD.out.2 (by omega) (q := 2) (y := (j : Int)) (.inr rfl) (pbi_new w4 (j : Int)))
            clear bA
            go_wp2_with fail
            go_must (go_at_call 16)
            refine DE.out.mono ?_
            clear DE kq hpar
            rintro e w6 ⟨v6, ok, p6, rfl, h6, d6⟩
            cases ok
            · have H6 := hidi (And.intro h6 d6)
              clear h6 d6
              go_wp2_with fail
              go_roundg (N - (j + 1))
              case measure => omega
              case rel => exact ⟨j + 1, p6, _, MT, by omega, rfl, by first | rfl | simp, H6.out.1, by simpa using H6.out.2, by have := HG.out.1; omega, HG.out.2⟩
            · obtain ⟨g7, cap7, w7, k7, h7⟩ := h6.take ⟨⟨#[116]⟩, 2, false, [(j : Int)]⟩ (by have := HG.out.1; omega)
              rw [← HT.out, show tb ⟨⟨#[116]⟩, 2, false, [(j : Int)]⟩ = (j : Int) from rfl] at k7
              rw [← HT.out] at h7
              have HR := hidi k7
              have H7 := hidi (And.intro h7 d6)
              clear h6 d6 k7 h7
              go_wp2_with (at_builtin; refine Lib.wpList_append_run _ rfl (.tmp 79) (.tmp 82) 43 43 rfl _ _ rfl rfl _ w7 HR.out ?_)
              go_roundg (N - (j + 1))
              case measure => omega
              case rel => exact ⟨j + 1, p6, _, MT ++ [⟨⟨#[116]⟩, 2, false, [(j : Int)]⟩], by omega, rfl, by first | rfl | simp, H7.out.1, by simpa using H7.out.2, by have := HG.out.1; rw [List.length_append, List.length_singleton]; omega, fun x hx => (List.mem_append.1 hx).elim (HG.out.2 x) (fun z => by simp only [List.mem_singleton] at z; subst z; exact ⟨.inr rfl, rfl⟩)⟩
        · as_aux_lemma =>
          go_wp2_with fail
          go_must (go_at_call 11)
          refine DW.out.mono ?_
          clear DW k1 s0 HD
          rintro e w4 ⟨rfl, p4, h4, d4⟩
          have UP := hidi (dc_up h4 d4 (by omega))
          have s0 : w4.cell? ⟨sb, 0, none⟩ = some (.pointer (some ⟨wb, 0, none⟩)) := box_cells h4.ss 0 _ rfl
          clear h4 d4
          go_wp2_with fail
          go_must (go_at_call 15)
          refine UP.out.mono ?_
          clear UP s0
          rintro e w5 ⟨v5, rfl, h5, d5, -⟩
          have HD := hidi (And.intro h5 d5)
          obtain ⟨p5, hp5⟩ : ∃ p5, p5 = (pUp p4).1 := ⟨_, rfl⟩
          rw [← hp5] at HD
          clear h5 d5 hp5
          have kq := HQ.out w5 HD.out.1.bel
          have bA : Below w5.heap.size w5 (w5.alloc (.cells #[.int .u8 (j : Int)] 5)) := (Below.refl _ _).alloc (Nat.le_refl _) _
          obtain ⟨par, hpar⟩ : ∃ par, (Int.tmod (Z j) 2 == 0) = par := ⟨_, rfl⟩
          cases par
          · have DE := hidi (dc_del (HD.out.1.below bA) HD.out.2 (by omega) (q := 1) (y := (j : Int)) (.inl rfl) (pbi_new w5 (j : Int)))
            clear bA
            go_wp2_with fail
            go_must (go_at_call 16)
            refine DE.out.mono ?_
            clear DE kq hpar
            rintro e w6 ⟨v6, ok, p6, rfl, h6, d6⟩
            cases ok
            · have H6 := hidi (And.intro h6 d6)
              clear h6 d6
              go_wp2_with fail
              go_roundg (N - (j + 1))
              case measure => omega
              case rel => exact ⟨j + 1, p6, _, MT, by omega, rfl, by first | rfl | simp, H6.out.1, by simpa using H6.out.2, by have := HG.out.1; omega, HG.out.2⟩
            · obtain ⟨g7, cap7, w7, k7, h7⟩ := h6.take ⟨⟨#[116]⟩, 1, false, [(j : Int)]⟩ (by have := HG.out.1; omega)
              rw [← HT.out, show tb ⟨⟨#[116]⟩, 1, false, [(j : Int)]⟩ = (j : Int) from rfl] at k7
              rw [← HT.out] at h7
              have HR := hidi k7
              have H7 := hidi (And.intro h7 d6)
              clear h6 d6 k7 h7
              go_wp2_with (at_builtin; refine Lib.wpList_append_run _ rfl (.tmp 79) (.tmp 82) 43 43 rfl _ _ rfl rfl _ w7 HR.out ?_)
              go_roundg (N - (j + 1))
              case measure => omega
              case rel => exact ⟨j + 1, p6, _, MT ++ [⟨⟨#[116]⟩, 1, false, [(j : Int)]⟩], by omega, rfl, by first | rfl | simp, H7.out.1, by simpa using H7.out.2, by have := HG.out.1; rw [List.length_append, List.length_singleton]; omega, fun x hx => (List.mem_append.1 hx).elim (HG.out.2 x) (fun z => by simp only [List.mem_singleton] at z; subst z; exact ⟨.inl rfl, rfl⟩)⟩
          · have DE := hidi (dc_del (HD.out.1.below bA) HD.out.2 (by omega) (q := 2) (y := (j : Int)) (.inr rfl) (pbi_new w5 (j : Int)))
            clear bA
            go_wp2_with fail
            go_must (go_at_call 16)
            refine DE.out.mono ?_
            clear DE kq hpar
            rintro e w6 ⟨v6, ok, p6, rfl, h6, d6⟩
            cases ok
            · have H6 := hidi (And.intro h6 d6)
              clear h6 d6
              go_wp2_with fail
              go_roundg (N - (j + 1))
              case measure => omega
              case rel => exact ⟨j + 1, p6, _, MT, by omega, rfl, by first | rfl | simp, H6.out.1, by simpa using H6.out.2, by have := HG.out.1; omega, HG.out.2⟩
            · obtain ⟨g7, cap7, w7, k7, h7⟩ := h6.take ⟨⟨#[116]⟩, 2, false, [(j : Int)]⟩ (by have := HG.out.1; omega)
              rw [← HT.out, show tb ⟨⟨#[116]⟩, 2, false, [(j : Int)]⟩ = (j : Int) from rfl] at k7
              rw [← HT.out] at h7
              have HR := hidi k7
              have H7 := hidi (And.intro h7 d6)
              clear h6 d6 k7 h7
              go_wp2_with (at_builtin; refine Lib.wpList_append_run _ rfl (.tmp 79) (.tmp 82) 43 43 rfl _ _ rfl rfl _ w7 HR.out ?_)
              go_roundg (N - (j + 1))
              case measure => omega
              case rel => exact ⟨j + 1, p6, _, MT ++ [⟨⟨#[116]⟩, 2, false, [(j : Int)]⟩], by omega, rfl, by first | rfl | simp, H7.out.1, by simpa using H7.out.2, by have := HG.out.1; rw [List.length_append, List.length_singleton]; omega, fun x hx => (List.mem_append.1 hx).elim (HG.out.2 x) (fun z => by simp only [List.mem_singleton] at z; subst z; exact ⟨.inr rfl, rfl⟩)⟩
      · as_aux_lemma =>
        have hltM : ¬ (j : Int) < (M : Int) := by omega
        clear s0
        have kq := HQ.out wr HD.out.1.bel
        have bA : Below wr.heap.size wr (wr.alloc (.cells #[.int .u8 (j : Int)] 5)) := (Below.refl _ _).alloc (Nat.le_refl _) _
        obtain ⟨par, hpar⟩ : ∃ par, (Int.tmod (Z j) 2 == 0) = par := ⟨_, rfl⟩
        cases par
        · have DE := hidi (dc_del (HD.out.1.below bA) HD.out.2 (by omega) (q := 1) (y := (j : Int)) (.inl rfl) (pbi_new wr (j : Int)))
          clear bA
          go_wp2_with fail
          go_must (go_at_call 16)
          refine DE.out.mono ?_
          clear DE kq hpar
          rintro e w6 ⟨v6, ok, p6, rfl, h6, d6⟩
          cases ok
          · have H6 := hidi (And.intro h6 d6)
            clear h6 d6
            go_wp2_with fail
            go_roundg (N - (j + 1))
            case measure => omega
            case rel => exact ⟨j + 1, p6, _, MT, by omega, rfl, by first | rfl | simp, H6.out.1, by simpa using H6.out.2, by have := HG.out.1; omega, HG.out.2⟩
          · obtain ⟨g7, cap7, w7, k7, h7⟩ := h6.take ⟨⟨#[116]⟩, 1, false, [(j : Int)]⟩ (by have := HG.out.1; omega)
            rw [← HT.out, show tb ⟨⟨#[116]⟩, 1, false, [(j : Int)]⟩ = (j : Int) from rfl] at k7
            rw [← HT.out] at h7
            have HR := hidi k7
            have H7 := hidi (And.intro h7 d6)
            clear h6 d6 k7 h7
            go_wp2_with (at_builtin; refine Lib.wpList_append_run _ rfl (.tmp 79) (.tmp 82) 43 43 rfl _ _ rfl rfl _ w7 HR.out ?_)
            go_roundg (N - (j + 1))
            case measure => omega
            case rel => exact ⟨j + 1, p6, _, MT ++ [⟨⟨#[116]⟩, 1, false, [(j : Int)]⟩], by omega, rfl, by first | rfl | simp, H7.out.1, by simpa using H7.out.2, by have := HG.out.1; rw [List.length_append, List.length_singleton]; omega, fun x hx => (List.mem_append.1 hx).elim (HG.out.2 x) (fun z => by simp only [List.mem_singleton] at z; subst z; exact ⟨.inl rfl, rfl⟩)⟩
        · have DE := hidi (dc_del (HD.out.1.below bA) HD.out.2 (by omega) (q := 2) (y := (j : Int)) (.inr rfl) (pbi_new wr (j : Int)))
          clear bA
          go_wp2_with fail
          go_must (go_at_call 16)
          refine DE.out.mono ?_
          clear DE kq hpar
          rintro e w6 ⟨v6, ok, p6, rfl, h6, d6⟩
          cases ok
          · have H6 := hidi (And.intro h6 d6)
            clear h6 d6
            go_wp2_with fail
            go_roundg (N - (j + 1))
            case measure => omega
            case rel => exact ⟨j + 1, p6, _, MT, by omega, rfl, by first | rfl | simp, H6.out.1, by simpa using H6.out.2, by have := HG.out.1; omega, HG.out.2⟩
          · obtain ⟨g7, cap7, w7, k7, h7⟩ := h6.take ⟨⟨#[116]⟩, 2, false, [(j : Int)]⟩ (by have := HG.out.1; omega)
            rw [← HT.out, show tb ⟨⟨#[116]⟩, 2, false, [(j : Int)]⟩ = (j : Int) from rfl] at k7
            rw [← HT.out] at h7
            have HR := hidi k7
            have H7 := hidi (And.intro h7 d6)
            clear h6 d6 k7 h7
            go_wp2_with (at_builtin; refine Lib.wpList_append_run _ rfl (.tmp 79) (.tmp 82) 43 43 rfl _ _ rfl rfl _ w7 HR.out ?_)
            go_roundg (N - (j + 1))
            case measure => omega
            case rel => exact ⟨j + 1, p6, _, MT ++ [⟨⟨#[116]⟩, 2, false, [(j : Int)]⟩], by omega, rfl, by first | rfl | simp, H7.out.1, by simpa using H7.out.2, by have := HG.out.1; rw [List.length_append, List.length_singleton]; omega, fun x hx => (List.mem_append.1 hx).elim (HG.out.2 x) (fun z => by simp only [List.mem_singleton] at z; subst z; exact ⟨.inr rfl, rfl⟩)⟩
    · as_aux_lemma =>
      have hlt : ¬ (j : Int) < (N : Int) := by omega
      have hJ : j ≤ 200 := by have := HN.out; omega
      have DW := hidi (dc_down HI.out.1 HI.out.2.1)
      have s0 : wr.cell? ⟨sb, 0, none⟩ = some (.pointer (some ⟨wb, 0, none⟩)) := box_cells HI.out.1.ss 0 _ rfl
      have HG := hidi (show nt ≤ 200 ∧ ∀ m ∈ MT, Gm m from ⟨by have := HI.out.2.2.1; omega, HI.out.2.2.2⟩)
      clear HI
      go_wp2_with fail
      go_must (go_at_call 11)
      refine DW.out.mono ?_
      clear DW s0
      rintro e w4 ⟨rfl, p4, h4, d4⟩
      have UP := hidi (dc_up h4 d4 (by omega))
      have s0 : w4.cell? ⟨sb, 0, none⟩ = some (.pointer (some ⟨wb, 0, none⟩)) := box_cells h4.ss 0 _ rfl
      have hak := d4.ak
      clear h4 d4
      go_wp2_with fail
      go_must (go_at_call 15)
      refine UP.out.mono ?_
      clear UP s0
      rintro e w5 ⟨v5, rfl, h5, -, l5, hg5⟩
      obtain ⟨S5, hS5, hdc⟩ := h5.list l5 hg5
      rw [← hS5] at hak
      obtain ⟨pz, hpz⟩ : ∃ pz, pz = (pUp p4).1 := ⟨_, rfl⟩
      rw [← hpz] at hak hdc
      have I0 := hidi (And.intro hdc hak)
      clear h5 l5 hg5 hS5 hpz hdc hak hlt hj H hjn
      go_wp2_with fail
      go_loopg [13, 14, 15] (2 * nt + 1) (fun gk s13 s14 s15 wx => ∃ (i : Nat) (p : Pw) (dv lv : Value) (MD : List Mp) (S : List Pq), i + gk = 2 * nt + 1 ∧ s13 = dv ∧ s14 = lv ∧ s15 = .int .i64 i ∧ Hid (DC w wx sb wb mo p j (.slice ta nt tc) dv lv MT MD S ∧ Ak p (S.map Pq.p) MD MT i))
      case atStart => exact ⟨0, pz, _, _, [], S5, by omega, rfl, rfl, rfl, I0.out.1, I0.out.2⟩
      case round =>
        obtain ⟨i, p, dv, lv, MD, S, hi, h13, h14, rfl, HI⟩ := hrel
        replace h13 := h13.symm
        replace h14 := h14.symm
        subst h13 h14
        clear I0
        have hnt : nt ≤ 200 := HG.out.1
        have hfac := HI.out.1.ks.facts
        cases S with
        | nil => as_aux_lemma =>
          obtain ⟨la, lc, hlv⟩ := own_sl HI.out.1.lk
          subst hlv
          obtain ⟨hfl, hwt, hMD⟩ := Ak.done HI.out.2 hfac.2.2.2.2.2.1
          subst hMD
          have IM := hidi (simage_any HI.out.1.ks HI.out.1.ss (by omega))
          rw [hfl, hwt] at IM
          simp only [List.length_nil] at IM
          obtain ⟨da, dcp, hdv⟩ := own_sl HI.out.1.dk
          subst hdv
          have HDC := hidi HI.out.1
          obtain ⟨ls, hls⟩ : ∃ ls : Int, ls = (p.last : Int) := ⟨_, rfl⟩
          rw [← hls] at IM
          obtain ⟨st, hst⟩ : ∃ st, st = strL (MD.map tb) := ⟨_, rfl⟩
          clear HI hfac hfl hwt hls
          go_wp2_with fail
          go_must (go_at_call 9)
          refine IM.out.mono ?_
          clear IM
          rintro e w6 ⟨sa, sc, fa, fc, qa6, qc6, ia, ic, rfl, hb6⟩
          obtain ⟨w7, hw7⟩ : ∃ w7, w7 = w6.alloc (.cells #[.string ⟨#[107]⟩, .slice sa 0 sc, .int .i64 ls, .slice fa 0 fc, .slice qa6 0 qc6, .slice ia 0 ic] 34) := ⟨_, rfl⟩
          have x7 := heap_alloc_new w6 (.cells #[.string ⟨#[107]⟩, .slice sa 0 sc, .int .i64 ls, .slice fa 0 fc, .slice qa6 0 qc6, .slice ia 0 ic] 34)
          have b7 : Below w6.heap.size w6 (w6.alloc (.cells #[.string ⟨#[107]⟩, .slice sa 0 sc, .int .i64 ls, .slice fa 0 fc, .slice qa6 0 qc6, .slice ia 0 ic] 34)) := (Below.refl _ _).alloc (Nat.le_refl _) _
          rw [← hw7] at x7 b7
          have h7 := (HDC.out.below hb6).below b7
          have cT := h7.convT
          have cD := h7.convD
          rw [← hst] at cT cD
          have d3 : w7.cell? ⟨w6.heap.size, 3, none⟩ = some (.slice fa 0 fc) := box_cells x7 3 _ rfl
          have d4 : w7.cell? ⟨w6.heap.size, 4, none⟩ = some (.slice qa6 0 qc6) := box_cells x7 4 _ rfl
          have HB7 := hidi h7.bel
          clear x7 b7 h7 hb6 hst
          go_upto_region 41 with fail
          rw [← hw7]
          clear hw7
          go_wp2_with fail
          go_ret
          exact ⟨rfl, HB7.out⟩
        | cons x S =>
          have hii := Ak.rounds HI.out.2
          have hLM : MD.length ≤ MT.length := by
            have := congrArg List.length HI.out.2.tk
            simp only [List.length_append] at this
            omega
          have hi2 : i < 2 * nt := by have := HT.out; omega
          have hlti : (i : Int) < 1000 := by omega
          have hw1 : IntKind.i64.wrap ((i : Int) + 1) = (i : Int) + 1 := by rw [IntKind.wrap_i64]; omega
          have hSl : S.length + 1 ≤ 65535 := by
            have h1 := HI.out.2.pm.length_eq
            simp only [List.length_map, List.length_cons] at h1
            omega
          have hgt : ((S.length + 1 : Nat) : Int) > 0 := by omega
          have hgt' : (0 : Int) < ((S.length + 1 : Nat) : Int) := hgt
          have hgt2 : (0 : Int) < (S.length : Int) + 1 := by omega
          obtain ⟨lg, cap, hlv, hrg, hlg, ad, hsl, htl⟩ := HI.out.1.head
          subst hlv
          obtain ⟨da, dcp, hdv⟩ := own_sl HI.out.1.dk
          subst hdv
          obtain ⟨nd, hnd⟩ : ∃ nd, nd = MD.length := ⟨_, rfl⟩
          have hpbx := HI.out.1.pb x (by simp)
          obtain ⟨f, hf, hfx⟩ := Ak.flight HI.out.2
          obtain ⟨id, hxid, hid⟩ : ∃ id : Nat, x.id = (id : Int) ∧ id ≤ 65535 := by
            refine ⟨f.id, ?_, (hfac.2.1 f.id (List.mem_append.2 (.inl (List.mem_map.2 ⟨f, hf, rfl⟩)))).2⟩
            have h9 := hfx
            unfold fpk nf Pq.p at h9
            cases hr : f.rel <;> rw [hr] at h9 <;> simp at h9 <;> exact h9.2.1.symm
          have hst := Ak.step HI.out.2 (List.nodup_append.1 hfac.1).1 (fun m hm => (HG.out.2 m hm).1)
          rw [← hnd] at HI ⊢
          obtain ⟨xk, xd, xid, ⟨xt, xv, xq, xr, xs⟩⟩ := x
          obtain ⟨xa, xn, xc, hxv⟩ := hpbx.sl
          simp only at hxid hxv hpbx
          subst hxid hxv
          simp only [Pq.p, Ms.p] at hst
          have x1 := heap_alloc_new wr (.cells #[.int .i64 0, .int .i64 0, .bool false, .int .i64 0, .string ⟨#[]⟩, .bool false, .string ⟨#[]⟩, .slice none 0 0, .int .i64 0, .bool false, .bool false, .string ⟨#[]⟩, .bool false, .slice none 0 0, .bool false, .int .i64 0, .bool false, .string ⟨#[]⟩, .slice none 0 0, .int .i64 0, .bool false, .int .i64 0, .slice none 0 0, .slice none 0 0, .slice none 0 0] 66)
          obtain ⟨w1, hw1e⟩ : ∃ w1, w1 = (wr.alloc (.cells #[.int .i64 0, .int .i64 0, .bool false, .int .i64 0, .string ⟨#[]⟩, .bool false, .string ⟨#[]⟩, .slice none 0 0, .int .i64 0, .bool false, .bool false, .string ⟨#[]⟩, .bool false, .slice none 0 0, .bool false, .int .i64 0, .bool false, .string ⟨#[]⟩, .slice none 0 0, .int .i64 0, .bool false, .int .i64 0, .slice none 0 0, .slice none 0 0, .slice none 0 0] 66)).setRow wr.heap.size (pkc xk xd xt (.slice xa xn xc) xq xr (id : Int)) := ⟨_, rfl⟩
          have p1 : w1.heap[wr.heap.size]? = some (.cells (pkc xk xd xt (.slice xa xn xc) xq xr (id : Int)) 66 (0, 0)) := by rw [hw1e]; exact setRow_at x1
          have b1 : Below wr.heap.size wr w1 := by rw [hw1e]; exact below_row ((Below.refl _ _).alloc (Nat.le_refl _) _) (Nat.le_refl _) _
          have htl1 : ∀ j u, (prow S)[j]? = some u → w1.cell? (ad.add j) = some u := fun j u hu => (cell_heap (b1.block _ (World.block_lt_of_cell? _ _ (htl j u hu)))).trans (htl j u hu)
          obtain ⟨lv2, w2, k2, h2, b2, hfr⟩ := (HI.out.1.below b1).tail (k := cap - 1) htl1 (by omega)
          obtain ⟨la2, lc2, hlv2⟩ := own_sl h2.lk
          subst hlv2
          have HR2 := hidi k2
          have HRG := hidi hrg
          have HX1 := hidi x1
          have hsz1 : wr.heap.size < w1.heap.size := (Array.getElem?_eq_some_iff.1 p1).1
          have HD2 := hidi (And.intro h2 (later_at p1 b2))
          have HFR := hidi (fun g hg => Nat.lt_of_lt_of_le hsz1 (hfr g hg))
          have HPB := hidi (hpbx.keep (Kb.below (b1.trans (b2.mono b1.size))))
          have HLD := hidi hnd
          have HLM := hidi (show MD.length ≤ 200 by have := HT.out; omega)
          have HLX := hidi (show ∀ (p' : Pw) (k : Int) (d : Nat), p' = p → S.length + (pAck p' k d).2.length ≤ 1000000 from fun p' k d e => by
            subst e
            have := ack_len p' k d
            have := hfac.2.2.1
            have := hfac.2.2.2.1
            have := hfac.2.2.2.2.2.2
            omega)
          have HPM := hidi (show True ∧ ((⟨xt, xq, xr, xs⟩ : Mp) ∈ MT → xs.length = 1) from ⟨trivial, fun hm => (HG.out.2 _ hm).2⟩)
          clear HI k2 h2 b2 b1 p1 x1 hfr htl htl1 hpbx hfac hf hfx hii hLM hrg hnd
          go_upto_region 30 with (first | (refine wpList_mid66 rfl _ rfl lg 0 rfl (pkc xk xd xt (.slice xa xn xc) xq xr (id : Int)) HRG.out rfl ?_) | (refine wpList_store_row rfl 66 _ _ rfl wr.heap.size (pkc xk xd xt (.slice xa xn xc) xq xr (id : Int)) rfl rfl 66 _ HX1.out pkc_info rfl (pkc_one _ _ _ _ _ _ _ _ _) ?_))
          rw [← hw1e]
          clear hw1e
          go_upto_region 32 with (at_builtin; refine Lib.wpList_append_run _ rfl _ _ 38 38 rfl _ _ rfl rfl _ w2 HR2.out ?_)
          clear hsl
          rcases hst with ⟨hk, hm, hq, hA⟩ | ⟨hk, hm, hq, hA⟩ | ⟨hk, hA⟩
          · as_aux_lemma =>
            subst hk hq
            have HAK := hidi hA
            clear hA
            have hlen := HPM.out.2 hm
            obtain ⟨yb, yc, hyv, hyc⟩ := PB.one HPB.out hlen
            cases hyv
            have i0 : w2.cell? ⟨wr.heap.size, 0, none⟩ = some (.int .i64 3) := box_cells HD2.out.2 0 _ rfl
            have i18 : w2.cell? ⟨wr.heap.size, 18, none⟩ = some (.slice (some ⟨yb, 0, none⟩) 1 xc) := box_cells HD2.out.2 18 _ rfl
            have i19 : w2.cell? ⟨wr.heap.size, 19, none⟩ = some (.int .i64 1) := box_cells HD2.out.2 19 _ rfl
            obtain ⟨g3, cap3, w3, k3, h3, c3⟩ := HD2.out.1.tell ⟨xt, 1, xr, xs⟩ (by have := HLM.out; omega)
            rw [← HLD.out] at k3 h3
            obtain ⟨y, hy⟩ : ∃ y, y = tb ⟨xt, 1, xr, xs⟩ := ⟨_, rfl⟩
            have hyc' : w2.cell? ⟨yb, 0, none⟩ = some (.int .u8 y) := by rw [hy]; exact hyc
            rw [← hy] at k3
            have y3 : w3.heap[wr.heap.size]? = _ := (c3.block _ (Array.getElem?_eq_some_iff.1 HD2.out.2).1 (fun z => by obtain ⟨cs, e⟩ := five_at HD2.out.1.dk z; rw [HD2.out.2] at e; simp at e)).trans HD2.out.2
            have HR3 := hidi k3
            have HD3 := hidi (And.intro h3 y3)
            clear hyc k3 h3 c3 y3 hy hlen hm
            go_upto_region 34 with (at_builtin; refine Lib.wpList_append_run _ rfl (.tmp 126) (.tmp 132) 43 43 rfl _ _ rfl rfl _ w3 HR3.out ?_)
            clear i0 i18 i19 hyc'
            have a0 : w3.cell? ⟨sb, 0, none⟩ = some (.pointer (some ⟨wb, 0, none⟩)) := box_cells HD3.out.1.ss 0 _ rfl
            have a1 : w3.cell? ⟨wr.heap.size, 21, none⟩ = some (.int .i64 (id : Int)) := box_cells HD3.out.2 21 _ rfl
            have AK := hidi (dc_ack (W := w3.drew) (HD3.out.1.below (Below.refl _ _).drew) (by omega) 4 hid)
            refine wp_region_held_drew (S := fun w' => w'.cell? ⟨sb, 0, none⟩ = some (.pointer (some ⟨wb, 0, none⟩)) ∧ w'.cell? ⟨wr.heap.size, 21, none⟩ = some (.int .i64 (id : Int))) (by kernel_rfl) ⟨a0, a1⟩ (fun hHeld => ?_)
            change wpAnyH _ _ _ _ _ 10 #[false, false, false, false, false, false, false, false, false, false] _ (World.drew _)
            refine wpAnyH_take (i := 0) (oi := { dst := some 134, op := Go.Op.move (Go.Operand.tmp 14), type := 38, pos := "outright.go:132", after := #[], guard := none }) (v := .slice la2 S.length lc2) rfl (by kernel_rfl) (by kernel_rfl) (by kernel_rfl) (fun _ _ _ h => h) (Or.inl ⟨by kernel_rfl, by intro wq hSw; (try dsimp only at hSw); clear hHeld; go_simp⟩) hHeld ?_
            simp only [Act.put, List.setIfInBounds_toArray, List.set_cons_zero, List.set_cons_succ]
            refine wpAnyH_take (i := 1) (oi := { dst := some 135, op := Go.Op.move (Go.Operand.tmp 7), type := 36, pos := "outright.go:132", after := #[], guard := none }) (v := .pointer (some ⟨sb, 0, none⟩)) rfl (by kernel_rfl) (by kernel_rfl) (by kernel_rfl) (fun _ _ _ h => h) (Or.inl ⟨by kernel_rfl, by intro wq hSw; (try dsimp only at hSw); clear hHeld; go_simp⟩) hHeld ?_
            simp only [Act.put, List.setIfInBounds_toArray, List.set_cons_zero, List.set_cons_succ]
            refine wpAnyH_take (i := 2) (oi := { dst := some 136, op := Go.Op.nilCheck (Go.Operand.tmp 135), type := 0, pos := "outright.go:132", after := #[{ on := 1, ground := Go.Ground.data }], guard := none }) (v := .pointer (some ⟨sb, 0, none⟩)) rfl (by kernel_rfl) (by kernel_rfl) (by kernel_rfl) (fun _ _ _ h => h) (Or.inl ⟨by kernel_rfl, by intro wq hSw; (try dsimp only at hSw); clear hHeld; go_simp⟩) hHeld ?_
            simp only [Act.put, List.setIfInBounds_toArray, List.set_cons_zero, List.set_cons_succ]
            refine wpAnyH_take (i := 3) (oi := { dst := some 137, op := Go.Op.fieldAddr 56 (Go.Operand.tmp 136) 0, type := 0, pos := "outright.go:132", after := #[{ on := 2, ground := Go.Ground.data }], guard := none }) (v := .pointer (some ⟨sb, 0, none⟩)) rfl (by kernel_rfl) (by kernel_rfl) (by kernel_rfl) (fun _ _ _ h => h) (Or.inl ⟨by kernel_rfl, by intro wq hSw; (try dsimp only at hSw); clear hHeld; go_simp⟩) hHeld ?_
            simp only [Act.put, List.setIfInBounds_toArray, List.set_cons_zero, List.set_cons_succ]
            refine wpAnyH_take (i := 4) (oi := { dst := some 138, op := Go.Op.load 52 (Go.Operand.tmp 137), type := 52, pos := "outright.go:132", after := #[{ on := 3, ground := Go.Ground.data }], guard := none }) (v := .pointer (some ⟨wb, 0, none⟩)) rfl (by kernel_rfl) (by kernel_rfl) (by kernel_rfl) (fun _ _ _ h => h) (Or.inl ⟨by kernel_rfl, by intro wq hSw; (try dsimp only at hSw); clear hHeld; go_simp⟩) hHeld ?_
            simp only [Act.put, List.setIfInBounds_toArray, List.set_cons_zero, List.set_cons_succ]
            refine wpAnyH_take (i := 5) (oi := { dst := some 139, op := Go.Op.fieldAddr 66 (Go.Operand.tmp 16) 15, type := 0, pos := "outright.go:132", after := #[], guard := none }) (v := .pointer (some ⟨wr.heap.size, 21, none⟩)) rfl (by kernel_rfl) (by kernel_rfl) (by kernel_rfl) (fun _ _ _ h => h) (Or.inl ⟨by kernel_rfl, by intro wq hSw; (try dsimp only at hSw); clear hHeld; go_simp⟩) hHeld ?_
            simp only [Act.put, List.setIfInBounds_toArray, List.set_cons_zero, List.set_cons_succ]
            refine wpAnyH_take (i := 6) (oi := { dst := some 140, op := Go.Op.load 3 (Go.Operand.tmp 139), type := 3, pos := "outright.go:132", after := #[{ on := 5, ground := Go.Ground.data }], guard := none }) (v := .int .i64 (id : Int)) rfl (by kernel_rfl) (by kernel_rfl) (by kernel_rfl) (fun _ _ _ h => h) (Or.inl ⟨by kernel_rfl, by intro wq hSw; (try dsimp only at hSw); clear hHeld; go_simp⟩) hHeld ?_
            simp only [Act.put, List.setIfInBounds_toArray, List.set_cons_zero, List.set_cons_succ]
            refine wpAnyH_ready (rs := [7]) (by kernel_rfl) (by simp) ?_
            refine AllReadyH.cons (o := { dst := some 141, op := Go.Op.call { callee := Go.Callee.value (Go.Operand.func 17), args := #[Go.Operand.tmp 138, Go.Operand.const (Go.Value.int Go.IntKind.i64 4), Go.Operand.tmp 140], argTypes := #[52, 3, 3] }, type := 38, pos := "outright.go:132", after := #[{ on := 4, ground := Go.Ground.data }, { on := 6, ground := Go.Ground.data }], guard := none }) (by rfl) (fun K hK => ?_) AllReadyH.nil
            go_simp
            go_wp2_with (go_at_call 17; refine (AK.out).mono ?_; rintro e w5 ⟨v5, rfl, h5, l5, o5⟩)
            clear a0 a1 hHeld AK
            have y5 := o5 _ _ HD3.out.2 (other66 _ _)
            have a0 : w5.cell? ⟨sb, 0, none⟩ = some (.pointer (some ⟨wb, 0, none⟩)) := box_cells h5.ss 0 _ rfl
            have a1 : w5.cell? ⟨wr.heap.size, 21, none⟩ = some (.int .i64 (id : Int)) := box_cells y5 21 _ rfl
            obtain ⟨lv6, w6, SX, k6, hSX, h6, c6⟩ := h5.more l5 (by have := HLX.out p 4 id rfl; omega)
            have y6 : w6.heap[wr.heap.size]? = _ := (c6.block _ (Array.getElem?_eq_some_iff.1 y5).1 (fun z => by have := HFR.out _ z; omega)).trans y5
            have b0 : w6.cell? ⟨sb, 0, none⟩ = some (.pointer (some ⟨wb, 0, none⟩)) := box_cells h6.ss 0 _ rfl
            have b1 : w6.cell? ⟨wr.heap.size, 21, none⟩ = some (.int .i64 (id : Int)) := box_cells y6 21 _ rfl
            have HR6 := hidi k6
            have H6 := hidi (And.intro h6 hSX)
            clear l5 o5 y5 y6 c6 h5 h6 hSX k6
            refine hK.out _ _ ⟨a0, a1⟩ (fun hHeld => ?_)
            clear hK K
            (try simp only [Act.put, List.setIfInBounds_toArray, List.set_cons_zero, List.set_cons_succ])
            refine wpAnyH_ready (rs := [8]) (by kernel_rfl) (by simp) ?_
            refine AllReadyH.cons (o := { dst := some 142, op := Go.Op.call { callee := Go.Callee.builtin Go.Builtin.append, args := #[Go.Operand.tmp 134, Go.Operand.tmp 141], argTypes := #[38, 38] }, type := 38, pos := "outright.go:132", after := #[{ on := 0, ground := Go.Ground.data }, { on := 7, ground := Go.Ground.data }, { on := 7, ground := Go.Ground.chain }], guard := none }) (by rfl) (fun K hK => ?_) AllReadyH.nil
            refine step_app (P := Tryz.prog) (o := { dst := some 142, op := Go.Op.call { callee := Go.Callee.builtin Go.Builtin.append, args := #[Go.Operand.tmp 134, Go.Operand.tmp 141], argTypes := #[38, 38] }, type := 38, pos := "outright.go:132", after := #[{ on := 0, ground := Go.Ground.data }, { on := 7, ground := Go.Ground.data }, { on := 7, ground := Go.Ground.chain }], guard := none }) rfl (.tmp 134) (.tmp 141) 38 38 rfl (.slice la2 S.length lc2) v5 rfl rfl lv6 w6 HR6.out ?_
            refine hK.out _ _ ⟨b0, b1⟩ (fun hHeld => ?_)
            clear hK K
            (try simp only [Act.put, List.setIfInBounds_toArray, List.set_cons_zero, List.set_cons_succ])
            refine wpAnyH_take (i := 9) (oi := { dst := some 14, op := Go.Op.assign (Go.Operand.tmp 142), type := 38, pos := "outright.go:132", after := #[{ on := 8, ground := Go.Ground.data }, { on := 8, ground := Go.Ground.chain }, { on := 0, ground := Go.Ground.phase }, { on := 1, ground := Go.Ground.phase }, { on := 2, ground := Go.Ground.phase }, { on := 3, ground := Go.Ground.phase }, { on := 4, ground := Go.Ground.phase }, { on := 5, ground := Go.Ground.phase }, { on := 6, ground := Go.Ground.phase }, { on := 7, ground := Go.Ground.phase }, { on := 8, ground := Go.Ground.phase }], guard := none }) (v := lv6) rfl (by kernel_rfl) (by kernel_rfl) (by kernel_rfl) (fun _ _ _ h => h) (Or.inl ⟨by kernel_rfl, by intro wq hSw; (try dsimp only at hSw); clear hHeld; go_simp⟩) hHeld ?_
            simp only [Act.put, List.setIfInBounds_toArray, List.set_cons_zero, List.set_cons_succ]
            refine wpAnyH_done (by kernel_rfl) ?_ _
            clear hHeld a0 a1 b0 b1
            go_wp2_with fail
            go_roundg (2 * nt + 1 - (i + 1))
            case measure => omega
            case rel => exact ⟨i + 1, _, _, _, MD ++ [⟨xt, 1, xr, xs⟩], S ++ SX, by omega, rfl, rfl, by first | rfl | simp, H6.out.1, by rw [List.map_append, H6.out.2]; exact HAK.out⟩
          · as_aux_lemma =>
            subst hk hq
            have HAK := hidi hA
            clear hA
            have hlen := HPM.out.2 hm
            obtain ⟨yb, yc, hyv, hyc⟩ := PB.one HPB.out hlen
            cases hyv
            have i0 : w2.cell? ⟨wr.heap.size, 0, none⟩ = some (.int .i64 3) := box_cells HD2.out.2 0 _ rfl
            have i18 : w2.cell? ⟨wr.heap.size, 18, none⟩ = some (.slice (some ⟨yb, 0, none⟩) 1 xc) := box_cells HD2.out.2 18 _ rfl
            have i19 : w2.cell? ⟨wr.heap.size, 19, none⟩ = some (.int .i64 2) := box_cells HD2.out.2 19 _ rfl
            obtain ⟨g3, cap3, w3, k3, h3, c3⟩ := HD2.out.1.tell ⟨xt, 2, xr, xs⟩ (by have := HLM.out; omega)
            rw [← HLD.out] at k3 h3
            obtain ⟨y, hy⟩ : ∃ y, y = tb ⟨xt, 2, xr, xs⟩ := ⟨_, rfl⟩
            have hyc' : w2.cell? ⟨yb, 0, none⟩ = some (.int .u8 y) := by rw [hy]; exact hyc
            rw [← hy] at k3
            have y3 : w3.heap[wr.heap.size]? = _ := (c3.block _ (Array.getElem?_eq_some_iff.1 HD2.out.2).1 (fun z => by obtain ⟨cs, e⟩ := five_at HD2.out.1.dk z; rw [HD2.out.2] at e; simp at e)).trans HD2.out.2
            have HR3 := hidi k3
            have HD3 := hidi (And.intro h3 y3)
            clear hyc k3 h3 c3 y3 hy hlen hm
            go_upto_region 37 with (at_builtin; refine Lib.wpList_append_run _ rfl (.tmp 160) (.tmp 166) 43 43 rfl _ _ rfl rfl _ w3 HR3.out ?_)
            clear i0 i18 i19 hyc'
            have a0 : w3.cell? ⟨sb, 0, none⟩ = some (.pointer (some ⟨wb, 0, none⟩)) := box_cells HD3.out.1.ss 0 _ rfl
            have a1 : w3.cell? ⟨wr.heap.size, 21, none⟩ = some (.int .i64 (id : Int)) := box_cells HD3.out.2 21 _ rfl
            have AK := hidi (dc_ack (W := w3.drew) (HD3.out.1.below (Below.refl _ _).drew) (by omega) 5 hid)
            refine wp_region_held_drew (S := fun w' => w'.cell? ⟨sb, 0, none⟩ = some (.pointer (some ⟨wb, 0, none⟩)) ∧ w'.cell? ⟨wr.heap.size, 21, none⟩ = some (.int .i64 (id : Int))) (by kernel_rfl) ⟨a0, a1⟩ (fun hHeld => ?_)
            change wpAnyH _ _ _ _ _ 10 #[false, false, false, false, false, false, false, false, false, false] _ (World.drew _)
            refine wpAnyH_take (i := 0) (oi := { dst := some 168, op := Go.Op.move (Go.Operand.tmp 14), type := 38, pos := "outright.go:135", after := #[], guard := none }) (v := .slice la2 S.length lc2) rfl (by kernel_rfl) (by kernel_rfl) (by kernel_rfl) (fun _ _ _ h => h) (Or.inl ⟨by kernel_rfl, by intro wq hSw; (try dsimp only at hSw); clear hHeld; go_simp⟩) hHeld ?_
            simp only [Act.put, List.setIfInBounds_toArray, List.set_cons_zero, List.set_cons_succ]
            refine wpAnyH_take (i := 1) (oi := { dst := some 169, op := Go.Op.move (Go.Operand.tmp 7), type := 36, pos := "outright.go:135", after := #[], guard := none }) (v := .pointer (some ⟨sb, 0, none⟩)) rfl (by kernel_rfl) (by kernel_rfl) (by kernel_rfl) (fun _ _ _ h => h) (Or.inl ⟨by kernel_rfl, by intro wq hSw; (try dsimp only at hSw); clear hHeld; go_simp⟩) hHeld ?_
            simp only [Act.put, List.setIfInBounds_toArray, List.set_cons_zero, List.set_cons_succ]
            refine wpAnyH_take (i := 2) (oi := { dst := some 170, op := Go.Op.nilCheck (Go.Operand.tmp 169), type := 0, pos := "outright.go:135", after := #[{ on := 1, ground := Go.Ground.data }], guard := none }) (v := .pointer (some ⟨sb, 0, none⟩)) rfl (by kernel_rfl) (by kernel_rfl) (by kernel_rfl) (fun _ _ _ h => h) (Or.inl ⟨by kernel_rfl, by intro wq hSw; (try dsimp only at hSw); clear hHeld; go_simp⟩) hHeld ?_
            simp only [Act.put, List.setIfInBounds_toArray, List.set_cons_zero, List.set_cons_succ]
            refine wpAnyH_take (i := 3) (oi := { dst := some 171, op := Go.Op.fieldAddr 56 (Go.Operand.tmp 170) 0, type := 0, pos := "outright.go:135", after := #[{ on := 2, ground := Go.Ground.data }], guard := none }) (v := .pointer (some ⟨sb, 0, none⟩)) rfl (by kernel_rfl) (by kernel_rfl) (by kernel_rfl) (fun _ _ _ h => h) (Or.inl ⟨by kernel_rfl, by intro wq hSw; (try dsimp only at hSw); clear hHeld; go_simp⟩) hHeld ?_
            simp only [Act.put, List.setIfInBounds_toArray, List.set_cons_zero, List.set_cons_succ]
            refine wpAnyH_take (i := 4) (oi := { dst := some 172, op := Go.Op.load 52 (Go.Operand.tmp 171), type := 52, pos := "outright.go:135", after := #[{ on := 3, ground := Go.Ground.data }], guard := none }) (v := .pointer (some ⟨wb, 0, none⟩)) rfl (by kernel_rfl) (by kernel_rfl) (by kernel_rfl) (fun _ _ _ h => h) (Or.inl ⟨by kernel_rfl, by intro wq hSw; (try dsimp only at hSw); clear hHeld; go_simp⟩) hHeld ?_
            simp only [Act.put, List.setIfInBounds_toArray, List.set_cons_zero, List.set_cons_succ]
            refine wpAnyH_take (i := 5) (oi := { dst := some 173, op := Go.Op.fieldAddr 66 (Go.Operand.tmp 16) 15, type := 0, pos := "outright.go:135", after := #[], guard := none }) (v := .pointer (some ⟨wr.heap.size, 21, none⟩)) rfl (by kernel_rfl) (by kernel_rfl) (by kernel_rfl) (fun _ _ _ h => h) (Or.inl ⟨by kernel_rfl, by intro wq hSw; (try dsimp only at hSw); clear hHeld; go_simp⟩) hHeld ?_
            simp only [Act.put, List.setIfInBounds_toArray, List.set_cons_zero, List.set_cons_succ]
            refine wpAnyH_take (i := 6) (oi := { dst := some 174, op := Go.Op.load 3 (Go.Operand.tmp 173), type := 3, pos := "outright.go:135", after := #[{ on := 5, ground := Go.Ground.data }], guard := none }) (v := .int .i64 (id : Int)) rfl (by kernel_rfl) (by kernel_rfl) (by kernel_rfl) (fun _ _ _ h => h) (Or.inl ⟨by kernel_rfl, by intro wq hSw; (try dsimp only at hSw); clear hHeld; go_simp⟩) hHeld ?_
            simp only [Act.put, List.setIfInBounds_toArray, List.set_cons_zero, List.set_cons_succ]
            refine wpAnyH_ready (rs := [7]) (by kernel_rfl) (by simp) ?_
            refine AllReadyH.cons (o := { dst := some 175, op := Go.Op.call { callee := Go.Callee.value (Go.Operand.func 17), args := #[Go.Operand.tmp 172, Go.Operand.const (Go.Value.int Go.IntKind.i64 5), Go.Operand.tmp 174], argTypes := #[52, 3, 3] }, type := 38, pos := "outright.go:135", after := #[{ on := 4, ground := Go.Ground.data }, { on := 6, ground := Go.Ground.data }], guard := none }) (by rfl) (fun K hK => ?_) AllReadyH.nil
            go_simp
            go_wp2_with (go_at_call 17; refine (AK.out).mono ?_; rintro e w5 ⟨v5, rfl, h5, l5, o5⟩)
            clear a0 a1 hHeld AK
            have y5 := o5 _ _ HD3.out.2 (other66 _ _)
            have a0 : w5.cell? ⟨sb, 0, none⟩ = some (.pointer (some ⟨wb, 0, none⟩)) := box_cells h5.ss 0 _ rfl
            have a1 : w5.cell? ⟨wr.heap.size, 21, none⟩ = some (.int .i64 (id : Int)) := box_cells y5 21 _ rfl
            obtain ⟨lv6, w6, SX, k6, hSX, h6, c6⟩ := h5.more l5 (by have := HLX.out p 5 id rfl; omega)
            have y6 : w6.heap[wr.heap.size]? = _ := (c6.block _ (Array.getElem?_eq_some_iff.1 y5).1 (fun z => by have := HFR.out _ z; omega)).trans y5
            have b0 : w6.cell? ⟨sb, 0, none⟩ = some (.pointer (some ⟨wb, 0, none⟩)) := box_cells h6.ss 0 _ rfl
            have b1 : w6.cell? ⟨wr.heap.size, 21, none⟩ = some (.int .i64 (id : Int)) := box_cells y6 21 _ rfl
            have HR6 := hidi k6
            have H6 := hidi (And.intro h6 hSX)
            clear l5 o5 y5 y6 c6 h5 h6 hSX k6
            refine hK.out _ _ ⟨a0, a1⟩ (fun hHeld => ?_)
            clear hK K
            (try simp only [Act.put, List.setIfInBounds_toArray, List.set_cons_zero, List.set_cons_succ])
            refine wpAnyH_ready (rs := [8]) (by kernel_rfl) (by simp) ?_
            refine AllReadyH.cons (o := { dst := some 176, op := Go.Op.call { callee := Go.Callee.builtin Go.Builtin.append, args := #[Go.Operand.tmp 168, Go.Operand.tmp 175], argTypes := #[38, 38] }, type := 38, pos := "outright.go:135", after := #[{ on := 0, ground := Go.Ground.data }, { on := 7, ground := Go.Ground.data }, { on := 7, ground := Go.Ground.chain }], guard := none }) (by rfl) (fun K hK => ?_) AllReadyH.nil
            refine step_app (P := Tryz.prog) (o := { dst := some 176, op := Go.Op.call { callee := Go.Callee.builtin Go.Builtin.append, args := #[Go.Operand.tmp 168, Go.Operand.tmp 175], argTypes := #[38, 38] }, type := 38, pos := "outright.go:135", after := #[{ on := 0, ground := Go.Ground.data }, { on := 7, ground := Go.Ground.data }, { on := 7, ground := Go.Ground.chain }], guard := none }) rfl (.tmp 168) (.tmp 175) 38 38 rfl (.slice la2 S.length lc2) v5 rfl rfl lv6 w6 HR6.out ?_
            refine hK.out _ _ ⟨b0, b1⟩ (fun hHeld => ?_)
            clear hK K
            (try simp only [Act.put, List.setIfInBounds_toArray, List.set_cons_zero, List.set_cons_succ])
            refine wpAnyH_take (i := 9) (oi := { dst := some 14, op := Go.Op.assign (Go.Operand.tmp 176), type := 38, pos := "outright.go:135", after := #[{ on := 8, ground := Go.Ground.data }, { on := 8, ground := Go.Ground.chain }, { on := 0, ground := Go.Ground.phase }, { on := 1, ground := Go.Ground.phase }, { on := 2, ground := Go.Ground.phase }, { on := 3, ground := Go.Ground.phase }, { on := 4, ground := Go.Ground.phase }, { on := 5, ground := Go.Ground.phase }, { on := 6, ground := Go.Ground.phase }, { on := 7, ground := Go.Ground.phase }, { on := 8, ground := Go.Ground.phase }], guard := none }) (v := lv6) rfl (by kernel_rfl) (by kernel_rfl) (by kernel_rfl) (fun _ _ _ h => h) (Or.inl ⟨by kernel_rfl, by intro wq hSw; (try dsimp only at hSw); clear hHeld; go_simp⟩) hHeld ?_
            simp only [Act.put, List.setIfInBounds_toArray, List.set_cons_zero, List.set_cons_succ]
            refine wpAnyH_done (by kernel_rfl) ?_ _
            clear hHeld a0 a1 b0 b1
            go_wp2_with fail
            go_roundg (2 * nt + 1 - (i + 1))
            case measure => omega
            case rel => exact ⟨i + 1, _, _, _, MD ++ [⟨xt, 2, xr, xs⟩], S ++ SX, by omega, rfl, rfl, by first | rfl | simp, H6.out.1, by rw [List.map_append, H6.out.2]; exact HAK.out⟩
          · as_aux_lemma =>
            subst hk
            have HAK := hidi hA
            clear hA
            have i0 : w2.cell? ⟨wr.heap.size, 0, none⟩ = some (.int .i64 6) := box_cells HD2.out.2 0 _ rfl
            go_upto_region 39 with fail
            clear i0
            have a0 : w2.cell? ⟨sb, 0, none⟩ = some (.pointer (some ⟨wb, 0, none⟩)) := box_cells HD2.out.1.ss 0 _ rfl
            have a1 : w2.cell? ⟨wr.heap.size, 21, none⟩ = some (.int .i64 (id : Int)) := box_cells HD2.out.2 21 _ rfl
            have AK := hidi (dc_ack (W := w2.drew) (HD2.out.1.below (Below.refl _ _).drew) (by omega) 7 hid)
            refine wp_region_held_drew (S := fun w' => w'.cell? ⟨sb, 0, none⟩ = some (.pointer (some ⟨wb, 0, none⟩)) ∧ w'.cell? ⟨wr.heap.size, 21, none⟩ = some (.int .i64 (id : Int))) (by kernel_rfl) ⟨a0, a1⟩ (fun hHeld => ?_)
            change wpAnyH _ _ _ _ _ 10 #[false, false, false, false, false, false, false, false, false, false] _ (World.drew _)
            refine wpAnyH_take (i := 0) (oi := { dst := some 181, op := Go.Op.move (Go.Operand.tmp 14), type := 38, pos := "outright.go:137", after := #[], guard := none }) (v := .slice la2 S.length lc2) rfl (by kernel_rfl) (by kernel_rfl) (by kernel_rfl) (fun _ _ _ h => h) (Or.inl ⟨by kernel_rfl, by intro wq hSw; (try dsimp only at hSw); clear hHeld; go_simp⟩) hHeld ?_
            simp only [Act.put, List.setIfInBounds_toArray, List.set_cons_zero, List.set_cons_succ]
            refine wpAnyH_take (i := 1) (oi := { dst := some 182, op := Go.Op.move (Go.Operand.tmp 7), type := 36, pos := "outright.go:137", after := #[], guard := none }) (v := .pointer (some ⟨sb, 0, none⟩)) rfl (by kernel_rfl) (by kernel_rfl) (by kernel_rfl) (fun _ _ _ h => h) (Or.inl ⟨by kernel_rfl, by intro wq hSw; (try dsimp only at hSw); clear hHeld; go_simp⟩) hHeld ?_
            simp only [Act.put, List.setIfInBounds_toArray, List.set_cons_zero, List.set_cons_succ]
            refine wpAnyH_take (i := 2) (oi := { dst := some 183, op := Go.Op.nilCheck (Go.Operand.tmp 182), type := 0, pos := "outright.go:137", after := #[{ on := 1, ground := Go.Ground.data }], guard := none }) (v := .pointer (some ⟨sb, 0, none⟩)) rfl (by kernel_rfl) (by kernel_rfl) (by kernel_rfl) (fun _ _ _ h => h) (Or.inl ⟨by kernel_rfl, by intro wq hSw; (try dsimp only at hSw); clear hHeld; go_simp⟩) hHeld ?_
            simp only [Act.put, List.setIfInBounds_toArray, List.set_cons_zero, List.set_cons_succ]
            refine wpAnyH_take (i := 3) (oi := { dst := some 184, op := Go.Op.fieldAddr 56 (Go.Operand.tmp 183) 0, type := 0, pos := "outright.go:137", after := #[{ on := 2, ground := Go.Ground.data }], guard := none }) (v := .pointer (some ⟨sb, 0, none⟩)) rfl (by kernel_rfl) (by kernel_rfl) (by kernel_rfl) (fun _ _ _ h => h) (Or.inl ⟨by kernel_rfl, by intro wq hSw; (try dsimp only at hSw); clear hHeld; go_simp⟩) hHeld ?_
            simp only [Act.put, List.setIfInBounds_toArray, List.set_cons_zero, List.set_cons_succ]
            refine wpAnyH_take (i := 4) (oi := { dst := some 185, op := Go.Op.load 52 (Go.Operand.tmp 184), type := 52, pos := "outright.go:137", after := #[{ on := 3, ground := Go.Ground.data }], guard := none }) (v := .pointer (some ⟨wb, 0, none⟩)) rfl (by kernel_rfl) (by kernel_rfl) (by kernel_rfl) (fun _ _ _ h => h) (Or.inl ⟨by kernel_rfl, by intro wq hSw; (try dsimp only at hSw); clear hHeld; go_simp⟩) hHeld ?_
            simp only [Act.put, List.setIfInBounds_toArray, List.set_cons_zero, List.set_cons_succ]
            refine wpAnyH_take (i := 5) (oi := { dst := some 186, op := Go.Op.fieldAddr 66 (Go.Operand.tmp 16) 15, type := 0, pos := "outright.go:137", after := #[], guard := none }) (v := .pointer (some ⟨wr.heap.size, 21, none⟩)) rfl (by kernel_rfl) (by kernel_rfl) (by kernel_rfl) (fun _ _ _ h => h) (Or.inl ⟨by kernel_rfl, by intro wq hSw; (try dsimp only at hSw); clear hHeld; go_simp⟩) hHeld ?_
            simp only [Act.put, List.setIfInBounds_toArray, List.set_cons_zero, List.set_cons_succ]
            refine wpAnyH_take (i := 6) (oi := { dst := some 187, op := Go.Op.load 3 (Go.Operand.tmp 186), type := 3, pos := "outright.go:137", after := #[{ on := 5, ground := Go.Ground.data }], guard := none }) (v := .int .i64 (id : Int)) rfl (by kernel_rfl) (by kernel_rfl) (by kernel_rfl) (fun _ _ _ h => h) (Or.inl ⟨by kernel_rfl, by intro wq hSw; (try dsimp only at hSw); clear hHeld; go_simp⟩) hHeld ?_
            simp only [Act.put, List.setIfInBounds_toArray, List.set_cons_zero, List.set_cons_succ]
            refine wpAnyH_ready (rs := [7]) (by kernel_rfl) (by simp) ?_
            refine AllReadyH.cons (o := { dst := some 188, op := Go.Op.call { callee := Go.Callee.value (Go.Operand.func 17), args := #[Go.Operand.tmp 185, Go.Operand.const (Go.Value.int Go.IntKind.i64 7), Go.Operand.tmp 187], argTypes := #[52, 3, 3] }, type := 38, pos := "outright.go:137", after := #[{ on := 4, ground := Go.Ground.data }, { on := 6, ground := Go.Ground.data }], guard := none }) (by rfl) (fun K hK => ?_) AllReadyH.nil
            go_simp
            go_wp2_with (go_at_call 17; refine (AK.out).mono ?_; rintro e w5 ⟨v5, rfl, h5, l5, o5⟩)
            clear a0 a1 hHeld AK
            have y5 := o5 _ _ HD2.out.2 (other66 _ _)
            have a0 : w5.cell? ⟨sb, 0, none⟩ = some (.pointer (some ⟨wb, 0, none⟩)) := box_cells h5.ss 0 _ rfl
            have a1 : w5.cell? ⟨wr.heap.size, 21, none⟩ = some (.int .i64 (id : Int)) := box_cells y5 21 _ rfl
            obtain ⟨lv6, w6, SX, k6, hSX, h6, c6⟩ := h5.more l5 (by have := HLX.out p 7 id rfl; omega)
            have y6 : w6.heap[wr.heap.size]? = _ := (c6.block _ (Array.getElem?_eq_some_iff.1 y5).1 (fun z => by have := HFR.out _ z; omega)).trans y5
            have b0 : w6.cell? ⟨sb, 0, none⟩ = some (.pointer (some ⟨wb, 0, none⟩)) := box_cells h6.ss 0 _ rfl
            have b1 : w6.cell? ⟨wr.heap.size, 21, none⟩ = some (.int .i64 (id : Int)) := box_cells y6 21 _ rfl
            have HR6 := hidi k6
            have H6 := hidi (And.intro h6 hSX)
            clear l5 o5 y5 y6 c6 h5 h6 hSX k6
            refine hK.out _ _ ⟨a0, a1⟩ (fun hHeld => ?_)
            clear hK K
            (try simp only [Act.put, List.setIfInBounds_toArray, List.set_cons_zero, List.set_cons_succ])
            refine wpAnyH_ready (rs := [8]) (by kernel_rfl) (by simp) ?_
            refine AllReadyH.cons (o := { dst := some 189, op := Go.Op.call { callee := Go.Callee.builtin Go.Builtin.append, args := #[Go.Operand.tmp 181, Go.Operand.tmp 188], argTypes := #[38, 38] }, type := 38, pos := "outright.go:137", after := #[{ on := 0, ground := Go.Ground.data }, { on := 7, ground := Go.Ground.data }, { on := 7, ground := Go.Ground.chain }], guard := none }) (by rfl) (fun K hK => ?_) AllReadyH.nil
            refine step_app (P := Tryz.prog) (o := { dst := some 189, op := Go.Op.call { callee := Go.Callee.builtin Go.Builtin.append, args := #[Go.Operand.tmp 181, Go.Operand.tmp 188], argTypes := #[38, 38] }, type := 38, pos := "outright.go:137", after := #[{ on := 0, ground := Go.Ground.data }, { on := 7, ground := Go.Ground.data }, { on := 7, ground := Go.Ground.chain }], guard := none }) rfl (.tmp 181) (.tmp 188) 38 38 rfl (.slice la2 S.length lc2) v5 rfl rfl lv6 w6 HR6.out ?_
            refine hK.out _ _ ⟨b0, b1⟩ (fun hHeld => ?_)
            clear hK K
            (try simp only [Act.put, List.setIfInBounds_toArray, List.set_cons_zero, List.set_cons_succ])
            refine wpAnyH_take (i := 9) (oi := { dst := some 14, op := Go.Op.assign (Go.Operand.tmp 189), type := 38, pos := "outright.go:137", after := #[{ on := 8, ground := Go.Ground.data }, { on := 8, ground := Go.Ground.chain }, { on := 0, ground := Go.Ground.phase }, { on := 1, ground := Go.Ground.phase }, { on := 2, ground := Go.Ground.phase }, { on := 3, ground := Go.Ground.phase }, { on := 4, ground := Go.Ground.phase }, { on := 5, ground := Go.Ground.phase }, { on := 6, ground := Go.Ground.phase }, { on := 7, ground := Go.Ground.phase }, { on := 8, ground := Go.Ground.phase }], guard := none }) (v := lv6) rfl (by kernel_rfl) (by kernel_rfl) (by kernel_rfl) (fun _ _ _ h => h) (Or.inl ⟨by kernel_rfl, by intro wq hSw; (try dsimp only at hSw); clear hHeld; go_simp⟩) hHeld ?_
            simp only [Act.put, List.setIfInBounds_toArray, List.set_cons_zero, List.set_cons_succ]
            refine wpAnyH_done (by kernel_rfl) ?_ _
            clear hHeld a0 a1 b0 b1
            go_wp2_with fail
            go_roundg (2 * nt + 1 - (i + 1))
            case measure => omega
            case rel => exact ⟨i + 1, _, _, _, MD, S ++ SX, by omega, rfl, rfl, by first | rfl | simp, H6.out.1, by rw [List.map_append, H6.out.2]; exact HAK.out⟩
end Go.Proofs.YtmihpmmkkklpfaaGreatDoor
