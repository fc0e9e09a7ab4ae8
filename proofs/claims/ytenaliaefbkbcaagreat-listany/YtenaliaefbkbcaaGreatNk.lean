import Derived.Test.YtenaliaefbkbcaaGreatUg
import Derived.Test.YtenaliaefbkbcaaGreatMv
import Derived.Deep.CutRange
import Derived.Test.YtenaliaefbkbcaaGreatNj
namespace Go.Proofs.YtenaliaefbkbcaaGreat.Li
open Go Go.RowKit Go.Maps
set_option linter.unusedSimpArgs false
set_option linter.unusedVariables false
theorem st_start {W w : World} {ops : List Ow} {σa σb : Nat → Nat} (hb : Below W.heap.size W w) : ST W w.heap.size ops w.heap.size (w.heap.size + 1) σa σb 0 0 [] [] ((w.alloc (.cells #[.slice none 0 0] 71)).alloc (.cells #[.slice none 0 0] 71)) := by
  have s1 : (w.alloc (.cells #[.slice none 0 0] 71)).heap.size = w.heap.size + 1 := size_alloc _ _
  have b1 : Below w.heap.size w (w.alloc (.cells #[.slice none 0 0] 71)) := (Below.refl _ _).alloc (Nat.le_refl _) _
  have b2 : Below (w.alloc (.cells #[.slice none 0 0] 71)).heap.size (w.alloc (.cells #[.slice none 0 0] 71)) ((w.alloc (.cells #[.slice none 0 0] 71)).alloc (.cells #[.slice none 0 0] 71)) := (Below.refl _ _).alloc (Nat.le_refl _) _
  have no : ∀ f k q, ¬ Has [] f k q := fun f k q ⟨es, h, _⟩ => by cases h
  refine ⟨⟨.slice none 0 0, [], .slice none 0 0, [], (sl_new w).below b2, rfl, ⟨?_, ⟨rfl, .inl ⟨rfl, rfl⟩⟩, fun x hx => (by cases hx), fun i j a b h => (by simp at h), Nat.le_succ _⟩, rfl, fun j h1 h2 => ?_⟩, ⟨by simp, fun x hx => by cases hx⟩, ⟨by simp, fun x hx => by cases hx⟩, ⟨by simp, fun x hx => (by cases hx)⟩, ⟨by simp, fun x hx => (by cases hx)⟩, fun f k q => ⟨fun h => absurd h (no f k q), fun h => absurd h (lay_none _ _ _ _ _)⟩, fun f k q => ⟨fun h => absurd h (no f k q), fun h => absurd h (lay_none _ _ _ _ _)⟩, hb.trans ((b1.trans (b2.mono b1.size)).mono hb.size), hb.size⟩
  · have := heap_alloc_new (w.alloc (.cells #[.slice none 0 0] 71)) (.cells #[.slice none 0 0] 71)
    rw [s1] at this
    exact this
  · rcases h1 with h1 | h1 | ⟨x, h1, -⟩
    · rcases h2 with h2 | h2 | ⟨x, h2, -⟩
      · omega
      · simp [Value.ownBlock] at h2
      · cases h2
    · simp [Value.ownBlock] at h1
    · cases h1
theorem st_sp {W : World} {B : Nat} {ops : List Ow} {sa sb : Nat} {σa σb : Nat → Nat} {n : Nat} {PA PB : List Fp} {wx w6 w7 : World} {vy : Value} {R : List En} (h : ST W B ops sa sb σa σb n n PA PB wx) (hf : FewS ops) (hb : Below wx.heap.size wx w6) (hr : w7.ownsRow w6.heap.size 44 2 vy R.length (arow R)) (hb7 : Below w6.heap.size w6 w7) : SP W B sa sb n PA PB vy R w7 := by
  have hbb : Below wx.heap.size wx w7 := hb.trans (hb7.mono hb.size)
  obtain ⟨va, La, vb, Lb, h1, h2, h3, h4, h5⟩ := h.mem
  have hz : ∀ {P : List Fp} {σ : Nat → Nat}, Wf P → (∀ f k q, Has P f k q ↔ Lay ops σ n f k q) → ∀ x ∈ P, x.1.size ≤ 1000000 := fun hw hl x hx => by
    obtain ⟨k, q, hh⟩ := (has_filter hw x.1).1 (List.mem_map.2 ⟨_, hx, rfl⟩)
    obtain ⟨j, -, o, ho, -, e, -⟩ := (hl _ _ _).1 hh
    have := (hf.2 o (List.mem_of_getElem? ho)).1
    rw [← e]
    omega
  refine ⟨⟨va, La, vb, Lb, h1.below hbb, h2, h3.below hbb, h4, h5, fun g hg hj => ?_⟩, row_base hr (fun g hg => Nat.le_trans h.bel.size (Nat.le_trans hb.size (row_ge hr hg))), h.wa, h.wb, h.la, h.lb, hz h.wa h.ha, hz h.wb h.hb, h.bel.trans (hbb.mono h.bel.size), h.base⟩
  have := h1.blt hj
  have := row_ge hr hg
  have := hb.size
  omega
theorem rcell {w : World} {B : Nat} {v : Value} {S : List Rw} (h : w.ownsRow B 55 3 v S.length (rrow S)) {j : Nat} (hj : j < S.length) : ∃ g c, v = .slice (some ⟨g, 0, none⟩) S.length c ∧ ∀ i x, S[i]? = some x → w.cell? ⟨g, i * 3, none⟩ = some (.string x.1) ∧ w.cell? ⟨g, i * 3 + 1, none⟩ = some (.string x.2.1) ∧ w.cell? ⟨g, i * 3 + 2, none⟩ = some (.int .i64 x.2.2) := by
  have get : ∀ (S : List Rw) (i : Nat) (x : Rw), S[i]? = some x → (rrow S)[i * 3]? = some (.string x.1) ∧ (rrow S)[i * 3 + 1]? = some (.string x.2.1) ∧ (rrow S)[i * 3 + 2]? = some (.int .i64 x.2.2) := by
    intro S
    induction S with
    | nil => intro i x hx; simp at hx
    | cons y r ih =>
      intro i x hx
      have e : rrow (y :: r) = rcs y ++ rrow r := rfl
      cases i with
      | zero =>
        simp at hx
        subst hx
        rw [e]
        exact ⟨rfl, rfl, rfl⟩
      | succ m =>
        have := ih m x (by simpa using hx)
        have l3 : (rcs y).length = 3 := rfl
        rw [e]
        refine ⟨?_, ?_, ?_⟩
        · rw [List.getElem?_append_right (by omega), l3, show (m + 1) * 3 - 3 = m * 3 by omega]; exact this.1
        · rw [List.getElem?_append_right (by omega), l3, show (m + 1) * 3 + 1 - 3 = m * 3 + 1 by omega]; exact this.2.1
        · rw [List.getElem?_append_right (by omega), l3, show (m + 1) * 3 + 2 - 3 = m * 3 + 2 by omega]; exact this.2.2
  rcases h.2 with ⟨_, h1⟩ | ⟨g, cap, cur, h1, h2, h3, h4, h5, h6, h7⟩
  · omega
  · refine ⟨g, cap, h1, fun i x hx => ?_⟩
    have cell : ∀ (j : Nat) (u : Value), (rrow S)[j]? = some u → w.cell? ⟨g, j, none⟩ = some u := fun j u hu => by
      rw [← h7, List.getElem?_take] at hu
      split at hu
      · simp [World.cell?, h3]
        simpa using hu
      · cases hu
    obtain ⟨a, b, c⟩ := get S i x hx
    exact ⟨cell _ _ a, cell _ _ b, cell _ _ c⟩
theorem rot_is {n c i : Nat} {b : Int} (hn : 0 < n) (hn2 : n ≤ 200) (hi : i < n) (hc : c = (Int.tmod b (n : Int) + n).toNat) : (wrap64 (wrap64 ((i : Int) + b.tmod n) + n)).tmod n = (rot n c i : Int) := by
  have h1 : b.tmod n < n := Int.tmod_lt_of_pos _ (by omega)
  have h2 : -(n : Int) < b.tmod n := Int.lt_tmod_of_pos _ (by omega)
  obtain ⟨m, hm⟩ : ∃ m, m = b.tmod n := ⟨_, rfl⟩
  rw [← hm] at h1 h2 hc ⊢
  have w1 : wrap64 ((i : Int) + m) = i + m := by have := IntKind.wrap_i64 ((i : Int) + m); unfold wrap64 at *; omega
  have w2 : wrap64 ((i : Int) + m + n) = i + m + n := by unfold wrap64; omega
  rw [w1, w2, Int.tmod_eq_emod_of_nonneg (by omega)]
  have e : (i : Int) + m + n = ((i + c : Nat) : Int) := by omega
  rw [e]
  unfold rot
  rw [Int.natCast_emod]
set_option maxRecDepth 100000 in
set_option maxHeartbeats 16000000 in
theorem any_any (hkn : KnownOk) {W : World} {sa : Option Addr} {n cap : Nat} {ops : List Ow} (h : Scs W sa n cap ops) (by_ : Int) (t f k : ByteArray) :
    Calls Tryz.prog 4 #[.slice sa n cap, .int .i64 by_, .string t, .string f, .string k] W fun e w' => e = .returned (.bool true) ∧ Below W.heap.size W w' := by
  have H := hidi h
  have KN := hidi (hkn W)
  have FW := hidi (fun (w1 : World) (hb : Below W.heap.size W w1) => few_any (h.keep (fun b hb' => hb.block b hb')))
  have NW := hidi (fun w => newSubs_any w)
  have NU := hidi (fun n w => num_any n w)
  clear h
  go_enter Tryz.func4, Tryz.ntmps4
  go_wp2_with fail
  go_must (go_at_call 5)
  refine KN.out.mono ?_
  rintro e w1 ⟨rfl, hb⟩
  have B1 := hidi hb
  clear hb KN
  go_wp2_with fail
  go_must (go_at_call 6)
  refine (FW.out w1 B1.out).mono ?_
  rintro e w2 ⟨x, rfl, hx, hb⟩
  have B2 := hidi (B1.out.trans (hb.mono B1.out.size))
  have HX := hidi hx
  clear hb hx FW
  cases x with
  | false =>
    go_wp2_with fail
    go_ret
    exact ⟨rfl, B2.out⟩
  | true =>
    by_cases ht : (100000 : Int) < (t.size : Int)
    · go_wp2_with fail
      go_ret
      exact ⟨rfl, B2.out⟩
    by_cases hfs : (100000 : Int) < (f.size : Int)
    · go_wp2_with fail
      go_ret
      exact ⟨rfl, B2.out⟩
    by_cases hks : (100000 : Int) < (k.size : Int)
    · go_wp2_with fail
      go_ret
      exact ⟨rfl, B2.out⟩
    have HF := hidi (HX.out rfl)
    have HS := hidi (show t.size ≤ 100000 ∧ f.size ≤ 100000 ∧ k.size ≤ 100000 by omega)
    clear HX
    go_upto_region 6 with (go_at_call 7; refine (NW.out _).mono ?_; rintro e w' ⟨rfl, he⟩; subst he)
    clear ht hfs hks NW
    obtain ⟨w4, hw4⟩ : ∃ w4, w4 = (w2.alloc (.cells #[.slice none 0 0] 71)).alloc (.cells #[.slice none 0 0] 71) := ⟨_, rfl⟩
    rw [← hw4]
    have T0 := hidi (show ∀ σa σb, ST W w2.heap.size ops w2.heap.size (w2.heap.size + 1) σa σb 0 0 [] [] w4 from fun σa σb => by rw [hw4]; exact st_start B2.out)
    obtain ⟨A, hA⟩ : ∃ A, A = w2.heap.size := ⟨_, rfl⟩
    rw [← hA] at T0
    rw [← hA]
    have BW := hidi (T0.out id id).bel
    have hn2 : n ≤ 200 := by have := HF.out.1; rw [H.out.len] at this; exact this
    have HN2 := hidi hn2
    have CE := hidi (show ∀ wx, Below W.heap.size W wx → 0 < n → ∃ g o, sa = some ⟨g, o, none⟩ ∧ ∀ i x, ops[i]? = some x → wx.cell? ⟨g, o + i * 10 + 2, none⟩ = some (.string x.a) ∧ wx.cell? ⟨g, o + i * 10 + 3, none⟩ = some (.string x.b) ∧ wx.cell? ⟨g, o + i * 10 + 4, none⟩ = some (.int .i64 x.n) from fun wx hb hn => by
      obtain ⟨g, o, e, hc⟩ := (H.out.keep (fun b hb' => hb.block b hb')).cell hn
      refine ⟨g, o, e, fun i x hx => ?_⟩
      obtain ⟨hi, rfl⟩ := List.getElem?_eq_some_iff.1 hx
      exact ⟨hc i hi 2 (by omega), hc i hi 3 (by omega), hc i hi 4 (by omega)⟩)
    clear hw4 hA B1 B2 hn2
    go_wp2_with fail
    go_loopg [13, 14] n (fun gk s13 s14 wx => ∃ i : Nat, i + gk = n ∧ s13 = .int .i64 i ∧ Hid (Below w4.heap.size w4 wx ∧ ∀ a b x y, a < i → b < a → ops[a]? = some x → ops[b]? = some y → ¬ (x.a = y.a ∧ x.b = y.b)))
    case atStart => exact ⟨0, by omega, rfl, Below.refl _ _, fun a b x y ha => by omega⟩
    case round =>
      obtain ⟨i, hi, rfl, HI⟩ := hrel
      by_cases hin : i < n
      · have hlt : (i : Int) < (n : Int) := by omega
        have hge : (0 : Int) ≤ (i : Int) := by omega
        have hw1 : IntKind.i64.wrap ((i : Int) + 1) = (i : Int) + 1 := by rw [IntKind.wrap_i64]; have := HN2.out; omega
        have hil : i < ops.length := by rw [H.out.len]; exact hin
        obtain ⟨x, hx⟩ : ∃ x, ops[i]? = some x := ⟨_, List.getElem?_eq_getElem hil⟩
        have HXX := hidi hx
        clear hx hil
        go_wp2_with fail
        go_loopg [14] i (fun gk s14 wx => ∃ kk : Nat, kk + gk = i ∧ s14 = .int .i64 kk ∧ Hid (Below w4.heap.size w4 wx ∧ ∀ b y, b < kk → ops[b]? = some y → ¬ (x.a = y.a ∧ x.b = y.b)))
        case atStart => exact ⟨0, by omega, rfl, HI.out.1, fun b y hb => by omega⟩
        case round =>
          obtain ⟨kk, hkk, rfl, HK⟩ := hrel
          by_cases hki : kk < i
          · have hlk : (kk : Int) < (i : Int) := by omega
            have hlk2 : (kk : Int) < (n : Int) := by omega
            have hgk : (0 : Int) ≤ (kk : Int) := by omega
            have hwk : IntKind.i64.wrap ((kk : Int) + 1) = (kk : Int) + 1 := by rw [IntKind.wrap_i64]; have := HN2.out; omega
            have hkl : kk < ops.length := by rw [H.out.len]; omega
            obtain ⟨y, hy⟩ : ∃ y, ops[kk]? = some y := ⟨_, List.getElem?_eq_getElem hkl⟩
            obtain ⟨g, o, hsa, hce⟩ := CE.out wr (BW.out.trans (HK.out.1.mono BW.out.size)) (by omega)
            subst hsa
            obtain ⟨c1, c2, -⟩ := hce i x HXX.out
            obtain ⟨d1, d2, -⟩ := hce kk y hy
            have HY := hidi hy
            clear hce hy hkl
            by_cases ea : x.a = y.a
            · by_cases eb : x.b = y.b
              · have ta : (x.a.toList == y.a.toList) = true := by rw [teq]; simp [ea]
                have tb : (x.b.toList == y.b.toList) = true := by rw [teq]; simp [eb]
                clear ea eb
                go_wp2_with fail
                go_quiet (fail)
                have bq : Below wr.heap.size wr (wr.drewN nq) := below_drewN (Below.refl _ _)
                have HQ := hidi (BW.out.trans ((HK.out.1.trans (bq.mono HK.out.1.size)).mono BW.out.size))
                clear bq
                go_wp2_with fail
                go_ret
                exact ⟨rfl, HQ.out⟩
              · have ta : (x.a.toList == y.a.toList) = true := by rw [teq]; simp [ea]
                have tb : (x.b.toList == y.b.toList) = false := by rw [teq]; simp [eb]
                have HE := hidi eb
                clear ea eb
                go_wp2_with fail
                go_quiet (fail)
                have bq : Below wr.heap.size wr (wr.drewN nq) := below_drewN (Below.refl _ _)
                have HQ := hidi (HK.out.1.trans (bq.mono HK.out.1.size))
                clear bq
                go_wp2_with fail
                go_roundg (i - (kk + 1))
                case measure => omega
                case rel =>
                  refine ⟨kk + 1, by omega, by first | rfl | simp, HQ.out, fun b z hb hz => ?_⟩
                  by_cases q : b = kk
                  · subst q
                    rw [HY.out] at hz
                    cases hz
                    exact fun w => HE.out w.2
                  · exact HK.out.2 b z (by omega) hz
            · have ta : (x.a.toList == y.a.toList) = false := by rw [teq]; simp [ea]
              have HE := hidi ea
              clear ea
              go_wp2_with fail
              go_quiet (fail)
              have bq : Below wr.heap.size wr (wr.drewN nq) := below_drewN (Below.refl _ _)
              have HQ := hidi (HK.out.1.trans (bq.mono HK.out.1.size))
              clear bq
              go_wp2_with fail
              go_roundg (i - (kk + 1))
              case measure => omega
              case rel =>
                refine ⟨kk + 1, by omega, by first | rfl | simp, HQ.out, fun b z hb hz => ?_⟩
                by_cases q : b = kk
                · subst q
                  rw [HY.out] at hz
                  cases hz
                  exact fun w => HE.out w.1
                · exact HK.out.2 b z (by omega) hz
          · have hlk : ¬ (kk : Int) < (i : Int) := by omega
            obtain rfl : kk = i := by omega
            go_wp2_with fail
            go_roundg (n - (kk + 1))
            case measure => omega
            case rel =>
              refine ⟨kk + 1, by omega, by first | rfl | simp, HK.out.1, fun a b x' y' ha hb h1 h2 => ?_⟩
              by_cases q : a = kk
              · subst q
                rw [HXX.out] at h1
                cases h1
                exact HK.out.2 b y' hb h2
              · exact HI.out.2 a b x' y' (by omega) hb h1 h2
      · have hlt : ¬ (i : Int) < (n : Int) := by omega
        obtain rfl : n = i := by omega
        have HD := hidi (show Dif ops from fun a b x y h1 h2 hab => by
          have la : a < n := by have := (List.getElem?_eq_some_iff.1 h1).1; rw [H.out.len] at this; exact this
          have lb : b < n := by have := (List.getElem?_eq_some_iff.1 h2).1; rw [H.out.len] at this; exact this
          rcases Nat.lt_or_gt_of_ne hab with q | q
          · exact fun z => HI.out.2 b a y x lb q h2 h1 ⟨z.1.symm, z.2.symm⟩
          · exact HI.out.2 a b x y la q h1 h2)
        have T1 := hidi (fun σa σb => (T0.out σa σb).below HI.out.1)
        obtain ⟨wA, hwA⟩ : ∃ wA, wA = wr := ⟨_, rfl⟩
        rw [← hwA] at T1
        rw [← hwA]
        clear hwA T0 HI BW hlt hin
        go_upto_region 17 with fail
        obtain ⟨c, hc⟩ : ∃ c : Nat, c = (Int.tmod by_ (n : Int) + n).toNat := ⟨_, rfl⟩
        have HC := hidi hc
        have T2 := hidi (T1.out (fun j => j) (rot n c))
        clear hc T1
        go_wp2_with fail
        go_loopg [16, 17] n (fun gk s16 s17 wx => ∃ i : Nat, i + gk = n ∧ s16 = .int .i64 i ∧ Hid (∃ PA PB, ST W A ops A (A + 1) (fun j => j) (rot n c) i i PA PB wx))
        case atStart => exact ⟨0, by omega, rfl, _, _, T2.out⟩
        case round =>
          clear T2
          obtain ⟨i, hi, rfl, HI⟩ := hrel
          by_cases hin : i < n
          · have hlt : (i : Int) < (n : Int) := by omega
            have hge : (0 : Int) ≤ (i : Int) := by omega
            have hw1 : IntKind.i64.wrap ((i : Int) + 1) = (i : Int) + 1 := by rw [IntKind.wrap_i64]; have := HN2.out; omega
            obtain ⟨PA, PB, hST⟩ := HI.out
            have hil : i < ops.length := by rw [H.out.len]; exact hin
            obtain ⟨x, hx⟩ : ∃ x, ops[i]? = some x := ⟨_, List.getElem?_eq_getElem hil⟩
            obtain ⟨g, o, hsa, hce⟩ := CE.out wr hST.bel (by omega)
            subst hsa
            obtain ⟨c1, c2, c3⟩ := hce i x hx
            have hxs := HF.out.2 x (List.mem_of_getElem? hx)
            have PT1 := hidi (fun (w' : World) (hb : Below wr.heap.size wr w') => st_put (hST.below hb) HD.out (by have := HN2.out; omega) (fun j hj => by simp; omega) (o := x) hx hxs.1 hxs.2)
            have CX := hidi (show ∀ wx, Below W.heap.size W wx → wx.cell? ⟨g, o + i * 10 + 2, none⟩ = some (.string x.a) ∧ wx.cell? ⟨g, o + i * 10 + 3, none⟩ = some (.string x.b) ∧ wx.cell? ⟨g, o + i * 10 + 4, none⟩ = some (.int .i64 x.n) from fun wx hb => by
              obtain ⟨g', o', e1, e2⟩ := CE.out wx hb (by omega)
              cases e1
              exact e2 i x hx)
            clear hce hx hxs hil HI hST
            go_upto_region 20 with fail
            go_cut [] from 100 to 116 (fun wx => ∃ PA', Hid (ST W A ops A (A + 1) (fun j => j) (rot n c) (i + 1) i PA' PB wx))
            case first =>
              go_region_law (go_simp; go_at_call 8; refine (PT1.out _ (Below.refl _ _).drew).mono ?_; rintro e w5 ⟨⟨x1, y1, rfl⟩, PA', hst⟩; have T5 := hidi hst; clear hst)
              all_goals
                go_wp2_with fail
                go_meet
                case rel => exact ⟨PA', T5.out⟩
            case rest =>
              obtain ⟨PA', T5⟩ := hcut
              clear PT1 CX c1 c2 c3
              have hn0 : ((n : Int) == 0) = false := by
                have : ¬ (n : Int) = 0 := by omega
                simpa using this
              go_upto_region 22 with fail
              rw [rot_is (by omega) HN2.out hin HC.out]
              clear hn0
              obtain ⟨r, hr⟩ : ∃ r, r = rot n c i := ⟨_, rfl⟩
              have hrn : r < n := by rw [hr]; exact rot_lt (by omega)
              rw [← hr]
              have hrl : (r : Int) < (n : Int) := by omega
              have hrg : (0 : Int) ≤ (r : Int) := by omega
              have hil : r < ops.length := by rw [H.out.len]; exact hrn
              obtain ⟨y, hy⟩ : ∃ y, ops[r]? = some y := ⟨_, List.getElem?_eq_getElem hil⟩
              obtain ⟨g', o', e1, e2⟩ := CE.out wc T5.out.bel (by omega)
              cases e1
              obtain ⟨c1, c2, c3⟩ := e2 r y hy
              have hys := HF.out.2 y (List.mem_of_getElem? hy)
              have PT2 := hidi (fun (w' : World) (hb : Below wc.heap.size wc w') => st_put (T5.out.below hb).swap HD.out (by have := HN2.out; omega) (fun j hj q => by have := rot_inj (by omega) hin q; omega) (o := y) (by rw [← hr]; exact hy) hys.1 hys.2)
              clear hr hrn hil hy e2 hys
              go_region_law (go_simp; go_at_call 8; refine (PT2.out _ (Below.refl _ _).drew).mono ?_; rintro e w6 ⟨⟨x1, y1, rfl⟩, PB', hst⟩; have T6 := hidi hst.swap; clear hst)
              all_goals
                go_wp2_with fail
                go_roundg (n - (i + 1))
                case measure => omega
                case rel => exact ⟨i + 1, by omega, by first | rfl | simp, PA', PB', T6.out⟩
          · have hlt : ¬ (i : Int) < (n : Int) := by omega
            obtain rfl : n = i := by omega
            obtain ⟨PA, PB, hST⟩ := HI.out
            have hSH : SameH PA PB := fun f k q => by
              rw [hST.ha, hST.hb]
              have := lay_rot (ops := ops) c f k q
              rw [H.out.len] at this
              exact this.symm
            have hll := len_same hST.wa hST.wb hSH
            obtain ⟨vA, LA, vB, LB_, m1, m2, m3, m4, -⟩ := hST.mem
            obtain ⟨la1, la2⟩ := lens_of m2 hST.la
            obtain ⟨lb1, lb2⟩ := lens_of m4 hST.lb
            have hn2 := HN2.out
            have FA := hidi (sfindR_any m1 (by rw [m2]; exact hST.wa) t (by omega) (fun x hx => by have := la2 x hx; omega))
            have FB := hidi (fun (w6 : World) (hb : Below wr.heap.size wr w6) => sfindR_any (m3.below hb) (by rw [m4]; exact hST.wb) t (by omega) (fun x hx => by have := lb2 x hx; omega))
            rw [m2] at FA
            rw [m4] at FB
            have HST := hidi (And.intro hST (And.intro hSH hll))
            clear hST hSH hll m1 m2 m3 m4 la1 la2 lb1 lb2 hn2 hlt hin HI HD HC CE H
            go_wp2_with fail
            go_must (go_at_call 11)
            refine FA.out.mono ?_
            rintro e w6 ⟨v6, R6, rfl, f1, f2, f3, f4⟩
            have FB1 := hidi (FB.out w6 f4)
            have H6 := hidi (And.intro f1 (And.intro f2 (And.intro f3 f4)))
            clear f1 f2 f3 f4 FA FB
            go_wp2_with fail
            go_must (go_at_call 11)
            refine FB1.out.mono ?_
            rintro e w7 ⟨v7, R, rfl, g1, g2, g3, g4⟩
            obtain ⟨f1, f2, f3, f4⟩ := H6.out
            obtain ⟨hST, hSH, hll⟩ := HST.out
            have eR : R6 = R := fr_same hSH f1 g1
            subst eR
            have S7 := hidi (st_sp hST HF.out f4 g3 g4)
            have SE := hidi (sameE_any (own_below f3 g4) g3 g2)
            have HR := hidi (And.intro g1 (And.intro g2 (And.intro hST.wa (And.intro hST.wb (And.intro hSH (And.intro hST.la S7.out.za))))))
            have LN := hidi (fun (w8 : World) (hb : Below w7.heap.size w7 w8) => sp_len (S7.out.below hb))
            rw [← hll] at LN
            obtain ⟨pl, hpl⟩ : ∃ pl : Int, pl = (PA.length : Int) := ⟨_, rfl⟩
            rw [← hpl] at LN
            have hpne : (pl != pl) = false := by simp
            have OF := hidi (fun (w8 : World) (hb : Below w7.heap.size w7 w8) => sp_of (S7.out.below hb) (by have := HN2.out; omega) f)
            clear f1 f2 f3 f4 g1 g2 g3 g4 hST hSH hll hpl FB1 H6 HST
            go_wp2_with fail
            go_must (go_at_call 12)
            refine SE.out.mono ?_
            rintro e w8 ⟨rfl, hb8⟩
            have LN8 := hidi (LN.out w8 hb8)
            have OF8 := hidi (OF.out w8 hb8)
            have S8 := hidi (S7.out.below hb8)
            clear hb8 SE LN OF
            go_upto_region 27 with (first | (go_at_call 13; refine LN8.out.1.mono ?_; rintro e w' ⟨rfl, he⟩; obtain rfl := he.symm; clear he) | (go_at_call 13; refine LN8.out.2.mono ?_; rintro e w' ⟨rfl, he⟩; obtain rfl := he.symm; clear he))
            clear hpne LN8
            go_wp2_with fail
            go_must (go_at_call 14)
            refine OF8.out.mono ?_
            rintro e w9 ⟨v9, ys, rfl, o1, o2, o3, o4⟩
            have S9 := hidi (S8.out.below o4)
            obtain ⟨my, hmy⟩ : ∃ my, my = ys.length := ⟨_, rfl⟩
            rw [← hmy] at o2 o3
            obtain ⟨a9, c9, rfl⟩ := own_sl o3
            have hmy9 : my ≤ 900000 := o2
            have HO := hidi (And.intro o1 (And.intro o3 hmy))
            clear o1 o2 o3 o4 hmy S8 OF8 S7
            go_wp2_with fail
            go_loopg [20, 22] my (fun gk s20 s22 wx => ∃ i hd : Nat, i + gk = my ∧ s22 = .int .i64 i ∧ s20 = .int .i64 hd ∧ Hid (Below w9.heap.size w9 wx ∧ (hd = 1 ∨ hd = 0) ∧ (hd = 1 ↔ ∃ q, (k, q) ∈ ys.take i)))
            case atStart => exact ⟨0, 0, by omega, rfl, rfl, Below.refl _ _, .inr rfl, by simp⟩
            case round =>
              obtain ⟨i, hd, hi, rfl, rfl, HI⟩ := hrel
              by_cases hin : i < my
              · have hlt : (i : Int) < (my : Int) := by omega
                have hge : (0 : Int) ≤ (i : Int) := by omega
                have hw1 : IntKind.i64.wrap ((i : Int) + 1) = (i : Int) + 1 := by rw [IntKind.wrap_i64]; omega
                obtain ⟨o1, o3, hmy⟩ := HO.out
                have hiy : i < ys.length := by rw [← hmy]; exact hin
                obtain ⟨ye, hye⟩ : ∃ ye, ys[i]? = some ye := ⟨_, List.getElem?_eq_getElem hiy⟩
                obtain ⟨gy, cy, hvy, -, hcy⟩ := ecell (by rw [← hmy]; exact own_below o3 HI.out.1) hiy
                rw [← hmy] at hvy
                simp only [Value.slice.injEq, true_and] at hvy
                obtain ⟨rfl, rfl⟩ := hvy
                obtain ⟨t0, t1⟩ := hcy i ye hye
                have htk : ys.take (i + 1) = ys.take i ++ [ye] := by rw [List.take_add_one, hye]; rfl
                obtain ⟨k', q'⟩ := ye
                simp only at t0 t1
                have HT := hidi htk
                clear o1 o3 hmy hiy hye hcy htk
                by_cases ek : k' = k
                · have tk : (k'.toList == k.toList) = true := by rw [teq]; simp [ek]
                  have HE := hidi ek
                  clear ek
                  go_wp2_with fail
                  go_roundg (my - (i + 1))
                  case measure => omega
                  case rel =>
                    refine ⟨i + 1, 1, by omega, by first | rfl | simp, by first | rfl | simp, HI.out.1, .inl rfl, ?_⟩
                    rw [HT.out, HE.out]
                    exact ⟨fun _ => ⟨q', by simp⟩, fun _ => rfl⟩
                · have tk : (k'.toList == k.toList) = false := by rw [teq]; simp [ek]
                  have HE := hidi ek
                  clear ek
                  go_wp2_with fail
                  go_roundg (my - (i + 1))
                  case measure => omega
                  case rel =>
                    refine ⟨i + 1, hd, by omega, by first | rfl | simp, by first | rfl | simp, HI.out.1, HI.out.2.1, ?_⟩
                    rw [HT.out, HI.out.2.2]
                    constructor
                    · rintro ⟨q, hq⟩
                      exact ⟨q, by simp [hq]⟩
                    · rintro ⟨q, hq⟩
                      rcases List.mem_append.1 hq with z | z
                      · exact ⟨q, z⟩
                      · simp at z
                        exact absurd z.1.symm HE.out
              · have hlt : ¬ (i : Int) < (my : Int) := by omega
                obtain rfl : my = i := by omega
                obtain ⟨o1, o3, hmy⟩ := HO.out
                have etk : ys.take my = ys := by rw [hmy]; exact List.take_length
                obtain ⟨hb9, hd1, hd2⟩ := HI.out
                rw [etk] at hd2
                have SX := hidi (S9.out.below hb9)
                have HD2 := hidi (show hd = 0 → ∀ o, ¬ Has PA f k o from fun z o hh => by
                  have : hd = 1 := hd2.2 ⟨o, (o1 k o).2 hh⟩
                  omega)
                have HD1 := hidi hd1
                clear o1 o3 hmy etk hb9 hd1 hd2 HI HO S9 hlt hin
                by_cases hf0 : rfc f = 0
                · have PT := hidi (sp_put SX.out (by have := HN2.out; omega) f k hf0 HS.out.2.1 HS.out.2.2)
                  clear hf0
                  go_wp2_with fail
                  go_must (go_at_call 8)
                  refine PT.out.mono ?_
                  rintro e wB ⟨⟨rr, rfl⟩, hsp⟩
                  have SB := hidi hsp
                  clear hsp PT
                  rcases HD1.out with rfl | rfl
                  · go_wp2_with (go_at_call 9; refine (NU.out _ _).mono ?_; rintro e w' ⟨rfl, he⟩; obtain rfl := he.symm; clear he)
                    go_ret
                    exact ⟨rfl, SB.out.bel⟩
                  · obtain ⟨r1, r2, r3, r4, r5, r6, r7⟩ := HR.out
                    have hnx := HN2.out
                    have hno := HD2.out rfl
                    have DR := hidi (sp_drop SB.out (by omega) r3 hno r6 r7)
                    have DR2 := hidi (fun (wC : World) (hsc : SP W A A (A + 1) (n + 1) PA PB v7 R6 wC) => sp_drop2 hsc (by omega) hno)
                    have RW := hidi (fun (wC : World) (hsc : SP W A A (A + 1) (n + 1) PA PB v7 R6 wC) => sp_rows hsc (by omega))
                    have FD := hidi (fun (wC : World) (hsc : SP W A A (A + 1) (n + 1) PA PB v7 R6 wC) => sp_find hsc (by omega) t)
                    have AL := hidi all_any
                    clear r1 r2 r3 r4 r5 r6 r7 hnx hno
                    go_wp2_with (go_at_call 9; refine (NU.out _ _).mono ?_; rintro e w' ⟨rfl, he⟩; obtain rfl := he.symm; clear he)
                    go_must (go_at_call 15)
                    refine DR.out.mono ?_
                    rintro e wC ⟨rfl, hsc⟩
                    have SC := hidi hsc
                    have D2 := hidi (DR2.out wC hsc)
                    clear hsc DR DR2
                    go_wp2_with fail
                    go_must (go_at_call 15)
                    refine D2.out.mono ?_
                    rintro e w' ⟨rfl, he⟩
                    obtain rfl := he.symm
                    clear he D2
                    have RA := hidi (RW.out wC SC.out).1
                    go_wp2_with fail
                    go_must (go_at_call 17)
                    refine (AL.out A wC).mono ?_
                    rintro e w' ⟨rfl, rfl⟩
                    go_wp2_with fail
                    go_must (go_at_call 16)
                    refine RA.out.mono ?_
                    rintro e wD ⟨vp, S1, rfl, s1, s2, s3, s4⟩
                    have SD := hidi (SC.out.below s4)
                    have RB := hidi (RW.out wD SD.out).2
                    have HP := hidi (And.intro s1 (And.intro s2 s3))
                    clear s1 s2 s3 s4 RA
                    go_wp2_with fail
                    go_must (go_at_call 17)
                    refine (AL.out (A + 1) wD).mono ?_
                    rintro e w' ⟨rfl, rfl⟩
                    go_wp2_with fail
                    go_must (go_at_call 16)
                    refine RB.out.mono ?_
                    rintro e wE ⟨vq, S2, rfl, q1, q2, q3, q4⟩
                    obtain ⟨s1, s2, s3⟩ := HP.out
                    obtain ⟨r1, r2, r3, r4, r5, r6, r7⟩ := HR.out
                    have eS : S1 = S2 := allr_same r3 r4 r5 s1 q1
                    subst eS
                    have SE := hidi (SD.out.below q4)
                    obtain ⟨ms, hms⟩ : ∃ ms, ms = S1.length := ⟨_, rfl⟩
                    have hms9 : ms ≤ 900000 := by rw [hms]; exact s2
                    have s3' := own_below s3 q4
                    rw [← hms] at s3' q3
                    obtain ⟨ap, cp, rfl⟩ := own_sl s3'
                    obtain ⟨aq, cq, rfl⟩ := own_sl q3
                    have HPQ := hidi (And.intro s3' (And.intro q3 hms))
                    have hmm : ((ms : Int) != (ms : Int)) = false := by simp
                    clear s1 s2 s3 s3' q1 q2 q3 q4 r1 r2 r3 r4 r5 r6 r7 hms RB RW HP
                    go_wp2_with fail
                    go_loopg [29] ms (fun gk s29 wx => ∃ i : Nat, i + gk = ms ∧ s29 = .int .i64 i ∧ Hid (Below wE.heap.size wE wx))
                    case atStart => exact ⟨0, by omega, rfl, Below.refl _ _⟩
                    case round =>
                      obtain ⟨i, hi, rfl, HI⟩ := hrel
                      by_cases hin : i < ms
                      · have hlt : (i : Int) < (ms : Int) := by omega
                        have hge : (0 : Int) ≤ (i : Int) := by omega
                        have hw1 : IntKind.i64.wrap ((i : Int) + 1) = (i : Int) + 1 := by rw [IntKind.wrap_i64]; omega
                        obtain ⟨s3, q3, hms⟩ := HPQ.out
                        have hiS : i < S1.length := by rw [← hms]; exact hin
                        obtain ⟨x, hx⟩ : ∃ x, S1[i]? = some x := ⟨_, List.getElem?_eq_getElem hiS⟩
                        obtain ⟨gp, cp', hvp, hcp⟩ := rcell (by rw [← hms]; exact own_below s3 HI.out) hiS
                        obtain ⟨gq, cq', hvq, hcq⟩ := rcell (by rw [← hms]; exact own_below q3 HI.out) hiS
                        rw [← hms] at hvp hvq
                        simp only [Value.slice.injEq, true_and] at hvp hvq
                        obtain ⟨rfl, rfl⟩ := hvp
                        obtain ⟨rfl, rfl⟩ := hvq
                        obtain ⟨t0, t1, t2⟩ := hcp i x hx
                        obtain ⟨u0, u1, u2⟩ := hcq i x hx
                        obtain ⟨xf, xk, xq⟩ := x
                        simp only at t0 t1 t2 u0 u1 u2
                        have h1 : (xf.toList == xf.toList) = true := by simp
                        have h2 : (xk.toList == xk.toList) = true := by simp
                        have h3 : (xq != xq) = false := by simp
                        clear s3 q3 hms hiS hx hcp hcq
                        go_wp2_with fail
                        go_quiet (fail)
                        have HB1 := hidi (below_drewN HI.out (m := nq))
                        go_wp2_with fail
                        go_roundg (ms - (i + 1))
                        case measure => omega
                        case rel => exact ⟨i + 1, by omega, by first | rfl | simp, HB1.out⟩
                      · have hlt : ¬ (i : Int) < (ms : Int) := by omega
                        have SF := hidi (SE.out.below HI.out)
                        have FD1 := hidi (FD.out wr SF.out)
                        clear HI SE HPQ
                        go_wp2_with fail
                        go_must (go_at_call 11)
                        refine FD1.out.mono ?_
                        rintro e wF ⟨vf, Rf, rfl, f1, f2, f3, f4⟩
                        obtain ⟨r1, r2, r3, r4, r5, r6, r7⟩ := HR.out
                        have eR : Rf = R6 := fr_same r5 f1 r1
                        subst eR
                        have SG := hidi (SF.out.below f4)
                        have SM := hidi (sameE_any f3 SG.out.row f2)
                        clear r1 r2 r3 r4 r5 r6 r7 f1 f2 f3 f4
                        go_wp2_with (go_at_call 12; refine SM.out.mono ?_; rintro e wG ⟨rfl, hb⟩; have HBG := hidi (SG.out.bel.trans (hb.mono SG.out.bel.size)); clear hb)
                        go_ret
                        exact ⟨rfl, HBG.out⟩
                · have PT := hidi (put_70 (w := wr) f k 2 (.pointer (some ⟨A, 0, none⟩)) hf0)
                  clear hf0
                  go_wp2_with (first | (go_at_call 8; refine PT.out.mono ?_; rintro e wB ⟨rfl, hb⟩; have HB9 := hidi (SX.out.bel.trans (hb.mono SX.out.bel.size)); clear hb) | (go_at_call 9; refine (NU.out _ _).mono ?_; rintro e w' ⟨rfl, he⟩; obtain rfl := he.symm; clear he))
                  go_ret
                  exact ⟨rfl, HB9.out⟩
end Go.Proofs.YtenaliaefbkbcaaGreat.Li
namespace Go.Proofs.YtenaliaefbkbcaaGreat.Li
open Go Go.RowKit Go.Shelf
set_option linter.unusedSimpArgs false
set_option linter.unusedVariables false
set_option maxRecDepth 100000 in
theorem ins138_one (s f : Value) (w : World) : Calls Tryz.prog 138 #[s, .int .i64 0, .int .i64 1, f] w fun e w' => e = .returned (.tuple #[]) ∧ w' = w := by
  go_enter Tryz.func138, Tryz.ntmps138
  go_wp2_with fail
  go_loopg [8, 9] 0 (fun gk s8 s9 wx => s8 = .int .i64 1 ∧ wx = w)
  case atStart => exact ⟨rfl, rfl⟩
  case round =>
    obtain ⟨rfl, rfl⟩ := hrel
    go_wp2_with fail
    go_end0
    exact ⟨rfl, rfl⟩
set_option maxRecDepth 100000 in
set_option maxHeartbeats 2000000 in
theorem pdq121_one (s f : Value) (n : Int) (w : World) : Calls Tryz.prog 121 #[s, .int .i64 0, .int .i64 1, .int .i64 n, f] w fun e w' => e = .returned (.tuple #[]) ∧ w' = w := by
  have H := hidi (ins138_one s f w)
  go_enter Tryz.func121, Tryz.ntmps121
  go_wp2_with fail
  go_loopg [1, 2, 3, 10, 11, 12, 13, 14, 15, 16, 17, 18, 19, 20] 0 (fun gk s1 s2 s3 s10 s11 s12 s13 s14 s15 s16 s17 s18 s19 s20 wx => s1 = .int .i64 0 ∧ s2 = .int .i64 1 ∧ wx = w)
  case atStart => exact ⟨rfl, rfl, rfl⟩
  case round =>
    obtain ⟨rfl, rfl, rfl⟩ := hrel
    go_wp2_with (go_at_call 138; refine H.out.mono ?_; rintro e w' ⟨rfl, he⟩; obtain rfl := he.symm; clear he)
    (try simp only [Exit.inBlock, Exit.then])
    refine bodyPost_ret (results_none rfl _ _ _) rfl ?_
    exact ⟨rfl, rfl⟩
set_option maxRecDepth 100000 in
theorem sort91_one (a : Option Addr) (c : Nat) (f : Value) (w : World) : Calls Tryz.prog 91 #[.slice a 1 c, f] w fun e w' => e = .returned (.tuple #[]) ∧ w' = w := by
  have L := hidi (Tryz.bits_Len 1 w (by omega) (by omega))
  have P := hidi (fun n => pdq121_one (.slice a 1 c) f n w)
  go_enter Tryz.func91, Tryz.ntmps91
  go_wp2_with (first | (go_at_call 81; refine L.out.mono ?_; rintro e w' ⟨rfl, he⟩; obtain rfl := he.symm; clear he) | (go_at_call 121; refine (P.out _).mono ?_; rintro e w' ⟨rfl, he⟩; obtain rfl := he.symm; clear he))
  go_end0
  exact ⟨rfl, rfl⟩
set_option maxRecDepth 100000 in
theorem sorted70_one {B : Nat} {w : World} {kb bk bf : Nat} {v : Value} {ts : List ByteArray} {f : ByteArray} {t : ByteArray} (h : KS B w kb v ts) (hl : ts.length ≤ 900) (hbk : w.heap[bk]? = some (.cells #[.pointer (some ⟨kb, 0, none⟩)] 57)) (hbf : w.heap[bf]? = some (.cells #[.string f] 9)) (hf : ts.filter (fun t => mch f t) = [t]) :
    Calls Tryz.prog 70 #[.func (.func 72) #[] #[.pointer (some ⟨bk, 0, none⟩), .pointer (some ⟨bf, 0, none⟩)], .func (.func 71) #[] #[]] w fun e w' => ∃ v', e = .returned v' ∧ w'.ownsRow w.heap.size 30 4 v' 1 (mrw [t]) ∧ Below w.heap.size w w' := by
  have A := hidi (appseq_any h hl hbk hbf)
  rw [hf] at A
  clear h hl hbk hbf hf
  have C := hidi (show Calls Tryz.prog 90 #[.func (.func 72) #[] #[.pointer (some ⟨bk, 0, none⟩), .pointer (some ⟨bf, 0, none⟩)]] w fun e w' => ∃ v', e = .returned v' ∧ w'.ownsRow w.heap.size 30 4 v' 1 (mrw [t]) ∧ Below w.heap.size w w' from by
    go_enter Tryz.func90, Tryz.ntmps90
    go_wp2_with (go_at_call 120; refine A.out.mono ?_; rintro e w' ⟨v', rfl, h1⟩; have H1 := hidi h1; clear h1)
    go_ret
    exact ⟨v', rfl, H1.out⟩)
  clear A
  go_enter Tryz.func70, Tryz.ntmps70
  go_wp2_with (first | (go_at_call 90; refine C.out.mono ?_; rintro e w' ⟨v', rfl, h1, h2⟩; have H1 := hidi (And.intro h1 h2); obtain ⟨a, c, rfl⟩ := own_sl h1; have S := hidi (sort91_one a c (.func (.func 71) #[] #[]) w'); clear h1 h2) | (go_at_call 91; refine S.out.mono ?_; rintro e w5 ⟨rfl, he⟩; obtain rfl := he.symm; clear he))
  go_ret
  exact ⟨_, rfl, H1.out⟩
theorem kfind_any (kb : Nat) (f : ByteArray) (w : World) : Calls Tryz.prog 20 #[.pointer (some ⟨kb, 0, none⟩), .string f] w fun e w' => e = .returned (.func (.func 69) #[] #[.pointer (some ⟨w.heap.size + 1 + 1, 0, none⟩)]) ∧ w' = ((w.alloc (.cells #[.pointer (some ⟨kb, 0, none⟩)] 57)).alloc (.cells #[.string f] 9)).alloc (.cells #[.func (.func 72) #[] #[.pointer (some ⟨w.heap.size, 0, none⟩), .pointer (some ⟨w.heap.size + 1, 0, none⟩)]] 62) := by
  have M := hidi (kmatch_any kb f w)
  have O := hidi (fun (q : Value) (w : World) (hq : ∃ a b c, q = .func a b c) => (show Calls Tryz.prog 46 #[q] w fun e w' => e = .returned (.func (.func 69) #[] #[.pointer (some ⟨w.heap.size, 0, none⟩)]) ∧ w' = w.alloc (.cells #[q] 62) from by
    obtain ⟨a, b, c, rfl⟩ := hq
    go_enter Tryz.func46, Tryz.ntmps46
    go_wp2
    go_ret
    exact ⟨rfl, rfl⟩))
  go_enter Tryz.func20, Tryz.ntmps20
  go_wp2_with (first | (go_at_call 47; refine M.out.mono ?_; rintro e w' ⟨rfl, he⟩; obtain rfl := he.symm; clear he) | (go_at_call 46; refine (O.out _ _ ⟨_, _, _, rfl⟩).mono ?_; rintro e w' ⟨rfl, he⟩; obtain rfl := he.symm; clear he))
  go_ret
  simp [size_alloc]
end Go.Proofs.YtenaliaefbkbcaaGreat.Li
