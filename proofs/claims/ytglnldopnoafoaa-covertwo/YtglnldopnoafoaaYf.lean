import Derived.Test.YtglnldopnoafoaaYe
namespace Go.Proofs.Ytglnldopnoafoaa
open Go Go.RowKit
set_option linter.unusedSimpArgs false
set_option linter.unusedVariables false

def sv (l : List Bs) : List Value := (l.map mkB).map Value.string
theorem sv_app (a b : List Bs) : sv (a ++ b) = sv a ++ sv b := by simp [sv]
set_option maxRecDepth 100000 in
set_option maxHeartbeats 2000000 in
theorem fillR_any (xs : List ByteArray) (more : Nat) (v : Value) (w : World) (R : Row w v xs) (hn : xs.length ≤ 200000) (hm : more ≤ 200000) : Calls Try.prog 26 #[v, .int .i64 more] w fun e w' => ∃ v', e = .returned v' ∧ w'.ownsRow w.heap.size 9 1 v' (fillR (xs.map unB) more).length (sv (fillR (xs.map unB) more)) ∧ Below w.heap.size w w' := by
  obtain ⟨i0, hi, hz0, hz1, hz2⟩ : ∃ i0, Try.prog.info? 9 = some i0 ∧ i0.zero = some (.string ⟨#[]⟩) ∧ i0.size = 1 ∧ i0.bytes = 16 := ⟨_, rfl, rfl, rfl, rfl⟩
  obtain ⟨a, n, cap, rfl, hnn, hc, hx⟩ := R
  have HC : Hid (∀ w1, Below w.heap.size w w1 → ∀ j x, xs[j]? = some x → ∃ g o, a = some ⟨g, o, none⟩ ∧ w1.cell? ⟨g, o + j, none⟩ = some (.string x)) := by
    intro w1 hb j x hj
    obtain ⟨g, o, h1, h2, h3⟩ := hx (by intro h; rw [h] at hj; simp at hj)
    exact ⟨g, o, h1, (hb.cell (p := ⟨g, o + j, none⟩) h2).trans (h3 j x hj)⟩
  obtain ⟨L, hL⟩ : ∃ L, xs.map unB = L := ⟨_, rfl⟩
  rw [hL]
  have HL : Hid (L.length = n ∧ n ≤ 200000 ∧ more ≤ 200000 ∧ n = xs.length) := ⟨by rw [← hL, hnn]; simp, by omega, hm, hnn⟩
  have HLX : Hid (∀ j x, xs[j]? = some x → L[j]? = some (unB x)) := fun j x h => by rw [← hL, List.getElem?_map, h]; rfl
  obtain ⟨FR, hFR⟩ : ∃ FR, fillR L more = FR := ⟨_, rfl⟩
  have HFR : Hid (fillR L more = FR) := hFR
  rw [hFR]
  have B0 : Hid (Below w.heap.size w w) := Below.refl _ _
  have O0 : Hid (w.ownsRow w.heap.size 9 1 (.slice none 0 0) 0 (sv ((L.take 0).map fz))) := World.ownsRow_nil _ _ _ _
  clear hx hnn hc hL hn hm hFR
  go_enter Try.func26, Try.ntmps26
  go_wp2_with fail
  go_loopg [5, 6] n (fun gk s5 s6 wx => ∃ i : Nat, i + gk = n ∧ s6 = .int .i64 i ∧ Hid (wx.ownsRow w.heap.size 9 1 s5 i (sv ((L.take i).map fz))) ∧ Hid (Below w.heap.size w wx))
  case atStart => exact ⟨0, by omega, rfl, O0, B0⟩
  case round =>
    obtain ⟨i, hi2, rfl, HO, HB⟩ := hrel
    cases gk with
    | succ gk =>
      have hiz : (i : Int) < (n : Int) := by omega
      have hi0 : (0 : Int) ≤ (i : Int) := by omega
      have hwi : IntKind.i64.wrap ((i : Int) + 1) = (i : Int) + 1 := by rw [IntKind.wrap_i64]; have := HL.out; omega
      obtain ⟨x, hx⟩ : ∃ x, xs[i]? = some x := ⟨_, List.getElem?_eq_getElem (by have := HL.out; omega)⟩
      obtain ⟨g, o, rfl, hcell⟩ := HC.out wr HB.out i x hx
      have HT : Hid ((L.take (i + 1)).map fz = (L.take i).map fz ++ [fz (unB x)]) := by
        show _ = _
        rw [take_snoc L i (unB x) (HLX.out i x hx)]
        simp
      clear hx
      by_cases h43 : unB x = [43]
      · have q1 : (x.toList == [43]) = true := by rw [eq_one']; simp [h43]
        have HT2 : Hid ((L.take (i + 1)).map fz = (L.take i).map fz ++ [[]]) := by show _ = _; rw [HT.out]; simp [fz, h43]
        clear h43 HT
        go_wp2_with (at_builtin; refine wpList_append_own _ rfl (.tmp 18) (.tmp 19) 27 rfl w.heap.size 9 i0 (.string ⟨#[]⟩) 1 16 Try.underlying27 hi hz0 hz1 hz2 rfl (by decide) _ _ _ rfl (HO.out.alloc _) ⟨_, 0, none⟩ 1 1 [.string ⟨#[]⟩] rfl rfl (cell_one_new _ _ _) (by intro u hu; simp at hu; subst hu; rfl) (by have := HL.out; unfold maxLen; omega) (by have := HL.out; omega) (by have := HB.out.size; simp; omega) ?_)
        intro v2 w2 hown2 hgrow2 hnil2
        have hb2 := (HB.out.alloc HB.out.size _).grown hgrow2 (by have := HB.out.size; simp; omega) (by intro q hq; exact (HO.out.lt _ hq).1)
        have HO2 : Hid (w2.ownsRow w.heap.size 9 1 v2 (i + 1) (sv ((L.take (i + 1)).map fz))) := by
          show World.ownsRow _ _ _ _ _ _ _
          rw [HT2.out, sv_app, show sv (List.map fz (List.take i L)) = sv (List.take i (List.map fz L)) by rw [List.map_take]]
          exact hown2
        have HB2 : Hid (Below w.heap.size w w2) := hb2
        clear hown2 hgrow2 hnil2 hb2
        go_wp2_with fail
        go_roundg gk
        case measure => omega
        case rel => exact ⟨i + 1, by omega, by first | rfl | simp, HO2, HB2⟩
      · have q1 : (x.toList == [43]) = false := by rw [eq_one']; simp [h43]
        have HT2 : Hid ((L.take (i + 1)).map fz = (L.take i).map fz ++ [unB x]) := by show _ = _; rw [HT.out]; simp [fz, h43]
        clear h43 HT
        go_wp2_with (at_builtin; refine wpList_append_own _ rfl (.tmp 21) (.tmp 26) 27 rfl w.heap.size 9 i0 (.string ⟨#[]⟩) 1 16 Try.underlying27 hi hz0 hz1 hz2 rfl (by decide) _ _ _ rfl (HO.out.alloc _) ⟨_, 0, none⟩ 1 1 [.string x] rfl rfl (cell_one_new _ _ _) (by intro u hu; simp at hu; subst hu; rfl) (by have := HL.out; unfold maxLen; omega) (by have := HL.out; omega) (by have := HB.out.size; simp; omega) ?_)
        intro v2 w2 hown2 hgrow2 hnil2
        have hb2 := (HB.out.alloc HB.out.size _).grown hgrow2 (by have := HB.out.size; simp; omega) (by intro q hq; exact (HO.out.lt _ hq).1)
        have HO2 : Hid (w2.ownsRow w.heap.size 9 1 v2 (i + 1) (sv ((L.take (i + 1)).map fz))) := by
          show World.ownsRow _ _ _ _ _ _ _
          rw [HT2.out, sv_app, show sv [unB x] = [.string x] by simp [sv, mk_un], show sv (List.map fz (List.take i L)) = sv (List.take i (List.map fz L)) by rw [List.map_take]]
          exact hown2
        have HB2 : Hid (Below w.heap.size w w2) := hb2
        clear hown2 hgrow2 hnil2 hb2
        go_wp2_with fail
        go_roundg gk
        case measure => omega
        case rel => exact ⟨i + 1, by omega, by first | rfl | simp, HO2, HB2⟩
    | zero =>
      have hiz : ¬ (i : Int) < (n : Int) := by omega
      have HO1 : Hid (wr.ownsRow w.heap.size 9 1 u5 (n + 0) (sv (L.map fz ++ List.replicate 0 []))) := by
        show World.ownsRow _ _ _ _ _ _ _
        have h9 := HO.out
        rw [List.take_of_length_le (by have := HL.out; omega), show i = n by omega] at h9
        simpa using h9
      obtain ⟨v5, hv5⟩ : ∃ v5, v5 = u5 := ⟨_, rfl⟩
      rw [← hv5] at HO1 ⊢
      clear HO hv5 hi2
      go_wp2_with fail
      go_loopg [5] (more - n) (fun gk s5 wx => ∃ k : Nat, (k + gk = more - n) ∧ Hid (wx.ownsRow w.heap.size 9 1 s5 (n + k) (sv (L.map fz ++ List.replicate k []))) ∧ Hid (Below w.heap.size w wx))
      case atStart => exact ⟨0, by omega, HO1, HB⟩
      case round =>
        obtain ⟨k, hk, HO, HB⟩ := hrel
        obtain ⟨gv, cv, lv, hlv⟩ : ∃ (av : Option Addr) (cv lv : Nat), u5 = .slice av lv cv ∧ lv = n + k := by
          rcases HO.out.2 with ⟨h1, h2⟩ | ⟨g, cp, _, h1, _⟩
          · exact ⟨none, 0, 0, h1, by omega⟩
          · exact ⟨_, _, _, h1, rfl⟩
        obtain ⟨hv, hlv2⟩ := hlv
        subst hv
        subst hlv2
        cases gk with
        | zero =>
          have hz3 : ¬ ((n + k : Nat) : Int) < (more : Int) := by omega
          have HO2 : Hid (wr.ownsRow w.heap.size 9 1 (.slice gv (n + k) cv) FR.length (sv FR)) := by
            have h9 := HO.out
            have e : L.map fz ++ List.replicate k [] = FR := by
              rw [← HFR.out, fillR, show more - L.length = k by have := HL.out; omega]
            rw [e] at h9
            have e2 : FR.length = n + k := by rw [← e]; simp; exact HL.out.1
            show World.ownsRow _ _ _ _ _ _ _
            rw [e2]
            exact h9
          clear HO
          go_wp2_with fail
          go_ret
          exact ⟨_, rfl, HO2.out, HB.out⟩
        | succ gk =>
          have hz3 : ((n + k : Nat) : Int) < (more : Int) := by omega
          go_wp2_with (at_builtin; refine wpList_append_own _ rfl (.tmp 32) (.tmp 33) 27 rfl w.heap.size 9 i0 (.string ⟨#[]⟩) 1 16 Try.underlying27 hi hz0 hz1 hz2 rfl (by decide) _ _ _ rfl (HO.out.alloc _) ⟨_, 0, none⟩ 1 1 [.string ⟨#[]⟩] rfl rfl (cell_one_new _ _ _) (by intro u hu; simp at hu; subst hu; rfl) (by have := HL.out; unfold maxLen; omega) (by have := HL.out; omega) (by have := HB.out.size; simp; omega) ?_)
          intro v2 w2 hown2 hgrow2 hnil2
          have hb2 := (HB.out.alloc HB.out.size _).grown hgrow2 (by have := HB.out.size; simp; omega) (by intro q hq; exact (HO.out.lt _ hq).1)
          have HO2 : Hid (w2.ownsRow w.heap.size 9 1 v2 (n + (k + 1)) (sv (L.map fz ++ List.replicate (k + 1) []))) := by
            show World.ownsRow _ _ _ _ _ _ _
            rw [List.replicate_succ', ← List.append_assoc, sv_app]
            exact hown2
          have HB2 : Hid (Below w.heap.size w w2) := hb2
          clear hown2 hgrow2 hnil2 hb2
          go_wp2_with fail
          go_roundg gk
          case measure => omega
          case rel => exact ⟨k + 1, by omega, HO2, HB2⟩
theorem rows_sv {w : World} {B : Nat} {v : Value} {l : List Bs} (h : w.ownsRow B 9 1 v l.length (sv l)) : Row w v (l.map mkB) := by
  refine row_of (B := B) ?_
  simpa [sv] using h
set_option maxRecDepth 100000 in
set_option maxHeartbeats 1000000 in
theorem common_ref (l : List Bs) (f g : ByteArray) (v : Value) (w : World) (R : Row w v (l.map mkB)) (hl : tot l ≤ 1000000) : Calls Try.prog 24 #[v, .string f, .string g] w fun e w' => (∃ s, e = .returned (.tuple #[.string s, .bool (comB l f g)])) ∧ Below w.heap.size w w' := by
  have RI : Hid (Calls Try.prog 51 #[v] w fun e w' => (∃ s, e = .returned (.tuple #[.string s, .bool (fitB l)]) ∧ (fitB l = true → s = mkB (joinL l))) ∧ Below w.heap.size w w') := by
    have := right_any (l.map mkB) v w R (by rw [map_un_mk]; exact hl)
    rw [map_un_mk] at this
    exact this
  obtain ⟨ft, hft⟩ : ∃ b, fitB l = b := ⟨_, rfl⟩
  obtain ⟨b1, hb1⟩ : ∃ b, mch f (mkB (joinL l)) = b := ⟨_, rfl⟩
  obtain ⟨b2, hb2⟩ : ∃ b, mch g (mkB (joinL l)) = b := ⟨_, rfl⟩
  have e0 : comB l f g = (ft && b1 && b2) := by unfold comB; rw [hft, hb1, hb2]
  rw [e0]
  rw [hft] at RI
  have HF : Hid (mch f (mkB (joinL l)) = b1) := hb1
  have HG : Hid (mch g (mkB (joinL l)) = b2) := hb2
  obtain ⟨a, n, cap, rfl, -⟩ := R
  clear e0 hft hb1 hb2 hl
  go_enter Try.func24, Try.ntmps24
  go_wp2_with fail
  go_must (go_at_call 51)
  refine RI.out.mono ?_
  rintro e w1 ⟨⟨s, rfl, hs⟩, hb⟩
  have B1 : Hid (Below w.heap.size w w1) := hb
  have HS : Hid (ft = true → s = mkB (joinL l)) := hs
  clear hb hs
  cases ft with
  | false =>
    go_wp2_with fail
    go_ret2
    exact ⟨⟨_, rfl⟩, B1.out⟩
  | true =>
    have hse : s = mkB (joinL l) := HS.out (by first | rfl | trivial)
    have HSE : Hid (s = mkB (joinL l)) := hse
    clear hse HS
    go_wp2_with fail
    go_must (go_at_call 9)
    refine (rmatch_any f s w1).mono ?_
    rintro e w2 ⟨rfl, hb⟩
    replace B1 : Hid (Below w.heap.size w w2) := B1.out.trans (hb.mono B1.out.size)
    clear hb
    rw [HSE.out, HF.out]
    cases b1 with
    | false =>
      go_wp2_with fail
      go_ret2
      exact ⟨⟨_, rfl⟩, B1.out⟩
    | true =>
      go_wp2_with fail
      go_must (go_at_call 9)
      refine (rmatch_any g _ w2).mono ?_
      rintro e w3 ⟨rfl, hb⟩
      replace B1 : Hid (Below w.heap.size w w3) := B1.out.trans (hb.mono B1.out.size)
      clear hb
      rw [HG.out]
      cases b2 <;> (go_wp2_with fail; go_ret2; exact ⟨⟨_, rfl⟩, B1.out⟩)
set_option maxRecDepth 100000 in
set_option maxHeartbeats 1000000 in
theorem shows_ref (l : List Bs) (f g : ByteArray) (v : Value) (w : World) (R : Row w v (l.map mkB)) (hl : tot l ≤ 1000000) : Calls Try.prog 31 #[v, .string f, .string g] w fun e w' => (∃ s, e = .returned (.tuple #[.string s, .bool (shoB l f g)])) ∧ Below w.heap.size w w' := by
  have RI : Hid (Calls Try.prog 51 #[v] w fun e w' => (∃ s, e = .returned (.tuple #[.string s, .bool (fitB l)]) ∧ (fitB l = true → s = mkB (joinL l))) ∧ Below w.heap.size w w') := by
    have := right_any (l.map mkB) v w R (by rw [map_un_mk]; exact hl)
    rw [map_un_mk] at this
    exact this
  obtain ⟨ft, hft⟩ : ∃ b, fitB l = b := ⟨_, rfl⟩
  obtain ⟨b1, hb1⟩ : ∃ b, mch f (mkB (joinL l)) = b := ⟨_, rfl⟩
  obtain ⟨b2, hb2⟩ : ∃ b, mch g (mkB (joinL l)) = b := ⟨_, rfl⟩
  have e0 : shoB l f g = (ft && b1 && !b2) := by unfold shoB; rw [hft, hb1, hb2]
  rw [e0]
  rw [hft] at RI
  have HF : Hid (mch f (mkB (joinL l)) = b1) := hb1
  have HG : Hid (mch g (mkB (joinL l)) = b2) := hb2
  obtain ⟨a, n, cap, rfl, -⟩ := R
  clear e0 hft hb1 hb2 hl
  go_enter Try.func31, Try.ntmps31
  go_wp2_with fail
  go_must (go_at_call 51)
  refine RI.out.mono ?_
  rintro e w1 ⟨⟨s, rfl, hs⟩, hb⟩
  have B1 : Hid (Below w.heap.size w w1) := hb
  have HS : Hid (ft = true → s = mkB (joinL l)) := hs
  clear hb hs
  cases ft with
  | false =>
    go_wp2_with fail
    go_ret2
    exact ⟨⟨_, rfl⟩, B1.out⟩
  | true =>
    have hse : s = mkB (joinL l) := HS.out (by first | rfl | trivial)
    have HSE : Hid (s = mkB (joinL l)) := hse
    clear hse HS
    go_wp2_with fail
    go_must (go_at_call 9)
    refine (rmatch_any f s w1).mono ?_
    rintro e w2 ⟨rfl, hb⟩
    replace B1 : Hid (Below w.heap.size w w2) := B1.out.trans (hb.mono B1.out.size)
    clear hb
    rw [HSE.out, HF.out]
    cases b1 with
    | false =>
      go_wp2_with fail
      go_ret2
      exact ⟨⟨_, rfl⟩, B1.out⟩
    | true =>
      go_wp2_with fail
      go_must (go_at_call 9)
      refine (rmatch_any g _ w2).mono ?_
      rintro e w3 ⟨rfl, hb⟩
      replace B1 : Hid (Below w.heap.size w w3) := B1.out.trans (hb.mono B1.out.size)
      clear hb
      rw [HG.out]
      cases b2 <;> (go_wp2_with fail; go_ret2; exact ⟨⟨_, rfl⟩, B1.out⟩)
end Go.Proofs.Ytglnldopnoafoaa
