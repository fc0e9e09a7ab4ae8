import Derived.Test.YtmfbkfgggdkfmaaGreatDoorPTe
import Derived.Test.YtmfbkfgggdkfmaaGreatDoorPWf
import Derived.Deep.LoopGhost
namespace Go.Proofs.YtmfbkfgggdkfmaaGreatDoor.Pkt
open Go Go.RowKit Go.Sort
set_option linter.unusedSimpArgs false
set_option linter.unusedVariables false

set_option maxHeartbeats 1000000 in
set_option maxRecDepth 100000 in
theorem topicsRight_any (p : Pk) (w : World) : Calls Tryz.prog 72 #[p.v] w fun e w' => e = .returned (.bool (tps TT p)) ∧ Below w.heap.size w w' := by
  obtain ⟨kind, level, clean, keep, client, hasWill, wT, wP, wQ, wR, hasUser, user, hasPass, pass, present, code, dup, mT, mP, mQ, mR, id, asks, codes, filters⟩ := p
  obtain ⟨wPa, wPn, wPc⟩ := wP
  obtain ⟨pa, pn, pc⟩ := pass
  obtain ⟨ma, mn, mc⟩ := mP
  obtain ⟨aa, an, ac⟩ := asks
  obtain ⟨ca, cn, cc⟩ := codes
  obtain ⟨fa, fn, fc⟩ := filters
  simp only [Pk.v, Sl.v, tps, TT]
  have b0 : Below w.heap.size w (w.alloc (Obj.cells #[.int .i64 kind, .int .i64 level, .bool clean, .int .i64 keep, .string client, .bool hasWill, .string wT, .slice wPa wPn wPc, .int .i64 wQ, .bool wR, .bool hasUser, .string user, .bool hasPass, .slice pa pn pc, .bool present, .int .i64 code, .bool dup, .string mT, .slice ma mn mc, .int .i64 mQ, .bool mR, .int .i64 id, .slice aa an ac, .slice ca cn cc, .slice fa fn fc] 38)) := (Below.refl _ _).alloc (Nat.le_refl _) _
  cases hasWill with
  | false =>
    have E : True := trivial
    by_cases h3 : kind = 3
    · subst h3
      go_enter Tryz.func72, Tryz.ntmps72
      go_wp2_with fail
      have B0 : Hid (Below w.heap.size w _) := b0
      go_must (go_at_call 90)
      refine (tcheck_any mT _).mono ?_
      rintro e w2 ⟨rfl, hb2⟩
      have B2 : Hid (Below w.heap.size w w2) := B0.out.trans (hb2.mono B0.out.size)
      clear hb2
      go_wp2
      go_ret
      exact ⟨by simp [topb, E], B2.out⟩
    · have h3' : (kind != 3) = true := by simpa using h3
      go_enter Tryz.func72, Tryz.ntmps72
      go_wp2_with fail
      have B0 : Hid (Below w.heap.size w _) := b0
      go_ret
      exact ⟨by simp [topb, E, h3], B0.out⟩
  | true =>
    by_cases hz : tcode wT = 0
    · have E : (tcode wT == 0) = true := by simpa using hz
      have hzz : kind = kind := rfl
      by_cases h3 : kind = 3
      · subst h3
        go_enter Tryz.func72, Tryz.ntmps72
        go_wp2_with fail
        go_must (go_at_call 90)
        refine (tcheck_any wT _).mono ?_
        rintro e w1 ⟨rfl, hb1⟩
        have B0 : Hid (Below w.heap.size w w1) := b0.trans (hb1.mono b0.size)
        have q0 := cell_later hb1 (box_cell w _ _ 0 _ rfl)
        have q17 := cell_later hb1 (box_cell w _ _ 17 _ rfl)
        clear hb1
        rw [hz]
        go_wp2_with fail
        go_must (go_at_call 90)
        refine (tcheck_any mT _).mono ?_
        rintro e w2 ⟨rfl, hb2⟩
        have B2 : Hid (Below w.heap.size w w2) := B0.out.trans (hb2.mono B0.out.size)
        clear hb2
        go_wp2
        go_ret
        exact ⟨by simp [topb, E], B2.out⟩
      · have h3' : (kind != 3) = true := by simpa using h3
        go_enter Tryz.func72, Tryz.ntmps72
        go_wp2_with fail
        go_must (go_at_call 90)
        refine (tcheck_any wT _).mono ?_
        rintro e w1 ⟨rfl, hb1⟩
        have B0 : Hid (Below w.heap.size w w1) := b0.trans (hb1.mono b0.size)
        have q0 := cell_later hb1 (box_cell w _ _ 0 _ rfl)
        have q17 := cell_later hb1 (box_cell w _ _ 17 _ rfl)
        clear hb1
        rw [hz]
        go_wp2_with fail
        go_ret
        exact ⟨by simp [topb, E, h3], B0.out⟩
    · have hz' : (tcode wT != 0) = true := by simpa using hz
      have E : (tcode wT == 0) = false := by simpa using hz
      go_enter Tryz.func72, Tryz.ntmps72
      go_wp2_with fail
      go_must (go_at_call 90)
      refine (tcheck_any wT _).mono ?_
      rintro e w1 ⟨rfl, hb1⟩
      have B0 : Hid (Below w.heap.size w w1) := b0.trans (hb1.mono b0.size)
      clear hb1
      go_wp2
      go_ret
      exact ⟨by simp [topb, E], B0.out⟩
end Go.Proofs.YtmfbkfgggdkfmaaGreatDoor.Pkt
namespace Go.Proofs.YtmfbkfgggdkfmaaGreatDoor.Pkt
open Go Go.RowKit Go.Sort
set_option linter.unusedSimpArgs false
set_option linter.unusedVariables false

set_option maxHeartbeats 1000000 in
set_option maxRecDepth 100000 in
theorem filtersRight_any (p : Pk) (c : Cn) (w : World) (h : In w p c) (ha : p.asks.n ≤ 1000000) (hf : p.filters.n ≤ 1000000) (m : Int) (HM : Hid (w.cell? ⟨2, 0, none⟩ = some (.int .i64 m))) : Calls Tryz.prog 73 #[p.v] w fun e w' => e = .returned (.bool (flts TT p c)) ∧ Below w.heap.size w w' := by
  obtain ⟨kind, level, clean, keep, client, hasWill, wT, wP, wQ, wR, hasUser, user, hasPass, pass, present, code, dup, mT, mP, mQ, mR, id, asks, codes, filters⟩ := p
  obtain ⟨wPa, wPn, wPc⟩ := wP
  obtain ⟨pa, pn, pc⟩ := pass
  obtain ⟨ma, mn, mc⟩ := mP
  obtain ⟨aa, an, ac⟩ := asks
  obtain ⟨ca, cn, cc⟩ := codes
  obtain ⟨fa, fn, fc⟩ := filters
  have HA : Hid (As w ⟨aa, an, ac⟩ c.af c.aq) := h.asks
  have HS : Hid (Ss w ⟨fa, fn, fc⟩ c.fs) := h.filters
  have HT : Hid (∀ b, b = flts TT ⟨kind, level, clean, keep, client, hasWill, wT, ⟨wPa, wPn, wPc⟩, wQ, wR, hasUser, user, hasPass, ⟨pa, pn, pc⟩, present, code, dup, mT, ⟨ma, mn, mc⟩, mQ, mR, id, ⟨aa, an, ac⟩, ⟨ca, cn, cc⟩, ⟨fa, fn, fc⟩⟩ c ↔ b = (allN an (fun i => flt (c.af i)) && allN fn (fun i => flt (c.fs i)))) := fun b => Iff.rfl
  simp only at ha hf
  have ha' : (an : Int) ≤ 1000000 := by omega
  have hf' : (fn : Int) ≤ 1000000 := by omega
  clear h
  have B0 : Hid (Below w.heap.size w (w.alloc (Obj.cells #[.int .i64 kind, .int .i64 level, .bool clean, .int .i64 keep, .string client, .bool hasWill, .string wT, .slice wPa wPn wPc, .int .i64 wQ, .bool wR, .bool hasUser, .string user, .bool hasPass, .slice pa pn pc, .bool present, .int .i64 code, .bool dup, .string mT, .slice ma mn mc, .int .i64 mQ, .bool mR, .int .i64 id, .slice aa an ac, .slice ca cn cc, .slice fa fn fc] 38))) := (Below.refl _ _).alloc (Nat.le_refl _) _
  simp only [Pk.v, Sl.v]
  go_enter Tryz.func73, Tryz.ntmps73
  go_wp2_with fail
  go_loopg [10] an (fun g s10 wx => ∃ k : Nat, s10 = .int .i64 k ∧ k + g = an ∧ Hid (Below w.heap.size w wx) ∧ Hid (wx.cell? ⟨w.heap.size, 24, none⟩ = some (.slice fa fn fc)) ∧ Hid (∀ j, j < k → flt (c.af j) = true))
  case atStart => exact ⟨0, rfl, by omega, B0, box_cell w _ _ 24 _ rfl, fun j hj => by omega⟩
  case round =>
    obtain ⟨k, rfl, hkg, B, HX, HD⟩ := hrel
    by_cases hk : k < an
    · obtain ⟨b, off, he, hc⟩ : ∃ b off, aa = some ⟨b, off, none⟩ ∧ ∀ i, i < an → (w.cell? ⟨b, off + i * 2, none⟩ = some (.string (c.af i)) ∧ w.cell? ⟨b, off + i * 2 + 1, none⟩ = some (.int .i64 (c.aq i))) := by
        rcases HA.out.2 with h | h
        · simp only at h; omega
        · exact h
      subst he
      have hac : an ≤ ac := HA.out.1
      have c0 := cell_later B.out (hc k hk).1
      have c1 := cell_later B.out (hc k hk).2
      have hk' : (k : Int) < an := by omega
      clear hc
      by_cases hz : fcode (c.af k) = 0
      · have HZ : Hid (flt (c.af k) = true) := by show flt (c.af k) = true; unfold flt; simpa using hz
        obtain ⟨g, hg⟩ : ∃ g, gk = g + 1 := ⟨gk - 1, by omega⟩
        go_wp2_with fail
        go_must (go_at_call 91)
        have bb : Below wr.heap.size wr (wr.alloc (Obj.cells #[Value.string (c.af k), Value.int IntKind.i64 (c.aq k)] 77)) := (Below.refl _ _).alloc (Nat.le_refl _) _
        refine (fcheck_any (c.af k) _ m (cell_later bb (cell_later B.out HM.out))).mono ?_
        rintro e w2 ⟨rfl, hb2⟩
        have bb2 : Below wr.heap.size wr w2 := bb.trans (hb2.mono bb.size)
        have B2 : Hid (Below w.heap.size w w2) := B.out.trans (bb2.mono B.out.size)
        have X2 : Hid (w2.cell? ⟨w.heap.size, 24, none⟩ = some (.slice fa fn fc)) := cell_later bb2 HX.out
        clear hb2 bb bb2 c0 c1
        rw [hz]
        go_wp2
        go_roundg g
        case measure => omega
        case rel => exact ⟨k + 1, by first | rfl | simp, by omega, B2, X2, fun j hj => by
            rcases Nat.lt_or_ge j k with h | h
            · exact HD.out j h
            · obtain rfl : j = k := by omega
              exact HZ.out⟩
      · have hz' : (fcode (c.af k) != 0) = true := by simpa using hz
        have HZ : Hid (false = flts TT _ c) := (HT.out false).2 (by
          rw [allN_false k hk (show flt (c.af k) = false by unfold flt; simpa using hz)]; rfl)
        go_wp2_with fail
        go_must (go_at_call 91)
        have bb : Below wr.heap.size wr (wr.alloc (Obj.cells #[Value.string (c.af k), Value.int IntKind.i64 (c.aq k)] 77)) := (Below.refl _ _).alloc (Nat.le_refl _) _
        refine (fcheck_any (c.af k) _ m (cell_later bb (cell_later B.out HM.out))).mono ?_
        rintro e w2 ⟨rfl, hb2⟩
        have bb2 : Below wr.heap.size wr w2 := bb.trans (hb2.mono bb.size)
        have B2 : Hid (Below w.heap.size w w2) := B.out.trans (bb2.mono B.out.size)
        clear hb2 bb bb2 c0 c1
        go_wp2
        go_ret
        exact ⟨by rw [← HZ.out]; rfl, B2.out⟩
    · obtain rfl : k = an := by omega
      have hk' : ¬ (k : Int) < k := by omega
      have hx := HX.out
      go_wp2_with fail
      obtain ⟨wz, hwz⟩ : ∃ wz, wz = wr := ⟨_, rfl⟩
      rw [← hwz] at B ⊢
      have HDA : Hid (allN k (fun i => flt (c.af i)) = true) := (allN_iff _ _).2 HD.out
      clear hwz HX hx HD
      go_loopg [22] fn (fun g s22 wx => ∃ j : Nat, s22 = .int .i64 j ∧ j + g = fn ∧ Hid (Below w.heap.size w wx) ∧ Hid (∀ i, i < j → flt (c.fs i) = true))
      case atStart => exact ⟨0, rfl, by omega, B, fun i hi => by omega⟩
      case round =>
        obtain ⟨j, rfl, hjg, B, HD⟩ := hrel
        by_cases hj : j < fn
        · obtain ⟨b, off, he, hc⟩ : ∃ b off, fa = some ⟨b, off, none⟩ ∧ ∀ i, i < fn → w.cell? ⟨b, off + i, none⟩ = some (.string (c.fs i)) := by
            rcases HS.out.2 with h | h
            · simp only at h; omega
            · exact h
          subst he
          have hac : fn ≤ fc := HS.out.1
          have c0 := cell_later B.out (hc j hj)
          have hj' : (j : Int) < fn := by omega
          clear hc
          by_cases hz : fcode (c.fs j) = 0
          · have HZ : Hid (flt (c.fs j) = true) := by show flt (c.fs j) = true; unfold flt; simpa using hz
            obtain ⟨g, hg⟩ : ∃ g, gk = g + 1 := ⟨gk - 1, by omega⟩
            go_wp2_with fail
            go_must (go_at_call 91)
            refine (fcheck_any (c.fs j) _ m (cell_later B.out HM.out)).mono ?_
            rintro e w2 ⟨rfl, hb2⟩
            have B2 : Hid (Below w.heap.size w w2) := B.out.trans (hb2.mono B.out.size)
            clear hb2 c0
            rw [hz]
            go_wp2
            go_roundg g
            case measure => omega
            case rel => exact ⟨j + 1, by first | rfl | simp, by omega, B2, fun i hi => by
                rcases Nat.lt_or_ge i j with h | h
                · exact HD.out i h
                · obtain rfl : i = j := by omega
                  exact HZ.out⟩
          · have hz' : (fcode (c.fs j) != 0) = true := by simpa using hz
            have HZ : Hid (false = flts TT _ c) := (HT.out false).2 (by
              rw [allN_false j hj (show flt (c.fs j) = false by unfold flt; simpa using hz), Bool.and_false])
            go_wp2_with fail
            go_must (go_at_call 91)
            refine (fcheck_any (c.fs j) _ m (cell_later B.out HM.out)).mono ?_
            rintro e w2 ⟨rfl, hb2⟩
            have B2 : Hid (Below w.heap.size w w2) := B.out.trans (hb2.mono B.out.size)
            clear hb2 c0
            go_wp2
            go_ret
            exact ⟨by rw [← HZ.out]; rfl, B2.out⟩
        · obtain rfl : j = fn := by omega
          have hj' : ¬ (j : Int) < j := by omega
          have HZ : Hid (true = flts TT _ c) := (HT.out true).2 (by rw [HDA.out, (allN_iff _ _).2 HD.out]; rfl)
          go_wp2
          go_ret
          exact ⟨by rw [← HZ.out]; rfl, B.out⟩
end Go.Proofs.YtmfbkfgggdkfmaaGreatDoor.Pkt
namespace Go.Proofs.YtmfbkfgggdkfmaaGreatDoor.Pkt
open Go Go.RowKit Go.Sort
set_option linter.unusedSimpArgs false
set_option linter.unusedVariables false

set_option maxHeartbeats 1000000 in
set_option maxRecDepth 100000 in
theorem qualitiesRight_any (p : Pk) (c : Cn) (w : World) (h : In w p c) (ha : p.asks.n ≤ 1000000) (hf : p.codes.n ≤ 1000000) : Calls Tryz.prog 74 #[p.v] w fun e w' => e = .returned (.bool (qls p c)) ∧ Below w.heap.size w w' := by
  obtain ⟨kind, level, clean, keep, client, hasWill, wT, wP, wQ, wR, hasUser, user, hasPass, pass, present, code, dup, mT, mP, mQ, mR, id, asks, codes, filters⟩ := p
  obtain ⟨wPa, wPn, wPc⟩ := wP
  obtain ⟨pa, pn, pc⟩ := pass
  obtain ⟨ma, mn, mc⟩ := mP
  obtain ⟨aa, an, ac⟩ := asks
  obtain ⟨ca, cn, cc⟩ := codes
  obtain ⟨fa, fn, fc⟩ := filters
  have HA : Hid (As w ⟨aa, an, ac⟩ c.af c.aq) := h.asks
  have HS : Hid (Is w ⟨ca, cn, cc⟩ c.cs) := h.codes
  have HT : Hid (∀ b, b = qls ⟨kind, level, clean, keep, client, hasWill, wT, ⟨wPa, wPn, wPc⟩, wQ, wR, hasUser, user, hasPass, ⟨pa, pn, pc⟩, present, code, dup, mT, ⟨ma, mn, mc⟩, mQ, mR, id, ⟨aa, an, ac⟩, ⟨ca, cn, cc⟩, ⟨fa, fn, fc⟩⟩ c ↔ b = (isQ wQ && isQ mQ && allN an (fun i => isQ (c.aq i)) && allN cn (fun i => isC (c.cs i)))) := fun b => Iff.rfl
  simp only at ha hf
  have ha' : (an : Int) ≤ 1000000 := by omega
  have hf' : (cn : Int) ≤ 1000000 := by omega
  clear h
  have B0 : Hid (Below w.heap.size w (w.alloc (Obj.cells #[.int .i64 kind, .int .i64 level, .bool clean, .int .i64 keep, .string client, .bool hasWill, .string wT, .slice wPa wPn wPc, .int .i64 wQ, .bool wR, .bool hasUser, .string user, .bool hasPass, .slice pa pn pc, .bool present, .int .i64 code, .bool dup, .string mT, .slice ma mn mc, .int .i64 mQ, .bool mR, .int .i64 id, .slice aa an ac, .slice ca cn cc, .slice fa fn fc] 38))) := (Below.refl _ _).alloc (Nat.le_refl _) _
  simp only [Pk.v, Sl.v]
  cases h1 : isQ wQ
  · have HZ : Hid (false = qls _ c) := (HT.out false).2 (by rw [h1]; rfl)
    go_enter Tryz.func74, Tryz.ntmps74
    go_wp2_with (go_at_call 92; refine (isQuality_any _ _).mono ?_; rintro e w' ⟨rfl, rfl⟩; rw [h1])
    go_ret
    exact ⟨by rw [← HZ.out]; rfl, B0.out⟩
  cases h2 : isQ mQ
  · have HZ : Hid (false = qls _ c) := (HT.out false).2 (by rw [h1, h2]; rfl)
    go_enter Tryz.func74, Tryz.ntmps74
    go_wp2_with (go_at_call 92; refine (isQuality_any _ _).mono ?_; rintro e w' ⟨rfl, rfl⟩; first | rw [h1] | rw [h2])
    go_ret
    exact ⟨by rw [← HZ.out]; rfl, B0.out⟩
  have HT2 : Hid (∀ b, b = qls ⟨kind, level, clean, keep, client, hasWill, wT, ⟨wPa, wPn, wPc⟩, wQ, wR, hasUser, user, hasPass, ⟨pa, pn, pc⟩, present, code, dup, mT, ⟨ma, mn, mc⟩, mQ, mR, id, ⟨aa, an, ac⟩, ⟨ca, cn, cc⟩, ⟨fa, fn, fc⟩⟩ c ↔ b = (allN an (fun i => isQ (c.aq i)) && allN cn (fun i => isC (c.cs i)))) := fun b => by rw [HT.out b, h1, h2]; rfl
  clear HT
  go_enter Tryz.func74, Tryz.ntmps74
  go_wp2_with (go_at_call 92; refine (isQuality_any _ _).mono ?_; rintro e w' ⟨rfl, rfl⟩; first | rw [h1] | rw [h2])
  go_loopg [22] an (fun g s22 wx => ∃ k : Nat, s22 = .int .i64 k ∧ k + g = an ∧ Hid (Below w.heap.size w wx) ∧ Hid (wx.cell? ⟨w.heap.size, 23, none⟩ = some (.slice ca cn cc)) ∧ Hid (∀ j, j < k → isQ (c.aq j) = true))
  case atStart => exact ⟨0, rfl, by omega, B0, box_cell _ _ _ 23 _ rfl, fun j hj => by omega⟩
  case round =>
    obtain ⟨k, rfl, hkg, B, HX, HD⟩ := hrel
    by_cases hk : k < an
    · obtain ⟨b, off, he, hc⟩ : ∃ b off, aa = some ⟨b, off, none⟩ ∧ ∀ i, i < an → (w.cell? ⟨b, off + i * 2, none⟩ = some (.string (c.af i)) ∧ w.cell? ⟨b, off + i * 2 + 1, none⟩ = some (.int .i64 (c.aq i))) := by
        rcases HA.out.2 with h | h
        · simp only at h; omega
        · exact h
      subst he
      have hac : an ≤ ac := HA.out.1
      have c0 := cell_later B.out (hc k hk).1
      have c1 := cell_later B.out (hc k hk).2
      have hk' : (k : Int) < an := by omega
      have bb : Below wr.heap.size wr (wr.alloc (Obj.cells #[Value.string (c.af k), Value.int IntKind.i64 (c.aq k)] 77)) := (Below.refl _ _).alloc (Nat.le_refl _) _
      have B2 : Hid (Below w.heap.size w (wr.alloc (Obj.cells #[Value.string (c.af k), Value.int IntKind.i64 (c.aq k)] 77))) := B.out.trans (bb.mono B.out.size)
      have X2 : Hid ((wr.alloc (Obj.cells #[Value.string (c.af k), Value.int IntKind.i64 (c.aq k)] 77)).cell? ⟨w.heap.size, 23, none⟩ = some (.slice ca cn cc)) := cell_later bb HX.out
      clear hc bb
      cases hz : isQ (c.aq k)
      · have HZ : Hid (false = qls _ c) := (HT2.out false).2 (by rw [allN_false k hk hz]; rfl)
        go_wp2_with (go_at_call 92; refine (isQuality_any _ _).mono ?_; rintro e w1 ⟨rfl, he⟩; obtain rfl := he.symm; clear he; rw [hz])
        go_ret
        exact ⟨by rw [← HZ.out]; rfl, B2.out⟩
      · obtain ⟨g, hg⟩ : ∃ g, gk = g + 1 := ⟨gk - 1, by omega⟩
        have HZ : Hid (isQ (c.aq k) = true) := hz
        go_wp2_with (go_at_call 92; refine (isQuality_any _ _).mono ?_; rintro e w1 ⟨rfl, he⟩; obtain rfl := he.symm; clear he; rw [hz])
        go_roundg g
        case measure => omega
        case rel => exact ⟨k + 1, by first | rfl | simp, by omega, B2, X2, fun j hj => by
            rcases Nat.lt_or_ge j k with h | h
            · exact HD.out j h
            · obtain rfl : j = k := by omega
              exact HZ.out⟩
    · obtain rfl : k = an := by omega
      have hk' : ¬ (k : Int) < k := by omega
      have hx := HX.out
      have HDA : Hid (allN k (fun i => isQ (c.aq i)) = true) := (allN_iff _ _).2 HD.out
      go_wp2_with fail
      obtain ⟨wz, hwz⟩ : ∃ wz, wz = wr := ⟨_, rfl⟩
      rw [← hwz] at B ⊢
      clear hwz HX hx HD
      go_loopg [34] cn (fun g s22 wx => ∃ j : Nat, s22 = .int .i64 j ∧ j + g = cn ∧ Hid (Below w.heap.size w wx) ∧ Hid (∀ i, i < j → isC (c.cs i) = true))
      case atStart => exact ⟨0, rfl, by omega, B, fun i hi => by omega⟩
      case round =>
        obtain ⟨j, rfl, hjg, B, HD⟩ := hrel
        by_cases hj : j < cn
        · obtain ⟨b, off, he, hc⟩ : ∃ b off, ca = some ⟨b, off, none⟩ ∧ ∀ i, i < cn → w.cell? ⟨b, off + i, none⟩ = some (.int .i64 (c.cs i)) := by
            rcases HS.out.2 with h | h
            · simp only at h; omega
            · exact h
          subst he
          have hac : cn ≤ cc := HS.out.1
          have c0 := cell_later B.out (hc j hj)
          have hj' : (j : Int) < cn := by omega
          obtain ⟨g, hg⟩ : ∃ g, gk = g + 1 := ⟨gk - 1, by omega⟩
          clear hc
          cases hz : isQ (c.cs j)
          · by_cases h128 : c.cs j = 128
            · have HZ : Hid (isC (c.cs j) = true) := by show isC (c.cs j) = true; simp [isC, h128]
              rw [h128] at c0 hz
              go_wp2_with (go_at_call 92; refine (isQuality_any _ _).mono ?_; rintro e w1 ⟨rfl, he⟩; obtain rfl := he.symm; clear he; rw [hz])
              go_roundg g
              case measure => omega
              case rel => exact ⟨j + 1, by first | rfl | simp, by omega, B, fun i hi => by
                  rcases Nat.lt_or_ge i j with h | h
                  · exact HD.out i h
                  · obtain rfl : i = j := by omega
                    exact HZ.out⟩
            · have h128' : (c.cs j != 128) = true := by simpa using h128
              have HZ : Hid (false = qls _ c) := (HT2.out false).2 (by
                rw [allN_false j hj (show isC (c.cs j) = false by simp [isC, hz, h128]), Bool.and_false])
              go_wp2_with (go_at_call 92; refine (isQuality_any _ _).mono ?_; rintro e w1 ⟨rfl, he⟩; obtain rfl := he.symm; clear he; rw [hz])
              go_ret
              exact ⟨by rw [← HZ.out]; rfl, B.out⟩
          · have HZ : Hid (isC (c.cs j) = true) := by show isC (c.cs j) = true; simp [isC, hz]
            go_wp2_with (go_at_call 92; refine (isQuality_any _ _).mono ?_; rintro e w1 ⟨rfl, he⟩; obtain rfl := he.symm; clear he; rw [hz])
            go_roundg g
            case measure => omega
            case rel => exact ⟨j + 1, by first | rfl | simp, by omega, B, fun i hi => by
                rcases Nat.lt_or_ge i j with h | h
                · exact HD.out i h
                · obtain rfl : i = j := by omega
                  exact HZ.out⟩
        · obtain rfl : j = cn := by omega
          have hj' : ¬ (j : Int) < j := by omega
          have HZ : Hid (true = qls _ c) := (HT2.out true).2 (by rw [HDA.out, (allN_iff _ _).2 HD.out]; rfl)
          go_wp2
          go_ret
          exact ⟨by rw [← HZ.out]; rfl, B.out⟩
end Go.Proofs.YtmfbkfgggdkfmaaGreatDoor.Pkt
