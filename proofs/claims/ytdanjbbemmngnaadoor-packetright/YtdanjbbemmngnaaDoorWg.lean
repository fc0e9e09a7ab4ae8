import Derived.Test.YtdanjbbemmngnaaDoorTe
import Derived.Test.YtdanjbbemmngnaaDoorWd
import Derived.Deep.LoopGhost
namespace Go.Proofs.YtdanjbbemmngnaaDoor
open Go Go.RowKit Go.Sort
set_option linter.unusedSimpArgs false
set_option linter.unusedVariables false

set_option maxHeartbeats 1000000 in
set_option maxRecDepth 100000 in
theorem topicsRight_any (p : Pk) (w : World) : Calls Tryd.prog 36 #[p.v] w fun e w' => e = .returned (.bool (tps TT p)) ∧ Below w.heap.size w w' := by
  obtain ⟨kind, level, clean, keep, client, hasWill, wT, wP, wQ, wR, hasUser, user, hasPass, pass, present, code, dup, mT, mP, mQ, mR, id, asks, codes, filters⟩ := p
  obtain ⟨wPa, wPn, wPc⟩ := wP
  obtain ⟨pa, pn, pc⟩ := pass
  obtain ⟨ma, mn, mc⟩ := mP
  obtain ⟨aa, an, ac⟩ := asks
  obtain ⟨ca, cn, cc⟩ := codes
  obtain ⟨fa, fn, fc⟩ := filters
  simp only [Pk.v, Sl.v, tps, TT]
  have b0 : Below w.heap.size w (w.alloc (Obj.cells #[.int .i64 kind, .int .i64 level, .bool clean, .int .i64 keep, .string client, .bool hasWill, .string wT, .slice wPa wPn wPc, .int .i64 wQ, .bool wR, .bool hasUser, .string user, .bool hasPass, .slice pa pn pc, .bool present, .int .i64 code, .bool dup, .string mT, .slice ma mn mc, .int .i64 mQ, .bool mR, .int .i64 id, .slice aa an ac, .slice ca cn cc, .slice fa fn fc] 31)) := (Below.refl _ _).alloc (Nat.le_refl _) _
  cases hasWill with
  | false =>
    have E : True := trivial
    by_cases h3 : kind = 3
    · subst h3
      go_enter Tryd.func36, Tryd.ntmps36
      go_wp2_with fail
      have B0 : Hid (Below w.heap.size w _) := b0
      go_must (go_at_call 46)
      refine (tcheck_any mT _).mono ?_
      rintro e w2 ⟨rfl, hb2⟩
      have B2 : Hid (Below w.heap.size w w2) := B0.out.trans (hb2.mono B0.out.size)
      clear hb2
      go_wp2
      go_ret
      exact ⟨by simp [topb, E], B2.out⟩
    · have h3' : (kind != 3) = true := by simpa using h3
      go_enter Tryd.func36, Tryd.ntmps36
      go_wp2_with fail
      have B0 : Hid (Below w.heap.size w _) := b0
      go_ret
      exact ⟨by simp [topb, E, h3], B0.out⟩
  | true =>
    by_cases hz : tcode wT = 0
    · have E : (tcode wT == 0) = true := by simpa using hz
      have hzz : kind = kind := rfl
      by_cases h3 : kind = 3
      · subst h3
        go_enter Tryd.func36, Tryd.ntmps36
        go_wp2_with fail
        go_must (go_at_call 46)
        refine (tcheck_any wT _).mono ?_
        rintro e w1 ⟨rfl, hb1⟩
        have B0 : Hid (Below w.heap.size w w1) := b0.trans (hb1.mono b0.size)
        have q0 := cell_later hb1 (box_cell w _ _ 0 _ rfl)
        have q17 := cell_later hb1 (box_cell w _ _ 17 _ rfl)
        clear hb1
        rw [hz]
        go_wp2_with fail
        go_must (go_at_call 46)
        refine (tcheck_any mT _).mono ?_
        rintro e w2 ⟨rfl, hb2⟩
        have B2 : Hid (Below w.heap.size w w2) := B0.out.trans (hb2.mono B0.out.size)
        clear hb2
        go_wp2
        go_ret
        exact ⟨by simp [topb, E], B2.out⟩
      · have h3' : (kind != 3) = true := by simpa using h3
        go_enter Tryd.func36, Tryd.ntmps36
        go_wp2_with fail
        go_must (go_at_call 46)
        refine (tcheck_any wT _).mono ?_
        rintro e w1 ⟨rfl, hb1⟩
        have B0 : Hid (Below w.heap.size w w1) := b0.trans (hb1.mono b0.size)
        have q0 := cell_later hb1 (box_cell w _ _ 0 _ rfl)
        have q17 := cell_later hb1 (box_cell w _ _ 17 _ rfl)
        clear hb1
        rw [hz]
        go_wp2_with fail
        go_ret
        exact ⟨by simp [topb, E, h3], B0.out⟩
    · have hz' : (tcode wT != 0) = true := by simpa using hz
      have E : (tcode wT == 0) = false := by simpa using hz
      go_enter Tryd.func36, Tryd.ntmps36
      go_wp2_with fail
      go_must (go_at_call 46)
      refine (tcheck_any wT _).mono ?_
      rintro e w1 ⟨rfl, hb1⟩
      have B0 : Hid (Below w.heap.size w w1) := b0.trans (hb1.mono b0.size)
      clear hb1
      go_wp2
      go_ret
      exact ⟨by simp [topb, E], B0.out⟩
end Go.Proofs.YtdanjbbemmngnaaDoor
