import Derived.Test.YtdanjbbemmngnaaGreatDoorWf
import Derived.Test.YtdanjbbemmngnaaGreatDoorTe
import Derived.Deep.LoopGhost
namespace Go.Proofs.YtdanjbbemmngnaaGreatDoor
open Go Go.RowKit Go.Sort
set_option linter.unusedSimpArgs false
set_option linter.unusedVariables false

/-- Packets of no great size. -/
structure Small (p : Pk) (c : Cn) : Prop where
  cl : p.client.size ≤ 1000000
  us : p.user.size ≤ 1000000
  wt : p.wT.size ≤ 1000000
  mt : p.mT.size ≤ 1000000
  wp : p.wP.n ≤ 1000000
  ps : p.pass.n ≤ 1000000
  mp : p.mP.n ≤ 1000000
  an : p.asks.n ≤ 1000000
  cn : p.codes.n ≤ 1000000
  fn : p.filters.n ≤ 1000000
  sa : sumN (fun i => 3 + (c.af i).size) p.asks.n ≤ 100000000
  sf : sumN (fun i => 2 + (c.fs i).size) p.filters.n ≤ 100000000

set_option maxHeartbeats 1000000 in
set_option maxRecDepth 100000 in
theorem sizeOfConnect_any (p : Pk) (c : Cn) (h : Small p c) (w : World) : Calls Tryz.prog 138 #[p.v] w fun e w' => e = .returned (.int .i64 (szc p)) ∧ Below w.heap.size w w' := by
  obtain ⟨kind, level, clean, keep, client, hasWill, wT, wP, wQ, wR, hasUser, user, hasPass, pass, present, code, dup, mT, mP, mQ, mR, id, asks, codes, filters⟩ := p
  obtain ⟨wPa, wPn, wPc⟩ := wP
  obtain ⟨pa, pn, pc⟩ := pass
  obtain ⟨ma, mn, mc⟩ := mP
  obtain ⟨aa, an, ac⟩ := asks
  obtain ⟨ca, cn, cc⟩ := codes
  obtain ⟨fa, fn, fc⟩ := filters
  obtain ⟨h1, h2, h3, _, h5, h6, _, _, _, _, _, _⟩ := h
  simp only at h1 h2 h3 h5 h6
  have b0 : Hid (Below w.heap.size w (w.alloc (Obj.cells #[.int .i64 kind, .int .i64 level, .bool clean, .int .i64 keep, .string client, .bool hasWill, .string wT, .slice wPa wPn wPc, .int .i64 wQ, .bool wR, .bool hasUser, .string user, .bool hasPass, .slice pa pn pc, .bool present, .int .i64 code, .bool dup, .string mT, .slice ma mn mc, .int .i64 mQ, .bool mR, .int .i64 id, .slice aa an ac, .slice ca cn cc, .slice fa fn fc] 29))) := (Below.refl _ _).alloc (Nat.le_refl _) _
  simp only [Pk.v, Sl.v, szc]
  cases hasWill <;> cases hasUser <;> cases hasPass
  all_goals
    go_enter Tryz.func138, Tryz.ntmps138
    go_wp2
    go_ret
    refine ⟨congrArg (fun x => Ending.returned (Value.int .i64 x)) ?_, b0.out⟩
    first | rfl | (simp; done) | (simp; omega)
end Go.Proofs.YtdanjbbemmngnaaGreatDoor
