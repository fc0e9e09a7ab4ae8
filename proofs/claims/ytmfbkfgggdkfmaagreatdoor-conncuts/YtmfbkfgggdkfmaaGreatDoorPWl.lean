import Derived.Test.YtmfbkfgggdkfmaaGreatDoorPWf
import Derived.Test.YtmfbkfgggdkfmaaGreatDoorPTe
import Derived.Deep.LoopGhost
import Derived.Laws.Rows
import Derived.Test.YtmfbkfgggdkfmaaGreatDoorProg
import Derived.Lib.QuietBelow
namespace Go.Proofs.YtmfbkfgggdkfmaaGreatDoor.Pkt
open Go Go.RowKit Go.Sort
set_option linter.unusedSimpArgs false
set_option linter.unusedVariables false

/-- Packets of no great size. -/
structure Small (p : Pk) (c : Cn) : Prop where
  cl : p.client.size ≤ 1000000
  us : p.user.size ≤ 1000000
  wt : p.wT.size ≤ 1000000
  mt : p.mT.size ≤ 1000000
  wp : p.wP.n ≤ 1000000
  ps : p.pass.n ≤ 1000000
  mp : p.mP.n ≤ 1000000
  an : p.asks.n ≤ 1000000
  cn : p.codes.n ≤ 1000000
  fn : p.filters.n ≤ 1000000
  sa : sumN (fun i => 3 + (c.af i).size) p.asks.n ≤ 100000000
  sf : sumN (fun i => 2 + (c.fs i).size) p.filters.n ≤ 100000000

set_option maxHeartbeats 1000000 in
set_option maxRecDepth 100000 in
theorem sizeOfConnect_any (p : Pk) (c : Cn) (h : Small p c) (w : World) : Calls Tryz.prog 93 #[p.v] w fun e w' => e = .returned (.int .i64 (szc p)) ∧ Below w.heap.size w w' := by
  obtain ⟨kind, level, clean, keep, client, hasWill, wT, wP, wQ, wR, hasUser, user, hasPass, pass, present, code, dup, mT, mP, mQ, mR, id, asks, codes, filters⟩ := p
  obtain ⟨wPa, wPn, wPc⟩ := wP
  obtain ⟨pa, pn, pc⟩ := pass
  obtain ⟨ma, mn, mc⟩ := mP
  obtain ⟨aa, an, ac⟩ := asks
  obtain ⟨ca, cn, cc⟩ := codes
  obtain ⟨fa, fn, fc⟩ := filters
  obtain ⟨h1, h2, h3, _, h5, h6, _, _, _, _, _, _⟩ := h
  simp only at h1 h2 h3 h5 h6
  have b0 : Hid (Below w.heap.size w (w.alloc (Obj.cells #[.int .i64 kind, .int .i64 level, .bool clean, .int .i64 keep, .string client, .bool hasWill, .string wT, .slice wPa wPn wPc, .int .i64 wQ, .bool wR, .bool hasUser, .string user, .bool hasPass, .slice pa pn pc, .bool present, .int .i64 code, .bool dup, .string mT, .slice ma mn mc, .int .i64 mQ, .bool mR, .int .i64 id, .slice aa an ac, .slice ca cn cc, .slice fa fn fc] 38))) := (Below.refl _ _).alloc (Nat.le_refl _) _
  simp only [Pk.v, Sl.v, szc]
  cases hasWill <;> cases hasUser <;> cases hasPass
  all_goals
    go_enter Tryz.func93, Tryz.ntmps93
    go_wp2
    go_ret
    refine ⟨congrArg (fun x => Ending.returned (Value.int .i64 x)) ?_, b0.out⟩
    first | rfl | (simp; done) | (simp; omega)
end Go.Proofs.YtmfbkfgggdkfmaaGreatDoor.Pkt
namespace Go.Proofs.YtmfbkfgggdkfmaaGreatDoor.Pkt
open Go Go.RowKit Go.Sort
set_option linter.unusedSimpArgs false
set_option linter.unusedVariables false

variable {w : World}

set_option maxHeartbeats 1000000 in
set_option maxRecDepth 100000 in
theorem size_one (p : Pk) (c : Cn) (h : Small p c) (hin : In w p c) (hk : p.kind = 1) (HK : Hid (KindsAt w)) : Calls Tryz.prog 75 #[p.v] w fun e w' => e = .returned (.int .i64 (sz p c)) ∧ Below w.heap.size w w' := by
  have HF : Hid (∀ w', Below w.heap.size w w' → Calls Tryz.prog 69 #[p.v] w' fun e w'' => e = .returned (.int .i64 (fl p)) ∧ Below w'.heap.size w' w'') := fun w' hb => fields_any p w' (HK.out.below hb) (by omega) (by omega)
  have HC : Hid (∀ w', Calls Tryz.prog 93 #[p.v] w' fun e w'' => e = .returned (.int .i64 (szc p)) ∧ Below w'.heap.size w' w'') := fun w' => sizeOfConnect_any p c h w'
  have hz : bits .and .i64 (fl p : Int) 16384 = ((fl p &&& 16384 : Nat) : Int) := bits_and _ _ (by have := fl_lt p; omega) (by decide)
  have hi := fl_id p (by omega) (by omega)
  rw [show hasID p = false by simp [hasID, hk]] at hi
  have hz2 : (bits .and .i64 (fl p : Int) 16384 != 0) = false := by rw [hz]; simpa using hi
  rw [show sz p c = szc p by simp [sz, hk]]
  clear h hz hi hin
  obtain ⟨kind, level, clean, keep, client, hasWill, wT, wP, wQ, wR, hasUser, user, hasPass, pass, present, code, dup, mT, mP, mQ, mR, id, asks, codes, filters⟩ := p
  obtain ⟨wPa, wPn, wPc⟩ := wP
  obtain ⟨pa, pn, pc⟩ := pass
  obtain ⟨ma, mn, mc⟩ := mP
  obtain ⟨aa, an, ac⟩ := asks
  obtain ⟨ca, cn, cc⟩ := codes
  obtain ⟨fa, fn, fc⟩ := filters
  simp only at hk
  subst hk
  simp only [Pk.v, Sl.v] at HF HC ⊢
  go_enter Tryz.func75, Tryz.ntmps75
  go_wp2_with (refine wpList_load_row rfl 38 _ rfl w.heap.size rfl 38 _ (0, 0) _ (heap_alloc_new w _) Tryz.underlying38 rfl (by kernel_rfl) ?_)
  go_must (go_at_call 69)
  have b0 : Below w.heap.size w (w.alloc (Obj.cells #[.int .i64 1, .int .i64 level, .bool clean, .int .i64 keep, .string client, .bool hasWill, .string wT, .slice wPa wPn wPc, .int .i64 wQ, .bool wR, .bool hasUser, .string user, .bool hasPass, .slice pa pn pc, .bool present, .int .i64 code, .bool dup, .string mT, .slice ma mn mc, .int .i64 mQ, .bool mR, .int .i64 id, .slice aa an ac, .slice ca cn cc, .slice fa fn fc] 38)) := (Below.refl _ _).alloc (Nat.le_refl _) _
  refine (HF.out _ b0).mono ?_
  rintro e w1 ⟨rfl, hb1⟩
  have G1 : Hid (w1.heap[w.heap.size]? = some (.cells #[.int .i64 1, .int .i64 level, .bool clean, .int .i64 keep, .string client, .bool hasWill, .string wT, .slice wPa wPn wPc, .int .i64 wQ, .bool wR, .bool hasUser, .string user, .bool hasPass, .slice pa pn pc, .bool present, .int .i64 code, .bool dup, .string mT, .slice ma mn mc, .int .i64 mQ, .bool mR, .int .i64 id, .slice aa an ac, .slice ca cn cc, .slice fa fn fc] 38)) := (hb1.block _ (by show w.heap.size < (w.heap.push _).size; simp)).trans (heap_alloc_new w _)
  have q0 := cell_later hb1 (box_cell w _ _ 0 _ rfl)
  have q17 := cell_later hb1 (box_cell w _ _ 17 _ rfl)
  have q18 := cell_later hb1 (box_cell w _ _ 18 _ rfl)
  have q22 := cell_later hb1 (box_cell w _ _ 22 _ rfl)
  have q23 := cell_later hb1 (box_cell w _ _ 23 _ rfl)
  have q24 := cell_later hb1 (box_cell w _ _ 24 _ rfl)
  have B1 : Hid (Below w.heap.size w w1) := b0.trans (hb1.mono b0.size)
  clear hb1 b0
  go_wp2_with (refine wpList_load_row rfl 38 _ rfl w.heap.size rfl 38 _ (0, 0) _ G1.out Tryz.underlying38 rfl (by kernel_rfl) ?_)
  go_must (go_at_call 93)
  refine (HC.out _).mono ?_
  rintro e w2 ⟨rfl, hb2⟩
  have B2 : Hid (Below w.heap.size w w2) := B1.out.trans (hb2.mono B1.out.size)
  clear hb2
  go_wp2
  go_ret
  exact ⟨rfl, B2.out⟩

set_option maxHeartbeats 1000000 in
set_option maxRecDepth 100000 in
theorem size_two (p : Pk) (c : Cn) (h : Small p c) (hin : In w p c) (hk : p.kind = 2) (HK : Hid (KindsAt w)) : Calls Tryz.prog 75 #[p.v] w fun e w' => e = .returned (.int .i64 (sz p c)) ∧ Below w.heap.size w w' := by
  have HF : Hid (∀ w', Below w.heap.size w w' → Calls Tryz.prog 69 #[p.v] w' fun e w'' => e = .returned (.int .i64 (fl p)) ∧ Below w'.heap.size w' w'') := fun w' hb => fields_any p w' (HK.out.below hb) (by omega) (by omega)
  have HC : Hid (∀ w', Calls Tryz.prog 93 #[p.v] w' fun e w'' => e = .returned (.int .i64 (szc p)) ∧ Below w'.heap.size w' w'') := fun w' => sizeOfConnect_any p c h w'
  have hz : bits .and .i64 (fl p : Int) 16384 = ((fl p &&& 16384 : Nat) : Int) := bits_and _ _ (by have := fl_lt p; omega) (by decide)
  have hi := fl_id p (by omega) (by omega)
  rw [show hasID p = false by simp [hasID, hk]] at hi
  have hz2 : (bits .and .i64 (fl p : Int) 16384 != 0) = false := by rw [hz]; simpa using hi
  rw [show sz p c = 2 by simp [sz, hk]]
  clear h hz hi hin
  obtain ⟨kind, level, clean, keep, client, hasWill, wT, wP, wQ, wR, hasUser, user, hasPass, pass, present, code, dup, mT, mP, mQ, mR, id, asks, codes, filters⟩ := p
  obtain ⟨wPa, wPn, wPc⟩ := wP
  obtain ⟨pa, pn, pc⟩ := pass
  obtain ⟨ma, mn, mc⟩ := mP
  obtain ⟨aa, an, ac⟩ := asks
  obtain ⟨ca, cn, cc⟩ := codes
  obtain ⟨fa, fn, fc⟩ := filters
  simp only at hk
  subst hk
  simp only [Pk.v, Sl.v] at HF HC ⊢
  go_enter Tryz.func75, Tryz.ntmps75
  go_wp2_with (refine wpList_load_row rfl 38 _ rfl w.heap.size rfl 38 _ (0, 0) _ (heap_alloc_new w _) Tryz.underlying38 rfl (by kernel_rfl) ?_)
  go_must (go_at_call 69)
  have b0 : Below w.heap.size w (w.alloc (Obj.cells #[.int .i64 2, .int .i64 level, .bool clean, .int .i64 keep, .string client, .bool hasWill, .string wT, .slice wPa wPn wPc, .int .i64 wQ, .bool wR, .bool hasUser, .string user, .bool hasPass, .slice pa pn pc, .bool present, .int .i64 code, .bool dup, .string mT, .slice ma mn mc, .int .i64 mQ, .bool mR, .int .i64 id, .slice aa an ac, .slice ca cn cc, .slice fa fn fc] 38)) := (Below.refl _ _).alloc (Nat.le_refl _) _
  refine (HF.out _ b0).mono ?_
  rintro e w1 ⟨rfl, hb1⟩
  have G1 : Hid (w1.heap[w.heap.size]? = some (.cells #[.int .i64 2, .int .i64 level, .bool clean, .int .i64 keep, .string client, .bool hasWill, .string wT, .slice wPa wPn wPc, .int .i64 wQ, .bool wR, .bool hasUser, .string user, .bool hasPass, .slice pa pn pc, .bool present, .int .i64 code, .bool dup, .string mT, .slice ma mn mc, .int .i64 mQ, .bool mR, .int .i64 id, .slice aa an ac, .slice ca cn cc, .slice fa fn fc] 38)) := (hb1.block _ (by show w.heap.size < (w.heap.push _).size; simp)).trans (heap_alloc_new w _)
  have q0 := cell_later hb1 (box_cell w _ _ 0 _ rfl)
  have q17 := cell_later hb1 (box_cell w _ _ 17 _ rfl)
  have q18 := cell_later hb1 (box_cell w _ _ 18 _ rfl)
  have q22 := cell_later hb1 (box_cell w _ _ 22 _ rfl)
  have q23 := cell_later hb1 (box_cell w _ _ 23 _ rfl)
  have q24 := cell_later hb1 (box_cell w _ _ 24 _ rfl)
  have B1 : Hid (Below w.heap.size w w1) := b0.trans (hb1.mono b0.size)
  clear hb1 b0
  go_wp2
  go_ret
  exact ⟨rfl, B1.out⟩

set_option maxHeartbeats 1000000 in
set_option maxRecDepth 100000 in
theorem size_three_id (p : Pk) (c : Cn) (h : Small p c) (hin : In w p c) (hk : p.kind = 3) (hid : hasID p = true) (HK : Hid (KindsAt w)) : Calls Tryz.prog 75 #[p.v] w fun e w' => e = .returned (.int .i64 (sz p c)) ∧ Below w.heap.size w w' := by
  have HF : Hid (∀ w', Below w.heap.size w w' → Calls Tryz.prog 69 #[p.v] w' fun e w'' => e = .returned (.int .i64 (fl p)) ∧ Below w'.heap.size w' w'') := fun w' hb => fields_any p w' (HK.out.below hb) (by omega) (by omega)
  have HC : Hid (∀ w', Calls Tryz.prog 93 #[p.v] w' fun e w'' => e = .returned (.int .i64 (szc p)) ∧ Below w'.heap.size w' w'') := fun w' => sizeOfConnect_any p c h w'
  have hz : bits .and .i64 (fl p : Int) 16384 = ((fl p &&& 16384 : Nat) : Int) := bits_and _ _ (by have := fl_lt p; omega) (by decide)
  have hi := fl_id p (by omega) (by omega)
  rw [hid] at hi
  have hz2 : (bits .and .i64 (fl p : Int) 16384 != 0) = true := by rw [hz]; simpa using hi
  have HS : Hid ((((2 : Int) + 2 + p.mT.size + p.mP.n)) = (sz p c : Int)) := by
    show _ = _
    simp [sz, hk, nid, hid]
  have h4 := h.mt
  have h7 := h.mp
  clear h hz hi hin hid
  obtain ⟨kind, level, clean, keep, client, hasWill, wT, wP, wQ, wR, hasUser, user, hasPass, pass, present, code, dup, mT, mP, mQ, mR, id, asks, codes, filters⟩ := p
  obtain ⟨wPa, wPn, wPc⟩ := wP
  obtain ⟨pa, pn, pc⟩ := pass
  obtain ⟨ma, mn, mc⟩ := mP
  obtain ⟨aa, an, ac⟩ := asks
  obtain ⟨ca, cn, cc⟩ := codes
  obtain ⟨fa, fn, fc⟩ := filters
  simp only at hk h4 h7
  subst hk
  simp only [Pk.v, Sl.v] at HF HC ⊢
  simp only at HS
  go_enter Tryz.func75, Tryz.ntmps75
  go_wp2_with (refine wpList_load_row rfl 38 _ rfl w.heap.size rfl 38 _ (0, 0) _ (heap_alloc_new w _) Tryz.underlying38 rfl (by kernel_rfl) ?_)
  go_must (go_at_call 69)
  have b0 : Below w.heap.size w (w.alloc (Obj.cells #[.int .i64 3, .int .i64 level, .bool clean, .int .i64 keep, .string client, .bool hasWill, .string wT, .slice wPa wPn wPc, .int .i64 wQ, .bool wR, .bool hasUser, .string user, .bool hasPass, .slice pa pn pc, .bool present, .int .i64 code, .bool dup, .string mT, .slice ma mn mc, .int .i64 mQ, .bool mR, .int .i64 id, .slice aa an ac, .slice ca cn cc, .slice fa fn fc] 38)) := (Below.refl _ _).alloc (Nat.le_refl _) _
  refine (HF.out _ b0).mono ?_
  rintro e w1 ⟨rfl, hb1⟩
  have G1 : Hid (w1.heap[w.heap.size]? = some (.cells #[.int .i64 3, .int .i64 level, .bool clean, .int .i64 keep, .string client, .bool hasWill, .string wT, .slice wPa wPn wPc, .int .i64 wQ, .bool wR, .bool hasUser, .string user, .bool hasPass, .slice pa pn pc, .bool present, .int .i64 code, .bool dup, .string mT, .slice ma mn mc, .int .i64 mQ, .bool mR, .int .i64 id, .slice aa an ac, .slice ca cn cc, .slice fa fn fc] 38)) := (hb1.block _ (by show w.heap.size < (w.heap.push _).size; simp)).trans (heap_alloc_new w _)
  have q0 := cell_later hb1 (box_cell w _ _ 0 _ rfl)
  have q17 := cell_later hb1 (box_cell w _ _ 17 _ rfl)
  have q18 := cell_later hb1 (box_cell w _ _ 18 _ rfl)
  have q22 := cell_later hb1 (box_cell w _ _ 22 _ rfl)
  have q23 := cell_later hb1 (box_cell w _ _ 23 _ rfl)
  have q24 := cell_later hb1 (box_cell w _ _ 24 _ rfl)
  have B1 : Hid (Below w.heap.size w w1) := b0.trans (hb1.mono b0.size)
  clear hb1 b0
  go_wp2
  go_ret
  refine ⟨congrArg (fun x => Ending.returned (Value.int .i64 x)) ?_, B1.out⟩
  rw [← HS.out]
  first | rfl | (simp; done) | (simp; omega)

set_option maxHeartbeats 1000000 in
set_option maxRecDepth 100000 in
theorem size_three (p : Pk) (c : Cn) (h : Small p c) (hin : In w p c) (hk : p.kind = 3) (hid : hasID p = false) (HK : Hid (KindsAt w)) : Calls Tryz.prog 75 #[p.v] w fun e w' => e = .returned (.int .i64 (sz p c)) ∧ Below w.heap.size w w' := by
  have HF : Hid (∀ w', Below w.heap.size w w' → Calls Tryz.prog 69 #[p.v] w' fun e w'' => e = .returned (.int .i64 (fl p)) ∧ Below w'.heap.size w' w'') := fun w' hb => fields_any p w' (HK.out.below hb) (by omega) (by omega)
  have HC : Hid (∀ w', Calls Tryz.prog 93 #[p.v] w' fun e w'' => e = .returned (.int .i64 (szc p)) ∧ Below w'.heap.size w' w'') := fun w' => sizeOfConnect_any p c h w'
  have hz : bits .and .i64 (fl p : Int) 16384 = ((fl p &&& 16384 : Nat) : Int) := bits_and _ _ (by have := fl_lt p; omega) (by decide)
  have hi := fl_id p (by omega) (by omega)
  rw [hid] at hi
  have hz2 : (bits .and .i64 (fl p : Int) 16384 != 0) = false := by rw [hz]; simpa using hi
  have HS : Hid ((((0 : Int) + 2 + p.mT.size + p.mP.n)) = (sz p c : Int)) := by
    show _ = _
    simp [sz, hk, nid, hid]
  have h4 := h.mt
  have h7 := h.mp
  clear h hz hi hin hid
  obtain ⟨kind, level, clean, keep, client, hasWill, wT, wP, wQ, wR, hasUser, user, hasPass, pass, present, code, dup, mT, mP, mQ, mR, id, asks, codes, filters⟩ := p
  obtain ⟨wPa, wPn, wPc⟩ := wP
  obtain ⟨pa, pn, pc⟩ := pass
  obtain ⟨ma, mn, mc⟩ := mP
  obtain ⟨aa, an, ac⟩ := asks
  obtain ⟨ca, cn, cc⟩ := codes
  obtain ⟨fa, fn, fc⟩ := filters
  simp only at hk h4 h7
  subst hk
  simp only [Pk.v, Sl.v] at HF HC ⊢
  simp only at HS
  go_enter Tryz.func75, Tryz.ntmps75
  go_wp2_with (refine wpList_load_row rfl 38 _ rfl w.heap.size rfl 38 _ (0, 0) _ (heap_alloc_new w _) Tryz.underlying38 rfl (by kernel_rfl) ?_)
  go_must (go_at_call 69)
  have b0 : Below w.heap.size w (w.alloc (Obj.cells #[.int .i64 3, .int .i64 level, .bool clean, .int .i64 keep, .string client, .bool hasWill, .string wT, .slice wPa wPn wPc, .int .i64 wQ, .bool wR, .bool hasUser, .string user, .bool hasPass, .slice pa pn pc, .bool present, .int .i64 code, .bool dup, .string mT, .slice ma mn mc, .int .i64 mQ, .bool mR, .int .i64 id, .slice aa an ac, .slice ca cn cc, .slice fa fn fc] 38)) := (Below.refl _ _).alloc (Nat.le_refl _) _
  refine (HF.out _ b0).mono ?_
  rintro e w1 ⟨rfl, hb1⟩
  have G1 : Hid (w1.heap[w.heap.size]? = some (.cells #[.int .i64 3, .int .i64 level, .bool clean, .int .i64 keep, .string client, .bool hasWill, .string wT, .slice wPa wPn wPc, .int .i64 wQ, .bool wR, .bool hasUser, .string user, .bool hasPass, .slice pa pn pc, .bool present, .int .i64 code, .bool dup, .string mT, .slice ma mn mc, .int .i64 mQ, .bool mR, .int .i64 id, .slice aa an ac, .slice ca cn cc, .slice fa fn fc] 38)) := (hb1.block _ (by show w.heap.size < (w.heap.push _).size; simp)).trans (heap_alloc_new w _)
  have q0 := cell_later hb1 (box_cell w _ _ 0 _ rfl)
  have q17 := cell_later hb1 (box_cell w _ _ 17 _ rfl)
  have q18 := cell_later hb1 (box_cell w _ _ 18 _ rfl)
  have q22 := cell_later hb1 (box_cell w _ _ 22 _ rfl)
  have q23 := cell_later hb1 (box_cell w _ _ 23 _ rfl)
  have q24 := cell_later hb1 (box_cell w _ _ 24 _ rfl)
  have B1 : Hid (Below w.heap.size w w1) := b0.trans (hb1.mono b0.size)
  clear hb1 b0
  go_wp2
  go_ret
  refine ⟨congrArg (fun x => Ending.returned (Value.int .i64 x)) ?_, B1.out⟩
  rw [← HS.out]
  first | rfl | (simp; done) | (simp; omega)

set_option maxHeartbeats 1000000 in
set_option maxRecDepth 100000 in
theorem size_more_id (p : Pk) (c : Cn) (h : Small p c) (hin : In w p c) (hk : 4 ≤ p.kind) (hk2 : p.kind ≤ 14) (hid : hasID p = true) (HK : Hid (KindsAt w)) : Calls Tryz.prog 75 #[p.v] w fun e w' => e = .returned (.int .i64 (sz p c)) ∧ Below w.heap.size w w' := by
  have HF : Hid (∀ w', Below w.heap.size w w' → Calls Tryz.prog 69 #[p.v] w' fun e w'' => e = .returned (.int .i64 (fl p)) ∧ Below w'.heap.size w' w'') := fun w' hb => fields_any p w' (HK.out.below hb) (by omega) (by omega)
  have HC : Hid (∀ w', Calls Tryz.prog 93 #[p.v] w' fun e w'' => e = .returned (.int .i64 (szc p)) ∧ Below w'.heap.size w' w'') := fun w' => sizeOfConnect_any p c h w'
  have hz : bits .and .i64 (fl p : Int) 16384 = ((fl p &&& 16384 : Nat) : Int) := bits_and _ _ (by have := fl_lt p; omega) (by decide)
  have hi := fl_id p (by omega) (by omega)
  rw [hid] at hi
  have hz2 : (bits .and .i64 (fl p : Int) 16384 != 0) = true := by rw [hz]; simpa using hi
  have HS : Hid (((2 : Nat) + sumN (fun i => 3 + (c.af i).size) p.asks.n + sumN (fun i => 2 + (c.fs i).size) p.filters.n + p.codes.n) = sz p c) := by
    show _ = _
    have k1 : ¬ p.kind = 1 := by omega
    have k2 : ¬ p.kind = 2 := by omega
    have k3 : ¬ p.kind = 3 := by omega
    simp [sz, k1, k2, k3, nid, hid]
  have HA : Hid (As w p.asks c.af c.aq) := hin.asks
  have HT : Hid (Ss w p.filters c.fs) := hin.filters
  have s1 := h.an
  have s2 := h.fn
  have s3 := h.cn
  have s4 := h.sa
  have s5 := h.sf
  clear h hz hi hin hid
  obtain ⟨kind, level, clean, keep, client, hasWill, wT, wP, wQ, wR, hasUser, user, hasPass, pass, present, code, dup, mT, mP, mQ, mR, id, asks, codes, filters⟩ := p
  obtain ⟨wPa, wPn, wPc⟩ := wP
  obtain ⟨pa, pn, pc⟩ := pass
  obtain ⟨ma, mn, mc⟩ := mP
  obtain ⟨aa, an, ac⟩ := asks
  obtain ⟨ca, cn, cc⟩ := codes
  obtain ⟨fa, fn, fc⟩ := filters
  simp only at hk hk2 s1 s2 s3 s4 s5
  simp only [Pk.v, Sl.v] at HF HC ⊢
  simp only at HS
  have k1 : (kind == 1) = false := by simp; omega
  have k2 : (kind == 2) = false := by simp; omega
  have k3 : (kind == 3) = false := by simp; omega
  have S4 : Hid (sumN (fun i => 3 + (c.af i).size) an ≤ 100000000) := s4
  have S5 : Hid (sumN (fun i => 2 + (c.fs i).size) fn ≤ 100000000) := s5
  have S6 : Hid (cn ≤ 1000000) := s3
  clear s4 s5 s3
  go_enter Tryz.func75, Tryz.ntmps75
  go_wp2_with (refine wpList_load_row rfl 38 _ rfl w.heap.size rfl 38 _ (0, 0) _ (heap_alloc_new w _) Tryz.underlying38 rfl (by kernel_rfl) ?_)
  go_must (go_at_call 69)
  have b0 : Below w.heap.size w (w.alloc (Obj.cells #[.int .i64 kind, .int .i64 level, .bool clean, .int .i64 keep, .string client, .bool hasWill, .string wT, .slice wPa wPn wPc, .int .i64 wQ, .bool wR, .bool hasUser, .string user, .bool hasPass, .slice pa pn pc, .bool present, .int .i64 code, .bool dup, .string mT, .slice ma mn mc, .int .i64 mQ, .bool mR, .int .i64 id, .slice aa an ac, .slice ca cn cc, .slice fa fn fc] 38)) := (Below.refl _ _).alloc (Nat.le_refl _) _
  refine (HF.out _ b0).mono ?_
  rintro e w1 ⟨rfl, hb1⟩
  have G1 : Hid (w1.heap[w.heap.size]? = some (.cells #[.int .i64 kind, .int .i64 level, .bool clean, .int .i64 keep, .string client, .bool hasWill, .string wT, .slice wPa wPn wPc, .int .i64 wQ, .bool wR, .bool hasUser, .string user, .bool hasPass, .slice pa pn pc, .bool present, .int .i64 code, .bool dup, .string mT, .slice ma mn mc, .int .i64 mQ, .bool mR, .int .i64 id, .slice aa an ac, .slice ca cn cc, .slice fa fn fc] 38)) := (hb1.block _ (by show w.heap.size < (w.heap.push _).size; simp)).trans (heap_alloc_new w _)
  have q0 := cell_later hb1 (box_cell w _ _ 0 _ rfl)
  have q17 := cell_later hb1 (box_cell w _ _ 17 _ rfl)
  have q18 := cell_later hb1 (box_cell w _ _ 18 _ rfl)
  have q22 := cell_later hb1 (box_cell w _ _ 22 _ rfl)
  have q23 := cell_later hb1 (box_cell w _ _ 23 _ rfl)
  have q24 := cell_later hb1 (box_cell w _ _ 24 _ rfl)
  have B1 : Hid (Below w.heap.size w w1) := b0.trans (hb1.mono b0.size)
  clear hb1 b0
  go_wp2_with fail
  obtain ⟨wz, hwz⟩ : ∃ wz, wz = w1 := ⟨_, rfl⟩
  have Q23 : Hid (w1.cell? ⟨w.heap.size, 23, none⟩ = some (.slice ca cn cc)) := q23
  have Q24 : Hid (w1.cell? ⟨w.heap.size, 24, none⟩ = some (.slice fa fn fc)) := q24
  rw [← hwz] at B1 Q23 Q24 ⊢
  clear hwz q0 q17 q18 q22 q23 q24 G1 HF HC
  go_loopg [3, 37] an (fun g s3 s37 wx => ∃ k N : Nat, s37 = .int .i64 k ∧ s3 = .int .i64 N ∧ k + g = an ∧ Hid (N = 2 + sumN (fun i => 3 + (c.af i).size) k) ∧ Hid (Below w.heap.size w wx) ∧ Hid (wx.cell? ⟨w.heap.size, 23, none⟩ = some (.slice ca cn cc)) ∧ Hid (wx.cell? ⟨w.heap.size, 24, none⟩ = some (.slice fa fn fc)))
  case atStart => exact ⟨0, 2, rfl, rfl, by omega, rfl, B1, Q23, Q24⟩
  case round =>
    obtain ⟨k, M, rfl, rfl, hkg, HN, B, X3, X4⟩ := hrel
    by_cases hk : k < an
    · obtain ⟨b, off, he, hc⟩ : ∃ b off, aa = some ⟨b, off, none⟩ ∧ ∀ i, i < an → (w.cell? ⟨b, off + i * 2, none⟩ = some (.string (c.af i)) ∧ w.cell? ⟨b, off + i * 2 + 1, none⟩ = some (.int .i64 (c.aq i))) := by
        rcases HA.out.2 with h | h
        · simp only at h; omega
        · exact h
      subst he
      have hac : an ≤ ac := HA.out.1
      have c0 := cell_later B.out (hc k hk).1
      have c1 := cell_later B.out (hc k hk).2
      have hk' : (k : Int) < an := by omega
      have bb : Below wr.heap.size wr (wr.alloc (Obj.cells #[Value.string (c.af k), Value.int IntKind.i64 (c.aq k)] 77)) := (Below.refl _ _).alloc (Nat.le_refl _) _
      have B2 : Hid (Below w.heap.size w (wr.alloc (Obj.cells #[Value.string (c.af k), Value.int IntKind.i64 (c.aq k)] 77))) := B.out.trans (bb.mono B.out.size)
      have Y3 : Hid ((wr.alloc (Obj.cells #[Value.string (c.af k), Value.int IntKind.i64 (c.aq k)] 77)).cell? ⟨w.heap.size, 23, none⟩ = some (.slice ca cn cc)) := cell_later bb X3.out
      have Y4 : Hid ((wr.alloc (Obj.cells #[Value.string (c.af k), Value.int IntKind.i64 (c.aq k)] 77)).cell? ⟨w.heap.size, 24, none⟩ = some (.slice fa fn fc)) := cell_later bb X4.out
      have hle := sumN_le (fun i => 3 + (c.af i).size) (k + 1) an (by omega)
      have hM : M + (3 + (c.af k).size) ≤ 100000002 := by
        have h1 := HN.out
        have h2 := S4.out
        simp only [sumN] at hle
        omega
      have HM2 : Hid (M + (3 + (c.af k).size) = 2 + sumN (fun i => 3 + (c.af i).size) (k + 1)) := by
        have h1 := HN.out
        show _ = _
        simp only [sumN]
        omega
      obtain ⟨g, hg⟩ : ∃ g, gk = g + 1 := ⟨gk - 1, by omega⟩
      clear hc bb hle
      go_wp2
      go_roundg g
      case measure => omega
      case rel =>
        refine ⟨k + 1, M + (3 + (c.af k).size), by first | rfl | simp, ?_, by omega, HM2, B2, Y3, Y4⟩
        refine congrArg (Value.int .i64) ?_
        first | rfl | (simp; done) | (simp; omega)
    · obtain rfl : k = an := by omega
      have hk' : ¬ (k : Int) < k := by omega
      have hx := X4.out
      go_wp2_with fail
      obtain ⟨wz, hwz⟩ : ∃ wz, wz = wr := ⟨_, rfl⟩
      rw [← hwz] at B X3 ⊢
      clear hwz hx X4
      go_loopg [3, 52] fn (fun g s3 s51 wx => ∃ j L : Nat, s51 = .int .i64 j ∧ s3 = .int .i64 L ∧ j + g = fn ∧ Hid (L = M + sumN (fun i => 2 + (c.fs i).size) j) ∧ Hid (Below w.heap.size w wx) ∧ Hid (wx.cell? ⟨w.heap.size, 23, none⟩ = some (.slice ca cn cc)))
      case atStart => exact ⟨0, M, rfl, rfl, by omega, rfl, B, X3⟩
      case round =>
        obtain ⟨j, L, rfl, rfl, hjg, HL, B, X3⟩ := hrel
        by_cases hj : j < fn
        · obtain ⟨b, off, he, hc⟩ : ∃ b off, fa = some ⟨b, off, none⟩ ∧ ∀ i, i < fn → w.cell? ⟨b, off + i, none⟩ = some (.string (c.fs i)) := by
            rcases HT.out.2 with h | h
            · simp only at h; omega
            · exact h
          subst he
          have hac : fn ≤ fc := HT.out.1
          have c0 := cell_later B.out (hc j hj)
          have hj' : (j : Int) < fn := by omega
          have hle := sumN_le (fun i => 2 + (c.fs i).size) (j + 1) fn (by omega)
          have hL : L + (2 + (c.fs j).size) ≤ 200000002 := by
            have h1 := HL.out
            have h2 := S5.out
            have h3 := HN.out
            have h4 := S4.out
            simp only [sumN] at hle
            omega
          have HL2 : Hid (L + (2 + (c.fs j).size) = M + sumN (fun i => 2 + (c.fs i).size) (j + 1)) := by
            have h1 := HL.out
            show _ = _
            simp only [sumN]
            omega
          obtain ⟨g, hg⟩ : ∃ g, gk = g + 1 := ⟨gk - 1, by omega⟩
          clear hc hle
          go_wp2
          go_roundg g
          case measure => omega
          case rel =>
            refine ⟨j + 1, L + (2 + (c.fs j).size), by first | rfl | simp, ?_, by omega, HL2, B, X3⟩
            refine congrArg (Value.int .i64) ?_
            first | rfl | (simp; done) | (simp; omega)
        · obtain rfl : j = fn := by omega
          have hj' : ¬ (j : Int) < j := by omega
          have hx := X3.out
          have hL : L ≤ 200000002 := by
            have h1 := HL.out
            have h2 := S5.out
            have h3 := HN.out
            have h4 := S4.out
            omega
          have hc : cn ≤ 1000000 := S6.out
          have HZ : Hid (L + cn = 2 + sumN (fun i => 3 + (c.af i).size) k + sumN (fun i => 2 + (c.fs i).size) j + cn) := by
            show _ = _
            rw [HL.out, HN.out]
          go_wp2
          go_ret
          refine ⟨congrArg (fun x => Ending.returned (Value.int .i64 x)) ?_, B.out⟩
          rw [← HS.out, ← HZ.out]
          first | rfl | (simp; done) | (simp; omega)

set_option maxHeartbeats 1000000 in
set_option maxRecDepth 100000 in
theorem size_more (p : Pk) (c : Cn) (h : Small p c) (hin : In w p c) (hk : 4 ≤ p.kind) (hk2 : p.kind ≤ 14) (hid : hasID p = false) (HK : Hid (KindsAt w)) : Calls Tryz.prog 75 #[p.v] w fun e w' => e = .returned (.int .i64 (sz p c)) ∧ Below w.heap.size w w' := by
  have HF : Hid (∀ w', Below w.heap.size w w' → Calls Tryz.prog 69 #[p.v] w' fun e w'' => e = .returned (.int .i64 (fl p)) ∧ Below w'.heap.size w' w'') := fun w' hb => fields_any p w' (HK.out.below hb) (by omega) (by omega)
  have HC : Hid (∀ w', Calls Tryz.prog 93 #[p.v] w' fun e w'' => e = .returned (.int .i64 (szc p)) ∧ Below w'.heap.size w' w'') := fun w' => sizeOfConnect_any p c h w'
  have hz : bits .and .i64 (fl p : Int) 16384 = ((fl p &&& 16384 : Nat) : Int) := bits_and _ _ (by have := fl_lt p; omega) (by decide)
  have hi := fl_id p (by omega) (by omega)
  rw [hid] at hi
  have hz2 : (bits .and .i64 (fl p : Int) 16384 != 0) = false := by rw [hz]; simpa using hi
  have HS : Hid (((0 : Nat) + sumN (fun i => 3 + (c.af i).size) p.asks.n + sumN (fun i => 2 + (c.fs i).size) p.filters.n + p.codes.n) = sz p c) := by
    show _ = _
    have k1 : ¬ p.kind = 1 := by omega
    have k2 : ¬ p.kind = 2 := by omega
    have k3 : ¬ p.kind = 3 := by omega
    simp [sz, k1, k2, k3, nid, hid]
  have HA : Hid (As w p.asks c.af c.aq) := hin.asks
  have HT : Hid (Ss w p.filters c.fs) := hin.filters
  have s1 := h.an
  have s2 := h.fn
  have s3 := h.cn
  have s4 := h.sa
  have s5 := h.sf
  clear h hz hi hin hid
  obtain ⟨kind, level, clean, keep, client, hasWill, wT, wP, wQ, wR, hasUser, user, hasPass, pass, present, code, dup, mT, mP, mQ, mR, id, asks, codes, filters⟩ := p
  obtain ⟨wPa, wPn, wPc⟩ := wP
  obtain ⟨pa, pn, pc⟩ := pass
  obtain ⟨ma, mn, mc⟩ := mP
  obtain ⟨aa, an, ac⟩ := asks
  obtain ⟨ca, cn, cc⟩ := codes
  obtain ⟨fa, fn, fc⟩ := filters
  simp only at hk hk2 s1 s2 s3 s4 s5
  simp only [Pk.v, Sl.v] at HF HC ⊢
  simp only at HS
  have k1 : (kind == 1) = false := by simp; omega
  have k2 : (kind == 2) = false := by simp; omega
  have k3 : (kind == 3) = false := by simp; omega
  have S4 : Hid (sumN (fun i => 3 + (c.af i).size) an ≤ 100000000) := s4
  have S5 : Hid (sumN (fun i => 2 + (c.fs i).size) fn ≤ 100000000) := s5
  have S6 : Hid (cn ≤ 1000000) := s3
  clear s4 s5 s3
  go_enter Tryz.func75, Tryz.ntmps75
  go_wp2_with (refine wpList_load_row rfl 38 _ rfl w.heap.size rfl 38 _ (0, 0) _ (heap_alloc_new w _) Tryz.underlying38 rfl (by kernel_rfl) ?_)
  go_must (go_at_call 69)
  have b0 : Below w.heap.size w (w.alloc (Obj.cells #[.int .i64 kind, .int .i64 level, .bool clean, .int .i64 keep, .string client, .bool hasWill, .string wT, .slice wPa wPn wPc, .int .i64 wQ, .bool wR, .bool hasUser, .string user, .bool hasPass, .slice pa pn pc, .bool present, .int .i64 code, .bool dup, .string mT, .slice ma mn mc, .int .i64 mQ, .bool mR, .int .i64 id, .slice aa an ac, .slice ca cn cc, .slice fa fn fc] 38)) := (Below.refl _ _).alloc (Nat.le_refl _) _
  refine (HF.out _ b0).mono ?_
  rintro e w1 ⟨rfl, hb1⟩
  have G1 : Hid (w1.heap[w.heap.size]? = some (.cells #[.int .i64 kind, .int .i64 level, .bool clean, .int .i64 keep, .string client, .bool hasWill, .string wT, .slice wPa wPn wPc, .int .i64 wQ, .bool wR, .bool hasUser, .string user, .bool hasPass, .slice pa pn pc, .bool present, .int .i64 code, .bool dup, .string mT, .slice ma mn mc, .int .i64 mQ, .bool mR, .int .i64 id, .slice aa an ac, .slice ca cn cc, .slice fa fn fc] 38)) := (hb1.block _ (by show w.heap.size < (w.heap.push _).size; simp)).trans (heap_alloc_new w _)
  have q0 := cell_later hb1 (box_cell w _ _ 0 _ rfl)
  have q17 := cell_later hb1 (box_cell w _ _ 17 _ rfl)
  have q18 := cell_later hb1 (box_cell w _ _ 18 _ rfl)
  have q22 := cell_later hb1 (box_cell w _ _ 22 _ rfl)
  have q23 := cell_later hb1 (box_cell w _ _ 23 _ rfl)
  have q24 := cell_later hb1 (box_cell w _ _ 24 _ rfl)
  have B1 : Hid (Below w.heap.size w w1) := b0.trans (hb1.mono b0.size)
  clear hb1 b0
  go_wp2_with fail
  obtain ⟨wz, hwz⟩ : ∃ wz, wz = w1 := ⟨_, rfl⟩
  have Q23 : Hid (w1.cell? ⟨w.heap.size, 23, none⟩ = some (.slice ca cn cc)) := q23
  have Q24 : Hid (w1.cell? ⟨w.heap.size, 24, none⟩ = some (.slice fa fn fc)) := q24
  rw [← hwz] at B1 Q23 Q24 ⊢
  clear hwz q0 q17 q18 q22 q23 q24 G1 HF HC
  go_loopg [3, 37] an (fun g s3 s37 wx => ∃ k N : Nat, s37 = .int .i64 k ∧ s3 = .int .i64 N ∧ k + g = an ∧ Hid (N = 0 + sumN (fun i => 3 + (c.af i).size) k) ∧ Hid (Below w.heap.size w wx) ∧ Hid (wx.cell? ⟨w.heap.size, 23, none⟩ = some (.slice ca cn cc)) ∧ Hid (wx.cell? ⟨w.heap.size, 24, none⟩ = some (.slice fa fn fc)))
  case atStart => exact ⟨0, 0, rfl, rfl, by omega, rfl, B1, Q23, Q24⟩
  case round =>
    obtain ⟨k, M, rfl, rfl, hkg, HN, B, X3, X4⟩ := hrel
    by_cases hk : k < an
    · obtain ⟨b, off, he, hc⟩ : ∃ b off, aa = some ⟨b, off, none⟩ ∧ ∀ i, i < an → (w.cell? ⟨b, off + i * 2, none⟩ = some (.string (c.af i)) ∧ w.cell? ⟨b, off + i * 2 + 1, none⟩ = some (.int .i64 (c.aq i))) := by
        rcases HA.out.2 with h | h
        · simp only at h; omega
        · exact h
      subst he
      have hac : an ≤ ac := HA.out.1
      have c0 := cell_later B.out (hc k hk).1
      have c1 := cell_later B.out (hc k hk).2
      have hk' : (k : Int) < an := by omega
      have bb : Below wr.heap.size wr (wr.alloc (Obj.cells #[Value.string (c.af k), Value.int IntKind.i64 (c.aq k)] 77)) := (Below.refl _ _).alloc (Nat.le_refl _) _
      have B2 : Hid (Below w.heap.size w (wr.alloc (Obj.cells #[Value.string (c.af k), Value.int IntKind.i64 (c.aq k)] 77))) := B.out.trans (bb.mono B.out.size)
      have Y3 : Hid ((wr.alloc (Obj.cells #[Value.string (c.af k), Value.int IntKind.i64 (c.aq k)] 77)).cell? ⟨w.heap.size, 23, none⟩ = some (.slice ca cn cc)) := cell_later bb X3.out
      have Y4 : Hid ((wr.alloc (Obj.cells #[Value.string (c.af k), Value.int IntKind.i64 (c.aq k)] 77)).cell? ⟨w.heap.size, 24, none⟩ = some (.slice fa fn fc)) := cell_later bb X4.out
      have hle := sumN_le (fun i => 3 + (c.af i).size) (k + 1) an (by omega)
      have hM : M + (3 + (c.af k).size) ≤ 100000002 := by
        have h1 := HN.out
        have h2 := S4.out
        simp only [sumN] at hle
        omega
      have HM2 : Hid (M + (3 + (c.af k).size) = 0 + sumN (fun i => 3 + (c.af i).size) (k + 1)) := by
        have h1 := HN.out
        show _ = _
        simp only [sumN]
        omega
      obtain ⟨g, hg⟩ : ∃ g, gk = g + 1 := ⟨gk - 1, by omega⟩
      clear hc bb hle
      go_wp2
      go_roundg g
      case measure => omega
      case rel =>
        refine ⟨k + 1, M + (3 + (c.af k).size), by first | rfl | simp, ?_, by omega, HM2, B2, Y3, Y4⟩
        refine congrArg (Value.int .i64) ?_
        first | rfl | (simp; done) | (simp; omega)
    · obtain rfl : k = an := by omega
      have hk' : ¬ (k : Int) < k := by omega
      have hx := X4.out
      go_wp2_with fail
      obtain ⟨wz, hwz⟩ : ∃ wz, wz = wr := ⟨_, rfl⟩
      rw [← hwz] at B X3 ⊢
      clear hwz hx X4
      go_loopg [3, 52] fn (fun g s3 s51 wx => ∃ j L : Nat, s51 = .int .i64 j ∧ s3 = .int .i64 L ∧ j + g = fn ∧ Hid (L = M + sumN (fun i => 2 + (c.fs i).size) j) ∧ Hid (Below w.heap.size w wx) ∧ Hid (wx.cell? ⟨w.heap.size, 23, none⟩ = some (.slice ca cn cc)))
      case atStart => exact ⟨0, M, rfl, rfl, by omega, rfl, B, X3⟩
      case round =>
        obtain ⟨j, L, rfl, rfl, hjg, HL, B, X3⟩ := hrel
        by_cases hj : j < fn
        · obtain ⟨b, off, he, hc⟩ : ∃ b off, fa = some ⟨b, off, none⟩ ∧ ∀ i, i < fn → w.cell? ⟨b, off + i, none⟩ = some (.string (c.fs i)) := by
            rcases HT.out.2 with h | h
            · simp only at h; omega
            · exact h
          subst he
          have hac : fn ≤ fc := HT.out.1
          have c0 := cell_later B.out (hc j hj)
          have hj' : (j : Int) < fn := by omega
          have hle := sumN_le (fun i => 2 + (c.fs i).size) (j + 1) fn (by omega)
          have hL : L + (2 + (c.fs j).size) ≤ 200000002 := by
            have h1 := HL.out
            have h2 := S5.out
            have h3 := HN.out
            have h4 := S4.out
            simp only [sumN] at hle
            omega
          have HL2 : Hid (L + (2 + (c.fs j).size) = M + sumN (fun i => 2 + (c.fs i).size) (j + 1)) := by
            have h1 := HL.out
            show _ = _
            simp only [sumN]
            omega
          obtain ⟨g, hg⟩ : ∃ g, gk = g + 1 := ⟨gk - 1, by omega⟩
          clear hc hle
          go_wp2
          go_roundg g
          case measure => omega
          case rel =>
            refine ⟨j + 1, L + (2 + (c.fs j).size), by first | rfl | simp, ?_, by omega, HL2, B, X3⟩
            refine congrArg (Value.int .i64) ?_
            first | rfl | (simp; done) | (simp; omega)
        · obtain rfl : j = fn := by omega
          have hj' : ¬ (j : Int) < j := by omega
          have hx := X3.out
          have hL : L ≤ 200000002 := by
            have h1 := HL.out
            have h2 := S5.out
            have h3 := HN.out
            have h4 := S4.out
            omega
          have hc : cn ≤ 1000000 := S6.out
          have HZ : Hid (L + cn = 0 + sumN (fun i => 3 + (c.af i).size) k + sumN (fun i => 2 + (c.fs i).size) j + cn) := by
            show _ = _
            rw [HL.out, HN.out]
          go_wp2
          go_ret
          refine ⟨congrArg (fun x => Ending.returned (Value.int .i64 x)) ?_, B.out⟩
          rw [← HS.out, ← HZ.out]
          first | rfl | (simp; done) | (simp; omega)

end Go.Proofs.YtmfbkfgggdkfmaaGreatDoor.Pkt
namespace Go.Proofs.YtmfbkfgggdkfmaaGreatDoor.Pkt
open Go

/-- The operations of the first region of a body. -/
def regOps : Code → Array Oper
  | .seq a _ => regOps a
  | .region _ ops _ => ops
  | _ => #[]
/-- Of the region behind the first. -/
def regOps2 : Option Code → Array Oper
  | some (.seq _ b) => regOps b
  | _ => #[]
theorem lex32 : Region.lexB .any (regOps2 Tryz.f68.body) = true := by kernel_rfl
end Go.Proofs.YtmfbkfgggdkfmaaGreatDoor.Pkt
