import Derived.Test.YtcoccggimbficaaGreatDoorLa
import Derived.Test.YtcoccggimbficaaGreatDoorWf
namespace Go.Proofs.YtcoccggimbficaaGreatDoor
open Go Go.RowKit Go.Sort
set_option linter.unusedSimpArgs false
set_option linter.unusedVariables false

/-- The first byte's flags. -/
def fg (p : Pk) : Int := bits .or .i64 (bits .or .i64 (bits .or .i64 (form p.kind.toNat).2.1 (mkI p.dup 8)) (2 * p.mQ)) (mkI p.mR 1)
theorem Right.q2 {T : Tx} {p : Pk} {c : Cn} (h : Right T p c) : p.mQ = 0 ∨ p.mQ = 1 ∨ p.mQ = 2 := by
  have := h.ql
  simp [qls, isQ] at this
  omega
set_option maxHeartbeats 1000000 in
set_option maxRecDepth 100000 in
theorem flags_any (p : Pk) (c : Cn) (w : World) (hg : Gd w) (hin : In w p c) (hs : Small p c) (hr : Right TT p c) : Calls Tryz.prog 26 #[p.v] w fun e w' => e = .returned (.int .i64 (fg p)) ∧ Below w.heap.size w w' := by
  have HG : Hid (Gd w) := hg
  have HK1 : Hid (1 ≤ p.kind) := hr.k1
  have HK2 : Hid (p.kind ≤ 14) := hr.k2
  have HQ := hr.q2
  have HC : Hid (∀ w', Below w.heap.size w w' → Calls Tryz.prog 24 #[p.v] w' fun e w'' => e = .returned (.int .i64 (0 : Nat)) ∧ Below w'.heap.size w' w'') := fun w' hb => by
    have := check_any p c w' (hg.below hb) (hin.below hb) hs
    rw [(ck_right TT p c).2 hr] at this
    exact this
  clear hg hin hs hr
  obtain ⟨cs, hcs⟩ : ∃ cs, cs = pkCells p := ⟨_, rfl⟩
  rw [show p.v = .agg cs by rw [hcs]; rfl] at HC ⊢
  obtain ⟨kind, level, clean, keep, client, hasWill, wT, wP, wQ, wR, hasUser, user, hasPass, pass, present, code, dup, mT, mP, mQ, mR, id, asks, codes, filters⟩ := p
  simp only at HK1 HK2 HQ
  obtain ⟨i, rfl⟩ : ∃ i : Nat, kind = i := ⟨kind.toNat, by have := HK1.out; omega⟩
  have hi : i < 15 := by have := HK2.out; omega
  have hi' : (i : Int) < 15 := by omega
  have a0 : Hid (cs[0]? = some (.int .i64 (i : Int))) := by show _ = _; rw [hcs]; rfl
  have a16 : Hid (cs[16]? = some (.bool dup)) := by show _ = _; rw [hcs]; rfl
  have a19 : Hid (cs[19]? = some (.int .i64 mQ)) := by show _ = _; rw [hcs]; rfl
  have a20 : Hid (cs[20]? = some (.bool mR)) := by show _ = _; rw [hcs]; rfl
  have hsz : Hid (cs.size = 25) := by show _ = _; rw [hcs]; rfl
  clear hcs
  obtain ⟨R, hR⟩ : ∃ R : Int, R = fg ⟨i, level, clean, keep, client, hasWill, wT, wP, wQ, wR, hasUser, user, hasPass, pass, present, code, dup, mT, mP, mQ, mR, id, asks, codes, filters⟩ := ⟨_, rfl⟩
  rw [← hR]
  have HR : Hid (R = bits .or .i64 (bits .or .i64 (bits .or .i64 (form i).2.1 (mkI dup 8)) (2 * mQ)) (mkI mR 1)) := hR
  clear hR
  obtain ⟨W, hW⟩ : ∃ W, W = w.alloc (.cells cs 29) := ⟨_, rfl⟩
  have b0 : Hid (Below w.heap.size w W) := box_below hW
  have g0 : Hid (W.heap[w.heap.size]? = some (.cells cs 29)) := by show _ = _; rw [hW]; exact heap_alloc_new w _
  have FA : Hid (∀ k v, cs[k]? = some v → ∀ w', Below W.heap.size W w' → w'.cell? ⟨w.heap.size, k, none⟩ = some v) := fun k v h w' hb => cell_later hb (by rw [hW]; exact box_cell w cs 29 k v h)
  go_enter Tryz.func26, Tryz.ntmps26
  go_upto_region 1 with fail
  rw [← hW]
  clear hW
  go_wp2_with (first | (refine wpList_load_wanted rfl _ rfl w.heap.size rfl _ (0, 0) g0.out hsz.out ?_) | fail)
  go_must (go_at_call 24)
  refine (HC.out _ b0.out).mono ?_
  rintro e w1 ⟨rfl, hb⟩
  have b1 : Hid (Below w.heap.size w w1) := b0.out.trans (hb.mono b0.out.size)
  have k0 : ∀ d os, (grow (redrawn w1 d) os).cell? ⟨w.heap.size, 0, none⟩ = some (.int .i64 (i : Int)) := fun d os => cell_later (below_regrown w1 d os) (FA.out 0 _ a0.out w1 hb)
  have k16 : ∀ d os, (grow (redrawn w1 d) os).cell? ⟨w.heap.size, 16, none⟩ = some (.bool dup) := fun d os => cell_later (below_regrown w1 d os) (FA.out 16 _ a16.out w1 hb)
  have k19 : ∀ d os, (grow (redrawn w1 d) os).cell? ⟨w.heap.size, 19, none⟩ = some (.int .i64 mQ) := fun d os => cell_later (below_regrown w1 d os) (FA.out 19 _ a19.out w1 hb)
  have k20 : ∀ d os, (grow (redrawn w1 d) os).cell? ⟨w.heap.size, 20, none⟩ = some (.bool mR) := fun d os => cell_later (below_regrown w1 d os) (FA.out 20 _ a20.out w1 hb)
  have kf : ∀ d os, (grow (redrawn w1 d) os).cell? ⟨0, i * 3 + 1, none⟩ = some (.int .i64 (form i).2.1) := fun d os => cell_later (below_regrown w1 d os) ((HG.out.below b1.out).kinds i hi).2.1
  clear hb
  go_upto_region 3 with fail
  refine wp_region_quiet_below (by kernel_rfl) (by kernel_rfl) ?_
  rcases HQ with rfl | rfl | rfl
  all_goals
    repeat (quiet_step ((go_at_call 102; exact Calls.regrown_of (mark_int _ _ _))))
    refine wpQuiet_nil ?_
    rintro _ ⟨⟨d, os⟩, rfl⟩
    go_wp2
    go_ret
    exact ⟨by rw [HR.out]; rfl, b1.out.trans ((below_regrown w1 d os).mono b1.out.size)⟩
end Go.Proofs.YtcoccggimbficaaGreatDoor
