import Derived.Test.YtdanjbbemmngnaaGreatDoorRr
import Derived.Test.YtdanjbbemmngnaaGreatDoorRs
namespace Go.Proofs.YtdanjbbemmngnaaGreatDoor
open Go Go.RowKit Go.Sort
set_option linter.unusedSimpArgs false
set_option linter.unusedVariables false

/-! ### What is told of a packet hangs on no address -/
section
variable {p : Pk} {c : Cn} {s1 s2 s3 s4 s5 s6 : Sl} (n1 : s1.n = p.wP.n) (n2 : s2.n = p.pass.n) (n3 : s3.n = p.mP.n) (n4 : s4.n = p.asks.n) (n5 : s5.n = p.codes.n) (n6 : s6.n = p.filters.n)
include n1 n2 n3 n4 n5 n6
theorem ck_re : ck TT (p.re s1 s2 s3 s4 s5 s6) c = ck TT p c := by
  obtain ⟨a1, m1, k1⟩ := s1
  obtain ⟨a2, m2, k2⟩ := s2
  obtain ⟨a3, m3, k3⟩ := s3
  obtain ⟨a4, m4, k4⟩ := s4
  obtain ⟨a5, m5, k5⟩ := s5
  obtain ⟨a6, m6, k6⟩ := s6
  simp only at n1 n2 n3 n4 n5 n6
  subst n1 n2 n3 n4 n5 n6
  rfl
theorem sz_re : sz (p.re s1 s2 s3 s4 s5 s6) c = sz p c := by
  obtain ⟨a1, m1, k1⟩ := s1
  obtain ⟨a2, m2, k2⟩ := s2
  obtain ⟨a3, m3, k3⟩ := s3
  obtain ⟨a4, m4, k4⟩ := s4
  obtain ⟨a5, m5, k5⟩ := s5
  obtain ⟨a6, m6, k6⟩ := s6
  simp only at n1 n2 n3 n4 n5 n6
  subst n1 n2 n3 n4 n5 n6
  rfl
theorem fgs_re : fgs (p.re s1 s2 s3 s4 s5 s6) c = fgs p c := by
  unfold fgs
  rw [ck_re n1 n2 n3 n4 n5 n6]
  rfl
theorem small_re (h : Small p c) : Small (p.re s1 s2 s3 s4 s5 s6) c := by
  obtain ⟨a1, m1, k1⟩ := s1
  obtain ⟨a2, m2, k2⟩ := s2
  obtain ⟨a3, m3, k3⟩ := s3
  obtain ⟨a4, m4, k4⟩ := s4
  obtain ⟨a5, m5, k5⟩ := s5
  obtain ⟨a6, m6, k6⟩ := s6
  simp only at n1 n2 n3 n4 n5 n6
  subst n1 n2 n3 n4 n5 n6
  exact ⟨h.cl, h.us, h.wt, h.mt, h.wp, h.ps, h.mp, h.an, h.cn, h.fn, h.sa, h.sf⟩
end

theorem load_boxed {W : World} {g : Nat} {P : Array Value} (h : W.heap[g]? = some (.cells P 29)) (hs : P.size = 25) : ∀ w', (∃ p : Regrown, w' = grow (redrawn W p.d) p.os) → (loadVar 29 ⟨g, 0, none⟩).run Tryz.prog w' = .ok (.agg P) w' := by
  rintro _ ⟨pp, rfl⟩
  exact load_row (((below_regrown W pp.d pp.os).block _ (block_lt h)).trans h) hs

/-- A call that only reads, in every world that a region may draw. -/
def Ev (W : World) (f : FuncId) (v r : Value) : Prop := ∀ d os, Calls Tryz.prog f #[v] (grow (redrawn W d) os) fun e w'' => e = .returned r ∧ Below (grow (redrawn W d) os).heap.size (grow (redrawn W d) os) w''

set_option maxHeartbeats 4000000 in
set_option maxRecDepth 100000 in
theorem tells_eq (p : Pk) (c : Cn) (s1 s2 s3 s4 s5 s6 : Sl) (w : World) (hg : Gd w) (hb : In w p c) (ha : In w (p.re s1 s2 s3 s4 s5 s6) c) (n1 : s1.n = p.wP.n) (n2 : s2.n = p.pass.n) (n3 : s3.n = p.mP.n) (n4 : s4.n = p.asks.n) (n5 : s5.n = p.codes.n) (n6 : s6.n = p.filters.n) (hs : Small p c) :
    Calls Tryz.prog 7 #[(p.re s1 s2 s3 s4 s5 s6).v, p.v] w fun e w' => e = .returned (.bool true) ∧ Below w.heap.size w w' := by
  have hs' := small_re n1 n2 n3 n4 n5 n6 hs
  have e1 : ck TT (p.re s1 s2 s3 s4 s5 s6) c = ck TT p c := ck_re n1 n2 n3 n4 n5 n6
  have e2 : fgs (p.re s1 s2 s3 s4 s5 s6) c = fgs p c := fgs_re n1 n2 n3 n4 n5 n6
  have e3 : sz (p.re s1 s2 s3 s4 s5 s6) c = sz p c := sz_re n1 n2 n3 n4 n5 n6
  obtain ⟨P, hP⟩ : ∃ P, P = pkCells (p.re s1 s2 s3 s4 s5 s6) := ⟨_, rfl⟩
  obtain ⟨Q, hQ⟩ : ∃ Q, Q = pkCells p := ⟨_, rfl⟩
  have vP : (p.re s1 s2 s3 s4 s5 s6).v = .agg P := by rw [hP]; rfl
  have vQ : p.v = .agg Q := by rw [hQ]; rfl
  obtain ⟨V, hV⟩ : ∃ V, V = w.alloc (.cells P 29) := ⟨_, rfl⟩
  obtain ⟨W, hW⟩ : ∃ W, W = V.alloc (.cells Q 29) := ⟨_, rfl⟩
  obtain ⟨g, hg1⟩ : ∃ g, g = w.heap.size + 1 := ⟨_, rfl⟩
  have hgV : g = V.heap.size := by rw [hg1, hV]; simp
  have bV : Below w.heap.size w V := box_below hV
  have bW : Below V.heap.size V W := box_below hW
  have b0 : Hid (Below w.heap.size w W) := bV.trans (bW.mono bV.size)
  have gP : W.heap[w.heap.size]? = some (.cells P 29) := (bW.block _ (block_lt (by rw [hV]; exact heap_alloc_new w _))).trans (by rw [hV]; exact heap_alloc_new w _)
  have gQ : W.heap[g]? = some (.cells Q 29) := by rw [hgV, hW]; exact heap_alloc_new V _
  have zP : P.size = 25 := by rw [hP]; rfl
  have zQ : Q.size = 25 := by rw [hQ]; rfl
  have rg : ∀ d os, Below w.heap.size w (grow (redrawn W d) os) := fun d os => b0.out.trans ((below_regrown W d os).mono b0.out.size)
  obtain ⟨K, hK⟩ : ∃ K : Int, K = (ck TT p c : Int) := ⟨_, rfl⟩
  obtain ⟨F, hF⟩ : ∃ F : Int, F = fgs p c := ⟨_, rfl⟩
  obtain ⟨N, hN⟩ : ∃ N : Int, N = (if ck TT p c = 0 then (sz p c : Int) else 0) := ⟨_, rfl⟩
  obtain ⟨M, hM⟩ : ∃ M : Int, M = cmsg p.mT p.mQ := ⟨_, rfl⟩
  have C24 : Hid (Ev W 24 (.agg P) (.int .i64 K)) := fun d os => by
    have h := check_any (p.re s1 s2 s3 s4 s5 s6) c _ (hg.below (rg d os)) (ha.below (rg d os)) hs'
    rw [e1, ← hK, vP] at h; exact h
  have C25 : Hid (Ev W 25 (.agg Q) (.int .i64 K)) := fun d os => by
    have h := rcheck2_any p c _ (hb.below (rg d os)) hs
    rw [← hK, vQ] at h; exact h
  have C26 : Hid (Ev W 26 (.agg P) (.int .i64 F)) := fun d os => by
    have h := flags_all (p.re s1 s2 s3 s4 s5 s6) c _ (hg.below (rg d os)) (ha.below (rg d os)) hs'
    rw [e2, ← hF, vP] at h; exact h
  have C27 : Hid (Ev W 27 (.agg Q) (.int .i64 F)) := fun d os => by
    have h := rflags_all p c _ (hb.below (rg d os)) hs
    rw [← hF, vQ] at h; exact h
  have C28 : Hid (Ev W 28 (.agg P) (.int .i64 N)) := fun d os => by
    have h := length_any (p.re s1 s2 s3 s4 s5 s6) c _ (hg.below (rg d os)) (ha.below (rg d os)) hs'
    rw [e1, e3, ← hN, vP] at h; exact h
  have C29 : Hid (Ev W 29 (.agg Q) (.int .i64 N)) := fun d os => by
    have h := rlength_any p c _ (hb.below (rg d os)) hs
    rw [← hN, vQ] at h; exact h
  have C30 : Hid (Ev W 30 (.agg #[.string p.mT, .slice s3.a s3.n s3.c, .int .i64 p.mQ, .bool p.mR]) (.int .i64 M)) := fun d os => by
    have h := pmsg_any p.mT s3.a s3.n s3.c p.mQ p.mR (grow (redrawn W d) os)
    rw [← hM] at h; exact h
  have C31 : Hid (Ev W 31 (.agg #[.string p.mT, .slice p.mP.a p.mP.n p.mP.c, .int .i64 p.mQ, .bool p.mR]) (.int .i64 M)) := fun d os => by
    have h := rmsg_any p.mT p.mP.a p.mP.n p.mP.c p.mQ p.mR (grow (redrawn W d) os)
    rw [← hM] at h; exact h
  have LP : Hid (∀ w', (∃ p : Regrown, w' = grow (redrawn W p.d) p.os) → (loadVar 29 ⟨w.heap.size, 0, none⟩).run Tryz.prog w' = .ok (.agg P) w') := load_boxed gP zP
  have LQ : Hid (∀ w', (∃ p : Regrown, w' = grow (redrawn W p.d) p.os) → (loadVar 29 ⟨g, 0, none⟩).run Tryz.prog w' = .ok (.agg Q) w') := load_boxed gQ zQ
  have cP : ∀ k v, P[k]? = some v → ∀ d os, (grow (redrawn W d) os).cell? ⟨w.heap.size, k, none⟩ = some v := fun k v h d os => cell_later (below_regrown W d os) (by simp [World.cell?, gP, h])
  have cQ : ∀ k v, Q[k]? = some v → ∀ d os, (grow (redrawn W d) os).cell? ⟨g, k, none⟩ = some v := fun k v h d os => cell_later (below_regrown W d os) (by simp [World.cell?, gQ, h])
  have k17 := cP 17 (.string p.mT) (by rw [hP]; rfl)
  have k18 := cP 18 (.slice s3.a s3.n s3.c) (by rw [hP]; rfl)
  have k19 := cP 19 (.int .i64 p.mQ) (by rw [hP]; rfl)
  have k20 := cP 20 (.bool p.mR) (by rw [hP]; rfl)
  have l17 := cQ 17 (.string p.mT) (by rw [hQ]; rfl)
  have l18 := cQ 18 (.slice p.mP.a p.mP.n p.mP.c) (by rw [hQ]; rfl)
  have l19 := cQ 19 (.int .i64 p.mQ) (by rw [hQ]; rfl)
  have l20 := cQ 20 (.bool p.mR) (by rw [hQ]; rfl)
  rw [vP, vQ]
  clear hs' e1 e2 e3 hP hQ vP vQ bV bW gP gQ zP zQ rg hK hF hN hM cP cQ hb ha hg hs n1 n2 n3 n4 n5 n6
  go_enter Tryz.func7, Tryz.ntmps7
  go_upto_region 1 with fail
  rw [← hV, ← hg1, ← hW]
  clear hV hg1 hW hgV
  refine wp_region_quiet_below (by kernel_rfl) (by kernel_rfl) ?_
  repeat (first | (refine quiet_load (by kernel_rfl) rfl w.heap.size rfl (.agg P) LP.out ?_) | (refine quiet_load (by kernel_rfl) rfl g rfl (.agg Q) LQ.out ?_) | quiet_step (first | (go_at_call 24; exact Calls.regrown_of (C24.out _ _)) | (go_at_call 25; exact Calls.regrown_of (C25.out _ _)) | (go_at_call 26; exact Calls.regrown_of (C26.out _ _)) | (go_at_call 27; exact Calls.regrown_of (C27.out _ _)) | (go_at_call 28; exact Calls.regrown_of (C28.out _ _)) | (go_at_call 29; exact Calls.regrown_of (C29.out _ _)) | (go_at_call 30; exact Calls.regrown_of (C30.out _ _)) | (go_at_call 31; exact Calls.regrown_of (C31.out _ _))))
  refine wpQuiet_nil ?_
  rintro _ ⟨⟨d, os⟩, rfl⟩
  go_wp2
  go_ret
  exact ⟨rfl, b0.out.trans ((below_regrown W d os).mono b0.out.size)⟩
end Go.Proofs.YtdanjbbemmngnaaGreatDoor
