import Derived.Test.YtcoccggimbficaaGreatDoorRr
import Derived.Test.YtcoccggimbficaaGreatDoorRs
namespace Go.Proofs.YtcoccggimbficaaGreatDoor
open Go Go.RowKit Go.Sort
set_option linter.unusedSimpArgs false
set_option linter.unusedVariables false

/-! ### What is told of a packet hangs on no address -/
section
variable {p : Pk} {c : Cn} {s1 s2 s3 s4 s5 s6 : Sl} (n1 : s1.n = p.wP.n) (n2 : s2.n = p.pass.n) (n3 : s3.n = p.mP.n) (n4 : s4.n = p.asks.n) (n5 : s5.n = p.codes.n) (n6 : s6.n = p.filters.n)
include n1 n2 n3 n4 n5 n6
theorem ck_re : ck TT (p.re s1 s2 s3 s4 s5 s6) c = ck TT p c := by
  obtain ⟨a1, m1, k1⟩ := s1
  obtain ⟨a2, m2, k2⟩ := s2
  obtain ⟨a3, m3, k3⟩ := s3
  obtain ⟨a4, m4, k4⟩ := s4
  obtain ⟨a5, m5, k5⟩ := s5
  obtain ⟨a6, m6, k6⟩ := s6
  simp only at n1 n2 n3 n4 n5 n6
  subst n1 n2 n3 n4 n5 n6
  rfl
theorem sz_re : sz (p.re s1 s2 s3 s4 s5 s6) c = sz p c := by
  obtain ⟨a1, m1, k1⟩ := s1
  obtain ⟨a2, m2, k2⟩ := s2
  obtain ⟨a3, m3, k3⟩ := s3
  obtain ⟨a4, m4, k4⟩ := s4
  obtain ⟨a5, m5, k5⟩ := s5
  obtain ⟨a6, m6, k6⟩ := s6
  simp only at n1 n2 n3 n4 n5 n6
  subst n1 n2 n3 n4 n5 n6
  rfl
theorem fgs_re : fgs (p.re s1 s2 s3 s4 s5 s6) c = fgs p c := by
  unfold fgs
  rw [ck_re n1 n2 n3 n4 n5 n6]
  rfl
theorem small_re (h : Small p c) : Small (p.re s1 s2 s3 s4 s5 s6) c := by
  obtain ⟨a1, m1, k1⟩ := s1
  obtain ⟨a2, m2, k2⟩ := s2
  obtain ⟨a3, m3, k3⟩ := s3
  obtain ⟨a4, m4, k4⟩ := s4
  obtain ⟨a5, m5, k5⟩ := s5
  obtain ⟨a6, m6, k6⟩ := s6
  simp only at n1 n2 n3 n4 n5 n6
  subst n1 n2 n3 n4 n5 n6
  exact ⟨h.cl, h.us, h.wt, h.mt, h.wp, h.ps, h.mp, h.an, h.cn, h.fn, h.sa, h.sf⟩
end

theorem load_boxed {W : World} {g : Nat} {P : Array Value} (h : W.heap[g]? = some (.cells P 29)) (hs : P.size = 25) : ∀ w', (∃ p : Regrown, w' = grow (redrawn W p.d) p.os) → (loadVar 29 ⟨g, 0, none⟩).run Tryz.prog w' = .ok (.agg P) w' := by
  rintro _ ⟨pp, rfl⟩
  exact load_row (((below_regrown W pp.d pp.os).block _ (block_lt h)).trans h) hs

/-- A call that only reads, in every world that a region may draw. -/
def Ev (W : World) (f : FuncId) (v r : Value) : Prop := ∀ d os, Calls Tryz.prog f #[v] (grow (redrawn W d) os) fun e w'' => e = .returned r ∧ Below (grow (redrawn W d) os).heap.size (grow (redrawn W d) os) w''

set_option maxHeartbeats 4000000 in
set_option maxRecDepth 100000 in
theorem tells_eq (p : Pk) (c : Cn) (s1 s2 s3 s4 s5 s6 : Sl) (w : World) (hg : Gd w) (hb : In w p c) (ha : In w (p.re s1 s2 s3 s4 s5 s6) c) (n1 : s1.n = p.wP.n) (n2 : s2.n = p.pass.n) (n3 : s3.n = p.mP.n) (n4 : s4.n = p.asks.n) (n5 : s5.n = p.codes.n) (n6 : s6.n = p.filters.n) (hs : Small p c) :
    Calls Tryz.prog 7 #[(p.re s1 s2 s3 s4 s5 s6).v, p.v] w fun e w' => e = .returned (.bool true) ∧ Below w.heap.size w w' := by
  have hs' := small_re n1 n2 n3 n4 n5 n6 hs
  have e1 : ck TT (p.re s1 s2 s3 s4 s5 s6) c = ck TT p c := ck_re n1 n2 n3 n4 n5 n6
  have e2 : fgs (p.re s1 s2 s3 s4 s5 s6) c = fgs p c := fgs_re n1 n2 n3 n4 n5 n6
  have e3 : sz (p.re s1 s2 s3 s4 s5 s6) c = sz p c := sz_re n1 n2 n3 n4 n5 n6
  obtain ⟨P, hP⟩ : ∃ P, P = pkCells (p.re s1 s2 s3 s4 s5 s6) := ⟨_, rfl⟩
  obtain ⟨Q, hQ⟩ : ∃ Q, Q = pkCells p := ⟨_, rfl⟩
  have vP : (p.re s1 s2 s3 s4 s5 s6).v = .agg P := by rw [hP]; rfl
  have vQ : p.v = .agg Q := by rw [hQ]; rfl
  obtain ⟨V, hV⟩ : ∃ V, V = w.alloc (.cells P 29) := ⟨_, rfl⟩
  obtain ⟨W, hW⟩ : ∃ W, W = V.alloc (.cells Q 29) := ⟨_, rfl⟩
  obtain ⟨g, hg1⟩ : ∃ g, g = w.heap.size + 1 := ⟨_, rfl⟩
  have hgV : g = V.heap.size := by rw [hg1, hV]; simp
  have bV : Below w.heap.size w V := box_below hV
  have bW : Below V.heap.size V W := box_below hW
  have b0 : Hid (Below w.heap.size w W) := bV.trans (bW.mono bV.size)
  have gP : W.heap[w.heap.size]? = some (.cells P 29) := (bW.block _ (block_lt (by rw [hV]; exact heap_alloc_new w _))).trans (by rw [hV]; exact heap_alloc_new w _)
  have gQ : W.heap[g]? = some (.cells Q 29) := by rw [hgV, hW]; exact heap_alloc_new V _
  have zP : P.size = 25 := by rw [hP]; rfl
  have zQ : Q.size = 25 := by rw [hQ]; rfl
  have rg : ∀ d os, Below w.heap.size w (grow (redrawn W d) os) := fun d os => b0.out.trans ((below_regrown W d os).mono b0.out.size)
  obtain ⟨K, hK⟩ : ∃ K : Int, K = (ck TT p c : Int) := ⟨_, rfl⟩
  obtain ⟨F, hF⟩ : ∃ F : Int, F = fgs p c := ⟨_, rfl⟩
  obtain ⟨N, hN⟩ : ∃ N : Int, N = (if ck TT p c = 0 then (sz p c : Int) else 0) := ⟨_, rfl⟩
  obtain ⟨M, hM⟩ : ∃ M : Int, M = cmsg p.mT p.mQ := ⟨_, rfl⟩
  have C24 : Hid (Ev W 24 (.agg P) (.int .i64 K)) := fun d os => by
    have h := check_any (p.re s1 s2 s3 s4 s5 s6) c _ (hg.below (rg d os)) (ha.below (rg d os)) hs'
    rw [e1, ← hK, vP] at h; exact h
  have C25 : Hid (Ev W 25 (.agg Q) (.int .i64 K)) := fun d os => by
    have h := rcheck2_any p c _ (hb.below (rg d os)) hs
    rw [← hK, vQ] at h; exact h
  have C26 : Hid (Ev W 26 (.agg P) (.int .i64 F)) := fun d os => by
    have h := flags_all (p.re s1 s2 s3 s4 s5 s6) c _ (hg.below (rg d os)) (ha.below (rg d os)) hs'
    rw [e2, ← hF, vP] at h; exact h
  have C27 : Hid (Ev W 27 (.agg Q) (.int .i64 F)) := fun d os => by
    have h := rflags_all p c _ (hb.below (rg d os)) hs
    rw [← hF, vQ] at h; exact h
  have C28 : Hid (Ev W 28 (.agg P) (.int .i64 N)) := fun d os => by
    have h := length_any (p.re s1 s2 s3 s4 s5 s6) c _ (hg.below (rg d os)) (ha.below (rg d os)) hs'
    rw [e1, e3, ← hN, vP] at h; exact h
  have C29 : Hid (Ev W 29 (.agg Q) (.int .i64 N)) := fun d os => by
    have h := rlength_any p c _ (hb.below (rg d os)) hs
    rw [← hN, vQ] at h; exact h
  have C30 : Hid (Ev W 30 (.agg #[.string p.mT, .slice s3.a s3.n s3.c, .int .i64 p.mQ, .bool p.mR]) (.int .i64 M)) := fun d os => by
    have h := pmsg_any p.mT s3.a s3.n s3.c p.mQ p.mR (grow (redrawn W d) os)
    rw [← hM] at h; exact h
  have C31 : Hid (Ev W 31 (.agg #[.string p.mT, .slice p.mP.a p.mP.n p.mP.c, .int .i64 p.mQ, .bool p.mR]) (.int .i64 M)) := fun d os => by
    have h := rmsg_any p.mT p.mP.a p.mP.n p.mP.c p.mQ p.mR (grow (redrawn W d) os)
    rw [← hM] at h; exact h
  have LP : Hid (∀ w', (∃ p : Regrown, w' = grow (redrawn W p.d) p.os) → (loadVar 29 ⟨w.heap.size, 0, none⟩).run Tryz.prog w' = .ok (.agg P) w') := load_boxed gP zP
  have LQ : Hid (∀ w', (∃ p : Regrown, w' = grow (redrawn W p.d) p.os) → (loadVar 29 ⟨g, 0, none⟩).run Tryz.prog w' = .ok (.agg Q) w') := load_boxed gQ zQ
  have cP : ∀ k v, P[k]? = some v → ∀ d os, (grow (redrawn W d) os).cell? ⟨w.heap.size, k, none⟩ = some v := fun k v h d os => cell_later (below_regrown W d os) (by simp [World.cell?, gP, h])
  have cQ : ∀ k v, Q[k]? = some v → ∀ d os, (grow (redrawn W d) os).cell? ⟨g, k, none⟩ = some v := fun k v h d os => cell_later (below_regrown W d os) (by simp [World.cell?, gQ, h])
  have k17 := cP 17 (.string p.mT) (by rw [hP]; rfl)
  have k18 := cP 18 (.slice s3.a s3.n s3.c) (by rw [hP]; rfl)
  have k19 := cP 19 (.int .i64 p.mQ) (by rw [hP]; rfl)
  have k20 := cP 20 (.bool p.mR) (by rw [hP]; rfl)
  have l17 := cQ 17 (.string p.mT) (by rw [hQ]; rfl)
  have l18 := cQ 18 (.slice p.mP.a p.mP.n p.mP.c) (by rw [hQ]; rfl)
  have l19 := cQ 19 (.int .i64 p.mQ) (by rw [hQ]; rfl)
  have l20 := cQ 20 (.bool p.mR) (by rw [hQ]; rfl)
  rw [vP, vQ]
  clear hs' e1 e2 e3 hP hQ vP vQ bV bW gP gQ zP zQ rg hK hF hN hM cP cQ hb ha hg hs n1 n2 n3 n4 n5 n6
  go_enter Tryz.func7, Tryz.ntmps7
  go_upto_region 1 with fail
  rw [← hV, ← hg1, ← hW]
  clear hV hg1 hW hgV
  refine wp_region_quiet_below (by kernel_rfl) (by kernel_rfl) ?_
  repeat (first | (refine quiet_load (by kernel_rfl) rfl w.heap.size rfl (.agg P) LP.out ?_) | (refine quiet_load (by kernel_rfl) rfl g rfl (.agg Q) LQ.out ?_) | quiet_step (first | (go_at_call 24; exact Calls.regrown_of (C24.out _ _)) | (go_at_call 25; exact Calls.regrown_of (C25.out _ _)) | (go_at_call 26; exact Calls.regrown_of (C26.out _ _)) | (go_at_call 27; exact Calls.regrown_of (C27.out _ _)) | (go_at_call 28; exact Calls.regrown_of (C28.out _ _)) | (go_at_call 29; exact Calls.regrown_of (C29.out _ _)) | (go_at_call 30; exact Calls.regrown_of (C30.out _ _)) | (go_at_call 31; exact Calls.regrown_of (C31.out _ _))))
  refine wpQuiet_nil ?_
  rintro _ ⟨⟨d, os⟩, rfl⟩
  go_wp2
  go_ret
  exact ⟨rfl, b0.out.trans ((below_regrown W d os).mono b0.out.size)⟩
end Go.Proofs.YtcoccggimbficaaGreatDoor
namespace Go.Proofs.YtcoccggimbficaaGreatDoor
open Go Go.RowKit Go.Sort
set_option linter.unusedSimpArgs false
set_option linter.unusedVariables false

set_option maxHeartbeats 8000000 in
set_option maxRecDepth 100000 in
/-- The document's Same of a packet and of one that has the same things in other lists. -/
theorem rsame_eq (p : Pk) (c : Cn) (s1 s2 s3 s4 s5 s6 : Sl) (w : World) (hb : In w p c) (ha : In w (p.re s1 s2 s3 s4 s5 s6) c) (n1 : s1.n = p.wP.n) (n2 : s2.n = p.pass.n) (n3 : s3.n = p.mP.n) (n4 : s4.n = p.asks.n) (n5 : s5.n = p.codes.n) (n6 : s6.n = p.filters.n) (hs : Small p c) :
    Calls Tryz.prog 8 #[(p.re s1 s2 s3 s4 s5 s6).v, p.v] w fun e w' => e = .returned (.bool true) ∧ Below w.heap.size w w' := by
  have HB : Hid (In w p c) := hb
  have HA : Hid (In w (p.re s1 s2 s3 s4 s5 s6) c) := ha
  have HS : Hid (Small p c) := hs
  have N1 : Hid (s1.n = p.wP.n) := n1
  have N2 : Hid (s2.n = p.pass.n) := n2
  have N3 : Hid (s3.n = p.mP.n) := n3
  have N4 : Hid (s4.n = p.asks.n) := n4
  have N5 : Hid (s5.n = p.codes.n) := n5
  have N6 : Hid (s6.n = p.filters.n) := n6
  have LA : Hid (s4.n ≤ 1000000 ∧ s5.n ≤ 1000000 ∧ s6.n ≤ 1000000) := ⟨by rw [n4]; exact hs.an, by rw [n5]; exact hs.cn, by rw [n6]; exact hs.fn⟩
  clear hb ha hs n1 n2 n3 n4 n5 n6
  obtain ⟨P, hP⟩ : ∃ P, P = pkCells (p.re s1 s2 s3 s4 s5 s6) := ⟨_, rfl⟩
  obtain ⟨Q, hQ⟩ : ∃ Q, Q = pkCells p := ⟨_, rfl⟩
  rw [show (p.re s1 s2 s3 s4 s5 s6).v = .agg P by rw [hP]; rfl, show p.v = .agg Q by rw [hQ]; rfl]
  have HP : Hid (P = pkCells (p.re s1 s2 s3 s4 s5 s6)) := hP
  have HQ : Hid (Q = pkCells p) := hQ
  clear hP hQ
  obtain ⟨V, hV⟩ : ∃ V, V = w.alloc (.cells P 29) := ⟨_, rfl⟩
  obtain ⟨W, hW⟩ : ∃ W, W = V.alloc (.cells Q 29) := ⟨_, rfl⟩
  obtain ⟨g, hg⟩ : ∃ g, g = w.heap.size + 1 := ⟨_, rfl⟩
  have hgV : g = V.heap.size := by rw [hg, hV]; simp
  have bV : Hid (Below w.heap.size w V) := box_below hV
  have bW : Hid (Below V.heap.size V W) := box_below hW
  have b0 : Hid (Below w.heap.size w W) := bV.out.trans (bW.out.mono bV.out.size)
  have FA : Hid (∀ k v, (pkCells (p.re s1 s2 s3 s4 s5 s6))[k]? = some v → ∀ w', Below W.heap.size W w' → w'.cell? ⟨w.heap.size, k, none⟩ = some v) := fun k v h w' hb => cell_later hb (cell_later bW.out (by rw [hV]; exact box_cell w P 29 k v (by rw [HP.out]; exact h)))
  have FB : Hid (∀ k v, (pkCells p)[k]? = some v → ∀ w', Below W.heap.size W w' → w'.cell? ⟨g, k, none⟩ = some v) := fun k v h w' hb => cell_later hb (by rw [hgV, hW]; exact box_cell V Q 29 k v (by rw [HQ.out]; exact h))
  have BW : Hid (∀ w', Below W.heap.size W w' → Below w.heap.size w w') := fun w' hb => b0.out.trans (hb.mono b0.out.size)
  have R0 : Hid (Below W.heap.size W W) := Below.refl _ _
  go_enter Tryz.func8, Tryz.ntmps8
  go_upto_region 1 with fail
  rw [← hV, ← hg, ← hW]
  clear hV hW hg hgV
  have c0 := FA.out 0 (.int .i64 p.kind) rfl W R0.out
  have d0 := FB.out 0 (.int .i64 p.kind) rfl W R0.out
  have c1 := FA.out 1 (.int .i64 p.level) rfl W R0.out
  have d1 := FB.out 1 (.int .i64 p.level) rfl W R0.out
  have c2 := FA.out 2 (.bool p.clean) rfl W R0.out
  have d2 := FB.out 2 (.bool p.clean) rfl W R0.out
  have c3 := FA.out 3 (.int .i64 p.keep) rfl W R0.out
  have d3 := FB.out 3 (.int .i64 p.keep) rfl W R0.out
  have c4 := FA.out 4 (.string p.client) rfl W R0.out
  have d4 := FB.out 4 (.string p.client) rfl W R0.out
  have c5 := FA.out 5 (.bool p.hasWill) rfl W R0.out
  have d5 := FB.out 5 (.bool p.hasWill) rfl W R0.out
  have c10 := FA.out 10 (.bool p.hasUser) rfl W R0.out
  have d10 := FB.out 10 (.bool p.hasUser) rfl W R0.out
  have c11 := FA.out 11 (.string p.user) rfl W R0.out
  have d11 := FB.out 11 (.string p.user) rfl W R0.out
  have c12 := FA.out 12 (.bool p.hasPass) rfl W R0.out
  have d12 := FB.out 12 (.bool p.hasPass) rfl W R0.out
  go_upto_region 3 with fail
  clear c0 d0 c1 d1 c2 d2 c3 d3 c4 d4 c5 d5 c10 d10 c11 d11 c12 d12
  have c14 := FA.out 14 (.bool p.present) rfl W R0.out
  have d14 := FB.out 14 (.bool p.present) rfl W R0.out
  have c15 := FA.out 15 (.int .i64 p.code) rfl W R0.out
  have d15 := FB.out 15 (.int .i64 p.code) rfl W R0.out
  have c16 := FA.out 16 (.bool p.dup) rfl W R0.out
  have d16 := FB.out 16 (.bool p.dup) rfl W R0.out
  have c21 := FA.out 21 (.int .i64 p.id) rfl W R0.out
  have d21 := FB.out 21 (.int .i64 p.id) rfl W R0.out
  have c6 := FA.out 6 (.string p.wT) rfl W R0.out
  have d6 := FB.out 6 (.string p.wT) rfl W R0.out
  have c7 := FA.out 7 (.slice s1.a s1.n s1.c) rfl W R0.out
  have d7 := FB.out 7 (.slice p.wP.a p.wP.n p.wP.c) rfl W R0.out
  have c8 := FA.out 8 (.int .i64 p.wQ) rfl W R0.out
  have d8 := FB.out 8 (.int .i64 p.wQ) rfl W R0.out
  have c9 := FA.out 9 (.bool p.wR) rfl W R0.out
  have d9 := FB.out 9 (.bool p.wR) rfl W R0.out
  go_wp2_with fail
  go_must (go_at_call 32)
  refine (sameMessage_eq _ _ _ s1 p.wP c.wz _ (HA.out.wP.below b0.out) (HB.out.wP.below b0.out) N1.out (by rw [N1.out]; exact HS.out.wp)).mono ?_
  rintro e w1 ⟨rfl, hb⟩
  have B1 : Hid (Below W.heap.size W w1) := hb
  clear hb
  clear c14 d14 c15 d15 c16 d16 c21 d21 c6 d6 c7 d7 c8 d8 c9 d9
  have c17 := FA.out 17 (.string p.mT) rfl w1 B1.out
  have d17 := FB.out 17 (.string p.mT) rfl w1 B1.out
  have c18 := FA.out 18 (.slice s3.a s3.n s3.c) rfl w1 B1.out
  have d18 := FB.out 18 (.slice p.mP.a p.mP.n p.mP.c) rfl w1 B1.out
  have c19 := FA.out 19 (.int .i64 p.mQ) rfl w1 B1.out
  have d19 := FB.out 19 (.int .i64 p.mQ) rfl w1 B1.out
  have c20 := FA.out 20 (.bool p.mR) rfl w1 B1.out
  have d20 := FB.out 20 (.bool p.mR) rfl w1 B1.out
  go_wp2_with fail
  go_must (go_at_call 32)
  refine (sameMessage_eq _ _ _ s3 p.mP c.mz _ (HA.out.mP.below (BW.out _ B1.out)) (HB.out.mP.below (BW.out _ B1.out)) N3.out (by rw [N3.out]; exact HS.out.mp)).mono ?_
  rintro e w2 ⟨rfl, hb⟩
  have B2 : Hid (Below W.heap.size W w2) := B1.out.trans (hb.mono B1.out.size)
  clear hb
  clear c17 d17 c18 d18 c19 d19 c20 d20
  have c13 := FA.out 13 (.slice s2.a s2.n s2.c) rfl w2 B2.out
  have d13 := FB.out 13 (.slice p.pass.a p.pass.n p.pass.c) rfl w2 B2.out
  go_wp2_with fail
  go_must (go_at_call 33)
  refine (sameBytes_eq s2 p.pass c.pz _ (HA.out.pass.below (BW.out _ B2.out)) (HB.out.pass.below (BW.out _ B2.out)) N2.out (by rw [N2.out]; exact HS.out.ps)).mono ?_
  rintro e w3 ⟨rfl, hb⟩
  have B3 : Hid (Below W.heap.size W w3) := B2.out.trans (hb.mono B2.out.size)
  clear hb
  clear c13 d13
  have c22 := FA.out 22 (.slice s4.a s4.n s4.c) rfl w3 B3.out
  have d22 := FB.out 22 (.slice p.asks.a p.asks.n p.asks.c) rfl w3 B3.out
  have c23 := FA.out 23 (.slice s5.a s5.n s5.c) rfl w3 B3.out
  have d23 := FB.out 23 (.slice p.codes.a p.codes.n p.codes.c) rfl w3 B3.out
  have c24 := FA.out 24 (.slice s6.a s6.n s6.c) rfl w3 B3.out
  have d24 := FB.out 24 (.slice p.filters.a p.filters.n p.filters.c) rfl w3 B3.out
  rw [← N4.out] at d22
  rw [← N5.out] at d23
  rw [← N6.out] at d24
  go_wp2_with fail
  clear c22 d22 c23 d23 c24 d24
  go_loopg [5] s4.n (fun gg sx wx => ∃ (k : Nat), sx = .int .i64 k ∧ k + gg = s4.n ∧ Hid (Below W.heap.size W wx))
  case atStart => exact ⟨0, rfl, by omega, B3⟩
  case round =>
    obtain ⟨k, rfl, hkg, B5⟩ := hrel
    have c22 := FA.out 22 (.slice s4.a s4.n s4.c) rfl _ B5.out
    have d22 := FB.out 22 (.slice p.asks.a p.asks.n p.asks.c) rfl _ B5.out
    rw [← N4.out] at d22
    by_cases hk : k < s4.n
    · have hk' : (k : Int) < s4.n := by omega
      obtain ⟨b, off, he, hc⟩ : ∃ b off, s4.a = some ⟨b, off, none⟩ ∧ ∀ i, i < s4.n → (w.cell? ⟨b, off + i * 2, none⟩ = some (.string (c.af i)) ∧ w.cell? ⟨b, off + i * 2 + 1, none⟩ = some (.int .i64 (c.aq i))) := by
        rcases (HA.out.asks).2 with h | h
        · have h' : s4.n = 0 := h
          omega
        · exact h
      obtain ⟨b', off', he', hc'⟩ : ∃ b off, p.asks.a = some ⟨b, off, none⟩ ∧ ∀ i, i < p.asks.n → (w.cell? ⟨b, off + i * 2, none⟩ = some (.string (c.af i)) ∧ w.cell? ⟨b, off + i * 2 + 1, none⟩ = some (.int .i64 (c.aq i))) := by
        rcases (HB.out.asks).2 with h | h
        · have h' := N4.out
          omega
        · exact h
      have hac : s4.n ≤ s4.c := HA.out.asks.1
      have hac' : s4.n ≤ p.asks.c := by rw [N4.out]; exact HB.out.asks.1
      rw [he] at c22
      rw [he'] at d22
      have hk2 : k < p.asks.n := by rw [← N4.out]; exact hk
      have e0 := cell_later (BW.out _ B5.out) (hc k hk).1
      have e1 := cell_later (BW.out _ B5.out) (hc k hk).2
      have f0 := cell_later (BW.out _ B5.out) (hc' k hk2).1
      have f1 := cell_later (BW.out _ B5.out) (hc' k hk2).2
      obtain ⟨x, hx⟩ : ∃ x, c.af k = x := ⟨_, rfl⟩
      obtain ⟨y, hy⟩ : ∃ x, c.aq k = x := ⟨_, rfl⟩
      rw [hx] at e0 f0
      rw [hy] at e1 f1
      clear hx hy
      have EQ := neq_ask_eq x y
      have EG : Tryz.prog.eqGuardType Tryz.prog.depth 78 = false := by kernel_rfl
      clear he he' hc hc' hk2
      have hlim := LA.out
      obtain ⟨gg, hgg⟩ : ∃ gg, gk = gg + 1 := ⟨gk - 1, by omega⟩
      go_wp2_with fail
      go_region
      all_goals
        go_wp2
        go_roundg gg
        case measure => omega
        case rel => exact ⟨k + 1, by first | rfl | simp, by omega, by first | exact B5 | exact B5.out.drew⟩
    · obtain rfl : k = s4.n := by omega
      have hk' : ¬ (s4.n : Int) < s4.n := by omega
      go_wp2_with fail
      clear c22 d22 hk hk'
      go_loopg [6] s5.n (fun gg sx wx => ∃ (k : Nat), sx = .int .i64 k ∧ k + gg = s5.n ∧ Hid (Below W.heap.size W wx))
      case atStart => exact ⟨0, rfl, by omega, B5⟩
      case round =>
        obtain ⟨k, rfl, hkg, B6⟩ := hrel
        have c23 := FA.out 23 (.slice s5.a s5.n s5.c) rfl _ B6.out
        have d23 := FB.out 23 (.slice p.codes.a p.codes.n p.codes.c) rfl _ B6.out
        rw [← N5.out] at d23
        by_cases hk : k < s5.n
        · have hk' : (k : Int) < s5.n := by omega
          obtain ⟨b, off, he, hc⟩ : ∃ b off, s5.a = some ⟨b, off, none⟩ ∧ ∀ i, i < s5.n → w.cell? ⟨b, off + i, none⟩ = some (.int .i64 (c.cs i)) := by
            rcases (HA.out.codes).2 with h | h
            · have h' : s5.n = 0 := h
              omega
            · exact h
          obtain ⟨b', off', he', hc'⟩ : ∃ b off, p.codes.a = some ⟨b, off, none⟩ ∧ ∀ i, i < p.codes.n → w.cell? ⟨b, off + i, none⟩ = some (.int .i64 (c.cs i)) := by
            rcases (HB.out.codes).2 with h | h
            · have h' := N5.out
              omega
            · exact h
          have hac : s5.n ≤ s5.c := HA.out.codes.1
          have hac' : s5.n ≤ p.codes.c := by rw [N5.out]; exact HB.out.codes.1
          rw [he] at c23
          rw [he'] at d23
          have hk2 : k < p.codes.n := by rw [← N5.out]; exact hk
          have e0 := cell_later (BW.out _ B6.out) (hc k hk)
          have f0 := cell_later (BW.out _ B6.out) (hc' k hk2)
          obtain ⟨x, hx⟩ : ∃ x, c.cs k = x := ⟨_, rfl⟩
          rw [hx] at e0 f0
          clear hx
          clear he he' hc hc' hk2
          have hlim := LA.out
          obtain ⟨gg, hgg⟩ : ∃ gg, gk = gg + 1 := ⟨gk - 1, by omega⟩
          go_wp2_with fail
          go_region
          all_goals
            go_wp2
            go_roundg gg
            case measure => omega
            case rel => exact ⟨k + 1, by first | rfl | simp, by omega, by first | exact B6 | exact B6.out.drew⟩
        · obtain rfl : k = s5.n := by omega
          have hk' : ¬ (s5.n : Int) < s5.n := by omega
          go_wp2_with fail
          clear c23 d23 hk hk'
          go_loopg [7] s6.n (fun gg sx wx => ∃ (k : Nat), sx = .int .i64 k ∧ k + gg = s6.n ∧ Hid (Below W.heap.size W wx))
          case atStart => exact ⟨0, rfl, by omega, B6⟩
          case round =>
            obtain ⟨k, rfl, hkg, B7⟩ := hrel
            have c24 := FA.out 24 (.slice s6.a s6.n s6.c) rfl _ B7.out
            have d24 := FB.out 24 (.slice p.filters.a p.filters.n p.filters.c) rfl _ B7.out
            rw [← N6.out] at d24
            by_cases hk : k < s6.n
            · have hk' : (k : Int) < s6.n := by omega
              obtain ⟨b, off, he, hc⟩ : ∃ b off, s6.a = some ⟨b, off, none⟩ ∧ ∀ i, i < s6.n → w.cell? ⟨b, off + i, none⟩ = some (.string (c.fs i)) := by
                rcases (HA.out.filters).2 with h | h
                · have h' : s6.n = 0 := h
                  omega
                · exact h
              obtain ⟨b', off', he', hc'⟩ : ∃ b off, p.filters.a = some ⟨b, off, none⟩ ∧ ∀ i, i < p.filters.n → w.cell? ⟨b, off + i, none⟩ = some (.string (c.fs i)) := by
                rcases (HB.out.filters).2 with h | h
                · have h' := N6.out
                  omega
                · exact h
              have hac : s6.n ≤ s6.c := HA.out.filters.1
              have hac' : s6.n ≤ p.filters.c := by rw [N6.out]; exact HB.out.filters.1
              rw [he] at c24
              rw [he'] at d24
              have hk2 : k < p.filters.n := by rw [← N6.out]; exact hk
              have e0 := cell_later (BW.out _ B7.out) (hc k hk)
              have f0 := cell_later (BW.out _ B7.out) (hc' k hk2)
              obtain ⟨x, hx⟩ : ∃ x, c.fs k = x := ⟨_, rfl⟩
              rw [hx] at e0 f0
              clear hx
              clear he he' hc hc' hk2
              have hlim := LA.out
              obtain ⟨gg, hgg⟩ : ∃ gg, gk = gg + 1 := ⟨gk - 1, by omega⟩
              go_wp2_with fail
              go_region
              all_goals
                go_wp2
                go_roundg gg
                case measure => omega
                case rel => exact ⟨k + 1, by first | rfl | simp, by omega, by first | exact B7 | exact B7.out.drew⟩
            · obtain rfl : k = s6.n := by omega
              have hk' : ¬ (s6.n : Int) < s6.n := by omega
              go_wp2
              go_ret
              exact ⟨rfl, BW.out _ B7.out⟩
end Go.Proofs.YtcoccggimbficaaGreatDoor
