import Derived.Test.YtdhinpmjbcohaaaGreatKaG
import Derived.Test.YtdhinpmjbcohaaaGreatQaR
import Derived.Test.YtdhinpmjbcohaaaGreatPa
import Derived.Deep.LoopGhost
import Derived.Lib.AppendZeros
import Derived.Maps.AppendAt
import Derived.Test.YtdhinpmjbcohaaaGreatCc
namespace Go.Proofs.YtdhinpmjbcohaaaGreat.Jc
open Go Go.RowKit
open Qa (step_append_runk cell_ltk)
set_option linter.unusedSimpArgs false
set_option linter.unusedVariables false
abbrev zgv0 : Oper := { dst := some 11, op := Go.Op.load 90 (Go.Operand.tmp 4), type := 90, pos := "exact.go:74", after := #[], guard := none }
abbrev zgv1 : Oper := { dst := some 12, op := Go.Op.fieldAddr 41 (Go.Operand.tmp 5) 2, type := 0, pos := "exact.go:74", after := #[], guard := none }
abbrev zgv2 : Oper := { dst := some 13, op := Go.Op.load 38 (Go.Operand.tmp 12), type := 38, pos := "exact.go:74", after := #[{ on := 1, ground := Go.Ground.data }], guard := none }
abbrev zgv3 : Oper := { dst := some 14, op := Go.Op.load 43 (Go.Operand.tmp 7), type := 43, pos := "exact.go:74", after := #[], guard := none }
abbrev zgv4 : Oper := { dst := some 16, op := Go.Op.fieldAddr 41 (Go.Operand.tmp 5) 3, type := 0, pos := "exact.go:74", after := #[], guard := none }
abbrev zgv5 : Oper := { dst := some 17, op := Go.Op.load 39 (Go.Operand.tmp 16), type := 39, pos := "exact.go:74", after := #[{ on := 5, ground := Go.Ground.data }], guard := none }
abbrev zgv6 : Oper := { dst := some 18, op := Go.Op.move (Go.Operand.tmp 1), type := 4, pos := "exact.go:74", after := #[], guard := none }
abbrev zgv7 : Oper := { dst := some 15, op := Go.Op.call { callee := Go.Callee.value (Go.Operand.func 41), args := #[Go.Operand.tmp 13, Go.Operand.tmp 14], argTypes := #[38, 43] }, type := 3, pos := "exact.go:74", after := #[{ on := 2, ground := Go.Ground.data }, { on := 3, ground := Go.Ground.data }], guard := none }
abbrev zgv8 : Oper := { dst := some 19, op := Go.Op.call { callee := Go.Callee.value (Go.Operand.func 42), args := #[Go.Operand.tmp 17, Go.Operand.tmp 18], argTypes := #[39, 4] }, type := 3, pos := "exact.go:74", after := #[{ on := 6, ground := Go.Ground.data }, { on := 7, ground := Go.Ground.data }, { on := 4, ground := Go.Ground.chain }], guard := none }
abbrev zgv9 : Oper := { dst := some 20, op := Go.Op.build 120 #[(0, Go.Operand.tmp 15), (1, Go.Operand.tmp 19)], type := 120, pos := "exact.go:74", after := #[{ on := 4, ground := Go.Ground.data }, { on := 8, ground := Go.Ground.data }], guard := none }
abbrev zgv10 : Oper := { dst := some 21, op := Go.Op.buildSlice 90 1 #[(0, Go.Operand.tmp 20)], type := 90, pos := "exact.go:74", after := #[{ on := 9, ground := Go.Ground.data }], guard := none }
abbrev zgv11 : Oper := { dst := some 22, op := Go.Op.call { callee := Go.Callee.builtin Go.Builtin.append, args := #[Go.Operand.tmp 11, Go.Operand.tmp 21], argTypes := #[90, 90] }, type := 90, pos := "exact.go:74", after := #[{ on := 0, ground := Go.Ground.data }, { on := 10, ground := Go.Ground.data }, { on := 8, ground := Go.Ground.chain }], guard := none }
abbrev zgv12 : Oper := { dst := none, op := Go.Op.store 90 (Go.Operand.tmp 4) (Go.Operand.tmp 22), type := 0, pos := "exact.go:74", after := #[{ on := 11, ground := Go.Ground.data }, { on := 11, ground := Go.Ground.chain }, { on := 0, ground := Go.Ground.phase }, { on := 1, ground := Go.Ground.phase }, { on := 2, ground := Go.Ground.phase }, { on := 3, ground := Go.Ground.phase }, { on := 4, ground := Go.Ground.phase }, { on := 5, ground := Go.Ground.phase }, { on := 6, ground := Go.Ground.phase }, { on := 7, ground := Go.Ground.phase }, { on := 8, ground := Go.Ground.phase }, { on := 9, ground := Go.Ground.phase }, { on := 10, ground := Go.Ground.phase }, { on := 11, ground := Go.Ground.phase }], guard := none }
set_option maxRecDepth 100000
set_option maxHeartbeats 4000000
theorem hidc {p : Prop} (h : p) : Hid p := h
def Sg (ob pb bx kb vb : Nat) (v : Value) (kx : Int) (ki : Int) (W : World) : Prop := W.cell? ⟨ob, 0, none⟩ = some v ∧ W.cell? ⟨pb, 2, none⟩ = some (.pointer (some ⟨kb, 0, none⟩)) ∧ W.cell? ⟨pb, 3, none⟩ = some (.pointer (some ⟨vb, 0, none⟩)) ∧ W.cell? ⟨bx, 0, none⟩ = some (.int .u8 kx) ∧ W.cell? ⟨bx, 1, none⟩ = some (.int .u8 ki)
theorem given1k_walk {W : World} {eb wb ob pb nb kb vb : Nat} {v : Value} {kx : Int} {ki n kn vn : Int} {x : Bool} (R : Ending → World → Prop)
  (c0 : W.cell? ⟨eb, 0, none⟩ = some (.bool false)) (c2 : W.cell? ⟨ob, 0, none⟩ = some v) (c3 : W.cell? ⟨pb, 2, none⟩ = some (pt kb)) (c4 : W.cell? ⟨pb, 3, none⟩ = some (pt vb))
  (h44 : ∀ W', Below (W.alloc (.cells #[.int .u8 kx, .int .u8 ki] 43)).heap.size (W.alloc (.cells #[.int .u8 kx, .int .u8 ki] 43)) W' → Calls Tryz.prog 41 #[pt kb, .agg #[.int .u8 kx, .int .u8 ki]] W' fun r w' => r = .returned (.int .i64 kn) ∧ Below W'.heap.size W' w')
  (h28 : ∀ W', Below (W.alloc (.cells #[.int .u8 kx, .int .u8 ki] 43)).heap.size (W.alloc (.cells #[.int .u8 kx, .int .u8 ki] 43)) W' → Calls Tryz.prog 42 #[pt vb, .bool x] W' fun r w' => r = .returned (.int .i64 vn) ∧ w' = W')
  (hfin : ∀ W', Below (W.alloc (.cells #[.int .u8 kx, .int .u8 ki] 43)).heap.size (W.alloc (.cells #[.int .u8 kx, .int .u8 ki] 43)) W' → ∃ va nl ca w9, nl ≤ 1000000 ∧ (Builtin.append_ #[90, 90] 90 #[v, .slice (some ⟨W'.heap.size, 0, none⟩) 1 1]).run Tryz.prog (W'.alloc (.cells #[.int .i64 kn, .int .i64 vn] 120)) = .ok (.slice va nl ca) w9 ∧ Sg ob pb W.heap.size kb vb v kx ki w9 ∧ w9.frozen? ⟨ob, 0, none⟩ = false ∧ (w9.setCell ⟨ob, 0, none⟩ (.slice va nl ca)).cell? ⟨eb, 0, none⟩ = some (.bool false) ∧ (w9.setCell ⟨ob, 0, none⟩ (.slice va nl ca)).cell? ⟨nb, 0, none⟩ = some (.int .i64 n) ∧ (w9.setCell ⟨ob, 0, none⟩ (.slice va nl ca)).frozen? ⟨eb, 0, none⟩ = false ∧ R (.returned (.bool (!((nl : Int) == n)))) ((w9.setCell ⟨ob, 0, none⟩ (.slice va nl ca)).setCell ⟨eb, 0, none⟩ (.bool ((nl : Int) == n)))) :
  Calls Tryz.prog 91 #[.agg #[.int .u8 kx, .int .u8 ki], .bool x, pt eb, pt wb, pt ob, pt pb, pt nb] W R := by
 have hb90 : ∀ w', (Instr.build 120 #[(0, .int .i64 kn), (1, .int .i64 vn)]).run Tryz.prog w' = .ok (.agg #[.int .i64 kn, .int .i64 vn]) w' := fun w' => run_build w' 120 _ _ (by kernel_rfl)
 have H44 := hidc h44
 have H28 := hidc h28
 have HF := hidc hfin
 have hol : ob < W.heap.size := cell_ltk c2
 have hpl : pb < W.heap.size := cell_ltk c3
 have hel : eb < W.heap.size := cell_ltk c0
 unfold pt at c3 c4
 have HSG : Hid (∀ W', Below (W.alloc (.cells #[.int .u8 kx, .int .u8 ki] 43)).heap.size (W.alloc (.cells #[.int .u8 kx, .int .u8 ki] 43)) W' → Sg ob pb W.heap.size kb vb v kx ki W') := fun W' hW => by
  have hs : (W.alloc (.cells #[.int .u8 kx, .int .u8 ki] 43)).heap.size = W.heap.size + 1 := by simp
  have k : ∀ {b j : Nat} {u : Value}, W.cell? ⟨b, j, none⟩ = some u → W'.cell? ⟨b, j, none⟩ = some u := fun {b j u} h => by
   have hl := cell_ltk h
   rw [hW.cell (p := ⟨b, j, none⟩) (by rw [hs]; exact Nat.lt_succ_of_lt hl), World.cell?_alloc_lt]
   ·
    exact h
   ·
    exact hl
  have kb2 := heap_alloc_new W (.cells #[.int .u8 kx, .int .u8 ki] 43)
  refine ⟨k c2, k c3, k c4, ?_, ?_⟩
  ·
   rw [hW.cell (p := ⟨W.heap.size, 0, none⟩) (by rw [hs]; exact Nat.lt_succ_self _)]
   exact box_cells kb2 0 _ rfl
  ·
   rw [hW.cell (p := ⟨W.heap.size, 1, none⟩) (by rw [hs]; exact Nat.lt_succ_self _)]
   exact box_cells kb2 1 _ rfl
 have c0' : (W.alloc (.cells #[.int .u8 kx, .int .u8 ki] 43)).cell? ⟨eb, 0, none⟩ = some (.bool false) := by rw [World.cell?_alloc_lt]; exact c0; exact hel
 have BD := hidc (show Below (W.alloc (.cells #[.int .u8 kx, .int .u8 ki] 43)).heap.size (W.alloc (.cells #[.int .u8 kx, .int .u8 ki] 43)) (W.alloc (.cells #[.int .u8 kx, .int .u8 ki] 43)).drew from (Below.refl _ _).drew)
 clear h44 h28 hfin c0 c2 c3 c4 hol hpl hel
 unfold pt at *
 go_enter Tryz.func91, Tryz.ntmps91
 go_wp2_with fail
 refine wp_region_T (Sg ob pb W.heap.size kb vb v kx ki) 12 (by kernel_rfl) (HSG.out _ BD.out) (fun hHeld => ?_)
 change wpAnyT _ _ _ _ _ _ 13 #[false, false, false, false, false, false, false, false, false, false, false, false, false] _ (World.drew _)
 refine wpAnyT_take (i := 0) (oi := zgv0) (v := v) rfl (by kernel_rfl) (by kernel_rfl) (by kernel_rfl) (by kernel_rfl) (fun _ _ _ h => h) (Or.inl ⟨by kernel_rfl, by intro wq hSw; obtain ⟨s1, s2, s3, s4, s5⟩ := hSw; clear hHeld; go_simp⟩) hHeld ?_
 simp only [Act.put, nrA, nrB, nrC]
 refine wpAnyT_take (i := 1) (oi := zgv1) (v := .pointer (some ⟨pb, 2, none⟩)) rfl (by kernel_rfl) (by kernel_rfl) (by kernel_rfl) (by kernel_rfl) (fun _ _ _ h => h) (Or.inl ⟨by kernel_rfl, by intro wq hSw; obtain ⟨s1, s2, s3, s4, s5⟩ := hSw; clear hHeld; go_simp⟩) hHeld ?_
 simp only [Act.put, nrA, nrB, nrC]
 refine wpAnyT_take (i := 2) (oi := zgv2) (v := .pointer (some ⟨kb, 0, none⟩)) rfl (by kernel_rfl) (by kernel_rfl) (by kernel_rfl) (by kernel_rfl) (fun _ _ _ h => h) (Or.inl ⟨by kernel_rfl, by intro wq hSw; obtain ⟨s1, s2, s3, s4, s5⟩ := hSw; clear hHeld; go_simp⟩) hHeld ?_
 simp only [Act.put, nrA, nrB, nrC]
 refine wpAnyT_take (i := 3) (oi := zgv3) (v := .agg #[.int .u8 kx, .int .u8 ki]) rfl (by kernel_rfl) (by kernel_rfl) (by kernel_rfl) (by kernel_rfl) (fun _ _ _ h => h) (Or.inl ⟨by kernel_rfl, by intro wq hSw; obtain ⟨s1, s2, s3, s4, s5⟩ := hSw; clear hHeld; go_simp⟩) hHeld ?_
 simp only [Act.put, nrA, nrB, nrC]
 refine wpAnyT_take (i := 5) (oi := zgv4) (v := .pointer (some ⟨pb, 3, none⟩)) rfl (by kernel_rfl) (by kernel_rfl) (by kernel_rfl) (by kernel_rfl) (fun _ _ _ h => h) (Or.inl ⟨by kernel_rfl, by intro wq hSw; obtain ⟨s1, s2, s3, s4, s5⟩ := hSw; clear hHeld; go_simp⟩) hHeld ?_
 simp only [Act.put, nrA, nrB, nrC]
 refine wpAnyT_take (i := 6) (oi := zgv5) (v := .pointer (some ⟨vb, 0, none⟩)) rfl (by kernel_rfl) (by kernel_rfl) (by kernel_rfl) (by kernel_rfl) (fun _ _ _ h => h) (Or.inl ⟨by kernel_rfl, by intro wq hSw; obtain ⟨s1, s2, s3, s4, s5⟩ := hSw; clear hHeld; go_simp⟩) hHeld ?_
 simp only [Act.put, nrA, nrB, nrC]
 refine wpAnyT_take (i := 7) (oi := zgv6) (v := .bool x) rfl (by kernel_rfl) (by kernel_rfl) (by kernel_rfl) (by kernel_rfl) (fun _ _ _ h => h) (Or.inl ⟨by kernel_rfl, by intro wq hSw; obtain ⟨s1, s2, s3, s4, s5⟩ := hSw; clear hHeld; go_simp⟩) hHeld ?_
 simp only [Act.put, nrA, nrB, nrC]
 refine wpAnyT_ready (rs := [4]) (by kernel_rfl) (by simp) ?_
 refine AllReadyT.cons (o := zgv7) (by rfl) (fun K hK => ?_) AllReadyT.nil
 clear hHeld
 go_simp
 go_wp2_with (go_at_call 41; refine (H44.out _ BD.out).mono ?_; rintro e w4 ⟨rfl, hb4⟩)
 have BWx := hidc (show Below (W.alloc (.cells #[.int .u8 kx, .int .u8 ki] 43)).heap.size (W.alloc (.cells #[.int .u8 kx, .int .u8 ki] 43)) w4 from (BD.out).trans (hb4.mono (BD.out).size))
 clear hb4
 refine hK.out _ _ (HSG.out _ BWx.out) (fun hHeld => ?_)
 clear hK K
 (try simp only [Act.put, nrA, nrB, nrC])
 refine wpAnyT_ready (rs := [8]) (by kernel_rfl) (by simp) ?_
 refine AllReadyT.cons (o := zgv8) (by rfl) (fun K hK => ?_) AllReadyT.nil
 clear hHeld
 go_simp
 go_wp2_with (go_at_call 42; refine (H28.out _ BWx.out).mono ?_; rintro e w5 ⟨rfl, h5⟩; obtain rfl := h5.symm; clear h5)
 refine hK.out _ _ (HSG.out _ BWx.out) (fun hHeld => ?_)
 clear hK K
 (try simp only [Act.put, nrA, nrB, nrC])
 refine wpAnyT_take (i := 9) (oi := zgv9) (v := .agg #[.int .i64 kn, .int .i64 vn]) rfl (by kernel_rfl) (by kernel_rfl) (by kernel_rfl) (by kernel_rfl) (fun _ _ _ h => h) (Or.inl ⟨by kernel_rfl, by intro wq hSw; clear hSw hHeld; go_simp⟩) hHeld ?_
 simp only [Act.put, nrA, nrB, nrC]
 refine wpAnyT_ready (rs := [10]) (by kernel_rfl) (by simp) ?_
 refine AllReadyT.cons (o := zgv10) (by rfl) (fun K hK => ?_) AllReadyT.nil
 clear hHeld
 go_simp
 have SA := hidc (HSG.out _ (BWx.out.alloc BWx.out.size (.cells #[.int .i64 kn, .int .i64 vn] 120)))
 refine hK.out _ _ SA.out (fun hHeld => ?_)
 clear hK K
 (try simp only [Act.put, nrA, nrB, nrC])
 obtain ⟨va, nl, ca, w9, hnl, hr, s9, hf9, z1, z2, z3, hZ⟩ := HF.out _ BWx.out
 have HRN := hidc hr
 have HZ := hidc hZ
 clear hr hZ
 refine wpAnyT_ready (rs := [11]) (by kernel_rfl) (by simp) ?_
 refine AllReadyT.cons (o := zgv11) (by rfl) (fun K hK => ?_) AllReadyT.nil
 clear hHeld
 refine step_append_runk rfl (.tmp 11) (.tmp 21) 90 90 rfl _ _ rfl rfl _ w9 HRN.out ?_
 refine hK.out _ _ s9 (fun hHeld => ?_)
 clear hK K
 (try simp only [Act.put, nrA, nrB, nrC])
 refine wpAnyT_ready (rs := [12]) (by kernel_rfl) (by simp) ?_
 refine AllReadyT.last (o := zgv12) (by rfl) (fun K hK => ?_)
 have hHd := hHeld
 obtain ⟨q1, -, -, -, -⟩ := hHd
 clear hHeld
 go_simp
 refine hK.out _ _ ?_
 clear hK K
 (try simp only [Act.put, nrA, nrB, nrC])
 refine wpAnyT_done (by kernel_rfl) ?_ _
 have a0 : (w9.setCell ⟨ob, 0, none⟩ (.slice va nl ca)).cell? ⟨ob, 0, none⟩ = some (.slice va nl ca) := World.cell?_setCell_same _ _ _ q1
 clear q1 s9 SA
 go_wp2_with fail
 (try go_ret)

 exact HZ.out
end Go.Proofs.YtdhinpmjbcohaaaGreat.Jc
namespace Go.Proofs.YtdhinpmjbcohaaaGreat.Qo
open Go Go.RowKit
set_option linter.unusedSimpArgs false
set_option linter.unusedVariables false
set_option maxRecDepth 100000
set_option maxHeartbeats 4000000

abbrev Kt := Bool
def mk (k : Kt) : Value := .bool k
def CD (w : World) (kb : Nat) (C : List Kt) (G : Nat → Prop) : Prop := ∃ v, w.heap[kb]? = some (.cells #[v] 75 (0, 0)) ∧ w.ownsRow 0 4 1 v C.length (C.map mk) ∧ (∀ j, G j ↔ j = kb ∨ v.ownBlock = some j) ∧ (C = [] → v = .slice none 0 0)
theorem info_el : (Tryz.prog.info? 4).map (fun i => (i.zero, i.size, i.bytes)) = some (some (mk false), 1, 1) := by kernel_rfl
theorem CD.keep {w w' : World} {kb : Nat} {C : List Kt} {G : Nat → Prop} (h : CD w kb C G) (hk : ∀ j, G j → w'.heap[j]? = w.heap[j]?) : CD w' kb C G := by
 obtain ⟨v, h1, h2, h3, h4⟩ := h
 refine ⟨v, (hk kb ((h3 kb).2 (.inl rfl))).trans h1, ?_, h3, h4⟩
 refine ⟨h2.1, ?_⟩
 rcases h2.2 with h0 | ⟨g, cap, cur, rfl, e1, hg, e2⟩
 ·
  exact .inl h0
 ·
  exact .inr ⟨g, cap, cur, rfl, e1, (hk g ((h3 g).2 (.inr rfl))).trans hg, e2⟩
theorem CD.lt {w : World} {kb : Nat} {C : List Kt} {G : Nat → Prop} (h : CD w kb C G) {j : Nat} (hj : G j) : j < w.heap.size := by
 obtain ⟨v, h1, h2, h3, h4⟩ := h
 rcases (h3 j).1 hj with rfl | q
 ·
  exact (Array.getElem?_eq_some_iff.1 h1).1
 ·
  exact (h2.lt j q).2
theorem own_blk {w : World} {B e s n : Nat} {v : Value} {xs : List Value} (h : w.ownsRow B e s v n xs) {k : Nat} (hk : v.ownBlock = some k) : ∃ c, w.heap[k]? = some (.cells c e (0, 0)) := by
 rcases h.2 with ⟨r, _⟩ | ⟨g, cap, cur, r, _, hg, _⟩
 ·
  rw [r] at hk; cases hk
 ·
  rw [r] at hk
  have e' : g = k := by simpa [Value.ownBlock] using hk
  subst e'
  exact ⟨_, hg⟩
theorem app_one {w : World} {v : Value} {C : List Kt} (ho : w.ownsRow 0 4 1 v C.length (C.map mk)) (k : Kt) (hl : C.length ≤ 1000000) : ∃ g' cap' w', (Builtin.append_ #[73, 73] 73 #[v, .slice (some ⟨w.heap.size, 0, none⟩) 1 1]).run Tryz.prog (w.alloc (.cells #[mk k] 4)) = .ok (.slice (some ⟨g', 0, none⟩) (C.length + 1) cap') w' ∧ w'.ownsRow 0 4 1 (.slice (some ⟨g', 0, none⟩) (C.length + 1) cap') (C ++ [k]).length ((C ++ [k]).map mk) ∧ Ch (fun j => v.ownBlock = some j) w w' ∧ (v.ownBlock = some g' ∨ w.heap.size ≤ g') := by
 obtain ⟨i0, hi0, hz⟩ := Option.map_eq_some_iff.1 info_el
 simp only [Prod.mk.injEq] at hz
 obtain ⟨v', w', hr, h2, h3, h4, h5⟩ := run_append_own_at (P := Tryz.prog) (w.alloc (.cells #[mk k] 4)) 0 73 73 4 i0 (mk false) 1 1 Tryz.underlying73 hi0 hz.1 hz.2.1 hz.2.2 (by simp [mk, Value.cells]) (by decide) v C.length (C.map mk) (ho.alloc _) ⟨w.heap.size, 0, none⟩ 1 1 [mk k] rfl (cell_one_new _ _ _) (by simp [Value.oneCell', mk]) (by unfold maxLen; omega) (by omega) (by omega)
 rcases h2.2 with ⟨_, q⟩ | ⟨g', cap', cur, rfl, _⟩
 ·
  omega
 ·
  refine ⟨g', cap', w', hr, by simpa using h2, ?_, ?_⟩
  ·
   exact (ch_alloc _ _ _).then ((ch_grown h3).mono (fun j _ q => q))
  ·
   rcases h5 with q | q
   ·
    exact .inl (by rw [← q]; rfl)
   ·
    simp [Value.ownBlock] at q
    exact .inr (by omega)
theorem set_row {w : World} {kb t B e s n : Nat} {v x : Value} {xs : List Value} {cs : Array Value} (h : w.ownsRow B e s v n xs) (hb : w.heap[kb]? = some (.cells cs t (0, 0))) (ht : t ≠ e) (i : Nat) : (w.setCell ⟨kb, i, none⟩ x).ownsRow B e s v n xs := by
 refine ⟨h.1, ?_⟩
 rcases h.2 with h0 | ⟨g, cap, cur, rfl, e1, hg, e2⟩
 ·
  exact .inl h0
 ·
  refine .inr ⟨g, cap, cur, rfl, e1, (heap_set_ne _ (fun q => ?_)).trans hg, e2⟩
  rw [q, hb] at hg
  simp at hg
  exact ht hg.2
theorem CD.more {w w' : World} {kb g' cap' : Nat} {v : Value} {C : List Kt} {k : Kt} (hb : w.heap[kb]? = some (.cells #[v] 75 (0, 0))) (ho : w.ownsRow 0 4 1 v C.length (C.map mk)) (h2 : w'.ownsRow 0 4 1 (.slice (some ⟨g', 0, none⟩) (C.length + 1) cap') (C ++ [k]).length ((C ++ [k]).map mk)) (hc : Ch (fun j => v.ownBlock = some j) w w') :
  w'.heap[kb]? = some (.cells #[v] 75 (0, 0)) ∧ CD (w'.setCell ⟨kb, 0, none⟩ (.slice (some ⟨g', 0, none⟩) (C.length + 1) cap')) kb (C ++ [k]) (fun j => j = kb ∨ j = g') := by
 have hb' : w'.heap[kb]? = some (.cells #[v] 75 (0, 0)) := by
  rw [hc.block kb (Array.getElem?_eq_some_iff.1 hb).1 (fun q => by
   obtain ⟨c, hcc⟩ := own_blk ho q
   rw [hb] at hcc
   simp at hcc)]
  exact hb
 refine ⟨hb', _, ?_, set_row h2 hb' (by decide) 0, fun j => ?_, fun q => absurd q (by simp)⟩
 ·
  rw [heap_set hb']
  simp
 ·
  simp [Value.ownBlock, eq_comm]
theorem of_walk {w : World} {kb g cap : Nat} {D : List Kt} {v0 : Value} {k : Kt} (w1 : World) (hb : w1.heap[kb]? = some (.cells #[.slice (some ⟨g, 0, none⟩) D.length cap] 75 (0, 0))) (ho : w1.ownsRow 0 4 1 (.slice (some ⟨g, 0, none⟩) D.length cap) D.length (D.map mk)) (hl : D.length ≤ 1000000) (hpos : 0 < D.length)
  (hs : (w1 = w ∧ w.cell? ⟨kb, 0, none⟩ = some (.slice (some ⟨g, 0, none⟩) D.length cap)) ∨ ∃ wa, w.cell? ⟨kb, 0, none⟩ = some (.slice none 0 0) ∧ (Builtin.append_ #[73, 73] 73 #[.slice none 0 0, .slice (some ⟨w.heap.size, 0, none⟩) 1 1]).run Tryz.prog (w.alloc (.cells #[mk false] 4)) = .ok (.slice (some ⟨g, 0, none⟩) D.length cap) wa ∧ wa.cell? ⟨kb, 0, none⟩ = some v0 ∧ wa.frozen? ⟨kb, 0, none⟩ = false ∧ w1 = wa.setCell ⟨kb, 0, none⟩ (.slice (some ⟨g, 0, none⟩) D.length cap) ∧ (w.alloc (.cells #[mk false] 4)).cell? ⟨kb, 0, none⟩ = some (.slice none 0 0))
  (R : Ending → World → Prop) (hR1 : ∀ j : Nat, D[j]? = some k → (∀ q, q < j → D[q]? ≠ some k) → R (.returned (.int .i64 j)) w1)
  (hR2 : k ∉ D → ∀ g' cap' w2, w2.ownsRow 0 4 1 (.slice (some ⟨g', 0, none⟩) (D.length + 1) cap') (D ++ [k]).length ((D ++ [k]).map mk) → Ch (fun j => j = g) w1 w2 → (g = g' ∨ w1.heap.size ≤ g') → R (.returned (.int .i64 D.length)) (w2.setCell ⟨kb, 0, none⟩ (.slice (some ⟨g', 0, none⟩) (D.length + 1) cap'))) :
  Calls Tryz.prog 42 #[pt kb, mk k] w R := by
 have HR1 : Hid (∀ j : Nat, D[j]? = some k → (∀ q, q < j → D[q]? ≠ some k) → R (.returned (.int .i64 j)) w1) := hR1
 have HR2 : Hid (k ∉ D → ∀ g' cap' w2, w2.ownsRow 0 4 1 (.slice (some ⟨g', 0, none⟩) (D.length + 1) cap') (D ++ [k]).length ((D ++ [k]).map mk) → Ch (fun j => j = g) w1 w2 → (g = g' ∨ w1.heap.size ≤ g') → R (.returned (.int .i64 D.length)) (w2.setCell ⟨kb, 0, none⟩ (.slice (some ⟨g', 0, none⟩) (D.length + 1) cap'))) := hR2
 clear hR1 hR2
 have HB : Hid (w1.heap[kb]? = some (.cells #[.slice (some ⟨g, 0, none⟩) D.length cap] 75 (0, 0))) := hb
 have HOW : Hid (w1.ownsRow 0 4 1 (.slice (some ⟨g, 0, none⟩) D.length cap) D.length (D.map mk)) := ho
 have HL : Hid (D.length ≤ 1000000) := hl
 have hp0 : ((D.length : Int) == 0) = false := beq_eq_false_iff_ne.2 (by omega)
 clear hb ho hl hpos
 unfold mk at hs ⊢
 unfold pt
 rcases hs with ⟨rfl, hs⟩ | ⟨wa, hs, hra, ca, fa, hw1, cw⟩
 ·
  go_enter Tryz.func42, Tryz.ntmps42
  go_wp2_with fail
  go_loopg [6] D.length (fun gk s6 wx => ∃ j : Nat, j + gk = D.length ∧ s6 = .int .i64 j ∧ Hid (∀ q, q < j → D[q]? ≠ some k) ∧ Hid (wx = w1))
  case atStart => exact ⟨0, by omega, rfl, fun q hq => absurd hq (Nat.not_lt_zero _), rfl⟩
  case round =>
   obtain ⟨j, hj, rfl, HQ, HX⟩ := hrel
   obtain rfl : wr = w1 := HX.out
   clear HX
   have e0 : wr.cell? ⟨kb, 0, none⟩ = some (.slice (some ⟨g, 0, none⟩) D.length cap) := box_cells HB.out 0 _ rfl
   cases gk with
   | zero =>
    obtain rfl : j = D.length := by omega
    have hz : ¬ (D.length : Int) < (D.length : Int) := by omega
    have hnk : k ∉ D := fun q => by
     obtain ⟨a, ha, he⟩ := List.mem_iff_getElem.1 q
     exact HQ.out a ha (by rw [List.getElem?_eq_getElem ha, he])
    have HNK : Hid (k ∉ D) := hnk
    obtain ⟨g2, cap2, w2, hrun, ho2, hc2, hg2⟩ := app_one HOW.out k HL.out
    have hm := CD.more HB.out HOW.out ho2 hc2
    have e2 : w2.cell? ⟨kb, 0, none⟩ = some (.slice (some ⟨g, 0, none⟩) D.length cap) := box_cells hm.1 0 _ rfl
    have f2 : w2.frozen? ⟨kb, 0, none⟩ = false := box_frozen hm.1 0
    have HRN : Hid ((Builtin.append_ #[73, 73] 73 #[.slice (some ⟨g, 0, none⟩) D.length cap, .slice (some ⟨wr.heap.size, 0, none⟩) 1 1]).run Tryz.prog (wr.alloc (.cells #[.bool k] 4)) = .ok (.slice (some ⟨g2, 0, none⟩) (D.length + 1) cap2) w2) := hrun
    have Z2 : Hid (w2.ownsRow 0 4 1 (.slice (some ⟨g2, 0, none⟩) (D.length + 1) cap2) (D ++ [k]).length ((D ++ [k]).map mk) ∧ Ch (fun j => j = g) wr w2 ∧ (g = g2 ∨ wr.heap.size ≤ g2)) := ⟨ho2, hc2.mono (fun j _ q => by simpa [Value.ownBlock] using q.symm), by simpa [Value.ownBlock] using hg2⟩
    have ha : (wr.alloc (.cells #[.bool k] 4)).cell? ⟨kb, 0, none⟩ = some (.slice (some ⟨g, 0, none⟩) D.length cap) := by rw [World.cell?_alloc_lt]; exact e0; exact (Array.getElem?_eq_some_iff.1 HB.out).1
    have hws : IntKind.i64.wrap (((D.length + 1 : Nat) : Int) - 1) = (D.length : Int) := by rw [IntKind.wrap_i64]; have := HL.out; omega
    have hws' : IntKind.i64.wrap ((D.length : Int) + 1 - 1) = (D.length : Int) := by rw [IntKind.wrap_i64]; have := HL.out; omega
    have hws2 : (D.length : Int) + 1 - 1 = (D.length : Int) := by omega
    have hws3 : wrap64 (D.length : Int) = (D.length : Int) := by unfold wrap64; have := HL.out; omega
    clear hrun ho2 hc2 hg2 hm hnk
    go_wp2_with (at_builtin; refine Lib.wpList_append_run _ rfl (.tmp 46) (.tmp 48) 73 73 rfl _ _ rfl rfl _ w2 HRN.out ?_)
    (try go_ret)
    first | exact HR2.out HNK.out g2 cap2 w2 Z2.out.1 Z2.out.2.1 Z2.out.2.2 | (simp only [hws3]; exact HR2.out HNK.out g2 cap2 w2 Z2.out.1 Z2.out.2.1 Z2.out.2.2)
   | succ gk =>
    have hz : (j : Int) < (D.length : Int) := by omega
    have hz0 : (0 : Int) ≤ (j : Int) := by omega
    have hjl : j < D.length := by omega
    have hwj : IntKind.i64.wrap ((j : Int) + 1) = (j : Int) + 1 := by rw [IntKind.wrap_i64]; have := HL.out; omega
    obtain ⟨x, hx⟩ : ∃ x, D[j]? = some x := ⟨_, List.getElem?_eq_getElem hjl⟩
    have hadd : (⟨g, 0, none⟩ : Addr).add j = ⟨g, j, none⟩ := by unfold Addr.add; split <;> simp_all
    have cx := HOW.out.cells (g := g) rfl j (mk x) (by simp [hx])
    rw [hadd] at cx
    have HXX : Hid (D[j]? = some x) := hx
    unfold mk at cx
    clear hx hadd
    by_cases hxk : x = k
    ·
     subst hxk
     go_wp2_with fail
     (try go_ret)
     exact HR1.out j HXX.out HQ.out
    ·
     have n1 : (x == k) = false := by simpa using hxk
     have HNE : Hid (¬ x = k) := hxk
     clear hxk
     go_wp2_with fail
     go_roundg gk
     case measure => omega
     case rel => exact ⟨j + 1, by omega, by first | rfl | simp, fun q hq => by
      by_cases e : q = j
      ·
       rw [e, HXX.out]
       exact fun r => HNE.out (Option.some.inj r)
      ·
       exact HQ.out q (by omega), rfl⟩
 ·
  have HRA : Hid ((Builtin.append_ #[73, 73] 73 #[.slice none 0 0, .slice (some ⟨w.heap.size, 0, none⟩) 1 1]).run Tryz.prog (w.alloc (.cells #[.bool false] 4)) = .ok (.slice (some ⟨g, 0, none⟩) D.length cap) wa) := hra
  have HW1 : Hid (w1 = wa.setCell ⟨kb, 0, none⟩ (.slice (some ⟨g, 0, none⟩) D.length cap)) := hw1
  clear hra hw1
  go_enter Tryz.func42, Tryz.ntmps42
  go_wp2_with (at_builtin; refine Lib.wpList_append_run _ rfl (.tmp 17) (.tmp 19) 73 73 rfl _ _ rfl rfl _ wa HRA.out ?_)
  rw [← HW1.out]
  clear HW1
  go_loopg [6] D.length (fun gk s6 wx => ∃ j : Nat, j + gk = D.length ∧ s6 = .int .i64 j ∧ Hid (∀ q, q < j → D[q]? ≠ some k) ∧ Hid (wx = w1))
  case atStart => exact ⟨0, by omega, rfl, fun q hq => absurd hq (Nat.not_lt_zero _), rfl⟩
  case round =>
   obtain ⟨j, hj, rfl, HQ, HX⟩ := hrel
   obtain rfl : wr = w1 := HX.out
   clear HX
   have e0 : wr.cell? ⟨kb, 0, none⟩ = some (.slice (some ⟨g, 0, none⟩) D.length cap) := box_cells HB.out 0 _ rfl
   cases gk with
   | zero =>
    obtain rfl : j = D.length := by omega
    have hz : ¬ (D.length : Int) < (D.length : Int) := by omega
    have hnk : k ∉ D := fun q => by
     obtain ⟨a, ha, he⟩ := List.mem_iff_getElem.1 q
     exact HQ.out a ha (by rw [List.getElem?_eq_getElem ha, he])
    have HNK : Hid (k ∉ D) := hnk
    obtain ⟨g2, cap2, w2, hrun, ho2, hc2, hg2⟩ := app_one HOW.out k HL.out
    have hm := CD.more HB.out HOW.out ho2 hc2
    have e2 : w2.cell? ⟨kb, 0, none⟩ = some (.slice (some ⟨g, 0, none⟩) D.length cap) := box_cells hm.1 0 _ rfl
    have f2 : w2.frozen? ⟨kb, 0, none⟩ = false := box_frozen hm.1 0
    have HRN : Hid ((Builtin.append_ #[73, 73] 73 #[.slice (some ⟨g, 0, none⟩) D.length cap, .slice (some ⟨wr.heap.size, 0, none⟩) 1 1]).run Tryz.prog (wr.alloc (.cells #[.bool k] 4)) = .ok (.slice (some ⟨g2, 0, none⟩) (D.length + 1) cap2) w2) := hrun
    have Z2 : Hid (w2.ownsRow 0 4 1 (.slice (some ⟨g2, 0, none⟩) (D.length + 1) cap2) (D ++ [k]).length ((D ++ [k]).map mk) ∧ Ch (fun j => j = g) wr w2 ∧ (g = g2 ∨ wr.heap.size ≤ g2)) := ⟨ho2, hc2.mono (fun j _ q => by simpa [Value.ownBlock] using q.symm), by simpa [Value.ownBlock] using hg2⟩
    have ha : (wr.alloc (.cells #[.bool k] 4)).cell? ⟨kb, 0, none⟩ = some (.slice (some ⟨g, 0, none⟩) D.length cap) := by rw [World.cell?_alloc_lt]; exact e0; exact (Array.getElem?_eq_some_iff.1 HB.out).1
    have hws : IntKind.i64.wrap (((D.length + 1 : Nat) : Int) - 1) = (D.length : Int) := by rw [IntKind.wrap_i64]; have := HL.out; omega
    have hws' : IntKind.i64.wrap ((D.length : Int) + 1 - 1) = (D.length : Int) := by rw [IntKind.wrap_i64]; have := HL.out; omega
    have hws2 : (D.length : Int) + 1 - 1 = (D.length : Int) := by omega
    have hws3 : wrap64 (D.length : Int) = (D.length : Int) := by unfold wrap64; have := HL.out; omega
    clear hrun ho2 hc2 hg2 hm hnk
    go_wp2_with (at_builtin; refine Lib.wpList_append_run _ rfl (.tmp 46) (.tmp 48) 73 73 rfl _ _ rfl rfl _ w2 HRN.out ?_)
    (try go_ret)
    first | exact HR2.out HNK.out g2 cap2 w2 Z2.out.1 Z2.out.2.1 Z2.out.2.2 | (simp only [hws3]; exact HR2.out HNK.out g2 cap2 w2 Z2.out.1 Z2.out.2.1 Z2.out.2.2)
   | succ gk =>
    have hz : (j : Int) < (D.length : Int) := by omega
    have hz0 : (0 : Int) ≤ (j : Int) := by omega
    have hjl : j < D.length := by omega
    have hwj : IntKind.i64.wrap ((j : Int) + 1) = (j : Int) + 1 := by rw [IntKind.wrap_i64]; have := HL.out; omega
    obtain ⟨x, hx⟩ : ∃ x, D[j]? = some x := ⟨_, List.getElem?_eq_getElem hjl⟩
    have hadd : (⟨g, 0, none⟩ : Addr).add j = ⟨g, j, none⟩ := by unfold Addr.add; split <;> simp_all
    have cx := HOW.out.cells (g := g) rfl j (mk x) (by simp [hx])
    rw [hadd] at cx
    have HXX : Hid (D[j]? = some x) := hx
    unfold mk at cx
    clear hx hadd
    by_cases hxk : x = k
    ·
     subst hxk
     go_wp2_with fail
     (try go_ret)
     exact HR1.out j HXX.out HQ.out
    ·
     have n1 : (x == k) = false := by simpa using hxk
     have HNE : Hid (¬ x = k) := hxk
     clear hxk
     go_wp2_with fail
     go_roundg gk
     case measure => omega
     case rel => exact ⟨j + 1, by omega, by first | rfl | simp, fun q hq => by
      by_cases e : q = j
      ·
       rw [e, HXX.out]
       exact fun r => HNE.out (Option.some.inj r)
      ·
       exact HQ.out q (by omega), rfl⟩
theorem of_any {w : World} {kb : Nat} {C : List Kt} {G : Nat → Prop} (h : CD w kb C G) (k : Kt) (hl : C.length ≤ 900000) : Calls Tryz.prog 42 #[pt kb, mk k] w fun r w' => r = .returned (.int .i64 (ix k (ext false C k))) ∧ (∃ G', CD w' kb (ext false C k) G' ∧ ∀ j, G' j → G j ∨ w.heap.size ≤ j) ∧ Ch G w w' := by
 obtain ⟨v, hb, ho, hG, hnil⟩ := h
 have hkb := (Array.getElem?_eq_some_iff.1 hb).1
 cases C with
 | nil =>
  obtain rfl := hnil rfl
  ·
   obtain ⟨g, cap, wa, hrun, ho2, hc2, hg2⟩ := app_one (C := []) ho false (by simp)
   obtain ⟨hba, v1, hb1, ho1, hG1, hnl1⟩ := CD.more hb ho ho2 hc2
   have hgn : w.heap.size ≤ g := hg2.resolve_left (by simp [Value.ownBlock])
   have hc1 : Ch G w (wa.setCell ⟨kb, 0, none⟩ (.slice (some ⟨g, 0, none⟩) 1 cap)) := (hc2.mono (fun j _ q => (hG j).2 (.inr q))).then ((ch_set kb 0 _).mono (fun j _ q => (hG j).2 (.inl q)))
   have hb1' : (wa.setCell ⟨kb, 0, none⟩ (.slice (some ⟨g, 0, none⟩) 1 cap)).heap[kb]? = some (.cells #[.slice (some ⟨g, 0, none⟩) 1 cap] 75 (0, 0)) := by
    rw [heap_set hba]
    simp
   obtain rfl : v1 = .slice (some ⟨g, 0, none⟩) 1 cap := by
    have := hb1.symm.trans hb1'
    simpa using this
   refine of_walk (D := [false]) (v0 := .slice none 0 0) (w := w) _ hb1' ho1 (by simp) (by simp) (.inr ⟨wa, box_cells hb 0 _ rfl, hrun, box_cells hba 0 _ rfl, box_frozen hba 0, rfl, ?_⟩) _ (fun j h1 h2 => ?_) (fun hn g' cap' w2 h1 h2 h3 => ?_)
   ·
    rw [World.cell?_alloc_lt]
    ·
     exact box_cells hb 0 _ rfl
    ·
     exact hkb
   ·
    have hk : k ∈ [false] := List.mem_of_getElem? h1
    have he : ext false [] k = [false] := ext_in rfl hk
    rw [he, ix_first h1 h2]
    exact ⟨rfl, ⟨_, ⟨_, hb1', ho1, hG1, fun q => absurd q (by simp)⟩, fun j q => by
     rcases q with q | q
     ·
      exact .inl ((hG j).2 (.inl q))
     ·
      exact .inr (q ▸ hgn)⟩, hc1⟩
   ·
    have he : ext false [] k = [false] ++ [k] := ext_out rfl hn
    rw [he, ix_new hn]
    have hm := CD.more (w' := w2) hb1' ho1 h1 (h2.mono (fun j _ q => by rw [q]; rfl))
    have hs1 := hc1.size
    refine ⟨rfl, ⟨_, hm.2, fun j q => ?_⟩, ?_⟩
    ·
     rcases q with q | q
     ·
      exact .inl ((hG j).2 (.inl q))
     ·
      rcases h3 with r | r
      ·
       exact .inr (by omega)
      ·
       exact .inr (by omega)
    ·
     refine (hc1.trans h2 (fun j hj q => ?_)).then ((ch_set kb 0 _).mono (fun j _ q => (hG j).2 (.inl q)))
     omega
 | cons x t =>
  rcases ho.2 with ⟨_, q⟩ | ⟨g, cap, cur, rfl, _⟩
  ·
   simp at q
  ·
   refine of_walk (D := x :: t) (v0 := .slice none 0 0) (w := w) w hb ho (by omega) (by simp) (.inl ⟨rfl, box_cells hb 0 _ rfl⟩) _ (fun j h1 h2 => ?_) (fun hn g' cap' w2 h1 h2 h3 => ?_)
   ·
    have hk : k ∈ x :: t := List.mem_of_getElem? h1
    have he : ext false (x :: t) k = x :: t := ext_in rfl hk
    rw [he, ix_first h1 h2]
    exact ⟨rfl, ⟨G, ⟨_, hb, ho, hG, hnil⟩, fun j q => .inl q⟩, Ch.refl _ _⟩
   ·
    have he : ext false (x :: t) k = (x :: t) ++ [k] := ext_out rfl hn
    rw [he, ix_new hn]
    have hgG : G g := (hG g).2 (.inr rfl)
    have hm := CD.more (w' := w2) hb ho h1 (h2.mono (fun j _ q => by rw [q]; rfl))
    refine ⟨rfl, ⟨_, hm.2, fun j q => ?_⟩, ?_⟩
    ·
     rcases q with q | q
     ·
      exact .inl ((hG j).2 (.inl q))
     ·
      rcases h3 with r | r
      ·
       exact .inl (by rw [q, ← r]; exact hgG)
      ·
       exact .inr (by omega)
    ·
     exact (h2.mono (fun j _ q => q ▸ hgG)).then ((ch_set kb 0 _).mono (fun j _ q => (hG j).2 (.inl q)))
theorem of_known {w : World} {kb : Nat} {C : List Kt} {G : Nat → Prop} (h : CD w kb C G) {k : Kt} (hk : k ∈ C) (hl : C.length ≤ 900000) : Calls Tryz.prog 42 #[pt kb, mk k] w fun r w' => r = .returned (.int .i64 (ix k C)) ∧ w' = w := by
 obtain ⟨v, hb, ho, hG, hnil⟩ := h
 rcases ho.2 with ⟨_, q⟩ | ⟨g, cap, cur, rfl, _⟩
 ·
  rw [List.length_eq_zero_iff.1 q] at hk
  cases hk
 ·
  refine of_walk (D := C) (v0 := .slice none 0 0) (w := w) w hb ho (by omega) (List.length_pos_of_mem hk) (.inl ⟨rfl, box_cells hb 0 _ rfl⟩) _ (fun j h1 h2 => ?_) (fun hn => absurd hk hn)
  rw [ix_first h1 h2]
  exact ⟨rfl, rfl⟩
end Go.Proofs.YtdhinpmjbcohaaaGreat.Qo
namespace Go.Proofs.YtdhinpmjbcohaaaGreat.Kc
open Go Go.RowKit
set_option linter.unusedSimpArgs false
set_option linter.unusedVariables false
set_option maxRecDepth 100000
set_option maxHeartbeats 4000000
abbrev Ky := Int × Int
abbrev Vt := Bool
def kc (k : Ky) : Value := .agg #[.int .u8 k.1, .int .u8 k.2]
def vc (v : Vt) : Value := .bool v
def ec (n o : Nat) (k : Ky) (v : Vt) : Array Value := #[pt n, pt o, .int .u8 k.1, .int .u8 k.2, vc v]
def EB (w : World) (S : Nat → Prop) (n o : Nat → Nat) (ky : Nat → Ky) (vl : Nat → Vt) : Prop := ∀ b, S b → w.heap[b]? = some (.cells (ec (n b) (o b) (ky b) (vl b)) 167 (0, 0))
theorem EB.setO {w : World} {S : Nat → Prop} {n o : Nat → Nat} {ky : Nat → Ky} {vl : Nat → Vt} (h : EB w S n o ky vl) {p : Nat} (hp : S p) (q : Nat) : EB (w.setCell ⟨p, 1, none⟩ (pt q)) S n (upd o p q) ky vl := by
 intro b hb
 by_cases e : b = p
 ·
  subst e
  rw [heap_set (h b hb), upd_same]
  simp [ec]
 ·
  rw [heap_set_ne _ e, upd_ne _ _ e]
  exact h b hb
theorem EB.setN {w : World} {S : Nat → Prop} {n o : Nat → Nat} {ky : Nat → Ky} {vl : Nat → Vt} (h : EB w S n o ky vl) {p : Nat} (hp : S p) (q : Nat) : EB (w.setCell ⟨p, 0, none⟩ (pt q)) S (upd n p q) o ky vl := by
 intro b hb
 by_cases e : b = p
 ·
  subst e
  rw [heap_set (h b hb), upd_same]
  simp [ec]
 ·
  rw [heap_set_ne _ e, upd_ne _ _ e]
  exact h b hb
theorem EB.setV {w : World} {S : Nat → Prop} {n o : Nat → Nat} {ky : Nat → Ky} {vl : Nat → Vt} (h : EB w S n o ky vl) {p : Nat} (hp : S p) (v : Vt) : EB (w.setCell ⟨p, 4, none⟩ (vc v)) S n o ky (upd vl p v) := by
 intro b hb
 by_cases e : b = p
 ·
  subst e
  rw [heap_set (h b hb), upd_same]
  simp [ec]
 ·
  rw [heap_set_ne _ e, upd_ne _ _ e]
  exact h b hb
theorem EB.drewN {w : World} {S : Nat → Prop} {n o : Nat → Nat} {ky : Nat → Ky} {vl : Nat → Vt} (h : EB w S n o ky vl) (k : Nat) : EB (w.drewN k) S n o ky vl := fun b hb => by
 have := h b hb
 simpa using this

theorem EB.drew {w : World} {S : Nat → Prop} {n o : Nat → Nat} {ky : Nat → Ky} {vl : Nat → Vt} (h : EB w S n o ky vl) : EB w.drew S n o ky vl := h
theorem EB.sub {w : World} {S S' : Nat → Prop} {n o : Nat → Nat} {ky : Nat → Ky} {vl : Nat → Vt} (h : EB w S n o ky vl) (hs : ∀ b, S' b → S b) : EB w S' n o ky vl := fun b hb => h b (hs b hb)
theorem EB.keep {w w' : World} {S : Nat → Prop} {n o : Nat → Nat} {ky : Nat → Ky} {vl : Nat → Vt} (h : EB w S n o ky vl) (hs : ∀ b, S b → w'.heap[b]? = w.heap[b]?) : EB w' S n o ky vl := fun b hb => (hs b hb).trans (h b hb)

theorem unhang_run {p q e : Nat} {xp xq : Value} (w : World) (c0 : w.cell? ⟨e, 0, none⟩ = some (pt p)) (c1 : w.cell? ⟨e, 1, none⟩ = some (pt q)) (cp : w.cell? ⟨p, 1, none⟩ = some xp) (cq : w.cell? ⟨q, 0, none⟩ = some xq) (fp : w.frozen? ⟨p, 1, none⟩ = false) (fq : w.frozen? ⟨q, 0, none⟩ = false) : Calls Tryz.prog 99 #[pt e] w fun r w' => r = .returned (.tuple #[]) ∧ w' = ((w.setCell ⟨p, 1, none⟩ (pt q)).setCell ⟨q, 0, none⟩ (pt p)).drew := by
 unfold pt at *
 go_enter Tryz.func99, Tryz.ntmps99
 go_wp2_with fail
 go_region
 all_goals go_wp2_with fail
 all_goals first | go_end0 | refine bodyPost_ret (results_none rfl _ _ _) rfl ?_
 all_goals exact ⟨rfl, rfl⟩
theorem hang_run {p x e : Nat} {x0 x1 x3 : Value} (w : World) (c0 : w.cell? ⟨e, 0, none⟩ = some x0) (c1 : w.cell? ⟨e, 1, none⟩ = some x1) (cx : w.cell? ⟨x, 0, none⟩ = some (pt p)) (cp : w.cell? ⟨p, 1, none⟩ = some x3) (f0 : w.frozen? ⟨e, 0, none⟩ = false) (f1 : w.frozen? ⟨e, 1, none⟩ = false) (fx : w.frozen? ⟨x, 0, none⟩ = false) (fp : w.frozen? ⟨p, 1, none⟩ = false) (hxe : x ≠ e) (hpe : p ≠ e) : Calls Tryz.prog 100 #[pt e, pt x] w fun r w' => r = .returned (.tuple #[]) ∧ w' = ((((w.setCell ⟨e, 1, none⟩ (pt x)).setCell ⟨e, 0, none⟩ (pt p)).setCell ⟨x, 0, none⟩ (pt e)).setCell ⟨p, 1, none⟩ (pt e)).drew := by
 unfold pt at *
 have hex : e ≠ x := hxe.symm
 have hep : e ≠ p := hpe.symm
 go_enter Tryz.func100, Tryz.ntmps100
 go_wp2_with fail
 go_region
 all_goals go_wp2_with fail
 all_goals first | go_end0 | refine bodyPost_ret (results_none rfl _ _ _) rfl ?_
 all_goals exact ⟨rfl, rfl⟩
theorem hang_nil {e : Nat} {x0 x1 : Value} (w : World) (c0 : w.cell? ⟨e, 0, none⟩ = some x0) (c1 : w.cell? ⟨e, 1, none⟩ = some x1) (f0 : w.frozen? ⟨e, 0, none⟩ = false) (f1 : w.frozen? ⟨e, 1, none⟩ = false) : Calls Tryz.prog 100 #[pt e, .pointer none] w fun r w' => r = .returned (.tuple #[]) ∧ w' = ((w.setCell ⟨e, 0, none⟩ (pt e)).setCell ⟨e, 1, none⟩ (pt e)) := by
 unfold pt at *
 go_enter Tryz.func100, Tryz.ntmps100
 go_wp2_with fail
 all_goals first | go_end0 | refine bodyPost_ret (results_none rfl _ _ _) rfl ?_
 all_goals exact ⟨rfl, rfl⟩

theorem unhang_any {w : World} {S : Nat → Prop} {n o : Nat → Nat} {ky : Nat → Ky} {vl : Nat → Vt} {e : Nat} (h : EB w S n o ky vl) (he : S e) (hn : S (n e)) (ho : S (o e)) : Calls Tryz.prog 99 #[pt e] w fun r w' => r = .returned (.tuple #[]) ∧ EB w' S (upd n (o e) (n e)) (upd o (n e) (o e)) ky vl ∧ Ch S w w' := by
 refine (unhang_run w (box_cells (h e he) 0 _ rfl) (box_cells (h e he) 1 _ rfl) (box_cells (h _ hn) 1 _ rfl) (box_cells (h _ ho) 0 _ rfl) (box_frozen (h _ hn) 1) (box_frozen (h _ ho) 0)).mono ?_
 rintro r w' ⟨rfl, rfl⟩
 refine ⟨rfl, ((h.setO hn (o e)).setN ho (n e)).drew, ?_⟩
 exact (((ch_set _ _ _).mono (fun j _ q => by subst q; exact hn)).trans ((ch_set _ _ _).mono (S' := S) (fun j _ q => by subst q; exact ho)) (fun j _ q => q)).trans (ch_drew S _) (fun j _ q => q)
def EC (w : World) (e : Nat) (k : Ky) (v : Vt) : Prop := ∃ a0 a1, w.heap[e]? = some (.cells #[a0, a1, .int .u8 k.1, .int .u8 k.2, vc v] 167 (0, 0))
theorem EC.links {w : World} {e : Nat} {k : Ky} {v : Vt} (h : EC w e k v) (n o : Nat) : EB ((w.setCell ⟨e, 1, none⟩ (pt o)).setCell ⟨e, 0, none⟩ (pt n)) (fun b => b = e) (fun _ => n) (fun _ => o) (fun _ => k) (fun _ => v) := by
 obtain ⟨a0, a1, h⟩ := h
 intro b hb
 subst hb
 rw [heap_set (heap_set h _)]
 simp [ec]
theorem hang_any {w : World} {S : Nat → Prop} {n o : Nat → Nat} {ky : Nat → Ky} {vl : Nat → Vt} {e x : Nat} {k : Ky} {v : Vt} (h : EB w S n o ky vl) (hx : S x) (hn : S (n x)) (he : ¬ S e) (hE : EC w e k v) : Calls Tryz.prog 100 #[pt e, pt x] w fun r w' => r = .returned (.tuple #[]) ∧ EB w' (fun b => S b ∨ b = e) (upd (upd n e (n x)) x e) (upd (upd o e x) (n x) e) (upd ky e k) (upd vl e v) ∧ Ch (fun b => S b ∨ b = e) w w' := by
 obtain ⟨a0, a1, hE0⟩ := id hE
 have hxe : x ≠ e := fun q => he (q ▸ hx)
 have hpe : n x ≠ e := fun q => he (q ▸ hn)
 refine (hang_run w (box_cells hE0 0 _ rfl) (box_cells hE0 1 _ rfl) (box_cells (h _ hx) 0 _ rfl) (box_cells (h _ hn) 1 _ rfl) (box_frozen hE0 0) (box_frozen hE0 1) (box_frozen (h _ hx) 0) (box_frozen (h _ hn) 1) hxe hpe).mono ?_
 rintro r w' ⟨rfl, rfl⟩
 have h1 : EB ((w.setCell ⟨e, 1, none⟩ (pt x)).setCell ⟨e, 0, none⟩ (pt (n x))) (fun b => S b ∨ b = e) (upd n e (n x)) (upd o e x) (upd ky e k) (upd vl e v) := by
  intro b hb
  by_cases q : b = e
  ·
   subst q
   simp only [upd_same]
   exact hE.links (n x) x b rfl
  ·
   have hb' : S b := hb.resolve_right q
   rw [heap_set_ne _ q, heap_set_ne _ q]
   simp only [upd_ne _ _ q]
   exact h b hb'
 refine ⟨rfl, ((h1.setN (.inl hx) e).setO (.inl hn) e).drew, ?_⟩
 have k1 : ∀ (w1 : World) (i j : Nat) (u : Value), (S i ∨ i = e) → Ch (fun b => S b ∨ b = e) w1 (w1.setCell ⟨i, j, none⟩ u) := fun w1 i j u hi => (ch_set _ _ _).mono (fun j _ q => by subst q; exact hi)
 exact (((((k1 _ _ _ _ (.inr rfl)).trans (k1 _ _ _ _ (.inr rfl)) (fun j _ q => q)).trans (k1 _ _ _ _ (.inl hx)) (fun j _ q => q)).trans (k1 _ _ _ _ (.inl hn)) (fun j _ q => q)).trans (ch_drew _ _) (fun j _ q => q))
theorem hang_first {w : World} {e : Nat} {k : Ky} {v : Vt} (n o : Nat → Nat) (ky : Nat → Ky) (vl : Nat → Vt) (hE : EC w e k v) : Calls Tryz.prog 100 #[pt e, .pointer none] w fun r w' => r = .returned (.tuple #[]) ∧ EB w' (fun b => b = e) (upd n e e) (upd o e e) (upd ky e k) (upd vl e v) ∧ Ch (fun b => b = e) w w' := by
 obtain ⟨a0, a1, hE0⟩ := id hE
 refine (hang_nil w (box_cells hE0 0 _ rfl) (box_cells hE0 1 _ rfl) (box_frozen hE0 0) (box_frozen hE0 1)).mono ?_
 rintro r w' ⟨rfl, rfl⟩
 refine ⟨rfl, fun b hb => ?_, ((ch_set _ _ _).trans (ch_set _ _ _) (fun j _ q => q))⟩
 subst hb
 rw [heap_set (heap_set hE0 _)]
 simp only [upd_same]
 simp [ec]

def okK (k : Ky) : Prop := (Lit.int .u8 k.1).wf = true ∧ (Lit.int .u8 k.2).wf = true
def kl (k : Ky) : Lit := .string (keyBytes [.int .u8 k.1, .int .u8 k.2])
theorem laidOut : laidOutB Tryz.prog = true := by kernel_rfl
theorem row43 : (43 : TypeId) < Tryz.prog.types.size := of_decide_eq_true (by kernel_rfl)
theorem wide43 : (match Tryz.prog.underlying 43 with | some (.array _ _) | some (.struct _) => true | _ => false) = true := by rw [Tryz.underlying43]
theorem law : Maps.Keyed Tryz.prog 43 := Maps.Keyed.of_law (deep_law_laid laidOut (m := 2) (by omega) row43 (by kernel_rfl) wide43)
theorem cells43 : Tryz.prog.cellsOf 43 = 2 := by kernel_rfl
theorem cells5 : Tryz.prog.cellsOf 5 = 1 := by kernel_rfl
theorem ktype43 : Tryz.prog.keyType 43 = true := by kernel_rfl
theorem keyOf_kc {k : Ky} (h : okK k) : keyOf Tryz.prog 43 (kc k) = some (kl k) := by
 obtain ⟨d, hd⟩ : ∃ d, Tryz.prog.types.size = d + 1 := ⟨Tryz.prog.types.size - 1, by have h43 : 43 < Tryz.prog.types.size := row43; omega⟩
 have hf : (kc k).formed Tryz.prog 43 = true := by simp [kc, Value.formed, Tryz.underlying43, cells43]
 have h1 : Tryz.prog.keyLits (d + 1 + 1) 43 [.int .u8 k.1, .int .u8 k.2] = some [.int .u8 k.1, .int .u8 k.2] := by
  simp [Program.keyLits, Tryz.underlying43, Tryz.underlying5, cells43, cells5, h.1, h.2, List.range, List.range.loop]
 unfold keyOf
 rw [Tryz.underlying43]
 simp only [ktype43, hf, Bool.and_self, if_true]
 rw [hd]
 show (Tryz.prog.keyLits (d + 1 + 1) 43 [.int .u8 k.1, .int .u8 k.2]).map _ = _
 rw [h1]
 rfl
theorem kl_inj {a b : Ky} (ha : okK a) (hb : okK b) (h : kl a = kl b) : a = b := by
 have h1 := keyOf_kc ha
 rw [h] at h1
 have := law.inj h1 (keyOf_kc hb)
 simp [kc] at this
 exact Prod.ext this.1 this.2
theorem zero_ptr (w : World) : (zeroValue 145).run Tryz.prog w = .ok (.pointer none) w := by kernel_rfl

def MapL (w : World) (mv : Value) (L : List Nat) (ky : Nat → Ky) : Prop :=
 (mv = .map none ∧ L = []) ∨ ∃ mb D, mv = .map (some mb) ∧ w.ownsMap Tryz.prog 43 hv mb L.length D ∧ Maps.size D = L.length ∧ (∀ b ∈ L, Maps.has D (kl (ky b)) = true ∧ ∀ z, D.atKey (kl (ky b)) z = .held (pt b)) ∧ (∀ k, okK k → (∀ b ∈ L, ky b ≠ k) → Maps.has D (kl k) = false)
theorem MapL.perm {w : World} {mv : Value} {L L' : List Nat} {ky : Nat → Ky} (h : MapL w mv L ky) (hp : L.Perm L') : MapL w mv L' ky := by
 rcases h with ⟨h1, rfl⟩ | ⟨mb, D, h1, h2, h3, h4, h5⟩
 ·
  exact .inl ⟨h1, by simpa using hp⟩
 ·
  refine .inr ⟨mb, D, h1, hp.length_eq ▸ h2, hp.length_eq ▸ h3, fun b hb => h4 b (hp.mem_iff.2 hb), fun k hk hn => h5 k hk (fun b hb => hn b (hp.mem_iff.1 hb))⟩
theorem MapL.congr {w : World} {mv : Value} {L : List Nat} {ky ky' : Nat → Ky} (h : MapL w mv L ky) (hk : ∀ b ∈ L, ky' b = ky b) : MapL w mv L ky' := by
 rcases h with h | ⟨mb, D, h1, h2, h3, h4, h5⟩
 ·
  exact .inl h
 ·
  exact .inr ⟨mb, D, h1, h2, h3, fun b hb => by rw [hk b hb]; exact h4 b hb, fun k ok hn => h5 k ok (fun b hb => by rw [← hk b hb]; exact hn b hb)⟩
theorem MapL.keep {w w' : World} {mv : Value} {L : List Nat} {ky : Nat → Ky} (h : MapL w mv L ky) (hs : ∀ b, mv = .map (some b) → w'.heap[b]? = w.heap[b]?) : MapL w' mv L ky := by
 rcases h with h | ⟨mb, D, h1, h2, h3, h4, h5⟩
 ·
  exact .inl h
 ·
  refine .inr ⟨mb, D, h1, ?_, h3, h4, h5⟩
  obtain ⟨es, clock, hb, F, hs', hD⟩ := h2
  exact ⟨es, clock, (hs mb h1).trans hb, F, hs', hD⟩
theorem MapL.block {w : World} {mv : Value} {L : List Nat} {ky : Nat → Ky} (h : MapL w mv L ky) {b : Nat} (hb : mv = .map (some b)) : ∃ es clock, w.heap[b]? = some (.map es clock) := by
 rcases h with ⟨h, _⟩ | ⟨mb, D, h1, ⟨es, clock, hm, _⟩, _⟩
 ·
  rw [h] at hb; cases hb
 ·
  rw [h1] at hb
  cases hb
  exact ⟨es, clock, hm⟩
theorem MapL.hit {w : World} {mv : Value} {L : List Nat} {ky : Nat → Ky} (h : MapL w mv L ky) {b : Nat} (hb : b ∈ L) (hk : okK (ky b)) : (Instr.lookup 146 mv (kc (ky b)) false).run Tryz.prog w = .ok (pt b) w := by
 rcases h with ⟨_, rfl⟩ | ⟨mb, D, rfl, h2, h3, h4, h5⟩
 ·
  cases hb
 ·
  obtain ⟨v, ps, hrun, hv'⟩ := h2.lookup law Tryz.underlying146 (zero_ptr w) (zd := .held (.pointer none)) (zp := []) rfl (keyOf_kc hk)
  rw [(h4 b hb).2] at hv'
  simp [hv] at hv'
  rw [hrun, hv'.1]
theorem MapL.miss {w : World} {mv : Value} {L : List Nat} {ky : Nat → Ky} (h : MapL w mv L ky) {k : Ky} (hk : okK k) (hn : ∀ b ∈ L, ky b ≠ k) : (Instr.lookup 146 mv (kc k) false).run Tryz.prog w = .ok (.pointer none) w := by
 rcases h with ⟨rfl, _⟩ | ⟨mb, D, rfl, h2, h3, h4, h5⟩
 ·
  exact Maps.look_nil false law Tryz.underlying146 (zero_ptr w) (keyOf_kc hk)
 ·
  obtain ⟨v, ps, hrun, hv'⟩ := h2.lookup law Tryz.underlying146 (zero_ptr w) (zd := .held (.pointer none)) (zp := []) rfl (keyOf_kc hk)
  rw [Maps.atKey_of_not_has (h5 k hk hn)] at hv'
  simp [hv] at hv'
  rw [hrun, hv'.1]
theorem MapL.len {w : World} {mv : Value} {L : List Nat} {ky : Nat → Ky} (h : MapL w mv L ky) (ty : TypeId) : (Builtin.len_ #[146] ty #[mv]).run Tryz.prog w = .ok (.int .i64 L.length) w := by
 rcases h with ⟨rfl, rfl⟩ | ⟨mb, D, rfl, h2, h3, h4, h5⟩
 ·
  exact Maps.len_nil Tryz.underlying146 ty
 ·
  rw [h2.len Tryz.underlying146 ty, h3]
theorem MapL.put {w : World} {mb : Nat} {L : List Nat} {ky : Nat → Ky} (h : MapL w (.map (some mb)) L ky) {k : Ky} {e : Nat} (hk : okK k) (hn : ∀ b ∈ L, ky b ≠ k) (he : e ∉ L) (hok : ∀ b ∈ L, okK (ky b)) (hl : L.length < maxLen) :
  ∃ w', (Instr.mapUpdate 146 (.map (some mb)) (kc k) (pt e)).run Tryz.prog w = .ok () w' ∧ MapL w' (.map (some mb)) (e :: L) (upd ky e k) ∧ w.mapTurned w' mb := by
 rcases h with ⟨h, _⟩ | ⟨mb', D, h1, h2, h3, h4, h5⟩
 ·
  cases h
 ·
  cases h1
  obtain ⟨w', hrun, ho, ht⟩ := h2.store law Tryz.underlying146 hl (keyOf_kc hk) (val := pt e) (d := .held (pt e)) (ps := []) rfl
  have hD := h2.tidy law
  have hne : ∀ b ∈ L, kl (ky b) ≠ kl k := fun b hb q => hn b hb (kl_inj (hok b hb) hk q)
  refine ⟨w', hrun, .inr ⟨mb, _, rfl, by simpa using ho, ?_, fun b hb => ?_, fun k' hk' hn' => ?_⟩, ht⟩
  ·
   rw [Maps.size_put hD, h5 k hk hn, h3]
   simp
  ·
   by_cases q : b = e
   ·
    subst q
    rw [upd_same]
    exact ⟨Maps.has_put_same hD.isMap (law.key (keyOf_kc hk)) _, fun z => Maps.atKey_put_same hD.isMap (law.key (keyOf_kc hk)) _ z⟩
   ·
    have hb' : b ∈ L := (List.mem_cons.1 hb).resolve_left q
    rw [upd_ne _ _ q]
    refine ⟨?_, fun z => ?_⟩
    ·
     rw [Maps.has_put_other (hne b hb')]
     exact (h4 b hb').1
    ·
     rw [Maps.atKey_put_other (hne b hb')]
     exact (h4 b hb').2 z
  ·
   have h1 := hn' e (by simp)
   rw [upd_same] at h1
   rw [Maps.has_put_other (fun q => h1 (kl_inj hk' hk q).symm)]
   refine h5 k' hk' (fun b hb => ?_)
   have := hn' b (by simp [hb])
   rwa [upd_ne _ _ (fun q => he (by rw [← q]; exact hb))] at this
theorem MapL.made (w : World) (ky : Nat → Ky) : MapL (w.alloc (.map #[] 0)) (.map (some w.heap.size)) [] ky :=
 .inr ⟨w.heap.size, .map [], rfl, World.ownsMap_made w Tryz.prog 43 hv, rfl, by simp, fun k _ _ => rfl⟩
theorem own_tight {w : World} {mb n : Nat} {D : DataW Value} (h : w.ownsMap Tryz.prog 43 hv mb n D) : w.ownsMap Tryz.prog 43 hv mb (Maps.size D) D := by
 obtain ⟨es, clock, hb, F, hs, rfl⟩ := h
 exact ⟨es, clock, hb, F, by simp [Maps.size, length_sorted], rfl⟩
theorem MapL.drop {w : World} {mv : Value} {A B : List Nat} {ky : Nat → Ky} {e : Nat} (h : MapL w mv (A ++ e :: B) ky) (hks : ∀ a ∈ A ++ e :: B, ∀ b ∈ A ++ e :: B, ky a = ky b → a = b) (hnd : (A ++ e :: B).Nodup) (hok : ∀ b ∈ A ++ e :: B, okK (ky b)) (ty : TypeId) :
  ∃ w' mb, mv = .map (some mb) ∧ (Builtin.delete_ #[146, 43] ty #[mv, kc (ky e)]).run Tryz.prog w = .ok (.tuple #[]) w' ∧ MapL w' mv (A ++ B) ky ∧ w.mapTurned w' mb := by
 have hm : e ∈ A ++ e :: B := by simp
 rcases h with ⟨_, h⟩ | ⟨mb, D, rfl, h2, h3, h4, h5⟩
 ·
  simp at h
 ·
  obtain ⟨w', hrun, ho, ht⟩ := h2.drop law Tryz.underlying146 (keyOf_kc (hok e hm)) ty
  have hD := h2.tidy law
  have hsub : ∀ b ∈ A ++ B, b ∈ A ++ e :: B := fun b hb => by
   rcases List.mem_append.1 hb with q | q <;> simp [q]
  have hnot : ∀ b ∈ A ++ B, b ≠ e := fun b hb q => by
   have := (List.nodup_cons.1 (List.perm_middle.nodup_iff.1 hnd)).1
   exact this (q ▸ hb)
  have hne : ∀ b ∈ A ++ B, kl (ky b) ≠ kl (ky e) := fun b hb q => hnot b hb (hks b (hsub b hb) e hm (kl_inj (hok b (hsub b hb)) (hok e hm) q))
  have hsz : Maps.size (D.del (kl (ky e))) = (A ++ B).length := by
   have := Maps.size_del (k := kl (ky e)) hD
   rw [(h4 e hm).1, h3] at this
   simp at this ⊢
   omega
  refine ⟨w', mb, rfl, hrun, .inr ⟨mb, _, rfl, hsz ▸ own_tight ho, hsz, fun b hb => ⟨?_, fun z => ?_⟩, fun k hk hn => ?_⟩, ht⟩
  ·
   rw [Maps.has_del_other (hne b hb)]
   exact (h4 b (hsub b hb)).1
  ·
   rw [Maps.atKey_del_other (hne b hb)]
   exact (h4 b (hsub b hb)).2 z
  ·
   by_cases q : kl k = kl (ky e)
   ·
    rw [q, Maps.has_del_same]
   ·
    rw [Maps.has_del_other q]
    refine h5 k hk (fun b hb r => ?_)
    have hb2 : b = e ∨ b ∈ A ++ B := by
     rcases List.mem_append.1 hb with u | u
     ·
      exact .inr (by simp [u])
     ·
      rcases List.mem_cons.1 u with u | u
      ·
       exact .inl u
      ·
       exact .inr (by simp [u])
    rcases hb2 with rfl | hb2
    ·
     exact q (by rw [r])
    ·
     exact hn b hb2 r
end Go.Proofs.YtdhinpmjbcohaaaGreat.Kc
