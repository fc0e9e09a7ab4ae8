import Derived.Test.YtdhinpmjbcohaaaGreatKaG
import Derived.Test.YtdhinpmjbcohaaaGreatQkR
import Derived.Test.YtdhinpmjbcohaaaGreatPa
import Derived.Laws.Tables
import Derived.Deep.LoopGhost
import Derived.Lib.AppendZeros
import Derived.Maps.AppendAt
namespace Go.Proofs.YtdhinpmjbcohaaaGreat.Ja
open Go Go.RowKit
open Qk (step_append_runk cell_ltk)
set_option linter.unusedSimpArgs false
set_option linter.unusedVariables false
abbrev zgv0 : Oper := { dst := some 11, op := Go.Op.load 90 (Go.Operand.tmp 4), type := 90, pos := "exact.go:74", after := #[], guard := none }
abbrev zgv1 : Oper := { dst := some 12, op := Go.Op.fieldAddr 28 (Go.Operand.tmp 5) 2, type := 0, pos := "exact.go:74", after := #[], guard := none }
abbrev zgv2 : Oper := { dst := some 13, op := Go.Op.load 25 (Go.Operand.tmp 12), type := 25, pos := "exact.go:74", after := #[{ on := 1, ground := Go.Ground.data }], guard := none }
abbrev zgv3 : Oper := { dst := some 14, op := Go.Op.load 31 (Go.Operand.tmp 7), type := 31, pos := "exact.go:74", after := #[], guard := none }
abbrev zgv4 : Oper := { dst := some 16, op := Go.Op.fieldAddr 28 (Go.Operand.tmp 5) 3, type := 0, pos := "exact.go:74", after := #[], guard := none }
abbrev zgv5 : Oper := { dst := some 17, op := Go.Op.load 26 (Go.Operand.tmp 16), type := 26, pos := "exact.go:74", after := #[{ on := 5, ground := Go.Ground.data }], guard := none }
abbrev zgv6 : Oper := { dst := some 18, op := Go.Op.move (Go.Operand.tmp 1), type := 9, pos := "exact.go:74", after := #[], guard := none }
abbrev zgv7 : Oper := { dst := some 15, op := Go.Op.call { callee := Go.Callee.value (Go.Operand.func 21), args := #[Go.Operand.tmp 13, Go.Operand.tmp 14], argTypes := #[25, 31] }, type := 3, pos := "exact.go:74", after := #[{ on := 2, ground := Go.Ground.data }, { on := 3, ground := Go.Ground.data }], guard := none }
abbrev zgv8 : Oper := { dst := some 19, op := Go.Op.call { callee := Go.Callee.value (Go.Operand.func 22), args := #[Go.Operand.tmp 17, Go.Operand.tmp 18], argTypes := #[26, 9] }, type := 3, pos := "exact.go:74", after := #[{ on := 6, ground := Go.Ground.data }, { on := 7, ground := Go.Ground.data }, { on := 4, ground := Go.Ground.chain }], guard := none }
abbrev zgv9 : Oper := { dst := some 20, op := Go.Op.build 120 #[(0, Go.Operand.tmp 15), (1, Go.Operand.tmp 19)], type := 120, pos := "exact.go:74", after := #[{ on := 4, ground := Go.Ground.data }, { on := 8, ground := Go.Ground.data }], guard := none }
abbrev zgv10 : Oper := { dst := some 21, op := Go.Op.buildSlice 90 1 #[(0, Go.Operand.tmp 20)], type := 90, pos := "exact.go:74", after := #[{ on := 9, ground := Go.Ground.data }], guard := none }
abbrev zgv11 : Oper := { dst := some 22, op := Go.Op.call { callee := Go.Callee.builtin Go.Builtin.append, args := #[Go.Operand.tmp 11, Go.Operand.tmp 21], argTypes := #[90, 90] }, type := 90, pos := "exact.go:74", after := #[{ on := 0, ground := Go.Ground.data }, { on := 10, ground := Go.Ground.data }, { on := 8, ground := Go.Ground.chain }], guard := none }
abbrev zgv12 : Oper := { dst := none, op := Go.Op.store 90 (Go.Operand.tmp 4) (Go.Operand.tmp 22), type := 0, pos := "exact.go:74", after := #[{ on := 11, ground := Go.Ground.data }, { on := 11, ground := Go.Ground.chain }, { on := 0, ground := Go.Ground.phase }, { on := 1, ground := Go.Ground.phase }, { on := 2, ground := Go.Ground.phase }, { on := 3, ground := Go.Ground.phase }, { on := 4, ground := Go.Ground.phase }, { on := 5, ground := Go.Ground.phase }, { on := 6, ground := Go.Ground.phase }, { on := 7, ground := Go.Ground.phase }, { on := 8, ground := Go.Ground.phase }, { on := 9, ground := Go.Ground.phase }, { on := 10, ground := Go.Ground.phase }, { on := 11, ground := Go.Ground.phase }], guard := none }
set_option maxRecDepth 100000
set_option maxHeartbeats 4000000
theorem hidc {p : Prop} (h : p) : Hid p := h
def Sg (ob pb bx kb vb : Nat) (v : Value) (kx : ByteArray) (ki : Int) (W : World) : Prop := W.cell? ⟨ob, 0, none⟩ = some v ∧ W.cell? ⟨pb, 2, none⟩ = some (.pointer (some ⟨kb, 0, none⟩)) ∧ W.cell? ⟨pb, 3, none⟩ = some (.pointer (some ⟨vb, 0, none⟩)) ∧ W.cell? ⟨bx, 0, none⟩ = some (.string kx) ∧ W.cell? ⟨bx, 1, none⟩ = some (.int .i64 ki)
theorem given1k_walk {W : World} {eb wb ob pb nb kb vb : Nat} {v : Value} {kx : ByteArray} {ki n kn vn : Int} {x : ByteArray} (R : Ending → World → Prop)
  (c0 : W.cell? ⟨eb, 0, none⟩ = some (.bool false)) (c2 : W.cell? ⟨ob, 0, none⟩ = some v) (c3 : W.cell? ⟨pb, 2, none⟩ = some (pt kb)) (c4 : W.cell? ⟨pb, 3, none⟩ = some (pt vb))
  (h44 : ∀ W', Below (W.alloc (.cells #[.string kx, .int .i64 ki] 31)).heap.size (W.alloc (.cells #[.string kx, .int .i64 ki] 31)) W' → Calls Tryz.prog 21 #[pt kb, .agg #[.string kx, .int .i64 ki]] W' fun r w' => r = .returned (.int .i64 kn) ∧ Below W'.heap.size W' w')
  (h28 : ∀ W', Below (W.alloc (.cells #[.string kx, .int .i64 ki] 31)).heap.size (W.alloc (.cells #[.string kx, .int .i64 ki] 31)) W' → Calls Tryz.prog 22 #[pt vb, .string x] W' fun r w' => r = .returned (.int .i64 vn) ∧ w' = W')
  (hfin : ∀ W', Below (W.alloc (.cells #[.string kx, .int .i64 ki] 31)).heap.size (W.alloc (.cells #[.string kx, .int .i64 ki] 31)) W' → ∃ va nl ca w9, nl ≤ 1000000 ∧ (Builtin.append_ #[90, 90] 90 #[v, .slice (some ⟨W'.heap.size, 0, none⟩) 1 1]).run Tryz.prog (W'.alloc (.cells #[.int .i64 kn, .int .i64 vn] 120)) = .ok (.slice va nl ca) w9 ∧ Sg ob pb W.heap.size kb vb v kx ki w9 ∧ w9.frozen? ⟨ob, 0, none⟩ = false ∧ (w9.setCell ⟨ob, 0, none⟩ (.slice va nl ca)).cell? ⟨eb, 0, none⟩ = some (.bool false) ∧ (w9.setCell ⟨ob, 0, none⟩ (.slice va nl ca)).cell? ⟨nb, 0, none⟩ = some (.int .i64 n) ∧ (w9.setCell ⟨ob, 0, none⟩ (.slice va nl ca)).frozen? ⟨eb, 0, none⟩ = false ∧ R (.returned (.bool (!((nl : Int) == n)))) ((w9.setCell ⟨ob, 0, none⟩ (.slice va nl ca)).setCell ⟨eb, 0, none⟩ (.bool ((nl : Int) == n)))) :
  Calls Tryz.prog 85 #[.agg #[.string kx, .int .i64 ki], .string x, pt eb, pt wb, pt ob, pt pb, pt nb] W R := by
 have hb90 : ∀ w', (Instr.build 120 #[(0, .int .i64 kn), (1, .int .i64 vn)]).run Tryz.prog w' = .ok (.agg #[.int .i64 kn, .int .i64 vn]) w' := fun w' => run_build w' 120 _ _ (by kernel_rfl)
 have H44 := hidc h44
 have H28 := hidc h28
 have HF := hidc hfin
 have hol : ob < W.heap.size := cell_ltk c2
 have hpl : pb < W.heap.size := cell_ltk c3
 have hel : eb < W.heap.size := cell_ltk c0
 unfold pt at c3 c4
 have HSG : Hid (∀ W', Below (W.alloc (.cells #[.string kx, .int .i64 ki] 31)).heap.size (W.alloc (.cells #[.string kx, .int .i64 ki] 31)) W' → Sg ob pb W.heap.size kb vb v kx ki W') := fun W' hW => by
  have hs : (W.alloc (.cells #[.string kx, .int .i64 ki] 31)).heap.size = W.heap.size + 1 := by simp
  have k : ∀ {b j : Nat} {u : Value}, W.cell? ⟨b, j, none⟩ = some u → W'.cell? ⟨b, j, none⟩ = some u := fun {b j u} h => by
   have hl := cell_ltk h
   rw [hW.cell (p := ⟨b, j, none⟩) (by rw [hs]; exact Nat.lt_succ_of_lt hl), World.cell?_alloc_lt]
   ·
    exact h
   ·
    exact hl
  have kb2 := heap_alloc_new W (.cells #[.string kx, .int .i64 ki] 31)
  refine ⟨k c2, k c3, k c4, ?_, ?_⟩
  ·
   rw [hW.cell (p := ⟨W.heap.size, 0, none⟩) (by rw [hs]; exact Nat.lt_succ_self _)]
   exact box_cells kb2 0 _ rfl
  ·
   rw [hW.cell (p := ⟨W.heap.size, 1, none⟩) (by rw [hs]; exact Nat.lt_succ_self _)]
   exact box_cells kb2 1 _ rfl
 have c0' : (W.alloc (.cells #[.string kx, .int .i64 ki] 31)).cell? ⟨eb, 0, none⟩ = some (.bool false) := by rw [World.cell?_alloc_lt]; exact c0; exact hel
 have BD := hidc (show Below (W.alloc (.cells #[.string kx, .int .i64 ki] 31)).heap.size (W.alloc (.cells #[.string kx, .int .i64 ki] 31)) (W.alloc (.cells #[.string kx, .int .i64 ki] 31)).drew from (Below.refl _ _).drew)
 clear h44 h28 hfin c0 c2 c3 c4 hol hpl hel
 unfold pt at *
 go_enter Tryz.func85, Tryz.ntmps85
 go_wp2_with fail
 refine wp_region_T (Sg ob pb W.heap.size kb vb v kx ki) 12 (by kernel_rfl) (HSG.out _ BD.out) (fun hHeld => ?_)
 change wpAnyT _ _ _ _ _ _ 13 #[false, false, false, false, false, false, false, false, false, false, false, false, false] _ (World.drew _)
 refine wpAnyT_take (i := 0) (oi := zgv0) (v := v) rfl (by kernel_rfl) (by kernel_rfl) (by kernel_rfl) (by kernel_rfl) (fun _ _ _ h => h) (Or.inl ⟨by kernel_rfl, by intro wq hSw; obtain ⟨s1, s2, s3, s4, s5⟩ := hSw; clear hHeld; go_simp⟩) hHeld ?_
 simp only [Act.put, nrA, nrB, nrC]
 refine wpAnyT_take (i := 1) (oi := zgv1) (v := .pointer (some ⟨pb, 2, none⟩)) rfl (by kernel_rfl) (by kernel_rfl) (by kernel_rfl) (by kernel_rfl) (fun _ _ _ h => h) (Or.inl ⟨by kernel_rfl, by intro wq hSw; obtain ⟨s1, s2, s3, s4, s5⟩ := hSw; clear hHeld; go_simp⟩) hHeld ?_
 simp only [Act.put, nrA, nrB, nrC]
 refine wpAnyT_take (i := 2) (oi := zgv2) (v := .pointer (some ⟨kb, 0, none⟩)) rfl (by kernel_rfl) (by kernel_rfl) (by kernel_rfl) (by kernel_rfl) (fun _ _ _ h => h) (Or.inl ⟨by kernel_rfl, by intro wq hSw; obtain ⟨s1, s2, s3, s4, s5⟩ := hSw; clear hHeld; go_simp⟩) hHeld ?_
 simp only [Act.put, nrA, nrB, nrC]
 refine wpAnyT_take (i := 3) (oi := zgv3) (v := .agg #[.string kx, .int .i64 ki]) rfl (by kernel_rfl) (by kernel_rfl) (by kernel_rfl) (by kernel_rfl) (fun _ _ _ h => h) (Or.inl ⟨by kernel_rfl, by intro wq hSw; obtain ⟨s1, s2, s3, s4, s5⟩ := hSw; clear hHeld; go_simp⟩) hHeld ?_
 simp only [Act.put, nrA, nrB, nrC]
 refine wpAnyT_take (i := 5) (oi := zgv4) (v := .pointer (some ⟨pb, 3, none⟩)) rfl (by kernel_rfl) (by kernel_rfl) (by kernel_rfl) (by kernel_rfl) (fun _ _ _ h => h) (Or.inl ⟨by kernel_rfl, by intro wq hSw; obtain ⟨s1, s2, s3, s4, s5⟩ := hSw; clear hHeld; go_simp⟩) hHeld ?_
 simp only [Act.put, nrA, nrB, nrC]
 refine wpAnyT_take (i := 6) (oi := zgv5) (v := .pointer (some ⟨vb, 0, none⟩)) rfl (by kernel_rfl) (by kernel_rfl) (by kernel_rfl) (by kernel_rfl) (fun _ _ _ h => h) (Or.inl ⟨by kernel_rfl, by intro wq hSw; obtain ⟨s1, s2, s3, s4, s5⟩ := hSw; clear hHeld; go_simp⟩) hHeld ?_
 simp only [Act.put, nrA, nrB, nrC]
 refine wpAnyT_take (i := 7) (oi := zgv6) (v := .string x) rfl (by kernel_rfl) (by kernel_rfl) (by kernel_rfl) (by kernel_rfl) (fun _ _ _ h => h) (Or.inl ⟨by kernel_rfl, by intro wq hSw; obtain ⟨s1, s2, s3, s4, s5⟩ := hSw; clear hHeld; go_simp⟩) hHeld ?_
 simp only [Act.put, nrA, nrB, nrC]
 refine wpAnyT_ready (rs := [4]) (by kernel_rfl) (by simp) ?_
 refine AllReadyT.cons (o := zgv7) (by rfl) (fun K hK => ?_) AllReadyT.nil
 clear hHeld
 go_simp
 go_wp2_with (go_at_call 21; refine (H44.out _ BD.out).mono ?_; rintro e w4 ⟨rfl, hb4⟩)
 have BWx := hidc (show Below (W.alloc (.cells #[.string kx, .int .i64 ki] 31)).heap.size (W.alloc (.cells #[.string kx, .int .i64 ki] 31)) w4 from (BD.out).trans (hb4.mono (BD.out).size))
 clear hb4
 refine hK.out _ _ (HSG.out _ BWx.out) (fun hHeld => ?_)
 clear hK K
 (try simp only [Act.put, nrA, nrB, nrC])
 refine wpAnyT_ready (rs := [8]) (by kernel_rfl) (by simp) ?_
 refine AllReadyT.cons (o := zgv8) (by rfl) (fun K hK => ?_) AllReadyT.nil
 clear hHeld
 go_simp
 go_wp2_with (go_at_call 22; refine (H28.out _ BWx.out).mono ?_; rintro e w5 ⟨rfl, h5⟩; obtain rfl := h5.symm; clear h5)
 refine hK.out _ _ (HSG.out _ BWx.out) (fun hHeld => ?_)
 clear hK K
 (try simp only [Act.put, nrA, nrB, nrC])
 refine wpAnyT_take (i := 9) (oi := zgv9) (v := .agg #[.int .i64 kn, .int .i64 vn]) rfl (by kernel_rfl) (by kernel_rfl) (by kernel_rfl) (by kernel_rfl) (fun _ _ _ h => h) (Or.inl ⟨by kernel_rfl, by intro wq hSw; clear hSw hHeld; go_simp⟩) hHeld ?_
 simp only [Act.put, nrA, nrB, nrC]
 refine wpAnyT_ready (rs := [10]) (by kernel_rfl) (by simp) ?_
 refine AllReadyT.cons (o := zgv10) (by rfl) (fun K hK => ?_) AllReadyT.nil
 clear hHeld
 go_simp
 have SA := hidc (HSG.out _ (BWx.out.alloc BWx.out.size (.cells #[.int .i64 kn, .int .i64 vn] 120)))
 refine hK.out _ _ SA.out (fun hHeld => ?_)
 clear hK K
 (try simp only [Act.put, nrA, nrB, nrC])
 obtain ⟨va, nl, ca, w9, hnl, hr, s9, hf9, z1, z2, z3, hZ⟩ := HF.out _ BWx.out
 have HRN := hidc hr
 have HZ := hidc hZ
 clear hr hZ
 refine wpAnyT_ready (rs := [11]) (by kernel_rfl) (by simp) ?_
 refine AllReadyT.cons (o := zgv11) (by rfl) (fun K hK => ?_) AllReadyT.nil
 clear hHeld
 refine step_append_runk rfl (.tmp 11) (.tmp 21) 90 90 rfl _ _ rfl rfl _ w9 HRN.out ?_
 refine hK.out _ _ s9 (fun hHeld => ?_)
 clear hK K
 (try simp only [Act.put, nrA, nrB, nrC])
 refine wpAnyT_ready (rs := [12]) (by kernel_rfl) (by simp) ?_
 refine AllReadyT.last (o := zgv12) (by rfl) (fun K hK => ?_)
 have hHd := hHeld
 obtain ⟨q1, -, -, -, -⟩ := hHd
 clear hHeld
 go_simp
 refine hK.out _ _ ?_
 clear hK K
 (try simp only [Act.put, nrA, nrB, nrC])
 refine wpAnyT_done (by kernel_rfl) ?_ _
 have a0 : (w9.setCell ⟨ob, 0, none⟩ (.slice va nl ca)).cell? ⟨ob, 0, none⟩ = some (.slice va nl ca) := World.cell?_setCell_same _ _ _ q1
 clear q1 s9 SA
 go_wp2_with fail
 (try go_ret)

 exact HZ.out
end Go.Proofs.YtdhinpmjbcohaaaGreat.Ja
namespace Go.Proofs.YtdhinpmjbcohaaaGreat.Rf
open Go Go.RowKit
set_option linter.unusedSimpArgs false
set_option linter.unusedVariables false
set_option maxRecDepth 100000
set_option maxHeartbeats 4000000

def e2 (L : List (Int × Int)) : List Value := L.flatMap (fun p => [.int .i64 p.1, .int .i64 p.2])
theorem e2_len (L : List (Int × Int)) : (e2 L).length = L.length * 2 := by
 induction L with
 | nil => rfl
 | cons x t ih => simp [e2] at ih ⊢; omega
theorem e2_app (A B : List (Int × Int)) : e2 (A ++ B) = e2 A ++ e2 B := by simp [e2]
theorem e2_one (L : List (Int × Int)) : ∀ u ∈ e2 L, u.oneCell' = true := by
 intro u hu
 obtain ⟨p, _, hp⟩ := List.mem_flatMap.1 hu
 simp at hp
 rcases hp with rfl | rfl <;> rfl
theorem e2_at : ∀ (L : List (Int × Int)) (j : Nat) (p : Int × Int), L[j]? = some p → (e2 L)[j * 2]? = some (.int .i64 p.1) ∧ (e2 L)[j * 2 + 1]? = some (.int .i64 p.2)
 | [], j, p, h => by simp at h
 | x :: L, 0, p, h => by
  simp at h
  subst h
  simp [e2]
 | x :: L, j + 1, p, h => by
  have ih := e2_at L j p (by simpa using h)
  have e1 : (j + 1) * 2 = j * 2 + 1 + 1 := by omega
  have e3 : (j + 1) * 2 + 1 = (j * 2 + 1) + 1 + 1 := by omega
  refine ⟨?_, ?_⟩
  ·
   rw [e1]
   simpa [e2] using ih.1
  ·
   rw [e3]
   simpa [e2] using ih.2
def RS (w : World) (mb room : Nat) (L : List (Int × Int)) (G : Nat → Prop) : Prop := (∃ v, w.heap[mb]? = some (.cells #[.int .i64 room, v] 92 (0, 0)) ∧ w.ownsRow 0 120 2 v L.length (e2 L) ∧ ∀ j, G j ↔ j = mb ∨ v.ownBlock = some j) ∧ (L.map (·.1)).Nodup
theorem info90 : (Tryz.prog.info? 120).map (fun i => (i.zero, i.size, i.bytes)) = some (some (.agg #[.int .i64 0, .int .i64 0]), 2, 16) := by kernel_rfl
theorem own_shape {w : World} {B e s n : Nat} {v : Value} {xs : List Value} (h : w.ownsRow B e s v n xs) : ∃ a c, v = .slice a n c := by
 rcases h.2 with ⟨h1, h2⟩ | ⟨g, cap, cur, r, _⟩
 ·
  exact ⟨none, 0, by rw [h1, h2]⟩
 ·
  exact ⟨_, _, r⟩
theorem app_many {w : World} {v : Value} {A B : List (Int × Int)} (ho : w.ownsRow 0 120 2 v A.length (e2 A)) (ad : Addr) (c : Nat) (hc : ∀ j u, (e2 B)[j]? = some u → w.cell? (ad.add j) = some u) (hl : A.length + B.length ≤ 1000000) : ∃ v' w', (Builtin.append_ #[90, 90] 90 #[v, .slice (some ad) B.length c]).run Tryz.prog w = .ok v' w' ∧ w'.ownsRow 0 120 2 v' (A ++ B).length (e2 (A ++ B)) ∧ Ch (fun j => v.ownBlock = some j) w w' ∧ (v'.ownBlock = v.ownBlock ∨ v'.ownBlock = some w.heap.size) := by
 obtain ⟨i0, hi0, hz⟩ := Option.map_eq_some_iff.1 info90
 simp only [Prod.mk.injEq] at hz
 obtain ⟨v', w', hr, h2, h3, h4, h5⟩ := run_append_own_at (P := Tryz.prog) w 0 90 90 120 i0 (.agg #[.int .i64 0, .int .i64 0]) 2 16 Tryz.underlying90 hi0 hz.1 hz.2.1 hz.2.2 rfl (by decide) v A.length (e2 A) ho ad B.length c (e2 B) (e2_len B) hc (e2_one B) (by unfold maxLen; omega) (by omega) (by omega)
 refine ⟨v', w', hr, ?_, ch_grown h3, h5⟩
 rw [e2_app, List.length_append]
 exact h2
theorem split_at {L : List (Int × Int)} {j : Nat} {p : Int × Int} (h : L[j]? = some p) : L = L.take j ++ p :: L.drop (j + 1) ∧ (L.take j).length = j := by
 have hj := (List.getElem?_eq_some_iff.1 h).1
 refine ⟨?_, by simp; omega⟩
 conv => lhs; rw [← List.take_append_drop j L]
 rw [List.drop_eq_getElem?_toList_append, h]
 rfl
theorem cell_lt'' {w : World} {b k : Nat} {v : Value} (h : w.cell? ⟨b, k, none⟩ = some v) : b < w.heap.size := by
 unfold World.cell? at h
 rcases hb : w.heap[b]? with _ | ob
 ·
  simp [hb] at h
 ·
  exact (Array.getElem?_eq_some_iff.1 hb).1
theorem addr0 (g o q : Nat) : (⟨g, o, none⟩ : Addr).add q = ⟨g, o + q, none⟩ := by unfold Addr.add; split <;> simp_all
theorem take_walk {w : World} {mb room cap : Nat} {a : Option Addr} {L : List (Int × Int)} {k : Int} (hb : w.heap[mb]? = some (.cells #[.int .i64 room, .slice a L.length cap] 92 (0, 0))) (ho : w.ownsRow 0 120 2 (.slice a L.length cap) L.length (e2 L)) (hl : L.length ≤ 400000)
  (R : Ending → World → Prop) (hR1 : (∀ p ∈ L, p.1 ≠ k) → R (.returned (.tuple #[.int .i64 0, .bool false])) w)
  (hR2 : ∀ L1 v L2, L = L1 ++ (k, v) :: L2 → ∀ va na ca w2, w2.ownsRow 0 120 2 (.slice va na ca) (L1 ++ L2).length (e2 (L1 ++ L2)) → Ch (fun _ => False) w w2 → (∀ g', (Value.slice va na ca).ownBlock = some g' → w.heap.size ≤ g') → R (.returned (.tuple #[.int .i64 v, .bool true])) (w2.setCell ⟨mb, 1, none⟩ (.slice va na ca))) :
  Calls Tryz.prog 70 #[pt mb, .int .i64 k] w R := by
 have HB : Hid (w.heap[mb]? = some (.cells #[.int .i64 room, .slice a L.length cap] 92 (0, 0))) := hb
 have HOW : Hid (w.ownsRow 0 120 2 (.slice a L.length cap) L.length (e2 L)) := ho
 have HL : Hid (L.length ≤ 400000) := hl
 have HR1 : Hid ((∀ p ∈ L, p.1 ≠ k) → R (.returned (.tuple #[.int .i64 0, .bool false])) w) := hR1
 have HR2 : Hid (∀ L1 v L2, L = L1 ++ (k, v) :: L2 → ∀ va na ca w2, w2.ownsRow 0 120 2 (.slice va na ca) (L1 ++ L2).length (e2 (L1 ++ L2)) → Ch (fun _ => False) w w2 → (∀ g', (Value.slice va na ca).ownBlock = some g' → w.heap.size ≤ g') → R (.returned (.tuple #[.int .i64 v, .bool true])) (w2.setCell ⟨mb, 1, none⟩ (.slice va na ca))) := hR2
 have c1 : w.cell? ⟨mb, 1, none⟩ = some (.slice a L.length cap) := box_cells hb 1 _ rfl
 obtain ⟨n, hn⟩ : ∃ n, n = L.length := ⟨_, rfl⟩
 rw [← hn] at c1
 have HNL : Hid (n = L.length) := hn
 clear hb ho hl hR1 hR2 hn
 unfold pt
 go_enter Tryz.func70, Tryz.ntmps70
 go_wp2_with fail
 go_loopg [6] n (fun gk s6 wx => ∃ j : Nat, j + gk = n ∧ s6 = .int .i64 j ∧ Hid (∀ q p, q < j → L[q]? = some p → p.1 ≠ k) ∧ Hid (wx = w))
 case atStart => exact ⟨0, by omega, rfl, fun q p hq => absurd hq (Nat.not_lt_zero _), rfl⟩
 case round =>
  obtain ⟨j, hj, rfl, HQ, HX⟩ := hrel
  obtain rfl : wr = w := HX.out
  clear HX
  cases gk with
  | zero =>
   obtain rfl : j = n := by omega
   have hz : ¬ (j : Int) < (j : Int) := by omega
   go_wp2_with fail
   (try go_ret2)
   refine HR1.out (fun p hp => ?_)
   obtain ⟨q, hq, e⟩ := List.mem_iff_getElem.1 hp
   exact HQ.out q p (by have := HNL.out; omega) (by rw [List.getElem?_eq_getElem hq, e])
  | succ gk =>
   have hz : (j : Int) < (n : Int) := by omega
   have hz0 : (0 : Int) ≤ (j : Int) := by omega
   have hjl : j < L.length := by have := HNL.out; omega
   have hwj : IntKind.i64.wrap ((j : Int) + 1) = (j : Int) + 1 := by rw [IntKind.wrap_i64]; have := HL.out; omega
   obtain ⟨⟨kx, vx⟩, hx⟩ : ∃ x, L[j]? = some x := ⟨_, List.getElem?_eq_getElem hjl⟩
   have HXX : Hid (L[j]? = some (kx, vx)) := hx
   obtain ⟨g, rfl, hcap, hcells⟩ : ∃ g, a = some ⟨g, 0, none⟩ ∧ n ≤ cap ∧ ∀ q u, (e2 L)[q]? = some u → wr.cell? ⟨g, q, none⟩ = some u := by
    rcases HOW.out.2 with ⟨_, q⟩ | ⟨g, cap', cur, hv, _, _, hle, _⟩
    ·
     omega
    ·
     simp at hv
     obtain ⟨rfl, rfl⟩ := hv
     refine ⟨g, rfl, by have := HNL.out; omega, fun q u hu => ?_⟩
     have hadd : (⟨g, 0, none⟩ : Addr).add q = ⟨g, q, none⟩ := by unfold Addr.add; split <;> simp_all
     have := HOW.out.cells (g := g) rfl q u hu
     rwa [hadd] at this
   obtain ⟨t1, t2⟩ := e2_at L j (kx, vx) hx
   have d1 := hcells _ _ t1
   have d2 := hcells _ _ t2
   simp only at d1 d2
   clear hx t1 t2
   by_cases hxk : kx = k
   ·
    subst hxk
    have hsp : Hid (L = L.take j ++ (kx, vx) :: L.drop (j + 1) ∧ (L.take j).length = j) := split_at HXX.out
    obtain ⟨v1, w1, hr1, ho1, hc1, hb1⟩ := app_many (w := wr) (v := .slice none 0 0) (A := []) (B := L.take j) (World.ownsRow_nil _ _ _ _) ⟨g, 0, none⟩ cap (fun q u hu => by
     rw [addr0, Nat.zero_add]
     refine hcells q u ?_
     rw [hsp.out.1, e2_app, List.getElem?_append_left (List.getElem?_eq_some_iff.1 hu).1]
     exact hu) (by have := HL.out; simp; omega)
    rw [hsp.out.2] at hr1
    have hq1 : (j : Int) ≤ (cap : Int) := by omega
    have hq2 : (j : Int) + 1 ≤ (n : Int) := by omega
    have hq3 : (0 : Int) ≤ (j : Int) + 1 := by omega
    have hq4 : (n : Int) ≤ (cap : Int) := by omega
    have HA1 : Hid ((Builtin.append_ #[90, 90] 90 #[.slice none 0 0, .slice (some ⟨g, 0, none⟩) j cap]).run Tryz.prog wr = .ok v1 w1) := hr1
    have m1 : w1.cell? ⟨mb, 1, none⟩ = some (.slice (some ⟨g, 0, none⟩) n cap) := by
     have := (hc1.block mb (Array.getElem?_eq_some_iff.1 HB.out).1 (by simp [Value.ownBlock])).trans HB.out
     rw [← HNL.out] at this
     exact box_cells this 1 _ rfl
    clear hr1
    by_cases hcj : cap = j + 1
    ·
     subst hcj
     have hc2 : ∀ q u, (e2 (L.drop (j + 1)))[q]? = some u → w1.cell? ((⟨g, 0, none⟩ : Addr).add q) = some u := fun q u hu => by
      have hB : L.drop (j + 1) = [] := List.drop_of_length_le (by have := HNL.out; omega)
      rw [hB] at hu
      simp [e2] at hu
     obtain ⟨v2, w2, hr2, ho2, hcc2, hb2⟩ := app_many (w := w1) (v := v1) (A := [] ++ L.take j) (B := L.drop (j + 1)) ho1 ⟨g, 0, none⟩ 0 hc2 (by have := HL.out; simp; omega)
     obtain ⟨va, ca, rfl⟩ := own_shape ho2
     rw [show (L.drop (j + 1)).length = 0 by rw [List.length_drop, ← HNL.out]; omega] at hr2
     have HA2 : Hid ((Builtin.append_ #[90, 90] 90 #[v1, .slice (some ⟨g, 0, none⟩) 0 0]).run Tryz.prog w1 = .ok (.slice va ([] ++ L.take j ++ L.drop (j + 1)).length ca) w2) := hr2
     have hch2 : Ch (fun _ => False) wr w2 := (hc1.mono (fun i _ q => by simp [Value.ownBlock] at q)).trans hcc2 (fun i hi q => by
      rcases hb1 with e | e
      ·
       rw [e] at q
       simp [Value.ownBlock] at q
      ·
       rw [e] at q
       simp at q
       omega)
     have m2' := (hch2.block mb (Array.getElem?_eq_some_iff.1 HB.out).1 (fun q => q)).trans HB.out
     have m2 : w2.cell? ⟨mb, 1, none⟩ = some (.slice (some ⟨g, 0, none⟩) L.length (j + 1)) := box_cells m2' 1 _ rfl
     have f2 : w2.frozen? ⟨mb, 1, none⟩ = false := box_frozen m2' 1
     have hnew : ∀ g', (Value.slice va ([] ++ L.take j ++ L.drop (j + 1)).length ca).ownBlock = some g' → wr.heap.size ≤ g' := fun g' q => by
      have hs1 := hc1.size
      rcases hb2 with e | e
      ·
       rw [e] at q
       rcases hb1 with e' | e'
       ·
        rw [e'] at q
        simp [Value.ownBlock] at q
       ·
        rw [e'] at q
        cases q
        exact Nat.le_refl _
      ·
       rw [e] at q
       cases q
       exact hs1
     have FIN : Hid (R (.returned (.tuple #[.int .i64 vx, .bool true])) (w2.setCell ⟨mb, 1, none⟩ (.slice va ([] ++ L.take j ++ L.drop (j + 1)).length ca))) := HR2.out (L.take j) vx (L.drop (j + 1)) hsp.out.1 va _ ca w2 (by simpa using ho2) hch2 hnew
     obtain ⟨nl, hnl⟩ : ∃ nl, nl = ([] ++ L.take j ++ L.drop (j + 1)).length := ⟨_, rfl⟩
     rw [← hnl] at HA2 FIN
     clear hr2 ho2 hcc2 hb2 hc2 hch2 m2' hnew hnl hc1 hb1 ho1 hsp hcells
     go_wp2_with (first | (at_builtin; refine Lib.wpList_append_run _ rfl (.tmp 36) (.tmp 42) 90 90 rfl _ _ rfl rfl v1 w1 HA1.out ?_) | (at_builtin; refine Lib.wpList_append_run _ rfl (.tmp 45) (.tmp 52) 90 90 rfl _ _ rfl rfl _ w2 HA2.out ?_))
     (try go_ret2)
     exact FIN.out
    ·
     have hcj' : ¬ (cap : Int) = (j : Int) + 1 := by omega
     have hc2 : ∀ q u, (e2 (L.drop (j + 1)))[q]? = some u → w1.cell? ((⟨g, (j + 1) * 2, none⟩ : Addr).add q) = some u := fun q u hu => by
      rw [addr0]
      have h3 : wr.cell? ⟨g, (j + 1) * 2 + q, none⟩ = some u := by
       refine hcells _ u ?_
       rw [hsp.out.1, e2_app, List.getElem?_append_right (by rw [e2_len, hsp.out.2]; omega), e2_len, hsp.out.2, show e2 ((kx, vx) :: L.drop (j + 1)) = [.int .i64 kx, .int .i64 vx] ++ e2 (L.drop (j + 1)) from by simp [e2], List.getElem?_append_right (by simp; omega)]
       rw [show (j + 1) * 2 + q - j * 2 - [Value.int IntKind.i64 kx, Value.int IntKind.i64 vx].length = q by simp; omega]
       exact hu
      have hlt := (cell_lt'' h3)
      unfold World.cell? at h3 ⊢
      rw [hc1.block g hlt (by simp [Value.ownBlock])]
      exact h3
     obtain ⟨v2, w2, hr2, ho2, hcc2, hb2⟩ := app_many (w := w1) (v := v1) (A := [] ++ L.take j) (B := L.drop (j + 1)) ho1 ⟨g, (j + 1) * 2, none⟩ (cap - (j + 1)) hc2 (by have := HL.out; simp; omega)
     obtain ⟨va, ca, rfl⟩ := own_shape ho2
     rw [show (L.drop (j + 1)).length = n - (j + 1) by rw [List.length_drop, ← HNL.out]] at hr2
     have HA2 : Hid ((Builtin.append_ #[90, 90] 90 #[v1, .slice (some ⟨g, (j + 1) * 2, none⟩) (n - (j + 1)) (cap - (j + 1))]).run Tryz.prog w1 = .ok (.slice va ([] ++ L.take j ++ L.drop (j + 1)).length ca) w2) := hr2
     have hch2 : Ch (fun _ => False) wr w2 := (hc1.mono (fun i _ q => by simp [Value.ownBlock] at q)).trans hcc2 (fun i hi q => by
      rcases hb1 with e | e
      ·
       rw [e] at q
       simp [Value.ownBlock] at q
      ·
       rw [e] at q
       simp at q
       omega)
     have m2' := (hch2.block mb (Array.getElem?_eq_some_iff.1 HB.out).1 (fun q => q)).trans HB.out
     have m2 : w2.cell? ⟨mb, 1, none⟩ = some (.slice (some ⟨g, 0, none⟩) L.length cap) := box_cells m2' 1 _ rfl
     have f2 : w2.frozen? ⟨mb, 1, none⟩ = false := box_frozen m2' 1
     have hnew : ∀ g', (Value.slice va ([] ++ L.take j ++ L.drop (j + 1)).length ca).ownBlock = some g' → wr.heap.size ≤ g' := fun g' q => by
      have hs1 := hc1.size
      rcases hb2 with e | e
      ·
       rw [e] at q
       rcases hb1 with e' | e'
       ·
        rw [e'] at q
        simp [Value.ownBlock] at q
       ·
        rw [e'] at q
        cases q
        exact Nat.le_refl _
      ·
       rw [e] at q
       cases q
       exact hs1
     have FIN : Hid (R (.returned (.tuple #[.int .i64 vx, .bool true])) (w2.setCell ⟨mb, 1, none⟩ (.slice va ([] ++ L.take j ++ L.drop (j + 1)).length ca))) := HR2.out (L.take j) vx (L.drop (j + 1)) hsp.out.1 va _ ca w2 (by simpa using ho2) hch2 hnew
     obtain ⟨nl, hnl⟩ : ∃ nl, nl = ([] ++ L.take j ++ L.drop (j + 1)).length := ⟨_, rfl⟩
     rw [← hnl] at HA2 FIN
     clear hr2 ho2 hcc2 hb2 hc2 hch2 m2' hnew hnl hc1 hb1 ho1 hsp hcells
     go_wp2_with (first | (at_builtin; refine Lib.wpList_append_run _ rfl (.tmp 36) (.tmp 42) 90 90 rfl _ _ rfl rfl v1 w1 HA1.out ?_) | (at_builtin; refine Lib.wpList_append_run _ rfl (.tmp 45) (.tmp 52) 90 90 rfl _ _ rfl rfl _ w2 HA2.out ?_))
     (try go_ret2)
     exact FIN.out
   ·
    have n1 : (kx == k) = false := by simpa using hxk
    have HNE : Hid (¬ kx = k) := hxk
    clear hxk hcells hcap
    go_wp2_with fail
    go_roundg gk
    case measure => omega
    case rel => exact ⟨j + 1, by omega, by first | rfl | simp, fun q p hq hp => by
     by_cases e : q = j
     ·
      rw [e, HXX.out] at hp
      cases hp
      exact HNE.out
     ·
      exact HQ.out q p (by omega) hp, rfl⟩
end Go.Proofs.YtdhinpmjbcohaaaGreat.Rf
