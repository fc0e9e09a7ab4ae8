import Derived.Test.YtdhinpmjbcohaaaGreatPa
import Derived.Deep.RegionHeldLaw
import Derived.Deep.RegionWith
import Derived.RegionCalls
import Derived.Deep.RegionLaw
import Derived.Deep.LoopGhost
import Derived.Lib.AppendZeros
import Derived.Maps.AppendAt
namespace Go.Proofs.YtdhinpmjbcohaaaGreat.Qk
open Go Go.RowKit
set_option linter.unusedSimpArgs false
set_option linter.unusedVariables false
set_option maxRecDepth 100000
set_option maxHeartbeats 4000000

abbrev Kt := ByteArray × Int
def mk (k : Kt) : Value := .agg #[.string k.1, .int .i64 k.2]
def z0 : Kt := (⟨#[]⟩, 0)
def k2 (C : List Kt) : List Value := C.flatMap (fun p => [.string p.1, .int .i64 p.2])
theorem k2_app (A B : List Kt) : k2 (A ++ B) = k2 A ++ k2 B := by simp [k2]
theorem k2_one (L : List Kt) : ∀ u ∈ k2 L, u.oneCell' = true := by
 intro u hu
 obtain ⟨p, _, hp⟩ := List.mem_flatMap.1 hu
 simp at hp
 rcases hp with rfl | rfl <;> rfl
theorem k2_at : ∀ (L : List Kt) (j : Nat) (p : Kt), L[j]? = some p → (k2 L)[j * 2]? = some (.string p.1) ∧ (k2 L)[j * 2 + 1]? = some (.int .i64 p.2)
 | [], j, p, h => by simp at h
 | x :: L, 0, p, h => by
  simp at h
  subst h
  simp [k2]
 | x :: L, j + 1, p, h => by
  have ih := k2_at L j p (by simpa using h)
  have e1 : (j + 1) * 2 = j * 2 + 1 + 1 := by omega
  have e3 : (j + 1) * 2 + 1 = (j * 2 + 1) + 1 + 1 := by omega
  refine ⟨?_, ?_⟩
  ·
   rw [e1]
   simpa [k2] using ih.1
  ·
   rw [e3]
   simpa [k2] using ih.2
def CD (w : World) (kb : Nat) (C : List Kt) (G : Nat → Prop) : Prop := ∃ v, w.heap[kb]? = some (.cells #[v] 61 (0, 0)) ∧ w.ownsRow 0 31 2 v C.length (k2 C) ∧ (∀ j, G j ↔ j = kb ∨ v.ownBlock = some j) ∧ (C = [] → v = .slice none 0 0)
theorem info_el : (Tryz.prog.info? 31).map (fun i => (i.zero, i.size, i.bytes)) = some (some (mk z0), 2, 24) := by kernel_rfl
theorem CD.keep {w w' : World} {kb : Nat} {C : List Kt} {G : Nat → Prop} (h : CD w kb C G) (hk : ∀ j, G j → w'.heap[j]? = w.heap[j]?) : CD w' kb C G := by
 obtain ⟨v, h1, h2, h3, h4⟩ := h
 refine ⟨v, (hk kb ((h3 kb).2 (.inl rfl))).trans h1, ?_, h3, h4⟩
 refine ⟨h2.1, ?_⟩
 rcases h2.2 with h0 | ⟨g, cap, cur, rfl, e1, hg, e2⟩
 ·
  exact .inl h0
 ·
  exact .inr ⟨g, cap, cur, rfl, e1, (hk g ((h3 g).2 (.inr rfl))).trans hg, e2⟩
theorem CD.lt {w : World} {kb : Nat} {C : List Kt} {G : Nat → Prop} (h : CD w kb C G) {j : Nat} (hj : G j) : j < w.heap.size := by
 obtain ⟨v, h1, h2, h3, h4⟩ := h
 rcases (h3 j).1 hj with rfl | q
 ·
  exact (Array.getElem?_eq_some_iff.1 h1).1
 ·
  exact (h2.lt j q).2
theorem own_blk {w : World} {B e s n : Nat} {v : Value} {xs : List Value} (h : w.ownsRow B e s v n xs) {k : Nat} (hk : v.ownBlock = some k) : ∃ c, w.heap[k]? = some (.cells c e (0, 0)) := by
 rcases h.2 with ⟨r, _⟩ | ⟨g, cap, cur, r, _, hg, _⟩
 ·
  rw [r] at hk; cases hk
 ·
  rw [r] at hk
  have e' : g = k := by simpa [Value.ownBlock] using hk
  subst e'
  exact ⟨_, hg⟩
theorem app_one {w : World} {v : Value} {C : List Kt} (ho : w.ownsRow 0 31 2 v C.length (k2 C)) (k : Kt) (hl : C.length ≤ 1000000) : ∃ g' cap' w', (Builtin.append_ #[59, 59] 59 #[v, .slice (some ⟨w.heap.size, 0, none⟩) 1 1]).run Tryz.prog (w.alloc (.cells #[.string k.1, .int .i64 k.2] 31)) = .ok (.slice (some ⟨g', 0, none⟩) (C.length + 1) cap') w' ∧ w'.ownsRow 0 31 2 (.slice (some ⟨g', 0, none⟩) (C.length + 1) cap') (C ++ [k]).length (k2 (C ++ [k])) ∧ Ch (fun j => v.ownBlock = some j) w w' ∧ (v.ownBlock = some g' ∨ w.heap.size ≤ g') := by
 obtain ⟨i0, hi0, hz⟩ := Option.map_eq_some_iff.1 info_el
 simp only [Prod.mk.injEq] at hz
 obtain ⟨v', w', hr, h2, h3, h4, h5⟩ := run_append_own_at (P := Tryz.prog) (w.alloc (.cells #[.string k.1, .int .i64 k.2] 31)) 0 59 59 31 i0 (mk z0) 2 24 Tryz.underlying59 hi0 hz.1 hz.2.1 hz.2.2 (by simp [mk, Value.cells]) (by decide) v C.length (k2 C) (ho.alloc _) ⟨w.heap.size, 0, none⟩ 1 1 (k2 [k]) rfl (fun j u hu => by
  have e : (⟨w.heap.size, 0, none⟩ : Addr).add j = ⟨w.heap.size, j, none⟩ := by unfold Addr.add; split <;> simp_all
  rw [e]
  refine box_cells (heap_alloc_new w _) j u ?_
  simpa [k2] using hu) (k2_one _) (by unfold maxLen; omega) (by omega) (by omega)
 rcases h2.2 with ⟨_, q⟩ | ⟨g', cap', cur, rfl, _⟩
 ·
  omega
 ·
  refine ⟨g', cap', w', hr, by rw [k2_app, List.length_append]; exact h2, ?_, ?_⟩
  ·
   exact (ch_alloc _ _ _).then ((ch_grown h3).mono (fun j _ q => q))
  ·
   rcases h5 with q | q
   ·
    exact .inl (by rw [← q]; rfl)
   ·
    simp [Value.ownBlock] at q
    exact .inr (by omega)
theorem set_row {w : World} {kb t B e s n : Nat} {v x : Value} {xs : List Value} {cs : Array Value} (h : w.ownsRow B e s v n xs) (hb : w.heap[kb]? = some (.cells cs t (0, 0))) (ht : t ≠ e) (i : Nat) : (w.setCell ⟨kb, i, none⟩ x).ownsRow B e s v n xs := by
 refine ⟨h.1, ?_⟩
 rcases h.2 with h0 | ⟨g, cap, cur, rfl, e1, hg, e2⟩
 ·
  exact .inl h0
 ·
  refine .inr ⟨g, cap, cur, rfl, e1, (heap_set_ne _ (fun q => ?_)).trans hg, e2⟩
  rw [q, hb] at hg
  simp at hg
  exact ht hg.2
theorem CD.more {w w' : World} {kb g' cap' : Nat} {v : Value} {C : List Kt} {k : Kt} (hb : w.heap[kb]? = some (.cells #[v] 61 (0, 0))) (ho : w.ownsRow 0 31 2 v C.length (k2 C)) (h2 : w'.ownsRow 0 31 2 (.slice (some ⟨g', 0, none⟩) (C.length + 1) cap') (C ++ [k]).length (k2 (C ++ [k]))) (hc : Ch (fun j => v.ownBlock = some j) w w') :
  w'.heap[kb]? = some (.cells #[v] 61 (0, 0)) ∧ CD (w'.setCell ⟨kb, 0, none⟩ (.slice (some ⟨g', 0, none⟩) (C.length + 1) cap')) kb (C ++ [k]) (fun j => j = kb ∨ j = g') := by
 have hb' : w'.heap[kb]? = some (.cells #[v] 61 (0, 0)) := by
  rw [hc.block kb (Array.getElem?_eq_some_iff.1 hb).1 (fun q => by
   obtain ⟨c, hcc⟩ := own_blk ho q
   rw [hb] at hcc
   simp at hcc)]
  exact hb
 refine ⟨hb', _, ?_, set_row h2 hb' (by decide) 0, fun j => ?_, fun q => absurd q (by simp)⟩
 ·
  rw [heap_set hb']
  simp
 ·
  simp [Value.ownBlock, eq_comm]
theorem cell_ltk {w : World} {a : Addr} {v : Value} (h : w.cell? a = some v) : a.block < w.heap.size := by
 unfold World.cell? at h
 rcases hb : w.heap[a.block]? with _ | ob
 ·
  simp [hb] at h
 ·
  exact (Array.getElem?_eq_some_iff.1 hb).1
theorem step_append_runk {P : Program} {ops : Array Oper} {o : Oper} {a : Act} {w : World} {K : Act → World → Prop} {Q : Exit → Act → World → Prop} {E : Prop} (hg : o.guard = none) (s x : Operand) (t tx : TypeId)
  (hop : o.op = Op.call { callee := Callee.builtin Builtin.append, args := #[s, x], argTypes := #[t, tx] }) (vs vx : Value) (hs : a.eval s = vs) (hx : a.eval x = vx) (v : Value) (w' : World)
  (hrun : (Builtin.append_ #[t, tx] o.type #[vs, vx]).run P w = .ok v w') (hK : K (a.put o.dst v) w') : if Region.wanted o (yielded ops a.tmps) = true then Oper.wp P o a w K Q else E := by
 have hw : Region.wanted o (yielded ops a.tmps) = true := by simp [Region.wanted, hg]
 rw [if_pos hw]
 unfold Oper.wp
 simp [execOp, hop, resolve, invoke, builtin, hs, hx, hrun, Result.andThen]
 exact hK
theorem of_walk {w : World} {kb g cap : Nat} {D : List Kt} {k : Kt} (w1 : World) (hb : w1.heap[kb]? = some (.cells #[.slice (some ⟨g, 0, none⟩) D.length cap] 61 (0, 0))) (ho : w1.ownsRow 0 31 2 (.slice (some ⟨g, 0, none⟩) D.length cap) D.length (k2 D)) (hx : w1.heap[w.heap.size]? = some (.cells #[.string k.1, .int .i64 k.2] 31 (0, 0))) (hl : D.length ≤ 1000000) (hpos : 0 < D.length)
  (hs : (w1 = ((w.alloc (.cells #[.string k.1, .int .i64 k.2] 31)).alloc (.cells #[.string ⟨#[]⟩, .int .i64 0] 31)) ∧ w.cell? ⟨kb, 0, none⟩ = some (.slice (some ⟨g, 0, none⟩) D.length cap)) ∨ ∃ wa, w.heap[kb]? = some (.cells #[.slice none 0 0] 61 (0, 0)) ∧ (Builtin.append_ #[59, 59] 59 #[.slice none 0 0, .slice (some ⟨w.heap.size + 1 + 1, 0, none⟩) 1 1]).run Tryz.prog (((w.alloc (.cells #[.string k.1, .int .i64 k.2] 31)).alloc (.cells #[.string ⟨#[]⟩, .int .i64 0] 31)).drew.alloc (.cells #[.string ⟨#[]⟩, .int .i64 0] 31)) = .ok (.slice (some ⟨g, 0, none⟩) D.length cap) wa ∧ wa.heap[kb]? = some (.cells #[.slice none 0 0] 61 (0, 0)) ∧ w1 = wa.setCell ⟨kb, 0, none⟩ (.slice (some ⟨g, 0, none⟩) D.length cap))
  (R : Ending → World → Prop) (hR1 : ∀ j m : Nat, D[j]? = some k → (∀ q, q < j → D[q]? ≠ some k) → R (.returned (.int .i64 j)) (w1.drewN m))
  (hR2 : k ∉ D → ∀ m g' cap' w2, w2.ownsRow 0 31 2 (.slice (some ⟨g', 0, none⟩) (D.length + 1) cap') (D ++ [k]).length (k2 (D ++ [k])) → Ch (fun j => j = g) (w1.drewN m) w2 → (g = g' ∨ w1.heap.size ≤ g') → R (.returned (.int .i64 D.length)) (w2.setCell ⟨kb, 0, none⟩ (.slice (some ⟨g', 0, none⟩) (D.length + 1) cap'))) :
  Calls Tryz.prog 21 #[pt kb, mk k] w R := by
 have HR1 : Hid (∀ j m : Nat, D[j]? = some k → (∀ q, q < j → D[q]? ≠ some k) → R (.returned (.int .i64 j)) (w1.drewN m)) := hR1
 have HR2 : Hid (k ∉ D → ∀ m g' cap' w2, w2.ownsRow 0 31 2 (.slice (some ⟨g', 0, none⟩) (D.length + 1) cap') (D ++ [k]).length (k2 (D ++ [k])) → Ch (fun j => j = g) (w1.drewN m) w2 → (g = g' ∨ w1.heap.size ≤ g') → R (.returned (.int .i64 D.length)) (w2.setCell ⟨kb, 0, none⟩ (.slice (some ⟨g', 0, none⟩) (D.length + 1) cap'))) := hR2
 clear hR1 hR2
 have HB : Hid (w1.heap[kb]? = some (.cells #[.slice (some ⟨g, 0, none⟩) D.length cap] 61 (0, 0))) := hb
 have HOW : Hid (w1.ownsRow 0 31 2 (.slice (some ⟨g, 0, none⟩) D.length cap) D.length (k2 D)) := ho
 have HX : Hid (w1.heap[w.heap.size]? = some (.cells #[.string k.1, .int .i64 k.2] 31 (0, 0))) := hx
 obtain ⟨n, hn⟩ : ∃ n, D.length = n := ⟨_, rfl⟩
 have HL : Hid (D.length = n ∧ n ≤ 1000000) := ⟨hn, by omega⟩
 obtain ⟨kx, ki⟩ := k
 have hp0 : ((n : Int) == 0) = false := beq_eq_false_iff_ne.2 (by omega)
 have HP : Hid (0 < n) := by show 0 < n; omega
 rw [hn] at hs
 clear hb ho hx hl hpos hn
 unfold mk
 dsimp only at hs HX ⊢
 unfold pt
 rcases hs with ⟨hw1, hs⟩ | ⟨wa, hs, hra, hwa, hw1⟩
 ·
  have HW1 := (show Hid (w1 = ((w.alloc (.cells #[.string kx, .int .i64 ki] 31)).alloc (.cells #[.string ⟨#[]⟩, .int .i64 0] 31))) from hw1)
  have kl : kb < w.heap.size := cell_ltk hs
  have e00 : ((w.alloc (.cells #[.string kx, .int .i64 ki] 31)).alloc (.cells #[.string ⟨#[]⟩, .int .i64 0] 31)).cell? ⟨kb, 0, none⟩ = some (.slice (some ⟨g, 0, none⟩) n cap) := by rw [World.cell?_alloc_lt, World.cell?_alloc_lt]; exact hs; exact kl; simp; omega
  clear hw1 hs kl
  go_enter Tryz.func21, Tryz.ntmps21
  go_wp2_with fail
  rw [← HW1.out]
  clear HW1 e00
  go_loopg [6] n (fun gk s6 wx => ∃ j : Nat, j + gk = n ∧ s6 = .int .i64 j ∧ Hid (∀ q, q < j → D[q]? ≠ some (kx, ki)) ∧ Hid (∃ m, wx = w1.drewN m))
  case atStart => exact ⟨0, by omega, rfl, fun q hq => absurd hq (Nat.not_lt_zero _), 0, rfl⟩
  case round =>
   obtain ⟨j, hj, rfl, HQ, HW⟩ := hrel
   obtain ⟨m, hm⟩ := HW.out
   have HBr : Hid (wr.heap[kb]? = some (.cells #[.slice (some ⟨g, 0, none⟩) n cap] 61 (0, 0))) := by show _ = _; rw [hm, ← HL.out.1]; exact HB.out
   have HXr : Hid (wr.heap[w.heap.size]? = some (.cells #[.string kx, .int .i64 ki] 31 (0, 0))) := by show _ = _; rw [hm]; exact HX.out
   have HOr : Hid (wr.ownsRow 0 31 2 (.slice (some ⟨g, 0, none⟩) n cap) D.length (k2 D)) := by show wr.ownsRow _ _ _ _ _ _; rw [hm, ← HL.out.1]; exact HOW.out
   have e0 : wr.cell? ⟨kb, 0, none⟩ = some (.slice (some ⟨g, 0, none⟩) n cap) := box_cells HBr.out 0 _ rfl
   have x0 : wr.cell? ⟨w.heap.size, 0, none⟩ = some (.string kx) := box_cells HXr.out 0 _ rfl
   have x1 : wr.cell? ⟨w.heap.size, 1, none⟩ = some (.int .i64 ki) := box_cells HXr.out 1 _ rfl
   have HM := (show Hid (wr = w1.drewN m) from hm)
   clear hm HW
   cases gk with
   | zero =>
    obtain rfl : j = n := by omega
    have hz : ¬ (j : Int) < (j : Int) := by omega
    have hnk : (kx, ki) ∉ D := fun q => by
     obtain ⟨a, ha, he⟩ := List.mem_iff_getElem.1 q
     exact HQ.out a (by have := HL.out; omega) (by rw [List.getElem?_eq_getElem ha, he])
    have HNK : Hid ((kx, ki) ∉ D) := hnk
    have HOd : wr.drew.ownsRow 0 31 2 (.slice (some ⟨g, 0, none⟩) j cap) D.length (k2 D) := HOr.out
    obtain ⟨g2, cap2, w2, hrun, ho2, hc2, hg2⟩ := app_one HOd (kx, ki) (by have := HL.out; omega)
    rw [HL.out.1] at hrun
    have hHd : wr.drew.heap[kb]? = some (.cells #[.slice (some ⟨g, 0, none⟩) j cap] 61 (0, 0)) := HBr.out
    have hm2 := CD.more hHd HOd ho2 hc2
    have e2 : w2.cell? ⟨kb, 0, none⟩ = some (.slice (some ⟨g, 0, none⟩) j cap) := box_cells hm2.1 0 _ rfl
    have f2 : w2.frozen? ⟨kb, 0, none⟩ = false := box_frozen hm2.1 0
    have HRN : Hid ((Builtin.append_ #[59, 59] 59 #[.slice (some ⟨g, 0, none⟩) j cap, .slice (some ⟨wr.heap.size, 0, none⟩) 1 1]).run Tryz.prog (wr.drew.alloc (.cells #[.string kx, .int .i64 ki] 31)) = .ok (.slice (some ⟨g2, 0, none⟩) (j + 1) cap2) w2) := hrun
    have Z2 : Hid (R (.returned (.int .i64 j)) (w2.setCell ⟨kb, 0, none⟩ (.slice (some ⟨g2, 0, none⟩) (j + 1) cap2))) := by
     have h1 := HR2.out HNK.out (m + 1) g2 cap2 w2 ho2 (by
      have e : w1.drewN (m + 1) = wr.drew := by rw [HM.out, ← World.drewN_drewN]; rfl
      rw [e]
      exact hc2.mono (fun j _ q => by simpa [Value.ownBlock, eq_comm] using q)) (by
      rcases hg2 with q | q
      ·
       left; simpa [Value.ownBlock] using q
      ·
       right
       rw [HM.out] at q
       exact q)
     rw [HL.out.1] at h1
     exact h1
    have kbl : kb < wr.drew.heap.size := (Array.getElem?_eq_some_iff.1 hHd).1
    have xl : w.heap.size < wr.drew.heap.size := (Array.getElem?_eq_some_iff.1 HXr.out).1
    have e0d : wr.drew.cell? ⟨kb, 0, none⟩ = some (.slice (some ⟨g, 0, none⟩) j cap) := e0
    have e0a : (wr.drew.alloc (.cells #[.string kx, .int .i64 ki] 31)).cell? ⟨kb, 0, none⟩ = some (.slice (some ⟨g, 0, none⟩) j cap) := by rw [World.cell?_alloc_lt]; exact e0; exact kbl
    have e0b : (wr.alloc (.cells #[.string kx, .int .i64 ki] 31)).cell? ⟨kb, 0, none⟩ = some (.slice (some ⟨g, 0, none⟩) j cap) := e0a
    have x0d : wr.drew.cell? ⟨w.heap.size, 0, none⟩ = some (.string kx) := x0
    have x1d : wr.drew.cell? ⟨w.heap.size, 1, none⟩ = some (.int .i64 ki) := x1
    have hws : IntKind.i64.wrap (((j + 1 : Nat) : Int) - 1) = (j : Int) := by rw [IntKind.wrap_i64]; have := HL.out; omega
    have hws' : IntKind.i64.wrap ((j : Int) + 1 - 1) = (j : Int) := by rw [IntKind.wrap_i64]; have := HL.out; omega
    have hws2 : (j : Int) + 1 - 1 = (j : Int) := by omega
    have hws3 : wrap64 (j : Int) = (j : Int) := by unfold wrap64; have := HL.out; omega
    clear hrun ho2 hc2 hg2 hm2 hnk HOd hHd
    go_wp2_with fail
    go_region_law (refine step_append_runk rfl (.tmp 46) (.tmp 48) 59 59 rfl _ _ rfl rfl _ w2 HRN.out ?_)
    all_goals go_wp2_with fail
    all_goals (try go_ret)
    all_goals first | exact Z2.out | (simp only [hws3]; exact Z2.out)
   | succ gk =>
    have hz : (j : Int) < (n : Int) := by omega
    have hz0 : (0 : Int) ≤ (j : Int) := by omega
    have hjl : j < D.length := by have := HL.out; omega
    have hwj : IntKind.i64.wrap ((j : Int) + 1) = (j : Int) + 1 := by rw [IntKind.wrap_i64]; have := HL.out; omega
    obtain ⟨⟨yx, yi⟩, hy⟩ : ∃ x, D[j]? = some x := ⟨_, List.getElem?_eq_getElem hjl⟩
    have hyc : wr.cell? ⟨g, j * 2, none⟩ = some (.string yx) ∧ wr.cell? ⟨g, j * 2 + 1, none⟩ = some (.int .i64 yi) := by
     have q := k2_at D j _ hy
     have c1 := HOr.out.cells (g := g) rfl (j * 2) _ q.1
     have c2 := HOr.out.cells (g := g) rfl (j * 2 + 1) _ q.2
     have ad : ∀ t, (⟨g, 0, none⟩ : Addr).add t = ⟨g, t, none⟩ := fun t => by unfold Addr.add; split <;> simp_all
     rw [ad] at c1 c2
     exact ⟨c1, c2⟩
    obtain ⟨y0, y1⟩ := hyc
    have HYY : Hid (D[j]? = some (yx, yi)) := hy
    have HM1 : Hid (wr.drew = w1.drewN (m + 1)) := by show _ = _; rw [HM.out, ← World.drewN_drewN]; rfl
    clear hy
    have HEQ := (show Hid (∀ W, (binOp .eql 31 (.agg #[.string yx, .int .i64 yi]) (.agg #[.string kx, .int .i64 ki])).run Tryz.prog W = .ok (.bool (decide ((yx, yi) = (kx, ki)))) W) from fun W => eql31 yx kx yi ki W)
    by_cases hxk : (yx, yi) = (kx, ki)
    ·
     injection hxk with h1 h2
     subst h1 h2
     have Z1 : Hid (R (.returned (.int .i64 j)) wr.drew) := by show R _ _; rw [HM1.out]; exact HR1.out j (m + 1) HYY.out HQ.out
     go_wp2_with fail
     go_region
     all_goals go_wp2_with fail
     all_goals (try go_ret)
     all_goals exact Z1.out
    ·
     have HNE : Hid (¬ (yx, yi) = (kx, ki)) := hxk
     have hne : decide ((yx, yi) = (kx, ki)) = false := decide_eq_false hxk
     have hne1 : ¬ (yx = kx ∧ yi = ki) := fun q => hxk (by rw [q.1, q.2])
     clear hxk HEQ
     by_cases hyx : yx = kx
     ·
      subst hyx
      have hyi : ¬ yi = ki := fun q => hne1 ⟨rfl, q⟩
      clear hne hne1
      go_wp2_with fail
      go_region
      all_goals go_wp2_with fail
      all_goals go_roundg gk
      case measure => omega
      case rel => exact ⟨j + 1, by omega, by first | rfl | simp, fun q hq => by
       by_cases e : q = j
       ·
        rw [e, HYY.out]
        exact fun r => HNE.out (Option.some.inj r)
       ·
        exact HQ.out q (by omega), m + 1, HM1.out⟩
     ·
      have hyt : ¬ yx.toList = kx.toList := fun q => hyx (by have b := bytes_beq yx kx; rw [q] at b; simpa using b.symm)
      clear hne hne1 hyx
      go_wp2_with fail
      go_region
      all_goals go_wp2_with fail
      all_goals go_roundg gk
      case measure => omega
      case rel => exact ⟨j + 1, by omega, by first | rfl | simp, fun q hq => by
       by_cases e : q = j
       ·
        rw [e, HYY.out]
        exact fun r => HNE.out (Option.some.inj r)
       ·
        exact HQ.out q (by omega), m + 1, HM1.out⟩
 ·
  have HRA : Hid ((Builtin.append_ #[59, 59] 59 #[.slice none 0 0, .slice (some ⟨w.heap.size + 1 + 1, 0, none⟩) 1 1]).run Tryz.prog (((w.alloc (.cells #[.string kx, .int .i64 ki] 31)).alloc (.cells #[.string ⟨#[]⟩, .int .i64 0] 31)).drew.alloc (.cells #[.string ⟨#[]⟩, .int .i64 0] 31)) = .ok (.slice (some ⟨g, 0, none⟩) n cap) wa) := hra
  have HW1 : Hid (w1 = wa.setCell ⟨kb, 0, none⟩ (.slice (some ⟨g, 0, none⟩) n cap)) := hw1
  have kl : kb < w.heap.size := (Array.getElem?_eq_some_iff.1 hs).1
  have hc0 := box_cells hs 0 _ rfl
  have e00 : ((w.alloc (.cells #[.string kx, .int .i64 ki] 31)).alloc (.cells #[.string ⟨#[]⟩, .int .i64 0] 31)).cell? ⟨kb, 0, none⟩ = some (.slice none 0 0) := by rw [World.cell?_alloc_lt, World.cell?_alloc_lt]; exact hc0; exact kl; simp; omega
  have e01 : ((w.alloc (.cells #[.string kx, .int .i64 ki] 31)).alloc (.cells #[.string ⟨#[]⟩, .int .i64 0] 31)).drew.cell? ⟨kb, 0, none⟩ = some (.slice none 0 0) := e00
  have e02 : (((w.alloc (.cells #[.string kx, .int .i64 ki] 31)).alloc (.cells #[.string ⟨#[]⟩, .int .i64 0] 31)).drew.alloc (.cells #[.string ⟨#[]⟩, .int .i64 0] 31)).cell? ⟨kb, 0, none⟩ = some (.slice none 0 0) := by rw [World.cell?_alloc_lt]; exact e00; simp; omega
  have e03 : (((w.alloc (.cells #[.string kx, .int .i64 ki] 31)).alloc (.cells #[.string ⟨#[]⟩, .int .i64 0] 31)).alloc (.cells #[.string ⟨#[]⟩, .int .i64 0] 31)).cell? ⟨kb, 0, none⟩ = some (.slice none 0 0) := e02
  have ca := box_cells hwa 0 _ rfl
  have fa := box_frozen hwa 0
  clear hra hw1 hs hwa hc0
  go_enter Tryz.func21, Tryz.ntmps21
  go_wp2_with fail
  go_region_law (refine step_append_runk rfl (.tmp 17) (.tmp 19) 59 59 rfl _ _ rfl rfl _ wa HRA.out ?_)
  all_goals go_wp2_with fail
  all_goals rw [← HW1.out]
  all_goals clear HW1
  all_goals
   go_loopg [6] n (fun gk s6 wx => ∃ j : Nat, j + gk = n ∧ s6 = .int .i64 j ∧ Hid (∀ q, q < j → D[q]? ≠ some (kx, ki)) ∧ Hid (∃ m, wx = w1.drewN m))
   case atStart => exact ⟨0, by omega, rfl, fun q hq => absurd hq (Nat.not_lt_zero _), 0, rfl⟩
   case round =>
    obtain ⟨j, hj, rfl, HQ, HW⟩ := hrel
    obtain ⟨m, hm⟩ := HW.out
    have HBr : Hid (wr.heap[kb]? = some (.cells #[.slice (some ⟨g, 0, none⟩) n cap] 61 (0, 0))) := by show _ = _; rw [hm, ← HL.out.1]; exact HB.out
    have HXr : Hid (wr.heap[w.heap.size]? = some (.cells #[.string kx, .int .i64 ki] 31 (0, 0))) := by show _ = _; rw [hm]; exact HX.out
    have HOr : Hid (wr.ownsRow 0 31 2 (.slice (some ⟨g, 0, none⟩) n cap) D.length (k2 D)) := by show wr.ownsRow _ _ _ _ _ _; rw [hm, ← HL.out.1]; exact HOW.out
    have e0 : wr.cell? ⟨kb, 0, none⟩ = some (.slice (some ⟨g, 0, none⟩) n cap) := box_cells HBr.out 0 _ rfl
    have x0 : wr.cell? ⟨w.heap.size, 0, none⟩ = some (.string kx) := box_cells HXr.out 0 _ rfl
    have x1 : wr.cell? ⟨w.heap.size, 1, none⟩ = some (.int .i64 ki) := box_cells HXr.out 1 _ rfl
    have HM := (show Hid (wr = w1.drewN m) from hm)
    clear hm HW
    cases gk with
    | zero =>
     obtain rfl : j = n := by omega
     have hz : ¬ (j : Int) < (j : Int) := by omega
     have hnk : (kx, ki) ∉ D := fun q => by
      obtain ⟨a, ha, he⟩ := List.mem_iff_getElem.1 q
      exact HQ.out a (by have := HL.out; omega) (by rw [List.getElem?_eq_getElem ha, he])
     have HNK : Hid ((kx, ki) ∉ D) := hnk
     have HOd : wr.drew.ownsRow 0 31 2 (.slice (some ⟨g, 0, none⟩) j cap) D.length (k2 D) := HOr.out
     obtain ⟨g2, cap2, w2, hrun, ho2, hc2, hg2⟩ := app_one HOd (kx, ki) (by have := HL.out; omega)
     rw [HL.out.1] at hrun
     have hHd : wr.drew.heap[kb]? = some (.cells #[.slice (some ⟨g, 0, none⟩) j cap] 61 (0, 0)) := HBr.out
     have hm2 := CD.more hHd HOd ho2 hc2
     have e2 : w2.cell? ⟨kb, 0, none⟩ = some (.slice (some ⟨g, 0, none⟩) j cap) := box_cells hm2.1 0 _ rfl
     have f2 : w2.frozen? ⟨kb, 0, none⟩ = false := box_frozen hm2.1 0
     have HRN : Hid ((Builtin.append_ #[59, 59] 59 #[.slice (some ⟨g, 0, none⟩) j cap, .slice (some ⟨wr.heap.size, 0, none⟩) 1 1]).run Tryz.prog (wr.drew.alloc (.cells #[.string kx, .int .i64 ki] 31)) = .ok (.slice (some ⟨g2, 0, none⟩) (j + 1) cap2) w2) := hrun
     have Z2 : Hid (R (.returned (.int .i64 j)) (w2.setCell ⟨kb, 0, none⟩ (.slice (some ⟨g2, 0, none⟩) (j + 1) cap2))) := by
      have h1 := HR2.out HNK.out (m + 1) g2 cap2 w2 ho2 (by
       have e : w1.drewN (m + 1) = wr.drew := by rw [HM.out, ← World.drewN_drewN]; rfl
       rw [e]
       exact hc2.mono (fun j _ q => by simpa [Value.ownBlock, eq_comm] using q)) (by
       rcases hg2 with q | q
       ·
        left; simpa [Value.ownBlock] using q
       ·
        right
        rw [HM.out] at q
        exact q)
      rw [HL.out.1] at h1
      exact h1
     have kbl : kb < wr.drew.heap.size := (Array.getElem?_eq_some_iff.1 hHd).1
     have xl : w.heap.size < wr.drew.heap.size := (Array.getElem?_eq_some_iff.1 HXr.out).1
     have e0d : wr.drew.cell? ⟨kb, 0, none⟩ = some (.slice (some ⟨g, 0, none⟩) j cap) := e0
     have e0a : (wr.drew.alloc (.cells #[.string kx, .int .i64 ki] 31)).cell? ⟨kb, 0, none⟩ = some (.slice (some ⟨g, 0, none⟩) j cap) := by rw [World.cell?_alloc_lt]; exact e0; exact kbl
     have e0b : (wr.alloc (.cells #[.string kx, .int .i64 ki] 31)).cell? ⟨kb, 0, none⟩ = some (.slice (some ⟨g, 0, none⟩) j cap) := e0a
     have x0d : wr.drew.cell? ⟨w.heap.size, 0, none⟩ = some (.string kx) := x0
     have x1d : wr.drew.cell? ⟨w.heap.size, 1, none⟩ = some (.int .i64 ki) := x1
     have hws : IntKind.i64.wrap (((j + 1 : Nat) : Int) - 1) = (j : Int) := by rw [IntKind.wrap_i64]; have := HL.out; omega
     have hws' : IntKind.i64.wrap ((j : Int) + 1 - 1) = (j : Int) := by rw [IntKind.wrap_i64]; have := HL.out; omega
     have hws2 : (j : Int) + 1 - 1 = (j : Int) := by omega
     have hws3 : wrap64 (j : Int) = (j : Int) := by unfold wrap64; have := HL.out; omega
     clear hrun ho2 hc2 hg2 hm2 hnk HOd hHd
     go_wp2_with fail
     go_region_law (refine step_append_runk rfl (.tmp 46) (.tmp 48) 59 59 rfl _ _ rfl rfl _ w2 HRN.out ?_)
     all_goals go_wp2_with fail
     all_goals (try go_ret)
     all_goals first | exact Z2.out | (simp only [hws3]; exact Z2.out)
    | succ gk =>
     have hz : (j : Int) < (n : Int) := by omega
     have hz0 : (0 : Int) ≤ (j : Int) := by omega
     have hjl : j < D.length := by have := HL.out; omega
     have hwj : IntKind.i64.wrap ((j : Int) + 1) = (j : Int) + 1 := by rw [IntKind.wrap_i64]; have := HL.out; omega
     obtain ⟨⟨yx, yi⟩, hy⟩ : ∃ x, D[j]? = some x := ⟨_, List.getElem?_eq_getElem hjl⟩
     have hyc : wr.cell? ⟨g, j * 2, none⟩ = some (.string yx) ∧ wr.cell? ⟨g, j * 2 + 1, none⟩ = some (.int .i64 yi) := by
      have q := k2_at D j _ hy
      have c1 := HOr.out.cells (g := g) rfl (j * 2) _ q.1
      have c2 := HOr.out.cells (g := g) rfl (j * 2 + 1) _ q.2
      have ad : ∀ t, (⟨g, 0, none⟩ : Addr).add t = ⟨g, t, none⟩ := fun t => by unfold Addr.add; split <;> simp_all
      rw [ad] at c1 c2
      exact ⟨c1, c2⟩
     obtain ⟨y0, y1⟩ := hyc
     have HYY : Hid (D[j]? = some (yx, yi)) := hy
     have HM1 : Hid (wr.drew = w1.drewN (m + 1)) := by show _ = _; rw [HM.out, ← World.drewN_drewN]; rfl
     clear hy
     have HEQ := (show Hid (∀ W, (binOp .eql 31 (.agg #[.string yx, .int .i64 yi]) (.agg #[.string kx, .int .i64 ki])).run Tryz.prog W = .ok (.bool (decide ((yx, yi) = (kx, ki)))) W) from fun W => eql31 yx kx yi ki W)
     by_cases hxk : (yx, yi) = (kx, ki)
     ·
      injection hxk with h1 h2
      subst h1 h2
      have Z1 : Hid (R (.returned (.int .i64 j)) wr.drew) := by show R _ _; rw [HM1.out]; exact HR1.out j (m + 1) HYY.out HQ.out
      go_wp2_with fail
      go_region
      all_goals go_wp2_with fail
      all_goals (try go_ret)
      all_goals exact Z1.out
     ·
      have HNE : Hid (¬ (yx, yi) = (kx, ki)) := hxk
      have hne : decide ((yx, yi) = (kx, ki)) = false := decide_eq_false hxk
      have hne1 : ¬ (yx = kx ∧ yi = ki) := fun q => hxk (by rw [q.1, q.2])
      clear hxk HEQ
      by_cases hyx : yx = kx
      ·
       subst hyx
       have hyi : ¬ yi = ki := fun q => hne1 ⟨rfl, q⟩
       clear hne hne1
       go_wp2_with fail
       go_region
       all_goals go_wp2_with fail
       all_goals go_roundg gk
       case measure => omega
       case rel => exact ⟨j + 1, by omega, by first | rfl | simp, fun q hq => by
        by_cases e : q = j
        ·
         rw [e, HYY.out]
         exact fun r => HNE.out (Option.some.inj r)
        ·
         exact HQ.out q (by omega), m + 1, HM1.out⟩
      ·
       have hyt : ¬ yx.toList = kx.toList := fun q => hyx (by have b := bytes_beq yx kx; rw [q] at b; simpa using b.symm)
       clear hne hne1 hyx
       go_wp2_with fail
       go_region
       all_goals go_wp2_with fail
       all_goals go_roundg gk
       case measure => omega
       case rel => exact ⟨j + 1, by omega, by first | rfl | simp, fun q hq => by
        by_cases e : q = j
        ·
         rw [e, HYY.out]
         exact fun r => HNE.out (Option.some.inj r)
        ·
         exact HQ.out q (by omega), m + 1, HM1.out⟩
end Go.Proofs.YtdhinpmjbcohaaaGreat.Qk
namespace Go.Proofs.YtdhinpmjbcohaaaGreat.Qk
open Go Go.RowKit
set_option linter.unusedSimpArgs false
set_option linter.unusedVariables false

theorem wa_below (w : World) (k : Kt) : Below w.heap.size w ((w.alloc (.cells #[.string k.1, .int .i64 k.2] 31)).alloc (.cells #[.string ⟨#[]⟩, .int .i64 0] 31)) := ((Below.refl _ _).alloc (Nat.le_refl _) _).alloc (by simp) _
theorem wa_key (w : World) (k : Kt) : ((w.alloc (.cells #[.string k.1, .int .i64 k.2] 31)).alloc (.cells #[.string ⟨#[]⟩, .int .i64 0] 31)).heap[w.heap.size]? = some (.cells #[.string k.1, .int .i64 k.2] 31 (0, 0)) :=
 (Below.heap_alloc _ _ _ (by simp)).trans (heap_alloc_new w _)
theorem below_drewN' {B : Nat} {w0 w : World} (h : Below B w0 w) (m : Nat) : Below B w0 (w.drewN m) := ⟨h.os, h.tape, h.output, h.size, h.block⟩
theorem ch_drewN {S : Nat → Prop} {w0 w : World} (h : Ch S w0 w) (m : Nat) : Ch S w0 (w.drewN m) := ⟨h.os, h.tape, h.output, h.size, h.block⟩
theorem of_any {w : World} {kb : Nat} {C : List Kt} {G : Nat → Prop} (h : CD w kb C G) (k : Kt) (hl : C.length ≤ 900000) : Calls Tryz.prog 21 #[pt kb, mk k] w fun r w' => r = .returned (.int .i64 (ix k (ext z0 C k))) ∧ (∃ G', CD w' kb (ext z0 C k) G' ∧ ∀ j, G' j → G j ∨ w.heap.size ≤ j) ∧ Ch G w w' := by
 obtain ⟨v, hb, ho, hG, hnil⟩ := h
 have hkb := (Array.getElem?_eq_some_iff.1 hb).1
 have hwb := wa_below w k
 have hws : ((w.alloc (.cells #[.string k.1, .int .i64 k.2] 31)).alloc (.cells #[.string ⟨#[]⟩, .int .i64 0] 31)).heap.size = w.heap.size + 1 + 1 := by simp
 cases C with
 | nil =>
  obtain rfl := hnil rfl
  have hbA : ((w.alloc (.cells #[.string k.1, .int .i64 k.2] 31)).alloc (.cells #[.string ⟨#[]⟩, .int .i64 0] 31)).drew.heap[kb]? = some (.cells #[.slice none 0 0] 61 (0, 0)) := (hwb.block kb hkb).trans hb
  have hoA : ((w.alloc (.cells #[.string k.1, .int .i64 k.2] 31)).alloc (.cells #[.string ⟨#[]⟩, .int .i64 0] 31)).drew.ownsRow 0 31 2 (.slice none 0 0) ([] : List Kt).length (k2 []) := World.ownsRow_nil _ _ _ _
  obtain ⟨g, cap, wa, hrun, ho2, hc2, hg2⟩ := app_one (C := []) hoA z0 (by simp)
  obtain ⟨hba, v1, hb1, ho1, hG1, hnl1⟩ := CD.more hbA hoA ho2 hc2
  have hgn : w.heap.size ≤ g := by
   have := hg2.resolve_left (by simp [Value.ownBlock])
   have h3 : ((w.alloc (.cells #[.string k.1, .int .i64 k.2] 31)).alloc (.cells #[.string ⟨#[]⟩, .int .i64 0] 31)).drew.heap.size = w.heap.size + 1 + 1 := hws
   omega
  have hcA : Ch G w wa := (Below.ch hwb.drew).then (hc2.mono (fun j _ q => by simp [Value.ownBlock] at q))
  have hc1 : Ch G w (wa.setCell ⟨kb, 0, none⟩ (.slice (some ⟨g, 0, none⟩) 1 cap)) := hcA.then ((ch_set kb 0 _).mono (fun j _ q => (hG j).2 (.inl q)))
  have hb1' : (wa.setCell ⟨kb, 0, none⟩ (.slice (some ⟨g, 0, none⟩) 1 cap)).heap[kb]? = some (.cells #[.slice (some ⟨g, 0, none⟩) 1 cap] 61 (0, 0)) := by
   rw [heap_set hba]
   simp
  obtain rfl : v1 = .slice (some ⟨g, 0, none⟩) 1 cap := by
   have := hb1.symm.trans hb1'
   simpa using this
  have hx1 : (wa.setCell ⟨kb, 0, none⟩ (.slice (some ⟨g, 0, none⟩) 1 cap)).heap[w.heap.size]? = some (.cells #[.string k.1, .int .i64 k.2] 31 (0, 0)) := by
   rw [heap_set_ne _ (by omega)]
   exact (hc2.block w.heap.size (by show w.heap.size < ((w.alloc (.cells #[.string k.1, .int .i64 k.2] 31)).alloc (.cells #[.string ⟨#[]⟩, .int .i64 0] 31)).heap.size; omega) (by simp [Value.ownBlock])).trans (wa_key w k)
  refine of_walk (D := [z0]) (w := w) (k := k) _ hb1' ho1 hx1 (by simp) (by simp) (.inr ⟨wa, hb, ?_, hba, rfl⟩) _ (fun j m h1 h2 => ?_) (fun hn m g' cap' w2 h1 h2 h3 => ?_)
  ·
   have e1 : ((w.alloc (.cells #[.string k.1, .int .i64 k.2] 31)).alloc (.cells #[.string ⟨#[]⟩, .int .i64 0] 31)).drew.heap.size = w.heap.size + 1 + 1 := hws
   rw [e1] at hrun
   exact hrun
  ·
   have hk : k ∈ [z0] := List.mem_of_getElem? h1
   have he : ext z0 [] k = [z0] := ext_in rfl hk
   rw [he, ix_first h1 h2]
   refine ⟨rfl, ⟨_, CD.keep ⟨_, hb1', ho1, hG1, fun q => absurd q (by simp)⟩ (fun _ _ => rfl), fun j q => ?_⟩, ch_drewN hc1 m⟩
   rcases q with q | q
   ·
    exact .inl ((hG j).2 (.inl q))
   ·
    exact .inr (q ▸ hgn)
  ·
   have he : ext z0 [] k = [z0] ++ [k] := ext_out rfl hn
   rw [he, ix_new hn]
   have hm := CD.more (w' := w2) (w := (wa.setCell ⟨kb, 0, none⟩ (.slice (some ⟨g, 0, none⟩) 1 cap)).drewN m) (C := [z0]) hb1' ho1 h1 (h2.mono (fun j _ q => by rw [q]; rfl))
   have hs1 := hc1.size
   refine ⟨rfl, ⟨_, hm.2, fun j q => ?_⟩, ?_⟩
   ·
    rcases q with q | q
    ·
     exact .inl ((hG j).2 (.inl q))
    ·
     rcases h3 with r | r
     ·
      exact .inr (by omega)
     ·
      exact .inr (by omega)
   ·
    refine ((ch_drewN hc1 m).trans h2 (fun j hj q => ?_)).then ((ch_set kb 0 _).mono (fun j _ q => (hG j).2 (.inl q)))
    omega
 | cons x t =>
  rcases ho.2 with ⟨_, q⟩ | ⟨g, cap, cur, rfl, _, hgh, _⟩
  ·
   simp at q
  ·
   have hbA : ((w.alloc (.cells #[.string k.1, .int .i64 k.2] 31)).alloc (.cells #[.string ⟨#[]⟩, .int .i64 0] 31)).heap[kb]? = some (.cells #[.slice (some ⟨g, 0, none⟩) (x :: t).length cap] 61 (0, 0)) := (hwb.block kb hkb).trans hb
   have hgG : G g := (hG g).2 (.inr rfl)
   have hoA : ((w.alloc (.cells #[.string k.1, .int .i64 k.2] 31)).alloc (.cells #[.string ⟨#[]⟩, .int .i64 0] 31)).ownsRow 0 31 2 (.slice (some ⟨g, 0, none⟩) (x :: t).length cap) (x :: t).length (k2 (x :: t)) := (ho.alloc _).alloc _
   refine of_walk (D := x :: t) (w := w) (k := k) _ hbA hoA (wa_key w k) (by omega) (by simp) (.inl ⟨rfl, box_cells hb 0 _ rfl⟩) _ (fun j m h1 h2 => ?_) (fun hn m g' cap' w2 h1 h2 h3 => ?_)
   ·
    have hk : k ∈ x :: t := List.mem_of_getElem? h1
    have he : ext z0 (x :: t) k = x :: t := ext_in rfl hk
    rw [he, ix_first h1 h2]
    exact ⟨rfl, ⟨G, CD.keep ⟨_, hbA, hoA, hG, hnil⟩ (fun _ _ => rfl), fun j q => .inl q⟩, ch_drewN (Below.ch hwb) m⟩
   ·
    have he : ext z0 (x :: t) k = (x :: t) ++ [k] := ext_out rfl hn
    rw [he, ix_new hn]
    have hm := CD.more (w' := w2) (w := ((w.alloc (.cells #[.string k.1, .int .i64 k.2] 31)).alloc (.cells #[.string ⟨#[]⟩, .int .i64 0] 31)).drewN m) (C := x :: t) hbA hoA h1 (h2.mono (fun j _ q => by rw [q]; rfl))
    refine ⟨rfl, ⟨_, hm.2, fun j q => ?_⟩, ?_⟩
    ·
     rcases q with q | q
     ·
      exact .inl ((hG j).2 (.inl q))
     ·
      rcases h3 with r | r
      ·
       exact .inl (by rw [q, ← r]; exact hgG)
      ·
       exact .inr (by omega)
    ·
     exact ((ch_drewN (Below.ch hwb) m).then (h2.mono (fun j _ q => q ▸ hgG))).then ((ch_set kb 0 _).mono (fun j _ q => (hG j).2 (.inl q)))
theorem of_known {w : World} {kb : Nat} {C : List Kt} {G : Nat → Prop} (h : CD w kb C G) {k : Kt} (hk : k ∈ C) (hl : C.length ≤ 900000) : Calls Tryz.prog 21 #[pt kb, mk k] w fun r w' => r = .returned (.int .i64 (ix k C)) ∧ Below w.heap.size w w' := by
 obtain ⟨v, hb, ho, hG, hnil⟩ := h
 have hkb := (Array.getElem?_eq_some_iff.1 hb).1
 have hwb := wa_below w k
 rcases ho.2 with ⟨_, q⟩ | ⟨g, cap, cur, rfl, _⟩
 ·
  rw [List.length_eq_zero_iff.1 q] at hk
  cases hk
 ·
  have hbA : ((w.alloc (.cells #[.string k.1, .int .i64 k.2] 31)).alloc (.cells #[.string ⟨#[]⟩, .int .i64 0] 31)).heap[kb]? = some (.cells #[.slice (some ⟨g, 0, none⟩) C.length cap] 61 (0, 0)) := (hwb.block kb hkb).trans hb
  have hoA : ((w.alloc (.cells #[.string k.1, .int .i64 k.2] 31)).alloc (.cells #[.string ⟨#[]⟩, .int .i64 0] 31)).ownsRow 0 31 2 (.slice (some ⟨g, 0, none⟩) C.length cap) C.length (k2 C) := (ho.alloc _).alloc _
  refine of_walk (D := C) (w := w) (k := k) _ hbA hoA (wa_key w k) (by omega) (List.length_pos_of_mem hk) (.inl ⟨rfl, box_cells hb 0 _ rfl⟩) _ (fun j m h1 h2 => ?_) (fun hn => absurd hk hn)
  rw [ix_first h1 h2]
  exact ⟨rfl, below_drewN' hwb m⟩
end Go.Proofs.YtdhinpmjbcohaaaGreat.Qk
