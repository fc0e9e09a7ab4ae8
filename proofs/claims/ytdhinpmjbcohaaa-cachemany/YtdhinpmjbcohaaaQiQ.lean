import Derived.Test.YtdhinpmjbcohaaaPa
import Derived.Deep.LoopGhost
import Derived.Lib.AppendZeros
import Derived.Maps.AppendAt
namespace Go.Proofs.Ytdhinpmjbcohaaa.Qi
open Go Go.RowKit
set_option linter.unusedSimpArgs false
set_option linter.unusedVariables false

abbrev Kt := Int
def mk (k : Kt) : Value := .int .i64 k
/-- Things that are numbered, in memory; G: their blocks. -/
def CD (w : World) (kb : Nat) (C : List Kt) (G : Nat → Prop) : Prop := ∃ v, w.heap[kb]? = some (.cells #[v] 69 (0, 0)) ∧ w.ownsRow 0 3 1 v C.length (C.map mk) ∧ (∀ j, G j ↔ j = kb ∨ v.ownBlock = some j) ∧ (C = [] → v = .slice none 0 0)
theorem info_el : (Try.prog.info? 3).map (fun i => (i.zero, i.size, i.bytes)) = some (some (mk 0), 1, 8) := by kernel_rfl
theorem CD.keep {w w' : World} {kb : Nat} {C : List Kt} {G : Nat → Prop} (h : CD w kb C G) (hk : ∀ j, G j → w'.heap[j]? = w.heap[j]?) : CD w' kb C G := by
  obtain ⟨v, h1, h2, h3, h4⟩ := h
  refine ⟨v, (hk kb ((h3 kb).2 (.inl rfl))).trans h1, ?_, h3, h4⟩
  refine ⟨h2.1, ?_⟩
  rcases h2.2 with h0 | ⟨g, cap, cur, rfl, e1, hg, e2⟩
  · exact .inl h0
  · exact .inr ⟨g, cap, cur, rfl, e1, (hk g ((h3 g).2 (.inr rfl))).trans hg, e2⟩
theorem CD.lt {w : World} {kb : Nat} {C : List Kt} {G : Nat → Prop} (h : CD w kb C G) {j : Nat} (hj : G j) : j < w.heap.size := by
  obtain ⟨v, h1, h2, h3, h4⟩ := h
  rcases (h3 j).1 hj with rfl | q
  · exact (Array.getElem?_eq_some_iff.1 h1).1
  · exact (h2.lt j q).2
theorem own_blk {w : World} {B e s n : Nat} {v : Value} {xs : List Value} (h : w.ownsRow B e s v n xs) {k : Nat} (hk : v.ownBlock = some k) : ∃ c, w.heap[k]? = some (.cells c e (0, 0)) := by
  rcases h.2 with ⟨r, _⟩ | ⟨g, cap, cur, r, _, hg, _⟩
  · rw [r] at hk; cases hk
  · rw [r] at hk
    have e' : g = k := by simpa [Value.ownBlock] using hk
    subst e'
    exact ⟨_, hg⟩
/-- One more thing laid behind the others. -/
theorem app_one {w : World} {v : Value} {C : List Kt} (ho : w.ownsRow 0 3 1 v C.length (C.map mk)) (k : Kt) (hl : C.length ≤ 1000000) : ∃ g' cap' w', (Builtin.append_ #[59, 59] 59 #[v, .slice (some ⟨w.heap.size, 0, none⟩) 1 1]).run Try.prog (w.alloc (.cells #[mk k] 3)) = .ok (.slice (some ⟨g', 0, none⟩) (C.length + 1) cap') w' ∧ w'.ownsRow 0 3 1 (.slice (some ⟨g', 0, none⟩) (C.length + 1) cap') (C ++ [k]).length ((C ++ [k]).map mk) ∧ Ch (fun j => v.ownBlock = some j) w w' ∧ (v.ownBlock = some g' ∨ w.heap.size ≤ g') := by
  obtain ⟨i0, hi0, hz⟩ := Option.map_eq_some_iff.1 info_el
  simp only [Prod.mk.injEq] at hz
  obtain ⟨v', w', hr, h2, h3, h4, h5⟩ := run_append_own_at (P := Try.prog) (w.alloc (.cells #[mk k] 3)) 0 59 59 3 i0 (mk 0) 1 8 Try.underlying59 hi0 hz.1 hz.2.1 hz.2.2 (by simp [mk, Value.cells]) (by decide) v C.length (C.map mk) (ho.alloc _) ⟨w.heap.size, 0, none⟩ 1 1 [mk k] rfl (cell_one_new _ _ _) (by simp [Value.oneCell', mk]) (by unfold maxLen; omega) (by omega) (by omega)
  rcases h2.2 with ⟨_, q⟩ | ⟨g', cap', cur, rfl, _⟩
  · omega
  · refine ⟨g', cap', w', hr, by simpa using h2, ?_, ?_⟩
    · exact (ch_alloc _ _ _).then ((ch_grown h3).mono (fun j _ q => q))
    · rcases h5 with q | q
      · exact .inl (by rw [← q]; rfl)
      · simp [Value.ownBlock] at q
        exact .inr (by omega)
theorem set_row {w : World} {kb t B e s n : Nat} {v x : Value} {xs : List Value} {cs : Array Value} (h : w.ownsRow B e s v n xs) (hb : w.heap[kb]? = some (.cells cs t (0, 0))) (ht : t ≠ e) (i : Nat) : (w.setCell ⟨kb, i, none⟩ x).ownsRow B e s v n xs := by
  refine ⟨h.1, ?_⟩
  rcases h.2 with h0 | ⟨g, cap, cur, rfl, e1, hg, e2⟩
  · exact .inl h0
  · refine .inr ⟨g, cap, cur, rfl, e1, (heap_set_ne _ (fun q => ?_)).trans hg, e2⟩
    rw [q, hb] at hg
    simp at hg
    exact ht hg.2
/-- What one more thing makes of it. -/
theorem CD.more {w w' : World} {kb g' cap' : Nat} {v : Value} {C : List Kt} {k : Kt} (hb : w.heap[kb]? = some (.cells #[v] 69 (0, 0))) (ho : w.ownsRow 0 3 1 v C.length (C.map mk)) (h2 : w'.ownsRow 0 3 1 (.slice (some ⟨g', 0, none⟩) (C.length + 1) cap') (C ++ [k]).length ((C ++ [k]).map mk)) (hc : Ch (fun j => v.ownBlock = some j) w w') :
    w'.heap[kb]? = some (.cells #[v] 69 (0, 0)) ∧ CD (w'.setCell ⟨kb, 0, none⟩ (.slice (some ⟨g', 0, none⟩) (C.length + 1) cap')) kb (C ++ [k]) (fun j => j = kb ∨ j = g') := by
  have hb' : w'.heap[kb]? = some (.cells #[v] 69 (0, 0)) := by
    rw [hc.block kb (Array.getElem?_eq_some_iff.1 hb).1 (fun q => by
      obtain ⟨c, hcc⟩ := own_blk ho q
      rw [hb] at hcc
      simp at hcc)]
    exact hb
  refine ⟨hb', _, ?_, set_row h2 hb' (by decide) 0, fun j => ?_, fun q => absurd q (by simp)⟩
  · rw [heap_set hb']
    simp
  · simp [Value.ownBlock, eq_comm]
set_option maxRecDepth 100000 in
set_option maxHeartbeats 4000000 in
/-- The search, and what is laid behind it. -/
theorem of_walk {w : World} {kb g cap : Nat} {D : List Kt} {v0 : Value} {k : Kt} (w1 : World) (hb : w1.heap[kb]? = some (.cells #[.slice (some ⟨g, 0, none⟩) D.length cap] 69 (0, 0))) (ho : w1.ownsRow 0 3 1 (.slice (some ⟨g, 0, none⟩) D.length cap) D.length (D.map mk)) (hl : D.length ≤ 1000000) (hpos : 0 < D.length)
    (hs : (w1 = w ∧ w.cell? ⟨kb, 0, none⟩ = some (.slice (some ⟨g, 0, none⟩) D.length cap)) ∨ ∃ wa, w.cell? ⟨kb, 0, none⟩ = some (.slice none 0 0) ∧ (Builtin.append_ #[59, 59] 59 #[.slice none 0 0, .slice (some ⟨w.heap.size, 0, none⟩) 1 1]).run Try.prog (w.alloc (.cells #[mk 0] 3)) = .ok (.slice (some ⟨g, 0, none⟩) D.length cap) wa ∧ wa.cell? ⟨kb, 0, none⟩ = some v0 ∧ wa.frozen? ⟨kb, 0, none⟩ = false ∧ w1 = wa.setCell ⟨kb, 0, none⟩ (.slice (some ⟨g, 0, none⟩) D.length cap) ∧ (w.alloc (.cells #[mk 0] 3)).cell? ⟨kb, 0, none⟩ = some (.slice none 0 0))
    (R : Ending → World → Prop) (hR1 : ∀ j : Nat, D[j]? = some k → (∀ q, q < j → D[q]? ≠ some k) → R (.returned (.int .i64 j)) w1)
    (hR2 : k ∉ D → ∀ g' cap' w2, w2.ownsRow 0 3 1 (.slice (some ⟨g', 0, none⟩) (D.length + 1) cap') (D ++ [k]).length ((D ++ [k]).map mk) → Ch (fun j => j = g) w1 w2 → (g = g' ∨ w1.heap.size ≤ g') → R (.returned (.int .i64 D.length)) (w2.setCell ⟨kb, 0, none⟩ (.slice (some ⟨g', 0, none⟩) (D.length + 1) cap'))) :
    Calls Try.prog 28 #[pt kb, mk k] w R := by
  have HR1 : Hid (∀ j : Nat, D[j]? = some k → (∀ q, q < j → D[q]? ≠ some k) → R (.returned (.int .i64 j)) w1) := hR1
  have HR2 : Hid (k ∉ D → ∀ g' cap' w2, w2.ownsRow 0 3 1 (.slice (some ⟨g', 0, none⟩) (D.length + 1) cap') (D ++ [k]).length ((D ++ [k]).map mk) → Ch (fun j => j = g) w1 w2 → (g = g' ∨ w1.heap.size ≤ g') → R (.returned (.int .i64 D.length)) (w2.setCell ⟨kb, 0, none⟩ (.slice (some ⟨g', 0, none⟩) (D.length + 1) cap'))) := hR2
  clear hR1 hR2
  have HB : Hid (w1.heap[kb]? = some (.cells #[.slice (some ⟨g, 0, none⟩) D.length cap] 69 (0, 0))) := hb
  have HOW : Hid (w1.ownsRow 0 3 1 (.slice (some ⟨g, 0, none⟩) D.length cap) D.length (D.map mk)) := ho
  have HL : Hid (D.length ≤ 1000000) := hl
  have hp0 : ((D.length : Int) == 0) = false := beq_eq_false_iff_ne.2 (by omega)
  clear hb ho hl hpos
  unfold mk at hs ⊢
  unfold pt
  rcases hs with ⟨rfl, hs⟩ | ⟨wa, hs, hra, ca, fa, hw1, cw⟩
  · go_enter Try.func28, Try.ntmps28
    go_wp2_with fail
    go_loopg [6] D.length (fun gk s6 wx => ∃ j : Nat, j + gk = D.length ∧ s6 = .int .i64 j ∧ Hid (∀ q, q < j → D[q]? ≠ some k) ∧ Hid (wx = w1))
    case atStart => exact ⟨0, by omega, rfl, fun q hq => absurd hq (Nat.not_lt_zero _), rfl⟩
    case round =>
      obtain ⟨j, hj, rfl, HQ, HX⟩ := hrel
      obtain rfl : wr = w1 := HX.out
      clear HX
      have e0 : wr.cell? ⟨kb, 0, none⟩ = some (.slice (some ⟨g, 0, none⟩) D.length cap) := box_cells HB.out 0 _ rfl
      cases gk with
      | zero =>
        obtain rfl : j = D.length := by omega
        have hz : ¬ (D.length : Int) < (D.length : Int) := by omega
        have hnk : k ∉ D := fun q => by
          obtain ⟨a, ha, he⟩ := List.mem_iff_getElem.1 q
          exact HQ.out a ha (by rw [List.getElem?_eq_getElem ha, he])
        have HNK : Hid (k ∉ D) := hnk
        obtain ⟨g2, cap2, w2, hrun, ho2, hc2, hg2⟩ := app_one HOW.out k HL.out
        have hm := CD.more HB.out HOW.out ho2 hc2
        have e2 : w2.cell? ⟨kb, 0, none⟩ = some (.slice (some ⟨g, 0, none⟩) D.length cap) := box_cells hm.1 0 _ rfl
        have f2 : w2.frozen? ⟨kb, 0, none⟩ = false := box_frozen hm.1 0
        have HRN : Hid ((Builtin.append_ #[59, 59] 59 #[.slice (some ⟨g, 0, none⟩) D.length cap, .slice (some ⟨wr.heap.size, 0, none⟩) 1 1]).run Try.prog (wr.alloc (.cells #[.int .i64 k] 3)) = .ok (.slice (some ⟨g2, 0, none⟩) (D.length + 1) cap2) w2) := hrun
        have Z2 : Hid (w2.ownsRow 0 3 1 (.slice (some ⟨g2, 0, none⟩) (D.length + 1) cap2) (D ++ [k]).length ((D ++ [k]).map mk) ∧ Ch (fun j => j = g) wr w2 ∧ (g = g2 ∨ wr.heap.size ≤ g2)) := ⟨ho2, hc2.mono (fun j _ q => by simpa [Value.ownBlock] using q.symm), by simpa [Value.ownBlock] using hg2⟩
        have ha : (wr.alloc (.cells #[.int .i64 k] 3)).cell? ⟨kb, 0, none⟩ = some (.slice (some ⟨g, 0, none⟩) D.length cap) := by rw [World.cell?_alloc_lt]; exact e0; exact (Array.getElem?_eq_some_iff.1 HB.out).1
        have hws : IntKind.i64.wrap (((D.length + 1 : Nat) : Int) - 1) = (D.length : Int) := by rw [IntKind.wrap_i64]; have := HL.out; omega
        have hws' : IntKind.i64.wrap ((D.length : Int) + 1 - 1) = (D.length : Int) := by rw [IntKind.wrap_i64]; have := HL.out; omega
        have hws2 : (D.length : Int) + 1 - 1 = (D.length : Int) := by omega
        have hws3 : wrap64 (D.length : Int) = (D.length : Int) := by unfold wrap64; have := HL.out; omega
        clear hrun ho2 hc2 hg2 hm hnk
        go_wp2_with (at_builtin; refine Lib.wpList_append_run _ rfl (.tmp 46) (.tmp 48) 59 59 rfl _ _ rfl rfl _ w2 HRN.out ?_)
        (try go_ret)
        first | exact HR2.out HNK.out g2 cap2 w2 Z2.out.1 Z2.out.2.1 Z2.out.2.2 | (simp only [hws3]; exact HR2.out HNK.out g2 cap2 w2 Z2.out.1 Z2.out.2.1 Z2.out.2.2)
      | succ gk =>
        have hz : (j : Int) < (D.length : Int) := by omega
        have hz0 : (0 : Int) ≤ (j : Int) := by omega
        have hjl : j < D.length := by omega
        have hwj : IntKind.i64.wrap ((j : Int) + 1) = (j : Int) + 1 := by rw [IntKind.wrap_i64]; have := HL.out; omega
        obtain ⟨x, hx⟩ : ∃ x, D[j]? = some x := ⟨_, List.getElem?_eq_getElem hjl⟩
        have hadd : (⟨g, 0, none⟩ : Addr).add j = ⟨g, j, none⟩ := by unfold Addr.add; split <;> simp_all
        have cx := HOW.out.cells (g := g) rfl j (mk x) (by simp [hx])
        rw [hadd] at cx
        have HXX : Hid (D[j]? = some x) := hx
        unfold mk at cx
        clear hx hadd
        by_cases hxk : x = k
        · subst hxk
          go_wp2_with fail
          (try go_ret)
          exact HR1.out j HXX.out HQ.out
        · have n1 : (x == k) = false := by simpa using hxk
          have HNE : Hid (¬ x = k) := hxk
          clear hxk
          go_wp2_with fail
          go_roundg gk
          case measure => omega
          case rel => exact ⟨j + 1, by omega, by first | rfl | simp, fun q hq => by
            by_cases e : q = j
            · rw [e, HXX.out]
              exact fun r => HNE.out (Option.some.inj r)
            · exact HQ.out q (by omega), rfl⟩
  · have HRA : Hid ((Builtin.append_ #[59, 59] 59 #[.slice none 0 0, .slice (some ⟨w.heap.size, 0, none⟩) 1 1]).run Try.prog (w.alloc (.cells #[.int .i64 0] 3)) = .ok (.slice (some ⟨g, 0, none⟩) D.length cap) wa) := hra
    have HW1 : Hid (w1 = wa.setCell ⟨kb, 0, none⟩ (.slice (some ⟨g, 0, none⟩) D.length cap)) := hw1
    clear hra hw1
    go_enter Try.func28, Try.ntmps28
    go_wp2_with (at_builtin; refine Lib.wpList_append_run _ rfl (.tmp 17) (.tmp 19) 59 59 rfl _ _ rfl rfl _ wa HRA.out ?_)
    rw [← HW1.out]
    clear HW1
    go_loopg [6] D.length (fun gk s6 wx => ∃ j : Nat, j + gk = D.length ∧ s6 = .int .i64 j ∧ Hid (∀ q, q < j → D[q]? ≠ some k) ∧ Hid (wx = w1))
    case atStart => exact ⟨0, by omega, rfl, fun q hq => absurd hq (Nat.not_lt_zero _), rfl⟩
    case round =>
      obtain ⟨j, hj, rfl, HQ, HX⟩ := hrel
      obtain rfl : wr = w1 := HX.out
      clear HX
      have e0 : wr.cell? ⟨kb, 0, none⟩ = some (.slice (some ⟨g, 0, none⟩) D.length cap) := box_cells HB.out 0 _ rfl
      cases gk with
      | zero =>
        obtain rfl : j = D.length := by omega
        have hz : ¬ (D.length : Int) < (D.length : Int) := by omega
        have hnk : k ∉ D := fun q => by
          obtain ⟨a, ha, he⟩ := List.mem_iff_getElem.1 q
          exact HQ.out a ha (by rw [List.getElem?_eq_getElem ha, he])
        have HNK : Hid (k ∉ D) := hnk
        obtain ⟨g2, cap2, w2, hrun, ho2, hc2, hg2⟩ := app_one HOW.out k HL.out
        have hm := CD.more HB.out HOW.out ho2 hc2
        have e2 : w2.cell? ⟨kb, 0, none⟩ = some (.slice (some ⟨g, 0, none⟩) D.length cap) := box_cells hm.1 0 _ rfl
        have f2 : w2.frozen? ⟨kb, 0, none⟩ = false := box_frozen hm.1 0
        have HRN : Hid ((Builtin.append_ #[59, 59] 59 #[.slice (some ⟨g, 0, none⟩) D.length cap, .slice (some ⟨wr.heap.size, 0, none⟩) 1 1]).run Try.prog (wr.alloc (.cells #[.int .i64 k] 3)) = .ok (.slice (some ⟨g2, 0, none⟩) (D.length + 1) cap2) w2) := hrun
        have Z2 : Hid (w2.ownsRow 0 3 1 (.slice (some ⟨g2, 0, none⟩) (D.length + 1) cap2) (D ++ [k]).length ((D ++ [k]).map mk) ∧ Ch (fun j => j = g) wr w2 ∧ (g = g2 ∨ wr.heap.size ≤ g2)) := ⟨ho2, hc2.mono (fun j _ q => by simpa [Value.ownBlock] using q.symm), by simpa [Value.ownBlock] using hg2⟩
        have ha : (wr.alloc (.cells #[.int .i64 k] 3)).cell? ⟨kb, 0, none⟩ = some (.slice (some ⟨g, 0, none⟩) D.length cap) := by rw [World.cell?_alloc_lt]; exact e0; exact (Array.getElem?_eq_some_iff.1 HB.out).1
        have hws : IntKind.i64.wrap (((D.length + 1 : Nat) : Int) - 1) = (D.length : Int) := by rw [IntKind.wrap_i64]; have := HL.out; omega
        have hws' : IntKind.i64.wrap ((D.length : Int) + 1 - 1) = (D.length : Int) := by rw [IntKind.wrap_i64]; have := HL.out; omega
        have hws2 : (D.length : Int) + 1 - 1 = (D.length : Int) := by omega
        have hws3 : wrap64 (D.length : Int) = (D.length : Int) := by unfold wrap64; have := HL.out; omega
        clear hrun ho2 hc2 hg2 hm hnk
        go_wp2_with (at_builtin; refine Lib.wpList_append_run _ rfl (.tmp 46) (.tmp 48) 59 59 rfl _ _ rfl rfl _ w2 HRN.out ?_)
        (try go_ret)
        first | exact HR2.out HNK.out g2 cap2 w2 Z2.out.1 Z2.out.2.1 Z2.out.2.2 | (simp only [hws3]; exact HR2.out HNK.out g2 cap2 w2 Z2.out.1 Z2.out.2.1 Z2.out.2.2)
      | succ gk =>
        have hz : (j : Int) < (D.length : Int) := by omega
        have hz0 : (0 : Int) ≤ (j : Int) := by omega
        have hjl : j < D.length := by omega
        have hwj : IntKind.i64.wrap ((j : Int) + 1) = (j : Int) + 1 := by rw [IntKind.wrap_i64]; have := HL.out; omega
        obtain ⟨x, hx⟩ : ∃ x, D[j]? = some x := ⟨_, List.getElem?_eq_getElem hjl⟩
        have hadd : (⟨g, 0, none⟩ : Addr).add j = ⟨g, j, none⟩ := by unfold Addr.add; split <;> simp_all
        have cx := HOW.out.cells (g := g) rfl j (mk x) (by simp [hx])
        rw [hadd] at cx
        have HXX : Hid (D[j]? = some x) := hx
        unfold mk at cx
        clear hx hadd
        by_cases hxk : x = k
        · subst hxk
          go_wp2_with fail
          (try go_ret)
          exact HR1.out j HXX.out HQ.out
        · have n1 : (x == k) = false := by simpa using hxk
          have HNE : Hid (¬ x = k) := hxk
          clear hxk
          go_wp2_with fail
          go_roundg gk
          case measure => omega
          case rel => exact ⟨j + 1, by omega, by first | rfl | simp, fun q hq => by
            by_cases e : q = j
            · rw [e, HXX.out]
              exact fun r => HNE.out (Option.some.inj r)
            · exact HQ.out q (by omega), rfl⟩
/-- A thing's number. -/
theorem of_any {w : World} {kb : Nat} {C : List Kt} {G : Nat → Prop} (h : CD w kb C G) (k : Kt) (hl : C.length ≤ 900000) : Calls Try.prog 28 #[pt kb, mk k] w fun r w' => r = .returned (.int .i64 (ix k (ext 0 C k))) ∧ (∃ G', CD w' kb (ext 0 C k) G' ∧ ∀ j, G' j → G j ∨ w.heap.size ≤ j) ∧ Ch G w w' := by
  obtain ⟨v, hb, ho, hG, hnil⟩ := h
  have hkb := (Array.getElem?_eq_some_iff.1 hb).1
  cases C with
  | nil =>
    obtain rfl := hnil rfl
    · obtain ⟨g, cap, wa, hrun, ho2, hc2, hg2⟩ := app_one (C := []) ho 0 (by simp)
      obtain ⟨hba, v1, hb1, ho1, hG1, hnl1⟩ := CD.more hb ho ho2 hc2
      have hgn : w.heap.size ≤ g := hg2.resolve_left (by simp [Value.ownBlock])
      have hc1 : Ch G w (wa.setCell ⟨kb, 0, none⟩ (.slice (some ⟨g, 0, none⟩) 1 cap)) := (hc2.mono (fun j _ q => (hG j).2 (.inr q))).then ((ch_set kb 0 _).mono (fun j _ q => (hG j).2 (.inl q)))
      have hb1' : (wa.setCell ⟨kb, 0, none⟩ (.slice (some ⟨g, 0, none⟩) 1 cap)).heap[kb]? = some (.cells #[.slice (some ⟨g, 0, none⟩) 1 cap] 69 (0, 0)) := by
        rw [heap_set hba]
        simp
      obtain rfl : v1 = .slice (some ⟨g, 0, none⟩) 1 cap := by
        have := hb1.symm.trans hb1'
        simpa using this
      refine of_walk (D := [0]) (v0 := .slice none 0 0) (w := w) _ hb1' ho1 (by simp) (by simp) (.inr ⟨wa, box_cells hb 0 _ rfl, hrun, box_cells hba 0 _ rfl, box_frozen hba 0, rfl, ?_⟩) _ (fun j h1 h2 => ?_) (fun hn g' cap' w2 h1 h2 h3 => ?_)
      · rw [World.cell?_alloc_lt]
        · exact box_cells hb 0 _ rfl
        · exact hkb
      · have hk : k ∈ [0] := List.mem_of_getElem? h1
        have he : ext 0 [] k = [0] := ext_in rfl hk
        rw [he, ix_first h1 h2]
        exact ⟨rfl, ⟨_, ⟨_, hb1', ho1, hG1, fun q => absurd q (by simp)⟩, fun j q => by
          rcases q with q | q
          · exact .inl ((hG j).2 (.inl q))
          · exact .inr (q ▸ hgn)⟩, hc1⟩
      · have he : ext 0 [] k = [0] ++ [k] := ext_out rfl hn
        rw [he, ix_new hn]
        have hm := CD.more (w' := w2) hb1' ho1 h1 (h2.mono (fun j _ q => by rw [q]; rfl))
        have hs1 := hc1.size
        refine ⟨rfl, ⟨_, hm.2, fun j q => ?_⟩, ?_⟩
        · rcases q with q | q
          · exact .inl ((hG j).2 (.inl q))
          · rcases h3 with r | r
            · exact .inr (by omega)
            · exact .inr (by omega)
        · refine (hc1.trans h2 (fun j hj q => ?_)).then ((ch_set kb 0 _).mono (fun j _ q => (hG j).2 (.inl q)))
          omega
  | cons x t =>
    rcases ho.2 with ⟨_, q⟩ | ⟨g, cap, cur, rfl, _⟩
    · simp at q
    · refine of_walk (D := x :: t) (v0 := .slice none 0 0) (w := w) w hb ho (by omega) (by simp) (.inl ⟨rfl, box_cells hb 0 _ rfl⟩) _ (fun j h1 h2 => ?_) (fun hn g' cap' w2 h1 h2 h3 => ?_)
      · have hk : k ∈ x :: t := List.mem_of_getElem? h1
        have he : ext 0 (x :: t) k = x :: t := ext_in rfl hk
        rw [he, ix_first h1 h2]
        exact ⟨rfl, ⟨G, ⟨_, hb, ho, hG, hnil⟩, fun j q => .inl q⟩, Ch.refl _ _⟩
      · have he : ext 0 (x :: t) k = (x :: t) ++ [k] := ext_out rfl hn
        rw [he, ix_new hn]
        have hgG : G g := (hG g).2 (.inr rfl)
        have hm := CD.more (w' := w2) hb ho h1 (h2.mono (fun j _ q => by rw [q]; rfl))
        refine ⟨rfl, ⟨_, hm.2, fun j q => ?_⟩, ?_⟩
        · rcases q with q | q
          · exact .inl ((hG j).2 (.inl q))
          · rcases h3 with r | r
            · exact .inl (by rw [q, ← r]; exact hgG)
            · exact .inr (by omega)
        · exact (h2.mono (fun j _ q => q ▸ hgG)).then ((ch_set kb 0 _).mono (fun j _ q => (hG j).2 (.inl q)))
/-- A thing that has its number. -/
theorem of_known {w : World} {kb : Nat} {C : List Kt} {G : Nat → Prop} (h : CD w kb C G) {k : Kt} (hk : k ∈ C) (hl : C.length ≤ 900000) : Calls Try.prog 28 #[pt kb, mk k] w fun r w' => r = .returned (.int .i64 (ix k C)) ∧ w' = w := by
  obtain ⟨v, hb, ho, hG, hnil⟩ := h
  rcases ho.2 with ⟨_, q⟩ | ⟨g, cap, cur, rfl, _⟩
  · rw [List.length_eq_zero_iff.1 q] at hk
    cases hk
  · refine of_walk (D := C) (v0 := .slice none 0 0) (w := w) w hb ho (by omega) (List.length_pos_of_mem hk) (.inl ⟨rfl, box_cells hb 0 _ rfl⟩) _ (fun j h1 h2 => ?_) (fun hn => absurd hk hn)
    rw [ix_first h1 h2]
    exact ⟨rfl, rfl⟩
end Go.Proofs.Ytdhinpmjbcohaaa.Qi
