import Derived.Test.YtbjhblnagmpnfaaDoorOd
namespace Go.Proofs.YtbjhblnagmpnfaaDoor
open Go Go.RowKit Go.Shelf Go.Maps Go.Sort
set_option linter.unusedSimpArgs false
set_option linter.unusedVariables false
/-! ### Window.put -/
set_option maxRecDepth 100000 in
set_option maxHeartbeats 4000000 in
theorem put44_some {w : World} {wb mb la id : Nat} {cs : Array Value} {t : ByteArray} {pa : Option Addr} {pn pc : Nat} {q : Int} {r rel : Bool} (hla : la ≤ 1000000) (hB : w.heap[wb]? = some (.cells cs 75 (0, 0))) (h5 : cs[5]? = some (.map (some mb))) (h4 : cs[4]? = some (.int .i64 (la : Int))) {R : World → Prop}
    (HK : ∀ w1 w2, Ch (fun j => j = wb) w w1 → w1.heap[wb]? = some (.cells cs 75 (0, 0)) → w1.heap[w.heap.size]? = some (.cells #[.int .i64 (id : Int), .string t, .slice pa pn pc, .int .i64 q, .bool r, .bool rel] 45 (0, 0)) → Below w1.heap.size w1 w2 → ∃ w3, (Instr.mapUpdate 68 (.map (some mb)) (.int .i64 (id : Int)) (.pointer (some ⟨w2.heap.size, 0, none⟩))).run Tryd.prog (w2.alloc (.cells #[.int .i64 (la : Int), .int .i64 (awt q rel), .int .i64 (id : Int), .string t, .slice pa pn pc, .int .i64 q, .bool r] 90)) = .ok () w3 ∧ (w3.cell? ⟨wb, 5, none⟩ = some (.map (some mb)) ∧ w3.cell? ⟨wb, 4, none⟩ = some (.int .i64 (la : Int)) ∧ w3.cell? ⟨w.heap.size, 0, none⟩ = some (.int .i64 (id : Int)) ∧ w3.cell? ⟨w.heap.size, 1, none⟩ = some (.string t) ∧ w3.cell? ⟨w.heap.size, 2, none⟩ = some (.slice pa pn pc) ∧ w3.cell? ⟨w.heap.size, 3, none⟩ = some (.int .i64 q) ∧ w3.cell? ⟨w.heap.size, 4, none⟩ = some (.bool r) ∧ w3.cell? ⟨w.heap.size, 5, none⟩ = some (.bool rel)) ∧ Calls Tryd.prog 30 #[.pointer (some ⟨wb, 8, none⟩), .int .i64 (id : Int)] w3.drew (fun e w4 => e = .returned (.tuple #[]) ∧ w4.cell? ⟨wb, 4, none⟩ = some (.int .i64 (la : Int)) ∧ w4.frozen? ⟨wb, 4, none⟩ = false ∧ R (w4.setCell ⟨wb, 4, none⟩ (.int .i64 ((la + 1 : Nat) : Int))))) :
    Calls Tryd.prog 44 #[.pointer (some ⟨wb, 0, none⟩), .agg #[.int .i64 (id : Int), .string t, .slice pa pn pc, .int .i64 q, .bool r, .bool rel]] w fun e w' => e = .returned (.tuple #[]) ∧ R w' := by
  have c5 := box_cells hB 5 _ h5
  have c4 := box_cells hB 4 _ h4
  have f5 := box_frozen hB 5
  have HB := hidi (And.intro hB (And.intro h5 h4))
  have hwl : wb < w.heap.size := World.block_lt_of_cell? _ _ c5
  have HW := hidi hwl
  have hne : wb ≠ w.heap.size := by omega
  have hne' : w.heap.size ≠ wb := by omega
  have H := hidi HK
  have hw1 : IntKind.i64.wrap ((la : Int) + 1) = ((la + 1 : Nat) : Int) := by rw [IntKind.wrap_i64]; omega
  clear HK hB h5 h4
  generalize hgn : la + 1 = la1 at *
  have heq := eqn68 mb
  have hmk : ∀ W : World, (Instr.makeMap 68 none).run Tryd.prog W = .ok (.map (some W.heap.size)) (W.alloc (.map #[] 0)) := fun W => by simp [Instr.makeMap, run_underlying Tryd.underlying68]; try rfl
  have AW := hidi (fun W : World => awaited_any id t pa pn pc q r rel W)
  clear hgn
  go_enter Tryd.func44, Tryd.ntmps44
  go_wp2_with fail
  obtain ⟨w1, hw1e⟩ : ∃ w1, w1 = (w.alloc (.cells #[.int .i64 (id : Int), .string t, .slice pa pn pc, .int .i64 q, .bool r, .bool rel] 45)) := ⟨_, rfl⟩
  rw [← hw1e]
  have q1 := heap_alloc_new w (.cells #[.int .i64 (id : Int), .string t, .slice pa pn pc, .int .i64 q, .bool r, .bool rel] 45)
  have q4 : Below w.heap.size w (w.alloc (.cells #[.int .i64 (id : Int), .string t, .slice pa pn pc, .int .i64 q, .bool r, .bool rel] 45)) := (Below.refl _ _).alloc (Nat.le_refl _) _
  rw [← hw1e] at q1 q4
  have g1 : w1.heap[wb]? = some (.cells cs 75 (0, 0)) := (q4.block wb hwl).trans HB.out.1
  have H1 := hidi (fun w2 => H.out w1 w2 (Below.ch q4) g1 q1)
  have a5 := box_cells g1 5 _ HB.out.2.1
  have a4 := box_cells g1 4 _ HB.out.2.2
  have e0 := box_cells q1 0 _ rfl
  have e1 := box_cells q1 1 _ rfl
  have e2 := box_cells q1 2 _ rfl
  have e3 := box_cells q1 3 _ rfl
  have e4 := box_cells q1 4 _ rfl
  have e5 := box_cells q1 5 _ rfl
  have KB := hidi (fun (w2 : World) (hb : Below w1.drew.heap.size w1.drew w2) => (show w2.cell? ⟨wb, 5, none⟩ = some (.map (some mb)) ∧ w2.cell? ⟨wb, 4, none⟩ = some (.int .i64 (la : Int)) ∧ w2.cell? ⟨w.heap.size, 0, none⟩ = some (.int .i64 (id : Int)) ∧ w2.cell? ⟨w.heap.size, 1, none⟩ = some (.string t) ∧ w2.cell? ⟨w.heap.size, 2, none⟩ = some (.slice pa pn pc) ∧ w2.cell? ⟨w.heap.size, 3, none⟩ = some (.int .i64 q) ∧ w2.cell? ⟨w.heap.size, 4, none⟩ = some (.bool r) ∧ w2.cell? ⟨w.heap.size, 5, none⟩ = some (.bool rel) from
    have l1 : wb < w1.heap.size := (Array.getElem?_eq_some_iff.1 g1).1
    have l2 : w.heap.size < w1.heap.size := (Array.getElem?_eq_some_iff.1 q1).1
    ⟨(hb.cell (p := ⟨wb, 5, none⟩) l1).trans a5, (hb.cell (p := ⟨wb, 4, none⟩) l1).trans a4, (hb.cell (p := ⟨w.heap.size, 0, none⟩) l2).trans e0, (hb.cell (p := ⟨w.heap.size, 1, none⟩) l2).trans e1, (hb.cell (p := ⟨w.heap.size, 2, none⟩) l2).trans e2, (hb.cell (p := ⟨w.heap.size, 3, none⟩) l2).trans e3, (hb.cell (p := ⟨w.heap.size, 4, none⟩) l2).trans e4, (hb.cell (p := ⟨w.heap.size, 5, none⟩) l2).trans e5⟩))
  clear g1 q1 q4 hw1e c5 c4 f5 H
  go_region_held_law (fun w' => w'.cell? ⟨wb, 5, none⟩ = some (.map (some mb)) ∧ w'.cell? ⟨wb, 4, none⟩ = some (.int .i64 (la : Int)) ∧ w'.cell? ⟨w.heap.size, 0, none⟩ = some (.int .i64 (id : Int)) ∧ w'.cell? ⟨w.heap.size, 1, none⟩ = some (.string t) ∧ w'.cell? ⟨w.heap.size, 2, none⟩ = some (.slice pa pn pc) ∧ w'.cell? ⟨w.heap.size, 3, none⟩ = some (.int .i64 q) ∧ w'.cell? ⟨w.heap.size, 4, none⟩ = some (.bool r) ∧ w'.cell? ⟨w.heap.size, 5, none⟩ = some (.bool rel)) (first | exact HK3.out | exact ⟨a5, a4, e0, e1, e2, e3, e4, e5⟩ | go_keep) (first
    | (go_at_call 61; refine (AW.out _).mono ?_; rintro e w2 ⟨rfl, hb⟩; obtain ⟨w3, hm, hk, h30⟩ := H1.out w2 ((Below.refl w1.heap.size w1).drew.trans hb); have HK3 := hidi hk; have H30 := hidi h30; clear a5 a4 e0 e1 e2 e3 e4 e5; obtain ⟨a5, a4, e0, e1, e2, e3, e4, e5⟩ := KB.out w2 hb; clear hb hk h30))
  clear a5 a4 e0 e1 e2 e3 e4 e5 KB AW H1
  obtain ⟨-, -, e0, -⟩ := HK3.out
  clear HK3
  go_wp2_with fail
  go_region_with (go_at_call 30; refine H30.out.mono ?_; rintro e w4 ⟨rfl, k4, kf, hR⟩; have HR := hidi hR; clear hR)
  all_goals go_wp2_with fail
  all_goals go_end0
  all_goals exact ⟨rfl, HR.out⟩
set_option maxRecDepth 100000 in
set_option maxHeartbeats 4000000 in
theorem put44_nil {w : World} {wb la id : Nat} {cs : Array Value} {t : ByteArray} {pa : Option Addr} {pn pc : Nat} {q : Int} {r rel : Bool} (hla : la ≤ 1000000) (hB : w.heap[wb]? = some (.cells cs 75 (0, 0))) (h5 : cs[5]? = some (.map none)) (h4 : cs[4]? = some (.int .i64 (la : Int))) {R : World → Prop}
    (HK : ∀ w1 w2, Ch (fun j => j = wb) w w1 → w1.heap[wb]? = some (.cells (cs.setIfInBounds 5 (.map (some (w.heap.size + 1)))) 75 (0, 0)) → w1.heap[w.heap.size]? = some (.cells #[.int .i64 (id : Int), .string t, .slice pa pn pc, .int .i64 q, .bool r, .bool rel] 45 (0, 0)) → w1.heap[w.heap.size + 1]? = some (.map #[] 0) → Below w1.heap.size w1 w2 → ∃ w3, (Instr.mapUpdate 68 (.map (some (w.heap.size + 1))) (.int .i64 (id : Int)) (.pointer (some ⟨w2.heap.size, 0, none⟩))).run Tryd.prog (w2.alloc (.cells #[.int .i64 (la : Int), .int .i64 (awt q rel), .int .i64 (id : Int), .string t, .slice pa pn pc, .int .i64 q, .bool r] 90)) = .ok () w3 ∧ (w3.cell? ⟨wb, 5, none⟩ = some (.map (some (w.heap.size + 1))) ∧ w3.cell? ⟨wb, 4, none⟩ = some (.int .i64 (la : Int)) ∧ w3.cell? ⟨w.heap.size, 0, none⟩ = some (.int .i64 (id : Int)) ∧ w3.cell? ⟨w.heap.size, 1, none⟩ = some (.string t) ∧ w3.cell? ⟨w.heap.size, 2, none⟩ = some (.slice pa pn pc) ∧ w3.cell? ⟨w.heap.size, 3, none⟩ = some (.int .i64 q) ∧ w3.cell? ⟨w.heap.size, 4, none⟩ = some (.bool r) ∧ w3.cell? ⟨w.heap.size, 5, none⟩ = some (.bool rel)) ∧ Calls Tryd.prog 30 #[.pointer (some ⟨wb, 8, none⟩), .int .i64 (id : Int)] w3.drew (fun e w4 => e = .returned (.tuple #[]) ∧ w4.cell? ⟨wb, 4, none⟩ = some (.int .i64 (la : Int)) ∧ w4.frozen? ⟨wb, 4, none⟩ = false ∧ R (w4.setCell ⟨wb, 4, none⟩ (.int .i64 ((la + 1 : Nat) : Int))))) :
    Calls Tryd.prog 44 #[.pointer (some ⟨wb, 0, none⟩), .agg #[.int .i64 (id : Int), .string t, .slice pa pn pc, .int .i64 q, .bool r, .bool rel]] w fun e w' => e = .returned (.tuple #[]) ∧ R w' := by
  have c5 := box_cells hB 5 _ h5
  have c4 := box_cells hB 4 _ h4
  have f5 := box_frozen hB 5
  have HB := hidi (And.intro hB (And.intro h5 h4))
  have hwl : wb < w.heap.size := World.block_lt_of_cell? _ _ c5
  have HW := hidi hwl
  have hne : wb ≠ w.heap.size := by omega
  have hne' : w.heap.size ≠ wb := by omega
  have H := hidi HK
  have hw1 : IntKind.i64.wrap ((la : Int) + 1) = ((la + 1 : Nat) : Int) := by rw [IntKind.wrap_i64]; omega
  clear HK hB h5 h4
  generalize hgn : la + 1 = la1 at *
  have heq := eqn68n
  have hmk : ∀ W : World, (Instr.makeMap 68 none).run Tryd.prog W = .ok (.map (some W.heap.size)) (W.alloc (.map #[] 0)) := fun W => by simp [Instr.makeMap, run_underlying Tryd.underlying68]; try rfl
  have AW := hidi (fun W : World => awaited_any id t pa pn pc q r rel W)
  clear hgn
  go_enter Tryd.func44, Tryd.ntmps44
  go_wp2_with fail
  obtain ⟨w1, hw1e⟩ : ∃ w1, w1 = (((w.setCell ⟨wb, 5, none⟩ (.map (some (w.heap.size + 1)))).alloc (.cells #[.int .i64 (id : Int), .string t, .slice pa pn pc, .int .i64 q, .bool r, .bool rel] 45)).alloc (.map #[] 0)) := ⟨_, rfl⟩
  rw [← hw1e]
  have hs0 : (w.setCell ⟨wb, 5, none⟩ (.map (some (w.heap.size + 1)))).heap.size = w.heap.size := by simp
  obtain ⟨q1, q2, q3⟩ := two_alloc (w.setCell ⟨wb, 5, none⟩ (.map (some (w.heap.size + 1)))) (.cells #[.int .i64 (id : Int), .string t, .slice pa pn pc, .int .i64 q, .bool r, .bool rel] 45) (.map #[] 0)
  have q4 := two_below (w.setCell ⟨wb, 5, none⟩ (.map (some (w.heap.size + 1)))) (.cells #[.int .i64 (id : Int), .string t, .slice pa pn pc, .int .i64 q, .bool r, .bool rel] 45) (.map #[] 0)
  rw [hs0] at q1 q2 q3 q4
  rw [← hw1e] at q1 q2 q3 q4
  have g1 : w1.heap[wb]? = some (.cells (cs.setIfInBounds 5 (.map (some (w.heap.size + 1)))) 75 (0, 0)) := (q4.block wb hwl).trans (heap_set HB.out.1 _)
  have g2 : Ch (fun j => j = wb) w w1 := (ch_set wb 5 _).then (Below.ch (by rw [hs0]; exact q4))
  have H1 := hidi (fun w2 => H.out w1 w2 g2 g1 q1 q2)
  have a5 := box_cells g1 5 _ (Array.getElem?_setIfInBounds_self_of_lt (by have := (Array.getElem?_eq_some_iff.1 HB.out.2.1).1; exact this))
  have a4 := box_cells g1 4 (.int .i64 (la : Int)) (by rw [Array.getElem?_setIfInBounds_ne (by decide)]; exact HB.out.2.2)
  have e0 := box_cells q1 0 _ rfl
  have e1 := box_cells q1 1 _ rfl
  have e2 := box_cells q1 2 _ rfl
  have e3 := box_cells q1 3 _ rfl
  have e4 := box_cells q1 4 _ rfl
  have e5 := box_cells q1 5 _ rfl
  have KB := hidi (fun (w2 : World) (hb : Below w1.drew.heap.size w1.drew w2) => (show w2.cell? ⟨wb, 5, none⟩ = some (.map (some (w.heap.size + 1))) ∧ w2.cell? ⟨wb, 4, none⟩ = some (.int .i64 (la : Int)) ∧ w2.cell? ⟨w.heap.size, 0, none⟩ = some (.int .i64 (id : Int)) ∧ w2.cell? ⟨w.heap.size, 1, none⟩ = some (.string t) ∧ w2.cell? ⟨w.heap.size, 2, none⟩ = some (.slice pa pn pc) ∧ w2.cell? ⟨w.heap.size, 3, none⟩ = some (.int .i64 q) ∧ w2.cell? ⟨w.heap.size, 4, none⟩ = some (.bool r) ∧ w2.cell? ⟨w.heap.size, 5, none⟩ = some (.bool rel) from
    have l1 : wb < w1.heap.size := (Array.getElem?_eq_some_iff.1 g1).1
    have l2 : w.heap.size < w1.heap.size := (Array.getElem?_eq_some_iff.1 q1).1
    ⟨(hb.cell (p := ⟨wb, 5, none⟩) l1).trans a5, (hb.cell (p := ⟨wb, 4, none⟩) l1).trans a4, (hb.cell (p := ⟨w.heap.size, 0, none⟩) l2).trans e0, (hb.cell (p := ⟨w.heap.size, 1, none⟩) l2).trans e1, (hb.cell (p := ⟨w.heap.size, 2, none⟩) l2).trans e2, (hb.cell (p := ⟨w.heap.size, 3, none⟩) l2).trans e3, (hb.cell (p := ⟨w.heap.size, 4, none⟩) l2).trans e4, (hb.cell (p := ⟨w.heap.size, 5, none⟩) l2).trans e5⟩))
  clear g1 q1 q4 g2 q2 q3 hs0 hw1e c5 c4 f5 H
  go_region_held_law (fun w' => w'.cell? ⟨wb, 5, none⟩ = some (.map (some (w.heap.size + 1))) ∧ w'.cell? ⟨wb, 4, none⟩ = some (.int .i64 (la : Int)) ∧ w'.cell? ⟨w.heap.size, 0, none⟩ = some (.int .i64 (id : Int)) ∧ w'.cell? ⟨w.heap.size, 1, none⟩ = some (.string t) ∧ w'.cell? ⟨w.heap.size, 2, none⟩ = some (.slice pa pn pc) ∧ w'.cell? ⟨w.heap.size, 3, none⟩ = some (.int .i64 q) ∧ w'.cell? ⟨w.heap.size, 4, none⟩ = some (.bool r) ∧ w'.cell? ⟨w.heap.size, 5, none⟩ = some (.bool rel)) (first | exact HK3.out | exact ⟨a5, a4, e0, e1, e2, e3, e4, e5⟩ | go_keep) (first
    | (go_at_call 61; refine (AW.out _).mono ?_; rintro e w2 ⟨rfl, hb⟩; obtain ⟨w3, hm, hk, h30⟩ := H1.out w2 ((Below.refl w1.heap.size w1).drew.trans hb); have HK3 := hidi hk; have H30 := hidi h30; clear a5 a4 e0 e1 e2 e3 e4 e5; obtain ⟨a5, a4, e0, e1, e2, e3, e4, e5⟩ := KB.out w2 hb; clear hb hk h30))
  clear a5 a4 e0 e1 e2 e3 e4 e5 KB AW H1
  obtain ⟨-, -, e0, -⟩ := HK3.out
  clear HK3
  go_wp2_with fail
  go_region_with (go_at_call 30; refine H30.out.mono ?_; rintro e w4 ⟨rfl, k4, kf, hR⟩; have HR := hidi hR; clear hR)
  all_goals go_wp2_with fail
  all_goals go_end0
  all_goals exact ⟨rfl, HR.out⟩
end Go.Proofs.YtbjhblnagmpnfaaDoor
