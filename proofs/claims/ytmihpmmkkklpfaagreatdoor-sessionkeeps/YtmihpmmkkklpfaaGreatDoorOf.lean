import Derived.Test.YtmihpmmkkklpfaaGreatDoorTPt
namespace Go.Proofs.YtmihpmmkkklpfaaGreatDoor
open Go Go.RowKit Go.Shelf Go.Maps Go.Sort
set_option linter.unusedSimpArgs false
set_option linter.unusedVariables false
/-! ### Window.put -/
set_option maxRecDepth 100000 in
set_option maxHeartbeats 4000000 in
theorem put44_some {w : World} {wb mb la id : Nat} {cs : Array Value} {t : ByteArray} {pa : Option Addr} {pn pc : Nat} {q : Int} {r rel : Bool} (hla : la ≤ 1000000) (hB : w.heap[wb]? = some (.cells cs 101 (0, 0))) (h5 : cs[5]? = some (.map (some mb))) (h4 : cs[4]? = some (.int .i64 (la : Int))) {R : World → Prop}
    (HK : ∀ w1 w2, Ch (fun j => j = wb) w w1 → w1.heap[wb]? = some (.cells cs 101 (0, 0)) → w1.heap[w.heap.size]? = some (.cells #[.int .i64 (id : Int), .string t, .slice pa pn pc, .int .i64 q, .bool r, .bool rel] 108 (0, 0)) → Below w1.heap.size w1 w2 → ∃ w3, (Instr.mapUpdate 94 (.map (some mb)) (.int .i64 (id : Int)) (.pointer (some ⟨w2.heap.size, 0, none⟩))).run Tryz.prog (w2.alloc (.cells #[.int .i64 (la : Int), .int .i64 (awt q rel), .int .i64 (id : Int), .string t, .slice pa pn pc, .int .i64 q, .bool r] 119)) = .ok () w3 ∧ (w3.cell? ⟨wb, 5, none⟩ = some (.map (some mb)) ∧ w3.cell? ⟨wb, 4, none⟩ = some (.int .i64 (la : Int)) ∧ w3.cell? ⟨w.heap.size, 0, none⟩ = some (.int .i64 (id : Int)) ∧ w3.cell? ⟨w.heap.size, 1, none⟩ = some (.string t) ∧ w3.cell? ⟨w.heap.size, 2, none⟩ = some (.slice pa pn pc) ∧ w3.cell? ⟨w.heap.size, 3, none⟩ = some (.int .i64 q) ∧ w3.cell? ⟨w.heap.size, 4, none⟩ = some (.bool r) ∧ w3.cell? ⟨w.heap.size, 5, none⟩ = some (.bool rel)) ∧ Calls Tryz.prog 92 #[.pointer (some ⟨wb, 8, none⟩), .int .i64 (id : Int)] w3.drew (fun e w4 => e = .returned (.tuple #[]) ∧ w4.cell? ⟨wb, 4, none⟩ = some (.int .i64 (la : Int)) ∧ w4.frozen? ⟨wb, 4, none⟩ = false ∧ R (w4.setCell ⟨wb, 4, none⟩ (.int .i64 ((la + 1 : Nat) : Int))))) :
    Calls Tryz.prog 66 #[.pointer (some ⟨wb, 0, none⟩), .agg #[.int .i64 (id : Int), .string t, .slice pa pn pc, .int .i64 q, .bool r, .bool rel]] w fun e w' => e = .returned (.tuple #[]) ∧ R w' := by
  have c5 := box_cells hB 5 _ h5
  have c4 := box_cells hB 4 _ h4
  have f5 := box_frozen hB 5
  have HB := hidi (And.intro hB (And.intro h5 h4))
  have hwl : wb < w.heap.size := World.block_lt_of_cell? _ _ c5
  have HW := hidi hwl
  have hne : wb ≠ w.heap.size := by omega
  have hne' : w.heap.size ≠ wb := by omega
  have H := hidi HK
  have hw1 : IntKind.i64.wrap ((la : Int) + 1) = ((la + 1 : Nat) : Int) := by rw [IntKind.wrap_i64]; omega
  clear HK hB h5 h4
  generalize hgn : la + 1 = la1 at *
  have heq := eqn68 mb
  have hmk : ∀ W : World, (Instr.makeMap 94 none).run Tryz.prog W = .ok (.map (some W.heap.size)) (W.alloc (.map #[] 0)) := fun W => by simp [Instr.makeMap, run_underlying Tryz.underlying94]; try rfl
  have AW := hidi (fun W : World => awaited_any id t pa pn pc q r rel W)
  clear hgn
  go_enter Tryz.func66, Tryz.ntmps66
  go_wp2_with fail
  obtain ⟨w1, hw1e⟩ : ∃ w1, w1 = (w.alloc (.cells #[.int .i64 (id : Int), .string t, .slice pa pn pc, .int .i64 q, .bool r, .bool rel] 108)) := ⟨_, rfl⟩
  rw [← hw1e]
  have q1 := heap_alloc_new w (.cells #[.int .i64 (id : Int), .string t, .slice pa pn pc, .int .i64 q, .bool r, .bool rel] 108)
  have q4 : Below w.heap.size w (w.alloc (.cells #[.int .i64 (id : Int), .string t, .slice pa pn pc, .int .i64 q, .bool r, .bool rel] 108)) := (Below.refl _ _).alloc (Nat.le_refl _) _
  rw [← hw1e] at q1 q4
  have g1 : w1.heap[wb]? = some (.cells cs 101 (0, 0)) := (q4.block wb hwl).trans HB.out.1
  have H1 := hidi (fun w2 => H.out w1 w2 (Below.ch q4) g1 q1)
  have a5 := box_cells g1 5 _ HB.out.2.1
  have a4 := box_cells g1 4 _ HB.out.2.2
  have e0 := box_cells q1 0 _ rfl
  have e1 := box_cells q1 1 _ rfl
  have e2 := box_cells q1 2 _ rfl
  have e3 := box_cells q1 3 _ rfl
  have e4 := box_cells q1 4 _ rfl
  have e5 := box_cells q1 5 _ rfl
  have KB := hidi (fun (w2 : World) (hb : Below w1.drew.heap.size w1.drew w2) => (show w2.cell? ⟨wb, 5, none⟩ = some (.map (some mb)) ∧ w2.cell? ⟨wb, 4, none⟩ = some (.int .i64 (la : Int)) ∧ w2.cell? ⟨w.heap.size, 0, none⟩ = some (.int .i64 (id : Int)) ∧ w2.cell? ⟨w.heap.size, 1, none⟩ = some (.string t) ∧ w2.cell? ⟨w.heap.size, 2, none⟩ = some (.slice pa pn pc) ∧ w2.cell? ⟨w.heap.size, 3, none⟩ = some (.int .i64 q) ∧ w2.cell? ⟨w.heap.size, 4, none⟩ = some (.bool r) ∧ w2.cell? ⟨w.heap.size, 5, none⟩ = some (.bool rel) from
    have l1 : wb < w1.heap.size := (Array.getElem?_eq_some_iff.1 g1).1
    have l2 : w.heap.size < w1.heap.size := (Array.getElem?_eq_some_iff.1 q1).1
    ⟨(hb.cell (p := ⟨wb, 5, none⟩) l1).trans a5, (hb.cell (p := ⟨wb, 4, none⟩) l1).trans a4, (hb.cell (p := ⟨w.heap.size, 0, none⟩) l2).trans e0, (hb.cell (p := ⟨w.heap.size, 1, none⟩) l2).trans e1, (hb.cell (p := ⟨w.heap.size, 2, none⟩) l2).trans e2, (hb.cell (p := ⟨w.heap.size, 3, none⟩) l2).trans e3, (hb.cell (p := ⟨w.heap.size, 4, none⟩) l2).trans e4, (hb.cell (p := ⟨w.heap.size, 5, none⟩) l2).trans e5⟩))
  clear g1 q1 q4 hw1e c5 c4 f5 H
  go_region_held_law (fun w' => w'.cell? ⟨wb, 5, none⟩ = some (.map (some mb)) ∧ w'.cell? ⟨wb, 4, none⟩ = some (.int .i64 (la : Int)) ∧ w'.cell? ⟨w.heap.size, 0, none⟩ = some (.int .i64 (id : Int)) ∧ w'.cell? ⟨w.heap.size, 1, none⟩ = some (.string t) ∧ w'.cell? ⟨w.heap.size, 2, none⟩ = some (.slice pa pn pc) ∧ w'.cell? ⟨w.heap.size, 3, none⟩ = some (.int .i64 q) ∧ w'.cell? ⟨w.heap.size, 4, none⟩ = some (.bool r) ∧ w'.cell? ⟨w.heap.size, 5, none⟩ = some (.bool rel)) (first | exact HK3.out | exact ⟨a5, a4, e0, e1, e2, e3, e4, e5⟩ | go_keep) (first
    | (go_at_call 95; refine (AW.out _).mono ?_; rintro e w2 ⟨rfl, hb⟩; obtain ⟨w3, hm, hk, h30⟩ := H1.out w2 ((Below.refl w1.heap.size w1).drew.trans hb); have HK3 := hidi hk; have H30 := hidi h30; clear a5 a4 e0 e1 e2 e3 e4 e5; obtain ⟨a5, a4, e0, e1, e2, e3, e4, e5⟩ := KB.out w2 hb; clear hb hk h30))
  clear a5 a4 e0 e1 e2 e3 e4 e5 KB AW H1
  obtain ⟨-, -, e0, -⟩ := HK3.out
  clear HK3
  go_wp2_with fail
  go_region_with (go_at_call 92; refine H30.out.mono ?_; rintro e w4 ⟨rfl, k4, kf, hR⟩; have HR := hidi hR; clear hR)
  all_goals go_wp2_with fail
  all_goals go_end0
  all_goals exact ⟨rfl, HR.out⟩
set_option maxRecDepth 100000 in
set_option maxHeartbeats 4000000 in
theorem put44_nil {w : World} {wb la id : Nat} {cs : Array Value} {t : ByteArray} {pa : Option Addr} {pn pc : Nat} {q : Int} {r rel : Bool} (hla : la ≤ 1000000) (hB : w.heap[wb]? = some (.cells cs 101 (0, 0))) (h5 : cs[5]? = some (.map none)) (h4 : cs[4]? = some (.int .i64 (la : Int))) {R : World → Prop}
    (HK : ∀ w1 w2, Ch (fun j => j = wb) w w1 → w1.heap[wb]? = some (.cells (cs.setIfInBounds 5 (.map (some (w.heap.size + 1)))) 101 (0, 0)) → w1.heap[w.heap.size]? = some (.cells #[.int .i64 (id : Int), .string t, .slice pa pn pc, .int .i64 q, .bool r, .bool rel] 108 (0, 0)) → w1.heap[w.heap.size + 1]? = some (.map #[] 0) → Below w1.heap.size w1 w2 → ∃ w3, (Instr.mapUpdate 94 (.map (some (w.heap.size + 1))) (.int .i64 (id : Int)) (.pointer (some ⟨w2.heap.size, 0, none⟩))).run Tryz.prog (w2.alloc (.cells #[.int .i64 (la : Int), .int .i64 (awt q rel), .int .i64 (id : Int), .string t, .slice pa pn pc, .int .i64 q, .bool r] 119)) = .ok () w3 ∧ (w3.cell? ⟨wb, 5, none⟩ = some (.map (some (w.heap.size + 1))) ∧ w3.cell? ⟨wb, 4, none⟩ = some (.int .i64 (la : Int)) ∧ w3.cell? ⟨w.heap.size, 0, none⟩ = some (.int .i64 (id : Int)) ∧ w3.cell? ⟨w.heap.size, 1, none⟩ = some (.string t) ∧ w3.cell? ⟨w.heap.size, 2, none⟩ = some (.slice pa pn pc) ∧ w3.cell? ⟨w.heap.size, 3, none⟩ = some (.int .i64 q) ∧ w3.cell? ⟨w.heap.size, 4, none⟩ = some (.bool r) ∧ w3.cell? ⟨w.heap.size, 5, none⟩ = some (.bool rel)) ∧ Calls Tryz.prog 92 #[.pointer (some ⟨wb, 8, none⟩), .int .i64 (id : Int)] w3.drew (fun e w4 => e = .returned (.tuple #[]) ∧ w4.cell? ⟨wb, 4, none⟩ = some (.int .i64 (la : Int)) ∧ w4.frozen? ⟨wb, 4, none⟩ = false ∧ R (w4.setCell ⟨wb, 4, none⟩ (.int .i64 ((la + 1 : Nat) : Int))))) :
    Calls Tryz.prog 66 #[.pointer (some ⟨wb, 0, none⟩), .agg #[.int .i64 (id : Int), .string t, .slice pa pn pc, .int .i64 q, .bool r, .bool rel]] w fun e w' => e = .returned (.tuple #[]) ∧ R w' := by
  have c5 := box_cells hB 5 _ h5
  have c4 := box_cells hB 4 _ h4
  have f5 := box_frozen hB 5
  have HB := hidi (And.intro hB (And.intro h5 h4))
  have hwl : wb < w.heap.size := World.block_lt_of_cell? _ _ c5
  have HW := hidi hwl
  have hne : wb ≠ w.heap.size := by omega
  have hne' : w.heap.size ≠ wb := by omega
  have H := hidi HK
  have hw1 : IntKind.i64.wrap ((la : Int) + 1) = ((la + 1 : Nat) : Int) := by rw [IntKind.wrap_i64]; omega
  clear HK hB h5 h4
  generalize hgn : la + 1 = la1 at *
  have heq := eqn68n
  have hmk : ∀ W : World, (Instr.makeMap 94 none).run Tryz.prog W = .ok (.map (some W.heap.size)) (W.alloc (.map #[] 0)) := fun W => by simp [Instr.makeMap, run_underlying Tryz.underlying94]; try rfl
  have AW := hidi (fun W : World => awaited_any id t pa pn pc q r rel W)
  clear hgn
  go_enter Tryz.func66, Tryz.ntmps66
  go_wp2_with fail
  obtain ⟨w1, hw1e⟩ : ∃ w1, w1 = (((w.setCell ⟨wb, 5, none⟩ (.map (some (w.heap.size + 1)))).alloc (.cells #[.int .i64 (id : Int), .string t, .slice pa pn pc, .int .i64 q, .bool r, .bool rel] 108)).alloc (.map #[] 0)) := ⟨_, rfl⟩
  rw [← hw1e]
  have hs0 : (w.setCell ⟨wb, 5, none⟩ (.map (some (w.heap.size + 1)))).heap.size = w.heap.size := by simp
  obtain ⟨q1, q2, q3⟩ := two_alloc (w.setCell ⟨wb, 5, none⟩ (.map (some (w.heap.size + 1)))) (.cells #[.int .i64 (id : Int), .string t, .slice pa pn pc, .int .i64 q, .bool r, .bool rel] 108) (.map #[] 0)
  have q4 := two_below (w.setCell ⟨wb, 5, none⟩ (.map (some (w.heap.size + 1)))) (.cells #[.int .i64 (id : Int), .string t, .slice pa pn pc, .int .i64 q, .bool r, .bool rel] 108) (.map #[] 0)
  rw [hs0] at q1 q2 q3 q4
  rw [← hw1e] at q1 q2 q3 q4
  have g1 : w1.heap[wb]? = some (.cells (cs.setIfInBounds 5 (.map (some (w.heap.size + 1)))) 101 (0, 0)) := (q4.block wb hwl).trans (heap_set HB.out.1 _)
  have g2 : Ch (fun j => j = wb) w w1 := (ch_set wb 5 _).then (Below.ch (by rw [hs0]; exact q4))
  have H1 := hidi (fun w2 => H.out w1 w2 g2 g1 q1 q2)
  have a5 := box_cells g1 5 _ (Array.getElem?_setIfInBounds_self_of_lt (by have := (Array.getElem?_eq_some_iff.1 HB.out.2.1).1; exact this))
  have a4 := box_cells g1 4 (.int .i64 (la : Int)) (by rw [Array.getElem?_setIfInBounds_ne (by decide)]; exact HB.out.2.2)
  have e0 := box_cells q1 0 _ rfl
  have e1 := box_cells q1 1 _ rfl
  have e2 := box_cells q1 2 _ rfl
  have e3 := box_cells q1 3 _ rfl
  have e4 := box_cells q1 4 _ rfl
  have e5 := box_cells q1 5 _ rfl
  have KB := hidi (fun (w2 : World) (hb : Below w1.drew.heap.size w1.drew w2) => (show w2.cell? ⟨wb, 5, none⟩ = some (.map (some (w.heap.size + 1))) ∧ w2.cell? ⟨wb, 4, none⟩ = some (.int .i64 (la : Int)) ∧ w2.cell? ⟨w.heap.size, 0, none⟩ = some (.int .i64 (id : Int)) ∧ w2.cell? ⟨w.heap.size, 1, none⟩ = some (.string t) ∧ w2.cell? ⟨w.heap.size, 2, none⟩ = some (.slice pa pn pc) ∧ w2.cell? ⟨w.heap.size, 3, none⟩ = some (.int .i64 q) ∧ w2.cell? ⟨w.heap.size, 4, none⟩ = some (.bool r) ∧ w2.cell? ⟨w.heap.size, 5, none⟩ = some (.bool rel) from
    have l1 : wb < w1.heap.size := (Array.getElem?_eq_some_iff.1 g1).1
    have l2 : w.heap.size < w1.heap.size := (Array.getElem?_eq_some_iff.1 q1).1
    ⟨(hb.cell (p := ⟨wb, 5, none⟩) l1).trans a5, (hb.cell (p := ⟨wb, 4, none⟩) l1).trans a4, (hb.cell (p := ⟨w.heap.size, 0, none⟩) l2).trans e0, (hb.cell (p := ⟨w.heap.size, 1, none⟩) l2).trans e1, (hb.cell (p := ⟨w.heap.size, 2, none⟩) l2).trans e2, (hb.cell (p := ⟨w.heap.size, 3, none⟩) l2).trans e3, (hb.cell (p := ⟨w.heap.size, 4, none⟩) l2).trans e4, (hb.cell (p := ⟨w.heap.size, 5, none⟩) l2).trans e5⟩))
  clear g1 q1 q4 g2 q2 q3 hs0 hw1e c5 c4 f5 H
  go_region_held_law (fun w' => w'.cell? ⟨wb, 5, none⟩ = some (.map (some (w.heap.size + 1))) ∧ w'.cell? ⟨wb, 4, none⟩ = some (.int .i64 (la : Int)) ∧ w'.cell? ⟨w.heap.size, 0, none⟩ = some (.int .i64 (id : Int)) ∧ w'.cell? ⟨w.heap.size, 1, none⟩ = some (.string t) ∧ w'.cell? ⟨w.heap.size, 2, none⟩ = some (.slice pa pn pc) ∧ w'.cell? ⟨w.heap.size, 3, none⟩ = some (.int .i64 q) ∧ w'.cell? ⟨w.heap.size, 4, none⟩ = some (.bool r) ∧ w'.cell? ⟨w.heap.size, 5, none⟩ = some (.bool rel)) (first | exact HK3.out | exact ⟨a5, a4, e0, e1, e2, e3, e4, e5⟩ | go_keep) (first
    | (go_at_call 95; refine (AW.out _).mono ?_; rintro e w2 ⟨rfl, hb⟩; obtain ⟨w3, hm, hk, h30⟩ := H1.out w2 ((Below.refl w1.heap.size w1).drew.trans hb); have HK3 := hidi hk; have H30 := hidi h30; clear a5 a4 e0 e1 e2 e3 e4 e5; obtain ⟨a5, a4, e0, e1, e2, e3, e4, e5⟩ := KB.out w2 hb; clear hb hk h30))
  clear a5 a4 e0 e1 e2 e3 e4 e5 KB AW H1
  obtain ⟨-, -, e0, -⟩ := HK3.out
  clear HK3
  go_wp2_with fail
  go_region_with (go_at_call 92; refine H30.out.mono ?_; rintro e w4 ⟨rfl, k4, kf, hR⟩; have HR := hidi hR; clear hR)
  all_goals go_wp2_with fail
  all_goals go_end0
  all_goals exact ⟨rfl, HR.out⟩
end Go.Proofs.YtmihpmmkkklpfaaGreatDoor
namespace Go.Proofs.YtmihpmmkkklpfaaGreatDoor
open Go Go.RowKit Go.Shelf Go.Maps Go.Sort
set_option linter.unusedSimpArgs false
set_option linter.unusedVariables false
/-! ### Window.put, by the state -/
theorem lookF_app (fs : List Fm) (f : Fm) (hn : ∀ g ∈ fs, g.id ≠ f.id) (k : Int) : (lookF (fs ++ [f]) k).map pt = setF (fun k => (lookF fs k).map pt) (f.id : Int) (some (pt f.b)) k := by
  unfold setF
  by_cases e : k = (f.id : Int)
  · rw [if_pos e]
    subst e
    have h0 : fs.find? (fun g => decide ((g.id : Int) = (f.id : Int))) = none := by
      rw [List.find?_eq_none]
      intro g hg
      have := hn g hg
      simp
      omega
    unfold lookF
    rw [List.find?_append, h0]
    simp
  · rw [if_neg e]
    unfold lookF
    rw [List.find?_append]
    have : ([f].find? (fun g => decide ((g.id : Int) = k))) = none := by
      simp only [List.find?_cons]
      rw [decide_eq_false (fun q => e q.symm)]
      rfl
    rw [this]
    simp
/-- What put lays down. -/
def WI.put (i : WI) (b id : Nat) (rel : Bool) (m : Ms) (mu mt : Value) : WI := { i with la := i.la + 1, fs := i.fs ++ [⟨b, i.la, id, rel, m⟩], mu := mu, mt := mt, N := i.N + 1 }
theorem WI.T_put (i : WI) (b id : Nat) (rel : Bool) (m : Ms) (mu mt : Value) : (i.put b id rel m mu mt).T = setT i.T id true := by
  funext j
  unfold WI.T setT WI.put WI.ids
  by_cases e : j = id
  · subst e; simp
  · simp [e]
theorem put_core {w wA : World} {wb : Nat} {i : WI} {c c' : Nat} (h : WS w wb i c) (hc : i.la + 1 + i.L.length ≤ c' ∧ i.N + 1 + i.L.length ≤ c') (hc' : c' ≤ 200000) (hf : i.fs.length < i.most) {b id mb : Nat} {rel : Bool} {m : Ms} (hid : 1 ≤ id ∧ id ≤ 65535) (hT : i.T id = false) (hp : PB w m.v m.xs) (hs : (rel = true → m.zero) ∧ (rel = false → Sn m.q))
    (hch : Ch (fun j => j = wb) w wA) (hwb : wA.heap[wb]? = some (.cells (i.cs.setIfInBounds 5 (.map (some mb))) 101 (0, 0))) {bx : Array Value} (hbox : wA.heap[w.heap.size]? = some (.cells bx 108 (0, 0))) (hfl : wA.heap[b]? = some (.cells (Fm.cs ⟨b, i.la, id, rel, m⟩) 119 (0, 0))) (hb : w.heap.size ≤ b)
    (hM : MI wA (.map (some mb)) i.fs.length (fun k => (lookF i.fs k).map pt)) (hmb : i.mu = .map (some mb) ∨ (i.mu = .map none ∧ mb = w.heap.size + 1)) :
    ∃ w3, (Instr.mapUpdate 94 (.map (some mb)) (.int .i64 (id : Int)) (.pointer (some ⟨b, 0, none⟩))).run Tryz.prog wA = .ok () w3 ∧ w3.heap[wb]? = some (.cells (i.cs.setIfInBounds 5 (.map (some mb))) 101 (0, 0)) ∧ w3.heap[w.heap.size]? = some (.cells bx 108 (0, 0)) ∧ Calls Tryz.prog 92 #[.pointer (some ⟨wb, 8, none⟩), .int .i64 (id : Int)] w3.drew (fun e w4 => e = .returned (.tuple #[]) ∧ w4.cell? ⟨wb, 4, none⟩ = some (.int .i64 (i.la : Int)) ∧ w4.frozen? ⟨wb, 4, none⟩ = false ∧ ∃ b mu mt, St w (w4.setCell ⟨wb, 4, none⟩ (.int .i64 ((i.la + 1 : Nat) : Int))) wb i (i.put b id rel m mu mt) c') := by
  have hwl : wb < w.heap.size := h.lt (.inl rfl)
  have hnew : ∀ f ∈ i.fs, f.id ≠ id := fun f hf e => by
    have : i.T id = true := by unfold WI.T WI.ids; rw [decide_eq_true (List.mem_map.2 ⟨f, hf, e⟩)]; rfl
    rw [hT] at this; cases this
  have hnR : id ∉ i.R := fun e => by
    have : i.T id = true := by unfold WI.T; rw [decide_eq_true e]; simp
    rw [hT] at this; cases this
  have hok : okI (id : Int) := okI_nat id (by omega)
  have hbm := h.bm
  obtain ⟨w3, hrun, hM3, hch3⟩ := hM.put Tryz.underlying94 hok (.pointer (some ⟨b, 0, none⟩)) (by unfold maxLen; omega)
  have hszA : w.heap.size ≤ wA.heap.size := hch.size
  have hmbo : ∃ es cl, wA.heap[mb]? = some (.map es cl) := hM.block rfl
  have hmw : wb ≠ mb := fun e => by obtain ⟨es, cl, q⟩ := hmbo; rw [← e, hwb] at q; cases q
  have hmx : w.heap.size ≠ mb := fun e => by obtain ⟨es, cl, q⟩ := hmbo; rw [← e, hbox] at q; cases q
  have hmf : b ≠ mb := fun e => by obtain ⟨es, cl, q⟩ := hmbo; rw [← e, hfl] at q; cases q
  have hwb3 : w3.heap[wb]? = some (.cells (i.cs.setIfInBounds 5 (.map (some mb))) 101 (0, 0)) := (hch3.block wb (by omega) hmw).trans hwb
  have hbox3 : w3.heap[w.heap.size]? = some (.cells bx 108 (0, 0)) := (hch3.block _ (Array.getElem?_eq_some_iff.1 hbox).1 hmx).trans hbox
  have hfl3 : w3.heap[b]? = some (.cells (Fm.cs ⟨b, i.la, id, rel, m⟩) 119 (0, 0)) := (hch3.block _ (Array.getElem?_eq_some_iff.1 hfl).1 hmf).trans hfl
  have hcs8 : (i.cs.setIfInBounds 5 (.map (some mb)))[8]? = some i.mt := rfl
  have hmtl : ∀ j, i.mt = .map (some j) → j < w.heap.size ∧ j ≠ wb ∧ j ≠ mb := fun j hj => by
    obtain ⟨es, cl, e⟩ := h.tkn.block hj
    refine ⟨(Array.getElem?_eq_some_iff.1 e).1, fun q => ?_, fun q => ?_⟩
    · rw [q, h.blk] at e; cases e
    · rcases hmb with q1 | ⟨-, q1⟩
      · exact h.apt mb q1 (by rw [hj, q])
      · have := (Array.getElem?_eq_some_iff.1 e).1; omega
  have hst : Ch (fun j => j = wb ∨ j = mb) w w3 := (hch.mono (fun j _ q => .inl q)).trans hch3 (fun j _ q => .inr q)
  have hN3 : NT w3.drew i.mt i.T i.N := h.tkn.keep (fun j hj => by
    obtain ⟨l1, l2, l3⟩ := hmtl j hj
    exact hst.block j l1 (fun q => q.elim l2 l3))
  refine ⟨w3, hrun, hwb3, hbox3, ?_⟩
  have hbc := h.bc
  refine (put_any hN3 (nb := wb) (i := 8) (t := 101) hwb3 hcs8 id hid.2 (by omega)).mono ?_
  rintro e w4 ⟨rfl, mb2, hmb2, hN4, hwb4, hch4⟩
  refine ⟨rfl, box_cells hwb4 4 _ rfl, box_frozen hwb4 4, b, .map (some mb), .map (some mb2), ?_⟩
  obtain ⟨W, hW⟩ : ∃ W, W = w4.setCell ⟨wb, 4, none⟩ (.int .i64 ((i.la + 1 : Nat) : Int)) := ⟨_, rfl⟩
  rw [← hW]
  have hchW : Ch (fun j => j = wb ∨ j = mb ∨ i.mt = .map (some j)) w W := by
    rw [hW]
    refine ((hst.mono (fun j _ q => q.elim .inl (fun e => .inr (.inl e)))).trans (ch_drew (fun _ => False) w3 |>.mono (fun _ _ q => q.elim)) (fun j _ q => q)).trans ?_ (fun j _ q => q)
    refine (hch4.mono (fun j _ q => q.elim .inl (fun e => .inr (.inr e)))).trans (ch_set wb 4 _) (fun j _ q => .inl q)
  have hch3W : Ch (fun j => j = wb ∨ i.mt = .map (some j)) w3 W := by
    rw [hW]
    exact ((ch_drew (fun _ => False) w3 |>.mono (fun _ _ q => q.elim)).trans (hch4.mono (fun j _ q => q.elim .inl .inr)) (fun j _ q => q)).trans (ch_set wb 4 _) (fun j _ q => .inl q)
  have hWb : W.heap[wb]? = some (.cells (i.put b id rel m (.map (some mb)) (.map (some mb2))).cs 101 (0, 0)) := by
    rw [hW, heap_set hwb4]
    rfl
  have hmbl : ∀ j, j < w.heap.size → j = mb → i.mu = .map (some j) := fun j hj q => by
    rcases hmb with q1 | ⟨-, q1⟩
    · rw [q1, q]
    · omega
  have hchU : Ch (i.U wb) w W := hchW.mono (fun j hj q => by
    rcases q with q | q | q
    · exact .inl q
    · exact .inr (.inl (hmbl j hj q))
    · exact .inr (.inr (.inl q)))
  have hkb : Kb w W := h.kb hchU
  have hoth : ∀ (j : Nat) (cs : Array Value) (t : Nat) (fz : Nat × Nat), w.heap[j]? = some (Obj.cells cs t fz) → t ≠ 101 → W.heap[j]? = w.heap[j]? := fun j cs t fz hj ht => by
    have hl := (Array.getElem?_eq_some_iff.1 hj).1
    refine hchW.block j hl (fun q => ?_)
    rcases q with q | q | q
    · rw [q, h.blk] at hj; simp at hj; exact ht hj.2.1.symm
    · obtain ⟨es, cl, e⟩ := h.und.block (hmbl j hl q); rw [e] at hj; cases hj
    · obtain ⟨es, cl, e⟩ := h.tkn.block q; rw [e] at hj; cases hj
  have hmb2l : ∀ j, (Value.map (some mb2)) = .map (some j) → i.mt = .map (some j) ∨ (w3.heap.size ≤ j) := fun j e => by
    cases e
    rcases hmb2 with q | ⟨q, q2⟩
    · exact .inl q
    · exact .inr (by rw [q2]; exact Nat.le_refl _)
  refine ⟨?_, hchU, ?_⟩
  · refine { blk := hWb, und := ?_, fls := ?_, tkn := ?_, row := ?_, pay := fun x hx => (h.pay x hx).keep hkb, half := h.half, apt := ?_, nd := ?_, rng := ?_, srt := ?_, tns := ?_, snf := ?_, snl := h.snl, bm := h.bm, bq := h.bq, bf := ?_, bl := h.bl, br := h.br, bs := h.bs, bc := ?_ }
    · have hM4 := hM3.congr (g := fun k => (lookF (i.fs ++ [⟨b, i.la, id, rel, m⟩]) k).map pt) (fun k hk => lookF_app i.fs ⟨b, i.la, id, rel, m⟩ hnew k)
      have e1 : szF (fun k => (lookF i.fs k).map pt) (id : Int) i.fs.length = i.fs.length + 1 := by
        have e0 : lookF i.fs (id : Int) = none := lookF_none (fun f hf q => hnew f hf (by omega))
        unfold szF
        simp [e0]
      rw [e1] at hM4
      show MI W (.map (some mb)) (i.fs ++ [_]).length _
      rw [List.length_append]
      refine hM4.keep (fun j hj => ?_)
      cases hj
      exact hch3W.block mb (hM3.lt rfl) (fun q => q.elim (fun e => hmw e.symm) (fun e => (hmtl mb e).2.2 rfl))
    · intro f hf'
      rcases List.mem_append.1 hf' with q | q
      · have hb0 := (h.fls f q).blk
        exact ⟨(hoth f.b _ 119 _ hb0 (by decide)).trans hb0, (h.fls f q).pay.keep hkb⟩
      · simp only [List.mem_singleton] at q
        subst q
        refine ⟨(hch3W.block b (Array.getElem?_eq_some_iff.1 hfl3).1 (fun q => ?_)).trans hfl3, hp.keep hkb⟩
        rcases q with q | q
        · have q' : b = wb := q; omega
        · have := (hmtl b q).1; omega
    · rw [WI.T_put]
      refine hN4.keep (fun j hj => ?_)
      rw [hW]
      refine heap_set_ne _ (fun q => ?_)
      obtain ⟨es, cl, e⟩ := hN4.block hj
      rw [q, hwb4] at e
      cases e
    · refine own_ch h.row hchW (fun g hg q => ?_)
      obtain ⟨cur, e⟩ := own_lt h.row hg
      rcases q with q | q | q
      · rw [q, h.blk] at e; simp at e
      · obtain ⟨es, cl, e'⟩ := h.und.block (hmbl g (Array.getElem?_eq_some_iff.1 e).1 q); rw [e'] at e; cases e
      · obtain ⟨es, cl, e'⟩ := h.tkn.block q; rw [e'] at e; cases e
    · intro j hj q
      cases hj
      rcases hmb2l mb q with q1 | q1
      · exact (hmtl mb q1).2.2 rfl
      · have := hM3.lt (b := mb) rfl; omega
    · have hp' : ((i.put b id rel m (.map (some mb)) (.map (some mb2))).ids ++ i.R).Perm (id :: (i.ids ++ i.R)) := by
        show (((i.fs ++ [(⟨b, i.la, id, rel, m⟩ : Fm)]).map Fm.id) ++ i.R).Perm _
        rw [List.map_append, List.append_assoc]
        exact List.perm_middle
      refine (hp'.nodup_iff).2 (List.nodup_cons.2 ⟨fun q => ?_, h.nd⟩)
      rcases List.mem_append.1 q with q | q
      · obtain ⟨f, hf, e⟩ := List.mem_map.1 q
        exact hnew f hf e
      · exact hnR q
    · intro j hj
      rcases List.mem_append.1 hj with q | q
      · obtain ⟨f, hf', rfl⟩ := List.mem_map.1 q
        rcases List.mem_append.1 hf' with q | q
        · exact h.rng _ (List.mem_append.2 (.inl (List.mem_map.2 ⟨f, q, rfl⟩)))
        · simp only [List.mem_singleton] at q
          subst q
          exact hid
      · exact h.rng _ (List.mem_append.2 (.inr q))
    · refine List.pairwise_append.2 ⟨h.srt, List.pairwise_singleton _ _, fun a ha x hx => ?_⟩
      simp only [List.mem_singleton] at hx
      subst hx
      exact h.tns a ha
    · intro f hf'
      rcases List.mem_append.1 hf' with q | q
      · exact Nat.lt_succ_of_lt (h.tns f q)
      · simp only [List.mem_singleton] at q
        subst q
        exact Nat.lt_succ_self _
    · intro f hf'
      rcases List.mem_append.1 hf' with q | q
      · exact h.snf f q
      · simp only [List.mem_singleton] at q
        subst q
        exact hs
    · show (i.fs ++ [_]).length ≤ i.most
      simp
      omega
    · exact hc
  · rintro j (q | q | q | q | ⟨f, hf', rfl⟩)
    · exact .inl (.inl q)
    · cases q
      rcases hmb with q1 | ⟨-, q1⟩
      · exact .inl (.inr (.inl q1))
      · exact .inr (by omega)
    · rcases hmb2l j q with q1 | q1
      · exact .inl (.inr (.inr (.inl q1)))
      · exact .inr (Nat.le_trans hst.size q1)
    · exact .inl (.inr (.inr (.inr (.inl q))))
    · rcases List.mem_append.1 hf' with q | q
      · exact .inl (.inr (.inr (.inr (.inr ⟨f, q, rfl⟩))))
      · simp only [List.mem_singleton] at q
        subst q
        exact .inr hb
theorem ws_put {w : World} {wb : Nat} {i : WI} {c c' : Nat} (h : WS w wb i c) (hc : i.la + 1 + i.L.length ≤ c' ∧ i.N + 1 + i.L.length ≤ c') (hc' : c' ≤ 200000) (hf : i.fs.length < i.most) {id : Nat} {rel : Bool} {m : Ms} (hid : 1 ≤ id ∧ id ≤ 65535) (hT : i.T id = false) (hp : PB w m.v m.xs) (hs : (rel = true → m.zero) ∧ (rel = false → Sn m.q)) :
    Calls Tryz.prog 66 #[.pointer (some ⟨wb, 0, none⟩), .agg #[.int .i64 (id : Int), .string m.t, m.v, .int .i64 m.q, .bool m.r, .bool rel]] w fun e w' => e = .returned (.tuple #[]) ∧ ∃ b mu mt, St w w' wb i (i.put b id rel m mu mt) c' := by
  obtain ⟨t, v, q, r, xs⟩ := m
  obtain ⟨pa, pn, pc, hv⟩ := hp.sl
  simp only at hv
  subst hv
  have hwl : wb < w.heap.size := h.lt (.inl rfl)
  have hbc := h.bc
  have h4 : i.cs[4]? = some (.int .i64 (i.la : Int)) := rfl
  rcases h.und.mk with hmu | ⟨mb, hmu⟩
  · have h5 : i.cs[5]? = some (.map none) := by rw [← hmu]; rfl
    have hn0 : i.fs.length = 0 := by
      rcases h.und with ⟨-, q, -⟩ | ⟨mb, D, q, -⟩
      · exact q
      · rw [hmu] at q; cases q
    refine put44_nil (R := fun w' => ∃ b mu mt, St w w' wb i (i.put b id rel ⟨t, .slice pa pn pc, q, r, xs⟩ mu mt) c') (by omega) h.blk h5 h4 (fun w1 w2 hch h1 h2 h3 hb => ?_)
    have hl1 : w.heap.size + 1 < w1.heap.size := (Array.getElem?_eq_some_iff.1 h3).1
    have hbA : Below w1.heap.size w1 (w2.alloc (.cells (Fm.cs ⟨w2.heap.size, i.la, id, rel, ⟨t, .slice pa pn pc, q, r, xs⟩⟩) 119)) := hb.alloc hb.size _
    obtain ⟨w3, k1, k2, k3, k4⟩ := put_core (wA := w2.alloc (.cells (Fm.cs ⟨w2.heap.size, i.la, id, rel, ⟨t, .slice pa pn pc, q, r, xs⟩⟩) 119)) (b := w2.heap.size) (mb := w.heap.size + 1) h hc hc' hf hid hT hp hs (hch.trans (Below.ch (S := fun j => j = wb) hbA) (fun j _ q => q)) (later_at h1 hbA) (later_at h2 hbA) (heap_alloc_new w2 _) (by have := hb.size; omega)
      (by
        have hm := MI.made (w.alloc (.cells #[] 0))
        have hsz : (w.alloc (.cells #[] 0)).heap.size = w.heap.size + 1 := by simp
        rw [hsz] at hm
        rw [hn0]
        refine (hm.keep (w' := w2.alloc (.cells (Fm.cs ⟨w2.heap.size, i.la, id, rel, ⟨t, .slice pa pn pc, q, r, xs⟩⟩) 119)) (fun j hj => ?_)).congr (fun k hk => ?_)
        · cases hj
          rw [later_at h3 hbA]
          have := heap_alloc_new (w.alloc (.cells #[] 0)) (.map #[] 0)
          rw [hsz] at this
          exact this.symm
        · have := List.length_eq_zero_iff.1 hn0
          rw [this]
          rfl)
      (.inr ⟨hmu, rfl⟩)
    exact ⟨w3, k1, ⟨box_cells k2 5 _ rfl, box_cells k2 4 _ rfl, box_cells k3 0 _ rfl, box_cells k3 1 _ rfl, box_cells k3 2 _ rfl, box_cells k3 3 _ rfl, box_cells k3 4 _ rfl, box_cells k3 5 _ rfl⟩, k4⟩
  · have h5 : i.cs[5]? = some (.map (some mb)) := by rw [← hmu]; rfl
    have hcs : i.cs.setIfInBounds 5 (.map (some mb)) = i.cs := hi_same h5
    refine put44_some (R := fun w' => ∃ b mu mt, St w w' wb i (i.put b id rel ⟨t, .slice pa pn pc, q, r, xs⟩ mu mt) c') (by omega) h.blk h5 h4 (fun w1 w2 hch h1 h2 hb => ?_)
    have hbA : Below w1.heap.size w1 (w2.alloc (.cells (Fm.cs ⟨w2.heap.size, i.la, id, rel, ⟨t, .slice pa pn pc, q, r, xs⟩⟩) 119)) := hb.alloc hb.size _
    have hchA : Ch (fun j => j = wb) w (w2.alloc (.cells (Fm.cs ⟨w2.heap.size, i.la, id, rel, ⟨t, .slice pa pn pc, q, r, xs⟩⟩) 119)) := hch.trans (Below.ch (S := fun j => j = wb) hbA) (fun j _ q => q)
    obtain ⟨w3, k1, k2, k3, k4⟩ := put_core (wA := w2.alloc (.cells (Fm.cs ⟨w2.heap.size, i.la, id, rel, ⟨t, .slice pa pn pc, q, r, xs⟩⟩) 119)) (b := w2.heap.size) (mb := mb) h hc hc' hf hid hT hp hs hchA (by rw [hcs]; exact later_at h1 hbA) (later_at h2 hbA) (heap_alloc_new w2 _) (by have := hb.size; have := hch.size; omega)
      (by
        have hm := h.und
        rw [hmu] at hm
        refine hm.keep (fun j hj => hchA.block j (hm.lt hj) (fun q => ?_))
        obtain ⟨es, cl, e⟩ := hm.block hj
        rw [q, h.blk] at e
        cases e)
      (.inl hmu)
    exact ⟨w3, k1, ⟨box_cells k2 5 _ rfl, box_cells k2 4 _ rfl, box_cells k3 0 _ rfl, box_cells k3 1 _ rfl, box_cells k3 2 _ rfl, box_cells k3 3 _ rfl, box_cells k3 4 _ rfl, box_cells k3 5 _ rfl⟩, k4⟩
end Go.Proofs.YtmihpmmkkklpfaaGreatDoor
