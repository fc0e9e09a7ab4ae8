import Derived.Test.YtmihpmmkkklpfaaGreatDoorBSh
import Derived.Test.YtmihpmmkkklpfaaGreatDoorBOd
namespace Go.Proofs.YtmihpmmkkklpfaaGreatDoor
open Go Go.RowKit Go.Maps
set_option linter.unusedSimpArgs false
set_option linter.unusedVariables false
/-! ### Numbers that came in -/
theorem eqn54 (mb : Nat) (w : World) : (binOp .eql 54 (.map (some mb)) (.map none)).run Tryz.prog w = .ok (.bool false) w := eqn _ _ _ _ Tryz.underlying54 w
theorem eqn54n (w : World) : (binOp .eql 54 (.map none) (.map none)).run Tryz.prog w = .ok (.bool true) w := eqn _ _ _ _ Tryz.underlying54 w
theorem mk54 (W : World) : (Instr.makeMap 54 none).run Tryz.prog W = .ok (.map (some W.heap.size)) (W.alloc (.map #[] 0)) := by simp [Instr.makeMap, run_underlying Tryz.underlying54]; try rfl
section
variable {W : World} {sb wb : Nat} {k : ByteArray} {la : Bool} {mo : Int} {sv nv : Value} {n m : Nat} {f : ByteArray → Option Value} {g : Int → Option Value}
theorem ne_map {w : World} {mv : Value} {b n : Nat} {f : Int → Option Value} {cs : Array Value} {t : Nat} {fz : Nat × Nat} (h : MI w mv n f) (hb : w.heap[b]? = some (.cells cs t fz)) : mv ≠ .map (some b) := fun e => by
  obtain ⟨es, cl, q⟩ := h.block e
  rw [q] at hb
  cases hb
theorem ne_mapG {w : World} {mv : Value} {b n : Nat} {f : ByteArray → Option Value} {cs : Array Value} {t : Nat} {fz : Nat × Nat} (h : MG w mv n f) (hb : w.heap[b]? = some (.cells cs t fz)) : mv ≠ .map (some b) := fun e => by
  obtain ⟨es, cl, q⟩ := h.block e
  rw [q] at hb
  cases hb
theorem look54 (hn : MI W nv m g) (hq : ∀ x v, g x = some v → v = .agg #[]) {id : Int} (hid : okI id) : (Instr.lookup 54 nv (.int .i64 id) true).run Tryz.prog W = .ok (.tuple #[.agg #[], .bool (g id).isSome]) W := by
  have hl := hn.look2 (t := 54) Tryz.underlying54 zero88 (k := id) hid
  cases hf : g id with
  | none => rw [hf] at hl; exact hl
  | some v =>
    have := hq id v hf
    subst this
    rw [hf] at hl
    exact hl
set_option maxRecDepth 100000 in
set_option maxHeartbeats 1000000 in
theorem note_no (h : SsAt W sb wb k la mo sv nv) (hn : MI W nv m g) (hq : ∀ x v, g x = some v → v = .agg #[]) (id : Int) (hid : okI id) (hb : (g id).isSome = true ∨ ¬ (1 ≤ id ∧ id ≤ 65535)) :
    Calls Tryz.prog 31 #[.pointer (some ⟨sb, 0, none⟩), .int .i64 id] W fun e w' => e = .returned (.bool false) ∧ Below W.heap.size W w' := by
  have hl := look54 hn hq hid
  have a5 : W.cell? ⟨sb, 5, none⟩ = some nv := box_cells h 5 _ rfl
  obtain ⟨b, hbb⟩ : ∃ b, (g id).isSome = b := ⟨_, rfl⟩
  rw [hbb] at hl hb
  clear h hn hq hbb
  cases b
  · have hb' : ¬ (1 ≤ id ∧ id ≤ 65535) := hb.resolve_left (by simp)
    by_cases h1 : id < 1
    · clear hb hb'
      go_enter Tryz.func31, Tryz.ntmps31
      go_wp2_with fail
      go_ret
      exact ⟨rfl, (Below.refl _ _).alloc (Nat.le_refl _) _⟩
    · have h2 : id > 65535 := by omega
      have h2' : 65535 < id := h2
      clear hb hb'
      go_enter Tryz.func31, Tryz.ntmps31
      go_wp2_with fail
      go_ret
      exact ⟨rfl, (Below.refl _ _).alloc (Nat.le_refl _) _⟩
  · clear hb
    go_enter Tryz.func31, Tryz.ntmps31
    go_wp2_with fail
    go_ret
    exact ⟨rfl, (Below.refl _ _).alloc (Nat.le_refl _) _⟩
set_option maxRecDepth 100000 in
set_option maxHeartbeats 1000000 in
theorem note_yes (h : SsAt W sb wb k la mo sv nv) (hm : MG W sv n f) (hn : MI W nv m g) (hap : ∀ j, sv = .map (some j) → nv ≠ .map (some j)) (hq : ∀ x v, g x = some v → v = .agg #[]) (id : Int) (hid : okI id) (hb : g id = none) (h1 : 1 ≤ id) (h2 : id ≤ 65535) (hmm : m < 1000000) :
    Calls Tryz.prog 31 #[.pointer (some ⟨sb, 0, none⟩), .int .i64 id] W fun e w' => e = .returned (.bool true) ∧ ∃ nv', Tk W w' sb wb k la mo sv nv sv nv' n (m + 1) f (setF g id (some (.agg #[]))) := by
  have hl := look54 hn hq hid
  rw [hb] at hl
  simp only [Option.isSome_none] at hl
  have c1 : ¬ id < 1 := by omega
  have c2 : ¬ id > 65535 := by omega
  have c2' : ¬ 65535 < id := c2
  have a5 : W.cell? ⟨sb, 5, none⟩ = some nv := box_cells h 5 _ rfl
  have hsl : sb < W.heap.size := (Array.getElem?_eq_some_iff.1 h).1
  obtain ⟨w1, hw1⟩ : ∃ w1, w1 = W.alloc (.cells #[] 88) := ⟨_, rfl⟩
  have b1 : Below W.heap.size W (W.alloc (.cells #[] 88)) := (Below.refl _ _).alloc (Nat.le_refl _) _
  rw [← hw1] at b1
  have h1s := h.below b1
  have m1 : MG w1 sv n f := hm.keep (fun b e => b1.block b (hm.lt e))
  have n1 : MI w1 nv m g := hn.keep (fun b e => b1.block b (hn.lt e))
  have hsz : szF g id m = m + 1 := by unfold szF; rw [hb]; rfl
  have hsl1 : sb < w1.heap.size := (Array.getElem?_eq_some_iff.1 h1s).1
  rcases hn.mk with rfl | ⟨mb, rfl⟩
  · have c5 : w1.cell? ⟨sb, 5, none⟩ = some (.map none) := box_cells h1s 5 _ rfl
    have f5 : w1.frozen? ⟨sb, 5, none⟩ = false := box_frozen h1s 5
    have heq := eqn54n
    have hmk := mk54
    obtain ⟨w2, hw2⟩ : ∃ w2, w2 = (w1.setCell ⟨sb, 5, none⟩ (.map (some w1.heap.size))).alloc (.map #[] 0) := ⟨_, rfl⟩
    have hsz1 : (w1.setCell ⟨sb, 5, none⟩ (.map (some w1.heap.size))).heap.size = w1.heap.size := by simp [World.setCell]
    have s2 : SsAt w2 sb wb k la mo sv (.map (some w1.heap.size)) := by
      rw [hw2]
      unfold SsAt
      rw [heap_alloc_old _ _ (by rw [hsz1]; exact hsl1), heap_set h1s]
      rfl
    have hg0 : ∀ x, okI x → g x = none ∧ m = 0 := by
      rcases hn with ⟨_, q1, q2⟩ | ⟨mb, D, q1, _⟩
      · exact fun x hx => ⟨q2 x hx, q1⟩
      · cases q1
    have m2 : MI w2 (.map (some w1.heap.size)) m g := by
      rw [hw2, (hg0 id hid).2]
      have := MI.made (w1.setCell ⟨sb, 5, none⟩ (.map (some w1.heap.size)))
      rw [hsz1] at this
      exact this.congr (fun x hx => (hg0 x hx).1)
    have c2h : Ch (fun j => j = sb) W w2 := by
      rw [hw2]
      exact (Below.ch (S := fun j => j = sb) b1).then ((ch_set sb 5 _).then (ch_alloc _ _ _))
    obtain ⟨w3, k1, k2, k3⟩ := m2.put (t := 54) Tryz.underlying54 (k := id) hid (.agg #[]) (by unfold maxLen; omega)
    rw [hsz] at k2
    have g5 : w2.cell? ⟨sb, 5, none⟩ = some (.map (some w1.heap.size)) := box_cells s2 5 _ rfl
    have s3 : SsAt w3 sb wb k la mo sv (.map (some w1.heap.size)) := (k3.block sb (Array.getElem?_eq_some_iff.1 s2).1 (by omega)).trans s2
    have ch3 : Ch (fun j => j = sb) W w3 := c2h.trans k3 (fun j hj e => absurd hj (by have := b1.size; omega))
    have HR := hidi (show Tk W w3 sb wb k la mo sv (.map none) sv (.map (some w1.heap.size)) n (m + 1) f (setF g id (some (.agg #[]))) from ⟨s3, hm.keep (fun b e => ch3.block b (hm.lt e) (fun z => ne_mapG hm h (by rw [← z]; exact e))), k2, fun j hj => hj.elim (fun z => .inl (.inl z)) (fun z => by cases z; exact .inr b1.size), ch3.mono (fun j _ q => .inl q), fun j z1 z2 => by cases z2; have := hm.lt z1; have := b1.size; omega⟩)
    clear h h1s b1 s2 m2 c2h k2 k3 s3 hm hn m1 n1 hg0 ch3 hap hq hb
    go_enter Tryz.func31, Tryz.ntmps31
    go_upto_region 2 with fail
    rw [← hw1]
    clear hw1 hl a5
    go_upto_region 6 with fail
    rw [← hw2]
    clear hw2 c5 f5 heq hmk
    go_wp2_with fail
    go_ret
    exact ⟨rfl, _, HR.out⟩
  · have c5 : w1.cell? ⟨sb, 5, none⟩ = some (.map (some mb)) := box_cells h1s 5 _ rfl
    have heq := eqn54 mb
    obtain ⟨w3, k1, k2, k3⟩ := n1.put (t := 54) Tryz.underlying54 (k := id) hid (.agg #[]) (by unfold maxLen; omega)
    rw [hsz] at k2
    have hsm : sb ≠ mb := fun z => ne_map n1 h1s (by rw [z])
    have s3 : SsAt w3 sb wb k la mo sv (.map (some mb)) := (k3.block sb hsl1 hsm).trans h1s
    have HR := hidi (show Tk W w3 sb wb k la mo sv (.map (some mb)) sv (.map (some mb)) n (m + 1) f (setF g id (some (.agg #[]))) from ⟨s3, m1.keep (fun b e => k3.block b (m1.lt e) (fun z => hap b e (by rw [z]))), k2, fun j hj => .inl hj, (Below.ch (S := fun j => j = sb ∨ sv = .map (some j) ∨ Value.map (some mb) = .map (some j)) b1).trans k3 (fun j _ e => .inr (.inr (by rw [e]))), hap⟩)
    clear h h1s b1 k2 k3 s3 hm hn m1 n1 hap hq hb
    go_enter Tryz.func31, Tryz.ntmps31
    go_upto_region 2 with fail
    rw [← hw1]
    clear hw1 hl a5
    go_wp2_with fail
    go_ret
    exact ⟨rfl, _, HR.out⟩
set_option maxRecDepth 100000 in
set_option maxHeartbeats 1000000 in
theorem release_any (h : SsAt W sb wb k la mo sv nv) (hm : MG W sv n f) (hn : MI W nv m g) (hap : ∀ j, sv = .map (some j) → nv ≠ .map (some j)) (hq : ∀ x v, g x = some v → v = .agg #[]) (id : Int) (hid : okI id) :
    Calls Tryz.prog 32 #[.pointer (some ⟨sb, 0, none⟩), .int .i64 id] W fun e w' => e = .returned (.bool (g id).isSome) ∧ ∃ nv', Tk W w' sb wb k la mo sv nv sv nv' n (m - (if (g id).isSome then 1 else 0)) f (setF g id none) := by
  have hl := look54 hn hq hid
  have a5 : W.cell? ⟨sb, 5, none⟩ = some nv := box_cells h 5 _ rfl
  have hsl : sb < W.heap.size := (Array.getElem?_eq_some_iff.1 h).1
  obtain ⟨w1, hw1⟩ : ∃ w1, w1 = W.alloc (.cells #[] 88) := ⟨_, rfl⟩
  have b1 : Below W.heap.size W (W.alloc (.cells #[] 88)) := (Below.refl _ _).alloc (Nat.le_refl _) _
  rw [← hw1] at b1
  have h1s := h.below b1
  have m1 : MG w1 sv n f := hm.keep (fun b e => b1.block b (hm.lt e))
  have n1 : MI w1 nv m g := hn.keep (fun b e => b1.block b (hn.lt e))
  have hsl1 : sb < w1.heap.size := (Array.getElem?_eq_some_iff.1 h1s).1
  have c5 : w1.cell? ⟨sb, 5, none⟩ = some nv := box_cells h1s 5 _ rfl
  have WO := hidi (without58_any n1 id hid)
  obtain ⟨m', hm'⟩ : ∃ m', m' = m - (if (g id).isSome then 1 else 0) := ⟨_, rfl⟩
  rw [← hm'] at WO ⊢
  clear hm'
  obtain ⟨bl, hbl⟩ : ∃ bl, (g id).isSome = bl := ⟨_, rfl⟩
  rw [hbl] at hl ⊢
  have HH := hidi (And.intro h1s (And.intro m1 (And.intro b1 (And.intro n1 hap))))
  clear h hm hn hap hq h1s m1 n1 b1 hbl
  go_enter Tryz.func32, Tryz.ntmps32
  go_upto_region 2 with fail
  rw [← hw1]
  clear hw1 hl a5
  go_wp2_with fail
  go_must (go_at_call 58)
  refine WO.out.mono ?_
  clear WO
  rintro e w2 ⟨nv', rfl, m2, hnv, hc⟩
  have h2 : SsAt w2 sb wb k la mo sv nv := (hc.block sb hsl1 (fun z => ne_map HH.out.2.2.2.1 HH.out.1 z)).trans HH.out.1
  have f5 := box_frozen h2 5
  have g5 : w2.cell? ⟨sb, 5, none⟩ = some nv := box_cells h2 5 _ rfl
  have H2 := hidi (And.intro h2 (And.intro m2 (And.intro hnv hc)))
  obtain ⟨s', hs'⟩ : ∃ s', nv' = .map s' := by
    rcases m2.mk with z | ⟨z, e⟩
    · exact ⟨_, z⟩
    · exact ⟨_, e⟩
  subst hs'
  clear h2 hc m2 hnv c5
  go_wp2_with fail
  go_ret
  have mG2 : MG w2 sv n f := HH.out.2.1.keep (fun b e => H2.out.2.2.2.block b (HH.out.2.1.lt e) (fun z => HH.out.2.2.2.2 b e z))
  refine ⟨rfl, .map s', ⟨set5 H2.out.1 _, mG2.keep (fun b e => heap_set_ne _ (fun z => ne_mapG mG2 H2.out.1 (by rw [← z]; exact e))), H2.out.2.1.keep (fun b e => heap_set_ne _ (fun z => ne_map H2.out.2.1 H2.out.1 (by rw [← z]; exact e))), fun j hj => ?_, ?_, fun j z1 z2 => ?_⟩⟩
  · rcases hj with z | z
    · exact .inl (.inl z)
    · rcases H2.out.2.2.1 with y | y
      · rw [y] at z; cases z
      · rw [y] at z; exact .inl (.inr z)
  · exact ((Below.ch (S := fun j => j = sb ∨ sv = .map (some j) ∨ nv = .map (some j)) HH.out.2.2.1).then (H2.out.2.2.2.mono (fun j _ q => .inr (.inr q)))).trans (ch_set sb 5 _) (fun j _ q => .inl q)
  · rcases H2.out.2.2.1 with y | y
    · rw [y] at z2; cases z2
    · rw [y] at z2; exact HH.out.2.2.2.2 j z1 z2
end
end Go.Proofs.YtmihpmmkkklpfaaGreatDoor
namespace Go.Proofs.YtmihpmmkkklpfaaGreatDoor
open Go Go.RowKit Go.Shelf Go.Maps Go.Sort
set_option linter.unusedSimpArgs false
set_option linter.unusedVariables false
/-! ### Window.put -/
set_option maxRecDepth 100000 in
set_option maxHeartbeats 4000000 in
theorem put44_some {w : World} {wb mb la id : Nat} {cs : Array Value} {t : ByteArray} {pa : Option Addr} {pn pc : Nat} {q : Int} {r rel : Bool} (hla : la ≤ 1000000) (hB : w.heap[wb]? = some (.cells cs 101 (0, 0))) (h5 : cs[5]? = some (.map (some mb))) (h4 : cs[4]? = some (.int .i64 (la : Int))) {R : World → Prop}
    (HK : ∀ w1 w2, Ch (fun j => j = wb) w w1 → w1.heap[wb]? = some (.cells cs 101 (0, 0)) → w1.heap[w.heap.size]? = some (.cells #[.int .i64 (id : Int), .string t, .slice pa pn pc, .int .i64 q, .bool r, .bool rel] 108 (0, 0)) → Below w1.heap.size w1 w2 → ∃ w3, (Instr.mapUpdate 94 (.map (some mb)) (.int .i64 (id : Int)) (.pointer (some ⟨w2.heap.size, 0, none⟩))).run Tryz.prog (w2.alloc (.cells #[.int .i64 (la : Int), .int .i64 (awt q rel), .int .i64 (id : Int), .string t, .slice pa pn pc, .int .i64 q, .bool r] 119)) = .ok () w3 ∧ (w3.cell? ⟨wb, 5, none⟩ = some (.map (some mb)) ∧ w3.cell? ⟨wb, 4, none⟩ = some (.int .i64 (la : Int)) ∧ w3.cell? ⟨w.heap.size, 0, none⟩ = some (.int .i64 (id : Int)) ∧ w3.cell? ⟨w.heap.size, 1, none⟩ = some (.string t) ∧ w3.cell? ⟨w.heap.size, 2, none⟩ = some (.slice pa pn pc) ∧ w3.cell? ⟨w.heap.size, 3, none⟩ = some (.int .i64 q) ∧ w3.cell? ⟨w.heap.size, 4, none⟩ = some (.bool r) ∧ w3.cell? ⟨w.heap.size, 5, none⟩ = some (.bool rel)) ∧ Calls Tryz.prog 92 #[.pointer (some ⟨wb, 8, none⟩), .int .i64 (id : Int)] w3.drew (fun e w4 => e = .returned (.tuple #[]) ∧ w4.cell? ⟨wb, 4, none⟩ = some (.int .i64 (la : Int)) ∧ w4.frozen? ⟨wb, 4, none⟩ = false ∧ R (w4.setCell ⟨wb, 4, none⟩ (.int .i64 ((la + 1 : Nat) : Int))))) :
    Calls Tryz.prog 66 #[.pointer (some ⟨wb, 0, none⟩), .agg #[.int .i64 (id : Int), .string t, .slice pa pn pc, .int .i64 q, .bool r, .bool rel]] w fun e w' => e = .returned (.tuple #[]) ∧ R w' := by
  have c5 := box_cells hB 5 _ h5
  have c4 := box_cells hB 4 _ h4
  have f5 := box_frozen hB 5
  have HB := hidi (And.intro hB (And.intro h5 h4))
  have hwl : wb < w.heap.size := World.block_lt_of_cell? _ _ c5
  have HW := hidi hwl
  have hne : wb ≠ w.heap.size := by omega
  have hne' : w.heap.size ≠ wb := by omega
  have H := hidi HK
  have hw1 : IntKind.i64.wrap ((la : Int) + 1) = ((la + 1 : Nat) : Int) := by rw [IntKind.wrap_i64]; omega
  clear HK hB h5 h4
  generalize hgn : la + 1 = la1 at *
  have heq := eqn68 mb
  have hmk : ∀ W : World, (Instr.makeMap 94 none).run Tryz.prog W = .ok (.map (some W.heap.size)) (W.alloc (.map #[] 0)) := fun W => by simp [Instr.makeMap, run_underlying Tryz.underlying94]; try rfl
  have AW := hidi (fun W : World => awaited_any id t pa pn pc q r rel W)
  clear hgn
  go_enter Tryz.func66, Tryz.ntmps66
  go_wp2_with fail
  obtain ⟨w1, hw1e⟩ : ∃ w1, w1 = (w.alloc (.cells #[.int .i64 (id : Int), .string t, .slice pa pn pc, .int .i64 q, .bool r, .bool rel] 108)) := ⟨_, rfl⟩
  rw [← hw1e]
  have q1 := heap_alloc_new w (.cells #[.int .i64 (id : Int), .string t, .slice pa pn pc, .int .i64 q, .bool r, .bool rel] 108)
  have q4 : Below w.heap.size w (w.alloc (.cells #[.int .i64 (id : Int), .string t, .slice pa pn pc, .int .i64 q, .bool r, .bool rel] 108)) := (Below.refl _ _).alloc (Nat.le_refl _) _
  rw [← hw1e] at q1 q4
  have g1 : w1.heap[wb]? = some (.cells cs 101 (0, 0)) := (q4.block wb hwl).trans HB.out.1
  have H1 := hidi (fun w2 => H.out w1 w2 (Below.ch q4) g1 q1)
  have a5 := box_cells g1 5 _ HB.out.2.1
  have a4 := box_cells g1 4 _ HB.out.2.2
  have e0 := box_cells q1 0 _ rfl
  have e1 := box_cells q1 1 _ rfl
  have e2 := box_cells q1 2 _ rfl
  have e3 := box_cells q1 3 _ rfl
  have e4 := box_cells q1 4 _ rfl
  have e5 := box_cells q1 5 _ rfl
  have KB := hidi (fun (w2 : World) (hb : Below w1.drew.heap.size w1.drew w2) => (show w2.cell? ⟨wb, 5, none⟩ = some (.map (some mb)) ∧ w2.cell? ⟨wb, 4, none⟩ = some (.int .i64 (la : Int)) ∧ w2.cell? ⟨w.heap.size, 0, none⟩ = some (.int .i64 (id : Int)) ∧ w2.cell? ⟨w.heap.size, 1, none⟩ = some (.string t) ∧ w2.cell? ⟨w.heap.size, 2, none⟩ = some (.slice pa pn pc) ∧ w2.cell? ⟨w.heap.size, 3, none⟩ = some (.int .i64 q) ∧ w2.cell? ⟨w.heap.size, 4, none⟩ = some (.bool r) ∧ w2.cell? ⟨w.heap.size, 5, none⟩ = some (.bool rel) from
    have l1 : wb < w1.heap.size := (Array.getElem?_eq_some_iff.1 g1).1
    have l2 : w.heap.size < w1.heap.size := (Array.getElem?_eq_some_iff.1 q1).1
    ⟨(hb.cell (p := ⟨wb, 5, none⟩) l1).trans a5, (hb.cell (p := ⟨wb, 4, none⟩) l1).trans a4, (hb.cell (p := ⟨w.heap.size, 0, none⟩) l2).trans e0, (hb.cell (p := ⟨w.heap.size, 1, none⟩) l2).trans e1, (hb.cell (p := ⟨w.heap.size, 2, none⟩) l2).trans e2, (hb.cell (p := ⟨w.heap.size, 3, none⟩) l2).trans e3, (hb.cell (p := ⟨w.heap.size, 4, none⟩) l2).trans e4, (hb.cell (p := ⟨w.heap.size, 5, none⟩) l2).trans e5⟩))
  clear g1 q1 q4 hw1e c5 c4 f5 H
  go_region_held_law (fun w' => w'.cell? ⟨wb, 5, none⟩ = some (.map (some mb)) ∧ w'.cell? ⟨wb, 4, none⟩ = some (.int .i64 (la : Int)) ∧ w'.cell? ⟨w.heap.size, 0, none⟩ = some (.int .i64 (id : Int)) ∧ w'.cell? ⟨w.heap.size, 1, none⟩ = some (.string t) ∧ w'.cell? ⟨w.heap.size, 2, none⟩ = some (.slice pa pn pc) ∧ w'.cell? ⟨w.heap.size, 3, none⟩ = some (.int .i64 q) ∧ w'.cell? ⟨w.heap.size, 4, none⟩ = some (.bool r) ∧ w'.cell? ⟨w.heap.size, 5, none⟩ = some (.bool rel)) (first | exact HK3.out | exact ⟨a5, a4, e0, e1, e2, e3, e4, e5⟩ | go_keep) (first
    | (go_at_call 95; refine (AW.out _).mono ?_; rintro e w2 ⟨rfl, hb⟩; obtain ⟨w3, hm, hk, h30⟩ := H1.out w2 ((Below.refl w1.heap.size w1).drew.trans hb); have HK3 := hidi hk; have H30 := hidi h30; clear a5 a4 e0 e1 e2 e3 e4 e5; obtain ⟨a5, a4, e0, e1, e2, e3, e4, e5⟩ := KB.out w2 hb; clear hb hk h30))
  clear a5 a4 e0 e1 e2 e3 e4 e5 KB AW H1
  obtain ⟨-, -, e0, -⟩ := HK3.out
  clear HK3
  go_wp2_with fail
  go_region_with (go_at_call 92; refine H30.out.mono ?_; rintro e w4 ⟨rfl, k4, kf, hR⟩; have HR := hidi hR; clear hR)
  all_goals go_wp2_with fail
  all_goals go_end0
  all_goals exact ⟨rfl, HR.out⟩
set_option maxRecDepth 100000 in
set_option maxHeartbeats 4000000 in
theorem put44_nil {w : World} {wb la id : Nat} {cs : Array Value} {t : ByteArray} {pa : Option Addr} {pn pc : Nat} {q : Int} {r rel : Bool} (hla : la ≤ 1000000) (hB : w.heap[wb]? = some (.cells cs 101 (0, 0))) (h5 : cs[5]? = some (.map none)) (h4 : cs[4]? = some (.int .i64 (la : Int))) {R : World → Prop}
    (HK : ∀ w1 w2, Ch (fun j => j = wb) w w1 → w1.heap[wb]? = some (.cells (cs.setIfInBounds 5 (.map (some (w.heap.size + 1)))) 101 (0, 0)) → w1.heap[w.heap.size]? = some (.cells #[.int .i64 (id : Int), .string t, .slice pa pn pc, .int .i64 q, .bool r, .bool rel] 108 (0, 0)) → w1.heap[w.heap.size + 1]? = some (.map #[] 0) → Below w1.heap.size w1 w2 → ∃ w3, (Instr.mapUpdate 94 (.map (some (w.heap.size + 1))) (.int .i64 (id : Int)) (.pointer (some ⟨w2.heap.size, 0, none⟩))).run Tryz.prog (w2.alloc (.cells #[.int .i64 (la : Int), .int .i64 (awt q rel), .int .i64 (id : Int), .string t, .slice pa pn pc, .int .i64 q, .bool r] 119)) = .ok () w3 ∧ (w3.cell? ⟨wb, 5, none⟩ = some (.map (some (w.heap.size + 1))) ∧ w3.cell? ⟨wb, 4, none⟩ = some (.int .i64 (la : Int)) ∧ w3.cell? ⟨w.heap.size, 0, none⟩ = some (.int .i64 (id : Int)) ∧ w3.cell? ⟨w.heap.size, 1, none⟩ = some (.string t) ∧ w3.cell? ⟨w.heap.size, 2, none⟩ = some (.slice pa pn pc) ∧ w3.cell? ⟨w.heap.size, 3, none⟩ = some (.int .i64 q) ∧ w3.cell? ⟨w.heap.size, 4, none⟩ = some (.bool r) ∧ w3.cell? ⟨w.heap.size, 5, none⟩ = some (.bool rel)) ∧ Calls Tryz.prog 92 #[.pointer (some ⟨wb, 8, none⟩), .int .i64 (id : Int)] w3.drew (fun e w4 => e = .returned (.tuple #[]) ∧ w4.cell? ⟨wb, 4, none⟩ = some (.int .i64 (la : Int)) ∧ w4.frozen? ⟨wb, 4, none⟩ = false ∧ R (w4.setCell ⟨wb, 4, none⟩ (.int .i64 ((la + 1 : Nat) : Int))))) :
    Calls Tryz.prog 66 #[.pointer (some ⟨wb, 0, none⟩), .agg #[.int .i64 (id : Int), .string t, .slice pa pn pc, .int .i64 q, .bool r, .bool rel]] w fun e w' => e = .returned (.tuple #[]) ∧ R w' := by
  have c5 := box_cells hB 5 _ h5
  have c4 := box_cells hB 4 _ h4
  have f5 := box_frozen hB 5
  have HB := hidi (And.intro hB (And.intro h5 h4))
  have hwl : wb < w.heap.size := World.block_lt_of_cell? _ _ c5
  have HW := hidi hwl
  have hne : wb ≠ w.heap.size := by omega
  have hne' : w.heap.size ≠ wb := by omega
  have H := hidi HK
  have hw1 : IntKind.i64.wrap ((la : Int) + 1) = ((la + 1 : Nat) : Int) := by rw [IntKind.wrap_i64]; omega
  clear HK hB h5 h4
  generalize hgn : la + 1 = la1 at *
  have heq := eqn68n
  have hmk : ∀ W : World, (Instr.makeMap 94 none).run Tryz.prog W = .ok (.map (some W.heap.size)) (W.alloc (.map #[] 0)) := fun W => by simp [Instr.makeMap, run_underlying Tryz.underlying94]; try rfl
  have AW := hidi (fun W : World => awaited_any id t pa pn pc q r rel W)
  clear hgn
  go_enter Tryz.func66, Tryz.ntmps66
  go_wp2_with fail
  obtain ⟨w1, hw1e⟩ : ∃ w1, w1 = (((w.setCell ⟨wb, 5, none⟩ (.map (some (w.heap.size + 1)))).alloc (.cells #[.int .i64 (id : Int), .string t, .slice pa pn pc, .int .i64 q, .bool r, .bool rel] 108)).alloc (.map #[] 0)) := ⟨_, rfl⟩
  rw [← hw1e]
  have hs0 : (w.setCell ⟨wb, 5, none⟩ (.map (some (w.heap.size + 1)))).heap.size = w.heap.size := by simp
  obtain ⟨q1, q2, q3⟩ := two_alloc (w.setCell ⟨wb, 5, none⟩ (.map (some (w.heap.size + 1)))) (.cells #[.int .i64 (id : Int), .string t, .slice pa pn pc, .int .i64 q, .bool r, .bool rel] 108) (.map #[] 0)
  have q4 := two_below (w.setCell ⟨wb, 5, none⟩ (.map (some (w.heap.size + 1)))) (.cells #[.int .i64 (id : Int), .string t, .slice pa pn pc, .int .i64 q, .bool r, .bool rel] 108) (.map #[] 0)
  rw [hs0] at q1 q2 q3 q4
  rw [← hw1e] at q1 q2 q3 q4
  have g1 : w1.heap[wb]? = some (.cells (cs.setIfInBounds 5 (.map (some (w.heap.size + 1)))) 101 (0, 0)) := (q4.block wb hwl).trans (heap_set HB.out.1 _)
  have g2 : Ch (fun j => j = wb) w w1 := (ch_set wb 5 _).then (Below.ch (by rw [hs0]; exact q4))
  have H1 := hidi (fun w2 => H.out w1 w2 g2 g1 q1 q2)
  have a5 := box_cells g1 5 _ (Array.getElem?_setIfInBounds_self_of_lt (by have := (Array.getElem?_eq_some_iff.1 HB.out.2.1).1; exact this))
  have a4 := box_cells g1 4 (.int .i64 (la : Int)) (by rw [Array.getElem?_setIfInBounds_ne (by decide)]; exact HB.out.2.2)
  have e0 := box_cells q1 0 _ rfl
  have e1 := box_cells q1 1 _ rfl
  have e2 := box_cells q1 2 _ rfl
  have e3 := box_cells q1 3 _ rfl
  have e4 := box_cells q1 4 _ rfl
  have e5 := box_cells q1 5 _ rfl
  have KB := hidi (fun (w2 : World) (hb : Below w1.drew.heap.size w1.drew w2) => (show w2.cell? ⟨wb, 5, none⟩ = some (.map (some (w.heap.size + 1))) ∧ w2.cell? ⟨wb, 4, none⟩ = some (.int .i64 (la : Int)) ∧ w2.cell? ⟨w.heap.size, 0, none⟩ = some (.int .i64 (id : Int)) ∧ w2.cell? ⟨w.heap.size, 1, none⟩ = some (.string t) ∧ w2.cell? ⟨w.heap.size, 2, none⟩ = some (.slice pa pn pc) ∧ w2.cell? ⟨w.heap.size, 3, none⟩ = some (.int .i64 q) ∧ w2.cell? ⟨w.heap.size, 4, none⟩ = some (.bool r) ∧ w2.cell? ⟨w.heap.size, 5, none⟩ = some (.bool rel) from
    have l1 : wb < w1.heap.size := (Array.getElem?_eq_some_iff.1 g1).1
    have l2 : w.heap.size < w1.heap.size := (Array.getElem?_eq_some_iff.1 q1).1
    ⟨(hb.cell (p := ⟨wb, 5, none⟩) l1).trans a5, (hb.cell (p := ⟨wb, 4, none⟩) l1).trans a4, (hb.cell (p := ⟨w.heap.size, 0, none⟩) l2).trans e0, (hb.cell (p := ⟨w.heap.size, 1, none⟩) l2).trans e1, (hb.cell (p := ⟨w.heap.size, 2, none⟩) l2).trans e2, (hb.cell (p := ⟨w.heap.size, 3, none⟩) l2).trans e3, (hb.cell (p := ⟨w.heap.size, 4, none⟩) l2).trans e4, (hb.cell (p := ⟨w.heap.size, 5, none⟩) l2).trans e5⟩))
  clear g1 q1 q4 g2 q2 q3 hs0 hw1e c5 c4 f5 H
  go_region_held_law (fun w' => w'.cell? ⟨wb, 5, none⟩ = some (.map (some (w.heap.size + 1))) ∧ w'.cell? ⟨wb, 4, none⟩ = some (.int .i64 (la : Int)) ∧ w'.cell? ⟨w.heap.size, 0, none⟩ = some (.int .i64 (id : Int)) ∧ w'.cell? ⟨w.heap.size, 1, none⟩ = some (.string t) ∧ w'.cell? ⟨w.heap.size, 2, none⟩ = some (.slice pa pn pc) ∧ w'.cell? ⟨w.heap.size, 3, none⟩ = some (.int .i64 q) ∧ w'.cell? ⟨w.heap.size, 4, none⟩ = some (.bool r) ∧ w'.cell? ⟨w.heap.size, 5, none⟩ = some (.bool rel)) (first | exact HK3.out | exact ⟨a5, a4, e0, e1, e2, e3, e4, e5⟩ | go_keep) (first
    | (go_at_call 95; refine (AW.out _).mono ?_; rintro e w2 ⟨rfl, hb⟩; obtain ⟨w3, hm, hk, h30⟩ := H1.out w2 ((Below.refl w1.heap.size w1).drew.trans hb); have HK3 := hidi hk; have H30 := hidi h30; clear a5 a4 e0 e1 e2 e3 e4 e5; obtain ⟨a5, a4, e0, e1, e2, e3, e4, e5⟩ := KB.out w2 hb; clear hb hk h30))
  clear a5 a4 e0 e1 e2 e3 e4 e5 KB AW H1
  obtain ⟨-, -, e0, -⟩ := HK3.out
  clear HK3
  go_wp2_with fail
  go_region_with (go_at_call 92; refine H30.out.mono ?_; rintro e w4 ⟨rfl, k4, kf, hR⟩; have HR := hidi hR; clear hR)
  all_goals go_wp2_with fail
  all_goals go_end0
  all_goals exact ⟨rfl, HR.out⟩
end Go.Proofs.YtmihpmmkkklpfaaGreatDoor
