import Derived.Test.YtcoccggimbficaaDoorSb
import Derived.Test.YtcoccggimbficaaDoorLd
import Derived.Deep.RegionHeld
namespace Go.Proofs.YtcoccggimbficaaDoor
open Go Go.RowKit Go.Sort
set_option linter.unusedSimpArgs false
set_option linter.unusedVariables false

/-- What a packet is but for its lists, cell by cell. -/
def plCells (p : Pk) : Array Value := #[.int .i64 p.kind, .int .i64 p.level, .int .i64 p.keep, .int .i64 p.code, .int .i64 p.id, .bool p.clean, .bool p.present, .bool p.dup, .bool p.hasWill, .bool p.hasUser, .bool p.hasPass, .string p.client, .string p.user, .string p.wT, .int .i64 p.wQ, .bool p.wR, .string p.mT, .int .i64 p.mQ, .bool p.mR]

theorem eqIn_heading (d : Nat) (t t' : ByteArray) (q q' : Int) (r r' : Bool) (w : World) : (Op.equalIn (d + 2) 49 (.agg #[.string t, .int .i64 q, .bool r]) (.agg #[.string t', .int .i64 q', .bool r'])).run Tryd.prog w = .ok (hdEq t t' q q' r r') w := by
  have hu : Tryd.prog.underlying 49 = some (.struct (Tryd.prog.fieldsOf 49)) := by kernel_rfl
  have hp : Tryd.prog.stoodInHeld 49 = false := by kernel_rfl
  rw [run_equalIn_agg w (d + 1) 49 _ _ hu hp]
  clear hu hp
  simp only [Program.fieldsOf, Tryd.underlying49, hdEq]
  cases h1 : (t.toList == t'.toList)
  · go_simp
  · cases h2 : (q == q')
    · go_simp
    · cases r <;> cases r' <;> go_simp

set_option maxHeartbeats 4000000 in
theorem eq_plain (p q : Pk) (w : World) : (binOp .eql 51 (.agg (plCells p)) (.agg (plCells q))).run Tryd.prog w = .ok (.bool (plEq p q)) w := by
  have hu : Tryd.prog.underlying 51 = some (.struct (Tryd.prog.fieldsOf 51)) := by kernel_rfl
  have hp : Tryd.prog.stoodInHeld 51 = false := by kernel_rfl
  rw [run_eql_struct, run_equalIn_agg w 9999 51 _ _ hu hp]
  clear hu hp
  have E1 := fun d => eqIn_heading d p.wT q.wT p.wQ q.wQ p.wR q.wR
  have E2 := fun d => eqIn_heading d p.mT q.mT p.mQ q.mQ p.mR q.mR
  have E1 : ∀ w, (Op.equalIn 9999 49 (.agg #[.string p.wT, .int .i64 p.wQ, .bool p.wR]) (.agg #[.string q.wT, .int .i64 q.wQ, .bool q.wR])).run Tryd.prog w = .ok (hdEq p.wT q.wT p.wQ q.wQ p.wR q.wR) w := E1 9997
  have E2 : ∀ w, (Op.equalIn 9999 49 (.agg #[.string p.mT, .int .i64 p.mQ, .bool p.mR]) (.agg #[.string q.mT, .int .i64 q.mQ, .bool q.mR])).run Tryd.prog w = .ok (hdEq p.mT q.mT p.mQ q.mQ p.mR q.mR) w := E2 9997
  simp only [Program.fieldsOf, Tryd.underlying51, plEq, plCells]
  cases h0 : (p.kind == q.kind)
  · go_simp
  cases h1 : (p.level == q.level)
  · go_simp
  cases h2 : (p.keep == q.keep)
  · go_simp
  cases h3 : (p.code == q.code)
  · go_simp
  cases h4 : (p.id == q.id)
  · go_simp
  cases h5 : (p.clean == q.clean)
  · go_simp
  cases h6 : (p.present == q.present)
  · go_simp
  cases h7 : (p.dup == q.dup)
  · go_simp
  cases h8 : (p.hasWill == q.hasWill)
  · go_simp
  cases h9 : (p.hasUser == q.hasUser)
  · go_simp
  cases h10 : (p.hasPass == q.hasPass)
  · go_simp
  cases h11 : (p.client.toList == q.client.toList)
  · go_simp
  cases h12 : (p.user.toList == q.user.toList)
  · go_simp
  cases h13 : (hdEq p.wT q.wT p.wQ q.wQ p.wR q.wR)
  · go_simp
  cases h14 : (hdEq p.mT q.mT p.mQ q.mQ p.mR q.mR)
  · go_simp
  go_simp

end Go.Proofs.YtcoccggimbficaaDoor
namespace Go.Proofs.YtcoccggimbficaaDoor
open Go Go.RowKit Go.Sort
set_option linter.unusedSimpArgs false
set_option linter.unusedVariables false

/-- The box of a packet and the row behind it. -/
structure Rw (cs zs : Array Value) (w w' : World) : Prop where
  box : w'.heap[w.heap.size]? = some (.cells cs 31)
  row : w'.heap[w.heap.size + 1]? = some (.cells zs 51)
  bel : Below w.heap.size w w'
def plZ : Array Value := #[.int .i64 0, .int .i64 0, .int .i64 0, .int .i64 0, .int .i64 0, .bool false, .bool false, .bool false, .bool false, .bool false, .bool false, .string ⟨#[]⟩, .string ⟨#[]⟩, .string ⟨#[]⟩, .int .i64 0, .bool false, .string ⟨#[]⟩, .int .i64 0, .bool false]
theorem Rw.below {cs zs : Array Value} {w w1 w2 : World} (h : Hid (Rw cs zs w w1)) (hb : Below w1.heap.size w1 w2) : Hid (Rw cs zs w w2) :=
  ⟨(hb.block _ (block_lt h.out.box)).trans h.out.box, (hb.block _ (block_lt h.out.row)).trans h.out.row, h.out.bel.trans (hb.mono h.out.bel.size)⟩
theorem Rw.set {cs zs : Array Value} {w w1 : World} (h : Rw cs zs w w1) (i : Nat) (v : Value) : Rw cs (zs.setIfInBounds i v) w (w1.setCell ⟨w.heap.size + 1, i, none⟩ v) :=
  ⟨(heap_setCell_other w1 _ _ _ (by show w.heap.size ≠ w.heap.size + 1; omega)).trans h.box, by simp [World.setCell, Array.getElem?_modify, h.row], set_below h.bel _ _ _ (by omega)⟩
theorem Rw.held {cs zs : Array Value} {w w1 : World} (h : Hid (∃ zs, Rw cs zs w w1)) (i : Nat) (v : Value) : Hid (∃ zs, Rw cs zs w (w1.setCell ⟨w.heap.size + 1, i, none⟩ v)) :=
  let ⟨_, h⟩ := h.out
  ⟨_, h.set i v⟩
theorem Rw.bc {cs zs : Array Value} {w w1 : World} (h : Rw cs zs w w1) (k : Nat) (v : Value) (hk : cs[k]? = some v) : w1.cell? ⟨w.heap.size, k, none⟩ = some v := by
  simp [World.cell?, h.box, hk]
theorem Rw.zc {cs zs : Array Value} {w w1 : World} (h : Rw cs zs w w1) (k : Nat) (v : Value) (hk : zs[k]? = some v) : w1.cell? ⟨w.heap.size + 1, k, none⟩ = some v := by
  simp [World.cell?, h.row, hk]
theorem Rw.zf {cs zs : Array Value} {w w1 : World} (h : Rw cs zs w w1) (k : Nat) : w1.frozen? ⟨w.heap.size + 1, k, none⟩ = false := by
  simp [World.frozen?, h.row]

theorem Rw.row_set {cs zs : Array Value} {w w1 : World} (h : Rw cs zs w w1) (xs : Array Value) : Rw cs xs w (w1.setRow (w.heap.size + 1) xs) :=
  ⟨by rw [setRow_other _ _ _ _ (by omega)]; exact h.box, setRow_heap _ _ _ xs 51 (0, 0) h.row, row_below h.bel _ _ (by omega)⟩
theorem yields_build {o : Oper} {a : Act} (t : TypeId) (parts : Array (Nat × Operand)) (ho : o.op = .build t parts) (cells : Array Value) (hc : Tryd.prog.built t (parts.map fun (i, x) => (i, a.eval x)).toList = some cells) (w : World) : (execOp a.eval o).run Tryd.prog w = .ok (.value (.agg cells)) w := by
  unfold execOp
  simp only [ho, Sem.run_bind, run_build w t _ cells hc, Result.andThen_ok]
  rfl

set_option maxHeartbeats 4000000 in
set_option maxRecDepth 100000 in
theorem plain_any (p : Pk) (w : World) : Calls Tryd.prog 23 #[p.v] w fun e w' => e = .returned (.agg (plCells p)) ∧ Below w.heap.size w w' := by
  obtain ⟨cs, hcs⟩ : ∃ cs, cs = pkCells p := ⟨_, rfl⟩
  rw [show p.v = .agg cs by rw [hcs]; rfl]
  have HCS : Hid (cs = pkCells p) := hcs
  clear hcs
  obtain ⟨W, hW⟩ : ∃ W, W = (w.alloc (.cells cs 31)).alloc (.cells plZ 51) := ⟨_, rfl⟩
  have HR : Hid (Rw cs plZ w W) := by
    subst hW
    exact ⟨(Below.heap_alloc (w.alloc (.cells cs 31)) _ _ (by show w.heap.size < (w.heap.push _).size; simp)).trans (heap_alloc_new w _), heap_alloc2_new w _ _, below2 _ _ _⟩
  have HR1 : Hid (Rw cs plZ w W.drew) := ⟨HR.out.box, HR.out.row, HR.out.bel.drew⟩
  have KS : Hid (∀ w', Hid (∃ zs, Rw cs zs w w') → (fun w' => w'.cell? ⟨w.heap.size, 0, none⟩ = some (.int .i64 p.kind) ∧ w'.cell? ⟨w.heap.size, 1, none⟩ = some (.int .i64 p.level) ∧ w'.cell? ⟨w.heap.size, 3, none⟩ = some (.int .i64 p.keep) ∧ w'.cell? ⟨w.heap.size, 15, none⟩ = some (.int .i64 p.code) ∧ w'.cell? ⟨w.heap.size, 21, none⟩ = some (.int .i64 p.id) ∧ w'.cell? ⟨w.heap.size, 2, none⟩ = some (.bool p.clean) ∧ w'.cell? ⟨w.heap.size, 14, none⟩ = some (.bool p.present) ∧ w'.cell? ⟨w.heap.size, 16, none⟩ = some (.bool p.dup) ∧ w'.cell? ⟨w.heap.size, 5, none⟩ = some (.bool p.hasWill) ∧ w'.cell? ⟨w.heap.size, 10, none⟩ = some (.bool p.hasUser) ∧ w'.cell? ⟨w.heap.size, 12, none⟩ = some (.bool p.hasPass) ∧ w'.cell? ⟨w.heap.size, 4, none⟩ = some (.string p.client) ∧ w'.cell? ⟨w.heap.size, 11, none⟩ = some (.string p.user) ∧ w'.cell? ⟨w.heap.size, 6, none⟩ = some (.string p.wT) ∧ w'.cell? ⟨w.heap.size, 7, none⟩ = some (.slice p.wP.a p.wP.n p.wP.c) ∧ w'.cell? ⟨w.heap.size, 8, none⟩ = some (.int .i64 p.wQ) ∧ w'.cell? ⟨w.heap.size, 9, none⟩ = some (.bool p.wR) ∧ w'.cell? ⟨w.heap.size, 17, none⟩ = some (.string p.mT) ∧ w'.cell? ⟨w.heap.size, 18, none⟩ = some (.slice p.mP.a p.mP.n p.mP.c) ∧ w'.cell? ⟨w.heap.size, 19, none⟩ = some (.int .i64 p.mQ) ∧ w'.cell? ⟨w.heap.size, 20, none⟩ = some (.bool p.mR)) w' ∧ Hid (∃ zs, Rw cs zs w w')) := by
    intro w' ⟨zs, h⟩
    refine ⟨⟨?_, ?_, ?_, ?_, ?_, ?_, ?_, ?_, ?_, ?_, ?_, ?_, ?_, ?_, ?_, ?_, ?_, ?_, ?_, ?_, ?_⟩, ⟨zs, h⟩⟩ <;> exact h.bc _ _ (by rw [HCS.out]; rfl)
  go_enter Tryd.func23, Tryd.ntmps23
  go_wp2_with fail
  have hW' : W = (w.alloc (.cells cs 31)).alloc (.cells #[.int .i64 0, .int .i64 0, .int .i64 0, .int .i64 0, .int .i64 0, .bool false, .bool false, .bool false, .bool false, .bool false, .bool false, .string ⟨#[]⟩, .string ⟨#[]⟩, .string ⟨#[]⟩, .int .i64 0, .bool false, .string ⟨#[]⟩, .int .i64 0, .bool false] 51) := hW
  rw [← hW']
  clear hW' hW HR
  refine wp_region_held_drew (S := fun w' => (w'.cell? ⟨w.heap.size, 0, none⟩ = some (.int .i64 p.kind) ∧ w'.cell? ⟨w.heap.size, 1, none⟩ = some (.int .i64 p.level) ∧ w'.cell? ⟨w.heap.size, 3, none⟩ = some (.int .i64 p.keep) ∧ w'.cell? ⟨w.heap.size, 15, none⟩ = some (.int .i64 p.code) ∧ w'.cell? ⟨w.heap.size, 21, none⟩ = some (.int .i64 p.id) ∧ w'.cell? ⟨w.heap.size, 2, none⟩ = some (.bool p.clean) ∧ w'.cell? ⟨w.heap.size, 14, none⟩ = some (.bool p.present) ∧ w'.cell? ⟨w.heap.size, 16, none⟩ = some (.bool p.dup) ∧ w'.cell? ⟨w.heap.size, 5, none⟩ = some (.bool p.hasWill) ∧ w'.cell? ⟨w.heap.size, 10, none⟩ = some (.bool p.hasUser) ∧ w'.cell? ⟨w.heap.size, 12, none⟩ = some (.bool p.hasPass) ∧ w'.cell? ⟨w.heap.size, 4, none⟩ = some (.string p.client) ∧ w'.cell? ⟨w.heap.size, 11, none⟩ = some (.string p.user) ∧ w'.cell? ⟨w.heap.size, 6, none⟩ = some (.string p.wT) ∧ w'.cell? ⟨w.heap.size, 7, none⟩ = some (.slice p.wP.a p.wP.n p.wP.c) ∧ w'.cell? ⟨w.heap.size, 8, none⟩ = some (.int .i64 p.wQ) ∧ w'.cell? ⟨w.heap.size, 9, none⟩ = some (.bool p.wR) ∧ w'.cell? ⟨w.heap.size, 17, none⟩ = some (.string p.mT) ∧ w'.cell? ⟨w.heap.size, 18, none⟩ = some (.slice p.mP.a p.mP.n p.mP.c) ∧ w'.cell? ⟨w.heap.size, 19, none⟩ = some (.int .i64 p.mQ) ∧ w'.cell? ⟨w.heap.size, 20, none⟩ = some (.bool p.mR)) ∧ Hid (∃ zs, Rw cs zs w w')) (by kernel_rfl) (KS.out _ ⟨_, HR1.out⟩) (fun hHeld => ?_)
  refine wpAnyH_take (i := 0) (oi := { dst := some 3, op := Go.Op.fieldAddr 31 (Go.Operand.tmp 1) 0, type := 0, pos := "two.go:60", after := #[], guard := none }) (v := .pointer (some ⟨w.heap.size, 0, none⟩)) rfl (by kernel_rfl) (by kernel_rfl) (by kernel_rfl) (fun _ _ _ h => h) (Or.inl ⟨by rfl, by (intro wq hSw; (try dsimp only at hSw); go_simp)⟩) hHeld ?_
  simp only [Act.put, List.setIfInBounds_toArray, List.set_cons_zero, List.set_cons_succ]
  refine wpAnyH_take (i := 1) (oi := { dst := some 4, op := Go.Op.load 3 (Go.Operand.tmp 3), type := 3, pos := "two.go:60", after := #[{ on := 0, ground := Go.Ground.data }], guard := none }) (v := .int .i64 p.kind) rfl (by kernel_rfl) (by kernel_rfl) (by kernel_rfl) (fun _ _ _ h => h) (Or.inl ⟨by rfl, by (intro wq hSw; (try dsimp only at hSw); go_simp)⟩) hHeld ?_
  simp only [Act.put, List.setIfInBounds_toArray, List.set_cons_zero, List.set_cons_succ]
  refine wpAnyH_take (i := 2) (oi := { dst := some 5, op := Go.Op.fieldAddr 31 (Go.Operand.tmp 1) 1, type := 0, pos := "two.go:60", after := #[], guard := none }) (v := .pointer (some ⟨w.heap.size, 1, none⟩)) rfl (by kernel_rfl) (by kernel_rfl) (by kernel_rfl) (fun _ _ _ h => h) (Or.inl ⟨by rfl, by (intro wq hSw; (try dsimp only at hSw); go_simp)⟩) hHeld ?_
  simp only [Act.put, List.setIfInBounds_toArray, List.set_cons_zero, List.set_cons_succ]
  refine wpAnyH_take (i := 3) (oi := { dst := some 6, op := Go.Op.load 3 (Go.Operand.tmp 5), type := 3, pos := "two.go:60", after := #[{ on := 2, ground := Go.Ground.data }], guard := none }) (v := .int .i64 p.level) rfl (by kernel_rfl) (by kernel_rfl) (by kernel_rfl) (fun _ _ _ h => h) (Or.inl ⟨by rfl, by (intro wq hSw; (try dsimp only at hSw); go_simp)⟩) hHeld ?_
  simp only [Act.put, List.setIfInBounds_toArray, List.set_cons_zero, List.set_cons_succ]
  refine wpAnyH_take (i := 4) (oi := { dst := some 7, op := Go.Op.fieldAddr 31 (Go.Operand.tmp 1) 3, type := 0, pos := "two.go:60", after := #[], guard := none }) (v := .pointer (some ⟨w.heap.size, 3, none⟩)) rfl (by kernel_rfl) (by kernel_rfl) (by kernel_rfl) (fun _ _ _ h => h) (Or.inl ⟨by rfl, by (intro wq hSw; (try dsimp only at hSw); go_simp)⟩) hHeld ?_
  simp only [Act.put, List.setIfInBounds_toArray, List.set_cons_zero, List.set_cons_succ]
  refine wpAnyH_take (i := 5) (oi := { dst := some 8, op := Go.Op.load 3 (Go.Operand.tmp 7), type := 3, pos := "two.go:60", after := #[{ on := 4, ground := Go.Ground.data }], guard := none }) (v := .int .i64 p.keep) rfl (by kernel_rfl) (by kernel_rfl) (by kernel_rfl) (fun _ _ _ h => h) (Or.inl ⟨by rfl, by (intro wq hSw; (try dsimp only at hSw); go_simp)⟩) hHeld ?_
  simp only [Act.put, List.setIfInBounds_toArray, List.set_cons_zero, List.set_cons_succ]
  refine wpAnyH_take (i := 6) (oi := { dst := some 9, op := Go.Op.fieldAddr 31 (Go.Operand.tmp 1) 12, type := 0, pos := "two.go:60", after := #[], guard := none }) (v := .pointer (some ⟨w.heap.size, 15, none⟩)) rfl (by kernel_rfl) (by kernel_rfl) (by kernel_rfl) (fun _ _ _ h => h) (Or.inl ⟨by rfl, by (intro wq hSw; (try dsimp only at hSw); go_simp)⟩) hHeld ?_
  simp only [Act.put, List.setIfInBounds_toArray, List.set_cons_zero, List.set_cons_succ]
  refine wpAnyH_take (i := 7) (oi := { dst := some 10, op := Go.Op.load 3 (Go.Operand.tmp 9), type := 3, pos := "two.go:60", after := #[{ on := 6, ground := Go.Ground.data }], guard := none }) (v := .int .i64 p.code) rfl (by kernel_rfl) (by kernel_rfl) (by kernel_rfl) (fun _ _ _ h => h) (Or.inl ⟨by rfl, by (intro wq hSw; (try dsimp only at hSw); go_simp)⟩) hHeld ?_
  simp only [Act.put, List.setIfInBounds_toArray, List.set_cons_zero, List.set_cons_succ]
  refine wpAnyH_take (i := 8) (oi := { dst := some 11, op := Go.Op.fieldAddr 31 (Go.Operand.tmp 1) 15, type := 0, pos := "two.go:60", after := #[], guard := none }) (v := .pointer (some ⟨w.heap.size, 21, none⟩)) rfl (by kernel_rfl) (by kernel_rfl) (by kernel_rfl) (fun _ _ _ h => h) (Or.inl ⟨by rfl, by (intro wq hSw; (try dsimp only at hSw); go_simp)⟩) hHeld ?_
  simp only [Act.put, List.setIfInBounds_toArray, List.set_cons_zero, List.set_cons_succ]
  refine wpAnyH_take (i := 9) (oi := { dst := some 12, op := Go.Op.load 3 (Go.Operand.tmp 11), type := 3, pos := "two.go:60", after := #[{ on := 8, ground := Go.Ground.data }], guard := none }) (v := .int .i64 p.id) rfl (by kernel_rfl) (by kernel_rfl) (by kernel_rfl) (fun _ _ _ h => h) (Or.inl ⟨by rfl, by (intro wq hSw; (try dsimp only at hSw); go_simp)⟩) hHeld ?_
  simp only [Act.put, List.setIfInBounds_toArray, List.set_cons_zero, List.set_cons_succ]
  refine wpAnyH_take (i := 10) (oi := { dst := some 13, op := Go.Op.fieldAddr 31 (Go.Operand.tmp 1) 2, type := 0, pos := "two.go:60", after := #[], guard := none }) (v := .pointer (some ⟨w.heap.size, 2, none⟩)) rfl (by kernel_rfl) (by kernel_rfl) (by kernel_rfl) (fun _ _ _ h => h) (Or.inl ⟨by rfl, by (intro wq hSw; (try dsimp only at hSw); go_simp)⟩) hHeld ?_
  simp only [Act.put, List.setIfInBounds_toArray, List.set_cons_zero, List.set_cons_succ]
  refine wpAnyH_take (i := 11) (oi := { dst := some 14, op := Go.Op.load 4 (Go.Operand.tmp 13), type := 4, pos := "two.go:60", after := #[{ on := 10, ground := Go.Ground.data }], guard := none }) (v := .bool p.clean) rfl (by kernel_rfl) (by kernel_rfl) (by kernel_rfl) (fun _ _ _ h => h) (Or.inl ⟨by rfl, by (intro wq hSw; (try dsimp only at hSw); go_simp)⟩) hHeld ?_
  simp only [Act.put, List.setIfInBounds_toArray, List.set_cons_zero, List.set_cons_succ]
  refine wpAnyH_take (i := 12) (oi := { dst := some 15, op := Go.Op.fieldAddr 31 (Go.Operand.tmp 1) 11, type := 0, pos := "two.go:60", after := #[], guard := none }) (v := .pointer (some ⟨w.heap.size, 14, none⟩)) rfl (by kernel_rfl) (by kernel_rfl) (by kernel_rfl) (fun _ _ _ h => h) (Or.inl ⟨by rfl, by (intro wq hSw; (try dsimp only at hSw); go_simp)⟩) hHeld ?_
  simp only [Act.put, List.setIfInBounds_toArray, List.set_cons_zero, List.set_cons_succ]
  refine wpAnyH_take (i := 13) (oi := { dst := some 16, op := Go.Op.load 4 (Go.Operand.tmp 15), type := 4, pos := "two.go:60", after := #[{ on := 12, ground := Go.Ground.data }], guard := none }) (v := .bool p.present) rfl (by kernel_rfl) (by kernel_rfl) (by kernel_rfl) (fun _ _ _ h => h) (Or.inl ⟨by rfl, by (intro wq hSw; (try dsimp only at hSw); go_simp)⟩) hHeld ?_
  simp only [Act.put, List.setIfInBounds_toArray, List.set_cons_zero, List.set_cons_succ]
  refine wpAnyH_take (i := 14) (oi := { dst := some 17, op := Go.Op.fieldAddr 31 (Go.Operand.tmp 1) 13, type := 0, pos := "two.go:60", after := #[], guard := none }) (v := .pointer (some ⟨w.heap.size, 16, none⟩)) rfl (by kernel_rfl) (by kernel_rfl) (by kernel_rfl) (fun _ _ _ h => h) (Or.inl ⟨by rfl, by (intro wq hSw; (try dsimp only at hSw); go_simp)⟩) hHeld ?_
  simp only [Act.put, List.setIfInBounds_toArray, List.set_cons_zero, List.set_cons_succ]
  refine wpAnyH_take (i := 15) (oi := { dst := some 18, op := Go.Op.load 4 (Go.Operand.tmp 17), type := 4, pos := "two.go:60", after := #[{ on := 14, ground := Go.Ground.data }], guard := none }) (v := .bool p.dup) rfl (by kernel_rfl) (by kernel_rfl) (by kernel_rfl) (fun _ _ _ h => h) (Or.inl ⟨by rfl, by (intro wq hSw; (try dsimp only at hSw); go_simp)⟩) hHeld ?_
  simp only [Act.put, List.setIfInBounds_toArray, List.set_cons_zero, List.set_cons_succ]
  refine wpAnyH_take (i := 16) (oi := { dst := some 19, op := Go.Op.fieldAddr 31 (Go.Operand.tmp 1) 5, type := 0, pos := "two.go:60", after := #[], guard := none }) (v := .pointer (some ⟨w.heap.size, 5, none⟩)) rfl (by kernel_rfl) (by kernel_rfl) (by kernel_rfl) (fun _ _ _ h => h) (Or.inl ⟨by rfl, by (intro wq hSw; (try dsimp only at hSw); go_simp)⟩) hHeld ?_
  simp only [Act.put, List.setIfInBounds_toArray, List.set_cons_zero, List.set_cons_succ]
  refine wpAnyH_take (i := 17) (oi := { dst := some 20, op := Go.Op.load 4 (Go.Operand.tmp 19), type := 4, pos := "two.go:60", after := #[{ on := 16, ground := Go.Ground.data }], guard := none }) (v := .bool p.hasWill) rfl (by kernel_rfl) (by kernel_rfl) (by kernel_rfl) (fun _ _ _ h => h) (Or.inl ⟨by rfl, by (intro wq hSw; (try dsimp only at hSw); go_simp)⟩) hHeld ?_
  simp only [Act.put, List.setIfInBounds_toArray, List.set_cons_zero, List.set_cons_succ]
  refine wpAnyH_take (i := 18) (oi := { dst := some 21, op := Go.Op.fieldAddr 31 (Go.Operand.tmp 1) 7, type := 0, pos := "two.go:60", after := #[], guard := none }) (v := .pointer (some ⟨w.heap.size, 10, none⟩)) rfl (by kernel_rfl) (by kernel_rfl) (by kernel_rfl) (fun _ _ _ h => h) (Or.inl ⟨by rfl, by (intro wq hSw; (try dsimp only at hSw); go_simp)⟩) hHeld ?_
  simp only [Act.put, List.setIfInBounds_toArray, List.set_cons_zero, List.set_cons_succ]
  refine wpAnyH_take (i := 19) (oi := { dst := some 22, op := Go.Op.load 4 (Go.Operand.tmp 21), type := 4, pos := "two.go:60", after := #[{ on := 18, ground := Go.Ground.data }], guard := none }) (v := .bool p.hasUser) rfl (by kernel_rfl) (by kernel_rfl) (by kernel_rfl) (fun _ _ _ h => h) (Or.inl ⟨by rfl, by (intro wq hSw; (try dsimp only at hSw); go_simp)⟩) hHeld ?_
  simp only [Act.put, List.setIfInBounds_toArray, List.set_cons_zero, List.set_cons_succ]
  refine wpAnyH_take (i := 20) (oi := { dst := some 23, op := Go.Op.fieldAddr 31 (Go.Operand.tmp 1) 9, type := 0, pos := "two.go:60", after := #[], guard := none }) (v := .pointer (some ⟨w.heap.size, 12, none⟩)) rfl (by kernel_rfl) (by kernel_rfl) (by kernel_rfl) (fun _ _ _ h => h) (Or.inl ⟨by rfl, by (intro wq hSw; (try dsimp only at hSw); go_simp)⟩) hHeld ?_
  simp only [Act.put, List.setIfInBounds_toArray, List.set_cons_zero, List.set_cons_succ]
  refine wpAnyH_take (i := 21) (oi := { dst := some 24, op := Go.Op.load 4 (Go.Operand.tmp 23), type := 4, pos := "two.go:60", after := #[{ on := 20, ground := Go.Ground.data }], guard := none }) (v := .bool p.hasPass) rfl (by kernel_rfl) (by kernel_rfl) (by kernel_rfl) (fun _ _ _ h => h) (Or.inl ⟨by rfl, by (intro wq hSw; (try dsimp only at hSw); go_simp)⟩) hHeld ?_
  simp only [Act.put, List.setIfInBounds_toArray, List.set_cons_zero, List.set_cons_succ]
  refine wpAnyH_take (i := 22) (oi := { dst := some 25, op := Go.Op.fieldAddr 31 (Go.Operand.tmp 1) 4, type := 0, pos := "two.go:60", after := #[], guard := none }) (v := .pointer (some ⟨w.heap.size, 4, none⟩)) rfl (by kernel_rfl) (by kernel_rfl) (by kernel_rfl) (fun _ _ _ h => h) (Or.inl ⟨by rfl, by (intro wq hSw; (try dsimp only at hSw); go_simp)⟩) hHeld ?_
  simp only [Act.put, List.setIfInBounds_toArray, List.set_cons_zero, List.set_cons_succ]
  refine wpAnyH_take (i := 23) (oi := { dst := some 26, op := Go.Op.load 9 (Go.Operand.tmp 25), type := 9, pos := "two.go:60", after := #[{ on := 22, ground := Go.Ground.data }], guard := none }) (v := .string p.client) rfl (by kernel_rfl) (by kernel_rfl) (by kernel_rfl) (fun _ _ _ h => h) (Or.inl ⟨by rfl, by (intro wq hSw; (try dsimp only at hSw); go_simp)⟩) hHeld ?_
  simp only [Act.put, List.setIfInBounds_toArray, List.set_cons_zero, List.set_cons_succ]
  refine wpAnyH_take (i := 24) (oi := { dst := some 27, op := Go.Op.fieldAddr 31 (Go.Operand.tmp 1) 8, type := 0, pos := "two.go:60", after := #[], guard := none }) (v := .pointer (some ⟨w.heap.size, 11, none⟩)) rfl (by kernel_rfl) (by kernel_rfl) (by kernel_rfl) (fun _ _ _ h => h) (Or.inl ⟨by rfl, by (intro wq hSw; (try dsimp only at hSw); go_simp)⟩) hHeld ?_
  simp only [Act.put, List.setIfInBounds_toArray, List.set_cons_zero, List.set_cons_succ]
  refine wpAnyH_take (i := 25) (oi := { dst := some 28, op := Go.Op.load 9 (Go.Operand.tmp 27), type := 9, pos := "two.go:60", after := #[{ on := 24, ground := Go.Ground.data }], guard := none }) (v := .string p.user) rfl (by kernel_rfl) (by kernel_rfl) (by kernel_rfl) (fun _ _ _ h => h) (Or.inl ⟨by rfl, by (intro wq hSw; (try dsimp only at hSw); go_simp)⟩) hHeld ?_
  simp only [Act.put, List.setIfInBounds_toArray, List.set_cons_zero, List.set_cons_succ]
  refine wpAnyH_take (i := 26) (oi := { dst := some 29, op := Go.Op.fieldAddr 31 (Go.Operand.tmp 1) 6, type := 0, pos := "two.go:60", after := #[], guard := none }) (v := .pointer (some ⟨w.heap.size, 6, none⟩)) rfl (by kernel_rfl) (by kernel_rfl) (by kernel_rfl) (fun _ _ _ h => h) (Or.inl ⟨by rfl, by (intro wq hSw; (try dsimp only at hSw); go_simp)⟩) hHeld ?_
  simp only [Act.put, List.setIfInBounds_toArray, List.set_cons_zero, List.set_cons_succ]
  refine wpAnyH_take (i := 27) (oi := { dst := some 30, op := Go.Op.load 26 (Go.Operand.tmp 29), type := 26, pos := "two.go:60", after := #[{ on := 26, ground := Go.Ground.data }], guard := none }) (v := .agg #[.string p.wT, .slice p.wP.a p.wP.n p.wP.c, .int .i64 p.wQ, .bool p.wR]) rfl (by kernel_rfl) (by kernel_rfl) (by kernel_rfl) (fun _ _ _ h => h) (Or.inl ⟨by rfl, by (intro wq hSw; (try dsimp only at hSw); go_simp)⟩) hHeld ?_
  simp only [Act.put, List.setIfInBounds_toArray, List.set_cons_zero, List.set_cons_succ]
  refine wpAnyH_take (i := 29) (oi := { dst := some 32, op := Go.Op.fieldAddr 31 (Go.Operand.tmp 1) 14, type := 0, pos := "two.go:60", after := #[], guard := none }) (v := .pointer (some ⟨w.heap.size, 17, none⟩)) rfl (by kernel_rfl) (by kernel_rfl) (by kernel_rfl) (fun _ _ _ h => h) (Or.inl ⟨by rfl, by (intro wq hSw; (try dsimp only at hSw); go_simp)⟩) hHeld ?_
  simp only [Act.put, List.setIfInBounds_toArray, List.set_cons_zero, List.set_cons_succ]
  refine wpAnyH_take (i := 30) (oi := { dst := some 33, op := Go.Op.load 26 (Go.Operand.tmp 32), type := 26, pos := "two.go:60", after := #[{ on := 29, ground := Go.Ground.data }], guard := none }) (v := .agg #[.string p.mT, .slice p.mP.a p.mP.n p.mP.c, .int .i64 p.mQ, .bool p.mR]) rfl (by kernel_rfl) (by kernel_rfl) (by kernel_rfl) (fun _ _ _ h => h) (Or.inl ⟨by rfl, by (intro wq hSw; (try dsimp only at hSw); go_simp)⟩) hHeld ?_
  simp only [Act.put, List.setIfInBounds_toArray, List.set_cons_zero, List.set_cons_succ]
  refine wpAnyH_ready (rs := [28]) (by kernel_rfl) (by simp) ?_
  refine AllReadyH.cons rfl (fun K hK => ?_) AllReadyH.nil
  go_simp
  go_wp2_with (go_at_call 43; refine (heading_any _ _ _ _ _ _ _).mono ?_; rintro e wn ⟨rfl, hb⟩)
  have HR2 := Rw.below HR1 hb
  clear hb HR1 hHeld
  refine hK.out _ _ (KS.out _ ⟨_, HR2.out⟩) (fun hHeld => ?_)
  clear hK K
  refine wpAnyH_ready (rs := [31]) (by kernel_rfl) (by simp) ?_
  refine AllReadyH.cons rfl (fun K hK => ?_) AllReadyH.nil
  go_simp
  go_wp2_with (go_at_call 43; refine (heading_any _ _ _ _ _ _ _).mono ?_; rintro e wn ⟨rfl, hb⟩)
  have HR3 := Rw.below HR2 hb
  clear hb HR2 hHeld
  refine hK.out _ _ (KS.out _ ⟨_, HR3.out⟩) (fun hHeld => ?_)
  clear hK K
  refine wpAnyH_take (i := 32) (oi := { dst := some 35, op := Go.Op.build 51 #[(0, Go.Operand.tmp 4), (1, Go.Operand.tmp 6), (2, Go.Operand.tmp 8), (3, Go.Operand.tmp 10), (4, Go.Operand.tmp 12), (5, Go.Operand.tmp 14), (6, Go.Operand.tmp 16), (7, Go.Operand.tmp 18), (8, Go.Operand.tmp 20), (9, Go.Operand.tmp 22), (10, Go.Operand.tmp 24), (11, Go.Operand.tmp 26), (12, Go.Operand.tmp 28), (13, Go.Operand.tmp 31), (14, Go.Operand.tmp 34)], type := 51, pos := "two.go:60", after := #[{ on := 1, ground := Go.Ground.data }, { on := 3, ground := Go.Ground.data }, { on := 5, ground := Go.Ground.data }, { on := 7, ground := Go.Ground.data }, { on := 9, ground := Go.Ground.data }, { on := 11, ground := Go.Ground.data }, { on := 13, ground := Go.Ground.data }, { on := 15, ground := Go.Ground.data }, { on := 17, ground := Go.Ground.data }, { on := 19, ground := Go.Ground.data }, { on := 21, ground := Go.Ground.data }, { on := 23, ground := Go.Ground.data }, { on := 25, ground := Go.Ground.data }, { on := 28, ground := Go.Ground.data }, { on := 31, ground := Go.Ground.data }], guard := none }) (v := .agg (plCells p)) rfl (by kernel_rfl) (by kernel_rfl) (by kernel_rfl) (fun _ _ _ h => h) (Or.inl ⟨by rfl, by (intro wq hSw; exact yields_build 51 _ rfl (plCells p) (by kernel_rfl) wq)⟩) hHeld ?_
  simp only [Act.put, List.setIfInBounds_toArray, List.set_cons_zero, List.set_cons_succ]
  refine wpAnyH_ready (rs := [33]) (by kernel_rfl) (by simp) ?_
  refine AllReadyH.cons rfl (fun K hK => ?_) AllReadyH.nil
  rw [if_pos (by rfl)]
  refine wp_store_row 51 _ _ rfl (w.heap.size + 1) (plCells p) rfl rfl 51 plZ HR3.out.row (by kernel_rfl) rfl (by simp [plCells, Value.oneCell']) ?_
  have HR4 := Rw.row_set HR3.out (plCells p)
  clear hHeld HR3
  refine hK.out _ _ (KS.out _ ⟨_, HR4⟩) (fun hHeld => ?_)
  clear hK K hHeld
  refine wpAnyH_done (by kernel_rfl) ?_ _
  go_wp2
  exact bodyPost_ret (results_cell_row rfl _ _ _ _ _ _ _ rfl HR4.row Tryd.underlying51 rfl (by kernel_rfl)) rfl ⟨rfl, HR4.bel⟩
end Go.Proofs.YtcoccggimbficaaDoor
