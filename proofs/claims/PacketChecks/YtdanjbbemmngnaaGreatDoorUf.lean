import Derived.Test.YtdanjbbemmngnaaGreatDoorUe
namespace Go.Proofs.YtdanjbbemmngnaaGreatDoor
open Go Go.RowKit Go.Sort
set_option linter.unusedSimpArgs false
set_option linter.unusedVariables false

/-- What a lay leaves: a new list, and the room that keeps it. -/
structure Laid (e t size f room : Nat) (M : List Value) (w w' : World) (R base m : Nat) (cs : Array Value) (vb va : Value) (xsb xsa : List Value) (n : Nat) (xs : List Value) (g cp : Nat) (cur : Array Value) (vb' va' : Value) : Prop where
  new : w.heap.size ≤ g
  list : w'.heap[g]? = some (.cells cur e (0, 0))
  sz : cur.size = cp * size
  cap : n + room ≤ cp
  cells : cur.toList.take ((n + room) * size) = xs ++ M
  room' : w'.heap[R]? = some (.cells ((cs.setIfInBounds f vb').setIfInBounds (f + 1) va') 47 (0, 0))
  ob : w'.ownsRow base t 1 vb' (m + 1) (xsb ++ [.slice (some ⟨g, 0, none⟩) (n + room) cp])
  oa : w'.ownsRow base 3 1 va' (m + 1) (xsa ++ [.int .i64 n])
  below : Below base w w'
  frm : Frm w w' R vb va
  grow : w.heap.size ≤ w'.heap.size

theorem Laid.earlier {e t size f room : Nat} {M : List Value} {w0 w w' : World} {R base m : Nat} {cs : Array Value} {vb va : Value} {xsb xsa : List Value} {n : Nat} {xs : List Value} {g cp : Nat} {cur : Array Value} {vb' va' : Value}
    (h : Laid e t size f room M w w' R base m cs vb va xsb xsa n xs g cp cur vb' va') (hb : Below w0.heap.size w0 w) (hbase : base ≤ w0.heap.size) : Laid e t size f room M w0 w' R base m cs vb va xsb xsa n xs g cp cur vb' va' where
  new := Nat.le_trans hb.size h.new
  list := h.list
  sz := h.sz
  cap := h.cap
  cells := h.cells
  room' := h.room'
  ob := h.ob
  oa := h.oa
  below := (hb.mono hbase).trans h.below
  frm := fun k hk h1 h2 h3 => (h.frm k (Nat.lt_of_lt_of_le hk hb.size) h1 h2 h3).trans (hb.block k hk)
  grow := Nat.le_trans hb.size h.grow
theorem Laid.set {e t size f room : Nat} {M : List Value} {w w' : World} {R base m : Nat} {cs : Array Value} {vb va : Value} {xsb xsa : List Value} {n : Nat} {xs : List Value} {g cp : Nat} {cur : Array Value} {vb' va' : Value}
    (h : Laid e t size f room M w w' R base m cs vb va xsb xsa n xs g cp cur vb' va') (b i ty : Nat) (v : Value) (c0 : Array Value) (hb : w'.heap[b]? = some (.cells c0 ty (0, 0))) (h1 : ty ≠ e) (h2 : ty ≠ t) (h3 : ty ≠ 3) (h4 : ty ≠ 47) (hnew : w.heap.size ≤ b) (hbase : base ≤ w.heap.size) :
    Laid e t size f room M w (w'.setCell ⟨b, i, none⟩ v) R base m cs vb va xsb xsa n xs g cp cur vb' va' := by
  have hbg : g ≠ b := by rintro rfl; rw [h.list] at hb; simp at hb; exact h1 hb.2.symm
  have hbR : R ≠ b := by rintro rfl; rw [h.room'] at hb; simp at hb; exact h4 hb.2.symm
  refine ⟨h.new, (Below.heap_setCell w' _ v g (by simpa using hbg)).trans h.list, h.sz, h.cap, h.cells, (Below.heap_setCell w' _ v R (by simpa using hbR)).trans h.room', ownsRow_setCell_other h.ob (own_ne h.ob hb (Ne.symm h2)) _, ownsRow_setCell_other h.oa (own_ne h.oa hb (Ne.symm h3)) _, h.below.setCell (by simp; omega) _, ?_, ?_⟩
  · intro k hk q1 q2 q3
    rw [Below.heap_setCell w' _ v k (by simp; omega)]
    exact h.frm k hk q1 q2 q3
  · have : (w'.setCell ⟨b, i, none⟩ v).heap.size = w'.heap.size := by simp [World.setCell]
    rw [this]; exact h.grow

theorem layB' (R base m : Nat) (cs : Array Value) (vb va : Value) (xsb xsa : List Value) (s : Sl) (xs : List Value) (w : World) (hm : s.n ≤ 1000000) (hm1 : m ≤ 1000) (hl : xs.length = s.n * 1) (h1 : ∀ u ∈ xs, u.oneCell' = true) (hc : Src w s xs)
    (hR : w.heap[R]? = some (.cells cs 47 (0, 0))) (hb : cs[0]? = some vb) (ha : cs[1]? = some va) (hbase : base ≤ R) (hob : w.ownsRow base 22 1 vb m xsb) (hoa : w.ownsRow base 3 1 va m xsa) :
    Calls Tryz.prog 81 #[.pointer (some ⟨R, 0, none⟩), .slice s.a s.n s.c, .int .i64 600] w fun e w' => ∃ g cp cur vb' va', e = .returned (.slice (some ⟨g, 0, none⟩) s.n (s.n + 600)) ∧ Laid 5 22 1 0 600 (mB 600) w w' R base m cs vb va xsb xsa s.n xs g cp cur vb' va' :=
  (layB R base m cs vb va xsb xsa s xs w hm hm1 hl h1 hc hR hb ha hbase hob hoa).mono fun e w' ⟨g, cp, cur, vb', va', he, a1, a2, a3, a4, a5, a6, a7, a8, a9, a10, a11⟩ => ⟨g, cp, cur, vb', va', he, a1, a2, a3, a4, a5, a6, a7, a8, a9, a10, a11⟩
theorem layA' (R base m : Nat) (cs : Array Value) (vb va : Value) (xsb xsa : List Value) (s : Sl) (xs : List Value) (w : World) (hm : s.n ≤ 1000000) (hm1 : m ≤ 1000) (hl : xs.length = s.n * 2) (h1 : ∀ u ∈ xs, u.oneCell' = true) (hc : Src w s xs)
    (hR : w.heap[R]? = some (.cells cs 47 (0, 0))) (hb : cs[6]? = some vb) (ha : cs[7]? = some va) (hbase : base ≤ R) (hob : w.ownsRow base 25 1 vb m xsb) (hoa : w.ownsRow base 3 1 va m xsa) :
    Calls Tryz.prog 82 #[.pointer (some ⟨R, 0, none⟩), .slice s.a s.n s.c, .int .i64 40] w fun e w' => ∃ g cp cur vb' va', e = .returned (.slice (some ⟨g, 0, none⟩) s.n (s.n + 40)) ∧ Laid 78 25 2 6 40 (mA 40) w w' R base m cs vb va xsb xsa s.n xs g cp cur vb' va' :=
  (layA R base m cs vb va xsb xsa s xs w hm hm1 hl h1 hc hR hb ha hbase hob hoa).mono fun e w' ⟨g, cp, cur, vb', va', he, a1, a2, a3, a4, a5, a6, a7, a8, a9, a10, a11⟩ => ⟨g, cp, cur, vb', va', he, a1, a2, a3, a4, a5, a6, a7, a8, a9, a10, a11⟩
theorem layI' (R base m : Nat) (cs : Array Value) (vb va : Value) (xsb xsa : List Value) (s : Sl) (xs : List Value) (w : World) (hm : s.n ≤ 1000000) (hm1 : m ≤ 1000) (hl : xs.length = s.n * 1) (h1 : ∀ u ∈ xs, u.oneCell' = true) (hc : Src w s xs)
    (hR : w.heap[R]? = some (.cells cs 47 (0, 0))) (hb : cs[2]? = some vb) (ha : cs[3]? = some va) (hbase : base ≤ R) (hob : w.ownsRow base 26 1 vb m xsb) (hoa : w.ownsRow base 3 1 va m xsa) :
    Calls Tryz.prog 83 #[.pointer (some ⟨R, 0, none⟩), .slice s.a s.n s.c, .int .i64 40] w fun e w' => ∃ g cp cur vb' va', e = .returned (.slice (some ⟨g, 0, none⟩) s.n (s.n + 40)) ∧ Laid 3 26 1 2 40 (mI 40) w w' R base m cs vb va xsb xsa s.n xs g cp cur vb' va' :=
  (layI R base m cs vb va xsb xsa s xs w hm hm1 hl h1 hc hR hb ha hbase hob hoa).mono fun e w' ⟨g, cp, cur, vb', va', he, a1, a2, a3, a4, a5, a6, a7, a8, a9, a10, a11⟩ => ⟨g, cp, cur, vb', va', he, a1, a2, a3, a4, a5, a6, a7, a8, a9, a10, a11⟩
theorem layS' (R base m : Nat) (cs : Array Value) (vb va : Value) (xsb xsa : List Value) (s : Sl) (xs : List Value) (w : World) (hm : s.n ≤ 1000000) (hm1 : m ≤ 1000) (hl : xs.length = s.n * 1) (h1 : ∀ u ∈ xs, u.oneCell' = true) (hc : Src w s xs)
    (hR : w.heap[R]? = some (.cells cs 47 (0, 0))) (hb : cs[4]? = some vb) (ha : cs[5]? = some va) (hbase : base ≤ R) (hob : w.ownsRow base 27 1 vb m xsb) (hoa : w.ownsRow base 3 1 va m xsa) :
    Calls Tryz.prog 84 #[.pointer (some ⟨R, 0, none⟩), .slice s.a s.n s.c, .int .i64 40] w fun e w' => ∃ g cp cur vb' va', e = .returned (.slice (some ⟨g, 0, none⟩) s.n (s.n + 40)) ∧ Laid 9 27 1 4 40 (mS 40) w w' R base m cs vb va xsb xsa s.n xs g cp cur vb' va' :=
  (layS R base m cs vb va xsb xsa s xs w hm hm1 hl h1 hc hR hb ha hbase hob hoa).mono fun e w' ⟨g, cp, cur, vb', va', he, a1, a2, a3, a4, a5, a6, a7, a8, a9, a10, a11⟩ => ⟨g, cp, cur, vb', va', he, a1, a2, a3, a4, a5, a6, a7, a8, a9, a10, a11⟩

/-! ### The calls that only hand on -/
set_option maxHeartbeats 400000 in
theorem wrapB (R : Nat) (ao : Option Addr) (len cap : Nat) (w : World) (Q : Ending → World → Prop)
    (h : Calls Tryz.prog 81 #[.pointer (some ⟨R, 0, none⟩), .slice ao len cap, .int .i64 600] w fun e w' => ∃ g n c, e = .returned (.slice (some ⟨g, 0, none⟩) n c) ∧ Q e w') :
    Calls Tryz.prog 20 #[.pointer (some ⟨R, 0, none⟩), .slice ao len cap] w Q := by
  have H : Hid (Calls Tryz.prog 81 #[.pointer (some ⟨R, 0, none⟩), .slice ao len cap, .int .i64 600] w fun e w' => ∃ g n c, e = .returned (.slice (some ⟨g, 0, none⟩) n c) ∧ Q e w') := h
  clear h
  go_enter Tryz.func20, Tryz.ntmps20
  go_wp2_with (go_at_call 81; refine H.out.mono ?_; rintro e w' ⟨g, n, c, rfl, hq⟩)
  assumption
set_option maxHeartbeats 400000 in
theorem wrapA (R : Nat) (ao : Option Addr) (len cap : Nat) (w : World) (Q : Ending → World → Prop)
    (h : Calls Tryz.prog 82 #[.pointer (some ⟨R, 0, none⟩), .slice ao len cap, .int .i64 40] w fun e w' => ∃ g n c, e = .returned (.slice (some ⟨g, 0, none⟩) n c) ∧ Q e w') :
    Calls Tryz.prog 21 #[.pointer (some ⟨R, 0, none⟩), .slice ao len cap] w Q := by
  have H : Hid (Calls Tryz.prog 82 #[.pointer (some ⟨R, 0, none⟩), .slice ao len cap, .int .i64 40] w fun e w' => ∃ g n c, e = .returned (.slice (some ⟨g, 0, none⟩) n c) ∧ Q e w') := h
  clear h
  go_enter Tryz.func21, Tryz.ntmps21
  go_wp2_with (go_at_call 82; refine H.out.mono ?_; rintro e w' ⟨g, n, c, rfl, hq⟩)
  assumption
set_option maxHeartbeats 400000 in
theorem wrapI (R : Nat) (ao : Option Addr) (len cap : Nat) (w : World) (Q : Ending → World → Prop)
    (h : Calls Tryz.prog 83 #[.pointer (some ⟨R, 0, none⟩), .slice ao len cap, .int .i64 40] w fun e w' => ∃ g n c, e = .returned (.slice (some ⟨g, 0, none⟩) n c) ∧ Q e w') :
    Calls Tryz.prog 22 #[.pointer (some ⟨R, 0, none⟩), .slice ao len cap] w Q := by
  have H : Hid (Calls Tryz.prog 83 #[.pointer (some ⟨R, 0, none⟩), .slice ao len cap, .int .i64 40] w fun e w' => ∃ g n c, e = .returned (.slice (some ⟨g, 0, none⟩) n c) ∧ Q e w') := h
  clear h
  go_enter Tryz.func22, Tryz.ntmps22
  go_wp2_with (go_at_call 83; refine H.out.mono ?_; rintro e w' ⟨g, n, c, rfl, hq⟩)
  assumption
set_option maxHeartbeats 400000 in
theorem wrapS (R : Nat) (ao : Option Addr) (len cap : Nat) (w : World) (Q : Ending → World → Prop)
    (h : Calls Tryz.prog 84 #[.pointer (some ⟨R, 0, none⟩), .slice ao len cap, .int .i64 40] w fun e w' => ∃ g n c, e = .returned (.slice (some ⟨g, 0, none⟩) n c) ∧ Q e w') :
    Calls Tryz.prog 23 #[.pointer (some ⟨R, 0, none⟩), .slice ao len cap] w Q := by
  have H : Hid (Calls Tryz.prog 84 #[.pointer (some ⟨R, 0, none⟩), .slice ao len cap, .int .i64 40] w fun e w' => ∃ g n c, e = .returned (.slice (some ⟨g, 0, none⟩) n c) ∧ Q e w') := h
  clear h
  go_enter Tryz.func23, Tryz.ntmps23
  go_wp2_with (go_at_call 84; refine H.out.mono ?_; rintro e w' ⟨g, n, c, rfl, hq⟩)
  assumption

set_option maxHeartbeats 1000000 in
theorem message_lay (R base m : Nat) (cs : Array Value) (vb va : Value) (xsb xsa : List Value) (t : ByteArray) (s : Sl) (q : Int) (r : Bool) (xs : List Value) (w : World) (hm : s.n ≤ 1000000) (hm1 : m ≤ 1000) (hl : xs.length = s.n * 1) (h1 : ∀ u ∈ xs, u.oneCell' = true) (hc : Src w s xs)
    (hR : w.heap[R]? = some (.cells cs 47 (0, 0))) (hb : cs[0]? = some vb) (ha : cs[1]? = some va) (hbase : base ≤ R) (hob : w.ownsRow base 22 1 vb m xsb) (hoa : w.ownsRow base 3 1 va m xsa) :
    Calls Tryz.prog 19 #[.pointer (some ⟨R, 0, none⟩), .agg #[.string t, .slice s.a s.n s.c, .int .i64 q, .bool r]] w fun e w' => ∃ g cp cur vb' va', e = .returned (.agg #[.string t, .slice (some ⟨g, 0, none⟩) s.n (s.n + 600), .int .i64 q, .bool r]) ∧ Laid 5 22 1 0 600 (mB 600) w w' R base m cs vb va xsb xsa s.n xs g cp cur vb' va' := by
  have HC : Hid (∀ w', Below w.heap.size w w' → Calls Tryz.prog 20 #[.pointer (some ⟨R, 0, none⟩), .slice s.a s.n s.c] w' fun e w'' => ∃ g cp cur vb' va', e = .returned (.slice (some ⟨g, 0, none⟩) s.n (s.n + 600)) ∧ Laid 5 22 1 0 600 (mB 600) w' w'' R base m cs vb va xsb xsa s.n xs g cp cur vb' va') := fun w' hb' =>
    wrapB R _ _ _ w' _ ((layB' R base m cs vb va xsb xsa s xs w' hm hm1 hl h1 (hc.below hb') ((hb'.block R (block_lt hR)).trans hR) hb ha hbase (own_below hob hb') (own_below hoa hb')).mono fun e w'' ⟨g, cp, cur, vb', va', he, hL⟩ => ⟨g, _, _, he, g, cp, cur, vb', va', he, hL⟩)
  have HBS : Hid (base ≤ w.heap.size ∧ R < w.heap.size) := ⟨by have := block_lt hR; omega, block_lt hR⟩
  have KB : Hid (∀ k, vb.ownBlock = some k → k < w.heap.size) := fun k hk => (hob.lt k hk).2
  have KA : Hid (∀ k, va.ownBlock = some k → k < w.heap.size) := fun k hk => (hoa.lt k hk).2
  clear hm hm1 hl h1 hc hR hb ha hbase hob hoa
  obtain ⟨W, hW⟩ : ∃ W, W = (w.alloc (.cells #[.string t, .slice s.a s.n s.c, .int .i64 q, .bool r] 24)).alloc (.cells #[.string ⟨#[]⟩, .slice none 0 0, .int .i64 0, .bool false] 24) := ⟨_, rfl⟩
  have b0 : Hid (Below w.heap.size w W) := by rw [hW]; exact below2 _ _ _
  have x0 : Hid (W.heap[w.heap.size]? = some (.cells #[.string t, .slice s.a s.n s.c, .int .i64 q, .bool r] 24)) := by show _ = _; rw [hW]; exact heap_alloc2_old w _ _
  have x1 : Hid (W.heap[w.heap.size + 1]? = some (.cells #[.string ⟨#[]⟩, .slice none 0 0, .int .i64 0, .bool false] 24)) := by show _ = _; rw [hW]; exact heap_alloc2_new w _ _
  have c1 : W.cell? ⟨w.heap.size, 1, none⟩ = some (.slice s.a s.n s.c) := by simp [World.cell?, x0.out]
  rw [hW] at c1
  go_enter Tryz.func19, Tryz.ntmps19
  go_wp2_with fail
  go_must (go_at_call 20)
  rw [← hW] at c1 ⊢
  refine (HC.out W b0.out).mono ?_
  rintro e V ⟨g, cp, cur, vb', va', rfl, hL⟩
  clear c1 hW
  have hws : Hid (W.heap.size = w.heap.size + 2 ∨ w.heap.size + 2 ≤ W.heap.size) := .inr (block_lt x1.out)
  have y0 : V.heap[w.heap.size]? = some (.cells #[.string t, .slice s.a s.n s.c, .int .i64 q, .bool r] 24) := (hL.frm _ (block_lt x0.out) (by have := HBS.out.2; omega) (fun h => by have := KB.out _ h; omega) (fun h => by have := KA.out _ h; omega)).trans x0.out
  have y1 : V.heap[w.heap.size + 1]? = some (.cells #[.string ⟨#[]⟩, .slice none 0 0, .int .i64 0, .bool false] 24) := (hL.frm _ (block_lt x1.out) (by have := HBS.out.2; omega) (fun h => by have := KB.out _ h; omega) (fun h => by have := KA.out _ h; omega)).trans x1.out
  have HL : Hid (Laid 5 22 1 0 600 (mB 600) w V R base m cs vb va xsb xsa s.n xs g cp cur vb' va') := hL.earlier b0.out HBS.out.1
  have Y0 : Hid (V.heap[w.heap.size]? = some (.cells #[.string t, .slice s.a s.n s.c, .int .i64 q, .bool r] 24)) := y0
  have Y1 : Hid (V.heap[w.heap.size + 1]? = some (.cells #[.string ⟨#[]⟩, .slice none 0 0, .int .i64 0, .bool false] 24)) := y1
  have e0 : V.cell? ⟨w.heap.size, 0, none⟩ = some (.string t) := by simp [World.cell?, y0]
  have e1 : V.cell? ⟨w.heap.size, 1, none⟩ = some (.slice s.a s.n s.c) := by simp [World.cell?, y0]
  have e2 : V.cell? ⟨w.heap.size, 2, none⟩ = some (.int .i64 q) := by simp [World.cell?, y0]
  have e3 : V.cell? ⟨w.heap.size, 3, none⟩ = some (.bool r) := by simp [World.cell?, y0]
  have f1 : V.frozen? ⟨w.heap.size, 1, none⟩ = false := by simp [World.frozen?, y0]
  have d0 : V.cell? ⟨w.heap.size + 1, 0, none⟩ = some (.string ⟨#[]⟩) := by simp [World.cell?, y1]
  have d1 : V.cell? ⟨w.heap.size + 1, 1, none⟩ = some (.slice none 0 0) := by simp [World.cell?, y1]
  have d2 : V.cell? ⟨w.heap.size + 1, 2, none⟩ = some (.int .i64 0) := by simp [World.cell?, y1]
  have d3 : V.cell? ⟨w.heap.size + 1, 3, none⟩ = some (.bool false) := by simp [World.cell?, y1]
  have z0 : V.frozen? ⟨w.heap.size + 1, 0, none⟩ = false := by simp [World.frozen?, y1]
  have z1 : V.frozen? ⟨w.heap.size + 1, 1, none⟩ = false := by simp [World.frozen?, y1]
  have z2 : V.frozen? ⟨w.heap.size + 1, 2, none⟩ = false := by simp [World.frozen?, y1]
  have z3 : V.frozen? ⟨w.heap.size + 1, 3, none⟩ = false := by simp [World.frozen?, y1]
  clear y0 y1 hL
  have k1 := HL.out.set w.heap.size 1 24 (.slice (some ⟨g, 0, none⟩) s.n (s.n + 600)) _ Y0.out (by decide) (by decide) (by decide) (by decide) (Nat.le_refl _) HBS.out.1
  have r1 : (V.setCell ⟨w.heap.size, 1, none⟩ (.slice (some ⟨g, 0, none⟩) s.n (s.n + 600))).heap[w.heap.size + 1]? = some (.cells #[.string ⟨#[]⟩, .slice none 0 0, .int .i64 0, .bool false] 24) := (Below.heap_setCell V _ _ _ (by simp)).trans Y1.out
  have k2 := k1.set (w.heap.size + 1) 0 24 (.string t) _ r1 (by decide) (by decide) (by decide) (by decide) (by omega) HBS.out.1
  have r2 := heap_set (i := 0) r1 (.string t)
  have k3 := k2.set (w.heap.size + 1) 1 24 (.slice (some ⟨g, 0, none⟩) s.n (s.n + 600)) _ r2 (by decide) (by decide) (by decide) (by decide) (by omega) HBS.out.1
  have r3 := heap_set (i := 1) r2 (.slice (some ⟨g, 0, none⟩) s.n (s.n + 600))
  have k4 := k3.set (w.heap.size + 1) 2 24 (.int .i64 q) _ r3 (by decide) (by decide) (by decide) (by decide) (by omega) HBS.out.1
  have r4 := heap_set (i := 2) r3 (.int .i64 q)
  have k5 := k4.set (w.heap.size + 1) 3 24 (.bool r) _ r4 (by decide) (by decide) (by decide) (by decide) (by omega) HBS.out.1
  have r5 := heap_set (i := 3) r4 (.bool r)
  have HK := (show Hid _ from k5)
  have HR5 := (show Hid _ from r5)
  clear k1 k2 k3 k4 k5 r1 r2 r3 r4 r5
  go_wp2
  exact bodyPost_ret (results_cell_row rfl _ _ _ _ _ _ _ rfl HR5.out Tryz.underlying24 rfl (by kernel_rfl)) rfl ⟨g, cp, cur, vb', va', rfl, HK.out⟩
end Go.Proofs.YtdanjbbemmngnaaGreatDoor
