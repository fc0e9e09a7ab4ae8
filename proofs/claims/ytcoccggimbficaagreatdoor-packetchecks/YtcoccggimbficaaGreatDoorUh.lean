import Derived.Test.YtcoccggimbficaaGreatDoorUc
import Derived.Test.YtcoccggimbficaaGreatDoorUe
import Derived.Deep.LoopGhost
namespace Go.Proofs.YtcoccggimbficaaGreatDoor
open Go Go.RowKit Go.Sort
set_option linter.unusedSimpArgs false
set_option linter.unusedVariables false

/-- What a lay leaves: a new list, and the room that keeps it. -/
structure Laid (e t size f room : Nat) (M : List Value) (w w' : World) (R base m : Nat) (cs : Array Value) (vb va : Value) (xsb xsa : List Value) (n : Nat) (xs : List Value) (g cp : Nat) (cur : Array Value) (vb' va' : Value) : Prop where
  new : w.heap.size ≤ g
  list : w'.heap[g]? = some (.cells cur e (0, 0))
  sz : cur.size = cp * size
  cap : n + room ≤ cp
  cells : cur.toList.take ((n + room) * size) = xs ++ M
  room' : w'.heap[R]? = some (.cells ((cs.setIfInBounds f vb').setIfInBounds (f + 1) va') 47 (0, 0))
  ob : w'.ownsRow base t 1 vb' (m + 1) (xsb ++ [.slice (some ⟨g, 0, none⟩) (n + room) cp])
  oa : w'.ownsRow base 3 1 va' (m + 1) (xsa ++ [.int .i64 n])
  below : Below base w w'
  frm : Frm w w' R vb va
  grow : w.heap.size ≤ w'.heap.size

theorem Laid.earlier {e t size f room : Nat} {M : List Value} {w0 w w' : World} {R base m : Nat} {cs : Array Value} {vb va : Value} {xsb xsa : List Value} {n : Nat} {xs : List Value} {g cp : Nat} {cur : Array Value} {vb' va' : Value}
    (h : Laid e t size f room M w w' R base m cs vb va xsb xsa n xs g cp cur vb' va') (hb : Below w0.heap.size w0 w) (hbase : base ≤ w0.heap.size) : Laid e t size f room M w0 w' R base m cs vb va xsb xsa n xs g cp cur vb' va' where
  new := Nat.le_trans hb.size h.new
  list := h.list
  sz := h.sz
  cap := h.cap
  cells := h.cells
  room' := h.room'
  ob := h.ob
  oa := h.oa
  below := (hb.mono hbase).trans h.below
  frm := fun k hk h1 h2 h3 => (h.frm k (Nat.lt_of_lt_of_le hk hb.size) h1 h2 h3).trans (hb.block k hk)
  grow := Nat.le_trans hb.size h.grow
theorem Laid.set {e t size f room : Nat} {M : List Value} {w w' : World} {R base m : Nat} {cs : Array Value} {vb va : Value} {xsb xsa : List Value} {n : Nat} {xs : List Value} {g cp : Nat} {cur : Array Value} {vb' va' : Value}
    (h : Laid e t size f room M w w' R base m cs vb va xsb xsa n xs g cp cur vb' va') (b i ty : Nat) (v : Value) (c0 : Array Value) (hb : w'.heap[b]? = some (.cells c0 ty (0, 0))) (h1 : ty ≠ e) (h2 : ty ≠ t) (h3 : ty ≠ 3) (h4 : ty ≠ 47) (hnew : w.heap.size ≤ b) (hbase : base ≤ w.heap.size) :
    Laid e t size f room M w (w'.setCell ⟨b, i, none⟩ v) R base m cs vb va xsb xsa n xs g cp cur vb' va' := by
  have hbg : g ≠ b := by rintro rfl; rw [h.list] at hb; simp at hb; exact h1 hb.2.symm
  have hbR : R ≠ b := by rintro rfl; rw [h.room'] at hb; simp at hb; exact h4 hb.2.symm
  refine ⟨h.new, (Below.heap_setCell w' _ v g (by simpa using hbg)).trans h.list, h.sz, h.cap, h.cells, (Below.heap_setCell w' _ v R (by simpa using hbR)).trans h.room', ownsRow_setCell_other h.ob (own_ne h.ob hb (Ne.symm h2)) _, ownsRow_setCell_other h.oa (own_ne h.oa hb (Ne.symm h3)) _, h.below.setCell (by simp; omega) _, ?_, ?_⟩
  · intro k hk q1 q2 q3
    rw [Below.heap_setCell w' _ v k (by simp; omega)]
    exact h.frm k hk q1 q2 q3
  · have : (w'.setCell ⟨b, i, none⟩ v).heap.size = w'.heap.size := by simp [World.setCell]
    rw [this]; exact h.grow

theorem layB' (R base m : Nat) (cs : Array Value) (vb va : Value) (xsb xsa : List Value) (s : Sl) (xs : List Value) (w : World) (hm : s.n ≤ 1000000) (hm1 : m ≤ 1000) (hl : xs.length = s.n * 1) (h1 : ∀ u ∈ xs, u.oneCell' = true) (hc : Src w s xs)
    (hR : w.heap[R]? = some (.cells cs 47 (0, 0))) (hb : cs[0]? = some vb) (ha : cs[1]? = some va) (hbase : base ≤ R) (hob : w.ownsRow base 22 1 vb m xsb) (hoa : w.ownsRow base 3 1 va m xsa) :
    Calls Tryz.prog 81 #[.pointer (some ⟨R, 0, none⟩), .slice s.a s.n s.c, .int .i64 600] w fun e w' => ∃ g cp cur vb' va', e = .returned (.slice (some ⟨g, 0, none⟩) s.n (s.n + 600)) ∧ Laid 5 22 1 0 600 (mB 600) w w' R base m cs vb va xsb xsa s.n xs g cp cur vb' va' :=
  (layB R base m cs vb va xsb xsa s xs w hm hm1 hl h1 hc hR hb ha hbase hob hoa).mono fun e w' ⟨g, cp, cur, vb', va', he, a1, a2, a3, a4, a5, a6, a7, a8, a9, a10, a11⟩ => ⟨g, cp, cur, vb', va', he, a1, a2, a3, a4, a5, a6, a7, a8, a9, a10, a11⟩
theorem layA' (R base m : Nat) (cs : Array Value) (vb va : Value) (xsb xsa : List Value) (s : Sl) (xs : List Value) (w : World) (hm : s.n ≤ 1000000) (hm1 : m ≤ 1000) (hl : xs.length = s.n * 2) (h1 : ∀ u ∈ xs, u.oneCell' = true) (hc : Src w s xs)
    (hR : w.heap[R]? = some (.cells cs 47 (0, 0))) (hb : cs[6]? = some vb) (ha : cs[7]? = some va) (hbase : base ≤ R) (hob : w.ownsRow base 25 1 vb m xsb) (hoa : w.ownsRow base 3 1 va m xsa) :
    Calls Tryz.prog 82 #[.pointer (some ⟨R, 0, none⟩), .slice s.a s.n s.c, .int .i64 40] w fun e w' => ∃ g cp cur vb' va', e = .returned (.slice (some ⟨g, 0, none⟩) s.n (s.n + 40)) ∧ Laid 78 25 2 6 40 (mA 40) w w' R base m cs vb va xsb xsa s.n xs g cp cur vb' va' :=
  (layA R base m cs vb va xsb xsa s xs w hm hm1 hl h1 hc hR hb ha hbase hob hoa).mono fun e w' ⟨g, cp, cur, vb', va', he, a1, a2, a3, a4, a5, a6, a7, a8, a9, a10, a11⟩ => ⟨g, cp, cur, vb', va', he, a1, a2, a3, a4, a5, a6, a7, a8, a9, a10, a11⟩
theorem layI' (R base m : Nat) (cs : Array Value) (vb va : Value) (xsb xsa : List Value) (s : Sl) (xs : List Value) (w : World) (hm : s.n ≤ 1000000) (hm1 : m ≤ 1000) (hl : xs.length = s.n * 1) (h1 : ∀ u ∈ xs, u.oneCell' = true) (hc : Src w s xs)
    (hR : w.heap[R]? = some (.cells cs 47 (0, 0))) (hb : cs[2]? = some vb) (ha : cs[3]? = some va) (hbase : base ≤ R) (hob : w.ownsRow base 26 1 vb m xsb) (hoa : w.ownsRow base 3 1 va m xsa) :
    Calls Tryz.prog 83 #[.pointer (some ⟨R, 0, none⟩), .slice s.a s.n s.c, .int .i64 40] w fun e w' => ∃ g cp cur vb' va', e = .returned (.slice (some ⟨g, 0, none⟩) s.n (s.n + 40)) ∧ Laid 3 26 1 2 40 (mI 40) w w' R base m cs vb va xsb xsa s.n xs g cp cur vb' va' :=
  (layI R base m cs vb va xsb xsa s xs w hm hm1 hl h1 hc hR hb ha hbase hob hoa).mono fun e w' ⟨g, cp, cur, vb', va', he, a1, a2, a3, a4, a5, a6, a7, a8, a9, a10, a11⟩ => ⟨g, cp, cur, vb', va', he, a1, a2, a3, a4, a5, a6, a7, a8, a9, a10, a11⟩
theorem layS' (R base m : Nat) (cs : Array Value) (vb va : Value) (xsb xsa : List Value) (s : Sl) (xs : List Value) (w : World) (hm : s.n ≤ 1000000) (hm1 : m ≤ 1000) (hl : xs.length = s.n * 1) (h1 : ∀ u ∈ xs, u.oneCell' = true) (hc : Src w s xs)
    (hR : w.heap[R]? = some (.cells cs 47 (0, 0))) (hb : cs[4]? = some vb) (ha : cs[5]? = some va) (hbase : base ≤ R) (hob : w.ownsRow base 27 1 vb m xsb) (hoa : w.ownsRow base 3 1 va m xsa) :
    Calls Tryz.prog 84 #[.pointer (some ⟨R, 0, none⟩), .slice s.a s.n s.c, .int .i64 40] w fun e w' => ∃ g cp cur vb' va', e = .returned (.slice (some ⟨g, 0, none⟩) s.n (s.n + 40)) ∧ Laid 9 27 1 4 40 (mS 40) w w' R base m cs vb va xsb xsa s.n xs g cp cur vb' va' :=
  (layS R base m cs vb va xsb xsa s xs w hm hm1 hl h1 hc hR hb ha hbase hob hoa).mono fun e w' ⟨g, cp, cur, vb', va', he, a1, a2, a3, a4, a5, a6, a7, a8, a9, a10, a11⟩ => ⟨g, cp, cur, vb', va', he, a1, a2, a3, a4, a5, a6, a7, a8, a9, a10, a11⟩

/-! ### The calls that only hand on -/
set_option maxHeartbeats 400000 in
theorem wrapB (R : Nat) (ao : Option Addr) (len cap : Nat) (w : World) (Q : Ending → World → Prop)
    (h : Calls Tryz.prog 81 #[.pointer (some ⟨R, 0, none⟩), .slice ao len cap, .int .i64 600] w fun e w' => ∃ g n c, e = .returned (.slice (some ⟨g, 0, none⟩) n c) ∧ Q e w') :
    Calls Tryz.prog 20 #[.pointer (some ⟨R, 0, none⟩), .slice ao len cap] w Q := by
  have H : Hid (Calls Tryz.prog 81 #[.pointer (some ⟨R, 0, none⟩), .slice ao len cap, .int .i64 600] w fun e w' => ∃ g n c, e = .returned (.slice (some ⟨g, 0, none⟩) n c) ∧ Q e w') := h
  clear h
  go_enter Tryz.func20, Tryz.ntmps20
  go_wp2_with (go_at_call 81; refine H.out.mono ?_; rintro e w' ⟨g, n, c, rfl, hq⟩)
  assumption
set_option maxHeartbeats 400000 in
theorem wrapA (R : Nat) (ao : Option Addr) (len cap : Nat) (w : World) (Q : Ending → World → Prop)
    (h : Calls Tryz.prog 82 #[.pointer (some ⟨R, 0, none⟩), .slice ao len cap, .int .i64 40] w fun e w' => ∃ g n c, e = .returned (.slice (some ⟨g, 0, none⟩) n c) ∧ Q e w') :
    Calls Tryz.prog 21 #[.pointer (some ⟨R, 0, none⟩), .slice ao len cap] w Q := by
  have H : Hid (Calls Tryz.prog 82 #[.pointer (some ⟨R, 0, none⟩), .slice ao len cap, .int .i64 40] w fun e w' => ∃ g n c, e = .returned (.slice (some ⟨g, 0, none⟩) n c) ∧ Q e w') := h
  clear h
  go_enter Tryz.func21, Tryz.ntmps21
  go_wp2_with (go_at_call 82; refine H.out.mono ?_; rintro e w' ⟨g, n, c, rfl, hq⟩)
  assumption
set_option maxHeartbeats 400000 in
theorem wrapI (R : Nat) (ao : Option Addr) (len cap : Nat) (w : World) (Q : Ending → World → Prop)
    (h : Calls Tryz.prog 83 #[.pointer (some ⟨R, 0, none⟩), .slice ao len cap, .int .i64 40] w fun e w' => ∃ g n c, e = .returned (.slice (some ⟨g, 0, none⟩) n c) ∧ Q e w') :
    Calls Tryz.prog 22 #[.pointer (some ⟨R, 0, none⟩), .slice ao len cap] w Q := by
  have H : Hid (Calls Tryz.prog 83 #[.pointer (some ⟨R, 0, none⟩), .slice ao len cap, .int .i64 40] w fun e w' => ∃ g n c, e = .returned (.slice (some ⟨g, 0, none⟩) n c) ∧ Q e w') := h
  clear h
  go_enter Tryz.func22, Tryz.ntmps22
  go_wp2_with (go_at_call 83; refine H.out.mono ?_; rintro e w' ⟨g, n, c, rfl, hq⟩)
  assumption
set_option maxHeartbeats 400000 in
theorem wrapS (R : Nat) (ao : Option Addr) (len cap : Nat) (w : World) (Q : Ending → World → Prop)
    (h : Calls Tryz.prog 84 #[.pointer (some ⟨R, 0, none⟩), .slice ao len cap, .int .i64 40] w fun e w' => ∃ g n c, e = .returned (.slice (some ⟨g, 0, none⟩) n c) ∧ Q e w') :
    Calls Tryz.prog 23 #[.pointer (some ⟨R, 0, none⟩), .slice ao len cap] w Q := by
  have H : Hid (Calls Tryz.prog 84 #[.pointer (some ⟨R, 0, none⟩), .slice ao len cap, .int .i64 40] w fun e w' => ∃ g n c, e = .returned (.slice (some ⟨g, 0, none⟩) n c) ∧ Q e w') := h
  clear h
  go_enter Tryz.func23, Tryz.ntmps23
  go_wp2_with (go_at_call 84; refine H.out.mono ?_; rintro e w' ⟨g, n, c, rfl, hq⟩)
  assumption

set_option maxHeartbeats 1000000 in
theorem message_lay (R base m : Nat) (cs : Array Value) (vb va : Value) (xsb xsa : List Value) (t : ByteArray) (s : Sl) (q : Int) (r : Bool) (xs : List Value) (w : World) (hm : s.n ≤ 1000000) (hm1 : m ≤ 1000) (hl : xs.length = s.n * 1) (h1 : ∀ u ∈ xs, u.oneCell' = true) (hc : Src w s xs)
    (hR : w.heap[R]? = some (.cells cs 47 (0, 0))) (hb : cs[0]? = some vb) (ha : cs[1]? = some va) (hbase : base ≤ R) (hob : w.ownsRow base 22 1 vb m xsb) (hoa : w.ownsRow base 3 1 va m xsa) :
    Calls Tryz.prog 19 #[.pointer (some ⟨R, 0, none⟩), .agg #[.string t, .slice s.a s.n s.c, .int .i64 q, .bool r]] w fun e w' => ∃ g cp cur vb' va', e = .returned (.agg #[.string t, .slice (some ⟨g, 0, none⟩) s.n (s.n + 600), .int .i64 q, .bool r]) ∧ Laid 5 22 1 0 600 (mB 600) w w' R base m cs vb va xsb xsa s.n xs g cp cur vb' va' := by
  have HC : Hid (∀ w', Below w.heap.size w w' → Calls Tryz.prog 20 #[.pointer (some ⟨R, 0, none⟩), .slice s.a s.n s.c] w' fun e w'' => ∃ g cp cur vb' va', e = .returned (.slice (some ⟨g, 0, none⟩) s.n (s.n + 600)) ∧ Laid 5 22 1 0 600 (mB 600) w' w'' R base m cs vb va xsb xsa s.n xs g cp cur vb' va') := fun w' hb' =>
    wrapB R _ _ _ w' _ ((layB' R base m cs vb va xsb xsa s xs w' hm hm1 hl h1 (hc.below hb') ((hb'.block R (block_lt hR)).trans hR) hb ha hbase (own_below hob hb') (own_below hoa hb')).mono fun e w'' ⟨g, cp, cur, vb', va', he, hL⟩ => ⟨g, _, _, he, g, cp, cur, vb', va', he, hL⟩)
  have HBS : Hid (base ≤ w.heap.size ∧ R < w.heap.size) := ⟨by have := block_lt hR; omega, block_lt hR⟩
  have KB : Hid (∀ k, vb.ownBlock = some k → k < w.heap.size) := fun k hk => (hob.lt k hk).2
  have KA : Hid (∀ k, va.ownBlock = some k → k < w.heap.size) := fun k hk => (hoa.lt k hk).2
  clear hm hm1 hl h1 hc hR hb ha hbase hob hoa
  obtain ⟨W, hW⟩ : ∃ W, W = (w.alloc (.cells #[.string t, .slice s.a s.n s.c, .int .i64 q, .bool r] 24)).alloc (.cells #[.string ⟨#[]⟩, .slice none 0 0, .int .i64 0, .bool false] 24) := ⟨_, rfl⟩
  have b0 : Hid (Below w.heap.size w W) := by rw [hW]; exact below2 _ _ _
  have x0 : Hid (W.heap[w.heap.size]? = some (.cells #[.string t, .slice s.a s.n s.c, .int .i64 q, .bool r] 24)) := by show _ = _; rw [hW]; exact heap_alloc2_old w _ _
  have x1 : Hid (W.heap[w.heap.size + 1]? = some (.cells #[.string ⟨#[]⟩, .slice none 0 0, .int .i64 0, .bool false] 24)) := by show _ = _; rw [hW]; exact heap_alloc2_new w _ _
  have c1 : W.cell? ⟨w.heap.size, 1, none⟩ = some (.slice s.a s.n s.c) := by simp [World.cell?, x0.out]
  rw [hW] at c1
  go_enter Tryz.func19, Tryz.ntmps19
  go_wp2_with fail
  go_must (go_at_call 20)
  rw [← hW] at c1 ⊢
  refine (HC.out W b0.out).mono ?_
  rintro e V ⟨g, cp, cur, vb', va', rfl, hL⟩
  clear c1 hW
  have hws : Hid (W.heap.size = w.heap.size + 2 ∨ w.heap.size + 2 ≤ W.heap.size) := .inr (block_lt x1.out)
  have y0 : V.heap[w.heap.size]? = some (.cells #[.string t, .slice s.a s.n s.c, .int .i64 q, .bool r] 24) := (hL.frm _ (block_lt x0.out) (by have := HBS.out.2; omega) (fun h => by have := KB.out _ h; omega) (fun h => by have := KA.out _ h; omega)).trans x0.out
  have y1 : V.heap[w.heap.size + 1]? = some (.cells #[.string ⟨#[]⟩, .slice none 0 0, .int .i64 0, .bool false] 24) := (hL.frm _ (block_lt x1.out) (by have := HBS.out.2; omega) (fun h => by have := KB.out _ h; omega) (fun h => by have := KA.out _ h; omega)).trans x1.out
  have HL : Hid (Laid 5 22 1 0 600 (mB 600) w V R base m cs vb va xsb xsa s.n xs g cp cur vb' va') := hL.earlier b0.out HBS.out.1
  have Y0 : Hid (V.heap[w.heap.size]? = some (.cells #[.string t, .slice s.a s.n s.c, .int .i64 q, .bool r] 24)) := y0
  have Y1 : Hid (V.heap[w.heap.size + 1]? = some (.cells #[.string ⟨#[]⟩, .slice none 0 0, .int .i64 0, .bool false] 24)) := y1
  have e0 : V.cell? ⟨w.heap.size, 0, none⟩ = some (.string t) := by simp [World.cell?, y0]
  have e1 : V.cell? ⟨w.heap.size, 1, none⟩ = some (.slice s.a s.n s.c) := by simp [World.cell?, y0]
  have e2 : V.cell? ⟨w.heap.size, 2, none⟩ = some (.int .i64 q) := by simp [World.cell?, y0]
  have e3 : V.cell? ⟨w.heap.size, 3, none⟩ = some (.bool r) := by simp [World.cell?, y0]
  have f1 : V.frozen? ⟨w.heap.size, 1, none⟩ = false := by simp [World.frozen?, y0]
  have d0 : V.cell? ⟨w.heap.size + 1, 0, none⟩ = some (.string ⟨#[]⟩) := by simp [World.cell?, y1]
  have d1 : V.cell? ⟨w.heap.size + 1, 1, none⟩ = some (.slice none 0 0) := by simp [World.cell?, y1]
  have d2 : V.cell? ⟨w.heap.size + 1, 2, none⟩ = some (.int .i64 0) := by simp [World.cell?, y1]
  have d3 : V.cell? ⟨w.heap.size + 1, 3, none⟩ = some (.bool false) := by simp [World.cell?, y1]
  have z0 : V.frozen? ⟨w.heap.size + 1, 0, none⟩ = false := by simp [World.frozen?, y1]
  have z1 : V.frozen? ⟨w.heap.size + 1, 1, none⟩ = false := by simp [World.frozen?, y1]
  have z2 : V.frozen? ⟨w.heap.size + 1, 2, none⟩ = false := by simp [World.frozen?, y1]
  have z3 : V.frozen? ⟨w.heap.size + 1, 3, none⟩ = false := by simp [World.frozen?, y1]
  clear y0 y1 hL
  have k1 := HL.out.set w.heap.size 1 24 (.slice (some ⟨g, 0, none⟩) s.n (s.n + 600)) _ Y0.out (by decide) (by decide) (by decide) (by decide) (Nat.le_refl _) HBS.out.1
  have r1 : (V.setCell ⟨w.heap.size, 1, none⟩ (.slice (some ⟨g, 0, none⟩) s.n (s.n + 600))).heap[w.heap.size + 1]? = some (.cells #[.string ⟨#[]⟩, .slice none 0 0, .int .i64 0, .bool false] 24) := (Below.heap_setCell V _ _ _ (by simp)).trans Y1.out
  have k2 := k1.set (w.heap.size + 1) 0 24 (.string t) _ r1 (by decide) (by decide) (by decide) (by decide) (by omega) HBS.out.1
  have r2 := heap_set (i := 0) r1 (.string t)
  have k3 := k2.set (w.heap.size + 1) 1 24 (.slice (some ⟨g, 0, none⟩) s.n (s.n + 600)) _ r2 (by decide) (by decide) (by decide) (by decide) (by omega) HBS.out.1
  have r3 := heap_set (i := 1) r2 (.slice (some ⟨g, 0, none⟩) s.n (s.n + 600))
  have k4 := k3.set (w.heap.size + 1) 2 24 (.int .i64 q) _ r3 (by decide) (by decide) (by decide) (by decide) (by omega) HBS.out.1
  have r4 := heap_set (i := 2) r3 (.int .i64 q)
  have k5 := k4.set (w.heap.size + 1) 3 24 (.bool r) _ r4 (by decide) (by decide) (by decide) (by decide) (by omega) HBS.out.1
  have r5 := heap_set (i := 3) r4 (.bool r)
  have HK := (show Hid _ from k5)
  have HR5 := (show Hid _ from r5)
  clear k1 k2 k3 k4 k5 r1 r2 r3 r4 r5
  go_wp2
  exact bodyPost_ret (results_cell_row rfl _ _ _ _ _ _ _ rfl HR5.out Tryz.underlying24 rfl (by kernel_rfl)) rfl ⟨g, cp, cur, vb', va', rfl, HK.out⟩
end Go.Proofs.YtcoccggimbficaaGreatDoor
namespace Go.Proofs.YtcoccggimbficaaGreatDoor
open Go Go.RowKit Go.Sort
set_option linter.unusedSimpArgs false
set_option linter.unusedVariables false

set_option maxHeartbeats 400000 in
theorem hold38 (R : Nat) (w : World) (h : w.cell? ⟨R, 8, none⟩ = some (.slice none 0 0)) : Calls Tryz.prog 38 #[.pointer (some ⟨R, 0, none⟩)] w fun e w' => e = .returned (.bool true) ∧ w' = w := by
  go_enter Tryz.func38, Tryz.ntmps38
  go_wp2
  go_loop [3] (fun i => i = .int .i64 0) (fun _ => 0)
  case atStart => rfl
  case round =>
    subst hrel
    go_wp2
    go_ret
    exact ⟨rfl, rfl⟩

set_option maxHeartbeats 400000 in
theorem hold39 (R : Nat) (w : World) (h : w.cell? ⟨R, 10, none⟩ = some (.slice none 0 0)) : Calls Tryz.prog 39 #[.pointer (some ⟨R, 0, none⟩)] w fun e w' => e = .returned (.bool true) ∧ w' = w := by
  go_enter Tryz.func39, Tryz.ntmps39
  go_wp2
  go_loop [3] (fun i => i = .int .i64 0) (fun _ => 0)
  case atStart => rfl
  case round =>
    subst hrel
    go_wp2
    go_ret
    exact ⟨rfl, rfl⟩

set_option maxHeartbeats 400000 in
theorem hold40 (R : Nat) (w : World) (h : w.cell? ⟨R, 12, none⟩ = some (.slice none 0 0)) : Calls Tryz.prog 40 #[.pointer (some ⟨R, 0, none⟩)] w fun e w' => e = .returned (.bool true) ∧ w' = w := by
  go_enter Tryz.func40, Tryz.ntmps40
  go_wp2
  go_loop [3] (fun i => i = .int .i64 0) (fun _ => 0)
  case atStart => rfl
  case round =>
    subst hrel
    go_wp2
    go_ret
    exact ⟨rfl, rfl⟩

set_option maxHeartbeats 400000 in
theorem hold41 (R : Nat) (w : World) (h : w.cell? ⟨R, 14, none⟩ = some (.slice none 0 0)) : Calls Tryz.prog 41 #[.pointer (some ⟨R, 0, none⟩)] w fun e w' => e = .returned (.bool true) ∧ w' = w := by
  go_enter Tryz.func41, Tryz.ntmps41
  go_wp2
  go_loop [3] (fun i => i = .int .i64 0) (fun _ => 0)
  case atStart => rfl
  case round =>
    subst hrel
    go_wp2
    go_ret
    exact ⟨rfl, rfl⟩

set_option maxHeartbeats 400000 in
theorem hold42 (R : Nat) (w : World) (h : w.cell? ⟨R, 16, none⟩ = some (.slice none 0 0)) : Calls Tryz.prog 42 #[.pointer (some ⟨R, 0, none⟩)] w fun e w' => e = .returned (.bool true) ∧ w' = w := by
  go_enter Tryz.func42, Tryz.ntmps42
  go_wp2
  go_loop [3] (fun i => i = .int .i64 0) (fun _ => 0)
  case atStart => rfl
  case round =>
    subst hrel
    go_wp2
    go_ret
    exact ⟨rfl, rfl⟩

set_option maxHeartbeats 400000 in
theorem hold43 (R : Nat) (w : World) (h : w.cell? ⟨R, 18, none⟩ = some (.slice none 0 0)) : Calls Tryz.prog 43 #[.pointer (some ⟨R, 0, none⟩)] w fun e w' => e = .returned (.bool true) ∧ w' = w := by
  go_enter Tryz.func43, Tryz.ntmps43
  go_wp2
  go_loop [3] (fun i => i = .int .i64 0) (fun _ => 0)
  case atStart => rfl
  case round =>
    subst hrel
    go_wp2
    go_ret
    exact ⟨rfl, rfl⟩

set_option maxHeartbeats 400000 in
theorem hold44 (R : Nat) (w : World) (h : w.cell? ⟨R, 20, none⟩ = some (.slice none 0 0)) : Calls Tryz.prog 44 #[.pointer (some ⟨R, 0, none⟩)] w fun e w' => e = .returned (.bool true) ∧ w' = w := by
  go_enter Tryz.func44, Tryz.ntmps44
  go_wp2
  go_loop [3] (fun i => i = .int .i64 0) (fun _ => 0)
  case atStart => rfl
  case round =>
    subst hrel
    go_wp2
    go_ret
    exact ⟨rfl, rfl⟩

set_option maxHeartbeats 400000 in
theorem hold45 (R : Nat) (w : World) (h : w.cell? ⟨R, 22, none⟩ = some (.slice none 0 0)) : Calls Tryz.prog 45 #[.pointer (some ⟨R, 0, none⟩)] w fun e w' => e = .returned (.bool true) ∧ w' = w := by
  go_enter Tryz.func45, Tryz.ntmps45
  go_wp2
  go_loop [3] (fun i => i = .int .i64 0) (fun _ => 0)
  case atStart => rfl
  case round =>
    subst hrel
    go_wp2
    go_ret
    exact ⟨rfl, rfl⟩

set_option maxHeartbeats 400000 in
theorem hold46 (R : Nat) (w : World) (h : w.cell? ⟨R, 24, none⟩ = some (.slice none 0 0)) : Calls Tryz.prog 46 #[.pointer (some ⟨R, 0, none⟩)] w fun e w' => e = .returned (.bool true) ∧ w' = w := by
  go_enter Tryz.func46, Tryz.ntmps46
  go_wp2
  go_loop [3] (fun i => i = .int .i64 0) (fun _ => 0)
  case atStart => rfl
  case round =>
    subst hrel
    go_wp2
    go_ret
    exact ⟨rfl, rfl⟩

set_option maxHeartbeats 400000 in
theorem hold47 (R : Nat) (w : World) (h : w.cell? ⟨R, 26, none⟩ = some (.slice none 0 0)) : Calls Tryz.prog 47 #[.pointer (some ⟨R, 0, none⟩)] w fun e w' => e = .returned (.bool true) ∧ w' = w := by
  go_enter Tryz.func47, Tryz.ntmps47
  go_wp2
  go_loop [3] (fun i => i = .int .i64 0) (fun _ => 0)
  case atStart => rfl
  case round =>
    subst hrel
    go_wp2
    go_ret
    exact ⟨rfl, rfl⟩

set_option maxRecDepth 100000 in
set_option maxHeartbeats 1000000 in
theorem hold_bytes (R m gb cb ga ca : Nat) (G N C : Nat → Nat) (w : World) (hm : m ≤ 1000) (hN : ∀ i, i < m → N i ≤ 1000000 ∧ N i + 600 ≤ C i) (hmb : m ≤ cb) (hma : m ≤ ca)
    (cR0 : w.cell? ⟨R, 0, none⟩ = some (.slice (some ⟨gb, 0, none⟩) m cb)) (cR1 : w.cell? ⟨R, 1, none⟩ = some (.slice (some ⟨ga, 0, none⟩) m ca))
    (hb : ∀ i, i < m → w.cell? ⟨gb, i, none⟩ = some (.slice (some ⟨G i, 0, none⟩) (N i + 600) (C i))) (ha : ∀ i, i < m → w.cell? ⟨ga, i, none⟩ = some (.int .i64 (N i)))
    (hk : ∀ i, i < m → ∀ k, k < 600 → w.cell? ⟨G i, N i + k, none⟩ = some (.int .u8 (markU k))) :
    Calls Tryz.prog 34 #[.pointer (some ⟨R, 0, none⟩)] w fun e w' => e = .returned (.bool true) ∧ w' = w := by
  have HB : Hid (∀ i, i < m → w.cell? ⟨gb, i, none⟩ = some (.slice (some ⟨G i, 0, none⟩) (N i + 600) (C i))) := hb
  have HA : Hid (∀ i, i < m → w.cell? ⟨ga, i, none⟩ = some (.int .i64 (N i))) := ha
  have HK : Hid (∀ i, i < m → ∀ k, k < 600 → w.cell? ⟨G i, N i + k, none⟩ = some (.int .u8 (markU k))) := hk
  have HN : Hid (∀ i, i < m → N i ≤ 1000000 ∧ N i + 600 ≤ C i) := hN
  clear hb ha hk hN
  go_enter Tryz.func34, Tryz.ntmps34
  go_wp2
  go_loop [3, 4, 5, 6] (fun i _ _ _ => ∃ j : Nat, j ≤ m ∧ i = .int .i64 j) (fun i _ _ _ => m - (intOf i).toNat)
  case atStart => exact ⟨0, by omega, rfl⟩
  case round =>
    obtain ⟨j, hj, rfl⟩ := hrel
    by_cases hlt : j < m
    · have b1 := HB.out j hlt
      have a1 := HA.out j hlt
      have k1 := HK.out j hlt
      have n1 := HN.out j hlt
      obtain ⟨Gj, hG⟩ : ∃ x, G j = x := ⟨_, rfl⟩
      obtain ⟨Nj, hNj⟩ : ∃ x, N j = x := ⟨_, rfl⟩
      obtain ⟨Cj, hC⟩ : ∃ x, C j = x := ⟨_, rfl⟩
      rw [hG, hNj, hC] at b1
      rw [hNj] at a1
      rw [hG, hNj] at k1
      rw [hNj, hC] at n1
      clear hG hNj hC
      have K1 : Hid (∀ k, k < 600 → w.cell? ⟨Gj, Nj + k, none⟩ = some (.int .u8 (markU k))) := k1
      clear k1
      go_wp2
      go_loop [5, 6] (fun x _ => ∃ k : Nat, k ≤ 600 ∧ x = .int .i64 ((Nj + k : Nat) : Int)) (fun x _ => Nj + 600 - (intOf x).toNat)
      case atStart => exact ⟨0, by omega, rfl⟩
      case round =>
        obtain ⟨k, hk, rfl⟩ := hrel
        by_cases hkl : k < 600
        · have ck := K1.out k hkl
          have es : (Nj : Int) + (k : Int) - (Nj : Int) = (k : Int) := by omega
          have HZ : Hid (∀ w, Calls Tryz.prog 106 #[.int .i64 k] w fun e w' => e = .returned (.int .i64 (lotI k)) ∧ w' = w) := fun w => lot_any k (by omega) w
          rcases lot_two k with ⟨q1, q2⟩ | ⟨q1, q2⟩
          all_goals
            rw [q1] at HZ
            rw [q2] at ck
            clear q1 q2
            go_wp2_with (go_at_call 106; refine (HZ.out _).mono ?_; rintro e w' ⟨rfl, rfl⟩)
            go_round
            case rel => exact ⟨k + 1, by omega, by go_num⟩
            case measure => simp [intOf]; omega
        · obtain rfl : k = 600 := by omega
          go_wp2
          go_round
          case rel => exact ⟨j + 1, by omega, by go_num⟩
          case measure => simp [intOf]; omega
    · obtain rfl : j = m := by omega
      go_wp2
      go_ret
      exact ⟨rfl, rfl⟩

set_option maxRecDepth 100000 in
set_option maxHeartbeats 1000000 in
theorem hold_ints (R m gb cb ga ca : Nat) (G N C : Nat → Nat) (w : World) (hm : m ≤ 1000) (hN : ∀ i, i < m → N i ≤ 1000000 ∧ N i + 40 ≤ C i) (hmb : m ≤ cb) (hma : m ≤ ca)
    (cR0 : w.cell? ⟨R, 2, none⟩ = some (.slice (some ⟨gb, 0, none⟩) m cb)) (cR1 : w.cell? ⟨R, 3, none⟩ = some (.slice (some ⟨ga, 0, none⟩) m ca))
    (hb : ∀ i, i < m → w.cell? ⟨gb, i, none⟩ = some (.slice (some ⟨G i, 0, none⟩) (N i + 40) (C i))) (ha : ∀ i, i < m → w.cell? ⟨ga, i, none⟩ = some (.int .i64 (N i)))
    (hk : ∀ i, i < m → ∀ k, k < 40 → w.cell? ⟨G i, N i + k, none⟩ = some (.int .i64 (lotI k))) :
    Calls Tryz.prog 35 #[.pointer (some ⟨R, 0, none⟩)] w fun e w' => e = .returned (.bool true) ∧ w' = w := by
  have HB : Hid (∀ i, i < m → w.cell? ⟨gb, i, none⟩ = some (.slice (some ⟨G i, 0, none⟩) (N i + 40) (C i))) := hb
  have HA : Hid (∀ i, i < m → w.cell? ⟨ga, i, none⟩ = some (.int .i64 (N i))) := ha
  have HK : Hid (∀ i, i < m → ∀ k, k < 40 → w.cell? ⟨G i, N i + k, none⟩ = some (.int .i64 (lotI k))) := hk
  have HN : Hid (∀ i, i < m → N i ≤ 1000000 ∧ N i + 40 ≤ C i) := hN
  clear hb ha hk hN
  go_enter Tryz.func35, Tryz.ntmps35
  go_wp2
  go_loop [3, 4, 5, 6] (fun i _ _ _ => ∃ j : Nat, j ≤ m ∧ i = .int .i64 j) (fun i _ _ _ => m - (intOf i).toNat)
  case atStart => exact ⟨0, by omega, rfl⟩
  case round =>
    obtain ⟨j, hj, rfl⟩ := hrel
    by_cases hlt : j < m
    · have b1 := HB.out j hlt
      have a1 := HA.out j hlt
      have k1 := HK.out j hlt
      have n1 := HN.out j hlt
      obtain ⟨Gj, hG⟩ : ∃ x, G j = x := ⟨_, rfl⟩
      obtain ⟨Nj, hNj⟩ : ∃ x, N j = x := ⟨_, rfl⟩
      obtain ⟨Cj, hC⟩ : ∃ x, C j = x := ⟨_, rfl⟩
      rw [hG, hNj, hC] at b1
      rw [hNj] at a1
      rw [hG, hNj] at k1
      rw [hNj, hC] at n1
      clear hG hNj hC
      have K1 : Hid (∀ k, k < 40 → w.cell? ⟨Gj, Nj + k, none⟩ = some (.int .i64 (lotI k))) := k1
      clear k1
      go_wp2
      go_loop [5, 6] (fun x _ => ∃ k : Nat, k ≤ 40 ∧ x = .int .i64 ((Nj + k : Nat) : Int)) (fun x _ => Nj + 40 - (intOf x).toNat)
      case atStart => exact ⟨0, by omega, rfl⟩
      case round =>
        obtain ⟨k, hk, rfl⟩ := hrel
        by_cases hkl : k < 40
        · have ck := K1.out k hkl
          have es : (Nj : Int) + (k : Int) - (Nj : Int) = (k : Int) := by omega
          have HZ : Hid (∀ w, Calls Tryz.prog 106 #[.int .i64 k] w fun e w' => e = .returned (.int .i64 (lotI k)) ∧ w' = w) := fun w => lot_any k (by omega) w
          obtain ⟨x, hx⟩ : ∃ x, lotI k = x := ⟨_, rfl⟩
          rw [hx] at HZ ck
          clear hx
          go_wp2_with (go_at_call 106; refine (HZ.out _).mono ?_; rintro e w' ⟨rfl, rfl⟩)
          go_round
          case rel => exact ⟨k + 1, by omega, by go_num⟩
          case measure => simp [intOf]; omega
        · obtain rfl : k = 40 := by omega
          go_wp2
          go_round
          case rel => exact ⟨j + 1, by omega, by go_num⟩
          case measure => simp [intOf]; omega
    · obtain rfl : j = m := by omega
      go_wp2
      go_ret
      exact ⟨rfl, rfl⟩

set_option maxRecDepth 100000 in
set_option maxHeartbeats 1000000 in
theorem hold_texts (R m gb cb ga ca : Nat) (G N C : Nat → Nat) (w : World) (hm : m ≤ 1000) (hN : ∀ i, i < m → N i ≤ 1000000 ∧ N i + 40 ≤ C i) (hmb : m ≤ cb) (hma : m ≤ ca)
    (cR0 : w.cell? ⟨R, 4, none⟩ = some (.slice (some ⟨gb, 0, none⟩) m cb)) (cR1 : w.cell? ⟨R, 5, none⟩ = some (.slice (some ⟨ga, 0, none⟩) m ca))
    (hb : ∀ i, i < m → w.cell? ⟨gb, i, none⟩ = some (.slice (some ⟨G i, 0, none⟩) (N i + 40) (C i))) (ha : ∀ i, i < m → w.cell? ⟨ga, i, none⟩ = some (.int .i64 (N i)))
    (hk : ∀ i, i < m → ∀ k, k < 40 → w.cell? ⟨G i, N i + k, none⟩ = some (.string (wordB k))) :
    Calls Tryz.prog 36 #[.pointer (some ⟨R, 0, none⟩)] w fun e w' => e = .returned (.bool true) ∧ w' = w := by
  have HB : Hid (∀ i, i < m → w.cell? ⟨gb, i, none⟩ = some (.slice (some ⟨G i, 0, none⟩) (N i + 40) (C i))) := hb
  have HA : Hid (∀ i, i < m → w.cell? ⟨ga, i, none⟩ = some (.int .i64 (N i))) := ha
  have HK : Hid (∀ i, i < m → ∀ k, k < 40 → w.cell? ⟨G i, N i + k, none⟩ = some (.string (wordB k))) := hk
  have HN : Hid (∀ i, i < m → N i ≤ 1000000 ∧ N i + 40 ≤ C i) := hN
  clear hb ha hk hN
  go_enter Tryz.func36, Tryz.ntmps36
  go_wp2
  go_loop [3, 4, 5, 6] (fun i _ _ _ => ∃ j : Nat, j ≤ m ∧ i = .int .i64 j) (fun i _ _ _ => m - (intOf i).toNat)
  case atStart => exact ⟨0, by omega, rfl⟩
  case round =>
    obtain ⟨j, hj, rfl⟩ := hrel
    by_cases hlt : j < m
    · have b1 := HB.out j hlt
      have a1 := HA.out j hlt
      have k1 := HK.out j hlt
      have n1 := HN.out j hlt
      obtain ⟨Gj, hG⟩ : ∃ x, G j = x := ⟨_, rfl⟩
      obtain ⟨Nj, hNj⟩ : ∃ x, N j = x := ⟨_, rfl⟩
      obtain ⟨Cj, hC⟩ : ∃ x, C j = x := ⟨_, rfl⟩
      rw [hG, hNj, hC] at b1
      rw [hNj] at a1
      rw [hG, hNj] at k1
      rw [hNj, hC] at n1
      clear hG hNj hC
      have K1 : Hid (∀ k, k < 40 → w.cell? ⟨Gj, Nj + k, none⟩ = some (.string (wordB k))) := k1
      clear k1
      go_wp2
      go_loop [5, 6] (fun x _ => ∃ k : Nat, k ≤ 40 ∧ x = .int .i64 ((Nj + k : Nat) : Int)) (fun x _ => Nj + 40 - (intOf x).toNat)
      case atStart => exact ⟨0, by omega, rfl⟩
      case round =>
        obtain ⟨k, hk, rfl⟩ := hrel
        by_cases hkl : k < 40
        · have ck := K1.out k hkl
          have es : (Nj : Int) + (k : Int) - (Nj : Int) = (k : Int) := by omega
          have HZ : Hid (∀ w, Calls Tryz.prog 107 #[.int .i64 k] w fun e w' => e = .returned (.string (wordB k)) ∧ w' = w) := fun w => word_any k (by omega) w
          obtain ⟨x, hx⟩ : ∃ x, wordB k = x := ⟨_, rfl⟩
          rw [hx] at HZ ck
          clear hx
          go_wp2_with (go_at_call 107; refine (HZ.out _).mono ?_; rintro e w' ⟨rfl, rfl⟩)
          go_round
          case rel => exact ⟨k + 1, by omega, by go_num⟩
          case measure => simp [intOf]; omega
        · obtain rfl : k = 40 := by omega
          go_wp2
          go_round
          case rel => exact ⟨j + 1, by omega, by go_num⟩
          case measure => simp [intOf]; omega
    · obtain rfl : j = m := by omega
      go_wp2
      go_ret
      exact ⟨rfl, rfl⟩

end Go.Proofs.YtcoccggimbficaaGreatDoor
namespace Go.Proofs.YtcoccggimbficaaGreatDoor
open Go Go.RowKit Go.Sort
set_option linter.unusedSimpArgs false
set_option linter.unusedVariables false

set_option maxRecDepth 100000 in
set_option maxHeartbeats 2000000 in
theorem hold_asks (R m gb cb ga ca : Nat) (G N C : Nat → Nat) (w : World) (hm : m ≤ 1000) (hN : ∀ i, i < m → N i ≤ 1000000 ∧ N i + 40 ≤ C i) (hmb : m ≤ cb) (hma : m ≤ ca)
    (cR0 : w.cell? ⟨R, 6, none⟩ = some (.slice (some ⟨gb, 0, none⟩) m cb)) (cR1 : w.cell? ⟨R, 7, none⟩ = some (.slice (some ⟨ga, 0, none⟩) m ca))
    (hb : ∀ i, i < m → w.cell? ⟨gb, i, none⟩ = some (.slice (some ⟨G i, 0, none⟩) (N i + 40) (C i))) (ha : ∀ i, i < m → w.cell? ⟨ga, i, none⟩ = some (.int .i64 (N i)))
    (hk : ∀ i, i < m → ∀ k, k < 40 → (w.cell? ⟨G i, (N i + k) * 2, none⟩ = some (.string (wordB k)) ∧ w.cell? ⟨G i, (N i + k) * 2 + 1, none⟩ = some (.int .i64 0))) :
    Calls Tryz.prog 37 #[.pointer (some ⟨R, 0, none⟩)] w fun e w' => e = .returned (.bool true) ∧ Below w.heap.size w w' := by
  have HB : Hid (∀ i, i < m → w.cell? ⟨gb, i, none⟩ = some (.slice (some ⟨G i, 0, none⟩) (N i + 40) (C i))) := hb
  have HA : Hid (∀ i, i < m → w.cell? ⟨ga, i, none⟩ = some (.int .i64 (N i))) := ha
  have HK : Hid (∀ i, i < m → ∀ k, k < 40 → (w.cell? ⟨G i, (N i + k) * 2, none⟩ = some (.string (wordB k)) ∧ w.cell? ⟨G i, (N i + k) * 2 + 1, none⟩ = some (.int .i64 0))) := hk
  have HN : Hid (∀ i, i < m → N i ≤ 1000000 ∧ N i + 40 ≤ C i) := hN
  have HR0 : Hid (w.cell? ⟨R, 6, none⟩ = some (.slice (some ⟨gb, 0, none⟩) m cb)) := cR0
  have HR1 : Hid (w.cell? ⟨R, 7, none⟩ = some (.slice (some ⟨ga, 0, none⟩) m ca)) := cR1
  have EG : Tryz.prog.eqGuardType Tryz.prog.depth 78 = false := by kernel_rfl
  have B0 : Hid (Below w.heap.size w w) := Below.refl _ _
  clear hb ha hk hN cR0 cR1
  go_enter Tryz.func37, Tryz.ntmps37
  go_wp2
  go_loopg [3, 4, 5, 6] m (fun gg s3 s4 s5 s6 wx => ∃ j : Nat, s3 = .int .i64 j ∧ j + gg = m ∧ Hid (Below w.heap.size w wx))
  case atStart => exact ⟨0, rfl, by omega, B0⟩
  case round =>
    obtain ⟨j, rfl, hjg, B1⟩ := hrel
    obtain ⟨gj, hgj⟩ : ∃ x, x = gk := ⟨_, rfl⟩
    have r0 := cell_later B1.out HR0.out
    have r1 := cell_later B1.out HR1.out
    by_cases hlt : j < m
    · have hlt' : (j : Int) < m := by omega
      have b1 := cell_later B1.out (HB.out j hlt)
      have a1 := cell_later B1.out (HA.out j hlt)
      have k1 := HK.out j hlt
      have n1 := HN.out j hlt
      obtain ⟨Gj, hG⟩ : ∃ x, G j = x := ⟨_, rfl⟩
      obtain ⟨Nj, hNj⟩ : ∃ x, N j = x := ⟨_, rfl⟩
      obtain ⟨Cj, hC⟩ : ∃ x, C j = x := ⟨_, rfl⟩
      have HB1 : Hid (w.cell? ⟨gb, j, none⟩ = some (.slice (some ⟨Gj, 0, none⟩) (Nj + 40) Cj)) := by have := HB.out j hlt; rw [hG, hNj, hC] at this; exact this
      rw [hG, hNj, hC] at b1
      rw [hNj] at a1
      rw [hG, hNj] at k1
      rw [hNj, hC] at n1
      clear hG hNj hC
      have K1 : Hid (∀ k, k < 40 → (w.cell? ⟨Gj, (Nj + k) * 2, none⟩ = some (.string (wordB k)) ∧ w.cell? ⟨Gj, (Nj + k) * 2 + 1, none⟩ = some (.int .i64 0))) := k1
      clear k1
      go_wp2_with fail
      clear r0 r1 a1 b1
      go_loopg [5, 6] 40 (fun gg s5 s6 wx => ∃ k : Nat, s5 = .int .i64 ((Nj + k : Nat) : Int) ∧ k + gg = 40 ∧ Hid (Below w.heap.size w wx))
      case atStart => exact ⟨0, rfl, by omega, B1⟩
      case round =>
        obtain ⟨k, rfl, hkg, B2⟩ := hrel
        have r0 := cell_later B2.out HR0.out
        have b1 := cell_later B2.out HB1.out
        by_cases hkl : k < 40
        · have hkl' : ((Nj + k : Nat) : Int) < ((Nj + 40 : Nat) : Int) := by omega
          have c0 := cell_later B2.out (K1.out k hkl).1
          have c1 := cell_later B2.out (K1.out k hkl).2
          have es : (Nj : Int) + (k : Int) - (Nj : Int) = (k : Int) := by omega
          have HZ : Hid (∀ w, Calls Tryz.prog 107 #[.int .i64 k] w fun e w' => e = .returned (.string (wordB k)) ∧ w' = w) := fun w => word_any k (by omega) w
          obtain ⟨x, hx⟩ : ∃ x, wordB k = x := ⟨_, rfl⟩
          rw [hx] at HZ c0
          clear hx
          have EQ := neq_ask_eq x 0
          go_wp2_with fail
          obtain ⟨X, hX⟩ : ∃ X, X = wr.alloc (.cells #[.string x, .int .i64 0] 78) := ⟨_, rfl⟩
          have BX : Hid (Below wr.heap.size wr X) := box_below hX
          have g0 : Hid (X.heap[wr.heap.size]? = some (.cells #[.string x, .int .i64 0] 78)) := by show _ = _; rw [hX]; exact heap_alloc_new wr _
          rw [← hX]
          clear hX c0 c1 r0 b1
          have k0 : ∀ d os, (grow (redrawn X d) os).cell? ⟨wr.heap.size, 0, none⟩ = some (.string x) := fun d os => cell_later (below_regrown X d os) (by simp [World.cell?, g0.out])
          have k1 : ∀ d os, (grow (redrawn X d) os).cell? ⟨wr.heap.size, 1, none⟩ = some (.int .i64 0) := fun d os => cell_later (below_regrown X d os) (by simp [World.cell?, g0.out])
          have C1 : Hid (∀ w, Calls Tryz.prog 107 #[.int .i64 k] w fun e w' => e = .returned (.string x) ∧ Below w.heap.size w w') := fun w => (HZ.out w).mono fun e w' ⟨he, hw⟩ => ⟨he, by rw [hw]; exact Below.refl _ _⟩
          have hwk : IntKind.i64.wrap (k : Int) = (k : Int) := by rw [IntKind.wrap_i64]; omega
          obtain ⟨gg, hgg⟩ : ∃ gg, gk = gg + 1 := ⟨gk - 1, by omega⟩
          refine wp_region_quiet_below (by kernel_rfl) (by kernel_rfl) ?_
          repeat (quiet_step ((go_at_call 107; exact Calls.regrown_of (C1.out _))))
          refine wpQuiet_nil ?_
          rintro _ ⟨⟨d, os⟩, rfl⟩
          have B3 : Hid (Below w.heap.size w (grow (redrawn X d) os)) := (B2.out.trans (BX.out.mono B2.out.size)).trans ((below_regrown X d os).mono (B2.out.trans (BX.out.mono B2.out.size)).size)
          go_wp2
          go_roundg gg
          case measure => omega
          case rel => exact ⟨k + 1, by go_num, by omega, B3⟩
        · obtain rfl : k = 40 := by omega
          have hkl' : ¬ ((Nj + 40 : Nat) : Int) < ((Nj + 40 : Nat) : Int) := by omega
          obtain ⟨gg, hgg⟩ : ∃ gg, gj = gg + 1 := ⟨gj - 1, by omega⟩
          go_wp2
          go_roundg gg
          case measure => omega
          case rel => exact ⟨j + 1, by go_num, by omega, B2⟩
    · obtain rfl : j = m := by omega
      have hlt' : ¬ (j : Int) < j := by omega
      go_wp2
      go_ret
      exact ⟨rfl, B1.out⟩
end Go.Proofs.YtcoccggimbficaaGreatDoor
