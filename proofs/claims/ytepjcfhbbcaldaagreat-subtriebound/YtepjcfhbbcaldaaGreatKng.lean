import Derived.Test.YtepjcfhbbcaldaaGreatKnc
import Derived.Test.YtepjcfhbbcaldaaGreatKma
namespace Go.Proofs.YtepjcfhbbcaldaaGreat.Li
open Go Go.RowKit
set_option linter.unusedSimpArgs false
set_option linter.unusedVariables false
variable {w0 w : World} {tb m r P : Nat} {nf nn : Int} {T : List Fn}
set_option maxRecDepth 100000 in
theorem nodes_tm (h : TM w tb m r nf nn T) : Calls Tryz.prog 12 #[ptr tb] w fun e w' => e = .returned (.int .i64 nn) ∧ w' = w := by
  have c := box_cells h.tr 3 _ rfl
  unfold ptr
  clear h
  go_enter Tryz.func12, Tryz.ntmps12
  go_wp2_with fail
  go_ret
  exact ⟨rfl, rfl⟩
set_option maxRecDepth 100000 in
theorem len_tm (h : TM w tb m r nf nn T) : Calls Tryz.prog 13 #[ptr tb] w fun e w' => e = .returned (.int .i64 nf) ∧ w' = w := by
  have c := box_cells h.tr 2 _ rfl
  unfold ptr
  clear h
  go_enter Tryz.func13, Tryz.ntmps13
  go_wp2_with fail
  go_ret
  exact ⟨rfl, rfl⟩
theorem set_back {w wp : World} {T : List Fn} {f : Fn} {u : V3} {V : Nat → Prop} (sr : ShR (w.alloc (.cells #[.slice none 0 0, .bool false, .slice none 0 0, .slice none 0 0] 49)) wp T f u V) :
    ∃ z0 z1 z2 z3, wp.heap[w.heap.size]? = some (.cells #[z0, z1, z2, z3] 49 (0, 0)) ∧ ((((wp.setCell ⟨w.heap.size, 0, none⟩ u.1).setCell ⟨w.heap.size, 1, none⟩ (.bool false)).setCell ⟨w.heap.size, 2, none⟩ u.2.1).setCell ⟨w.heap.size, 3, none⟩ u.2.2).heap[w.heap.size]? = some (.cells #[u.1, .bool false, u.2.1, u.2.2] 49 (0, 0)) ∧ ShR w ((((wp.setCell ⟨w.heap.size, 0, none⟩ u.1).setCell ⟨w.heap.size, 1, none⟩ (.bool false)).setCell ⟨w.heap.size, 2, none⟩ u.2.1).setCell ⟨w.heap.size, 3, none⟩ u.2.2) T f u V := by
  have ba := (Below.refl w.heap.size w).alloc (Nat.le_refl _) (.cells #[.slice none 0 0, .bool false, .slice none 0 0, .slice none 0 0] 49)
  have hz : wp.heap[w.heap.size]? = some (.cells #[.slice none 0 0, .bool false, .slice none 0 0, .slice none 0 0] 49 (0, 0)) := (sr.be.block _ (by simp)).trans (heap_alloc_new _ _)
  have bb := ba.trans (sr.be.mono ba.size)
  have cc : Ch (fun j => j = w.heap.size) wp ((((wp.setCell ⟨w.heap.size, 0, none⟩ u.1).setCell ⟨w.heap.size, 1, none⟩ (.bool false)).setCell ⟨w.heap.size, 2, none⟩ u.2.1).setCell ⟨w.heap.size, 3, none⟩ u.2.2) := (((ch_set _ _ _).then (ch_set _ _ _)).then (ch_set _ _ _)).then (ch_set _ _ _)
  have vg : ∀ k, V k → w.heap.size < k := fun k hk => by have := (sr.vc k hk).1; simp at this; omega
  have blk : ∀ k, V k → ((((wp.setCell ⟨w.heap.size, 0, none⟩ u.1).setCell ⟨w.heap.size, 1, none⟩ (.bool false)).setCell ⟨w.heap.size, 2, none⟩ u.2.1).setCell ⟨w.heap.size, 3, none⟩ u.2.2).heap[k]? = wp.heap[k]? := fun k hk => cc.block k (sr.vc.lt hk) (fun e => by have := vg k hk; omega)
  refine ⟨_, _, _, _, hz, ?_, ⟨sr.sh.keep blk (fun _ e => e), fun k hk => ⟨by have := vg k hk; omega, (sr.vc.keep blk k hk).2⟩, ⟨cc.os.trans bb.os, cc.tape.trans bb.tape, cc.output.trans bb.output, Nat.le_trans bb.size cc.size, fun k hk => (cc.block k (by have := bb.size; omega) (by omega)).trans (bb.block k hk)⟩⟩⟩
  rw [heap_set (heap_set (heap_set (heap_set hz u.1) (.bool false)) u.2.1) u.2.2]
  rfl
set_option maxRecDepth 100000 in
set_option maxHeartbeats 4000000 in
/-- SHAPE of a trie. -/
theorem Shape_any (h : TM w tb m r nf nn T) (hl : T.length ≤ 900000) (few : ∀ g ∈ T, g.ne ≤ 100000) : Calls Tryz.prog 18 #[ptr tb] w fun e w' => ∃ f u V, f ∈ T ∧ f.s.A = [] ∧ e = .returned (.agg #[u.1, .bool false, u.2.1, u.2.2]) ∧ ShR w w' T f u V := by
  obtain ⟨rf, hrf, rA, rp⟩ := h.rt
  have ba := (Below.refl w.heap.size w).alloc (Nat.le_refl _) (.cells #[.slice none 0 0, .bool false, .slice none 0 0, .slice none 0 0] 49)
  have SH := hidi (shape_any hl few 65537 (w.alloc (.cells #[.slice none 0 0, .bool false, .slice none 0 0, .slice none 0 0] 49)) rf (h.below ba) hrf (by omega))
  have c0 : (w.alloc (.cells #[.slice none 0 0, .bool false, .slice none 0 0, .slice none 0 0] 49)).cell? ⟨tb, 0, none⟩ = some (ptr r) := box_cells (h.below ba).tr 0 _ rfl
  rw [rp] at SH
  have HF := hidi (And.intro hrf rA)
  unfold ptr at *
  clear h hl few hrf rA rp ba
  go_enter Tryz.func18, Tryz.ntmps18
  go_wp2_with (go_at_call 30; refine SH.out.mono ?_; rintro e wp ⟨u, V, rfl, sr⟩; obtain ⟨a1, n1, k1, a2, n2, k2, a3, n3, k3, rfl⟩ := sr.sh.form; obtain ⟨z0, z1, z2, z3, q1, q2, q3⟩ := set_back sr; have j0 := box_cells q1 0 _ rfl; have j1 := box_cells q1 1 _ rfl; have j2 := box_cells q1 2 _ rfl; have j3 := box_cells q1 3 _ rfl; have l0 := box_frozen q1 0; have l1 := box_frozen q1 1; have l2 := box_frozen q1 2; have l3 := box_frozen q1 3; have Q2 := hidi q2; have Q3 := hidi q3; clear sr q1 q2 q3 c0 SH)
  exact bodyPost_ret (results_cell_row rfl _ _ w.heap.size 49 _ (0, 0) _ rfl Q2.out Tryz.underlying49 rfl (by kernel_rfl)) rfl ⟨rf, (.slice a1 n1 k1, .slice a2 n2 k2, .slice a3 n3 k3), V, HF.out.1, HF.out.2, rfl, Q3.out⟩
/-! ### rows of entries that are the same -/
abbrev En := ByteArray × Int
def er (L : List En) : List PV := L.map fun e => (e.1, .int .i64 e.2)
theorem er_len (L : List En) : (er L).length = L.length := by simp [er]
theorem eL_er (f : ByteArray → Option Int) (L : List ByteArray) : eL f L = er (L.map fun y => (y, (f y).getD 0)) := by simp [eL, er, Function.comp_def]
set_option maxRecDepth 100000 in
set_option maxHeartbeats 2000000 in
theorem same_big {w : World} {ga gb ca cb n : Nat} {xs : List En} (hn : n = xs.length) (hm : n ≤ 900000) (ha : ∀ i (hi : i < xs.length), w.cell? ⟨ga, i * 2, none⟩ = some (.string xs[i].1) ∧ w.cell? ⟨ga, i * 2 + 1, none⟩ = some (.int .i64 xs[i].2)) (hb : ∀ i (hi : i < xs.length), w.cell? ⟨gb, i * 2, none⟩ = some (.string xs[i].1) ∧ w.cell? ⟨gb, i * 2 + 1, none⟩ = some (.int .i64 xs[i].2)) :
    Calls Tryz.prog 16 #[.slice (some ⟨ga, 0, none⟩) n ca, .slice (some ⟨gb, 0, none⟩) n cb] w fun e w' => e = .returned (.bool true) ∧ Below w.heap.size w w' := by
  have HA := hidi (And.intro ha (And.intro hb (And.intro hn hm)))
  clear ha hb hn hm
  go_enter Tryz.func16, Tryz.ntmps16
  go_wp2_with fail
  go_loopg [5] n (fun gk s5 wx => ∃ i : Nat, i + gk = n ∧ s5 = .int .i64 i ∧ Hid (Below w.heap.size w wx))
  case atStart => exact ⟨0, by omega, rfl, Below.refl _ _⟩
  case round =>
    obtain ⟨i, hi, rfl, HI⟩ := hrel
    by_cases hin : i < n
    · have hlt : (i : Int) < (n : Int) := by omega
      have hge : (0 : Int) ≤ (i : Int) := by omega
      obtain ⟨ha, hb, hn, hm⟩ := HA.out
      have hil : i < xs.length := by omega
      have hw1 : IntKind.i64.wrap ((i : Int) + 1) = (i : Int) + 1 := by rw [IntKind.wrap_i64]; omega
      obtain ⟨x, hx⟩ : ∃ x, x = xs[i] := ⟨_, rfl⟩
      have t0 := (ha i hil).1
      have t1 := (ha i hil).2
      have u0 := (hb i hil).1
      have u1 := (hb i hil).2
      rw [← hx] at t0 t1 u0 u1
      have d0 := (HI.out.cell (p := ⟨ga, i * 2, none⟩) (World.block_lt_of_cell? _ _ t0)).trans t0
      have d1 := (HI.out.cell (p := ⟨ga, i * 2 + 1, none⟩) (World.block_lt_of_cell? _ _ t1)).trans t1
      have d2 := (HI.out.cell (p := ⟨gb, i * 2, none⟩) (World.block_lt_of_cell? _ _ u0)).trans u0
      have d3 := (HI.out.cell (p := ⟨gb, i * 2 + 1, none⟩) (World.block_lt_of_cell? _ _ u1)).trans u1
      clear hx ha hb hn hm t0 t1 u0 u1
      obtain ⟨x1, x2⟩ := x
      simp only at d0 d1 d2 d3
      have hqq : (x2 != x2) = false := by simp
      have hxx : (x1.toList == x1.toList) = true := by simp
      go_wp2_with fail
      go_quiet (fail)
      have HB1 := hidi (below_drewN HI.out (m := nq))
      go_wp2_with fail
      go_roundg (n - (i + 1))
      case measure => omega
      case rel => exact ⟨i + 1, by omega, by first | rfl | simp, HB1.out⟩
    · have hlt : ¬ (i : Int) < (n : Int) := by omega
      go_wp2_with fail
      go_ret
      exact ⟨rfl, HI.out⟩
set_option maxRecDepth 100000 in
theorem same_none {w : World} {a b : Option Addr} {ca cb : Nat} : Calls Tryz.prog 16 #[.slice a 0 ca, .slice b 0 cb] w fun e w' => e = .returned (.bool true) ∧ Below w.heap.size w w' := by
  go_enter Tryz.func16, Tryz.ntmps16
  go_wp2_with fail
  go_loopg [5] 0 (fun gk s5 wx => s5 = .int .i64 0 ∧ wx = w)
  case atStart => exact ⟨rfl, rfl⟩
  case round =>
    obtain ⟨rfl, rfl⟩ := hrel
    go_wp2_with fail
    go_ret
    exact ⟨rfl, Below.refl _ _⟩
theorem ecell {w : World} {B : Nat} {v : Value} {R : List En} (h : w.ownsRow B 45 2 v R.length (prow (er R))) (h0 : 0 < R.length) : ∃ g c, v = .slice (some ⟨g, 0, none⟩) R.length c ∧ ∀ i (hi : i < R.length), w.cell? ⟨g, i * 2, none⟩ = some (.string R[i].1) ∧ w.cell? ⟨g, i * 2 + 1, none⟩ = some (.int .i64 R[i].2) := by
  have e := er_len R
  rw [← e] at h
  obtain ⟨g, c, hv, _, hc⟩ := prow_cell (j := 0) h (by omega)
  rw [e] at hv
  refine ⟨g, c, hv, fun i hi => ?_⟩
  have := hc i (by omega)
  simpa [er] using this
theorem sameE_any {w : World} {B B' : Nat} {v v' : Value} {R : List En} (h : w.ownsRow B 45 2 v R.length (prow (er R))) (h' : w.ownsRow B' 45 2 v' R.length (prow (er R))) (hl : R.length ≤ 900000) :
    Calls Tryz.prog 16 #[v, v'] w fun e w' => e = .returned (.bool true) ∧ Below w.heap.size w w' := by
  by_cases h0 : R.length = 0
  · obtain ⟨a, c, rfl⟩ := own_sl h
    obtain ⟨a', c', rfl⟩ := own_sl h'
    rw [h0]
    exact same_none
  · obtain ⟨g, c, rfl, hc⟩ := ecell h (by omega)
    obtain ⟨g', c', rfl, hc'⟩ := ecell h' (by omega)
    exact same_big rfl hl hc hc'
end Go.Proofs.YtepjcfhbbcaldaaGreat.Li
namespace Go.Proofs.YtepjcfhbbcaldaaGreat.Li
open Go Go.RowKit
set_option linter.unusedSimpArgs false
set_option linter.unusedVariables false
/-! ### a trie that holds what a list says -/
abbrev Dl := List (List ByteArray × ByteArray × Int)
structure KT (w0 w : World) (tb m r : Nat) (D : Dl) : Prop where
  ex : ∃ T nf, TM w tb m r nf (T.length : Int) T ∧ Bs 100 nf T ∧ (∀ F y z, HasE T F y z ↔ (F, y, z) ∈ D) ∧ ∀ j, isT tb T j → w0.heap.size ≤ j
  be : Below w0.heap.size w0 w
variable {w0 w w1 : World} {tb m r P : Nat} {D : Dl} {T : List Fn} {nf : Int}
theorem KT.below (h : KT w0 w tb m r D) (hb : Below w.heap.size w w1) : KT w0 w1 tb m r D := by
  obtain ⟨⟨T, nf, a, b, c, d⟩, e⟩ := h
  exact ⟨⟨T, nf, a.below hb, b, c, d⟩, e.trans (hb.mono e.size)⟩
theorem KT.of_ld {E : Held} (h : LdR w0 w tb m r P E) (hP : P ≤ 100) (hD : ∀ F y z, E F y z ↔ (F, y, z) ∈ D) (ok : ∀ e ∈ D, okT e.2.1) : KT w0 w tb m r D := by
  obtain ⟨⟨T, nf, t, hE, is⟩, be⟩ := h
  refine ⟨⟨T, nf, t.tm, ⟨fun f hf => ?_, t.cn, fun f hf => by have := t.few f hf; omega, fun F y z c => ok (F, y, z) ((hD F y z).1 ((hE F y z).1 c)), ?_⟩, fun F y z => (hE F y z).trans (hD F y z), is⟩, be⟩
  · rcases t.frm f hf with c | c | c
    · exact .inl c
    · exact .inr (.inl c)
    · exact .inr (.inr (.inl c))
  · have := t.cnt; have := t.nP; omega
/-- Which nodes have entries. -/
theorem ne_iff (h : TM w tb m r nf (T.length : Int) T) (b : Bs 100 nf T) (hD : ∀ F y z, HasE T F y z ↔ (F, y, z) ∈ D) (F : List ByteArray) : (∃ f ∈ T, f.s.A = F ∧ 0 < f.ne) ↔ F ∈ D.map (·.1) := by
  rw [List.mem_map]
  constructor
  · rintro ⟨f, hf, rfl, h0⟩
    obtain ⟨y, oy, s⟩ := (h.nd f hf).ev.some_ h0
    cases e : f.en y with
    | none => rw [e] at s; cases s
    | some z => exact ⟨_, (hD _ _ _).1 ⟨f, hf, rfl, e⟩, rfl⟩
  · rintro ⟨⟨F, y, z⟩, hm, rfl⟩
    obtain ⟨f, hf, e1, e2⟩ := (hD _ _ _).2 hm
    refine ⟨f, hf, e1, ?_⟩
    obtain ⟨K, k1, k2, k3⟩ := (h.nd f hf).ev.keys
    have := List.length_pos_of_mem ((k3 y).2 ⟨b.ok F y z ⟨f, hf, e1, e2⟩, by show ((f.en y).map _).isSome = true; rw [e2]; rfl⟩)
    omega
theorem len_of {α : Type} [DecidableEq α] {X Y : List α} (hX : X.Nodup) (hY : Y.Nodup) (h : ∀ a, a ∈ X ↔ a ∈ Y) : X.length = Y.length :=
  Nat.le_antisymm (nodup_le X Y hX (fun a ha => (h a).1 ha)) (nodup_le Y X hY (fun a ha => (h a).2 ha))
def lcps (D : Dl) : List (List ByteArray) := [] :: D.flatMap fun e => D.map fun e' => lcp e.1 e'.1
/-- Which nodes there are. -/
theorem at_iff (h : TM w tb m r nf (T.length : Int) T) (b : Bs 100 nf T) (hD : ∀ F y z, HasE T F y z ↔ (F, y, z) ∈ D) (A : List ByteArray) : (∃ f ∈ T, f.s.A = A) ↔ A ∈ lcps D := by
  rw [nodes_iff h b.frm A]
  unfold lcps
  rw [List.mem_cons, List.mem_flatMap]
  refine or_congr Iff.rfl ⟨?_, ?_⟩
  · rintro ⟨f, hf, g, hg, f0, g0, rfl⟩
    obtain ⟨e, he, q⟩ := List.mem_map.1 ((ne_iff h b hD f.s.A).1 ⟨f, hf, rfl, f0⟩)
    obtain ⟨e', he', q'⟩ := List.mem_map.1 ((ne_iff h b hD g.s.A).1 ⟨g, hg, rfl, g0⟩)
    exact ⟨e, he, List.mem_map.2 ⟨e', he', by rw [q, q']⟩⟩
  · rintro ⟨e, he, q⟩
    obtain ⟨e', he', q⟩ := List.mem_map.1 q
    obtain ⟨f, hf, f1, f0⟩ := (ne_iff h b hD e.1).2 (List.mem_map_of_mem he)
    obtain ⟨g, hg, g1, g0⟩ := (ne_iff h b hD e'.1).2 (List.mem_map_of_mem he')
    exact ⟨f, hf, g, hg, f0, g0, by rw [f1, g1, q]⟩
theorem KT.nodes (h : KT w0 w tb m r D) (hb : Below w.heap.size w w1) {X : List (List ByteArray)} (n : Int) (hn : X.Nodup) (hX : (∀ A ∈ X, A ∈ lcps D) ∧ ∀ A ∈ lcps D, A ∈ X) (hl : (X.length : Int) = n) : Calls Tryz.prog 12 #[ptr tb] w1 fun e w' => e = .returned (.int .i64 n) ∧ w' = w1 := by
  obtain ⟨⟨T, nf, a, b, c, d⟩, be⟩ := h.below hb
  have := nodes_len a hn (fun A => ⟨fun q => (at_iff a b c A).2 (hX.1 A q), fun q => hX.2 A ((at_iff a b c A).1 q)⟩)
  have q := nodes_tm a
  rw [this, hl] at q
  exact q
theorem KT.len (h : KT w0 w tb m r D) (hb : Below w.heap.size w w1) {X : List (List ByteArray)} (n : Int) (hn : X.Nodup) (hX : (∀ A ∈ X, A ∈ D.map (·.1)) ∧ ∀ A ∈ D.map (·.1), A ∈ X) (hl : (X.length : Int) = n) : Calls Tryz.prog 13 #[ptr tb] w1 fun e w' => e = .returned (.int .i64 n) ∧ w' = w1 := by
  obtain ⟨⟨T, nf, a, b, c, d⟩, be⟩ := h.below hb
  obtain ⟨Fs, f1, f2, f3⟩ := b.cn
  have := len_of f1 hn (fun F => ((f2 F).trans (ne_iff a b c F)).trans ⟨hX.2 F, hX.1 F⟩)
  have q := len_tm a
  rw [f3, this, hl] at q
  exact q
theorem TM.not31 {nn : Int} (h : TM w tb m r nf nn T) {k : Nat} {cs : Array Value} (e : w.heap[k]? = some (Obj.cells cs 45 (0, 0))) : ¬ isT tb T k := by
  rintro (rfl | ⟨f, hf, rfl | q | q⟩)
  · rw [h.tr] at e; cases e
  · rw [(h.nd f hf).at_] at e; cases e
  · obtain ⟨es, c, q⟩ := (h.nd f hf).ev.block q
    rw [q] at e; cases e
  · obtain ⟨nk, kd, _, hm, _⟩ := (h.nd f hf).kv
    obtain ⟨es, c, q⟩ := hm.block q
    rw [q] at e; cases e
theorem KT.drop {f x : ByteArray} {q : Int} (h : KT w0 w tb m r D) (hb : Below w.heap.size w w1) (hq : (levels f, x, q) ∈ D) (hfs : f.size ≤ 1000000) :
    Calls Tryz.prog 9 #[ptr tb, .string f, .string x] w1 fun e w' => e = .returned (.bool true) ∧ KT w0 w' tb m r (D.filter fun e => !(decide (e.1 = levels f) && decide (e.2.1 = x))) ∧ ∀ v n xs, w1.ownsRow 0 45 2 v n xs → w'.ownsRow 0 45 2 v n xs := by
  obtain ⟨⟨T, nf, a, b, c, d⟩, be⟩ := h.below hb
  refine (drop_yes a b (by omega) hfs ((c _ _ _).2 hq)).mono ?_
  rintro e w' ⟨rfl, ⟨T', nf', t, qs⟩, ch⟩
  refine ⟨rfl, ⟨⟨T', nf', t, ⟨qs.frm, qs.cn, qs.few, fun F y z k => qs.ok F y z ((qs.has F y z).1 k).1, by have := qs.le; have := b.len; omega⟩, fun F y z => ?_, fun j k => d j (qs.is j k)⟩, ⟨ch.os.trans be.os, ch.tape.trans be.tape, ch.output.trans be.output, Nat.le_trans be.size ch.size, fun k hk => (ch.block k (Nat.lt_of_lt_of_le hk be.size) (fun j => by have := d k j; omega)).trans (be.block k hk)⟩⟩, fun v n xs o => own_ch o ch (fun g e => by obtain ⟨cur, q⟩ := own_lt o e; exact a.not31 q)⟩
  rw [qs.has, c, List.mem_filter]
  refine and_congr Iff.rfl ?_
  by_cases e1 : F = levels f <;> by_cases e2 : y = x <;> simp [e1, e2]
theorem ks_one {f : ByteArray → Option Value} {n : Nat} {L : List ByteArray} {x : ByteArray} (ks : KsOf f n L) (h : ∀ y, (okT y ∧ (f y).isSome = true) ↔ y = x) : L = [x] := by
  have mem : ∀ y, y ∈ L ↔ y = x := fun y => (ks.mem y).trans (h y)
  cases L with
  | nil => have := (mem x).2 rfl; cases this
  | cons a L =>
    have ha := (mem a).1 List.mem_cons_self
    cases L with
    | nil => rw [ha]
    | cons b L =>
      have hb := (mem b).1 (List.mem_cons_of_mem _ List.mem_cons_self)
      have := (List.pairwise_cons.1 ks.ord).1 b List.mem_cons_self
      rw [ha, hb] at this
      exact absurd this (List.lt_irrefl _)
theorem ks_zero {f : ByteArray → Option Value} {n : Nat} {L : List ByteArray} (ks : KsOf f n L) (h : ∀ y, okT y → f y = none) : L = [] := by
  cases L with
  | nil => rfl
  | cons a L =>
    have := (ks.mem a).1 List.mem_cons_self
    rw [h a this.1] at this
    cases this.2
/-- What is found by a topic, told by the list. -/
def FdD (D : Dl) (t : ByteArray) (y : ByteArray) (z : Int) : Prop := tcode t = 0 ∧ ∃ F, (F, y, z) ∈ D ∧ ¬ (atB t 0 = 36 ∧ hd0 (F.map unB) = true) ∧ mt (F.map unB) ((levels t).map unB) = true
theorem KT.find_one {t x : ByteArray} {q : Int} (h : KT w0 w tb m r D) (hb : Below w.heap.size w w1) (hh : ∀ e ∈ D, ∀ u ∈ e.1, unB u ≠ [35]) (h0 : ∀ e ∈ D, 0 ≤ e.2.2) (hl : D.length ≤ 100) (hx : okT x) (hF : ∀ y z, FdD D t y z ↔ y = x ∧ z = q) :
    Calls Tryz.prog 15 #[ptr tb, .string t] w1 fun e w' => ∃ v, e = .returned v ∧ w'.ownsRow 0 45 2 v 1 (prow (er [(x, q)])) ∧ Below w1.heap.size w1 w' := by
  obtain ⟨⟨T, nf, a, b, c, d⟩, be⟩ := h.below hb
  have gc : GC T (D.map (·.2.1)) := by
    refine ⟨fun f hf i u hi hu => ?_, fun f hf y z e => ?_, by rw [List.length_map]; omega⟩
    · by_cases e0 : f.s.A = []
      · rw [e0] at hi; simp at hi
      · have frm : ∀ f ∈ T, f.s.A = [] ∨ 0 < f.ne ∨ Fork T f.s.A := fun f hf => by
          rcases b.frm f hf with c | c | c | c
          · exact .inl c
          · exact .inr (.inl c)
          · exact .inr (.inr c)
          · exact .inl (List.prefix_nil.1 c)
        obtain ⟨g, hg, p, g0⟩ := leads (fun f hf => (a.ok f hf).2) frm 65537 f hf (by omega) e0
        obtain ⟨e, he, ee⟩ := List.mem_map.1 ((ne_iff a b c g.s.A).1 ⟨g, hg, rfl, g0⟩)
        refine absurd hu (hh e he u ?_)
        rw [ee]
        exact p.subset (List.mem_of_getElem? hi)
    · have hm := (c f.s.A y z).1 ⟨f, hf, rfl, e⟩
      exact ⟨List.mem_map.2 ⟨_, hm, rfl⟩, b.ok _ _ _ ⟨f, hf, rfl, e⟩, h0 _ hm⟩
  have fd : ∀ y z, Fd T t y z ↔ y = x ∧ z = q := fun y z => by
    rw [← hF y z]
    unfold Fd FdD
    refine and_congr Iff.rfl ⟨?_, ?_⟩
    · rintro ⟨g, hg, g1, g2, g3⟩
      exact ⟨g.s.A, (c _ _ _).1 ⟨g, hg, rfl, g3⟩, g1, g2⟩
    · rintro ⟨F, hm, g1, g2⟩
      obtain ⟨g, hg, rfl, g3⟩ := (c _ _ _).2 hm
      exact ⟨g, hg, g1, g2, g3⟩
  refine (Find_any a gc t).mono ?_
  rintro e w' ⟨v, rfl, g, n, L, fr⟩
  have gx : g x = some q := by
    have := fr.bs x hx
    cases e : g x with
    | none => rw [e] at this; exact absurd ((fd x q).2 ⟨rfl, rfl⟩) (this q)
    | some z => rw [e] at this; rw [((fd x z).1 this.1).2]
  have L1 : L = [x] := ks_one fr.ks (fun y => by
    constructor
    · rintro ⟨oy, s⟩
      have := fr.bs y oy
      cases e : g y with
      | none => rw [e] at s; cases s
      | some z => rw [e] at this; exact ((fd y z).1 this.1).1
    · rintro rfl
      exact ⟨hx, by rw [gx]; rfl⟩)
  refine ⟨v, rfl, ?_, fr.be⟩
  have := own0 fr.row
  rw [eL_er, L1] at this
  simpa [gx] using this
theorem KT.of_one {f x : ByteArray} {q : Int} (h : KT w0 w tb m r D) (hb : Below w.heap.size w w1) (hfs : f.size ≤ 1000000) (hx : okT x) (hF : ∀ y z, (levels f, y, z) ∈ D ↔ y = x ∧ z = q) :
    Calls Tryz.prog 17 #[ptr tb, .string f] w1 fun e w' => ∃ v, e = .returned v ∧ w'.ownsRow 0 45 2 v 1 (prow (er [(x, q)])) ∧ Below w1.heap.size w1 w' := by
  obtain ⟨⟨T, nf, a, b, c, d⟩, be⟩ := h.below hb
  refine (of_any (f := f) a hfs (fun g hg => by have := b.few g hg; omega)).mono ?_
  rintro e w' ⟨v, rfl, en, n, L, o⟩
  have enx : ∀ y z, en y = some z ↔ y = x ∧ z = q := fun y z => by
    rw [← hF y z, ← c]
    rcases o.at_ with ⟨g, hg, g1, rfl, _⟩ | ⟨no, _, rfl⟩
    · exact ⟨fun k => ⟨g, hg, g1, k⟩, fun ⟨g', hg', g1', k⟩ => by obtain rfl := a.same hg' hg (g1'.trans g1.symm); exact k⟩
    · exact ⟨fun k => (by cases k), fun ⟨g', hg', g1', k⟩ => absurd g1' (no g' hg')⟩
  have L1 : L = [x] := ks_one o.ks (fun y => by
    constructor
    · rintro ⟨oy, s⟩
      cases e : en y with
      | none => rw [e] at s; cases s
      | some z => exact ((enx y z).1 e).1
    · rintro rfl
      exact ⟨hx, by rw [(enx y q).2 ⟨rfl, rfl⟩]; rfl⟩)
  refine ⟨v, rfl, ?_, o.be⟩
  have := own0 o.row
  rw [eL_er, L1] at this
  simpa [(enx x q).2 ⟨rfl, rfl⟩] using this
theorem KT.of_none {f : ByteArray} (h : KT w0 w tb m r D) (hb : Below w.heap.size w w1) (hfs : f.size ≤ 1000000) (hF : ∀ e ∈ D, e.1 ≠ levels f) :
    Calls Tryz.prog 17 #[ptr tb, .string f] w1 fun e w' => ∃ a c, e = .returned (.slice a 0 c) ∧ Below w1.heap.size w1 w' := by
  obtain ⟨⟨T, nf, a, b, c, d⟩, be⟩ := h.below hb
  refine (of_any (f := f) a hfs (fun g hg => by have := b.few g hg; omega)).mono ?_
  rintro e w' ⟨v, rfl, en, n, L, o⟩
  have L1 : L = [] := ks_zero o.ks (fun y oy => by
    cases e : en y with
    | none => rfl
    | some z =>
      rcases o.at_ with ⟨g, hg, g1, rfl, _⟩ | ⟨no, _, rfl⟩
      · exact absurd g1 (hF _ ((c _ _ _).1 ⟨g, hg, rfl, e⟩))
      · cases e)
  have := o.row
  rw [L1] at this
  obtain ⟨ad, cp, rfl⟩ := own_sl this
  exact ⟨_, _, rfl, o.be⟩
theorem KT.shape_one (h : KT w0 w tb m r D) (hb : Below w.heap.size w w1) {F : List ByteArray} (hF : F ≠ []) (hX : (∀ A ∈ [[], F], A ∈ lcps D) ∧ ∀ A ∈ lcps D, A ∈ [[], F]) :
    Calls Tryz.prog 18 #[ptr tb] w1 fun e w' => ∃ a b k c, e = .returned (.agg #[a, .bool false, b, .slice k 1 c]) ∧ Below w1.heap.size w1 w' := by
  obtain ⟨⟨T, nf, a, b, c, d⟩, be⟩ := h.below hb
  refine (Shape_any a (by have := b.len; omega) (fun g hg => by have := b.few g hg; omega)).mono ?_
  rintro e w' ⟨f, u, V, hf, f0, rfl, sr⟩
  have at_ : ∀ A, (∃ f ∈ T, f.s.A = A) ↔ A = [] ∨ A = F := fun A => (at_iff a b c A).trans ⟨fun q => by simpa using hX.2 A q, fun q => hX.1 A (by simpa using q)⟩
  have sh := sr.sh
  have be' := sr.be
  obtain ⟨u1, u2, u3⟩ := u
  cases sh with
  | mk _ _ L K E vs lv lV en eV es ks len kd kV sub =>
    simp only at kd
    obtain ⟨ka, kc, rfl⟩ := own_sl kd
    have l1 : vs.length = 1 := by
      rw [len, ks.len]
      obtain ⟨g, hg, gA⟩ := (at_ F).2 (.inr rfl)
      have kg : Kid f.s g.s := by
        have gm : 0 < g.s.m := by
          rcases Nat.eq_zero_or_pos g.s.m with q | q
          · exact absurd (gA.symm.trans ((a.inv.le g.s (List.mem_map_of_mem hg)).2.2 q)) hF
          · exact q
        obtain ⟨p, hp, kp⟩ := a.inv.par g.s (List.mem_map_of_mem hg) gm
        obtain ⟨p', hp', rfl⟩ := List.mem_map.1 hp
        have lt := kp.lt (a.inv.le g.s (List.mem_map_of_mem hg)).1
        rcases (at_ p'.s.A).1 ⟨p', hp', rfl⟩ with q | q
        · obtain rfl := a.same hp' hf (q.trans f0.symm)
          exact kp
        · rw [q, gA] at lt; omega
      obtain ⟨i, x, i1, i2, i3⟩ := ks.all g hg kg
      have xs : ∀ y ∈ L, y = x := fun y hy => by
        obtain ⟨j, hj⟩ := List.getElem?_of_mem hy
        obtain ⟨q, q1, q2, q3⟩ := ks.at_ j y hj
        have lt := q3.2.1.lt (a.inv.le q.s (List.mem_map_of_mem q2)).1
        rcases (at_ q.s.A).1 ⟨q, q2, rfl⟩ with e | e
        · rw [e] at lt; simp at lt
        · obtain rfl := a.same q2 hg (e.trans gA.symm)
          have := q3.2.2
          rw [i3] at this
          cases this; rfl
      cases L with
      | nil => simp at i1
      | cons y L =>
        cases L with
        | nil => rfl
        | cons z L =>
          have e1 := xs y List.mem_cons_self
          have e2 := xs z (List.mem_cons_of_mem _ List.mem_cons_self)
          have := (List.pairwise_cons.1 ks.ord).1 z List.mem_cons_self
          rw [e1, e2] at this
          exact absurd this (List.lt_irrefl _)
    rw [l1]
    exact ⟨u1, u2, ka, kc, rfl, be'⟩
end Go.Proofs.YtepjcfhbbcaldaaGreat.Li
namespace Go.Proofs.YtepjcfhbbcaldaaGreat.Li
open Go Go.RowKit
set_option linter.unusedSimpArgs false
set_option linter.unusedVariables false
/-! ### the chapter's example -/
def fABC : ByteArray := ⟨#[97, 47, 98, 47, 99]⟩
def fABD : ByteArray := ⟨#[97, 47, 98, 47, 100]⟩
def fAB : ByteArray := ⟨#[97, 47, 98]⟩
def fA : ByteArray := ⟨#[97]⟩
def kX : ByteArray := ⟨#[120]⟩
def kY : ByteArray := ⟨#[121]⟩
def lA : ByteArray := ⟨#[97]⟩
def lB : ByteArray := ⟨#[98]⟩
def lC : ByteArray := ⟨#[99]⟩
def lD : ByteArray := ⟨#[100]⟩
theorem lv_abc : levels fABC = [lA, lB, lC] := by decide +kernel
theorem lv_abd : levels fABD = [lA, lB, lD] := by decide +kernel
theorem lv_ab : levels fAB = [lA, lB] := by decide +kernel
theorem lv_a : levels fA = [lA] := by decide +kernel
theorem rf_abc : rfc fABC = 0 := by decide +kernel
theorem rf_abd : rfc fABD = 0 := by decide +kernel
theorem rf_ab : rfc fAB = 0 := by decide +kernel
theorem tc_ab : tcode fAB = 0 := by decide +kernel
def mem3 (D : Dl) (e : List ByteArray × ByteArray × Int) : Bool := D.any fun e' => decide (e'.1 = e.1) && (decide (e'.2.1 = e.2.1) && decide (e'.2.2 = e.2.2))
theorem mem3_iff {D : Dl} {e : List ByteArray × ByteArray × Int} (h : mem3 D e = true) : e ∈ D := by
  unfold mem3 at h
  rw [List.any_eq_true] at h
  obtain ⟨⟨a, b, c⟩, he, q⟩ := h
  simp only [Bool.and_eq_true, decide_eq_true_eq] at q
  obtain ⟨rfl, rfl, rfl⟩ := q
  exact he
def memL (X Y : List (List ByteArray)) : Bool := Y.all fun A => X.any fun B => decide (B = A)
theorem memL_iff {X Y : List (List ByteArray)} (h : memL X Y = true) : ∀ A ∈ Y, A ∈ X := fun A hA => by
  unfold memL at h
  have := List.all_eq_true.1 h A hA
  rw [List.any_eq_true] at this
  obtain ⟨B, hB, q⟩ := this
  rw [← of_decide_eq_true q]
  exact hB
def dE (D : Dl) : Held := fun F y z => (F, y, z) ∈ D
def D1 : Dl := [([lA, lB, lC], kX, 1)]
def D2 : Dl := [([lA, lB, lD], kY, 2), ([lA, lB, lC], kX, 1)]
def D3 : Dl := [([lA, lB], kX, 0), ([lA, lB, lD], kY, 2), ([lA, lB, lC], kX, 1)]
def D4 : Dl := [([lA, lB], kX, 2), ([lA, lB, lD], kY, 2), ([lA, lB, lC], kX, 1)]
def D5 : Dl := [([lA, lB], kX, 2), ([lA, lB, lC], kX, 1)]
variable {w0 w w1 : World} {tb m r P : Nat} {D D' : Dl} {T : List Fn} {nf : Int} {f x : ByteArray} {F : List ByteArray} {q o0 : Int}
theorem put_dl (h : LdR w0 w tb m r P (dE D)) (hf : rfc f = 0) (lv : levels f = F) (hP : P < 100000) (hx : x.size ≤ 1000000) (q0 : 0 ≤ q) (q2 : q ≤ 2)
    (d1 : ∀ e ∈ D', (e.1 = F ∧ e.2.1 = x ∧ e.2.2 = q) ∨ (¬ (e.1 = F ∧ e.2.1 = x) ∧ mem3 D e = true)) (d2 : mem3 D' (F, x, q) = true) (d3 : ∀ e ∈ D, (e.1 = F ∧ e.2.1 = x) ∨ mem3 D' e = true)
    (o1 : ∀ e ∈ D, e.1 = F → e.2.1 = x → e.2.2 = o0) (o2 : (∃ e ∈ D, e.1 = F ∧ e.2.1 = x) ∨ o0 = -1) :
    Calls Tryz.prog 7 #[ptr tb, .string f, .string x, .int .i64 q] w fun e w' => e = .returned (.tuple #[.int .i64 o0, .int .i64 0]) ∧ LdR w0 w' tb m r (P + 1) (dE D') := by
  obtain ⟨⟨T, nf, t1, t2, t3⟩, be⟩ := h
  refine (put_right t1 hf hP hx q0 q2).mono ?_
  rintro e w' ⟨o, rfl, ⟨T', nf', u1, u2, u3⟩, old, ch⟩
  rw [lv] at u2 old
  have ho : o = o0 := by
    rcases old with c | ⟨rfl, c⟩
    · exact o1 _ ((t2 _ _ _).1 c) rfl rfl
    · rcases o2 with ⟨⟨F', y', z'⟩, he, e1, e2⟩ | e
      · simp only at e1 e2
        subst e1 e2
        exact absurd ((t2 _ _ _).2 he) (c z')
      · exact e.symm
  subst ho
  refine ⟨rfl, ⟨T', nf', u1, fun F' y z => ?_, fun j k => ?_⟩, ⟨ch.os.trans be.os, ch.tape.trans be.tape, ch.output.trans be.output, Nat.le_trans be.size ch.size, fun k hk => (ch.block k (Nat.lt_of_lt_of_le hk be.size) (fun j => by have := t3 k j; omega)).trans (be.block k hk)⟩⟩
  · rw [u2, t2]
    unfold dE
    constructor
    · rintro (⟨rfl, rfl, rfl⟩ | ⟨n, k⟩)
      · exact mem3_iff d2
      · exact mem3_iff ((d3 _ k).resolve_left n)
    · intro k
      exact (d1 _ k).imp id (fun q => ⟨q.1, mem3_iff q.2⟩)
  · rcases u3 j k with c | c
    · exact t3 j c
    · have := be.size; omega
theorem fd_dl {t : ByteArray} (ht : tcode t = 0) (a : ∀ e ∈ D, mt (e.1.map unB) ((levels t).map unB) = true → e.2.1 = x ∧ e.2.2 = q) (b : ∃ e ∈ D, e.2.1 = x ∧ e.2.2 = q ∧ ¬ (atB t 0 = 36 ∧ hd0 (e.1.map unB) = true) ∧ mt (e.1.map unB) ((levels t).map unB) = true) (y : ByteArray) (z : Int) : FdD D t y z ↔ y = x ∧ z = q := by
  constructor
  · rintro ⟨_, F, hm, _, hmt⟩
    exact a _ hm hmt
  · rintro ⟨rfl, rfl⟩
    obtain ⟨⟨F, y, z⟩, he, rfl, rfl, c, d⟩ := b
    exact ⟨ht, F, he, c, d⟩
theorem of_dl (a : ∀ e ∈ D, e.1 = F → e.2.1 = x ∧ e.2.2 = q) (b : mem3 D (F, x, q) = true) (y : ByteArray) (z : Int) : (F, y, z) ∈ D ↔ y = x ∧ z = q := ⟨fun h => a _ h rfl, by rintro ⟨rfl, rfl⟩; exact mem3_iff b⟩
theorem okx : okT kX := by unfold okT maxLen; decide
/-- All that known asks for. -/
theorem k1 (h : LdR w0 w tb m r 0 (dE [])) : Calls Tryz.prog 7 #[ptr tb, .string fABC, .string kX, .int .i64 1] w fun e w' => e = .returned (.tuple #[.int .i64 (-1), .int .i64 0]) ∧ LdR w0 w' tb m r 1 (dE D1) :=
  put_dl h rf_abc lv_abc (by decide) (by decide) (by decide) (by decide) (by decide +kernel) (by decide +kernel) (by decide +kernel) (by decide +kernel) (by decide +kernel)
theorem k2 (h : LdR w0 w tb m r 1 (dE D1)) : Calls Tryz.prog 7 #[ptr tb, .string fABD, .string kY, .int .i64 2] w fun e w' => e = .returned (.tuple #[.int .i64 (-1), .int .i64 0]) ∧ LdR w0 w' tb m r 2 (dE D2) :=
  put_dl h rf_abd lv_abd (by decide) (by decide) (by decide) (by decide) (by decide +kernel) (by decide +kernel) (by decide +kernel) (by decide +kernel) (by decide +kernel)
theorem k3 (h : LdR w0 w tb m r 2 (dE D2)) : Calls Tryz.prog 7 #[ptr tb, .string fAB, .string kX, .int .i64 0] w fun e w' => e = .returned (.tuple #[.int .i64 (-1), .int .i64 0]) ∧ LdR w0 w' tb m r 3 (dE D3) :=
  put_dl h rf_ab lv_ab (by decide) (by decide) (by decide) (by decide) (by decide +kernel) (by decide +kernel) (by decide +kernel) (by decide +kernel) (by decide +kernel)
theorem k4 (h : LdR w0 w tb m r 3 (dE D3)) : Calls Tryz.prog 7 #[ptr tb, .string fAB, .string kX, .int .i64 2] w fun e w' => e = .returned (.tuple #[.int .i64 0, .int .i64 0]) ∧ LdR w0 w' tb m r 4 (dE D4) :=
  put_dl h rf_ab lv_ab (by decide) (by decide) (by decide) (by decide) (by decide +kernel) (by decide +kernel) (by decide +kernel) (by decide +kernel) (by decide +kernel)
theorem kt_of {D : Dl} (h : LdR w0 w tb m r P (dE D)) (hP : P ≤ 100) (hD : ∀ e ∈ D, e.2.1.size ≤ 100) : KT w0 w tb m r D := KT.of_ld h hP (fun _ _ _ => Iff.rfl) (fun e he => by have := hD e he; unfold okT maxLen; omega)
theorem kn2 (h : LdR w0 w tb m r 2 (dE D2)) : Calls Tryz.prog 12 #[ptr tb] w fun e w' => e = .returned (.int .i64 4) ∧ w' = w :=
  (kt_of h (by decide) (by decide +kernel)).nodes (Below.refl _ _) (X := [[], [lA, lB], [lA, lB, lC], [lA, lB, lD]]) 4 (by decide +kernel) ⟨memL_iff (by decide +kernel), memL_iff (by decide +kernel)⟩ rfl
theorem kf4 (h : LdR w0 w tb m r 4 (dE D4)) : Calls Tryz.prog 15 #[ptr tb, .string fAB] w fun e w' => ∃ v, e = .returned v ∧ w'.ownsRow 0 45 2 v 1 (prow (er [(kX, 2)])) ∧ Below w.heap.size w w' :=
  (kt_of h (by decide) (by decide +kernel)).find_one (Below.refl _ _) (by decide +kernel) (by decide +kernel) (by decide) okx (fd_dl tc_ab (by decide +kernel) (by decide +kernel))
theorem ko4 (h : KT w0 w tb m r D4) : Calls Tryz.prog 17 #[ptr tb, .string fAB] w fun e w' => ∃ v, e = .returned v ∧ w'.ownsRow 0 45 2 v 1 (prow (er [(kX, 2)])) ∧ Below w.heap.size w w' :=
  h.of_one (Below.refl _ _) (by decide) okx (by rw [lv_ab]; exact of_dl (by decide +kernel) (by decide +kernel))
theorem kz4 (h : KT w0 w tb m r D4) : Calls Tryz.prog 17 #[ptr tb, .string fA] w fun e w' => ∃ a c, e = .returned (.slice a 0 c) ∧ Below w.heap.size w w' :=
  h.of_none (Below.refl _ _) (by decide) (by rw [lv_a]; decide +kernel)
theorem kl4 (h : KT w0 w tb m r D4) : Calls Tryz.prog 13 #[ptr tb] w fun e w' => e = .returned (.int .i64 3) ∧ w' = w :=
  h.len (Below.refl _ _) (X := [[lA, lB], [lA, lB, lC], [lA, lB, lD]]) 3 (by decide +kernel) ⟨memL_iff (by decide +kernel), memL_iff (by decide +kernel)⟩ rfl
theorem kd4 (h : KT w0 w tb m r D4) : Calls Tryz.prog 9 #[ptr tb, .string fABD, .string kY] w fun e w' => e = .returned (.bool true) ∧ KT w0 w' tb m r D5 ∧ ∀ v n xs, w.ownsRow 0 45 2 v n xs → w'.ownsRow 0 45 2 v n xs := by
  have := h.drop (f := fABD) (x := kY) (q := 2) (Below.refl _ _) (by rw [lv_abd]; exact mem3_iff (by decide +kernel)) (by decide)
  rw [lv_abd] at this
  exact this
theorem kn5 (h : KT w0 w tb m r D5) : Calls Tryz.prog 12 #[ptr tb] w fun e w' => e = .returned (.int .i64 3) ∧ w' = w :=
  h.nodes (Below.refl _ _) (X := [[], [lA, lB], [lA, lB, lC]]) 3 (by decide +kernel) ⟨memL_iff (by decide +kernel), memL_iff (by decide +kernel)⟩ rfl
theorem kd5 (h : KT w0 w tb m r D5) : Calls Tryz.prog 9 #[ptr tb, .string fAB, .string kX] w fun e w' => e = .returned (.bool true) ∧ KT w0 w' tb m r D1 ∧ ∀ v n xs, w.ownsRow 0 45 2 v n xs → w'.ownsRow 0 45 2 v n xs := by
  have := h.drop (f := fAB) (x := kX) (q := 2) (Below.refl _ _) (by rw [lv_ab]; exact mem3_iff (by decide +kernel)) (by decide)
  rw [lv_ab] at this
  exact this
theorem kn6 (h : KT w0 w tb m r D1) : Calls Tryz.prog 12 #[ptr tb] w fun e w' => e = .returned (.int .i64 2) ∧ w' = w :=
  h.nodes (Below.refl _ _) (X := [[], [lA, lB, lC]]) 2 (by decide +kernel) ⟨memL_iff (by decide +kernel), memL_iff (by decide +kernel)⟩ rfl
theorem ks6 (h : KT w0 w tb m r D1) : Calls Tryz.prog 18 #[ptr tb] w fun e w' => ∃ a b k c, e = .returned (.agg #[a, .bool false, b, .slice k 1 c]) ∧ Below w.heap.size w w' :=
  h.shape_one (Below.refl _ _) (F := [lA, lB, lC]) (by decide) ⟨memL_iff (by decide +kernel), memL_iff (by decide +kernel)⟩
end Go.Proofs.YtepjcfhbbcaldaaGreat.Li
namespace Go.Proofs.YtepjcfhbbcaldaaGreat.Li
open Go Go.RowKit
set_option linter.unusedSimpArgs false
set_option linter.unusedVariables false
variable {w0 w w1 : World} {tb m r P : Nat} {T : List Fn} {nf : Int}
theorem ld0 (t1 : TS w1 tb m r 0 0 T) (t2 : ∀ F y z, ¬ HasE T F y z) (t3 : ∀ j, isT tb T j → w.heap.size ≤ j) (t4 : Below w.heap.size w w1) : LdR w w1 tb m r 0 (dE []) :=
  ⟨⟨T, 0, t1, fun F y z => ⟨fun c => (t2 F y z c).elim, fun c => by cases c⟩, t3⟩, t4⟩
theorem nn0 (t1 : TS w1 tb m r 0 0 T) : Calls Tryz.prog 12 #[ptr tb] w1 fun e w' => e = .returned (.int .i64 1) ∧ w' = w1 := by
  have := nodes_any t1
  have o := t1.one
  have c := t1.cnt
  have p := t1.pos
  rw [show (T.length : Int) = 1 by omega] at this
  exact this
theorem en_lit (w : World) : (w.alloc (.cells #[.string kX, .int .i64 2] 45)).ownsRow 0 45 2 (.slice (some ⟨w.heap.size, 0, none⟩) 1 1) 1 (prow (er [(kX, 2)])) := World.ownsRow_lit w #[.string kX, .int .i64 2] 1 (Nat.zero_le _) (by decide) rfl
set_option maxRecDepth 100000 in
set_option maxHeartbeats 8000000 in
/-- KNOWN: the chapter's example. -/
theorem known_any (w : World) : Calls Tryz.prog 5 #[] w fun e w' => e = .returned (.bool true) ∧ Below w.heap.size w w' := by
  have NW := hidi (fun w => new_any w)
  have K1 := hidi (fun (w' : World) (tb m r : Nat) (h : LdR w w' tb m r 0 (dE [])) => k1 h)
  have K2 := hidi (fun (w' : World) (tb m r : Nat) (h : LdR w w' tb m r 1 (dE D1)) => k2 h)
  have N2 := hidi (fun (w' : World) (tb m r : Nat) (h : LdR w w' tb m r 2 (dE D2)) => kn2 h)
  have K3 := hidi (fun (w' : World) (tb m r : Nat) (h : LdR w w' tb m r 2 (dE D2)) => k3 h)
  have K4 := hidi (fun (w' : World) (tb m r : Nat) (h : LdR w w' tb m r 3 (dE D3)) => k4 h)
  have F4 := hidi (fun (w' : World) (tb m r : Nat) (h : LdR w w' tb m r 4 (dE D4)) => kf4 h)
  have T4 := hidi (fun (w' wx : World) (tb m r : Nat) (h : LdR w w' tb m r 4 (dE D4)) (hb : Below w'.heap.size w' wx) => (kt_of h (by decide) (by decide +kernel)).below hb)
  have O4 := hidi (fun (w' : World) (tb m r : Nat) (h : KT w w' tb m r D4) => ko4 h)
  have Z4 := hidi (fun (w' : World) (tb m r : Nat) (h : KT w w' tb m r D4) => kz4 h)
  have L4 := hidi (fun (w' : World) (tb m r : Nat) (h : KT w w' tb m r D4) => kl4 h)
  have X4 := hidi (fun (w' : World) (tb m r : Nat) (h : KT w w' tb m r D4) => kd4 h)
  have N5 := hidi (fun (w' : World) (tb m r : Nat) (h : KT w w' tb m r D5) => kn5 h)
  have X5 := hidi (fun (w' : World) (tb m r : Nat) (h : KT w w' tb m r D5) => kd5 h)
  have N6 := hidi (fun (w' : World) (tb m r : Nat) (h : KT w w' tb m r D1) => kn6 h)
  have S6 := hidi (fun (w' : World) (tb m r : Nat) (h : KT w w' tb m r D1) => ks6 h)
  have SE := hidi (fun (w' : World) (v v' : Value) (h : w'.ownsRow 0 45 2 v 1 (prow (er [(kX, 2)]))) (h' : w'.ownsRow 0 45 2 v' 1 (prow (er [(kX, 2)]))) => sameE_any (R := [(kX, 2)]) h h' (by decide))
  have EL := hidi en_lit
  have fl : ∀ (a b : Value) (k : Option Addr) (c : Nat) (w : World), (Instr.field 49 (.agg #[a, .bool false, b, .slice k 1 c]) 3).run Tryz.prog w = .ok (.slice k 1 c) w := fun a b k c w => by kernel_rfl
  unfold fABC fABD fAB fA kX kY ptr at *
  go_enter Tryz.func5, Tryz.ntmps5
  go_wp2_with (first
    | (go_at_call 14; refine (NW.out _).mono ?_; rintro e w1 ⟨tb, m, r, T0, rfl, t1, t2, t3, t4⟩; have S0 := hidi (ld0 t1 t2 t3 t4); have N0 := hidi (nn0 t1); clear t1 t2 t3 t4 NW; unfold ptr at N0)
    | (go_at_call 12; refine N0.out.mono ?_; rintro e w' ⟨rfl, he⟩; obtain rfl := he.symm; clear N0; have C1 := hidi (K1.out _ _ _ _ S0.out); clear S0 K1)
    | (go_at_call 7; refine C1.out.mono ?_; rintro e w2 ⟨rfl, h⟩; have C2 := hidi (K2.out _ _ _ _ h); clear h C1 K2)
    | (go_at_call 7; refine C2.out.mono ?_; rintro e w3 ⟨rfl, h⟩; have M2 := hidi (N2.out _ _ _ _ h); have C3 := hidi (K3.out _ _ _ _ h); clear h C2 K3 N2)
    | (go_at_call 12; refine M2.out.mono ?_; rintro e w' ⟨rfl, he⟩; obtain rfl := he.symm; clear M2)
    | (go_at_call 7; refine C3.out.mono ?_; rintro e w4 ⟨rfl, h⟩; have C4 := hidi (K4.out _ _ _ _ h); clear h C3 K4)
    | (go_at_call 7; refine C4.out.mono ?_; rintro e w5 ⟨rfl, h⟩; have G4 := hidi (F4.out _ _ _ _ h); have H4 := hidi h; clear h C4 F4)
    | (go_at_call 15; refine G4.out.mono ?_; rintro e w6 ⟨v, rfl, ho, hb⟩; obtain ⟨va, vc, rfl⟩ := own_sl ho; have U4 := hidi (T4.out _ _ _ _ _ H4.out hb); have OV := hidi ho; have C5 := hidi (O4.out _ _ _ _ U4.out); clear ho hb G4 T4 H4 O4)
    | (go_at_call 17; refine C5.out.mono ?_; rintro e w7 ⟨v7, rfl, ho, hb⟩; obtain ⟨ua, uc, rfl⟩ := own_sl ho; have V4 := hidi (U4.out.below hb); have OW := hidi (own_below OV.out hb); have C6 := hidi (SE.out _ _ _ ho OW.out); clear ho hb C5 U4 OV)
    | (go_at_call 16; refine C6.out.mono ?_; rintro e w8 ⟨rfl, hb⟩; have U4 := hidi (V4.out.below hb); have OV := hidi (own_below OW.out hb); have C7 := hidi (Z4.out _ _ _ _ U4.out); clear hb C6 V4 OW Z4)
    | (go_at_call 17; refine C7.out.mono ?_; rintro e w9 ⟨za, zc, rfl, hb⟩; have V4 := hidi (U4.out.below hb); have OW := hidi (own_below OV.out hb); have C8 := hidi (L4.out _ _ _ _ V4.out); clear hb C7 U4 OV L4)
    | (go_at_call 13; refine C8.out.mono ?_; rintro e w' ⟨rfl, he⟩; obtain rfl := he.symm; have C9 := hidi (X4.out _ _ _ _ V4.out); clear C8 X4)
    | (go_at_call 9; refine C9.out.mono ?_; rintro e wa ⟨rfl, h, ho⟩; have U5 := hidi h; have OV := hidi (ho _ _ _ OW.out); have M5 := hidi (fun wx hb => N5.out wx _ _ _ (U5.out.below hb)); have SL := hidi (SE.out _ _ _ (own_below OV.out ((Below.refl wa.heap.size wa).alloc (Nat.le_refl _) (.cells #[.string { data := #[120] }, .int .i64 2] 45))) (EL.out wa)); clear h ho C9 V4 OW N5)
    | (go_at_call 16; refine SL.out.mono ?_; rintro e wb ⟨rfl, hb⟩; have bb := ((Below.refl wa.heap.size wa).alloc (Nat.le_refl _) (.cells #[.string { data := #[120] }, .int .i64 2] 45)).trans (hb.mono (by simp)); have V5 := hidi (U5.out.below bb); have M6 := hidi (M5.out wb bb); clear bb hb SL M5 U5 OV)
    | (go_at_call 12; refine M6.out.mono ?_; rintro e w' ⟨rfl, he⟩; obtain rfl := he.symm; clear M6; have Y5 := hidi (X5.out _ _ _ _ V5.out); clear X5 V5)
    | (go_at_call 9; refine Y5.out.mono ?_; rintro e wd ⟨rfl, h, ho⟩; have M7 := hidi (N6.out _ _ _ _ h); have W6 := hidi (S6.out _ _ _ _ h); have BE := hidi h.be; clear h ho Y5 N6 S6)
    | (go_at_call 12; refine M7.out.mono ?_; rintro e w' ⟨rfl, he⟩; obtain rfl := he.symm; clear M7)
    | (go_at_call 18; refine W6.out.mono ?_; rintro e wf ⟨s1, s2, s3, s4, rfl, hb⟩; have BF := hidi (BE.out.trans (hb.mono BE.out.size)); clear hb W6 BE))
  go_ret
  exact ⟨rfl, BF.out⟩
end Go.Proofs.YtepjcfhbbcaldaaGreat.Li
