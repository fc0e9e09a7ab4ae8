import Derived.Test.YtkjeneklkdekoaaGreatDoorSone
import Derived.Test.YtkjeneklkdekoaaGreatDoorBye
import Derived.Deep.RegionWith
namespace Go.Proofs.YtkjeneklkdekoaaGreatDoor
open Go Go.RowKit
set_option linter.unusedSimpArgs false
set_option linter.unusedVariables false

/-! ### The room's two lists, by their blocks -/
/-- A room with two lists, g1 and g2; V: its blocks. -/
def R2 (W : World) (R base g1 l0 g2 l1 : Nat) (V : Nat → Prop) : Prop := ∃ cs vb va xsb xsa cp1 cp2, Rm.Rq W R base 2 cs vb va xsb xsa ∧ xsb = [.slice (some ⟨g1, 0, none⟩) (l0 + 600) cp1, .slice (some ⟨g2, 0, none⟩) (l1 + 600) cp2] ∧ xsa = [.int .i64 (l0 : Nat), .int .i64 (l1 : Nat)] ∧ ∀ k, V k ↔ k = R ∨ vb.ownBlock = some k ∨ va.ownBlock = some k ∨ k = g1 ∨ k = g2
theorem R2.lists {W : World} {R base g1 l0 g2 l1 : Nat} {V : Nat → Prop} (h : R2 W R base g1 l0 g2 l1 V) : (∃ c1, W.heap[g1]? = some (.cells c1 5 (0, 0))) ∧ ∃ c2, W.heap[g2]? = some (.cells c2 5 (0, 0)) := by
  obtain ⟨cs, vb, va, xsb, xsa, cp1, cp2, hq, rfl, rfl, hV⟩ := h
  obtain ⟨g, n, cp, cur, e1, e2, e3, e4, e5, e6⟩ := hq.lists 0 (by omega)
  obtain ⟨g', n', cp', cur', e1', e2', e3', e4', e5', e6'⟩ := hq.lists 1 (by omega)
  simp at e1 e1'
  refine ⟨⟨cur, ?_⟩, cur', ?_⟩
  · rw [e1.1]
    exact e5
  · rw [e1'.1]
    exact e5'
theorem R2.lt {W : World} {R base g1 l0 g2 l1 : Nat} {V : Nat → Prop} (h : R2 W R base g1 l0 g2 l1 V) {k : Nat} (hk : V k) : k < W.heap.size := by
  obtain ⟨⟨c1, q1⟩, c2, q2⟩ := h.lists
  obtain ⟨cs, vb, va, xsb, xsa, cp1, cp2, hq, rfl, rfl, hV⟩ := h
  rcases (hV k).1 hk with rfl | e | e | rfl | rfl
  · exact lt_of_block hq.at_
  · exact (hq.ob.lt k e).2
  · exact (hq.oa.lt k e).2
  · exact lt_of_block q1
  · exact lt_of_block q2
/-- The room goes on where its own blocks stay, but for the bytes of its lists. -/
theorem R2.keep {W W' : World} {R base g1 l0 g2 l1 : Nat} {V : Nat → Prop} (h : R2 W R base g1 l0 g2 l1 V) (hk : ∀ k, V k → k ≠ g1 → k ≠ g2 → W'.heap[k]? = W.heap[k]?)
    (h1 : ∃ c, W'.heap[g1]? = some (.cells c 5 (0, 0))) (h2 : ∃ c, W'.heap[g2]? = some (.cells c 5 (0, 0))) (m1 : ∀ k, l0 ≤ k → W'.cell? ⟨g1, k, none⟩ = W.cell? ⟨g1, k, none⟩) (m2 : ∀ k, l1 ≤ k → W'.cell? ⟨g2, k, none⟩ = W.cell? ⟨g2, k, none⟩) : R2 W' R base g1 l0 g2 l1 V := by
  obtain ⟨⟨c1, q1⟩, c2, q2⟩ := h.lists
  obtain ⟨cs, vb, va, xsb, xsa, cp1, cp2, hq, rfl, rfl, hV⟩ := h
  have ne : ∀ (k : Nat) (c : Array Value) (t : TypeId), t ≠ 5 → W.heap[k]? = some (.cells c t (0, 0)) → k ≠ g1 ∧ k ≠ g2 := fun k c t ht hc => ⟨blk_ne hc q1 ht, blk_ne hc q2 ht⟩
  have kR : W'.heap[R]? = W.heap[R]? := hk R ((hV R).2 (.inl rfl)) (ne R _ _ (by decide) hq.at_).1 (ne R _ _ (by decide) hq.at_).2
  have kb : ∀ k, vb.ownBlock = some k → W'.heap[k]? = W.heap[k]? := fun k e => by
    obtain ⟨c, hc⟩ := own_blk hq.ob e
    exact hk k ((hV k).2 (.inr (.inl e))) (ne k _ _ (by decide) hc).1 (ne k _ _ (by decide) hc).2
  have ka : ∀ k, va.ownBlock = some k → W'.heap[k]? = W.heap[k]? := fun k e => by
    obtain ⟨c, hc⟩ := own_blk hq.oa e
    exact hk k ((hV k).2 (.inr (.inr (.inl e)))) (ne k _ _ (by decide) hc).1 (ne k _ _ (by decide) hc).2
  refine ⟨cs, vb, va, _, _, cp1, cp2, ⟨kR.trans hq.at_, hq.c0, hq.c1, hq.nil, hq.bs, own_keep hq.ob kb, own_keep hq.oa ka, fun i hi => ?_⟩, rfl, rfl, hV⟩
  obtain ⟨g, n, cp, cur, e1, e2, e3, e4, e5, e6⟩ := hq.lists i hi
  have hi2 : i = 0 ∨ i = 1 := by omega
  rcases hi2 with rfl | rfl
  · simp at e1 e2
    obtain ⟨rfl, e1b, rfl⟩ := e1
    obtain rfl : l0 = n := by omega
    obtain ⟨c, hc⟩ := h1
    exact ⟨g1, l0, cp1, c, rfl, rfl, e3, e4, hc, fun k hk' => (m1 _ (by omega)).trans (e6 k hk')⟩
  · simp at e1 e2
    obtain ⟨rfl, e1b, rfl⟩ := e1
    obtain rfl : l1 = n := by omega
    obtain ⟨c, hc⟩ := h2
    exact ⟨g2, l1, cp2, c, rfl, rfl, e3, e4, hc, fun k hk' => (m2 _ (by omega)).trans (e6 k hk')⟩
theorem R2.hold {W : World} {R base g1 l0 g2 l1 : Nat} {V : Nat → Prop} (h : R2 W R base g1 l0 g2 l1 V) : Calls Tryz.prog 9 #[.pointer (some ⟨R, 0, none⟩)] W fun e w' => e = .returned (.bool true) ∧ w' = W := by
  obtain ⟨cs, vb, va, xsb, xsa, cp1, cp2, hq, rfl, rfl, hV⟩ := h
  exact hq.hold (by omega) (by omega)
end Go.Proofs.YtkjeneklkdekoaaGreatDoor
namespace Go.Proofs.YtkjeneklkdekoaaGreatDoor
open Go Go.RowKit
set_option linter.unusedSimpArgs false
set_option linter.unusedVariables false

/-! ### WirePuts: what is in memory -/
def nilAt : Option Value → Bool
  | some (.slice none 0 0) => true
  | _ => false
theorem nilAt_eq {v : Option Value} (h : nilAt v = true) : v = some (.slice none 0 0) := by
  unfold nilAt at h
  split at h
  · rfl
  · cases h
theorem bk0_hd : Hd bk0 0 0 0 := by
  have hr : ((List.range 16).all fun k => (List.range 8).all fun i => nilAt (((Tryz.prog.built 47 []).getD #[])[4 + 9 * (k + 1) + i]?)) = true := by kernel_rfl
  refine ⟨by unfold bk0; kernel_rfl, by unfold bk0; kernel_rfl, by unfold bk0; kernel_rfl, by unfold bk0; kernel_rfl, by unfold bk0; kernel_rfl, fun k hk hk' i hi => ?_⟩
  have h1 := List.all_eq_true.1 hr (k - 1) (List.mem_range.2 (by omega))
  have h2 := List.all_eq_true.1 h1 i (List.mem_range.2 (by omega))
  have h3 := nilAt_eq h2
  rw [show k - 1 + 1 = k by omega] at h3
  exact h3
theorem bk0_rows : ∀ i, i < 8 → bk0[4 + i]? = some (.slice none 0 0) := by
  have hr : ((List.range 8).all fun i => nilAt (((Tryz.prog.built 47 []).getD #[])[4 + i]?)) = true := by kernel_rfl
  intro i hi
  exact nilAt_eq (List.all_eq_true.1 hr i (List.mem_range.2 hi))
theorem came_heap {w w' : World} {g n c : Nat} {z : Nat → Int} (h : Came w (some ⟨g, 0, none⟩) n c z) (hk : w'.heap[g]? = w.heap[g]?) : Came w' (some ⟨g, 0, none⟩) n c z := by
  refine ⟨h.1, h.2.1, ?_⟩
  rcases h.2.2 with ⟨q, _⟩ | ⟨ad, q, hc⟩
  · cases q
  · obtain rfl := Option.some.inj q
    refine .inr ⟨_, rfl, fun i hi => ?_⟩
    rw [Rm.plain_add] at *
    have := hc i hi
    rw [Rm.plain_add] at this
    exact (cell_alike hk).trans this
theorem came_cell {w : World} {g n c : Nat} {z : Nat → Int} (h : Came w (some ⟨g, 0, none⟩) n c z) {i : Nat} (hi : i < n) : w.cell? ⟨g, i, none⟩ = some (.int .u8 (z i)) := by
  rcases h.2.2 with ⟨q, _⟩ | ⟨ad, q, hc⟩
  · cases q
  · obtain rfl := Option.some.inj q
    have := hc i hi
    rw [Rm.plain_add, Nat.zero_add] at this
    exact this
theorem came_of {w : World} {g n c : Nat} {z : Nat → Int} (hn : n ≤ c) (hz : ∀ i, 0 ≤ z i ∧ z i ≤ 255) (h : ∀ i, i < n → w.cell? ⟨g, i, none⟩ = some (.int .u8 (z i))) : Came w (some ⟨g, 0, none⟩) n c z :=
  ⟨hn, hz, .inr ⟨_, rfl, fun i hi => by rw [Rm.plain_add, Nat.zero_add]; exact h i hi⟩⟩
/-- The state. -/
structure SW (w : World) (l0 l1 g1 g2 N : Nat) (za zb : Nat → Int) (U V : Nat → Prop) (W : World) : Prop where
  bk : Bk W (w.heap.size + 1) N U
  r2 : R2 W w.heap.size w.heap.size g1 l0 g2 l1 V
  uv : ∀ k, U k → ¬ V k
  lo : ∀ k, U k ∨ V k → w.heap.size ≤ k
  c1 : Came W (some ⟨g1, 0, none⟩) l0 (l0 + 600) za
  c2 : Came W (some ⟨g2, 0, none⟩) l1 (l1 + 600) zb
  ne : g1 ≠ g2
  v1 : V g1
  v2 : V g2
  be : Below w.heap.size w W
theorem SW.below {w W W' : World} {l0 l1 g1 g2 N : Nat} {za zb : Nat → Int} {U V : Nat → Prop} (h : SW w l0 l1 g1 g2 N za zb U V W) (hb : Below W.heap.size W W') : SW w l0 l1 g1 g2 N za zb U V W' := by
  have k : ∀ k, U k ∨ V k → W'.heap[k]? = W.heap[k]? := fun k q => by
    rcases q with q | q
    · exact hb.block k (h.bk.lt q)
    · exact hb.block k (h.r2.lt q)
  obtain ⟨⟨d1, e1⟩, d2, e2⟩ := h.r2.lists
  exact ⟨h.bk.keep (fun j q => k j (.inl q)), h.r2.keep (fun j q _ _ => k j (.inr q)) ⟨d1, (k g1 (.inr h.v1)).trans e1⟩ ⟨d2, (k g2 (.inr h.v2)).trans e2⟩ (fun j _ => cell_alike (k g1 (.inr h.v1))) (fun j _ => cell_alike (k g2 (.inr h.v2))), h.uv, h.lo, came_heap h.c1 (k g1 (.inr h.v1)), came_heap h.c2 (k g2 (.inr h.v2)), h.ne, h.v1, h.v2, h.be.trans (hb.mono h.be.size)⟩
end Go.Proofs.YtkjeneklkdekoaaGreatDoor
namespace Go.Proofs.YtkjeneklkdekoaaGreatDoor
open Go Go.RowKit
set_option linter.unusedSimpArgs false
set_option linter.unusedVariables false

/-! ### The document's reader -/
/-- A reader of the document in memory: its bytes, its place, its fault. -/
def Rr (w : World) (mb : Nat) (v : Value) (at0 q p : Int) : Prop := w.heap[mb]? = some (.cells #[v, .int .i64 at0, .int .i64 q, .int .i64 p] 83 (0, 0))
theorem Rr.facts {w : World} {mb : Nat} {v : Value} {at0 q p : Int} (h : Rr w mb v at0 q p) : w.cell? ⟨mb, 0, none⟩ = some v ∧ w.cell? ⟨mb, 1, none⟩ = some (.int .i64 at0) ∧ w.cell? ⟨mb, 2, none⟩ = some (.int .i64 q) ∧ w.cell? ⟨mb, 3, none⟩ = some (.int .i64 p) ∧ ∀ k, w.frozen? ⟨mb, k, none⟩ = false := by
  unfold Rr at h
  refine ⟨?_, ?_, ?_, ?_, fun k => ?_⟩ <;> simp [World.cell?, World.frozen?, h]
theorem Rr.set1 {w : World} {mb : Nat} {v : Value} {at0 q p : Int} (h : Rr w mb v at0 q p) (x : Int) : Rr (w.setCell ⟨mb, 1, none⟩ (.int .i64 x)) mb v x q p := by
  have := heap_set (i := 1) h (.int .i64 x)
  exact this
theorem Rr.set2 {w : World} {mb : Nat} {v : Value} {at0 q p : Int} (h : Rr w mb v at0 q p) (x : Int) : Rr (w.setCell ⟨mb, 2, none⟩ (.int .i64 x)) mb v at0 x p := by
  have := heap_set (i := 2) h (.int .i64 x)
  exact this
theorem Rr.set3 {w : World} {mb : Nat} {v : Value} {at0 q p : Int} (h : Rr w mb v at0 q p) (x : Int) : Rr (w.setCell ⟨mb, 3, none⟩ (.int .i64 x)) mb v at0 q x := by
  have := heap_set (i := 3) h (.int .i64 x)
  exact this
theorem Rr.drew {w : World} {mb : Nat} {v : Value} {at0 q p : Int} (h : Rr w mb v at0 q p) : Rr w.drew mb v at0 q p := h
/-- Only the reader's block has changed. -/
theorem rr_gb1 (w : World) (mb : Nat) (i : Nat) (v : Value) : w.grownBy (w.setCell ⟨mb, i, none⟩ v) (some mb) := ⟨rfl, rfl, rfl, by simp [World.setCell], fun k hk hn => Below.heap_setCell _ _ _ _ (fun e => hn (by rw [e]))⟩
set_option maxRecDepth 100000 in
set_option maxHeartbeats 1000000 in
theorem rfail_any {w : World} {mb : Nat} {v : Value} {at0 q p : Int} (h : Rr w mb v at0 q p) (x y : Int) : Calls Tryz.prog 118 #[.pointer (some ⟨mb, 0, none⟩), .int .i64 x, .int .i64 y] w fun e w' => e = .returned (.tuple #[]) ∧ w' = (w.setCell ⟨mb, 2, none⟩ (.int .i64 y)).setCell ⟨mb, 3, none⟩ (.int .i64 x) := by
  obtain ⟨c0, c1, c2, c3, f⟩ := h.facts
  have f2 := f 2
  obtain ⟨d0, d1, d2, d3, g⟩ := (h.set2 y).facts
  have g3 := g 3
  clear h f g
  go_enter Tryz.func118, Tryz.ntmps118
  go_wp2_with fail
  all_goals (try go_end0)
  all_goals exact ⟨rfl, rfl⟩
set_option maxRecDepth 100000 in
set_option maxHeartbeats 1000000 in
theorem rtake_dead {w : World} {mb : Nat} {v : Value} {at0 q p : Int} (h : Rr w mb v at0 q p) (hq : q ≠ 0) (n : Int) : Calls Tryz.prog 109 #[.pointer (some ⟨mb, 0, none⟩), .int .i64 n] w fun e w' => e = .returned (.tuple #[.slice none 0 0, .bool false]) ∧ w' = w := by
  obtain ⟨c0, c1, c2, c3, f⟩ := h.facts
  have e1 : (q != 0) = true := by simpa using hq
  clear h hq f
  go_enter Tryz.func109, Tryz.ntmps109
  go_wp2_with fail
  all_goals (try go_ret2)
  all_goals exact ⟨rfl, rfl⟩
set_option maxRecDepth 100000 in
set_option maxHeartbeats 1000000 in
theorem rtake_short {w : World} {mb : Nat} {a : Option Addr} {l c : Nat} {at0 : Nat} {p : Int} (h : Rr w mb (.slice a l c) at0 0 p) (hl : l ≤ 300000) (ha : at0 ≤ l) {n : Nat} (hn : l < at0 + n) : Calls Tryz.prog 109 #[.pointer (some ⟨mb, 0, none⟩), .int .i64 n] w fun e w' => e = .returned (.tuple #[.slice none 0 0, .bool false]) ∧ w' = (w.drew.setCell ⟨mb, 2, none⟩ (.int .i64 10)).setCell ⟨mb, 3, none⟩ (.int .i64 l) := by
  obtain ⟨c0, c1, c2, c3, f⟩ := h.facts
  have F0 := hidi (rfail_any h.drew (l : Int) 10)
  have e2 : IntKind.i64.wrap ((l : Int) - (at0 : Int)) = (l : Int) - at0 := by rw [IntKind.wrap_i64]; omega
  have e3 : wrap64 ((l : Int) - (at0 : Int)) = (l : Int) - at0 := by unfold wrap64; omega
  have e4 : (l : Int) - (at0 : Int) < (n : Int) := by omega
  clear h hn f hl ha
  go_enter Tryz.func109, Tryz.ntmps109
  go_wp2_with fail
  go_region
  all_goals go_wp2_with fail
  all_goals go_must (go_at_call 118)
  all_goals refine (F0.out).mono ?_
  all_goals rintro e w' ⟨rfl, rfl⟩
  all_goals go_wp2_with fail
  all_goals (try go_ret2)
  all_goals exact ⟨rfl, rfl⟩
end Go.Proofs.YtkjeneklkdekoaaGreatDoor
