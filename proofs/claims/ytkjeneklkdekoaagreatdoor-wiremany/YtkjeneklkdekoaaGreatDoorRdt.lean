import Derived.Test.YtkjeneklkdekoaaGreatDoorRek
import Derived.Test.YtkjeneklkdekoaaGreatDoorRdo
import Derived.Test.YtkjeneklkdekoaaGreatDoorRdq
import Derived.Deep.QuietTactic
import Derived.BigQuiet
import Derived.Test.YtkjeneklkdekoaaGreatDoorByb
import Derived.Test.YtkjeneklkdekoaaGreatDoorBye
import Derived.Deep.RegionHeldLaw
import Derived.Test.YtkjeneklkdekoaaGreatDoorRea
import Derived.Test.YtkjeneklkdekoaaGreatDoorReh
namespace Go.Proofs.YtkjeneklkdekoaaGreatDoor
open Go Go.RowKit
set_option linter.unusedSimpArgs false
set_option linter.unusedVariables false

/-! ### told and stands -/
set_option maxRecDepth 100000 in
set_option maxHeartbeats 400000 in
theorem told_nil (w : World) : Calls Tryz.prog 61 #[.nilIface] w fun e w' => e = .returned (.tuple #[.int .i64 0, .int .i64 0, .bool true]) ∧ w' = w := by
  go_enter Tryz.func61, Tryz.ntmps61
  go_wp2
  all_goals (try go_ret3)
  all_goals exact ⟨rfl, rfl⟩
theorem ta_fault (v : Value) (w : World) : (Instr.typeAssert (.iface 157 v) 87 157 true).run Tryz.prog w = .ok (.tuple #[v, .bool true]) w := by kernel_rfl
set_option maxRecDepth 100000 in
set_option maxHeartbeats 400000 in
theorem told_some (w : World) (b : Nat) (p q : Int) (c0 : w.cell? ⟨b, 0, none⟩ = some (.int .i64 p)) (c1 : w.cell? ⟨b, 1, none⟩ = some (.int .i64 q)) (hq : ¬ q = 0) : Calls Tryz.prog 61 #[.iface 157 (.pointer (some ⟨b, 0, none⟩))] w fun e w' => e = .returned (.tuple #[.int .i64 p, .int .i64 q, .bool true]) ∧ w' = w.drew := by
  have hq' : (q == 0) = false := by simpa using hq
  have ta := ta_fault
  clear hq
  go_enter Tryz.func61, Tryz.ntmps61
  go_wp2
  go_region
  all_goals (try go_wp2)
  all_goals (try go_ret3)
  all_goals exact ⟨rfl, rfl⟩
set_option maxRecDepth 100000 in
set_option maxHeartbeats 2000000 in
theorem stands_walk {w : World} {rb mb : Nat} {at0 p q pl : Int} (hp : q ≠ 0 → p = pl) (Po : Ending → World → Prop) {K1 : Value → World → Prop} {K2 : World → Prop}
    (h1 : Calls Tryz.prog 62 #[.pointer (some ⟨rb, 0, none⟩)] (w.alloc (.cells #[.pointer (some ⟨rb, 0, none⟩), .pointer (some ⟨mb, 0, none⟩)] 60)) fun r w' => ∃ v, r = .returned v ∧ K1 v w')
    (h2 : ∀ v W, K1 v W → Calls Tryz.prog 61 #[v] W fun r w' => r = .returned (.tuple #[.int .i64 p, .int .i64 q, .bool true]) ∧ (w'.cell? ⟨w.heap.size, 0, none⟩ = some (.pointer (some ⟨rb, 0, none⟩)) ∧ w'.cell? ⟨w.heap.size, 1, none⟩ = some (.pointer (some ⟨mb, 0, none⟩)) ∧ w'.cell? ⟨mb, 2, none⟩ = some (.int .i64 q) ∧ w'.cell? ⟨mb, 3, none⟩ = some (.int .i64 pl)) ∧ K2 w')
    (h3 : ∀ W, K2 W → ∀ N, Calls Tryz.prog 63 #[.pointer (some ⟨rb, 0, none⟩)] (W.drewN N) fun r w' => r = .returned (.int .i64 at0) ∧ w' = W.drewN N)
    (h4 : ∀ W, K2 W → ∀ N, Calls Tryz.prog 64 #[.pointer (some ⟨mb, 0, none⟩)] (W.drewN N) fun r w' => r = .returned (.int .i64 at0) ∧ w' = W.drewN N)
    (h5 : ∀ W, K2 W → ∀ N, Po (.returned (.bool true)) (W.drewN N)) :
    Calls Tryz.prog 14 #[.agg #[.pointer (some ⟨rb, 0, none⟩), .pointer (some ⟨mb, 0, none⟩)]] w Po := by
  have H1 := hidi h1
  have H2 := hidi h2
  have H3 := hidi h3
  have H4 := hidi h4
  have H5 := hidi h5
  clear h1 h2 h3 h4 h5
  by_cases q0 : q = 0
  · subst q0
    clear hp
    go_enter Tryz.func14, Tryz.ntmps14
    go_wp2_with fail
    go_must (go_at_call 62)
    refine (H1.out).mono ?_
    rintro r w1 ⟨v, rfl, hk⟩
    have J1 := hidi (H2.out _ _ hk)
    clear hk
    go_wp2_with fail
    go_must (go_at_call 61)
    refine (J1.out).mono ?_
    rintro r w2 ⟨rfl, ⟨c0, c1, c2, c3⟩, hk⟩
    have J3 := hidi (H3.out _ hk)
    have J4 := hidi (H4.out _ hk)
    have Z := hidi (H5.out _ hk)
    clear hk J1
    go_wp2_with fail
    go_quiet (first | (go_at_call 63; exact Calls.quiet_of_same (J3.out _)) | (go_at_call 64; exact Calls.quiet_of_same (J4.out _)))
    all_goals go_wp2_with fail
    all_goals (try go_ret)
    all_goals exact Z.out _
  · obtain rfl := hp q0
    have e1 : (q == 0) = false := by simpa using q0
    clear hp q0
    go_enter Tryz.func14, Tryz.ntmps14
    go_wp2_with fail
    go_must (go_at_call 62)
    refine (H1.out).mono ?_
    rintro r w1 ⟨v, rfl, hk⟩
    have J1 := hidi (H2.out _ _ hk)
    clear hk
    go_wp2_with fail
    go_must (go_at_call 61)
    refine (J1.out).mono ?_
    rintro r w2 ⟨rfl, ⟨c0, c1, c2, c3⟩, hk⟩
    have J3 := hidi (H3.out _ hk)
    have J4 := hidi (H4.out _ hk)
    have Z := hidi (H5.out _ hk)
    clear hk J1
    go_wp2_with fail
    go_quiet (first | (go_at_call 63; exact Calls.quiet_of_same (J3.out _)) | (go_at_call 64; exact Calls.quiet_of_same (J4.out _)))
    all_goals go_wp2_with fail
    all_goals (try go_ret)
    all_goals exact Z.out _
theorem Wrd.below {w w' : World} {rb : Nat} {a : Option Addr} {l c : Nat} {z : Nat → Int} {r : Rs} (h : Wrd w rb a l c z r) (hb : Below w.heap.size w w') : Wrd w' rb a l c z r := h.next (gb_bel hb) (h.rr.kept hb) h.le
theorem Rrd.below {w w' : World} {mb : Nat} {a : Option Addr} {l c : Nat} {z : Nat → Int} {r : Rs} (h : Rrd w mb a l c z r) (hb : Below w.heap.size w w') : Rrd w' mb a l c z r := h.next (gb_bel hb) (h.rr.below hb) h.le
/-- STANDS: the two readers are where one reader is. -/
theorem stands_any {w : World} {rb mb : Nat} {a a' : Option Addr} {l c c' : Nat} {z : Nat → Int} {r : Rs} (h : Wrd w rb a l c z r) (h' : Rrd w mb a' l c' z r) :
    Calls Tryz.prog 14 #[.agg #[.pointer (some ⟨rb, 0, none⟩), .pointer (some ⟨mb, 0, none⟩)]] w fun e w' => e = .returned (.bool true) ∧ Below w.heap.size w w' := by
  have hmb : mb < w.heap.size := lt_of_block h'.rr
  have hB0 : Below w.heap.size w (w.alloc (.cells #[.pointer (some ⟨rb, 0, none⟩), .pointer (some ⟨mb, 0, none⟩)] 60)) := (Below.refl _ _).alloc (Nat.le_refl _) _
  have hnew : (w.alloc (.cells #[.pointer (some ⟨rb, 0, none⟩), .pointer (some ⟨mb, 0, none⟩)] 60)).heap[w.heap.size]? = some (.cells #[.pointer (some ⟨rb, 0, none⟩), .pointer (some ⟨mb, 0, none⟩)] 60 (0, 0)) := heap_alloc_new _ _
  have hsz : w.heap.size < (w.alloc (.cells #[.pointer (some ⟨rb, 0, none⟩), .pointer (some ⟨mb, 0, none⟩)] 60)).heap.size := lt_of_block hnew
  have facts : ∀ W, Below (w.alloc (.cells #[.pointer (some ⟨rb, 0, none⟩), .pointer (some ⟨mb, 0, none⟩)] 60)).heap.size (w.alloc (.cells #[.pointer (some ⟨rb, 0, none⟩), .pointer (some ⟨mb, 0, none⟩)] 60)) W → (W.cell? ⟨w.heap.size, 0, none⟩ = some (.pointer (some ⟨rb, 0, none⟩)) ∧ W.cell? ⟨w.heap.size, 1, none⟩ = some (.pointer (some ⟨mb, 0, none⟩)) ∧ W.cell? ⟨mb, 2, none⟩ = some (.int .i64 r.q) ∧ W.cell? ⟨mb, 3, none⟩ = some (.int .i64 r.p)) := fun W hb => by
    have hn := (hb.block _ hsz).trans hnew
    obtain ⟨_, _, d2, d3, _⟩ := ((h'.below hB0).below hb).rr.facts
    exact ⟨cells_at hn rfl, cells_at hn rfl, d2, d3⟩
  by_cases q0 : r.q = 0
  · refine stands_walk (at0 := r.at0) (p := 0) (q := r.q) (pl := r.p) (fun q => absurd q0 q) _ (K1 := fun v W => v = .nilIface ∧ W = w.alloc (.cells #[.pointer (some ⟨rb, 0, none⟩), .pointer (some ⟨mb, 0, none⟩)] 60)) (K2 := fun W => W = w.alloc (.cells #[.pointer (some ⟨rb, 0, none⟩), .pointer (some ⟨mb, 0, none⟩)] 60)) ?_ ?_ ?_ ?_ ?_
    · have hR := (h.below hB0).rr
      rw [q0] at hR
      refine (err_nil rb _ _ _ _ hR).mono ?_
      rintro e w' ⟨rfl, rfl⟩
      exact ⟨_, rfl, rfl, rfl⟩
    · rintro v W ⟨rfl, rfl⟩
      refine (told_nil _).mono ?_
      rintro e w' ⟨rfl, rfl⟩
      exact ⟨by rw [q0], facts _ (Below.refl _ _), rfl⟩
    · rintro W rfl N
      exact at_any rb _ _ _ _ _ ((h.below hB0).below (below_drewN (Below.refl _ _) N)).rr
    · rintro W rfl N
      exact refAt_any ((h'.below hB0).below (below_drewN (Below.refl _ _) N))
    · rintro W rfl N
      exact ⟨rfl, below_drewN hB0 N⟩
  · refine stands_walk (at0 := r.at0) (p := r.p) (q := r.q) (pl := r.p) (fun _ => rfl) _ (K1 := fun v W => v = .iface 157 (.pointer (some ⟨(w.alloc (.cells #[.pointer (some ⟨rb, 0, none⟩), .pointer (some ⟨mb, 0, none⟩)] 60)).heap.size, 0, none⟩)) ∧ W = ((w.alloc (.cells #[.pointer (some ⟨rb, 0, none⟩), .pointer (some ⟨mb, 0, none⟩)] 60)).alloc (.cells #[.int .i64 r.p, .int .i64 r.q] 79)).drew) (K2 := fun W => W = ((w.alloc (.cells #[.pointer (some ⟨rb, 0, none⟩), .pointer (some ⟨mb, 0, none⟩)] 60)).alloc (.cells #[.int .i64 r.p, .int .i64 r.q] 79)).drew.drew) ?_ ?_ ?_ ?_ ?_
    · refine (err_some rb _ _ _ _ _ (h.below hB0).rr q0).mono ?_
      rintro e w' ⟨rfl, rfl⟩
      exact ⟨_, rfl, rfl, rfl⟩
    · rintro v W ⟨rfl, rfl⟩
      have hn : ((w.alloc (.cells #[.pointer (some ⟨rb, 0, none⟩), .pointer (some ⟨mb, 0, none⟩)] 60)).alloc (.cells #[.int .i64 r.p, .int .i64 r.q] 79)).drew.heap[(w.alloc (.cells #[.pointer (some ⟨rb, 0, none⟩), .pointer (some ⟨mb, 0, none⟩)] 60)).heap.size]? = some (.cells #[.int .i64 r.p, .int .i64 r.q] 79 (0, 0)) := heap_alloc_new _ _
      refine (told_some _ _ r.p r.q (cells_at hn rfl) (cells_at hn rfl) q0).mono ?_
      rintro e w' ⟨rfl, rfl⟩
      exact ⟨rfl, facts _ (((Below.refl _ _).alloc (Nat.le_refl _) _).drew.drew), rfl⟩
    · rintro W rfl N
      exact at_any rb _ _ _ _ _ ((h.below hB0).below (below_drewN (((Below.refl _ _).alloc (Nat.le_refl _) _).drew.drew) N)).rr
    · rintro W rfl N
      exact refAt_any ((h'.below hB0).below (below_drewN (((Below.refl _ _).alloc (Nat.le_refl _) _).drew.drew) N))
    · rintro W rfl N
      exact ⟨rfl, below_drewN ((hB0.alloc hB0.size _).drew.drew) N⟩
end Go.Proofs.YtkjeneklkdekoaaGreatDoor
namespace Go.Proofs.YtkjeneklkdekoaaGreatDoor
open Go Go.RowKit
set_option linter.unusedSimpArgs false
set_option linter.unusedVariables false

/-! ### does, whole -/
theorem came_keep {w w' : World} {a : Option Addr} {l c : Nat} {z : Nat → Int} (h : Came w a l c z) (ba : a = none ∨ ∃ g, a = some ⟨g, 0, none⟩) (hk : ∀ g, a = some ⟨g, 0, none⟩ → 0 < l → w'.heap[g]? = w.heap[g]?) : Came w' a l c z := by
  rcases ba with rfl | ⟨g, rfl⟩
  · rcases h.2.2 with ⟨_, q1, q2⟩ | ⟨ad, q, _⟩
    · exact ⟨h.1, h.2.1, .inl ⟨rfl, q1, q2⟩⟩
    · cases q
  · by_cases h0 : l = 0
    · subst h0
      exact came_of h.1 h.2.1 (fun i hi => absurd hi (Nat.not_lt_zero _))
    · exact came_heap h (hk g rfl (by omega))
theorem Wrd.keep {w w' : World} {rb : Nat} {a : Option Addr} {l c : Nat} {z : Nat → Int} {r : Rs} (h : Wrd w rb a l c z r) (k1 : w'.heap[rb]? = w.heap[rb]?) (k2 : ∀ g, a = some ⟨g, 0, none⟩ → 0 < l → w'.heap[g]? = w.heap[g]?) : Wrd w' rb a l c z r :=
  ⟨k1.trans h.rr, came_keep h.cm (h.ba.imp id (fun ⟨g, q, _⟩ => ⟨g, q⟩)) k2, h.ba, h.le, h.few⟩
theorem Rrd.keep {w w' : World} {mb : Nat} {a : Option Addr} {l c : Nat} {z : Nat → Int} {r : Rs} (h : Rrd w mb a l c z r) (k1 : w'.heap[mb]? = w.heap[mb]?) (k2 : ∀ g, a = some ⟨g, 0, none⟩ → 0 < l → w'.heap[g]? = w.heap[g]?) : Rrd w' mb a l c z r :=
  ⟨k1.trans h.rr, came_keep h.cm (h.ba.imp id (fun ⟨g, q, _⟩ => ⟨g, q⟩)) k2, h.ba, h.le, h.few⟩
/-- Two readers of the same bytes; F: their blocks. -/
structure Pa (W : World) (rb mb l : Nat) (z : Nat → Int) (r r' : Rs) (F : Nat → Prop) : Prop where
  ex : ∃ a c a' c', Wrd W rb a l c z r ∧ Rrd W mb a' l c' z r' ∧ (∀ g, a = some ⟨g, 0, none⟩ → 0 < l → F g ∧ g ≠ mb) ∧ (∀ g, a' = some ⟨g, 0, none⟩ → 0 < l → F g ∧ g ≠ rb)
  ne : rb ≠ mb
  fr : F rb
  fm : F mb
  lt : ∀ k, F k → k < W.heap.size
theorem Pa.keep {W W' : World} {rb mb l : Nat} {z : Nat → Int} {r r' : Rs} {F : Nat → Prop} (h : Pa W rb mb l z r r' F) (hs : W.heap.size ≤ W'.heap.size) (hk : ∀ k, F k → W'.heap[k]? = W.heap[k]?) : Pa W' rb mb l z r r' F := by
  obtain ⟨a, c, a', c', h1, h2, h3, h4⟩ := h.ex
  exact ⟨⟨a, c, a', c', h1.keep (hk _ h.fr) (fun g e q => hk g (h3 g e q).1), h2.keep (hk _ h.fm) (fun g e q => hk g (h4 g e q).1), h3, h4⟩, h.ne, h.fr, h.fm, fun k q => Nat.lt_of_lt_of_le (h.lt k q) hs⟩
theorem Pa.below {W W' : World} {rb mb l : Nat} {z : Nat → Int} {r r' : Rs} {F : Nat → Prop} (h : Pa W rb mb l z r r' F) (hb : Below W.heap.size W W') : Pa W' rb mb l z r r' F := h.keep hb.size (fun k q => hb.block k (h.lt k q))
/-- What is there while does goes on, ahead of the book. -/
structure Q (w : World) (rb mb bb N l : Nat) (z : Nat → Int) (F U : Nat → Prop) (r r' : Rs) (W : World) : Prop where
  pa : Pa W rb mb l z r r' F
  bk : Bk W bb N U
  ch : Ch F w W
  bp : BP W rb mb w.heap.size
  sz : w.heap.size < W.heap.size
theorem bp_keep {W W' : World} {rb mb s : Nat} (h : BP W rb mb s) (hk : W'.heap[s]? = W.heap[s]?) : BP W' rb mb s := ⟨(cell_alike hk).trans h.1, (cell_alike hk).trans h.2⟩
theorem Q.start {w : World} {rb mb bb N l : Nat} {z : Nat → Int} {F U : Nat → Prop} {r r' : Rs} (hp : Pa w rb mb l z r r' F) (hb : Bk w bb N U) : Q w rb mb bb N l z F U r r' (w.alloc (.cells #[.pointer (some ⟨rb, 0, none⟩), .pointer (some ⟨mb, 0, none⟩)] 60)) := by
  have hB : Below w.heap.size w (w.alloc (.cells #[.pointer (some ⟨rb, 0, none⟩), .pointer (some ⟨mb, 0, none⟩)] 60)) := (Below.refl _ _).alloc (Nat.le_refl _) _
  have hnew : (w.alloc (.cells #[.pointer (some ⟨rb, 0, none⟩), .pointer (some ⟨mb, 0, none⟩)] 60)).heap[w.heap.size]? = some (.cells #[.pointer (some ⟨rb, 0, none⟩), .pointer (some ⟨mb, 0, none⟩)] 60 (0, 0)) := heap_alloc_new _ _
  exact ⟨hp.below hB, hb.keep (fun k q => hB.block k (hb.lt q)), Below.ch hB, ⟨cells_at hnew rfl, cells_at hnew rfl⟩, lt_of_block hnew⟩
theorem Q.below {w W W' : World} {rb mb bb N l : Nat} {z : Nat → Int} {F U : Nat → Prop} {r r' : Rs} (h : Q w rb mb bb N l z F U r r' W) (hb : Below W.heap.size W W') : Q w rb mb bb N l z F U r r' W' :=
  ⟨h.pa.below hb, h.bk.keep (fun k q => hb.block k (h.bk.lt q)), h.ch.trans (Below.ch (S := F) hb) (fun _ _ q => q), bp_keep h.bp (hb.block _ h.sz), Nat.lt_of_lt_of_le h.sz hb.size⟩
theorem Q.drewd {w W : World} {rb mb bb N l : Nat} {z : Nat → Int} {F U : Nat → Prop} {r r' : Rs} (h : Q w rb mb bb N l z F U r r' W) : Q w rb mb bb N l z F U r r' W.drew := h.below (Below.refl _ _).drew
/-- The program's reader went on. -/
theorem Q.next {w W W' : World} {rb mb bb N l : Nat} {z : Nat → Int} {F U : Nat → Prop} {r r' r1 : Rs} (h : Q w rb mb bb N l z F U r r' W) (hd : ∀ k, F k → ¬ U k ∧ k < w.heap.size) {a : Option Addr} {c : Nat} {a' : Option Addr} {c' : Nat} (h1 : Wrd W' rb a l c z r1) (h2 : Rrd W mb a' l c' z r') (h3 : ∀ g, a = some ⟨g, 0, none⟩ → 0 < l → F g ∧ g ≠ mb) (h4 : ∀ g, a' = some ⟨g, 0, none⟩ → 0 < l → F g ∧ g ≠ rb) (hg : W.grownBy W' (some rb)) : Q w rb mb bb N l z F U r1 r' W' := by
  have hk : ∀ k, k < W.heap.size → k ≠ rb → W'.heap[k]? = W.heap[k]? := fun k q e => hg.block k q (fun x => e (Option.some.inj x))
  have hr := (hd rb h.pa.fr).2
  refine ⟨⟨⟨a, c, a', c', h1, h2.keep (hk mb (h.pa.lt _ h.pa.fm) (Ne.symm h.pa.ne)) (fun g e q => hk g (h.pa.lt _ (h4 g e q).1) (h4 g e q).2), h3, h4⟩, h.pa.ne, h.pa.fr, h.pa.fm, fun k q => Nat.lt_of_lt_of_le (h.pa.lt k q) hg.size⟩, h.bk.keep (fun k q => hk k (h.bk.lt q) (fun e => (hd rb h.pa.fr).1 (e ▸ q))), h.ch.trans (ch_grown hg) (fun j _ q => by cases q; exact h.pa.fr), bp_keep h.bp (hk _ h.sz (by omega)), Nat.lt_of_lt_of_le h.sz hg.size⟩
/-- The document's reader went on. -/
theorem Q.next' {w W W' : World} {rb mb bb N l : Nat} {z : Nat → Int} {F U : Nat → Prop} {r r' r1 : Rs} (h : Q w rb mb bb N l z F U r r' W) (hd : ∀ k, F k → ¬ U k ∧ k < w.heap.size) {a : Option Addr} {c : Nat} {a' : Option Addr} {c' : Nat} (h1 : Wrd W rb a l c z r) (h2 : Rrd W' mb a' l c' z r1) (h3 : ∀ g, a = some ⟨g, 0, none⟩ → 0 < l → F g ∧ g ≠ mb) (h4 : ∀ g, a' = some ⟨g, 0, none⟩ → 0 < l → F g ∧ g ≠ rb) (hg : W.grownBy W' (some mb)) : Q w rb mb bb N l z F U r r1 W' := by
  have hk : ∀ k, k < W.heap.size → k ≠ mb → W'.heap[k]? = W.heap[k]? := fun k q e => hg.block k q (fun x => e (Option.some.inj x))
  have hr := (hd mb h.pa.fm).2
  refine ⟨⟨⟨a, c, a', c', h1.keep (hk rb (h.pa.lt _ h.pa.fr) h.pa.ne) (fun g e q => hk g (h.pa.lt _ (h3 g e q).1) (h3 g e q).2), h2, h3, h4⟩, h.pa.ne, h.pa.fr, h.pa.fm, fun k q => Nat.lt_of_lt_of_le (h.pa.lt k q) hg.size⟩, h.bk.keep (fun k q => hk k (h.bk.lt q) (fun e => (hd mb h.pa.fm).1 (e ▸ q))), h.ch.trans (ch_grown hg) (fun j _ q => by cases q; exact h.pa.fm), bp_keep h.bp (hk _ h.sz (by omega)), Nat.lt_of_lt_of_le h.sz hg.size⟩
theorem Q.prog {w W : World} {rb mb bb N l : Nat} {z : Nat → Int} {F U : Nat → Prop} {r r' r1 : Rs} (h : Q w rb mb bb N l z F U r r' W) (hd : ∀ k, F k → ¬ U k ∧ k < w.heap.size) {f : FuncId} {val : Value} (hm : ∀ {a : Option Addr} {c : Nat}, Wrd W rb a l c z r → Calls Tryz.prog f #[.pointer (some ⟨rb, 0, none⟩)] W fun e w' => e = .returned val ∧ Wrd w' rb a l c z r1 ∧ W.grownBy w' (some rb)) :
    Calls Tryz.prog f #[.pointer (some ⟨rb, 0, none⟩)] W fun e w' => e = .returned val ∧ BP w' rb mb w.heap.size ∧ Q w rb mb bb N l z F U r1 r' w' := by
  obtain ⟨a, c, a', c', h1, h2, h3, h4⟩ := h.pa.ex
  refine (hm h1).mono ?_
  rintro e w' ⟨rfl, q1, q2⟩
  have hq := h.next hd q1 h2 h3 h4 q2
  exact ⟨rfl, hq.bp, hq⟩
theorem Q.doc {w W : World} {rb mb bb N l : Nat} {z : Nat → Int} {F U : Nat → Prop} {r r' r1 : Rs} (h : Q w rb mb bb N l z F U r r' W) (hd : ∀ k, F k → ¬ U k ∧ k < w.heap.size) {f : FuncId} {val : Value} (hm : ∀ {a : Option Addr} {c : Nat}, Rrd W mb a l c z r' → Calls Tryz.prog f #[.pointer (some ⟨mb, 0, none⟩)] W fun e w' => e = .returned val ∧ Rrd w' mb a l c z r1 ∧ W.grownBy w' (some mb)) :
    Calls Tryz.prog f #[.pointer (some ⟨mb, 0, none⟩)] W fun e w' => e = .returned val ∧ BP w' rb mb w.heap.size ∧ Q w rb mb bb N l z F U r r1 w' := by
  obtain ⟨a, c, a', c', h1, h2, h3, h4⟩ := h.pa.ex
  refine (hm h2).mono ?_
  rintro e w' ⟨rfl, q1, q2⟩
  have hq := h.next' hd h1 q1 h3 h4 q2
  exact ⟨rfl, hq.bp, hq⟩
/-- A list that was made since a world. -/
def LW (w W : World) (a : Option Addr) (n c : Nat) (Z : Nat → Int) : Prop := W.ownsRow 0 5 1 (.slice a n c) n (cellsOf Z n) ∧ ∀ g, (Value.slice a n c).ownBlock = some g → w.heap.size < g
theorem own_at {w : World} {a : Option Addr} {n c : Nat} {xs : List Value} (h : w.ownsRow 0 5 1 (.slice a n c) n xs) {g : Nat} (e : (Value.slice a n c).ownBlock = some g) : a = some ⟨g, 0, none⟩ := by
  rcases h.2 with ⟨q, _⟩ | ⟨g', cap, cur, q, _⟩
  · rw [q] at e
    simp [Value.ownBlock] at e
  · rw [q] at e
    simp [Value.ownBlock] at e
    subst e
    injection q
theorem LW.of {w W W' : World} {a : Option Addr} {n c : Nat} {Z : Nat → Int} (hs : w.heap.size < W.heap.size) (h : Lst W W' a n c Z) : LW w W' a n c Z := ⟨h.1, fun g e => by have := h.2 g (own_at h.1 e); omega⟩
theorem Q.progL {w W : World} {rb mb bb N l n : Nat} {z Z : Nat → Int} {F U : Nat → Prop} {r r' r1 : Rs} (h : Q w rb mb bb N l z F U r r' W) (hd : ∀ k, F k → ¬ U k ∧ k < w.heap.size) {f : FuncId} (hm : ∀ {a : Option Addr} {c : Nat}, Wrd W rb a l c z r → Calls Tryz.prog f #[.pointer (some ⟨rb, 0, none⟩)] W fun e w' => ∃ b k, e = .returned (.slice b n k) ∧ Lst W w' b n k Z ∧ Wrd w' rb a l c z r1 ∧ W.grownBy w' (some rb)) :
    Calls Tryz.prog f #[.pointer (some ⟨rb, 0, none⟩)] W fun e w' => ∃ b m k, e = .returned (.slice b m k) ∧ BP w' rb mb w.heap.size ∧ m = n ∧ LW w w' b m k Z ∧ Q w rb mb bb N l z F U r1 r' w' := by
  obtain ⟨a, c, a', c', h1, h2, h3, h4⟩ := h.pa.ex
  refine (hm h1).mono ?_
  rintro e w' ⟨b, k, rfl, q0, q1, q2⟩
  have hq := h.next hd q1 h2 h3 h4 q2
  exact ⟨b, n, k, rfl, hq.bp, rfl, LW.of h.sz q0, hq⟩
theorem Q.docL {w W : World} {rb mb bb N l n n0 k0 : Nat} {b0 : Option Addr} {z Z Z0 : Nat → Int} {F U : Nat → Prop} {r r' r1 : Rs} (h : Q w rb mb bb N l z F U r r' W) (hd : ∀ k, F k → ¬ U k ∧ k < w.heap.size) (hl : LW w W b0 n0 k0 Z0) {f : FuncId} (hm : ∀ {a : Option Addr} {c : Nat}, Rrd W mb a l c z r' → Calls Tryz.prog f #[.pointer (some ⟨mb, 0, none⟩)] W fun e w' => ∃ b k, e = .returned (.slice b n k) ∧ w'.ownsRow 0 5 1 (.slice b n k) n (cellsOf Z n) ∧ (∀ g, b = some ⟨g, 0, none⟩ → W.heap.size ≤ g) ∧ Rrd w' mb a l c z r1 ∧ W.grownBy w' (some mb)) :
    Calls Tryz.prog f #[.pointer (some ⟨mb, 0, none⟩)] W fun e w' => ∃ b m k, e = .returned (.slice b m k) ∧ BP w' rb mb w.heap.size ∧ m = n ∧ LW w w' b m k Z ∧ LW w w' b0 n0 k0 Z0 ∧ Q w rb mb bb N l z F U r r1 w' := by
  obtain ⟨a, c, a', c', h1, h2, h3, h4⟩ := h.pa.ex
  refine (hm h2).mono ?_
  rintro e w' ⟨b, k, rfl, q0, q0', q1, q2⟩
  have hq := h.next' hd h1 q1 h3 h4 q2
  have hmb := (hd mb h.pa.fm).2
  exact ⟨b, n, k, rfl, hq.bp, rfl, LW.of h.sz ⟨q0, q0'⟩, ⟨own_keep hl.1 (fun g e => q2.block g (hl.1.lt g e).2 (fun x => by have := hl.2 g e; have := Option.some.inj x; omega)), hl.2⟩, hq⟩
/-- Behind does. -/
structure Dn (w : World) (rb mb bb N l : Nat) (z : Nat → Int) (F U : Nat → Prop) (r1 : Rs) (N' : Nat) (U' : Nat → Prop) (W : World) : Prop where
  n0 : N ≤ N'
  n1 : N' ≤ N + 1
  pa : Pa W rb mb l z r1 r1 F
  bk : Bk W bb N' U'
  ch : Ch (fun k => F k ∨ U k) w W
  un : ∀ k, U' k → U k ∨ w.heap.size ≤ k
/-- The same, with the box of does. -/
def DQ (w : World) (rb mb bb N l : Nat) (z : Nat → Int) (F U : Nat → Prop) (W : World) : Prop := (∃ r1 N' U', Dn w rb mb bb N l z F U r1 N' U' W) ∧ BP W rb mb w.heap.size ∧ w.heap.size < W.heap.size
theorem Dn.below {w W W' : World} {rb mb bb N l : Nat} {z : Nat → Int} {F U : Nat → Prop} {r1 : Rs} {N' : Nat} {U' : Nat → Prop} (h : Dn w rb mb bb N l z F U r1 N' U' W) (hb : Below W.heap.size W W') : Dn w rb mb bb N l z F U r1 N' U' W' :=
  ⟨h.n0, h.n1, h.pa.below hb, h.bk.keep (fun k q => hb.block k (h.bk.lt q)), h.ch.trans (Below.ch (S := fun k => F k ∨ U k) hb) (fun _ _ q => q), h.un⟩
theorem Q.dq {w W : World} {rb mb bb N l : Nat} {z : Nat → Int} {F U : Nat → Prop} {r : Rs} (h : Q w rb mb bb N l z F U r r W) : DQ w rb mb bb N l z F U W :=
  ⟨⟨r, N, U, ⟨Nat.le_refl _, Nat.le_succ _, h.pa, h.bk, h.ch.mono (fun _ _ q => .inl q), fun k q => .inl q⟩⟩, h.bp, h.sz⟩
theorem DQ.stands {w W : World} {rb mb bb N l : Nat} {z : Nat → Int} {F U : Nat → Prop} (h : DQ w rb mb bb N l z F U W) : Calls Tryz.prog 14 #[.agg #[.pointer (some ⟨rb, 0, none⟩), .pointer (some ⟨mb, 0, none⟩)]] W fun e w' => e = .returned (.bool true) ∧ BP w' rb mb w.heap.size ∧ DQ w rb mb bb N l z F U w' := by
  obtain ⟨⟨r1, N', U', h1⟩, h2, h3⟩ := h
  obtain ⟨a, c, a', c', p1, p2, _, _⟩ := h1.pa.ex
  refine (stands_any p1 p2).mono ?_
  rintro e w' ⟨rfl, hb⟩
  exact ⟨rfl, bp_keep h2 (hb.block _ h3), ⟨r1, N', U', h1.below hb⟩, bp_keep h2 (hb.block _ h3), Nat.lt_of_lt_of_le h3 hb.size⟩
/-- A list is laid into the book. -/
theorem Q.lay {w W : World} {rb mb bb N l n k : Nat} {b : Option Addr} {z Z : Nat → Int} {F U : Nat → Prop} {r : Rs} (h : Q w rb mb bb N l z F U r r W) (hd : ∀ k, F k → ¬ U k ∧ k < w.heap.size) (hU : ∀ k, U k → k < w.heap.size) (hN : N ≤ 90000) (hl : LW w W b n k Z) (hn : n ≤ 900000) (hz : ∀ i, 0 ≤ Z i ∧ Z i ≤ 255) (mark : Int) :
    Calls Tryz.prog 28 #[.pointer (some ⟨bb, 0, none⟩), .slice b n k, .int .i64 mark] W fun e w' => e = .returned (.tuple #[]) ∧ BP w' rb mb w.heap.size ∧ DQ w rb mb bb N l z F U w' := by
  refine (bk_step h.bk hN b n k (cellsOf Z n) mark hl.1 (cells_bv hz n) hn (fun g e q => by have := hl.2 g e; have := hU g q; omega)).mono ?_
  rintro e w' ⟨rfl, U', q1, q2, q3⟩
  have hk : ∀ j, j < W.heap.size → ¬ U j → j ≤ w.heap.size → w'.heap[j]? = W.heap[j]? := fun j hj hu hw => q2.block j hj (fun q => by
    rcases q with q | q
    · exact hu q
    · have := hl.2 j q
      omega)
  have kb : w'.heap[w.heap.size]? = W.heap[w.heap.size]? := hk _ h.sz (fun q => by have := hU _ q; omega) (Nat.le_refl _)
  refine ⟨rfl, bp_keep h.bp kb, ⟨r, N + 1, U', ⟨Nat.le_succ _, Nat.le_refl _, h.pa.keep q2.size (fun j q => hk j (h.pa.lt j q) (hd j q).1 (by have := (hd j q).2; omega)), q1, (h.ch.mono (fun _ _ q => .inl q)).trans q2 (fun j hj q => ?_), fun j q => ?_⟩⟩, bp_keep h.bp kb, Nat.lt_of_lt_of_le h.sz q2.size⟩
  · rcases q with q | q
    · exact .inr q
    · have := hl.2 j q
      omega
  · rcases q3 j q with (q | q) | q
    · exact .inl q
    · have := hl.2 j q
      exact .inr (by omega)
    · have := h.sz
      exact .inr (by omega)
theorem rDat_le {z : Nat → Int} (hz : ∀ i, 0 ≤ z i ∧ z i ≤ 255) (l : Nat) (r : Rs) : (rDat z l r).1.1 ≤ 65535 := by
  have h0 := hz r.at0
  have h1 := hz (r.at0 + 1)
  unfold rDat
  split
  · show (rNum z l r).1.toNat ≤ 65535
    unfold rNum
    dsimp only
    split <;> omega
  · exact Nat.zero_le _
theorem rRst_le (l : Nat) (r : Rs) : (rRst l r).1 ≤ l := by
  unfold rRst
  dsimp only
  split <;> omega
/-- DOES, WHOLE. -/
theorem does_any {w : World} {rb mb bb N l : Nat} {z : Nat → Int} {F U : Nat → Prop} {r : Rs} (hp : Pa w rb mb l z r r F) (hb : Bk w bb N U) (hN : N ≤ 90000) (hd : ∀ k, F k → ¬ U k) (kind mark : Int) :
    Calls Tryz.prog 15 #[.agg #[.pointer (some ⟨rb, 0, none⟩), .pointer (some ⟨mb, 0, none⟩)], .pointer (some ⟨bb, 0, none⟩), .int .i64 kind, .int .i64 mark] w fun e w' => e = .returned (.bool true) ∧ ∃ r1 N' U', Dn w rb mb bb N l z F U r1 N' U' w' := by
  have hd' : ∀ k, F k → ¬ U k ∧ k < w.heap.size := fun k q => ⟨hd k q, hp.lt k q⟩
  have hU : ∀ k, U k → k < w.heap.size := fun k q => hb.lt q
  have s0 := Q.start hp hb
  have s1 := s0.drewd
  obtain ⟨a0, c0, _, _, hw0, _, _, _⟩ := hp.ex
  have hz := hw0.cm.2.1
  have hf := hw0.few
  have g1 : ∀ W, DQ w rb mb bb N l z F U W → Calls Tryz.prog 14 #[.agg #[.pointer (some ⟨rb, 0, none⟩), .pointer (some ⟨mb, 0, none⟩)]] W fun e w' => e = .returned (.bool true) ∧ BP w' rb mb w.heap.size ∧ DQ w rb mb bb N l z F U w' := fun W h => h.stands
  have g2 : ∀ W, DQ w rb mb bb N l z F U W → Calls Tryz.prog 14 #[.agg #[.pointer (some ⟨rb, 0, none⟩), .pointer (some ⟨mb, 0, none⟩)]] W fun e w' => e = .returned (.bool true) ∧ ((.returned (.bool true) : Ending) = .returned (.bool true) ∧ ∃ r1 N' U', Dn w rb mb bb N l z F U r1 N' U' w') := fun W h => h.stands.mono (fun e w' q => ⟨q.1, rfl, q.2.2.1⟩)
  have fin : ∀ {f : FuncId} {val : Value} {r1 : Rs} (W : World), (Q w rb mb bb N l z F U r1 r W) → (∀ {a : Option Addr} {c : Nat}, Rrd W mb a l c z r → Calls Tryz.prog f #[.pointer (some ⟨mb, 0, none⟩)] W fun e w' => e = .returned val ∧ Rrd w' mb a l c z r1 ∧ W.grownBy w' (some mb)) → Calls Tryz.prog f #[.pointer (some ⟨mb, 0, none⟩)] W fun e w' => e = .returned val ∧ BP w' rb mb w.heap.size ∧ DQ w rb mb bb N l z F U w' := fun W h hm => (h.doc hd' hm).mono (fun e w' q => ⟨q.1, q.2.1, q.2.2.dq⟩)
  by_cases k1 : kind = 1
  · exact does_byte (KA := DQ w rb mb bb N l z F U) (KB := DQ w rb mb bb N l z F U) k1 _ (s1.prog hd' pByte_any) (fun W h => fin W h refByte_any) g1 g2
  by_cases k2 : kind = 2
  · exact does_number (KA := DQ w rb mb bb N l z F U) (KB := DQ w rb mb bb N l z F U) k2 _ (s1.prog hd' pNum_any) (fun W h => fin W h refNum_any) g1 g2
  by_cases k3 : kind = 3
  · exact does_long (KA := DQ w rb mb bb N l z F U) (KB := DQ w rb mb bb N l z F U) k3 _ (s1.prog hd' pLong_any) (fun W h => fin W h refLong_any) g1 g2
  by_cases k4 : kind = 4
  · exact does_length (KA := DQ w rb mb bb N l z F U) (KB := DQ w rb mb bb N l z F U) k4 _ (s1.prog hd' pLength_any) (fun W h => fin W h refLength_any) g1 g2
  by_cases k5 : kind = 5
  · exact does_text (KA := DQ w rb mb bb N l z F U) (KB := DQ w rb mb bb N l z F U) k5 _ (s1.prog hd' pText_any) (fun W h => fin W h refText_any) g1 g2
  by_cases k6 : kind = 6
  · refine does_data (KA := DQ w rb mb bb N l z F U) (KB := DQ w rb mb bb N l z F U) k6 _ (s1.progL hd' pData_any) (K2 := fun a m c a' m' c' W => m' = (rDat z l r).1.1 ∧ LW w W a' m' c' (fun i => z ((rDat z l r).1.2 + i)) ∧ m = (rDat z l r).1.1 ∧ LW w W a m c (fun i => z ((rDat z l r).1.2 + i)) ∧ Q w rb mb bb N l z F U (rDat z l r).2 (rDat z l r).2 W) (K3 := fun a m c W => m = (rDat z l r).1.1 ∧ LW w W a m c (fun i => z ((rDat z l r).1.2 + i)) ∧ Q w rb mb bb N l z F U (rDat z l r).2 (rDat z l r).2 W) ?_ ?_ ?_ g1 g2
    · rintro a m c W ⟨hm, h1, h2⟩
      refine (h2.docL hd' h1 refData_any).mono ?_
      rintro e w' ⟨b, m', k, q0, q1, q2, q3, q4, q5⟩
      exact ⟨b, m', k, q0, q1, q2, q3, hm, q4, q5⟩
    · rintro a m c a' m' c' W ⟨rfl, h1, hm, h2, h3⟩
      subst hm
      refine (same_d W a a' _ c c' _ (own_came h2.1 (fun i => hz _)) (own_came h1.1 (fun i => hz _))).mono ?_
      rintro e w' ⟨rfl, rfl⟩
      exact ⟨rfl, h3.bp, rfl, h2, h3⟩
    · rintro a m c W ⟨rfl, h1, h2⟩
      exact h2.lay hd' hU hN h1 (by have := rDat_le hz l r; omega) (fun i => hz _) mark
  by_cases k7 : kind = 7
  · refine does_rest (KA := DQ w rb mb bb N l z F U) (KB := DQ w rb mb bb N l z F U) k7 _ (s1.progL hd' pRest_any) (K2 := fun a m c a' m' c' W => m' = (rRst l r).1 ∧ LW w W a' m' c' (fun i => z (r.at0 + i)) ∧ m = (rRst l r).1 ∧ LW w W a m c (fun i => z (r.at0 + i)) ∧ Q w rb mb bb N l z F U (rRst l r).2 (rRst l r).2 W) (K3 := fun a m c W => m = (rRst l r).1 ∧ LW w W a m c (fun i => z (r.at0 + i)) ∧ Q w rb mb bb N l z F U (rRst l r).2 (rRst l r).2 W) ?_ ?_ ?_ g1 g2
    · rintro a m c W ⟨hm, h1, h2⟩
      refine (h2.docL hd' h1 refRest_any).mono ?_
      rintro e w' ⟨b, m', k, q0, q1, q2, q3, q4, q5⟩
      exact ⟨b, m', k, q0, q1, q2, q3, hm, q4, q5⟩
    · rintro a m c a' m' c' W ⟨rfl, h1, hm, h2, h3⟩
      subst hm
      refine (same_d W a a' _ c c' _ (own_came h2.1 (fun i => hz _)) (own_came h1.1 (fun i => hz _))).mono ?_
      rintro e w' ⟨rfl, rfl⟩
      exact ⟨rfl, h3.bp, rfl, h2, h3⟩
    · rintro a m c W ⟨rfl, h1, h2⟩
      exact h2.lay hd' hU hN h1 (by have := rRst_le l r; omega) (fun i => hz _) mark
  by_cases k8 : kind = 8
  · exact does_end (KA := DQ w rb mb bb N l z F U) (KB := DQ w rb mb bb N l z F U) k8 _ (s0.prog hd' pEnd_any) (fun W h => fin W h refEnd_any) g1 g2
  exact does_else (KA := DQ w rb mb bb N l z F U) (KB := DQ w rb mb bb N l z F U) ⟨k1, k2, k3, k4, k5, k6, k7, k8⟩ _ s0.dq g1 g2
end Go.Proofs.YtkjeneklkdekoaaGreatDoor
namespace Go.Proofs.YtkjeneklkdekoaaGreatDoor
open Go Go.RowKit
set_option linter.unusedSimpArgs false
set_option linter.unusedVariables false

/-! ### WireReads, walked over contracts -/
end Go.Proofs.YtkjeneklkdekoaaGreatDoor
namespace Go.Proofs.YtkjeneklkdekoaaGreatDoor
open Go Go.RowKit
set_option linter.unusedSimpArgs false
set_option linter.unusedVariables false

end Go.Proofs.YtkjeneklkdekoaaGreatDoor
namespace Go.Proofs.YtkjeneklkdekoaaGreatDoor
open Go Go.RowKit
set_option linter.unusedSimpArgs false
set_option linter.unusedVariables false

theorem built83 (a : Option Addr) (n k : Nat) : Tryz.prog.built 83 [(0, .slice a n k)] = some #[.slice a n k, .int .i64 0, .int .i64 0, .int .i64 0] := by kernel_rfl
theorem came_cl {w : World} {a : Option Addr} {l k : Nat} {z : Nat → Int} (h : Came w a l k z) : CL w a l k (cellsOf z l) := by
  obtain ⟨h1, h2, h3⟩ := came_byt h
  refine ⟨h1, by simp [cellsOf], ?_⟩
  rcases h3 with q | ⟨b, off, e, hc⟩
  · exact .inl q
  · refine .inr ⟨b, off, e, fun j hj => ?_⟩
    rw [hc j hj, cellsOf_at z l j hj]
set_option maxRecDepth 100000 in
set_option maxHeartbeats 1000000 in
/-- The document's Read. -/
theorem refRead_any {w : World} {ao : Option Addr} {l k : Nat} {z : Nat → Int} (h : Came w ao l k z) (hl : l ≤ 300000) : Calls Tryz.prog 13 #[.slice ao l k] w fun e w' => ∃ mb a c, e = .returned (.pointer (some ⟨mb, 0, none⟩)) ∧ Rrd w' mb a l c z ⟨0, 0, 0⟩ ∧ w.heap.size ≤ mb ∧ (∀ g, a = some ⟨g, 0, none⟩ → w.heap.size ≤ g) ∧ Below w.heap.size w w' := by
  obtain ⟨a, c, w1, hr, ho, hb⟩ := nil_run (w := w) 22 ao l k (cellsOf z l) (came_cl h) (fun u hu => cellsOf_one z l u hu) (by omega)
  have HRUN := hidi hr
  have hb83 : ∀ w', (Instr.build 83 #[(0, .slice a l c)]).run Tryz.prog w' = .ok (.agg #[.slice a l c, .int .i64 0, .int .i64 0, .int .i64 0]) w' := fun w' => run_build w' 83 _ _ (built83 a l c)
  have hbel : Below w.heap.size w (w1.alloc (.cells #[.slice a l c, .int .i64 0, .int .i64 0, .int .i64 0] 83)) := hb.alloc hb.size _
  have hcm : Came (w1.alloc (.cells #[.slice a l c, .int .i64 0, .int .i64 0, .int .i64 0] 83)) a l c z := came_below (B := 0) (ownv_came (own_zero ho) rfl h.2.1) ((Below.refl _ _).alloc (Nat.le_refl _) _)
  have hsh : a = none ∨ ∃ g, a = some ⟨g, 0, none⟩ ∧ w.heap.size ≤ g ∧ g < w1.heap.size := by
    rcases ho.2 with ⟨q, _⟩ | ⟨g, cap, cur, q, e1, hg, _⟩
    · injection q with q1 q2 q3
      exact .inl q1
    · injection q with q1 q2 q3
      exact .inr ⟨g, q1, e1, lt_of_block hg⟩
  have Z : Hid (∃ mb a' c', (.returned (.pointer (some ⟨w1.heap.size, 0, none⟩)) : Ending) = .returned (.pointer (some ⟨mb, 0, none⟩)) ∧ Rrd (w1.alloc (.cells #[.slice a l c, .int .i64 0, .int .i64 0, .int .i64 0] 83)) mb a' l c' z ⟨0, 0, 0⟩ ∧ w.heap.size ≤ mb ∧ (∀ g, a' = some ⟨g, 0, none⟩ → w.heap.size ≤ g) ∧ Below w.heap.size w (w1.alloc (.cells #[.slice a l c, .int .i64 0, .int .i64 0, .int .i64 0] 83))) := by
    refine ⟨w1.heap.size, a, c, rfl, ⟨heap_alloc_new w1 _, hcm, ?_, Nat.zero_le _, hl⟩, hb.size, fun g e => ?_, hbel⟩
    · rcases hsh with q | ⟨g, q, _, q2⟩
      · exact .inl q
      · exact .inr ⟨g, q, by omega⟩
    · rcases hsh with q | ⟨g', q, q1, _⟩
      · rw [q] at e
        cases e
      · rw [q] at e
        cases e
        exact q1
  clear h hl hr ho hb hbel hcm hsh
  go_enter Tryz.func13, Tryz.ntmps13
  go_wp2_with (at_builtin; refine Lib.wpList_append_run _ rfl (.tmp 4) (.tmp 5) 22 22 rfl _ _ rfl rfl _ w1 HRUN.out ?_)
  all_goals (try go_ret)
  all_goals exact Z.out
end Go.Proofs.YtkjeneklkdekoaaGreatDoor
namespace Go.Proofs.YtkjeneklkdekoaaGreatDoor
open Go Go.RowKit
set_option linter.unusedSimpArgs false
set_option linter.unusedVariables false

/-! ### WireReads: what is in memory -/
/-- A pair that was made. -/
theorem pa_made {w1 w2 : World} {n0 r m l c c' : Nat} {a a' : Option Addr} {z : Nat → Int} {t : Rs} (h1 : Wrd w1 r a l c z t) (g1 : n0 ≤ r) (g2 : ∀ g, a = some ⟨g, 0, none⟩ → n0 ≤ g) (hs : n0 ≤ w1.heap.size) (hb : Below w1.heap.size w1 w2) (h2 : Rrd w2 m a' l c' z t) (g3 : w1.heap.size ≤ m) (g4 : ∀ g, a' = some ⟨g, 0, none⟩ → w1.heap.size ≤ g) : ∃ F, Pa w2 r m l z t t F ∧ ∀ k, F k → n0 ≤ k := by
  have hr : r < w1.heap.size := lt_of_block h1.rr
  have hm : m < w2.heap.size := lt_of_block h2.rr
  have hs2 := hb.size
  have ga : ∀ g, a = some ⟨g, 0, none⟩ → 0 < l → g < w1.heap.size := fun g e q => by
    subst e
    exact lt_of_cell (came_cell h1.cm q)
  have ga' : ∀ g, a' = some ⟨g, 0, none⟩ → 0 < l → g < w2.heap.size := fun g e q => by
    subst e
    exact lt_of_cell (came_cell h2.cm q)
  refine ⟨fun k => k = r ∨ k = m ∨ (0 < l ∧ (a = some ⟨k, 0, none⟩ ∨ a' = some ⟨k, 0, none⟩)), ⟨⟨a, c, a', c', h1.below hb, h2, fun g e q => ⟨.inr (.inr ⟨q, .inl e⟩), fun x => ?_⟩, fun g e q => ⟨.inr (.inr ⟨q, .inr e⟩), fun x => ?_⟩⟩, by omega, .inl rfl, .inr (.inl rfl), fun k q => ?_⟩, fun k q => ?_⟩
  · have := ga g e q
    omega
  · have := g4 g e
    omega
  · rcases q with rfl | rfl | ⟨q, e | e⟩
    · omega
    · exact hm
    · have := ga k e q
      omega
    · exact ga' k e q
  · rcases q with rfl | rfl | ⟨q, e | e⟩
    · exact g1
    · omega
    · exact g2 k e
    · have := g4 k e
      omega
/-- The state of WireReads. -/
structure SR (w : World) (l0 l1 g1 g2 r1 m1 r2 m2 s N : Nat) (z0 z1 : Nat → Int) (U V F1 F2 : Nat → Prop) (ta tb : Rs) (W : World) : Prop where
  bk : Bk W (w.heap.size + 1) N U
  r2' : R2 W w.heap.size w.heap.size g1 l0 g2 l1 V
  p1 : Pa W r1 m1 l0 z0 ta ta F1
  p2 : Pa W r2 m2 l1 z1 tb tb F2
  pc : W.heap[s]? = some (.cells #[.pointer (some ⟨r1, 0, none⟩), .pointer (some ⟨m1, 0, none⟩), .pointer (some ⟨r2, 0, none⟩), .pointer (some ⟨m2, 0, none⟩)] 60 (0, 0))
  d1 : ∀ k, U k → ¬ V k ∧ ¬ F1 k ∧ ¬ F2 k ∧ k ≠ s
  d2 : ∀ k, V k → ¬ F1 k ∧ ¬ F2 k ∧ k ≠ s
  d3 : ∀ k, F1 k → ¬ F2 k ∧ k ≠ s
  d4 : ∀ k, F2 k → k ≠ s
  lo : ∀ k, U k ∨ V k ∨ F1 k ∨ F2 k → w.heap.size ≤ k
  x1 : ∀ j, j < l0 → ∃ v, W.cell? ⟨g1, j, none⟩ = some (.int .u8 v)
  x2 : ∀ j, j < l1 → ∃ v, W.cell? ⟨g2, j, none⟩ = some (.int .u8 v)
  ne : g1 ≠ g2
  v1 : V g1
  v2 : V g2
  be : Below w.heap.size w W
theorem R2.same {W W' : World} {R base g1 l0 g2 l1 : Nat} {V : Nat → Prop} (h : R2 W R base g1 l0 g2 l1 V) (v1 : V g1) (v2 : V g2) (hk : ∀ k, V k → W'.heap[k]? = W.heap[k]?) : R2 W' R base g1 l0 g2 l1 V := by
  obtain ⟨⟨d1, e1⟩, d2, e2⟩ := h.lists
  exact h.keep (fun j q _ _ => hk j q) ⟨d1, (hk g1 v1).trans e1⟩ ⟨d2, (hk g2 v2).trans e2⟩ (fun j _ => cell_alike (hk g1 v1)) (fun j _ => cell_alike (hk g2 v2))
theorem SR.below {w : World} {l0 l1 g1 g2 r1 m1 r2 m2 s N : Nat} {z0 z1 : Nat → Int} {U V F1 F2 : Nat → Prop} {ta tb : Rs} {W W' : World} (h : SR w l0 l1 g1 g2 r1 m1 r2 m2 s N z0 z1 U V F1 F2 ta tb W) (hb : Below W.heap.size W W') : SR w l0 l1 g1 g2 r1 m1 r2 m2 s N z0 z1 U V F1 F2 ta tb W' :=
  ⟨h.bk.keep (fun k q => hb.block k (h.bk.lt q)), h.r2'.same h.v1 h.v2 (fun k q => hb.block k (h.r2'.lt q)), h.p1.below hb, h.p2.below hb, (hb.block s (lt_of_block h.pc)).trans h.pc, h.d1, h.d2, h.d3, h.d4, h.lo,
    fun j q => by obtain ⟨v, e⟩ := h.x1 j q; exact ⟨v, (cell_alike (hb.block g1 (h.r2'.lt h.v1))).trans e⟩, fun j q => by obtain ⟨v, e⟩ := h.x2 j q; exact ⟨v, (cell_alike (hb.block g2 (h.r2'.lt h.v2))).trans e⟩, h.ne, h.v1, h.v2, h.be.trans (hb.mono h.be.size)⟩
/-- A script that came in: kinds, and whose. -/
def ScR (W : World) (a : Option Addr) (ops : List (Int × Bool)) : Prop := ops ≠ [] → ∃ g o, a = some ⟨g, o, none⟩ ∧ ∀ j k b, ops[j]? = some (k, b) → W.cell? ⟨g, o + j * 2, none⟩ = some (.int .i64 k) ∧ W.cell? ⟨g, o + j * 2 + 1, none⟩ = some (.bool b)
end Go.Proofs.YtkjeneklkdekoaaGreatDoor
