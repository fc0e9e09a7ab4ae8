import Derived.Test.YtkjeneklkdekoaaGreatDoorByg
namespace Go.Proofs.YtkjeneklkdekoaaGreatDoor
open Go Go.RowKit
set_option linter.unusedSimpArgs false
set_option linter.unusedVariables false

set_option maxRecDepth 100000 in
set_option maxHeartbeats 1000000 in
theorem wputs_long {w : World} {ab ad : Option Addr} {l0 kb l1 kd : Nat} {n : Int} {s : ByteArray} (h : 140000 < l0 ∨ 140000 < s.size ∨ 140000 < l1) :
    Calls Tryz.prog 3 #[.slice ab l0 kb, .int .i64 n, .string s, .slice ad l1 kd] w fun e w' => e = .returned (.bool true) ∧ Below w.heap.size w w' := by
  have B0 : Hid (Below w.heap.size w w) := Below.refl _ _
  by_cases i1 : 140000 < l0
  · have i1' : (140000 : Int) < l0 := by omega
    go_enter Tryz.func3, Tryz.ntmps3
    go_wp2_with fail
    (try go_ret)
    exact ⟨rfl, B0.out⟩
  have i1' : ¬ (140000 : Int) < l0 := by omega
  by_cases i2 : 140000 < s.size
  · have i2' : (140000 : Int) < s.size := by omega
    go_enter Tryz.func3, Tryz.ntmps3
    go_wp2_with fail
    (try go_ret)
    exact ⟨rfl, B0.out⟩
  have i2' : ¬ (140000 : Int) < s.size := by omega
  have i3' : (140000 : Int) < l1 := by omega
  go_enter Tryz.func3, Tryz.ntmps3
  go_wp2_with fail
  (try go_ret)
  exact ⟨rfl, B0.out⟩
theorem rm0_nil : rm0 = Rm.nil28 := rfl
/-- Behind the first list. -/
def W1 (w : World) (l0 : Nat) (z0 : Nat → Int) (g1 : Nat) (W : World) : Prop := ∃ cs vb va xsb xsa cp, Rm.Rq W w.heap.size w.heap.size 1 cs vb va xsb xsa ∧ xsb = [.slice (some ⟨g1, 0, none⟩) (l0 + 600) cp] ∧ xsa = [.int .i64 (l0 : Nat)] ∧ Came W (some ⟨g1, 0, none⟩) l0 (l0 + 600) z0 ∧ (∃ c, W.heap[g1]? = some (.cells c 5 (0, 0))) ∧ w.heap.size + 2 ≤ g1 ∧ Below w.heap.size w W ∧ W.heap[w.heap.size + 1]? = some (.cells bk0 47 (0, 0))
set_option maxHeartbeats 1000000 in
/-- WIREPUTS, WHOLE. -/
theorem wputs_any {w : World} {ab ad : Option Addr} {l0 kb l1 kd : Nat} (n : Int) (s : ByteArray) {z0 z1 : Nat → Int} (hb : Came w ab l0 kb z0) (hd : Came w ad l1 kd z1) :
    Calls Tryz.prog 3 #[.slice ab l0 kb, .int .i64 n, .string s, .slice ad l1 kd] w fun e w' => e = .returned (.bool true) ∧ Below w.heap.size w w' := by
  by_cases hlong : 140000 < l0 ∨ 140000 < s.size ∨ 140000 < l1
  · exact wputs_long hlong
  have hl0 : ¬ 140000 < l0 := fun q => hlong (.inl q)
  have hs : ¬ 140000 < s.size := fun q => hlong (.inr (.inl q))
  have hl1 : ¬ 140000 < l1 := fun q => hlong (.inr (.inr q))
  have cb : ∀ W, Below w.heap.size w W → Came W ab l0 kb z0 := fun W b => came_below (B := 0) hb b
  have cd : ∀ W, Below w.heap.size w W → Came W ad l1 kd z1 := fun W b => came_below (B := 0) hd b
  have hz0 := hb.2.1
  have hz1 := hd.2.1
  refine wputs_walk (z0 := z0) (z1 := z1) hl0 hs hl1 _ (K1 := W1 w l0 z0) (K2 := fun _ _ _ => True)
    (fun g1 g2 i W => ∃ U V, SW w l0 l1 g1 g2 (5 * i) z0 z1 U V W)
    (K3 := fun g1 g2 i W => ∃ U V, SW w l0 l1 g1 g2 (5 * (i + 1)) z0 z1 U V W) (K4 := fun g1 g2 i W => ∃ U V, SW w l0 l1 g1 g2 (5 * (i + 1)) z0 z1 U V W) (K5 := fun g1 g2 i W => ∃ U V, SW w l0 l1 g1 g2 (5 * (i + 1)) z0 z1 U V W)
    (fun g1 g2 i W => ∃ U V, SW w l0 l1 g1 g2 10 (tz z0 1 i) z1 U V W)
    (fun g1 g2 i W => ∃ U V, SW w l0 l1 g1 g2 10 (tz z0 1 l0) (tz z1 3 i) U V W)
    (K7 := fun g1 g2 a c W => (∃ U V, SW w l0 l1 g1 g2 10 (tz z0 1 l0) (tz z1 3 l1) U V W) ∧ Came W a l0 c (tz z0 1 l0))
    (K8 := fun g1 g2 a c a' c' W => (∃ U V, SW w l0 l1 g1 g2 10 (tz z0 1 l0) (tz z1 3 l1) U V W) ∧ Came W a l0 c (tz z0 1 l0) ∧ Came W a' l1 c' (tz z1 3 l1))
    (K9 := fun W => ∃ g1 g2 U V, SW w l0 l1 g1 g2 15 (tz z0 1 l0) (tz z1 3 l1) U V W) (K10 := fun W => ∃ g1 g2 U V, SW w l0 l1 g1 g2 15 (tz z0 1 l0) (tz z1 3 l1) U V W)
    ?_ ?_ ?_ ?_ ?_ ?_ ?_ ?_ ?_ ?_ ?_ ?_ ?_ ?_ ?_
  · -- the room's first list
    rw [rm0_nil]
    have hq0 := Rm.Rq.start w
    have hB : Below w.heap.size w ((w.alloc (.cells Rm.nil28 40)).alloc (.cells bk0 47)) := ((Below.refl _ _).alloc (Nat.le_refl _) _).alloc (by simp) _
    have hq : Rm.Rq ((w.alloc (.cells Rm.nil28 40)).alloc (.cells bk0 47)) w.heap.size w.heap.size 0 Rm.nil28 (.slice none 0 0) (.slice none 0 0) [] [] := by
      refine ⟨?_, hq0.c0, hq0.c1, hq0.nil, hq0.bs, World.ownsRow_nil _ _ _ _, World.ownsRow_nil _ _ _ _, fun i hi => by omega⟩
      rw [Below.heap_alloc _ _ _ (by simp)]
      exact hq0.at_
    have hbb : ((w.alloc (.cells Rm.nil28 40)).alloc (.cells bk0 47)).heap[w.heap.size + 1]? = some (.cells bk0 47 (0, 0)) := heap_alloc2_new w _ _
    refine (lay2 hq (by omega) ab l0 kb z0 (by omega) (cb _ hB)).mono ?_
    rintro e w' ⟨g, cs, vb, va, xsb, xsa, cp, rfl, hg, q1, q2, q3, rfl, rfl, q4⟩
    refine ⟨g, rfl, cs, vb, va, _, _, cp, q1, rfl, rfl, q2, q4, ?_, hB.trans q3.1, (q3.2 _ _ 47 (.inr rfl) hbb).trans hbb⟩
    simp at hg
    omega
  · -- the second
    rintro g1 W ⟨cs, vb, va, xsb, xsa, cp1, q1, rfl, rfl, q2, ⟨c1, q3⟩, q4, q5, q6⟩
    refine (lay2 q1 (by omega) ad l1 kd z1 (by omega) (cd _ q5)).mono ?_
    rintro e w' ⟨g2, cs', vb', va', xsb', xsa', cp2, rfl, hg, r1, r2, r3, rfl, rfl, c2, r4⟩
    have k1 : w'.heap[g1]? = some (.cells c1 5 (0, 0)) := (r3.2 g1 c1 5 (.inl rfl) q3).trans q3
    have k6 : w'.heap[w.heap.size + 1]? = some (.cells bk0 47 (0, 0)) := (r3.2 _ _ 47 (.inr rfl) q6).trans q6
    have hlt := lt_of_block q3
    refine ⟨g2, rfl, fun k => k = w.heap.size + 1, fun k => k = w.heap.size ∨ vb'.ownBlock = some k ∨ va'.ownBlock = some k ∨ k = g1 ∨ k = g2, ⟨?_, ⟨cs', vb', va', _, _, cp1, cp2, r1, rfl, rfl, fun k => Iff.rfl⟩, ?_, ?_, came_heap q2 (k1.trans q3.symm), r2, by omega, .inr (.inr (.inr (.inl rfl))), .inr (.inr (.inr (.inr rfl))), q5.trans r3.1⟩⟩
    · exact bk_start k6 bk0_hd bk0_rows
    · rintro k rfl hv
      rcases hv with q | q | q | q | q
      · omega
      · obtain ⟨c, hc⟩ := own_blk r1.ob q
        rw [k6] at hc
        simp at hc
      · obtain ⟨c, hc⟩ := own_blk r1.oa q
        rw [k6] at hc
        simp at hc
      · omega
      · rw [← q, k6] at r4
        simp at r4
    · intro k q
      rcases q with q | q | q | q | q | q
      · omega
      · omega
      · exact (r1.ob.lt k q).1
      · exact (r1.oa.lt k q).1
      · omega
      · have := q5.size
        omega
  · -- puts
    rintro g1 g2 i W hi ⟨U, V, h⟩
    refine (puts_any h.bk (by omega) n _ s h.c1 (cb W h.be) h.c2 (cd W h.be) (by omega) (by omega) (by omega)).mono ?_
    rintro e w' ⟨rfl, q⟩
    obtain ⟨U', q'⟩ := h.puts q
    exact ⟨rfl, U', V, by rw [show 5 * (i + 1) = 5 * i + 5 by omega]; exact q'⟩
  · rintro g1 g2 i W ⟨U, V, h⟩
    refine (same_d W _ _ l0 _ kb z0 h.c1 (cb W h.be)).mono ?_
    rintro e w' ⟨rfl, rfl⟩
    exact ⟨rfl, U, V, h⟩
  · rintro g1 g2 i W ⟨U, V, h⟩
    refine (same_d W _ _ l1 _ kd z1 h.c2 (cd W h.be)).mono ?_
    rintro e w' ⟨rfl, rfl⟩
    exact ⟨rfl, U, V, h⟩
  · rintro g1 g2 i W ⟨U, V, h⟩
    refine (h.r2.hold).mono ?_
    rintro e w' ⟨rfl, rfl⟩
    exact ⟨rfl, U, V, h⟩
  · rintro g1 g2 W ⟨U, V, h⟩
    refine ⟨U, V, ?_⟩
    have e : tz z0 1 0 = z0 := by funext j; simp [tz]
    rw [e]
    exact h
  · rintro g1 g2 i W hi ⟨U, V, h⟩
    obtain ⟨q1, q2, q3⟩ := h.write1 hz0 hi
    exact ⟨q1, q2, U, V, q3⟩
  · rintro g1 g2 W ⟨U, V, h⟩
    refine ⟨U, V, ?_⟩
    have e : tz z1 3 0 = z1 := by funext j; simp [tz]
    rw [e]
    exact h
  · rintro g1 g2 i W hi ⟨U, V, h⟩
    obtain ⟨q1, q2, q3⟩ := h.write2 hz1 hi
    exact ⟨q1, q2, U, V, q3⟩
  · rintro g1 g2 W ⟨U, V, h⟩
    refine (bz_behind _ none l0 (l0 + 600) 0 0 (tz z0 1 l0) (fun _ => 0) W h.c1 ⟨Nat.le_refl _, fun _ => by simp, .inl ⟨rfl, rfl, rfl⟩⟩ (by omega) (by omega)).mono ?_
    rintro e w' ⟨a, c, rfl, q1, q2⟩
    exact ⟨a, c, rfl, ⟨U, V, h.below q2⟩, came_cong2 q1 (tz_bd hz0 _ _) (fun i hi => by simp [cat]; omega)⟩
  · rintro g1 g2 a c W ⟨⟨U, V, h⟩, hc⟩
    refine (bz_behind _ none l1 (l1 + 600) 0 0 (tz z1 3 l1) (fun _ => 0) W h.c2 ⟨Nat.le_refl _, fun _ => by simp, .inl ⟨rfl, rfl, rfl⟩⟩ (by omega) (by omega)).mono ?_
    rintro e w' ⟨a', c', rfl, q1, q2⟩
    exact ⟨a', c', rfl, ⟨U, V, h.below q2⟩, came_below (B := 0) hc q2, came_cong2 q1 (tz_bd hz1 _ _) (fun i hi => by simp [cat]; omega)⟩
  · rintro g1 g2 a c a' c' W ⟨⟨U, V, h⟩, hc, hc'⟩
    refine (puts_any h.bk (by omega) n _ s h.c1 hc h.c2 hc' (by omega) (by omega) (by omega)).mono ?_
    rintro e w' ⟨rfl, q⟩
    obtain ⟨U', q'⟩ := h.puts q
    exact ⟨rfl, g1, g2, U', V, q'⟩
  · rintro W ⟨g1, g2, U, V, h⟩
    refine (bk_hold h.bk (by omega)).mono ?_
    rintro e w' ⟨rfl, q⟩
    exact ⟨rfl, g1, g2, U, V, h.below q⟩
  · rintro W ⟨g1, g2, U, V, h⟩
    refine (h.r2.hold).mono ?_
    rintro e w' ⟨rfl, rfl⟩
    exact ⟨rfl, rfl, h.be⟩
end Go.Proofs.YtkjeneklkdekoaaGreatDoor
