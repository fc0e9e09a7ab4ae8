import Derived.Test.YtcoccggimbficaaDoorFb
namespace Go.Proofs.YtcoccggimbficaaDoor
open Go Go.RowKit Go.Sort
set_option linter.unusedSimpArgs false
set_option linter.unusedVariables false

theorem many_any (n : Int) (w : World) : Calls Tryd.prog 39 #[.int .i64 n] w fun e w' => e = .returned (.pointer (some ⟨w.heap.size, 0, none⟩)) ∧ w' = w.alloc (.cells #[.int .i64 n] 74) := by
  go_enter Tryd.func39, Tryd.ntmps39
  go_wp2
  go_ret
  exact ⟨rfl, rfl⟩

set_option maxHeartbeats 1000000 in
set_option maxRecDepth 100000 in
theorem packets_any (p : Pk) (c : Cn) (w : World) (g h0 : Nat) (x : Int) (h : Cb w g x) (hin : In w p c) (ho : Off g p) (hf : Fit p c) (h2 : x ≤ 1000000000) (h3 : 0 ≤ x) (hb : w.heap[h0]? = some (.cells (pkCells p) 31)) (hne : h0 ≠ g) :
    Calls Tryd.prog 40 #[.pointer (some ⟨g, 0, none⟩), .slice (some ⟨h0, 0, none⟩) 1 1] w fun e w' => ∃ y, e = .returned (.tuple #[]) ∧ Cg g y w w' ∧ St x (parts p c) y := by
  have HB : Hid (w.heap[h0]? = some (.cells (pkCells p) 31)) := hb
  have HC : Hid (Cb w g x) := h
  have HP : Hid (Calls Tryd.prog 49 #[.pointer (some ⟨g, 0, none⟩), .agg (pkCells p)] w fun e w' => ∃ y, e = .returned (.tuple #[]) ∧ Cg g y w w' ∧ St x (parts p c) y) := cpacket_any p c w g x h hin ho hf h2 (by omega)
  clear hb h hin ho hf
  go_enter Tryd.func40, Tryd.ntmps40
  go_wp2_with fail
  go_loopg [4] 1 (fun gg s4 wx => ∃ (k : Nat) (y : Int), s4 = .int .i64 k ∧ k + gg = 1 ∧ Hid (k = 0 → wx = w ∧ y = x) ∧ Hid (Cg g y w wx) ∧ Hid (k = 1 → St x (parts p c) y))
  case atStart => exact ⟨0, x, rfl, rfl, fun _ => ⟨rfl, rfl⟩, Cg.refl HC.out, fun h => by cases h⟩
  case round =>
    obtain ⟨k, y, rfl, hkg, H0, C1, S1⟩ := hrel
    by_cases hk : k = 0
    · obtain ⟨e1, e2⟩ := H0.out hk
      subst hk
      rw [e2] at C1 
      subst e1
      obtain ⟨gg, hg⟩ : ∃ gg, gk = gg + 1 := ⟨gk - 1, by omega⟩
      clear H0 S1
      go_wp2_with fail
      go_must (go_at_call 41)
      refine (ok_any _ g x HC.out).mono ?_
      rintro e w1 ⟨rfl, hw1⟩
      obtain rfl := hw1.symm
      clear hw1
      rw [decide_eq_true h3]
      go_wp2_with (refine wpList_load_wanted rfl _ rfl h0 rfl _ (0, 0) HB.out rfl ?_)
      go_must (go_at_call 49)
      refine HP.out.mono ?_
      rintro e w2 ⟨z, rfl, hc2, st2⟩
      have C2 : Hid (Cg g z wr w2) := hc2
      have S2 : Hid (St x (parts p c) z) := st2
      clear hc2 st2
      go_wp2
      go_roundg gg
      case measure => omega
      case rel => exact ⟨1, z, by first | rfl | simp, by omega, fun h => (by cases h), C2, fun _ => S2.out⟩
    · obtain rfl : k = 1 := by omega
      have S2 : Hid (St x (parts p c) y) := S1.out rfl
      go_wp2
      go_end0
      first | exact ⟨y, rfl, C1.out, S2.out⟩ | exact ⟨rfl, y, C1.out, S2.out⟩

set_option maxHeartbeats 1000000 in
set_option maxRecDepth 100000 in
/-- Is a packet of no great size? -/
theorem few_any (p : Pk) (c : Cn) (w : World) (h0 : Nat) (hin : In w p c) (hf : Fit p c) (hb : w.heap[h0]? = some (.cells (pkCells p) 31)) :
    Calls Tryd.prog 20 #[.slice (some ⟨h0, 0, none⟩) 1 1] w fun e w' => ∃ b, e = .returned (.bool b) ∧ Below w.heap.size w w' ∧ (b = true → parts p c ≤ 300000) := by
  have bb : Below w.heap.size w (w.alloc (.cells #[.int .i64 300000] 74)) := (Below.refl _ _).alloc (Nat.le_refl _) _
  have hlt : h0 < w.heap.size := block_lt hb
  have oo : Off w.heap.size p := by
    refine ⟨fun hn b off e he => ?_, fun hn b off e he => ?_⟩
    · obtain ⟨_, h2 | ⟨b', off', e', h2⟩⟩ := hin.asks
      · omega
      · have h3 := World.block_lt_of_cell? _ _ (h2 0 hn).1
        rw [e] at e'
        simp only [Option.some.injEq, Addr.mk.injEq] at e'
        simp only at h3
        omega
    · obtain ⟨_, h2 | ⟨b', off', e', h2⟩⟩ := hin.filters
      · omega
      · have h3 := World.block_lt_of_cell? _ _ (h2 0 hn)
        rw [e] at e'
        simp only [Option.some.injEq, Addr.mk.injEq] at e'
        simp only at h3
        omega
  have HP : Hid (Calls Tryd.prog 40 #[.pointer (some ⟨w.heap.size, 0, none⟩), .slice (some ⟨h0, 0, none⟩) 1 1] (w.alloc (.cells #[.int .i64 300000] 74)) fun e w' => ∃ y, e = .returned (.tuple #[]) ∧ Cg w.heap.size y (w.alloc (.cells #[.int .i64 300000] 74)) w' ∧ St 300000 (parts p c) y) :=
    packets_any p c _ w.heap.size h0 300000 (heap_alloc_new w _) (hin.below bb) oo hf (by decide) (by decide) ((heap_alloc_old w _ hlt).trans hb) (by omega)
  clear hin hf hb oo hlt bb
  go_enter Tryd.func20, Tryd.ntmps20
  go_wp2_with fail
  go_must (go_at_call 39)
  refine (many_any _ _).mono ?_
  rintro e w1 ⟨rfl, rfl⟩
  go_wp2_with fail
  go_must (go_at_call 40)
  refine HP.out.mono ?_
  rintro e w2 ⟨y, rfl, hc2, st2⟩
  have C2 : Hid (Cg w.heap.size y (w.alloc (.cells #[.int .i64 300000] 74)) w2) := hc2
  have S2 : Hid (St 300000 (parts p c) y) := st2
  clear hc2 st2
  go_wp2_with fail
  go_must (go_at_call 41)
  refine (ok_any _ _ y C2.out.blk).mono ?_
  rintro e w3 ⟨rfl, hw3⟩
  obtain rfl := hw3.symm
  clear hw3
  go_wp2
  go_ret
  refine ⟨decide (0 ≤ y), rfl, ?_, fun h => ?_⟩
  · have hs : (w.alloc (.cells #[.int .i64 300000] 74)).heap.size = w.heap.size + 1 := by show (w.heap.push _).size = _; simp
    refine ⟨C2.out.os, C2.out.tape, C2.out.output, by have := C2.out.size; omega, fun k hk => ?_⟩
    rw [C2.out.keep k (by omega) (by omega)]
    exact heap_alloc_old w _ hk
  · have hy : 0 ≤ y := of_decide_eq_true h
    have := S2.out.1 hy
    omega
end Go.Proofs.YtcoccggimbficaaDoor
