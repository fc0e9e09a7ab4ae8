import Derived.Test.YtibihbclijpkjaaGreatDoorFdr
import Derived.Test.YtibihbclijpkjaaGreatDoorPWm
import Derived.Deep.LoopGhost
namespace Go.Proofs.YtibihbclijpkjaaGreatDoor
open Go Go.RowKit
set_option linter.unusedSimpArgs false
set_option linter.unusedVariables false

theorem clamp_any (m : Int) (w : World) : Calls Tryz.prog 17 #[.int .i64 m] w fun e w' => e = .returned (.int .i64 (clampM m)) ∧ w' = w := by
  go_enter Tryz.func17, Tryz.ntmps17
  go_wp2
  go_ret
  exact ⟨rfl, rfl⟩
theorem f45_info : (Tryz.prog.info? 45).map (·.size) = some 2 := by kernel_rfl
set_option maxRecDepth 100000 in
set_option maxHeartbeats 1000000 in
theorem told_nil (w : World) : Calls Tryz.prog 18 #[.nilIface] w fun e w' => e = .returned (.tuple #[.agg #[.int .i64 0, .int .i64 0], .bool true]) ∧ Below w.heap.size w w' := by
  have B : Hid (Below w.heap.size w (w.alloc (.cells #[.int .i64 0, .int .i64 0] 45))) := (Below.refl _ _).alloc (Nat.le_refl _) _
  go_enter Tryz.func18, Tryz.ntmps18
  go_wp2
  refine bodyPost_ret (results_row_tmp rfl _ _ w.heap.size 45 #[.int .i64 0, .int .i64 0] (0, 0) _ rfl (heap_alloc_new w _) Tryz.underlying45 rfl f45_info) rfl ?_
  exact ⟨rfl, B.out⟩
set_option maxRecDepth 100000 in
set_option maxHeartbeats 1000000 in
theorem told_fault (gg : Nat) (x y : Int) (w : World) (hg : w.heap[gg]? = some (.cells #[.int .i64 x, .int .i64 y] 81 (0, 0))) (hy : y ≠ 0) :
    Calls Tryz.prog 18 #[.iface 78 (.pointer (some ⟨gg, 0, none⟩))] w fun e w' => e = .returned (.tuple #[.agg #[.int .i64 x, .int .i64 y], .bool true]) ∧ Below w.heap.size w w' := by
  obtain ⟨W1, hW1⟩ : ∃ W, W = w.alloc (.cells #[.int .i64 0, .int .i64 0] 45) := ⟨_, rfl⟩
  have B1 : Hid (Below w.heap.size w W1) := by show Below _ _ _; rw [hW1]; exact (Below.refl _ _).alloc (Nat.le_refl _) _
  have Z1 : Hid (W1.heap[w.heap.size]? = some (.cells #[.int .i64 0, .int .i64 0] 45 (0, 0))) := by show _ = _; rw [hW1]; exact heap_alloc_new w _
  have hg1 := (B1.out.block _ (lt_of_block hg)).trans hg
  have c0 : W1.cell? ⟨gg, 0, none⟩ = some (.int .i64 x) := by simp [World.cell?, hg1]
  have c1 : W1.cell? ⟨gg, 1, none⟩ = some (.int .i64 y) := by simp [World.cell?, hg1]
  have d0 : W1.cell? ⟨w.heap.size, 0, none⟩ = some (.int .i64 0) := by simp [World.cell?, Z1.out]
  have d1 : W1.cell? ⟨w.heap.size, 1, none⟩ = some (.int .i64 0) := by simp [World.cell?, Z1.out]
  have f0 : W1.frozen? ⟨w.heap.size, 0, none⟩ = false := by simp [World.frozen?, Z1.out]
  have f1 : W1.frozen? ⟨w.heap.size, 1, none⟩ = false := by simp [World.frozen?, Z1.out]
  have y0 : (y == 0) = false := by simpa using hy
  have ta : ∀ w, (Instr.typeAssert (.iface 78 (.pointer (some ⟨gg, 0, none⟩))) 39 78 true).run Tryz.prog w = .ok (.tuple #[.pointer (some ⟨gg, 0, none⟩), .bool true]) w := fun _ => by first | kernel_rfl | rfl | simp [Instr.typeAssert, Tryz.underlying78]
  clear hg hg1 hy
  go_enter Tryz.func18, Tryz.ntmps18
  go_upto_region 1 with fail
  rw [← hW1]
  clear hW1
  go_wp2
  go_region
  all_goals go_wp2
  all_goals
    have Z2 : ((W1.drew.setCell ⟨w.heap.size, 0, none⟩ (.int .i64 x)).setCell ⟨w.heap.size, 1, none⟩ (.int .i64 y)).heap[w.heap.size]? = some (.cells #[.int .i64 x, .int .i64 y] 45 (0, 0)) := heap_set (heap_set (w := W1.drew) Z1.out _) _
    refine bodyPost_ret (results_row_tmp rfl _ _ w.heap.size 45 #[.int .i64 x, .int .i64 y] (0, 0) _ rfl Z2 Tryz.underlying45 rfl f45_info) rfl ?_
    refine ⟨rfl, ?_⟩
    have g := gb_set (gb_set (gb_refl W1.drew (some w.heap.size)) 0 (.int .i64 x)) 1 (.int .i64 y)
    exact B1.out.drew.grown g B1.out.size (by intro q hq; cases hq; exact Nat.le_refl _)
end Go.Proofs.YtibihbclijpkjaaGreatDoor
namespace Go.Proofs.YtibihbclijpkjaaGreatDoor
open Go Go.RowKit
set_option linter.unusedSimpArgs false
set_option linter.unusedVariables false

theorem came_cells {w : World} {ad : Addr} {l k : Nat} {z : Nat → Int} (h : Came w (some ad) l k z) : ∀ j u, (cellsOf z l)[j]? = some u → w.cell? (ad.add j) = some u := by
  intro j u hj
  obtain ⟨q1, rfl⟩ := cellsOf_get z l j u hj
  obtain ⟨_, _, ⟨h, _⟩ | ⟨ad', h, hc⟩⟩ := h
  · cases h
  · obtain rfl := Option.some.inj h
    exact hc j q1
theorem came_nil {w : World} {l k : Nat} {z : Nat → Int} (h : Came w none l k z) : l = 0 ∧ k = 0 := by
  obtain ⟨_, _, ⟨_, h1, h2⟩ | ⟨_, h, _⟩⟩ := h
  · exact ⟨h1, h2⟩
  · cases h

/-- What is owned, whatever its value. -/
def OwnV (w w' : World) (e : Ending) (n : Nat) (xs : List Value) : Prop := ∃ a c, e = .returned (.slice a n c) ∧ w'.ownsRow w.heap.size 5 1 (.slice a n c) n xs ∧ Below w.heap.size w w'

theorem own_slice {w : World} {base n : Nat} {v : Value} {xs : List Value} (h : w.ownsRow base 5 1 v n xs) : ∃ a c, v = .slice a n c := by
  obtain ⟨_, ⟨rfl, rfl⟩ | ⟨g, cp, cur, hv, _⟩⟩ := h
  · exact ⟨none, 0, rfl⟩
  · exact ⟨_, cp, hv⟩

set_option maxRecDepth 100000 in
set_option maxHeartbeats 1000000 in
theorem lbehind_any (a0 a1 : Option Addr) (l0 k0 l1 k1 : Nat) (z0 z1 : Nat → Int) (w : World) (h0 : Came w a0 l0 k0 z0) (h1 : Came w a1 l1 k1 z1) (hl0 : l0 ≤ 400000) (hl1 : l1 ≤ 400000) :
    Calls Tryz.prog 15 #[.slice a0 l0 k0, .slice a1 l1 k1] w fun e w' => OwnV w w' e (l0 + l1) (cellsOf z0 l0 ++ cellsOf z1 l1) := by
  obtain ⟨i0, hi, hz0, hz1, hz2⟩ := info_parts Tryz.info5
  have H1 : Hid (∀ w', Below w.heap.size w w' → Came w' a1 l1 k1 z1) := fun w' hb => came_below (B := 0) h1 hb
  have H0 : Hid (Came w a0 l0 k0 z0) := h0
  have HN : Hid (a1 = none → l1 = 0 ∧ k1 = 0) := by rintro rfl; exact came_nil h1
  clear h0 h1
  cases a0 with
  | none =>
    obtain ⟨rfl, rfl⟩ := came_nil H0.out
    have O0 : Hid (w.ownsRow w.heap.size 5 1 (.slice none 0 0) 0 []) := World.ownsRow_nil _ _ _ _
    cases a1 with
    | none =>
      obtain ⟨rfl, rfl⟩ := HN.out rfl
      go_enter Tryz.func15, Tryz.ntmps15
      go_wp2_with (first | (at_builtin; refine wpList_append_own_none rfl (.tmp 6) (.tmp 7) 22 rfl w.heap.size 5 i0 1 Tryz.underlying22 hi _ 0 [] rfl O0.out rfl ?_) | (at_builtin; refine wpList_append_own_none rfl (.tmp 9) (.tmp 10) 22 rfl w.heap.size 5 i0 1 Tryz.underlying22 hi _ 0 [] rfl O0.out rfl ?_))
      go_ret
      exact ⟨none, 0, rfl, O0.out, Below.refl _ _⟩
    | some a1 =>
      go_enter Tryz.func15, Tryz.ntmps15
      go_wp2_with (first | (at_builtin; refine wpList_append_own_none rfl (.tmp 6) (.tmp 7) 22 rfl w.heap.size 5 i0 1 Tryz.underlying22 hi _ 0 [] rfl O0.out rfl ?_) | (at_builtin; refine wpList_append_own _ rfl (.tmp 9) (.tmp 10) 22 rfl w.heap.size 5 i0 (.int .u8 0) 1 1 Tryz.underlying22 hi hz0 hz1 hz2 rfl (by decide) _ _ _ rfl O0.out a1 l1 k1 (cellsOf z1 l1) rfl ?c0 ?c1 ?c2 ?c3 ?c4 ?c5 ?_))
      case c0 => simp [cellsOf]
      case c1 => exact came_cells (H1.out _ (Below.refl _ _))
      case c2 => exact fun u hu => cellsOf_one z1 l1 u hu
      case c3 => unfold maxLen; omega
      case c4 => omega
      case c5 => exact Nat.le_refl _
      intro v2 w2 hown2 hgrow2 _
      have hb2 := (Below.refl w.heap.size w).grown hgrow2 (Nat.le_refl _) (fun q hq => (O0.out.lt q hq).1)
      obtain ⟨a, c, rfl⟩ := own_slice hown2
      have HS : Hid (w2.ownsRow w.heap.size 5 1 (.slice a (0 + l1) c) (0 + l1) ([] ++ cellsOf z1 l1) ∧ Below w.heap.size w w2) := ⟨by simpa using hown2, hb2⟩
      clear hown2 hgrow2 hb2
      go_wp2
      go_ret
      first | exact ⟨a, c, rfl, HS.out.1, HS.out.2⟩ | exact ⟨a, c, by rw [Nat.zero_add]; rfl, HS.out.1, HS.out.2⟩
  | some a0 =>
    have O0 : Hid (w.ownsRow w.heap.size 5 1 (.slice none 0 0) 0 []) := World.ownsRow_nil _ _ _ _
    go_enter Tryz.func15, Tryz.ntmps15
    go_wp2_with (at_builtin; refine wpList_append_own _ rfl (.tmp 6) (.tmp 7) 22 rfl w.heap.size 5 i0 (.int .u8 0) 1 1 Tryz.underlying22 hi hz0 hz1 hz2 rfl (by decide) _ _ _ rfl O0.out a0 l0 k0 (cellsOf z0 l0) rfl ?d0 ?d1 ?d2 ?d3 ?d4 ?d5 ?_)
    case d0 => simp [cellsOf]
    case d1 => exact came_cells H0.out
    case d2 => exact fun u hu => cellsOf_one z0 l0 u hu
    case d3 => unfold maxLen; omega
    case d4 => omega
    case d5 => exact Nat.le_refl _
    intro v1 w1 hown1 hgrow1 _
    have hb1 := (Below.refl w.heap.size w).grown hgrow1 (Nat.le_refl _) (fun q hq => (O0.out.lt q hq).1)
    have hown1' : w1.ownsRow w.heap.size 5 1 v1 l0 (cellsOf z0 l0) := by simpa using hown1
    obtain ⟨a, c, rfl⟩ := own_slice hown1'
    have HS : Hid (w1.ownsRow w.heap.size 5 1 (.slice a l0 c) l0 (cellsOf z0 l0) ∧ Below w.heap.size w w1) := ⟨hown1', hb1⟩
    clear hown1 hown1' hgrow1 hb1
    cases a1 with
    | none =>
      obtain ⟨rfl, rfl⟩ := HN.out rfl
      go_wp2_with (at_builtin; refine wpList_append_own_none rfl (.tmp 9) (.tmp 10) 22 rfl w.heap.size 5 i0 1 Tryz.underlying22 hi _ l0 (cellsOf z0 l0) rfl HS.out.1 rfl ?_)
      go_ret
      exact ⟨a, c, rfl, by simpa [cellsOf] using HS.out.1, HS.out.2⟩
    | some a1 =>
      go_wp2_with (at_builtin; refine wpList_append_own _ rfl (.tmp 9) (.tmp 10) 22 rfl w.heap.size 5 i0 (.int .u8 0) 1 1 Tryz.underlying22 hi hz0 hz1 hz2 rfl (by decide) _ _ _ rfl HS.out.1 a1 l1 k1 (cellsOf z1 l1) rfl ?e0 ?e1 ?e2 ?e3 ?e4 ?e5 ?_)
      case e0 => simp [cellsOf]
      case e1 => exact came_cells (H1.out _ HS.out.2)
      case e2 => exact fun u hu => cellsOf_one z1 l1 u hu
      case e3 => unfold maxLen; omega
      case e4 => omega
      case e5 => exact HS.out.2.size
      intro v2 w2 hown2 hgrow2 _
      have hb2 := HS.out.2.grown hgrow2 HS.out.2.size (fun q hq => (HS.out.1.lt q hq).1)
      obtain ⟨a2, c2, rfl⟩ := own_slice hown2
      have HS2 : Hid (w2.ownsRow w.heap.size 5 1 (.slice a2 (l0 + l1) c2) (l0 + l1) (cellsOf z0 l0 ++ cellsOf z1 l1) ∧ Below w.heap.size w w2) := ⟨hown2, hb2⟩
      clear hown2 hgrow2 hb2
      go_wp2
      go_ret
      exact ⟨a2, c2, rfl, HS2.out.1, HS2.out.2⟩

theorem cellsOf_congr (z z' : Nat → Int) (n : Nat) (h : ∀ i, i < n → z i = z' i) : cellsOf z n = cellsOf z' n := by
  unfold cellsOf
  apply List.map_congr_left
  intro i hi
  rw [h i (List.mem_range.1 hi)]
/-- Bytes, and others behind them. -/
def cat (z : Nat → Int) (n : Nat) (z' : Nat → Int) : Nat → Int := fun i => if i < n then z i else z' (i - n)
theorem cat_bd {z z' : Nat → Int} {n : Nat} (h : ∀ i, 0 ≤ z i ∧ z i ≤ 255) (h' : ∀ i, 0 ≤ z' i ∧ z' i ≤ 255) (i : Nat) : 0 ≤ cat z n z' i ∧ cat z n z' i ≤ 255 := by
  unfold cat
  split
  · exact h i
  · exact h' _
theorem cells_cat (z z' : Nat → Int) (n : Nat) : ∀ m, cellsOf z n ++ cellsOf z' m = cellsOf (cat z n z') (n + m)
  | 0 => by
    rw [Nat.add_zero, cellsOf_zero, List.append_nil]
    exact cellsOf_congr _ _ _ fun i hi => by simp [cat, hi]
  | m + 1 => by
    rw [cellsOf_succ, ← List.append_assoc, cells_cat z z' n m, ← Nat.add_assoc, cellsOf_succ]
    have e : cat z n z' (n + m) = z' m := by unfold cat; rw [if_neg (by omega), Nat.add_sub_cancel_left]
    rw [e]


/-- Bytes of an owned row came. -/
theorem came_own {w : World} {base n : Nat} {a : Option Addr} {c : Nat} {z : Nat → Int} (h : w.ownsRow base 5 1 (.slice a n c) n (cellsOf z n)) (hz : ∀ i, 0 ≤ z i ∧ z i ≤ 255) : Came w a n c z := by
  rcases h.2 with ⟨e, hl⟩ | ⟨g, cap, cur, e, _, hb, hc, _, _, ht⟩
  · cases e
    exact ⟨Nat.le_refl _, hz, .inl ⟨rfl, rfl, rfl⟩⟩
  · cases e
    refine ⟨hc, hz, .inr ⟨_, rfl, fun i hi => ?_⟩⟩
    rw [plain_add, Nat.zero_add]
    have q : (cellsOf z n)[i]? = some (.int .u8 (z i)) := by simp [cellsOf, hi]
    rw [← ht, List.getElem?_take] at q
    simp only [Nat.mul_one, hi, if_true, Array.getElem?_toList] at q
    simp [World.cell?, hb, q]
end Go.Proofs.YtibihbclijpkjaaGreatDoor
namespace Go.Proofs.YtibihbclijpkjaaGreatDoor.Pkt
open Go Go.RowKit Go.Sort
set_option linter.unusedSimpArgs false
set_option linter.unusedVariables false


set_option maxHeartbeats 1000000 in
theorem sameBytes_eq (s s' : Sl) (z : Nat → Int) (w : World) (h : By w s z) (h' : By w s' z) (hn : s.n = s'.n) (hm : s.n ≤ 1000000) :
    Calls Tryz.prog 47 #[.slice s.a s.n s.c, .slice s'.a s'.n s'.c] w fun e w' => e = .returned (.bool true) ∧ Below w.heap.size w w' := by
  obtain ⟨a, n, c⟩ := s
  obtain ⟨a', n', c'⟩ := s'
  simp only at hn hm
  subst hn
  have HA : Hid (By w ⟨a, n, c⟩ z) := h
  have HB : Hid (By w ⟨a', n, c'⟩ z) := h'
  have B0 : Hid (Below w.heap.size w w) := Below.refl _ _
  clear h h'
  go_enter Tryz.func47, Tryz.ntmps47
  go_wp2_with fail
  go_loopg [5] n (fun gg s5 wx => ∃ (k : Nat), s5 = .int .i64 k ∧ k + gg = n ∧ Hid (Below w.heap.size w wx))
  case atStart => exact ⟨0, rfl, by omega, B0⟩
  case round =>
    obtain ⟨k, rfl, hkg, B1⟩ := hrel
    by_cases hk : k < n
    · have hk' : (k : Int) < n := by omega
      obtain ⟨b, off, he, hc⟩ : ∃ b off, a = some ⟨b, off, none⟩ ∧ ∀ i, i < n → w.cell? ⟨b, off + i, none⟩ = some (.int .u8 (z i)) := by
        rcases HA.out.2.2 with h | h
        · simp only at h; omega
        · exact h
      obtain ⟨b', off', he', hc'⟩ : ∃ b off, a' = some ⟨b, off, none⟩ ∧ ∀ i, i < n → w.cell? ⟨b, off + i, none⟩ = some (.int .u8 (z i)) := by
        rcases HB.out.2.2 with h | h
        · simp only at h; omega
        · exact h
      subst he he'
      have hac : n ≤ c := HA.out.1
      have hac' : n ≤ c' := HB.out.1
      have c0 := cell_later B1.out (hc k hk)
      have d0 := cell_later B1.out (hc' k hk)
      obtain ⟨x, hx⟩ : ∃ x, z k = x := ⟨_, rfl⟩
      rw [hx] at c0 d0
      clear hx hc hc'
      obtain ⟨gg, hg⟩ : ∃ gg, gk = gg + 1 := ⟨gk - 1, by omega⟩
      go_wp2_with fail
      go_region
      all_goals
        go_wp2
        go_roundg gg
        case measure => omega
        case rel => exact ⟨k + 1, by first | rfl | simp, by omega, by first | exact B1 | exact B1.out.drew⟩
    · obtain rfl : k = n := by omega
      have hk' : ¬ (k : Int) < k := by omega
      go_wp2
      go_ret
      exact ⟨rfl, B1.out⟩

set_option maxHeartbeats 1000000 in
theorem sameMessage_eq (t : ByteArray) (q : Int) (r : Bool) (s s' : Sl) (z : Nat → Int) (w : World) (h : By w s z) (h' : By w s' z) (hn : s.n = s'.n) (hm : s.n ≤ 1000000) :
    Calls Tryz.prog 46 #[.agg #[.string t, .slice s.a s.n s.c, .int .i64 q, .bool r], .agg #[.string t, .slice s'.a s'.n s'.c, .int .i64 q, .bool r]] w fun e w' => e = .returned (.bool true) ∧ Below w.heap.size w w' := by
  have HC : Hid (∀ w', Below w.heap.size w w' → Calls Tryz.prog 47 #[.slice s.a s.n s.c, .slice s'.a s'.n s'.c] w' fun e w'' => e = .returned (.bool true) ∧ Below w'.heap.size w' w'') := fun w' hb => sameBytes_eq s s' z w' (h.below hb) (h'.below hb) hn hm
  clear h h' hn hm
  go_enter Tryz.func46, Tryz.ntmps46
  go_wp2_with fail
  go_must (go_at_call 47)
  refine (HC.out _ (below2 _ _ _)).mono ?_
  rintro e w1 ⟨rfl, hb⟩
  have B1 : Hid (Below w.heap.size w w1) := (below2 w _ _).trans (hb.mono (below2 w _ _).size)
  clear hb
  go_wp2
  go_ret
  exact ⟨rfl, B1.out⟩

theorem neq_ask (t t' : ByteArray) (q q' : Int) (w : World) : (binOp .neq 84 (.agg #[.string t, .int .i64 q]) (.agg #[.string t', .int .i64 q'])).run Tryz.prog w = .ok (.bool (!((t.toList == t'.toList) && (q == q')))) w := by
  have hu : Tryz.prog.underlying 84 = some (.struct (Tryz.prog.fieldsOf 84)) := by kernel_rfl
  have hp : Tryz.prog.stoodInHeld 84 = false := by kernel_rfl
  rw [run_neq_struct, run_equalIn_agg w 9999 84 _ _ hu hp]
  clear hu hp
  simp only [Program.fieldsOf, Tryz.underlying84]
  cases h1 : (t.toList == t'.toList)
  · go_simp
  · cases h2 : (q == q')
    · go_simp
    · go_simp
theorem neq_ask_eq (t : ByteArray) (q : Int) (w : World) : (binOp .neq 84 (.agg #[.string t, .int .i64 q]) (.agg #[.string t, .int .i64 q])).run Tryz.prog w = .ok (.bool false) w := by
  rw [neq_ask]; simp

/-- A packet with other lists. -/
def Pk.re (p : Pk) (s1 s2 s3 s4 s5 s6 : Sl) : Pk := { p with wP := s1, pass := s2, mP := s3, asks := s4, codes := s5, filters := s6 }
end Go.Proofs.YtibihbclijpkjaaGreatDoor.Pkt
namespace Go.Proofs.YtibihbclijpkjaaGreatDoor.Pkt
open Go Go.RowKit Go.Sort
set_option linter.unusedSimpArgs false
set_option linter.unusedVariables false

set_option maxHeartbeats 8000000 in
set_option maxRecDepth 100000 in
/-- The document's Same of a packet and of one that has the same things in other lists. -/
theorem rsame_eq (p : Pk) (c : Cn) (s1 s2 s3 s4 s5 s6 : Sl) (w : World) (hb : In w p c) (ha : In w (p.re s1 s2 s3 s4 s5 s6) c) (n1 : s1.n = p.wP.n) (n2 : s2.n = p.pass.n) (n3 : s3.n = p.mP.n) (n4 : s4.n = p.asks.n) (n5 : s5.n = p.codes.n) (n6 : s6.n = p.filters.n) (hs : Small p c) :
    Calls Tryz.prog 19 #[(p.re s1 s2 s3 s4 s5 s6).v, p.v] w fun e w' => e = .returned (.bool true) ∧ Below w.heap.size w w' := by
  have HB : Hid (In w p c) := hb
  have HA : Hid (In w (p.re s1 s2 s3 s4 s5 s6) c) := ha
  have HS : Hid (Small p c) := hs
  have N1 : Hid (s1.n = p.wP.n) := n1
  have N2 : Hid (s2.n = p.pass.n) := n2
  have N3 : Hid (s3.n = p.mP.n) := n3
  have N4 : Hid (s4.n = p.asks.n) := n4
  have N5 : Hid (s5.n = p.codes.n) := n5
  have N6 : Hid (s6.n = p.filters.n) := n6
  have LA : Hid (s4.n ≤ 1000000 ∧ s5.n ≤ 1000000 ∧ s6.n ≤ 1000000) := ⟨by rw [n4]; exact hs.an, by rw [n5]; exact hs.cn, by rw [n6]; exact hs.fn⟩
  clear hb ha hs n1 n2 n3 n4 n5 n6
  obtain ⟨P, hP⟩ : ∃ P, P = pkCells (p.re s1 s2 s3 s4 s5 s6) := ⟨_, rfl⟩
  obtain ⟨Q, hQ⟩ : ∃ Q, Q = pkCells p := ⟨_, rfl⟩
  rw [show (p.re s1 s2 s3 s4 s5 s6).v = .agg P by rw [hP]; rfl, show p.v = .agg Q by rw [hQ]; rfl]
  have HP : Hid (P = pkCells (p.re s1 s2 s3 s4 s5 s6)) := hP
  have HQ : Hid (Q = pkCells p) := hQ
  clear hP hQ
  obtain ⟨V, hV⟩ : ∃ V, V = w.alloc (.cells P 29) := ⟨_, rfl⟩
  obtain ⟨W, hW⟩ : ∃ W, W = V.alloc (.cells Q 29) := ⟨_, rfl⟩
  obtain ⟨g, hg⟩ : ∃ g, g = w.heap.size + 1 := ⟨_, rfl⟩
  have hgV : g = V.heap.size := by rw [hg, hV]; simp
  have bV : Hid (Below w.heap.size w V) := box_below hV
  have bW : Hid (Below V.heap.size V W) := box_below hW
  have b0 : Hid (Below w.heap.size w W) := bV.out.trans (bW.out.mono bV.out.size)
  have FA : Hid (∀ k v, (pkCells (p.re s1 s2 s3 s4 s5 s6))[k]? = some v → ∀ w', Below W.heap.size W w' → w'.cell? ⟨w.heap.size, k, none⟩ = some v) := fun k v h w' hb => cell_later hb (cell_later bW.out (by rw [hV]; exact box_cell w P 29 k v (by rw [HP.out]; exact h)))
  have FB : Hid (∀ k v, (pkCells p)[k]? = some v → ∀ w', Below W.heap.size W w' → w'.cell? ⟨g, k, none⟩ = some v) := fun k v h w' hb => cell_later hb (by rw [hgV, hW]; exact box_cell V Q 29 k v (by rw [HQ.out]; exact h))
  have BW : Hid (∀ w', Below W.heap.size W w' → Below w.heap.size w w') := fun w' hb => b0.out.trans (hb.mono b0.out.size)
  have R0 : Hid (Below W.heap.size W W) := Below.refl _ _
  go_enter Tryz.func19, Tryz.ntmps19
  go_upto_region 1 with fail
  rw [← hV, ← hg, ← hW]
  clear hV hW hg hgV
  have c0 := FA.out 0 (.int .i64 p.kind) rfl W R0.out
  have d0 := FB.out 0 (.int .i64 p.kind) rfl W R0.out
  have c1 := FA.out 1 (.int .i64 p.level) rfl W R0.out
  have d1 := FB.out 1 (.int .i64 p.level) rfl W R0.out
  have c2 := FA.out 2 (.bool p.clean) rfl W R0.out
  have d2 := FB.out 2 (.bool p.clean) rfl W R0.out
  have c3 := FA.out 3 (.int .i64 p.keep) rfl W R0.out
  have d3 := FB.out 3 (.int .i64 p.keep) rfl W R0.out
  have c4 := FA.out 4 (.string p.client) rfl W R0.out
  have d4 := FB.out 4 (.string p.client) rfl W R0.out
  have c5 := FA.out 5 (.bool p.hasWill) rfl W R0.out
  have d5 := FB.out 5 (.bool p.hasWill) rfl W R0.out
  have c10 := FA.out 10 (.bool p.hasUser) rfl W R0.out
  have d10 := FB.out 10 (.bool p.hasUser) rfl W R0.out
  have c11 := FA.out 11 (.string p.user) rfl W R0.out
  have d11 := FB.out 11 (.string p.user) rfl W R0.out
  have c12 := FA.out 12 (.bool p.hasPass) rfl W R0.out
  have d12 := FB.out 12 (.bool p.hasPass) rfl W R0.out
  go_upto_region 3 with fail
  clear c0 d0 c1 d1 c2 d2 c3 d3 c4 d4 c5 d5 c10 d10 c11 d11 c12 d12
  have c14 := FA.out 14 (.bool p.present) rfl W R0.out
  have d14 := FB.out 14 (.bool p.present) rfl W R0.out
  have c15 := FA.out 15 (.int .i64 p.code) rfl W R0.out
  have d15 := FB.out 15 (.int .i64 p.code) rfl W R0.out
  have c16 := FA.out 16 (.bool p.dup) rfl W R0.out
  have d16 := FB.out 16 (.bool p.dup) rfl W R0.out
  have c21 := FA.out 21 (.int .i64 p.id) rfl W R0.out
  have d21 := FB.out 21 (.int .i64 p.id) rfl W R0.out
  have c6 := FA.out 6 (.string p.wT) rfl W R0.out
  have d6 := FB.out 6 (.string p.wT) rfl W R0.out
  have c7 := FA.out 7 (.slice s1.a s1.n s1.c) rfl W R0.out
  have d7 := FB.out 7 (.slice p.wP.a p.wP.n p.wP.c) rfl W R0.out
  have c8 := FA.out 8 (.int .i64 p.wQ) rfl W R0.out
  have d8 := FB.out 8 (.int .i64 p.wQ) rfl W R0.out
  have c9 := FA.out 9 (.bool p.wR) rfl W R0.out
  have d9 := FB.out 9 (.bool p.wR) rfl W R0.out
  go_wp2_with fail
  go_must (go_at_call 46)
  refine (sameMessage_eq _ _ _ s1 p.wP c.wz _ (HA.out.wP.below b0.out) (HB.out.wP.below b0.out) N1.out (by rw [N1.out]; exact HS.out.wp)).mono ?_
  rintro e w1 ⟨rfl, hb⟩
  have B1 : Hid (Below W.heap.size W w1) := hb
  clear hb
  clear c14 d14 c15 d15 c16 d16 c21 d21 c6 d6 c7 d7 c8 d8 c9 d9
  have c17 := FA.out 17 (.string p.mT) rfl w1 B1.out
  have d17 := FB.out 17 (.string p.mT) rfl w1 B1.out
  have c18 := FA.out 18 (.slice s3.a s3.n s3.c) rfl w1 B1.out
  have d18 := FB.out 18 (.slice p.mP.a p.mP.n p.mP.c) rfl w1 B1.out
  have c19 := FA.out 19 (.int .i64 p.mQ) rfl w1 B1.out
  have d19 := FB.out 19 (.int .i64 p.mQ) rfl w1 B1.out
  have c20 := FA.out 20 (.bool p.mR) rfl w1 B1.out
  have d20 := FB.out 20 (.bool p.mR) rfl w1 B1.out
  go_wp2_with fail
  go_must (go_at_call 46)
  refine (sameMessage_eq _ _ _ s3 p.mP c.mz _ (HA.out.mP.below (BW.out _ B1.out)) (HB.out.mP.below (BW.out _ B1.out)) N3.out (by rw [N3.out]; exact HS.out.mp)).mono ?_
  rintro e w2 ⟨rfl, hb⟩
  have B2 : Hid (Below W.heap.size W w2) := B1.out.trans (hb.mono B1.out.size)
  clear hb
  clear c17 d17 c18 d18 c19 d19 c20 d20
  have c13 := FA.out 13 (.slice s2.a s2.n s2.c) rfl w2 B2.out
  have d13 := FB.out 13 (.slice p.pass.a p.pass.n p.pass.c) rfl w2 B2.out
  go_wp2_with fail
  go_must (go_at_call 47)
  refine (sameBytes_eq s2 p.pass c.pz _ (HA.out.pass.below (BW.out _ B2.out)) (HB.out.pass.below (BW.out _ B2.out)) N2.out (by rw [N2.out]; exact HS.out.ps)).mono ?_
  rintro e w3 ⟨rfl, hb⟩
  have B3 : Hid (Below W.heap.size W w3) := B2.out.trans (hb.mono B2.out.size)
  clear hb
  clear c13 d13
  have c22 := FA.out 22 (.slice s4.a s4.n s4.c) rfl w3 B3.out
  have d22 := FB.out 22 (.slice p.asks.a p.asks.n p.asks.c) rfl w3 B3.out
  have c23 := FA.out 23 (.slice s5.a s5.n s5.c) rfl w3 B3.out
  have d23 := FB.out 23 (.slice p.codes.a p.codes.n p.codes.c) rfl w3 B3.out
  have c24 := FA.out 24 (.slice s6.a s6.n s6.c) rfl w3 B3.out
  have d24 := FB.out 24 (.slice p.filters.a p.filters.n p.filters.c) rfl w3 B3.out
  rw [← N4.out] at d22
  rw [← N5.out] at d23
  rw [← N6.out] at d24
  go_wp2_with fail
  clear c22 d22 c23 d23 c24 d24
  go_loopg [5] s4.n (fun gg sx wx => ∃ (k : Nat), sx = .int .i64 k ∧ k + gg = s4.n ∧ Hid (Below W.heap.size W wx))
  case atStart => exact ⟨0, rfl, by omega, B3⟩
  case round =>
    obtain ⟨k, rfl, hkg, B5⟩ := hrel
    have c22 := FA.out 22 (.slice s4.a s4.n s4.c) rfl _ B5.out
    have d22 := FB.out 22 (.slice p.asks.a p.asks.n p.asks.c) rfl _ B5.out
    rw [← N4.out] at d22
    by_cases hk : k < s4.n
    · have hk' : (k : Int) < s4.n := by omega
      obtain ⟨b, off, he, hc⟩ : ∃ b off, s4.a = some ⟨b, off, none⟩ ∧ ∀ i, i < s4.n → (w.cell? ⟨b, off + i * 2, none⟩ = some (.string (c.af i)) ∧ w.cell? ⟨b, off + i * 2 + 1, none⟩ = some (.int .i64 (c.aq i))) := by
        rcases (HA.out.asks).2 with h | h
        · have h' : s4.n = 0 := h
          omega
        · exact h
      obtain ⟨b', off', he', hc'⟩ : ∃ b off, p.asks.a = some ⟨b, off, none⟩ ∧ ∀ i, i < p.asks.n → (w.cell? ⟨b, off + i * 2, none⟩ = some (.string (c.af i)) ∧ w.cell? ⟨b, off + i * 2 + 1, none⟩ = some (.int .i64 (c.aq i))) := by
        rcases (HB.out.asks).2 with h | h
        · have h' := N4.out
          omega
        · exact h
      have hac : s4.n ≤ s4.c := HA.out.asks.1
      have hac' : s4.n ≤ p.asks.c := by rw [N4.out]; exact HB.out.asks.1
      rw [he] at c22
      rw [he'] at d22
      have hk2 : k < p.asks.n := by rw [← N4.out]; exact hk
      have e0 := cell_later (BW.out _ B5.out) (hc k hk).1
      have e1 := cell_later (BW.out _ B5.out) (hc k hk).2
      have f0 := cell_later (BW.out _ B5.out) (hc' k hk2).1
      have f1 := cell_later (BW.out _ B5.out) (hc' k hk2).2
      obtain ⟨x, hx⟩ : ∃ x, c.af k = x := ⟨_, rfl⟩
      obtain ⟨y, hy⟩ : ∃ x, c.aq k = x := ⟨_, rfl⟩
      rw [hx] at e0 f0
      rw [hy] at e1 f1
      clear hx hy
      have EQ := neq_ask_eq x y
      have EG : Tryz.prog.eqGuardType Tryz.prog.depth 84 = false := by kernel_rfl
      clear he he' hc hc' hk2
      have hlim := LA.out
      obtain ⟨gg, hgg⟩ : ∃ gg, gk = gg + 1 := ⟨gk - 1, by omega⟩
      go_wp2_with fail
      go_region
      all_goals
        go_wp2
        go_roundg gg
        case measure => omega
        case rel => exact ⟨k + 1, by first | rfl | simp, by omega, by first | exact B5 | exact B5.out.drew⟩
    · obtain rfl : k = s4.n := by omega
      have hk' : ¬ (s4.n : Int) < s4.n := by omega
      go_wp2_with fail
      clear c22 d22 hk hk'
      go_loopg [6] s5.n (fun gg sx wx => ∃ (k : Nat), sx = .int .i64 k ∧ k + gg = s5.n ∧ Hid (Below W.heap.size W wx))
      case atStart => exact ⟨0, rfl, by omega, B5⟩
      case round =>
        obtain ⟨k, rfl, hkg, B6⟩ := hrel
        have c23 := FA.out 23 (.slice s5.a s5.n s5.c) rfl _ B6.out
        have d23 := FB.out 23 (.slice p.codes.a p.codes.n p.codes.c) rfl _ B6.out
        rw [← N5.out] at d23
        by_cases hk : k < s5.n
        · have hk' : (k : Int) < s5.n := by omega
          obtain ⟨b, off, he, hc⟩ : ∃ b off, s5.a = some ⟨b, off, none⟩ ∧ ∀ i, i < s5.n → w.cell? ⟨b, off + i, none⟩ = some (.int .i64 (c.cs i)) := by
            rcases (HA.out.codes).2 with h | h
            · have h' : s5.n = 0 := h
              omega
            · exact h
          obtain ⟨b', off', he', hc'⟩ : ∃ b off, p.codes.a = some ⟨b, off, none⟩ ∧ ∀ i, i < p.codes.n → w.cell? ⟨b, off + i, none⟩ = some (.int .i64 (c.cs i)) := by
            rcases (HB.out.codes).2 with h | h
            · have h' := N5.out
              omega
            · exact h
          have hac : s5.n ≤ s5.c := HA.out.codes.1
          have hac' : s5.n ≤ p.codes.c := by rw [N5.out]; exact HB.out.codes.1
          rw [he] at c23
          rw [he'] at d23
          have hk2 : k < p.codes.n := by rw [← N5.out]; exact hk
          have e0 := cell_later (BW.out _ B6.out) (hc k hk)
          have f0 := cell_later (BW.out _ B6.out) (hc' k hk2)
          obtain ⟨x, hx⟩ : ∃ x, c.cs k = x := ⟨_, rfl⟩
          rw [hx] at e0 f0
          clear hx
          clear he he' hc hc' hk2
          have hlim := LA.out
          obtain ⟨gg, hgg⟩ : ∃ gg, gk = gg + 1 := ⟨gk - 1, by omega⟩
          go_wp2_with fail
          go_region
          all_goals
            go_wp2
            go_roundg gg
            case measure => omega
            case rel => exact ⟨k + 1, by first | rfl | simp, by omega, by first | exact B6 | exact B6.out.drew⟩
        · obtain rfl : k = s5.n := by omega
          have hk' : ¬ (s5.n : Int) < s5.n := by omega
          go_wp2_with fail
          clear c23 d23 hk hk'
          go_loopg [7] s6.n (fun gg sx wx => ∃ (k : Nat), sx = .int .i64 k ∧ k + gg = s6.n ∧ Hid (Below W.heap.size W wx))
          case atStart => exact ⟨0, rfl, by omega, B6⟩
          case round =>
            obtain ⟨k, rfl, hkg, B7⟩ := hrel
            have c24 := FA.out 24 (.slice s6.a s6.n s6.c) rfl _ B7.out
            have d24 := FB.out 24 (.slice p.filters.a p.filters.n p.filters.c) rfl _ B7.out
            rw [← N6.out] at d24
            by_cases hk : k < s6.n
            · have hk' : (k : Int) < s6.n := by omega
              obtain ⟨b, off, he, hc⟩ : ∃ b off, s6.a = some ⟨b, off, none⟩ ∧ ∀ i, i < s6.n → w.cell? ⟨b, off + i, none⟩ = some (.string (c.fs i)) := by
                rcases (HA.out.filters).2 with h | h
                · have h' : s6.n = 0 := h
                  omega
                · exact h
              obtain ⟨b', off', he', hc'⟩ : ∃ b off, p.filters.a = some ⟨b, off, none⟩ ∧ ∀ i, i < p.filters.n → w.cell? ⟨b, off + i, none⟩ = some (.string (c.fs i)) := by
                rcases (HB.out.filters).2 with h | h
                · have h' := N6.out
                  omega
                · exact h
              have hac : s6.n ≤ s6.c := HA.out.filters.1
              have hac' : s6.n ≤ p.filters.c := by rw [N6.out]; exact HB.out.filters.1
              rw [he] at c24
              rw [he'] at d24
              have hk2 : k < p.filters.n := by rw [← N6.out]; exact hk
              have e0 := cell_later (BW.out _ B7.out) (hc k hk)
              have f0 := cell_later (BW.out _ B7.out) (hc' k hk2)
              obtain ⟨x, hx⟩ : ∃ x, c.fs k = x := ⟨_, rfl⟩
              rw [hx] at e0 f0
              clear hx
              clear he he' hc hc' hk2
              have hlim := LA.out
              obtain ⟨gg, hgg⟩ : ∃ gg, gk = gg + 1 := ⟨gk - 1, by omega⟩
              go_wp2_with fail
              go_region
              all_goals
                go_wp2
                go_roundg gg
                case measure => omega
                case rel => exact ⟨k + 1, by first | rfl | simp, by omega, by first | exact B7 | exact B7.out.drew⟩
            · obtain rfl : k = s6.n := by omega
              have hk' : ¬ (s6.n : Int) < s6.n := by omega
              go_wp2
              go_ret
              exact ⟨rfl, BW.out _ B7.out⟩
end Go.Proofs.YtibihbclijpkjaaGreatDoor.Pkt
namespace Go.Proofs.YtibihbclijpkjaaGreatDoor
open Go Go.RowKit
open Pkt (Pk Cn Sl In By Is Ss As pkCells Gd KindsAt form isK isKind_any Small ck TT sumN Tx wpList_load_wanted)
set_option linter.unusedSimpArgs false
set_option linter.unusedVariables false

theorem head_nil (most : Int) (w : World) : Calls Tryz.prog 44 #[.slice none 0 0, .int .i64 most] w fun e w' => e = .returned (.tuple #[.int .i64 0, .int .i64 0, .nilIface]) ∧ w' = w := by
  go_enter Tryz.func44, Tryz.ntmps44
  go_wp2
  go_step3
  go_wp2
  try rw [Exit.noGoto_ret]
  go_ret3
  exact ⟨rfl, rfl⟩
set_option maxRecDepth 100000 in
set_option maxHeartbeats 1000000 in
theorem decode_nil (most : Int) (w : World) : Calls Tryz.prog 14 #[.slice none 0 0, .int .i64 most] w fun e w' => DecIs w w' e .more := by
  obtain ⟨W1, hW1⟩ : ∃ W, W = w.alloc (.cells (pkCells (blank 0)) 29) := ⟨_, rfl⟩
  have B1 : Hid (Below w.heap.size w W1) := by show Below _ _ _; rw [hW1]; exact (Below.refl _ _).alloc (Nat.le_refl _) _
  have Z1 : Hid (W1.heap[w.heap.size]? = some (.cells (pkCells (blank 0)) 29 (0, 0))) := by show _ = _; rw [hW1]; exact heap_alloc_new w _
  go_enter Tryz.func14, Tryz.ntmps14
  go_upto_region 1 with fail
  have eW : w.alloc (.cells #[.int .i64 0, .int .i64 0, .bool false, .int .i64 0, .string ⟨#[]⟩, .bool false, .string ⟨#[]⟩, .slice none 0 0, .int .i64 0, .bool false, .bool false, .string ⟨#[]⟩, .bool false, .slice none 0 0, .bool false, .int .i64 0, .bool false, .string ⟨#[]⟩, .slice none 0 0, .int .i64 0, .bool false, .int .i64 0, .slice none 0 0, .slice none 0 0, .slice none 0 0] 29) = W1 := hW1.symm
  rw [eW]
  clear eW hW1
  go_wp2_with fail
  go_must (go_at_call 44)
  refine (head_nil _ W1).mono ?_
  rintro e w' ⟨rfl, hee⟩
  obtain rfl := hee.symm
  clear hee
  go_wp2_with (first | (refine wpList_build_to rfl 29 _ rfl (pkCells (blank 0)) built_zero ?_) | (refine wpList_store_row rfl 29 _ _ rfl w.heap.size (pkCells (blank 0)) rfl rfl 29 (pkCells (blank 0)) Z1.out pk_info rfl (pk_one _) ?_))
  rw [setRow_self W1 w.heap.size _ 29 (0, 0) Z1.out]
  refine bodyPost_ret (results_row_tmp2 rfl _ _ w.heap.size 29 (pkCells (blank 0)) (0, 0) _ rfl Z1.out Tryz.underlying29 rfl pk_info) rfl ?_
  exact ⟨rfl, B1.out⟩
/-- A slice whose bytes came from a plain place. -/
def Plain (ao : Option Addr) : Prop := ∀ ad, ao = some ad → ∃ g off, ad = ⟨g, off, none⟩
theorem decode_came (ao : Option Addr) (n cpb : Nat) (z : Nat → Int) (most : Int) (w : World) (hc : Came w ao n cpb z) (hp : Plain ao) (hn : n ≤ 700000) (hg : Gd w) :
    Calls Tryz.prog 14 #[.slice ao n cpb, .int .i64 most] w fun e w' => DecIs w w' e (decP z n most) := by
  cases ao with
  | none =>
    obtain ⟨rfl, rfl⟩ := came_nil hc
    have e : decP z 0 most = .more := by simp [decP, headP, decH]
    rw [e]
    exact decode_nil most w
  | some ad =>
    obtain ⟨g, off, rfl⟩ := hp ad rfl
    exact decode_any g off n cpb z most w hc hn hg
/-- Two readings of one packet are the same. -/
theorem same_alike (p q q' : Pk) (c : Cn) (w : World) (h : Alike q p) (h' : Alike q' p) (hi : In w q c) (hi' : In w q' c) (hs : Small p c) :
    Calls Tryz.prog 19 #[.agg (pkCells q), .agg (pkCells q')] w fun e w' => e = .returned (.bool true) ∧ Below w.heap.size w w' := by
  have hs' : Small q' c := small_alike h' hs
  obtain ⟨s1, s2, s3, s4, s5, s6, rfl, h1, h2, h3, h4, h5, h6⟩ := h
  obtain ⟨t1, t2, t3, t4, t5, t6, rfl, g1, g2, g3, g4, g5, g6⟩ := h'
  exact Pkt.rsame_eq { p with wP := t1, pass := t2, mP := t3, asks := t4, codes := t5, filters := t6 } c s1 s2 s3 s4 s5 s6 w hi' hi (h1.trans g1.symm) (h2.trans g2.symm) (h3.trans g3.symm) (h4.trans g4.symm) (h5.trans g5.symm) (h6.trans g6.symm) hs'
end Go.Proofs.YtibihbclijpkjaaGreatDoor
namespace Go.Proofs.YtibihbclijpkjaaGreatDoor
open Go Go.RowKit
open Pkt (Pk Cn Sl In By Is Ss As pkCells Gd KindsAt form isK isKind_any Small ck TT sumN Tx wpList_load_wanted)
set_option linter.unusedSimpArgs false
set_option linter.unusedVariables false

/-! ### A fault has a number, a packet has bytes -/
section
variable {z : Nat → Int} {n : Nat}
theorem errOut_err {y : Rs × Pk × Cn} {x : Int × Int} (h : errOut y = .error x) : x.2 ≠ 0 := by
  unfold errOut at h
  split at h
  · rename_i hq; cases h; exact hq
  · cases h
theorem connect_err {r : Rs} {p : Pk} {c : Cn} {x : Int × Int} (h : connectP z n r p c = .error x) : x.2 ≠ 0 := by
  unfold connectP at h
  split at h
  · cases h; simp
  split at h
  · cases h; simp
  unfold cMid cEnd at h
  split at h
  · rename_i hq; cases h; exact hq
  · cases h
theorem connack_err {r : Rs} {p : Pk} {c : Cn} {x : Int × Int} (h : connackP z n r p c = .error x) : x.2 ≠ 0 := by
  unfold connackP at h
  split at h
  · cases h; simp
  split at h
  · rename_i hq; cases h; exact hq
  · cases h
theorem into_err {r : Rs} {k fl : Int} {c : Cn} {x : Int × Int} (h : intoP z n r k c fl = .error x) : x.2 ≠ 0 := by
  unfold intoP at h
  split at h
  · exact connect_err h
  split at h
  · exact connack_err h
  repeat (first | exact errOut_err h | split at h)
theorem pack_err {h : Nat} {x : Int × Int} (e : packP z n h = .error x) : x.2 ≠ 0 := by
  unfold packP at e
  split at e
  · rename_i y hy; cases e; exact into_err hy
  · split at e
    · cases e
    · rename_i hc
      cases e
      intro q
      have q' : ((ck TT _ _ : Nat) : Int) = 0 := q
      exact hc (by omega)
theorem pack_ok {h : Nat} {y : Pk × Cn} (hn : n ≤ 700000) (hh : h ≤ n) (e : packP z n h = .ok y) : Small y.1 y.2 := by
  unfold packP at e
  split at e
  · cases e
  · rename_i y' hy
    split at e
    · cases e; exact into_small hn hh hy
    · cases e
theorem len_err (most : Int) (f k : Nat) (acc : Int) {a b : Int} {x : Int × Int} (h : lenF z n most f k acc = (a, b, some x)) : x.2 ≠ 0 := by
  induction f generalizing k acc with
  | zero => cases h; decide
  | succ f ih =>
    unfold lenF at h
    split at h
    · cases h
    split at h
    · split at h
      · cases h; simp
      · cases h
    · exact ih _ _ h
theorem head_err (most : Int) {a b : Int} {x : Int × Int} (h : headP z n most = (a, b, some x)) : x.2 ≠ 0 := by
  unfold headP at h
  split at h
  · cases h
  split at h
  · rename_i hf; cases h; exact hf
  · exact len_err most 4 1 0 h
theorem dec_fault (most : Int) {x : Int × Int} (h : decP z n most = .fault x) : x.2 ≠ 0 := by
  unfold decP at h
  cases e : headP z n (clampM most) with
  | mk hd t =>
    obtain ⟨l, o⟩ := t
    rw [e] at h
    cases o with
    | some y => cases h; exact head_err _ e
    | none =>
      unfold decH at h
      simp only at h
      split at h
      · cases h
      · split at h
        · rename_i y hy; cases h; exact pack_err hy
        · cases h
theorem dec_ok (most : Int) (hz : ∀ i, 0 ≤ z i ∧ z i ≤ 255) (hn : n ≤ 700000) {p : Pk} {c : Cn} {N : Nat} (h : decP z n most = .ok p c N) : 0 < N ∧ N ≤ n ∧ Small p c := by
  unfold decP at h
  cases e : headP z n (clampM most) with
  | mk hd t =>
    obtain ⟨l, o⟩ := t
    rw [e] at h
    cases o with
    | some y => cases h
    | none =>
      unfold decH at h
      simp only at h
      split at h
      · cases h
      · rename_i hc
        split at h
        · cases h
        · rename_i y hy
          have h0 : hd ≠ 0 := fun q => hc (.inl q)
          obtain ⟨j, a1, a2, a3, a4, _⟩ := headP_out z n _ hz hd l e h0
          have hl : ¬ (n : Int) - hd < l := fun q => hc (.inr q)
          cases h
          refine ⟨by omega, by omega, pack_ok (by omega) (by omega) hy⟩
end
end Go.Proofs.YtibihbclijpkjaaGreatDoor
