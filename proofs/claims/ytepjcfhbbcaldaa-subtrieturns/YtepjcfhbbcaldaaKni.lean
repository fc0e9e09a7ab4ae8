import Derived.Test.YtepjcfhbbcaldaaKnh
import Derived.Laws.Cover1
import Derived.Sort.Walk0
namespace Go.Proofs.Ytepjcfhbbcaldaa.Li
open Go Go.RowKit
set_option linter.unusedSimpArgs false
set_option linter.unusedVariables false
theorem lt_facts {y y' : ByteArray} (h : unB y' < unB y) : Op.bytesLess y.toList y'.toList = false ∧ (y.toList == y'.toList) = false := by
  rw [Go.Proofs.bytesLess_eq, Lib.toList_data, Lib.toList_data]
  have h : y'.data.toList < y.data.toList := h
  refine ⟨decide_eq_false (List.lt_asymm h), ?_⟩
  rw [beq_eq_false_iff_ne]
  intro e
  rw [e] at h
  exact List.lt_irrefl _ h
theorem pw_next {L : List ByteArray} (h : L.Pairwise fun a b => unB a < unB b) {j : Nat} {a b : ByteArray} (ha : L[j]? = some a) (hb : L[j + 1]? = some b) : unB a < unB b := by
  obtain ⟨h1, e1⟩ := List.getElem?_eq_some_iff.1 ha
  obtain ⟨h2, e2⟩ := List.getElem?_eq_some_iff.1 hb
  have := List.pairwise_iff_getElem.1 h j (j + 1) h1 h2 (by omega)
  rw [e1, e2] at this
  exact this
set_option maxRecDepth 100000 in
set_option maxHeartbeats 8000000 in
/-- SUBTRIEFINDS. -/
theorem finds_any {w : World} {v : Value} {l : List Sb} (h : SbAt w v l) (hx : ∀ s ∈ l, s.f.size ≤ 140737488355328 ∧ s.x.size ≤ 140737488355328) (t : ByteArray) :
    Calls Try.prog 3 #[v, .string t] w fun e w' => e = .returned (.bool true) ∧ Below w.heap.size w w' := by
  obtain ⟨a, n, cap, rfl, hn, hc, hrow⟩ := id h.ex
  have ba := (Below.refl w.heap.size w).alloc (Nat.le_refl _) (.cells #[.slice a n cap] 22)
  have BA := hidi ba
  have SM := hidi (small_any (h.below ba) (lb := w.heap.size) (by simp) (box_cells (heap_alloc_new w _) 0 _ rfl) hx)
  have KN := hidi (fun w => known_any w)
  have LA := hidi (fun (w1 : World) (hb : Below w.heap.size w w1) (hl : l.length ≤ 60) (hs : sumS l ≤ 60000) => laid_any (h.below hb) (by omega) (fun s hs' => by have := sumS_mem hs'; omega))
  have QU := hidi (fun (w1 : World) (hb : Below w.heap.size w w1) (hl : l.length ≤ 60) (y : ByteArray) => quality_any (h.below hb) (by omega) y t)
  have FO := hidi (fun (w0 w1 w2 : World) (tb m r : Nat) (hl : l.length ≤ 60) (hs : sumS l ≤ 60000) (ld : LdR w0 w1 tb m r l.length (hold l)) (hb : Below w1.heap.size w1 w2) => fq_of (w := w0) (t := t) hl (fun s hs' => by have := sumS_mem hs'; omega) ld hb)
  have HR := hidi hrow
  have HN := hidi (And.intro hn hc)
  clear h hx hrow ba hn hc
  by_cases big : t.size > 60000
  · have b1 : (t.size : Int) > 60000 := by omega
    have b2 : (60000 : Int) < t.size := by omega
    clear KN LA QU FO HR HN
    go_enter Try.func3, Try.ntmps3
    go_upto_region 2 with (go_at_call 5; refine SM.out.mono ?_; rintro e w1 ⟨b, rfl, sm, hb⟩; have B1 := hidi (BA.out.trans (hb.mono BA.out.size)); clear sm hb SM; cases b)
    · go_wp2_with fail
      go_ret
      exact ⟨rfl, B1.out⟩
    · go_wp2_with fail
      go_ret
      exact ⟨rfl, B1.out⟩
  · have b1 : ¬ (t.size : Int) > 60000 := by omega
    have b2 : ¬ (60000 : Int) < t.size := by omega
    go_enter Try.func3, Try.ntmps3
    go_upto_region 2 with (go_at_call 5; refine SM.out.mono ?_; rintro e w1 ⟨b, rfl, sm, hb⟩; have S1 := hidi sm; have B1 := hidi (BA.out.trans (hb.mono BA.out.size)); clear sm hb SM; cases b)
    · go_wp2_with fail
      go_ret
      exact ⟨rfl, B1.out⟩
    · obtain ⟨s60, sum⟩ := S1.out rfl
      have S2 := hidi (And.intro s60 sum)
      clear S1 s60 sum
      go_wp2_with (first
        | (go_at_call 6; refine (KN.out _).mono ?_; rintro e w2 ⟨rfl, hb⟩; have B2 := hidi (B1.out.trans (hb.mono B1.out.size)); have LA2 := hidi (LA.out _ B2.out S2.out.1 S2.out.2); clear hb KN LA)
        | (go_at_call 7; refine LA2.out.mono ?_; rintro e w3 ⟨tb, m, r, rfl, ld⟩; have B3 := hidi (B2.out.trans (ld.be.mono B2.out.size)); have FO2 := hidi (FO.out _ _ _ _ _ _ S2.out.1 S2.out.2 ld (Below.refl _ _)); clear ld LA2 FO; unfold ptr at *)
        | (go_at_call 8; refine FO2.out.mono ?_; rintro e w4 ⟨fv, g, L, rfl, ho, fq, l60, hb⟩; obtain ⟨fa, fc, rfl⟩ := own_sl ho; have B4 := hidi (B3.out.trans (hb.mono B3.out.size)); have HO := hidi ho; have HF := hidi (And.intro fq l60); clear ho fq l60 hb FO2))
      have OI := hidi (fun (s : Sb) (hs : s ∈ l) => (show okT s.x from by have := (sumS_mem hs).2; have := S2.out.2; unfold okT maxLen; omega))
      obtain ⟨m, hm⟩ : ∃ m, m = L.length := ⟨_, rfl⟩
      rw [← hm] at HO ⊢
      have HM := hidi hm
      clear hm
      have CE := hidi (fun (wx : World) (hb : Below w4.heap.size w4 wx) (i : Nat) (hi : i < m) => (show ∃ fg y, fa = some ⟨fg, 0, none⟩ ∧ L[i]? = some y ∧ wx.cell? ⟨fg, i * 2, none⟩ = some (.string y) ∧ wx.cell? ⟨fg, i * 2 + 1, none⟩ = some (.int .i64 ((g y).getD 0)) from by
        have ho := HO.out
        have e := eL_len g L
        rw [HM.out, ← e] at ho
        obtain ⟨fg, c, hv, _, hc⟩ := prow_cell (j := i) ho (by rw [e, ← HM.out]; exact hi)
        simp only [Value.slice.injEq] at hv
        have hi' : i < L.length := by rw [← HM.out]; exact hi
        obtain ⟨c0, c1⟩ := hc i (by rw [e]; exact hi')
        refine ⟨fg, L[i], hv.1, List.getElem?_eq_getElem hi', ?_, ?_⟩
        · rw [hb.cell (World.block_lt_of_cell? _ _ c0), c0]; simp [eL]
        · rw [hb.cell (World.block_lt_of_cell? _ _ c1), c1]; simp [eL]))
      go_loopg [8] m (fun gg s8 wx => ∃ i : Nat, i + gg = m ∧ s8 = .int .i64 i ∧ Hid (Below w4.heap.size w4 wx))
      case atStart => exact ⟨0, by omega, rfl, Below.refl _ _⟩
      case round =>
        obtain ⟨i, hi, rfl, Z⟩ := hrel
        have BZ := hidi (B4.out.trans (Z.out.mono B4.out.size))
        by_cases lt : i < m
        · have lt' : (i : Int) < m := by omega
          obtain ⟨fg, y, rfl, hy, c0, c1⟩ := CE.out wr Z.out i lt
          have HY := hidi (List.mem_of_getElem? hy)
          have HYI := hidi hy
          have hw : IntKind.i64.wrap ((i : Int) + 1) = (i : Int) + 1 := by rw [IntKind.wrap_i64]; have := HF.out.2; have := HM.out; omega
          have Q := hidi (fun (wx : World) (hb : Below wr.heap.size wr wx) => QU.out wx (BZ.out.trans (hb.mono BZ.out.size)) S2.out.1 y)
          clear hy
          obtain ⟨gq, hgq⟩ : ∃ gq, gq = (g y).getD 0 := ⟨_, rfl⟩
          rw [← hgq] at c1
          have HGQ := hidi hgq
          clear hgq
          have i1 : (i : Int) < (i : Int) + 1 := by omega
          cases i with
          | zero =>
            have i0 : ¬ ((0 : Nat) : Int) > 0 := by omega
            have i2 : (0 : Int) < (m : Int) := by omega
            have B0 := hidi ((Below.refl wr.heap.size wr).drew)
            have hS0 : wr.drew.cell? ⟨fg, 0, none⟩ = some (.string y) ∧ wr.drew.cell? ⟨fg, 0 + 1, none⟩ = some (.int .i64 gq) := ⟨by simpa using c0, by simpa using c1⟩
            have HSK := hidi (fun (wq : World) (hb : Below wr.drew.heap.size wr.drew wq) => (show wq.cell? ⟨fg, 0, none⟩ = some (.string y) ∧ wq.cell? ⟨fg, 0 + 1, none⟩ = some (.int .i64 gq) from ⟨(hb.cell (World.block_lt_of_cell? _ _ hS0.1)).trans hS0.1, (hb.cell (World.block_lt_of_cell? _ _ hS0.2)).trans hS0.2⟩))
            clear c0 c1
            go_wp2_with fail
            refine wp_region_held_drew (S := fun w' => w'.cell? ⟨fg, 0, none⟩ = some (.string y) ∧ w'.cell? ⟨fg, 0 + 1, none⟩ = some (.int .i64 gq)) (by kernel_rfl) hS0 (fun hHeld => ?_)
            change wpAnyH _ _ _ _ _ 32 #[false, false, false, false, false, false, false, false, false, false, false, false, false, false, false, false, false, false, false, false, false, false, false, false, false, false, false, false, false, false, false, false] _ (World.drew _)
            refine wpAnyH_take (i := 0) (oi := { dst := some 39, op := Go.Op.move (Go.Operand.tmp 8), type := 3, pos := "outright.go:150", after := #[], guard := none }) (v := .int .i64 0) rfl (by kernel_rfl) (by kernel_rfl) (by kernel_rfl) (fun _ _ _ h => h) (Or.inl ⟨by kernel_rfl, by intro wq hSw; (try dsimp only at hSw); go_simp⟩) hHeld ?_
            (try simp only [Act.put, List.setIfInBounds_toArray, List.set_cons_zero, List.set_cons_succ])
            refine wpAnyH_take (i := 1) (oi := { dst := some 40, op := Go.Op.binOp Go.BinOp.gtr 3 (Go.Operand.tmp 39) (Go.Operand.const (Go.Value.int Go.IntKind.i64 0)) 3, type := 4, pos := "outright.go:150", after := #[{ on := 0, ground := Go.Ground.data }], guard := none }) (v := .bool false) rfl (by kernel_rfl) (by kernel_rfl) (by kernel_rfl) (fun _ _ _ h => h) (Or.inl ⟨by kernel_rfl, by intro wq hSw; (try dsimp only at hSw); go_simp⟩) hHeld ?_
            (try simp only [Act.put, List.setIfInBounds_toArray, List.set_cons_zero, List.set_cons_succ])
            refine wpAnyH_take (i := 2) (oi := { dst := some 41, op := Go.Op.move (Go.Operand.tmp 40), type := 4, pos := "outright.go:150", after := #[{ on := 1, ground := Go.Ground.data }], guard := none }) (v := .bool false) rfl (by kernel_rfl) (by kernel_rfl) (by kernel_rfl) (fun _ _ _ h => h) (Or.inl ⟨by kernel_rfl, by intro wq hSw; (try dsimp only at hSw); go_simp⟩) hHeld ?_
            (try simp only [Act.put, List.setIfInBounds_toArray, List.set_cons_zero, List.set_cons_succ])
            refine wpAnyH_take (i := 3) (oi := { dst := some 42, op := Go.Op.move (Go.Operand.tmp 7), type := 28, pos := "outright.go:150", after := #[{ on := 2, ground := Go.Ground.guard }], guard := some (2, true) }) (v := undef) rfl (by kernel_rfl) (by kernel_rfl) (by kernel_rfl) (fun _ _ _ h => h) (Or.inr ⟨by kernel_rfl, rfl⟩) hHeld ?_
            (try simp only [Act.put, List.setIfInBounds_toArray, List.set_cons_zero, List.set_cons_succ])
            refine wpAnyH_take (i := 4) (oi := { dst := some 43, op := Go.Op.move (Go.Operand.tmp 8), type := 3, pos := "outright.go:150", after := #[{ on := 2, ground := Go.Ground.guard }], guard := some (2, true) }) (v := undef) rfl (by kernel_rfl) (by kernel_rfl) (by kernel_rfl) (fun _ _ _ h => h) (Or.inr ⟨by kernel_rfl, rfl⟩) hHeld ?_
            (try simp only [Act.put, List.setIfInBounds_toArray, List.set_cons_zero, List.set_cons_succ])
            refine wpAnyH_take (i := 5) (oi := { dst := some 44, op := Go.Op.indexAddr 28 (Go.Operand.tmp 42) (Go.Operand.tmp 43), type := 0, pos := "outright.go:150", after := #[{ on := 3, ground := Go.Ground.data }, { on := 4, ground := Go.Ground.data }, { on := 2, ground := Go.Ground.guard }], guard := some (2, true) }) (v := undef) rfl (by kernel_rfl) (by kernel_rfl) (by kernel_rfl) (fun _ _ _ h => h) (Or.inr ⟨by kernel_rfl, rfl⟩) hHeld ?_
            (try simp only [Act.put, List.setIfInBounds_toArray, List.set_cons_zero, List.set_cons_succ])
            refine wpAnyH_take (i := 6) (oi := { dst := some 45, op := Go.Op.fieldAddr 31 (Go.Operand.tmp 44) 0, type := 0, pos := "outright.go:150", after := #[{ on := 5, ground := Go.Ground.data }, { on := 2, ground := Go.Ground.guard }], guard := some (2, true) }) (v := undef) rfl (by kernel_rfl) (by kernel_rfl) (by kernel_rfl) (fun _ _ _ h => h) (Or.inr ⟨by kernel_rfl, rfl⟩) hHeld ?_
            (try simp only [Act.put, List.setIfInBounds_toArray, List.set_cons_zero, List.set_cons_succ])
            refine wpAnyH_take (i := 7) (oi := { dst := some 46, op := Go.Op.load 9 (Go.Operand.tmp 45), type := 9, pos := "outright.go:150", after := #[{ on := 6, ground := Go.Ground.data }, { on := 2, ground := Go.Ground.guard }], guard := some (2, true) }) (v := undef) rfl (by kernel_rfl) (by kernel_rfl) (by kernel_rfl) (fun _ _ _ h => h) (Or.inr ⟨by kernel_rfl, rfl⟩) hHeld ?_
            (try simp only [Act.put, List.setIfInBounds_toArray, List.set_cons_zero, List.set_cons_succ])
            refine wpAnyH_take (i := 8) (oi := { dst := some 47, op := Go.Op.move (Go.Operand.tmp 7), type := 28, pos := "outright.go:150", after := #[{ on := 2, ground := Go.Ground.guard }], guard := some (2, true) }) (v := undef) rfl (by kernel_rfl) (by kernel_rfl) (by kernel_rfl) (fun _ _ _ h => h) (Or.inr ⟨by kernel_rfl, rfl⟩) hHeld ?_
            (try simp only [Act.put, List.setIfInBounds_toArray, List.set_cons_zero, List.set_cons_succ])
            refine wpAnyH_take (i := 9) (oi := { dst := some 48, op := Go.Op.move (Go.Operand.tmp 8), type := 3, pos := "outright.go:150", after := #[{ on := 2, ground := Go.Ground.guard }], guard := some (2, true) }) (v := undef) rfl (by kernel_rfl) (by kernel_rfl) (by kernel_rfl) (fun _ _ _ h => h) (Or.inr ⟨by kernel_rfl, rfl⟩) hHeld ?_
            (try simp only [Act.put, List.setIfInBounds_toArray, List.set_cons_zero, List.set_cons_succ])
            refine wpAnyH_take (i := 10) (oi := { dst := some 49, op := Go.Op.binOp Go.BinOp.sub 3 (Go.Operand.tmp 48) (Go.Operand.const (Go.Value.int Go.IntKind.i64 1)) 3, type := 3, pos := "outright.go:150", after := #[{ on := 9, ground := Go.Ground.data }, { on := 2, ground := Go.Ground.guard }], guard := some (2, true) }) (v := undef) rfl (by kernel_rfl) (by kernel_rfl) (by kernel_rfl) (fun _ _ _ h => h) (Or.inr ⟨by kernel_rfl, rfl⟩) hHeld ?_
            (try simp only [Act.put, List.setIfInBounds_toArray, List.set_cons_zero, List.set_cons_succ])
            refine wpAnyH_take (i := 11) (oi := { dst := some 50, op := Go.Op.indexAddr 28 (Go.Operand.tmp 47) (Go.Operand.tmp 49), type := 0, pos := "outright.go:150", after := #[{ on := 8, ground := Go.Ground.data }, { on := 10, ground := Go.Ground.data }, { on := 2, ground := Go.Ground.guard }], guard := some (2, true) }) (v := undef) rfl (by kernel_rfl) (by kernel_rfl) (by kernel_rfl) (fun _ _ _ h => h) (Or.inr ⟨by kernel_rfl, rfl⟩) hHeld ?_
            (try simp only [Act.put, List.setIfInBounds_toArray, List.set_cons_zero, List.set_cons_succ])
            refine wpAnyH_take (i := 12) (oi := { dst := some 51, op := Go.Op.fieldAddr 31 (Go.Operand.tmp 50) 0, type := 0, pos := "outright.go:150", after := #[{ on := 11, ground := Go.Ground.data }, { on := 2, ground := Go.Ground.guard }], guard := some (2, true) }) (v := undef) rfl (by kernel_rfl) (by kernel_rfl) (by kernel_rfl) (fun _ _ _ h => h) (Or.inr ⟨by kernel_rfl, rfl⟩) hHeld ?_
            (try simp only [Act.put, List.setIfInBounds_toArray, List.set_cons_zero, List.set_cons_succ])
            refine wpAnyH_take (i := 13) (oi := { dst := some 52, op := Go.Op.load 9 (Go.Operand.tmp 51), type := 9, pos := "outright.go:150", after := #[{ on := 12, ground := Go.Ground.data }, { on := 2, ground := Go.Ground.guard }], guard := some (2, true) }) (v := undef) rfl (by kernel_rfl) (by kernel_rfl) (by kernel_rfl) (fun _ _ _ h => h) (Or.inr ⟨by kernel_rfl, rfl⟩) hHeld ?_
            (try simp only [Act.put, List.setIfInBounds_toArray, List.set_cons_zero, List.set_cons_succ])
            refine wpAnyH_take (i := 14) (oi := { dst := some 53, op := Go.Op.binOp Go.BinOp.leq 9 (Go.Operand.tmp 46) (Go.Operand.tmp 52) 9, type := 4, pos := "outright.go:150", after := #[{ on := 7, ground := Go.Ground.data }, { on := 13, ground := Go.Ground.data }, { on := 2, ground := Go.Ground.guard }], guard := some (2, true) }) (v := undef) rfl (by kernel_rfl) (by kernel_rfl) (by kernel_rfl) (fun _ _ _ h => h) (Or.inr ⟨by kernel_rfl, rfl⟩) hHeld ?_
            (try simp only [Act.put, List.setIfInBounds_toArray, List.set_cons_zero, List.set_cons_succ])
            refine wpAnyH_take (i := 15) (oi := { dst := some 54, op := Go.Op.pick (Go.Operand.tmp 41) (Go.Operand.tmp 53) (Go.Operand.const (Go.Value.bool false)), type := 4, pos := "outright.go:150", after := #[{ on := 2, ground := Go.Ground.data }, { on := 14, ground := Go.Ground.data }], guard := none }) (v := .bool false) rfl (by kernel_rfl) (by kernel_rfl) (by kernel_rfl) (fun _ _ _ h => h) (Or.inl ⟨by kernel_rfl, by intro wq hSw; (try dsimp only at hSw); go_simp⟩) hHeld ?_
            (try simp only [Act.put, List.setIfInBounds_toArray, List.set_cons_zero, List.set_cons_succ])
            refine wpAnyH_take (i := 16) (oi := { dst := some 55, op := Go.Op.move (Go.Operand.tmp 54), type := 4, pos := "outright.go:150", after := #[{ on := 15, ground := Go.Ground.data }, { on := 2, ground := Go.Ground.chain }], guard := none }) (v := .bool false) rfl (by kernel_rfl) (by kernel_rfl) (by kernel_rfl) (fun _ _ _ h => h) (Or.inl ⟨by kernel_rfl, by intro wq hSw; (try dsimp only at hSw); go_simp⟩) hHeld ?_
            (try simp only [Act.put, List.setIfInBounds_toArray, List.set_cons_zero, List.set_cons_succ])
            refine wpAnyH_take (i := 17) (oi := { dst := some 56, op := Go.Op.move (Go.Operand.tmp 7), type := 28, pos := "outright.go:150", after := #[{ on := 16, ground := Go.Ground.guard }], guard := some (16, false) }) (v := .slice (some ⟨fg, 0, none⟩) m fc) rfl (by kernel_rfl) (by kernel_rfl) (by kernel_rfl) (fun _ _ _ h => h) (Or.inl ⟨by kernel_rfl, by intro wq hSw; (try dsimp only at hSw); go_simp⟩) hHeld ?_
            (try simp only [Act.put, List.setIfInBounds_toArray, List.set_cons_zero, List.set_cons_succ])
            refine wpAnyH_take (i := 18) (oi := { dst := some 57, op := Go.Op.move (Go.Operand.tmp 8), type := 3, pos := "outright.go:150", after := #[{ on := 16, ground := Go.Ground.guard }], guard := some (16, false) }) (v := .int .i64 0) rfl (by kernel_rfl) (by kernel_rfl) (by kernel_rfl) (fun _ _ _ h => h) (Or.inl ⟨by kernel_rfl, by intro wq hSw; (try dsimp only at hSw); go_simp⟩) hHeld ?_
            (try simp only [Act.put, List.setIfInBounds_toArray, List.set_cons_zero, List.set_cons_succ])
            refine wpAnyH_take (i := 19) (oi := { dst := some 58, op := Go.Op.indexAddr 28 (Go.Operand.tmp 56) (Go.Operand.tmp 57), type := 0, pos := "outright.go:150", after := #[{ on := 17, ground := Go.Ground.data }, { on := 18, ground := Go.Ground.data }, { on := 16, ground := Go.Ground.guard }], guard := some (16, false) }) (v := .pointer (some ⟨fg, 0, none⟩)) rfl (by kernel_rfl) (by kernel_rfl) (by kernel_rfl) (fun _ _ _ h => h) (Or.inl ⟨by kernel_rfl, by intro wq hSw; (try dsimp only at hSw); go_simp⟩) hHeld ?_
            (try simp only [Act.put, List.setIfInBounds_toArray, List.set_cons_zero, List.set_cons_succ])
            refine wpAnyH_take (i := 20) (oi := { dst := some 59, op := Go.Op.fieldAddr 31 (Go.Operand.tmp 58) 1, type := 0, pos := "outright.go:150", after := #[{ on := 19, ground := Go.Ground.data }, { on := 16, ground := Go.Ground.guard }], guard := some (16, false) }) (v := .pointer (some ⟨fg, 1, none⟩)) rfl (by kernel_rfl) (by kernel_rfl) (by kernel_rfl) (fun _ _ _ h => h) (Or.inl ⟨by kernel_rfl, by intro wq hSw; (try dsimp only at hSw); go_simp⟩) hHeld ?_
            (try simp only [Act.put, List.setIfInBounds_toArray, List.set_cons_zero, List.set_cons_succ])
            refine wpAnyH_take (i := 21) (oi := { dst := some 60, op := Go.Op.load 3 (Go.Operand.tmp 59), type := 3, pos := "outright.go:150", after := #[{ on := 20, ground := Go.Ground.data }, { on := 16, ground := Go.Ground.guard }], guard := some (16, false) }) (v := .int .i64 gq) rfl (by kernel_rfl) (by kernel_rfl) (by kernel_rfl) (fun _ _ _ h => h) (Or.inl ⟨by kernel_rfl, by intro wq hSw; (try dsimp only at hSw); go_simp⟩) hHeld ?_
            (try simp only [Act.put, List.setIfInBounds_toArray, List.set_cons_zero, List.set_cons_succ])
            refine wpAnyH_take (i := 22) (oi := { dst := some 61, op := Go.Op.move (Go.Operand.tmp 0), type := 22, pos := "outright.go:150", after := #[{ on := 16, ground := Go.Ground.guard }], guard := some (16, false) }) (v := .slice a n cap) rfl (by kernel_rfl) (by kernel_rfl) (by kernel_rfl) (fun _ _ _ h => h) (Or.inl ⟨by kernel_rfl, by intro wq hSw; (try dsimp only at hSw); go_simp⟩) hHeld ?_
            (try simp only [Act.put, List.setIfInBounds_toArray, List.set_cons_zero, List.set_cons_succ])
            refine wpAnyH_take (i := 23) (oi := { dst := some 62, op := Go.Op.move (Go.Operand.tmp 7), type := 28, pos := "outright.go:150", after := #[{ on := 16, ground := Go.Ground.guard }], guard := some (16, false) }) (v := .slice (some ⟨fg, 0, none⟩) m fc) rfl (by kernel_rfl) (by kernel_rfl) (by kernel_rfl) (fun _ _ _ h => h) (Or.inl ⟨by kernel_rfl, by intro wq hSw; (try dsimp only at hSw); go_simp⟩) hHeld ?_
            (try simp only [Act.put, List.setIfInBounds_toArray, List.set_cons_zero, List.set_cons_succ])
            refine wpAnyH_take (i := 24) (oi := { dst := some 63, op := Go.Op.move (Go.Operand.tmp 8), type := 3, pos := "outright.go:150", after := #[{ on := 16, ground := Go.Ground.guard }], guard := some (16, false) }) (v := .int .i64 0) rfl (by kernel_rfl) (by kernel_rfl) (by kernel_rfl) (fun _ _ _ h => h) (Or.inl ⟨by kernel_rfl, by intro wq hSw; (try dsimp only at hSw); go_simp⟩) hHeld ?_
            (try simp only [Act.put, List.setIfInBounds_toArray, List.set_cons_zero, List.set_cons_succ])
            refine wpAnyH_take (i := 25) (oi := { dst := some 64, op := Go.Op.indexAddr 28 (Go.Operand.tmp 62) (Go.Operand.tmp 63), type := 0, pos := "outright.go:150", after := #[{ on := 23, ground := Go.Ground.data }, { on := 24, ground := Go.Ground.data }, { on := 16, ground := Go.Ground.guard }], guard := some (16, false) }) (v := .pointer (some ⟨fg, 0, none⟩)) rfl (by kernel_rfl) (by kernel_rfl) (by kernel_rfl) (fun _ _ _ h => h) (Or.inl ⟨by kernel_rfl, by intro wq hSw; (try dsimp only at hSw); go_simp⟩) hHeld ?_
            (try simp only [Act.put, List.setIfInBounds_toArray, List.set_cons_zero, List.set_cons_succ])
            refine wpAnyH_take (i := 26) (oi := { dst := some 65, op := Go.Op.fieldAddr 31 (Go.Operand.tmp 64) 0, type := 0, pos := "outright.go:150", after := #[{ on := 25, ground := Go.Ground.data }, { on := 16, ground := Go.Ground.guard }], guard := some (16, false) }) (v := .pointer (some ⟨fg, 0, none⟩)) rfl (by kernel_rfl) (by kernel_rfl) (by kernel_rfl) (fun _ _ _ h => h) (Or.inl ⟨by kernel_rfl, by intro wq hSw; (try dsimp only at hSw); go_simp⟩) hHeld ?_
            (try simp only [Act.put, List.setIfInBounds_toArray, List.set_cons_zero, List.set_cons_succ])
            refine wpAnyH_take (i := 27) (oi := { dst := some 66, op := Go.Op.load 9 (Go.Operand.tmp 65), type := 9, pos := "outright.go:150", after := #[{ on := 26, ground := Go.Ground.data }, { on := 16, ground := Go.Ground.guard }], guard := some (16, false) }) (v := .string y) rfl (by kernel_rfl) (by kernel_rfl) (by kernel_rfl) (fun _ _ _ h => h) (Or.inl ⟨by kernel_rfl, by intro wq hSw; (try dsimp only at hSw); go_simp⟩) hHeld ?_
            (try simp only [Act.put, List.setIfInBounds_toArray, List.set_cons_zero, List.set_cons_succ])
            refine wpAnyH_take (i := 28) (oi := { dst := some 67, op := Go.Op.move (Go.Operand.tmp 1), type := 9, pos := "outright.go:150", after := #[{ on := 16, ground := Go.Ground.guard }], guard := some (16, false) }) (v := .string t) rfl (by kernel_rfl) (by kernel_rfl) (by kernel_rfl) (fun _ _ _ h => h) (Or.inl ⟨by kernel_rfl, by intro wq hSw; (try dsimp only at hSw); go_simp⟩) hHeld ?_
            (try simp only [Act.put, List.setIfInBounds_toArray, List.set_cons_zero, List.set_cons_succ])
            refine wpAnyH_ready (rs := [29]) (by kernel_rfl) (by simp) ?_
            refine AllReadyH.cons (o := { dst := some 68, op := Go.Op.call { callee := Go.Callee.value (Go.Operand.func 9), args := #[Go.Operand.tmp 61, Go.Operand.tmp 66, Go.Operand.tmp 67], argTypes := #[22, 9, 9] }, type := 3, pos := "outright.go:150", after := #[{ on := 22, ground := Go.Ground.data }, { on := 27, ground := Go.Ground.data }, { on := 28, ground := Go.Ground.data }, { on := 16, ground := Go.Ground.chain }, { on := 16, ground := Go.Ground.guard }], guard := some (16, false) }) (by rfl) (fun K hK => ?_) AllReadyH.nil
            go_simp
            go_wp2_with (go_at_call 9; refine (Q.out _ B0.out).mono ?_; rintro e wq ⟨q, rfl, mx, hb⟩; have BQ := hidi (Z.out.trans ((B0.out.trans (hb.mono B0.out.size)).mono Z.out.size)); have eq := HGQ.out.trans (HF.out.1.in_ HY.out mx); subst eq; have HQ := hidi (HSK.out _ hb); clear mx hb)
            refine hK.out _ _ HQ.out (fun hHeld => ?_)
            clear hK K
            (try simp only [Act.put, List.setIfInBounds_toArray, List.set_cons_zero, List.set_cons_succ])
            refine wpAnyH_take (i := 30) (oi := { dst := some 69, op := Go.Op.binOp Go.BinOp.neq 3 (Go.Operand.tmp 60) (Go.Operand.tmp 68) 3, type := 4, pos := "outright.go:150", after := #[{ on := 21, ground := Go.Ground.data }, { on := 29, ground := Go.Ground.data }, { on := 16, ground := Go.Ground.guard }], guard := some (16, false) }) (v := .bool false) rfl (by kernel_rfl) (by kernel_rfl) (by kernel_rfl) (fun _ _ _ h => h) (Or.inl ⟨by kernel_rfl, by intro wq hSw; (try dsimp only at hSw); go_simp⟩) hHeld ?_
            (try simp only [Act.put, List.setIfInBounds_toArray, List.set_cons_zero, List.set_cons_succ])
            refine wpAnyH_take (i := 31) (oi := { dst := some 70, op := Go.Op.pick (Go.Operand.tmp 55) (Go.Operand.const (Go.Value.bool true)) (Go.Operand.tmp 69), type := 4, pos := "outright.go:150", after := #[{ on := 16, ground := Go.Ground.data }, { on := 30, ground := Go.Ground.data }], guard := none }) (v := .bool false) rfl (by kernel_rfl) (by kernel_rfl) (by kernel_rfl) (fun _ _ _ h => h) (Or.inl ⟨by kernel_rfl, by intro wq hSw; (try dsimp only at hSw); go_simp⟩) hHeld ?_
            (try simp only [Act.put, List.setIfInBounds_toArray, List.set_cons_zero, List.set_cons_succ])
            refine wpAnyH_done (by kernel_rfl) ?_ _
            go_wp2_with fail
            go_roundg (m - 1)
            case measure => omega
            case rel => exact ⟨1, by omega, rfl, BQ.out⟩
          | succ j =>
            obtain ⟨fg', y', hfg, hy', p0, p1⟩ := CE.out wr Z.out j (by omega)
            obtain rfl : fg = fg' := by simpa using hfg
            have HLT := hidi (lt_facts (pw_next HF.out.1.ord hy' HYI.out))
            obtain ⟨s1, s2⟩ := HLT.out
            clear hfg hy' p1
            have i0 : ((j + 1 : Nat) : Int) > 0 := by omega
            have i2 : (0 : Int) < (j : Int) + 1 := by omega
            have i3 : (j : Int) + 1 < (m : Int) := by omega
            have i4 : (j : Int) < (m : Int) := by omega
            have i5 : ¬ (j : Int) + 1 < 0 := by omega
            have hw2 : IntKind.i64.wrap ((j : Int) + 1 + 1) = (j : Int) + 2 := by rw [IntKind.wrap_i64]; have := HF.out.2; have := HM.out; omega
            have w0j : IntKind.i64.wrap (j : Int) = (j : Int) := by rw [IntKind.wrap_i64]; have := HF.out.2; have := HM.out; omega
            have w1j : IntKind.i64.wrap ((j : Int) + 1 - 1) = (j : Int) := by rw [IntKind.wrap_i64]; have := HF.out.2; have := HM.out; omega
            have B0 := hidi ((Below.refl wr.heap.size wr).drew)
            have hS0 : wr.drew.cell? ⟨fg, (j + 1) * 2, none⟩ = some (.string y) ∧ wr.drew.cell? ⟨fg, (j + 1) * 2 + 1, none⟩ = some (.int .i64 gq) ∧ wr.drew.cell? ⟨fg, j * 2, none⟩ = some (.string y') := ⟨c0, c1, p0⟩
            have HSK := hidi (fun (wq : World) (hb : Below wr.drew.heap.size wr.drew wq) => (show wq.cell? ⟨fg, (j + 1) * 2, none⟩ = some (.string y) ∧ wq.cell? ⟨fg, (j + 1) * 2 + 1, none⟩ = some (.int .i64 gq) ∧ wq.cell? ⟨fg, j * 2, none⟩ = some (.string y') from ⟨(hb.cell (World.block_lt_of_cell? _ _ hS0.1)).trans hS0.1, (hb.cell (World.block_lt_of_cell? _ _ hS0.2.1)).trans hS0.2.1, (hb.cell (World.block_lt_of_cell? _ _ hS0.2.2)).trans hS0.2.2⟩))
            clear c0 c1 p0
            go_wp2_with fail
            refine wp_region_held_drew (S := fun w' => w'.cell? ⟨fg, (j + 1) * 2, none⟩ = some (.string y) ∧ w'.cell? ⟨fg, (j + 1) * 2 + 1, none⟩ = some (.int .i64 gq) ∧ w'.cell? ⟨fg, j * 2, none⟩ = some (.string y')) (by kernel_rfl) hS0 (fun hHeld => ?_)
            change wpAnyH _ _ _ _ _ 32 #[false, false, false, false, false, false, false, false, false, false, false, false, false, false, false, false, false, false, false, false, false, false, false, false, false, false, false, false, false, false, false, false] _ (World.drew _)
            refine wpAnyH_take (i := 0) (oi := { dst := some 39, op := Go.Op.move (Go.Operand.tmp 8), type := 3, pos := "outright.go:150", after := #[], guard := none }) (v := (.int .i64 ((j : Int) + 1))) rfl (by kernel_rfl) (by kernel_rfl) (by kernel_rfl) (fun _ _ _ h => h) (Or.inl ⟨by kernel_rfl, by intro wq hSw; (try dsimp only at hSw); go_simp⟩) hHeld ?_
            (try simp only [Act.put, List.setIfInBounds_toArray, List.set_cons_zero, List.set_cons_succ])
            refine wpAnyH_take (i := 1) (oi := { dst := some 40, op := Go.Op.binOp Go.BinOp.gtr 3 (Go.Operand.tmp 39) (Go.Operand.const (Go.Value.int Go.IntKind.i64 0)) 3, type := 4, pos := "outright.go:150", after := #[{ on := 0, ground := Go.Ground.data }], guard := none }) (v := .bool true) rfl (by kernel_rfl) (by kernel_rfl) (by kernel_rfl) (fun _ _ _ h => h) (Or.inl ⟨by kernel_rfl, by intro wq hSw; (try dsimp only at hSw); go_simp⟩) hHeld ?_
            (try simp only [Act.put, List.setIfInBounds_toArray, List.set_cons_zero, List.set_cons_succ])
            refine wpAnyH_take (i := 2) (oi := { dst := some 41, op := Go.Op.move (Go.Operand.tmp 40), type := 4, pos := "outright.go:150", after := #[{ on := 1, ground := Go.Ground.data }], guard := none }) (v := .bool true) rfl (by kernel_rfl) (by kernel_rfl) (by kernel_rfl) (fun _ _ _ h => h) (Or.inl ⟨by kernel_rfl, by intro wq hSw; (try dsimp only at hSw); go_simp⟩) hHeld ?_
            (try simp only [Act.put, List.setIfInBounds_toArray, List.set_cons_zero, List.set_cons_succ])
            refine wpAnyH_take (i := 3) (oi := { dst := some 42, op := Go.Op.move (Go.Operand.tmp 7), type := 28, pos := "outright.go:150", after := #[{ on := 2, ground := Go.Ground.guard }], guard := some (2, true) }) (v := .slice (some ⟨fg, 0, none⟩) m fc) rfl (by kernel_rfl) (by kernel_rfl) (by kernel_rfl) (fun _ _ _ h => h) (Or.inl ⟨by kernel_rfl, by intro wq hSw; (try dsimp only at hSw); go_simp⟩) hHeld ?_
            (try simp only [Act.put, List.setIfInBounds_toArray, List.set_cons_zero, List.set_cons_succ])
            refine wpAnyH_take (i := 4) (oi := { dst := some 43, op := Go.Op.move (Go.Operand.tmp 8), type := 3, pos := "outright.go:150", after := #[{ on := 2, ground := Go.Ground.guard }], guard := some (2, true) }) (v := (.int .i64 ((j : Int) + 1))) rfl (by kernel_rfl) (by kernel_rfl) (by kernel_rfl) (fun _ _ _ h => h) (Or.inl ⟨by kernel_rfl, by intro wq hSw; (try dsimp only at hSw); go_simp⟩) hHeld ?_
            (try simp only [Act.put, List.setIfInBounds_toArray, List.set_cons_zero, List.set_cons_succ])
            refine wpAnyH_take (i := 5) (oi := { dst := some 44, op := Go.Op.indexAddr 28 (Go.Operand.tmp 42) (Go.Operand.tmp 43), type := 0, pos := "outright.go:150", after := #[{ on := 3, ground := Go.Ground.data }, { on := 4, ground := Go.Ground.data }, { on := 2, ground := Go.Ground.guard }], guard := some (2, true) }) (v := .pointer (some ⟨fg, (j + 1) * 2, none⟩)) rfl (by kernel_rfl) (by kernel_rfl) (by kernel_rfl) (fun _ _ _ h => h) (Or.inl ⟨by kernel_rfl, by intro wq hSw; (try dsimp only at hSw); go_simp⟩) hHeld ?_
            (try simp only [Act.put, List.setIfInBounds_toArray, List.set_cons_zero, List.set_cons_succ])
            refine wpAnyH_take (i := 6) (oi := { dst := some 45, op := Go.Op.fieldAddr 31 (Go.Operand.tmp 44) 0, type := 0, pos := "outright.go:150", after := #[{ on := 5, ground := Go.Ground.data }, { on := 2, ground := Go.Ground.guard }], guard := some (2, true) }) (v := .pointer (some ⟨fg, (j + 1) * 2, none⟩)) rfl (by kernel_rfl) (by kernel_rfl) (by kernel_rfl) (fun _ _ _ h => h) (Or.inl ⟨by kernel_rfl, by intro wq hSw; (try dsimp only at hSw); go_simp⟩) hHeld ?_
            (try simp only [Act.put, List.setIfInBounds_toArray, List.set_cons_zero, List.set_cons_succ])
            refine wpAnyH_take (i := 7) (oi := { dst := some 46, op := Go.Op.load 9 (Go.Operand.tmp 45), type := 9, pos := "outright.go:150", after := #[{ on := 6, ground := Go.Ground.data }, { on := 2, ground := Go.Ground.guard }], guard := some (2, true) }) (v := .string y) rfl (by kernel_rfl) (by kernel_rfl) (by kernel_rfl) (fun _ _ _ h => h) (Or.inl ⟨by kernel_rfl, by intro wq hSw; (try dsimp only at hSw); go_simp⟩) hHeld ?_
            (try simp only [Act.put, List.setIfInBounds_toArray, List.set_cons_zero, List.set_cons_succ])
            refine wpAnyH_take (i := 8) (oi := { dst := some 47, op := Go.Op.move (Go.Operand.tmp 7), type := 28, pos := "outright.go:150", after := #[{ on := 2, ground := Go.Ground.guard }], guard := some (2, true) }) (v := .slice (some ⟨fg, 0, none⟩) m fc) rfl (by kernel_rfl) (by kernel_rfl) (by kernel_rfl) (fun _ _ _ h => h) (Or.inl ⟨by kernel_rfl, by intro wq hSw; (try dsimp only at hSw); go_simp⟩) hHeld ?_
            (try simp only [Act.put, List.setIfInBounds_toArray, List.set_cons_zero, List.set_cons_succ])
            refine wpAnyH_take (i := 9) (oi := { dst := some 48, op := Go.Op.move (Go.Operand.tmp 8), type := 3, pos := "outright.go:150", after := #[{ on := 2, ground := Go.Ground.guard }], guard := some (2, true) }) (v := (.int .i64 ((j : Int) + 1))) rfl (by kernel_rfl) (by kernel_rfl) (by kernel_rfl) (fun _ _ _ h => h) (Or.inl ⟨by kernel_rfl, by intro wq hSw; (try dsimp only at hSw); go_simp⟩) hHeld ?_
            (try simp only [Act.put, List.setIfInBounds_toArray, List.set_cons_zero, List.set_cons_succ])
            refine wpAnyH_take (i := 10) (oi := { dst := some 49, op := Go.Op.binOp Go.BinOp.sub 3 (Go.Operand.tmp 48) (Go.Operand.const (Go.Value.int Go.IntKind.i64 1)) 3, type := 3, pos := "outright.go:150", after := #[{ on := 9, ground := Go.Ground.data }, { on := 2, ground := Go.Ground.guard }], guard := some (2, true) }) (v := .int .i64 (j : Int)) rfl (by kernel_rfl) (by kernel_rfl) (by kernel_rfl) (fun _ _ _ h => h) (Or.inl ⟨by kernel_rfl, by intro wq hSw; (try dsimp only at hSw); go_simp⟩) hHeld ?_
            (try simp only [Act.put, List.setIfInBounds_toArray, List.set_cons_zero, List.set_cons_succ])
            refine wpAnyH_take (i := 11) (oi := { dst := some 50, op := Go.Op.indexAddr 28 (Go.Operand.tmp 47) (Go.Operand.tmp 49), type := 0, pos := "outright.go:150", after := #[{ on := 8, ground := Go.Ground.data }, { on := 10, ground := Go.Ground.data }, { on := 2, ground := Go.Ground.guard }], guard := some (2, true) }) (v := .pointer (some ⟨fg, j * 2, none⟩)) rfl (by kernel_rfl) (by kernel_rfl) (by kernel_rfl) (fun _ _ _ h => h) (Or.inl ⟨by kernel_rfl, by intro wq hSw; (try dsimp only at hSw); go_simp⟩) hHeld ?_
            (try simp only [Act.put, List.setIfInBounds_toArray, List.set_cons_zero, List.set_cons_succ])
            refine wpAnyH_take (i := 12) (oi := { dst := some 51, op := Go.Op.fieldAddr 31 (Go.Operand.tmp 50) 0, type := 0, pos := "outright.go:150", after := #[{ on := 11, ground := Go.Ground.data }, { on := 2, ground := Go.Ground.guard }], guard := some (2, true) }) (v := .pointer (some ⟨fg, j * 2, none⟩)) rfl (by kernel_rfl) (by kernel_rfl) (by kernel_rfl) (fun _ _ _ h => h) (Or.inl ⟨by kernel_rfl, by intro wq hSw; (try dsimp only at hSw); go_simp⟩) hHeld ?_
            (try simp only [Act.put, List.setIfInBounds_toArray, List.set_cons_zero, List.set_cons_succ])
            refine wpAnyH_take (i := 13) (oi := { dst := some 52, op := Go.Op.load 9 (Go.Operand.tmp 51), type := 9, pos := "outright.go:150", after := #[{ on := 12, ground := Go.Ground.data }, { on := 2, ground := Go.Ground.guard }], guard := some (2, true) }) (v := .string y') rfl (by kernel_rfl) (by kernel_rfl) (by kernel_rfl) (fun _ _ _ h => h) (Or.inl ⟨by kernel_rfl, by intro wq hSw; (try dsimp only at hSw); go_simp⟩) hHeld ?_
            (try simp only [Act.put, List.setIfInBounds_toArray, List.set_cons_zero, List.set_cons_succ])
            refine wpAnyH_take (i := 14) (oi := { dst := some 53, op := Go.Op.binOp Go.BinOp.leq 9 (Go.Operand.tmp 46) (Go.Operand.tmp 52) 9, type := 4, pos := "outright.go:150", after := #[{ on := 7, ground := Go.Ground.data }, { on := 13, ground := Go.Ground.data }, { on := 2, ground := Go.Ground.guard }], guard := some (2, true) }) (v := .bool false) rfl (by kernel_rfl) (by kernel_rfl) (by kernel_rfl) (fun _ _ _ h => h) (Or.inl ⟨by kernel_rfl, by intro wq hSw; (try dsimp only at hSw); go_simp⟩) hHeld ?_
            (try simp only [Act.put, List.setIfInBounds_toArray, List.set_cons_zero, List.set_cons_succ])
            refine wpAnyH_take (i := 15) (oi := { dst := some 54, op := Go.Op.pick (Go.Operand.tmp 41) (Go.Operand.tmp 53) (Go.Operand.const (Go.Value.bool false)), type := 4, pos := "outright.go:150", after := #[{ on := 2, ground := Go.Ground.data }, { on := 14, ground := Go.Ground.data }], guard := none }) (v := .bool false) rfl (by kernel_rfl) (by kernel_rfl) (by kernel_rfl) (fun _ _ _ h => h) (Or.inl ⟨by kernel_rfl, by intro wq hSw; (try dsimp only at hSw); go_simp⟩) hHeld ?_
            (try simp only [Act.put, List.setIfInBounds_toArray, List.set_cons_zero, List.set_cons_succ])
            refine wpAnyH_take (i := 16) (oi := { dst := some 55, op := Go.Op.move (Go.Operand.tmp 54), type := 4, pos := "outright.go:150", after := #[{ on := 15, ground := Go.Ground.data }, { on := 2, ground := Go.Ground.chain }], guard := none }) (v := .bool false) rfl (by kernel_rfl) (by kernel_rfl) (by kernel_rfl) (fun _ _ _ h => h) (Or.inl ⟨by kernel_rfl, by intro wq hSw; (try dsimp only at hSw); go_simp⟩) hHeld ?_
            (try simp only [Act.put, List.setIfInBounds_toArray, List.set_cons_zero, List.set_cons_succ])
            refine wpAnyH_take (i := 17) (oi := { dst := some 56, op := Go.Op.move (Go.Operand.tmp 7), type := 28, pos := "outright.go:150", after := #[{ on := 16, ground := Go.Ground.guard }], guard := some (16, false) }) (v := .slice (some ⟨fg, 0, none⟩) m fc) rfl (by kernel_rfl) (by kernel_rfl) (by kernel_rfl) (fun _ _ _ h => h) (Or.inl ⟨by kernel_rfl, by intro wq hSw; (try dsimp only at hSw); go_simp⟩) hHeld ?_
            (try simp only [Act.put, List.setIfInBounds_toArray, List.set_cons_zero, List.set_cons_succ])
            refine wpAnyH_take (i := 18) (oi := { dst := some 57, op := Go.Op.move (Go.Operand.tmp 8), type := 3, pos := "outright.go:150", after := #[{ on := 16, ground := Go.Ground.guard }], guard := some (16, false) }) (v := (.int .i64 ((j : Int) + 1))) rfl (by kernel_rfl) (by kernel_rfl) (by kernel_rfl) (fun _ _ _ h => h) (Or.inl ⟨by kernel_rfl, by intro wq hSw; (try dsimp only at hSw); go_simp⟩) hHeld ?_
            (try simp only [Act.put, List.setIfInBounds_toArray, List.set_cons_zero, List.set_cons_succ])
            refine wpAnyH_take (i := 19) (oi := { dst := some 58, op := Go.Op.indexAddr 28 (Go.Operand.tmp 56) (Go.Operand.tmp 57), type := 0, pos := "outright.go:150", after := #[{ on := 17, ground := Go.Ground.data }, { on := 18, ground := Go.Ground.data }, { on := 16, ground := Go.Ground.guard }], guard := some (16, false) }) (v := .pointer (some ⟨fg, (j + 1) * 2, none⟩)) rfl (by kernel_rfl) (by kernel_rfl) (by kernel_rfl) (fun _ _ _ h => h) (Or.inl ⟨by kernel_rfl, by intro wq hSw; (try dsimp only at hSw); go_simp⟩) hHeld ?_
            (try simp only [Act.put, List.setIfInBounds_toArray, List.set_cons_zero, List.set_cons_succ])
            refine wpAnyH_take (i := 20) (oi := { dst := some 59, op := Go.Op.fieldAddr 31 (Go.Operand.tmp 58) 1, type := 0, pos := "outright.go:150", after := #[{ on := 19, ground := Go.Ground.data }, { on := 16, ground := Go.Ground.guard }], guard := some (16, false) }) (v := .pointer (some ⟨fg, (j + 1) * 2 + 1, none⟩)) rfl (by kernel_rfl) (by kernel_rfl) (by kernel_rfl) (fun _ _ _ h => h) (Or.inl ⟨by kernel_rfl, by intro wq hSw; (try dsimp only at hSw); go_simp⟩) hHeld ?_
            (try simp only [Act.put, List.setIfInBounds_toArray, List.set_cons_zero, List.set_cons_succ])
            refine wpAnyH_take (i := 21) (oi := { dst := some 60, op := Go.Op.load 3 (Go.Operand.tmp 59), type := 3, pos := "outright.go:150", after := #[{ on := 20, ground := Go.Ground.data }, { on := 16, ground := Go.Ground.guard }], guard := some (16, false) }) (v := .int .i64 gq) rfl (by kernel_rfl) (by kernel_rfl) (by kernel_rfl) (fun _ _ _ h => h) (Or.inl ⟨by kernel_rfl, by intro wq hSw; (try dsimp only at hSw); go_simp⟩) hHeld ?_
            (try simp only [Act.put, List.setIfInBounds_toArray, List.set_cons_zero, List.set_cons_succ])
            refine wpAnyH_take (i := 22) (oi := { dst := some 61, op := Go.Op.move (Go.Operand.tmp 0), type := 22, pos := "outright.go:150", after := #[{ on := 16, ground := Go.Ground.guard }], guard := some (16, false) }) (v := .slice a n cap) rfl (by kernel_rfl) (by kernel_rfl) (by kernel_rfl) (fun _ _ _ h => h) (Or.inl ⟨by kernel_rfl, by intro wq hSw; (try dsimp only at hSw); go_simp⟩) hHeld ?_
            (try simp only [Act.put, List.setIfInBounds_toArray, List.set_cons_zero, List.set_cons_succ])
            refine wpAnyH_take (i := 23) (oi := { dst := some 62, op := Go.Op.move (Go.Operand.tmp 7), type := 28, pos := "outright.go:150", after := #[{ on := 16, ground := Go.Ground.guard }], guard := some (16, false) }) (v := .slice (some ⟨fg, 0, none⟩) m fc) rfl (by kernel_rfl) (by kernel_rfl) (by kernel_rfl) (fun _ _ _ h => h) (Or.inl ⟨by kernel_rfl, by intro wq hSw; (try dsimp only at hSw); go_simp⟩) hHeld ?_
            (try simp only [Act.put, List.setIfInBounds_toArray, List.set_cons_zero, List.set_cons_succ])
            refine wpAnyH_take (i := 24) (oi := { dst := some 63, op := Go.Op.move (Go.Operand.tmp 8), type := 3, pos := "outright.go:150", after := #[{ on := 16, ground := Go.Ground.guard }], guard := some (16, false) }) (v := (.int .i64 ((j : Int) + 1))) rfl (by kernel_rfl) (by kernel_rfl) (by kernel_rfl) (fun _ _ _ h => h) (Or.inl ⟨by kernel_rfl, by intro wq hSw; (try dsimp only at hSw); go_simp⟩) hHeld ?_
            (try simp only [Act.put, List.setIfInBounds_toArray, List.set_cons_zero, List.set_cons_succ])
            refine wpAnyH_take (i := 25) (oi := { dst := some 64, op := Go.Op.indexAddr 28 (Go.Operand.tmp 62) (Go.Operand.tmp 63), type := 0, pos := "outright.go:150", after := #[{ on := 23, ground := Go.Ground.data }, { on := 24, ground := Go.Ground.data }, { on := 16, ground := Go.Ground.guard }], guard := some (16, false) }) (v := .pointer (some ⟨fg, (j + 1) * 2, none⟩)) rfl (by kernel_rfl) (by kernel_rfl) (by kernel_rfl) (fun _ _ _ h => h) (Or.inl ⟨by kernel_rfl, by intro wq hSw; (try dsimp only at hSw); go_simp⟩) hHeld ?_
            (try simp only [Act.put, List.setIfInBounds_toArray, List.set_cons_zero, List.set_cons_succ])
            refine wpAnyH_take (i := 26) (oi := { dst := some 65, op := Go.Op.fieldAddr 31 (Go.Operand.tmp 64) 0, type := 0, pos := "outright.go:150", after := #[{ on := 25, ground := Go.Ground.data }, { on := 16, ground := Go.Ground.guard }], guard := some (16, false) }) (v := .pointer (some ⟨fg, (j + 1) * 2, none⟩)) rfl (by kernel_rfl) (by kernel_rfl) (by kernel_rfl) (fun _ _ _ h => h) (Or.inl ⟨by kernel_rfl, by intro wq hSw; (try dsimp only at hSw); go_simp⟩) hHeld ?_
            (try simp only [Act.put, List.setIfInBounds_toArray, List.set_cons_zero, List.set_cons_succ])
            refine wpAnyH_take (i := 27) (oi := { dst := some 66, op := Go.Op.load 9 (Go.Operand.tmp 65), type := 9, pos := "outright.go:150", after := #[{ on := 26, ground := Go.Ground.data }, { on := 16, ground := Go.Ground.guard }], guard := some (16, false) }) (v := .string y) rfl (by kernel_rfl) (by kernel_rfl) (by kernel_rfl) (fun _ _ _ h => h) (Or.inl ⟨by kernel_rfl, by intro wq hSw; (try dsimp only at hSw); go_simp⟩) hHeld ?_
            (try simp only [Act.put, List.setIfInBounds_toArray, List.set_cons_zero, List.set_cons_succ])
            refine wpAnyH_take (i := 28) (oi := { dst := some 67, op := Go.Op.move (Go.Operand.tmp 1), type := 9, pos := "outright.go:150", after := #[{ on := 16, ground := Go.Ground.guard }], guard := some (16, false) }) (v := .string t) rfl (by kernel_rfl) (by kernel_rfl) (by kernel_rfl) (fun _ _ _ h => h) (Or.inl ⟨by kernel_rfl, by intro wq hSw; (try dsimp only at hSw); go_simp⟩) hHeld ?_
            (try simp only [Act.put, List.setIfInBounds_toArray, List.set_cons_zero, List.set_cons_succ])
            refine wpAnyH_ready (rs := [29]) (by kernel_rfl) (by simp) ?_
            refine AllReadyH.cons (o := { dst := some 68, op := Go.Op.call { callee := Go.Callee.value (Go.Operand.func 9), args := #[Go.Operand.tmp 61, Go.Operand.tmp 66, Go.Operand.tmp 67], argTypes := #[22, 9, 9] }, type := 3, pos := "outright.go:150", after := #[{ on := 22, ground := Go.Ground.data }, { on := 27, ground := Go.Ground.data }, { on := 28, ground := Go.Ground.data }, { on := 16, ground := Go.Ground.chain }, { on := 16, ground := Go.Ground.guard }], guard := some (16, false) }) (by rfl) (fun K hK => ?_) AllReadyH.nil
            go_simp
            go_wp2_with (go_at_call 9; refine (Q.out _ B0.out).mono ?_; rintro e wq ⟨q, rfl, mx, hb⟩; have BQ := hidi (Z.out.trans ((B0.out.trans (hb.mono B0.out.size)).mono Z.out.size)); have eq := HGQ.out.trans (HF.out.1.in_ HY.out mx); subst eq; have HQ := hidi (HSK.out _ hb); clear mx hb)
            refine hK.out _ _ HQ.out (fun hHeld => ?_)
            clear hK K
            (try simp only [Act.put, List.setIfInBounds_toArray, List.set_cons_zero, List.set_cons_succ])
            refine wpAnyH_take (i := 30) (oi := { dst := some 69, op := Go.Op.binOp Go.BinOp.neq 3 (Go.Operand.tmp 60) (Go.Operand.tmp 68) 3, type := 4, pos := "outright.go:150", after := #[{ on := 21, ground := Go.Ground.data }, { on := 29, ground := Go.Ground.data }, { on := 16, ground := Go.Ground.guard }], guard := some (16, false) }) (v := .bool false) rfl (by kernel_rfl) (by kernel_rfl) (by kernel_rfl) (fun _ _ _ h => h) (Or.inl ⟨by kernel_rfl, by intro wq hSw; (try dsimp only at hSw); go_simp⟩) hHeld ?_
            (try simp only [Act.put, List.setIfInBounds_toArray, List.set_cons_zero, List.set_cons_succ])
            refine wpAnyH_take (i := 31) (oi := { dst := some 70, op := Go.Op.pick (Go.Operand.tmp 55) (Go.Operand.const (Go.Value.bool true)) (Go.Operand.tmp 69), type := 4, pos := "outright.go:150", after := #[{ on := 16, ground := Go.Ground.data }, { on := 30, ground := Go.Ground.data }], guard := none }) (v := .bool false) rfl (by kernel_rfl) (by kernel_rfl) (by kernel_rfl) (fun _ _ _ h => h) (Or.inl ⟨by kernel_rfl, by intro wq hSw; (try dsimp only at hSw); go_simp⟩) hHeld ?_
            (try simp only [Act.put, List.setIfInBounds_toArray, List.set_cons_zero, List.set_cons_succ])
            refine wpAnyH_done (by kernel_rfl) ?_ _
            go_wp2_with fail
            go_roundg (m - (j + 2))
            case measure => omega
            case rel => exact ⟨j + 2, by omega, by first | rfl | (simp; done) | (push_cast; rfl) | (have := hw2; simp; omega), BQ.out⟩
        · have lt' : ¬ (i : Int) < m := by omega
          obtain rfl : i = m := by omega
          clear BZ
          go_wp2_with fail
          go_loopg [9, 10, 11] n (fun gg s9 s10 s11 wx => ∃ k : Nat, k + gg = n ∧ s9 = .int .i64 k ∧ Hid (Below w4.heap.size w4 wx))
          case atStart => exact ⟨0, by omega, rfl, Z⟩
          case round =>
            clear Z
            obtain ⟨k, hk, rfl, Y⟩ := hrel
            by_cases lk : k < n
            · have lk' : (k : Int) < n := by omega
              obtain ⟨s, hs⟩ : ∃ s, l[k]? = some s := ⟨_, List.getElem?_eq_getElem (by have := HN.out.1; omega)⟩
              obtain ⟨lg, lo, rfl, hg, hcl⟩ := HR.out (fun e => by subst e; simp at hs)
              obtain ⟨z1, z2, z3⟩ := hcl k s hs
              have KY := hidi (fun (wx : World) (hb : Below w4.heap.size w4 wx) => (show wx.cell? ⟨lg, lo + k * 3 + 1, none⟩ = some (.string s.x) from by rw [(B4.out.trans (hb.mono B4.out.size)).cell (by exact hg)]; exact z2))
              have OK := hidi (OI.out s (List.mem_of_getElem? hs))
              have hwk : IntKind.i64.wrap ((k : Int) + 1) = (k : Int) + 1 := by rw [IntKind.wrap_i64]; have := S2.out.1; have := HN.out; omega
              have HK := hidi (And.intro lk hk)
              clear hs hg hcl z1 z2 z3 hk lk
              go_wp2_with fail
              go_loopg [10, 11] i (fun gg s10 s11 wx => ∃ j : Nat, ∃ b : Bool, j + gg = i ∧ s10 = .bool b ∧ s11 = .int .i64 j ∧ Hid (Below w4.heap.size w4 wx ∧ BI b (∃ i', i' < j ∧ L[i']? = some s.x)))
              case atStart => exact ⟨0, false, by omega, rfl, rfl, Y.out, ⟨fun c => (by cases c), fun c => by obtain ⟨i', c, _⟩ := c; omega⟩⟩
              case round =>
                clear Y
                obtain ⟨j, b, hj, rfl, rfl, X⟩ := hrel
                have kc := KY.out wr X.out.1
                by_cases lj : j < i
                · have lj' : (j : Int) < i := by omega
                  obtain ⟨fg, y, rfl, hy, c0, c1⟩ := CE.out wr X.out.1 j lj
                  have HY := hidi hy
                  have hwj : IntKind.i64.wrap ((j : Int) + 1) = (j : Int) + 1 := by rw [IntKind.wrap_i64]; have := HF.out.2; have := HM.out; omega
                  clear hy c1
                  cases b with
                  | true =>
                    go_wp2_with fail
                    go_quiet (fail)
                    go_wp2_with fail
                    go_roundg (i - (j + 1))
                    case measure => omega
                    case rel => exact ⟨j + 1, true, by omega, rfl, by simp, below_drewN X.out.1, ⟨fun _ => by obtain ⟨i', h1, h2⟩ := X.out.2.1 rfl; exact ⟨i', by omega, h2⟩, fun _ => rfl⟩⟩
                  | false =>
                    cases f1 : (y.toList == s.x.toList) with
                    | true =>
                      have F1 := hidi f1
                      go_wp2_with fail
                      go_quiet (fail)
                      go_wp2_with fail
                      go_roundg (i - (j + 1))
                      case measure => omega
                      case rel => exact ⟨j + 1, true, by omega, rfl, by simp, below_drewN X.out.1, ⟨fun _ => ⟨j, by omega, by rw [HY.out, teq_iff.1 F1.out]⟩, fun _ => rfl⟩⟩
                    | false =>
                      have F1 := hidi f1
                      go_wp2_with fail
                      go_quiet (fail)
                      go_wp2_with fail
                      go_roundg (i - (j + 1))
                      case measure => omega
                      case rel => exact ⟨j + 1, false, by omega, rfl, by simp, below_drewN X.out.1, ⟨fun c => (by cases c), fun c => by
                        obtain ⟨i', h1, h2⟩ := c
                        by_cases e : i' = j
                        · subst e
                          rw [HY.out] at h2
                          exact absurd (Option.some.inj h2) (tne_iff.1 F1.out)
                        · exact X.out.2.2 ⟨i', by omega, h2⟩⟩⟩
                · have lj' : ¬ (j : Int) < i := by omega
                  obtain rfl : j = i := by omega
                  have Q := hidi (QU.out wr (B4.out.trans (X.out.1.mono B4.out.size)) S2.out.1 s.x)
                  have IN := hidi (fun (q : Int) (mx : Mx (LwK l s.x t l.length) q) => (show b = true ↔ 0 ≤ q from by
                    refine Iff.trans (show b = true ↔ _ from X.out.2) ?_
                    rw [← HF.out.1.is OK.out mx]
                    constructor
                    · rintro ⟨i', _, h⟩
                      exact List.mem_of_getElem? h
                    · intro h
                      obtain ⟨i', h⟩ := List.getElem?_of_mem h
                      have := (List.getElem?_eq_some_iff.1 h).1
                      exact ⟨i', by have := HM.out; omega, h⟩))
                  have FIN := hidi (fun (wq : World) (hb : Below wr.heap.size wr wq) => (show Below w4.heap.size w4 wq from X.out.1.trans (hb.mono X.out.1.size)))
                  clear X
                  cases b with
                  | true =>
                    go_wp2_with (go_at_call 9; refine Q.out.mono ?_; rintro e wq ⟨q, rfl, mx, hb⟩; have BQ := hidi (FIN.out wq hb); have hq : q ≥ 0 := (IN.out q mx).1 rfl; have hq' : 0 ≤ q := hq; clear mx hb)
                    go_roundg (n - (k + 1))
                    case measure => have := HK.out; omega
                    case rel => exact ⟨k + 1, by have := HK.out; omega, by simp, BQ.out⟩
                  | false =>
                    go_wp2_with (go_at_call 9; refine Q.out.mono ?_; rintro e wq ⟨q, rfl, mx, hb⟩; have BQ := hidi (FIN.out wq hb); have hq : ¬ q ≥ 0 := (fun c => by have := (IN.out q mx).2 c; cases this); have hq' : ¬ 0 ≤ q := hq; clear mx hb)
                    go_roundg (n - (k + 1))
                    case measure => have := HK.out; omega
                    case rel => exact ⟨k + 1, by have := HK.out; omega, by simp, BQ.out⟩
            · have lk' : ¬ (k : Int) < n := by omega
              have FIN := hidi (B4.out.trans (Y.out.mono B4.out.size))
              go_wp2_with fail
              go_ret
              exact ⟨rfl, FIN.out⟩
end Go.Proofs.Ytepjcfhbbcaldaa.Li
