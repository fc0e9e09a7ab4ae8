import Derived.Test.YtmfbkfgggdkfmaaGreatDoorFdf
import Derived.OwnWalk
import Derived.Laws.OwnMore
namespace Go.Proofs.YtmfbkfgggdkfmaaGreatDoor
open Go Go.RowKit
open Pkt (Pk Cn Sl In By Is Ss As pkCells)
set_option linter.unusedSimpArgs false
set_option linter.unusedVariables false

theorem Tryz.info3 : (Tryz.prog.info? 3).map (fun i => (i.zero, i.size, i.bytes)) = some (some (.int .i64 0), 1, 8) := by kernel_rfl
/-- Only the packet was written, and new memory. -/
theorem Cs.extend {w0 v wx : World} {rb g n cp pb : Nat} {z : Nat → Int} {r : Rs} {p : Pk} {c : Cn} (h : Cs w0 v rb g n cp pb z r p c) (hg : v.grownBy wx (some pb)) (p' : Pk) (c' : Cn) (hp : wx.heap[pb]? = some (.cells (pkCells p') 38 (0, 0)))
    (hin : Keep w0.heap.size v wx → In wx p' c') (hnx : NxAll w0.heap.size p') : Cs w0 wx rb g n cp pb z r p' c' where
  rd := by
    refine ⟨h.rd.rd.grown hg (Ne.symm h.n1), ⟨⟨h.rd.rb.own.1, fun j hj => ?_⟩, h.rd.rb.le, h.rd.rb.few, h.rd.rb.ne⟩, h.rd.le⟩
    exact hg.cell (h.rd.rb.own.2 j hj) (by simpa using Ne.symm h.n2)
  pk := hp
  lr := h.lr
  lp := h.lp
  n1 := h.n1
  n2 := h.n2
  inn := hin fun a u ha hb => hg.cell ha (by have := h.lp; simp; omega)
  nx := hnx
  os := hg.os.trans h.os
  tape := hg.tape.trans h.tape
  output := hg.output.trans h.output
  size := Nat.le_trans h.size hg.size
  block := fun k hk h1 h2 => (hg.block k (Nat.lt_of_lt_of_le hk h.size) (by simpa using h2)).trans (h.block k hk h1 h2)
theorem gb_fresh {v w1 : World} {pb G i : Nat} {u : Value} (h : v.grownBy w1 (some pb)) (hG : v.heap.size ≤ G) : v.grownBy (w1.setCell ⟨G, i, none⟩ u) (some pb) :=
  ⟨h.os, h.tape, h.output, by have : (w1.setCell ⟨G, i, none⟩ u).heap.size = w1.heap.size := by simp [World.setCell]
                              rw [this]; exact h.size, fun k hk hn => (Below.heap_setCell w1 _ u k (by show k ≠ G; omega)).trans (h.block k hk hn)⟩
theorem row_set {w : World} {G i t : Nat} {cs : Array Value} {u : Value} (h : w.heap[G]? = some (.cells cs t (0, 0))) : (w.setCell ⟨G, i, none⟩ u).heap[G]? = some (.cells (cs.setIfInBounds i u) t (0, 0)) := heap_set h u
def subackP (z : Nat → Int) (n : Nat) (r : Rs) (p : Pk) (c : Cn) : Rs × Pk × Cn :=
  ((rRest z n (rNum z n r).2).2, { p with id := (rNum z n r).1, codes := ⟨none, (rRest z n (rNum z n r).2).1.1, 0⟩ }, { c with cs := (rRest z n (rNum z n r).2).1.2 })
theorem rRest_le {z : Nat → Int} {n : Nat} {r : Rs} : (rRest z n r).1.1 ≤ n := by
  unfold rRest
  split
  · exact Nat.zero_le _
  · exact Nat.sub_le _ _
set_option maxRecDepth 100000 in
set_option maxHeartbeats 4000000 in
theorem suback_any {w0 w : World} {rb g n cp pb : Nat} {z : Nat → Int} {r : Rs} {p : Pk} {c : Cn} (h : Cs w0 w rb g n cp pb z r p c) :
    Calls Tryz.prog 62 #[.agg #[.pointer (some ⟨rb, 0, none⟩), .int .i64 n], .pointer (some ⟨pb, 0, none⟩)] w fun e w' => e = .returned (.tuple #[]) ∧ Done w0 w' rb g n cp pb z (subackP z n r p c) := by
  have LW : Hid (w0.heap.size ≤ w.heap.size) := h.size
  have LR : Hid (rb < w0.heap.size ∧ pb < w0.heap.size) := ⟨h.lr, h.lp⟩
  have NF : Hid (n ≤ 1000000) := by have := h.rd.rb.few; show n ≤ 1000000; omega
  obtain ⟨Y, hY⟩ : ∃ Y, Y = subackP z n r p c := ⟨_, rfl⟩
  rw [← hY]
  obtain ⟨t, ht⟩ : ∃ t, t = rNum z n r := ⟨_, rfl⟩
  obtain ⟨s, hs⟩ : ∃ s, s = rRest z n t.2 := ⟨_, rfl⟩
  have HS : Hid (Y = (s.2, { p with id := t.1, codes := ⟨none, s.1.1, 0⟩ }, { c with cs := s.1.2 })) := by
    show _ = _
    rw [hY, subackP, hs, ht]
  have SN : Hid (s.1.1 ≤ n) := by show s.1.1 ≤ n; rw [hs]; exact rRest_le
  have H1 : Hid (t = rNum z n r) := ht
  have H2 : Hid (s = rRest z n t.2) := hs
  clear hY ht hs
  obtain ⟨t, r1⟩ := t
  obtain ⟨⟨sn, sz⟩, r2⟩ := s
  simp only at H2 HS SN
  have X0 : Hid (Cs w0 (w.alloc (.cells #[.pointer (some ⟨rb, 0, none⟩), .int .i64 n] 100)) rb g n cp pb z r p c) := h.below ((Below.refl _ _).alloc (Nat.le_refl _) _)
  have BX0 : Hid ((w.alloc (.cells #[.pointer (some ⟨rb, 0, none⟩), .int .i64 n] 100)).cell? ⟨w.heap.size, 0, none⟩ = some (.pointer (some ⟨rb, 0, none⟩))) := by show _ = _; simp [go_sem]
  clear h
  obtain ⟨i0, hi, hz0, hz1, hz2⟩ := info_parts Tryz.info3
  go_enter Tryz.func62, Tryz.ntmps62
  have bx := BX0.out
  go_wp2_with fail
  go_must (go_at_call 64)
  clear bx
  refine (number_any X0.out.rd).mono ?_
  rw [← H1.out]
  rintro e v1 ⟨rfl, hr, hg⟩
  have X1 : Hid (Cs w0 v1 rb g n cp pb z r1 (p) (c)) := X0.out.read hr hg
  have BX1 : Hid (v1.cell? ⟨w.heap.size, 0, none⟩ = some (.pointer (some ⟨rb, 0, none⟩))) := hg.cell BX0.out (by have := LR.out; have := LW.out; simp; omega)
  clear hr hg
  have e21 := X1.out.cell 21 (.int .i64 p.id) rfl
  have z21 := X1.out.frozen 21
  obtain ⟨v2, hW⟩ : ∃ W, W = v1.setCell ⟨pb, 21, none⟩ (.int .i64 t) := ⟨_, rfl⟩
  have X2 := (show Hid _ from X1.out.setS 21 (.int .i64 t) ({ p with id := t }) rfl rfl rfl rfl rfl rfl rfl)
  rw [← hW] at X2
  have BX2 : Hid (v2.cell? ⟨w.heap.size, 0, none⟩ = some (.pointer (some ⟨rb, 0, none⟩))) := by show _ = _; rw [hW]; exact bx_set BX1.out (by have := LR.out; have := LW.out; omega)
  go_upto_region 2 with fail
  rw [← hW]
  clear hW e21 z21
  have bx := BX2.out
  go_wp2_with fail
  go_must (go_at_call 82)
  clear bx
  refine (rest_any X2.out.rd).mono ?_
  rw [← H2.out]
  rintro e v3 ⟨⟨s3, rfl, hs⟩, hr, hg⟩
  have X3 : Hid (Cs w0 v3 rb g n cp pb z r2 ({ p with id := t }) (c)) := X2.out.read hr hg
  have BX3 : Hid (v3.cell? ⟨w.heap.size, 0, none⟩ = some (.pointer (some ⟨rb, 0, none⟩))) := hg.cell BX2.out (by have := LR.out; have := LW.out; simp; omega)
  have NS3 := (show Hid _ from hs)
  clear hs
  clear hr hg
  obtain ⟨sa, sl, sc⟩ := s3
  have hsl : sl = sn := NS3.out.1
  subst hsl
  have fsn : sl ≤ 1000000 := by have := SN.out; have := NF.out; omega
  go_wp2_with (refine wpList_make_full _ rfl (.tmp 18) (.tmp 18) 23 rfl v3.heap.size 3 i0 (.int .i64 0) 1 Tryz.underlying23 hi hz0 hz1 .i64 .i64 _ _ sl rfl rfl rfl rfl ?c1 ?c2 (Nat.le_refl _) ?_)
  case c1 => rw [hz2]; omega
  case c2 => unfold maxLen; omega
  intro w1 hown hgr
  have GP : Hid (v3.grownBy w1 (some pb)) := ⟨hgr.os, hgr.tape, hgr.output, hgr.size, fun q hq _ => hgr.block q hq (by simp)⟩
  have lp : pb < v3.heap.size := lt_of_block X3.out.pk
  have PB : Hid (w1.heap[pb]? = some (.cells (pkCells ({ p with id := t })) 38 (0, 0))) := (hgr.block pb lp (by simp)).trans X3.out.pk
  have ROW : Hid (∃ cs, w1.heap[v3.heap.size]? = some (.cells cs 3 (0, 0)) ∧ cs.size = sl ∧ ∀ j, j < sl → cs[j]? = some (.int .i64 0)) := by
    rcases hown.2 with ⟨e, _⟩ | ⟨gg, cap, cur, e, _, hb, _, _, hsz, htk⟩
    · cases e
    · cases e
      simp only [Nat.mul_one] at hsz htk
      refine ⟨cur, hb, hsz, fun j hj => ?_⟩
      rw [toList_madeCells_one] at htk
      rw [← hsz, ← Array.length_toList, List.take_length] at htk
      rw [← Array.getElem?_toList, htk]
      simp [hj, hsz]
  clear hown hgr lp
  have e23 : w1.cell? ⟨pb, 23, none⟩ = some (.slice p.codes.a p.codes.n p.codes.c) := by have q := PB.out; simp [World.cell?, q, pkCells]
  have z23 : w1.frozen? ⟨pb, 23, none⟩ = false := by have q := PB.out; simp [World.frozen?, q]
  obtain ⟨w2, hW⟩ : ∃ W, W = w1.setCell ⟨pb, 23, none⟩ (.slice (some ⟨v3.heap.size, 0, none⟩) sl sl) := ⟨_, rfl⟩
  have GP2 : Hid (v3.grownBy w2 (some pb)) := by show World.grownBy _ _ _; rw [hW]; exact gb_set GP.out _ _
  have PB2 : Hid (w2.heap[pb]? = some (.cells (pkCells ({ p with id := t, codes := ⟨some ⟨v3.heap.size, 0, none⟩, sl, sl⟩ })) 38 (0, 0))) := by show _ = _; rw [hW]; exact heap_set PB.out _
  have ROW2 : Hid (∃ cs, w2.heap[v3.heap.size]? = some (.cells cs 3 (0, 0)) ∧ cs.size = sl ∧ ∀ j, j < sl → cs[j]? = some (.int .i64 0)) := by
    have lp : pb < v3.heap.size := lt_of_block X3.out.pk
    obtain ⟨cs, h1, h2, h3⟩ := ROW.out
    refine ⟨cs, ?_, h2, h3⟩
    rw [hW]
    exact (Below.heap_setCell w1 _ _ v3.heap.size (by show v3.heap.size ≠ pb; omega)).trans h1
  go_upto_region 4 with fail
  rw [← hW]
  clear hW e23 z23 GP PB ROW
  go_wp2_with fail
  go_loopg [24] sl (fun gg s24 wx => ∃ j : Nat, s24 = .int .i64 j ∧ j + gg = sl ∧ Hid (v3.grownBy wx (some pb)) ∧ Hid (wx.heap[pb]? = some (.cells (pkCells ({ p with id := t, codes := ⟨some ⟨v3.heap.size, 0, none⟩, sl, sl⟩ })) 38 (0, 0))) ∧ Hid (∃ cs, wx.heap[v3.heap.size]? = some (.cells cs 3 (0, 0)) ∧ cs.size = sl ∧ (∀ i, i < j → cs[i]? = some (.int .i64 (sz i)))))
  case atStart => exact ⟨0, rfl, by omega, GP2.out, PB2.out, by obtain ⟨cs, h1, h2, h3⟩ := ROW2.out; exact ⟨cs, h1, h2, fun i hi => by omega⟩⟩
  case round =>
    obtain ⟨j, rfl, hjg, G1, P1, R1⟩ := hrel
    by_cases hj : j < sl
    · obtain ⟨b, off, e, hc⟩ : ∃ b off, sa = some ⟨b, off, none⟩ ∧ ∀ i, i < sl → v3.cell? ⟨b, off + i, none⟩ = some (.int .u8 (sz i)) := by
        rcases NS3.out.2.1.2.2 with q | q
        · simp only at q; omega
        · exact q
      subst e
      have bz := NS3.out.2.1.2.1 j
      have bp : b ≠ pb := by have q := NS3.out.2.2 b off rfl; have q2 := X2.out.lp; have q3 := X2.out.size; omega
      have cb : wr.cell? ⟨b, off + j, none⟩ = some (.int .u8 (sz j)) := G1.out.cell (hc j hj) (by simpa using bp)
      have c23 : wr.cell? ⟨pb, 23, none⟩ = some (.slice (some ⟨v3.heap.size, 0, none⟩) sl sl) := by have q := P1.out; simp [World.cell?, q, pkCells]
      obtain ⟨cs, hrow, hcs, hpre⟩ := R1.out
      have RW : Hid (wr.heap[v3.heap.size]? = some (.cells cs 3 (0, 0)) ∧ cs.size = sl ∧ ∀ i, i < j → cs[i]? = some (.int .i64 (sz i))) := ⟨hrow, hcs, hpre⟩
      obtain ⟨old, hold⟩ : ∃ old, wr.cell? ⟨v3.heap.size, j, none⟩ = some old := ⟨cs[j]'(by omega), by simp [World.cell?, hrow, hcs, hj]⟩
      have fz : wr.frozen? ⟨v3.heap.size, j, none⟩ = false := by simp [World.frozen?, hrow]
      clear hc hrow hcs hpre R1
      obtain ⟨gg, hgg⟩ : ∃ gg, gk = gg + 1 := ⟨gk - 1, by omega⟩
      have HJ : Hid (j + 1 + gg = sl) := by show _ = _; omega
      go_wp2
      go_roundg gg
      case measure => omega
      case rel =>
        refine ⟨j + 1, by simp, HJ.out, gb_fresh G1.out (Nat.le_refl _), ?_, ?_⟩
        · show _ = _
          have lp : pb < v3.heap.size := lt_of_block X3.out.pk
          exact (Below.heap_setCell wr _ _ pb (by show pb ≠ v3.heap.size; omega)).trans P1.out
        · refine ⟨_, row_set RW.out.1, by simp [RW.out.2.1], fun i hi => ?_⟩
          by_cases hij : i = j
          · subst hij; simp [RW.out.2.1, hj]
          · rw [Array.getElem?_setIfInBounds_ne (by omega)]; exact RW.out.2.2 i (by omega)
    · have hjl : j = sl := by omega
      go_wp2
      go_end0
      rw [HS.out]
      refine ⟨rfl, ({ p with id := t, codes := ⟨some ⟨v3.heap.size, 0, none⟩, sl, sl⟩ }), X3.out.extend G1.out _ _ P1.out (fun hk => ?_) ?_, p.wP, p.pass, p.mP, p.asks, ⟨some ⟨v3.heap.size, 0, none⟩, sl, sl⟩, p.filters, rfl, rfl, rfl, rfl, rfl, rfl, rfl⟩
      · have q := In.keep X3.out.inn X3.out.nx hk
        refine ⟨q.wP, q.pass, q.mP, q.asks, ⟨Nat.le_refl _, .inr ⟨_, 0, rfl, fun i hi => ?_⟩⟩, q.filters⟩
        obtain ⟨cs, hrow, hcs, hpre⟩ := R1.out
        have := hpre i (by simp only at hi; omega)
        simp [World.cell?, hrow, this]
      · have q := X3.out.nx
        exact ⟨q.wP, q.pass, q.mP, q.asks, fun b off e => by cases e; exact X3.out.size, q.filters⟩
end Go.Proofs.YtmfbkfgggdkfmaaGreatDoor
