import Derived.Test.YtipagdhoeocjeaaGreatShb
import Derived.Deep.RegionHeldLaw
import Derived.Test.YtipagdhoeocjeaaGreatNu
import Derived.Test.YtipagdhoeocjeaaGreatCg
namespace Go.Proofs.YtipagdhoeocjeaaGreat.Li
open Go Go.RowKit Go.Shelf
set_option linter.unusedSimpArgs false
set_option linter.unusedVariables false
variable {w0 w : World} {tb r P : Nat} {nf nn : Int} {T : List Fn}
theorem set_back {w wp : World} {T : List Fn} {f : Fn} {u : V3} {V : Nat → Prop} (sr : ShR (w.alloc (.cells #[.slice none 0 0, .bool false, .slice none 0 0, .slice none 0 0] 49)) wp T f u V) :
    ∃ z0 z1 z2 z3, wp.heap[w.heap.size]? = some (.cells #[z0, z1, z2, z3] 49 (0, 0)) ∧ ((((wp.setCell ⟨w.heap.size, 0, none⟩ u.1).setCell ⟨w.heap.size, 1, none⟩ u.2.1).setCell ⟨w.heap.size, 2, none⟩ (.slice none 0 0)).setCell ⟨w.heap.size, 3, none⟩ u.2.2).heap[w.heap.size]? = some (.cells #[u.1, u.2.1, .slice none 0 0, u.2.2] 49 (0, 0)) ∧ ShR w ((((wp.setCell ⟨w.heap.size, 0, none⟩ u.1).setCell ⟨w.heap.size, 1, none⟩ u.2.1).setCell ⟨w.heap.size, 2, none⟩ (.slice none 0 0)).setCell ⟨w.heap.size, 3, none⟩ u.2.2) T f u V := by
  have ba := (Below.refl w.heap.size w).alloc (Nat.le_refl _) (.cells #[.slice none 0 0, .bool false, .slice none 0 0, .slice none 0 0] 49)
  have hz : wp.heap[w.heap.size]? = some (.cells #[.slice none 0 0, .bool false, .slice none 0 0, .slice none 0 0] 49 (0, 0)) := (sr.be.block _ (by simp)).trans (heap_alloc_new _ _)
  have bb := ba.trans (sr.be.mono ba.size)
  have cc : Ch (fun j => j = w.heap.size) wp ((((wp.setCell ⟨w.heap.size, 0, none⟩ u.1).setCell ⟨w.heap.size, 1, none⟩ u.2.1).setCell ⟨w.heap.size, 2, none⟩ (.slice none 0 0)).setCell ⟨w.heap.size, 3, none⟩ u.2.2) := (((ch_set _ _ _).then (ch_set _ _ _)).then (ch_set _ _ _)).then (ch_set _ _ _)
  have vg : ∀ k, V k → w.heap.size < k := fun k hk => by have := (sr.vc k hk).1; simp at this; omega
  have blk : ∀ k, V k → ((((wp.setCell ⟨w.heap.size, 0, none⟩ u.1).setCell ⟨w.heap.size, 1, none⟩ u.2.1).setCell ⟨w.heap.size, 2, none⟩ (.slice none 0 0)).setCell ⟨w.heap.size, 3, none⟩ u.2.2).heap[k]? = wp.heap[k]? := fun k hk => cc.block k (sr.vc.lt hk) (fun e => by have := vg k hk; omega)
  refine ⟨_, _, _, _, hz, ?_, ⟨sr.sh.keep blk (fun _ e => e), fun k hk => ⟨by have := vg k hk; omega, (sr.vc.keep blk k hk).2⟩, ⟨cc.os.trans bb.os, cc.tape.trans bb.tape, cc.output.trans bb.output, Nat.le_trans bb.size cc.size, fun k hk => (cc.block k (by have := bb.size; omega) (by omega)).trans (bb.block k hk)⟩⟩⟩
  rw [heap_set (heap_set (heap_set (heap_set hz u.1) u.2.1) (.slice none 0 0)) u.2.2]
  rfl
set_option maxRecDepth 100000 in
set_option maxHeartbeats 4000000 in
/-- SHAPE of a trie. -/
theorem Shape_any (h : TM w tb r nf nn T) (hl : T.length ≤ 900000) : Calls Tryz.prog 16 #[ptr tb] w fun e w' => ∃ f u V, f ∈ T ∧ f.s.A = [] ∧ e = .returned (.agg #[u.1, u.2.1, .slice none 0 0, u.2.2]) ∧ ShR w w' T f u V := by
  obtain ⟨rf, hrf, rA, rp⟩ := h.rt
  have ba := (Below.refl w.heap.size w).alloc (Nat.le_refl _) (.cells #[.slice none 0 0, .bool false, .slice none 0 0, .slice none 0 0] 49)
  have SH := hidi (shape_any hl 65537 (w.alloc (.cells #[.slice none 0 0, .bool false, .slice none 0 0, .slice none 0 0] 49)) rf (h.below ba) hrf (by omega))
  have c0 : (w.alloc (.cells #[.slice none 0 0, .bool false, .slice none 0 0, .slice none 0 0] 49)).cell? ⟨tb, 0, none⟩ = some (ptr r) := box_cells (h.below ba).tr 0 _ rfl
  rw [rp] at SH
  have HF := hidi (And.intro hrf rA)
  unfold ptr at *
  clear h hl hrf rA rp ba
  go_enter Tryz.func16, Tryz.ntmps16
  go_wp2_with (go_at_call 35; refine SH.out.mono ?_; rintro e wp ⟨u, V, rfl, sr⟩; obtain ⟨a1, n1, k1, b2, a3, n3, k3, rfl⟩ := sr.sh.form; obtain ⟨z0, z1, z2, z3, q1, q2, q3⟩ := set_back sr; have j0 := box_cells q1 0 _ rfl; have j1 := box_cells q1 1 _ rfl; have j2 := box_cells q1 2 _ rfl; have j3 := box_cells q1 3 _ rfl; have l0 := box_frozen q1 0; have l1 := box_frozen q1 1; have l2 := box_frozen q1 2; have l3 := box_frozen q1 3; have Q2 := hidi q2; have Q3 := hidi q3; clear sr q1 q2 q3 c0 SH)
  exact bodyPost_ret (results_cell_row rfl _ _ w.heap.size 49 _ (0, 0) _ rfl Q2.out Tryz.underlying49 rfl (by kernel_rfl)) rfl ⟨rf, (.slice a1 n1 k1, .bool b2, .slice a3 n3 k3), V, HF.out.1, HF.out.2, rfl, Q3.out⟩
set_option maxRecDepth 100000 in
set_option maxHeartbeats 2000000 in
theorem sameT_big {w : World} {ga gb ca cb n : Nat} {xs : List ByteArray} (hn : n = xs.length) (hm : n ≤ 900000) (ha : ∀ i (x : ByteArray), xs[i]? = some x → w.cell? ⟨ga, i, none⟩ = some (.string x)) (hb : ∀ i (x : ByteArray), xs[i]? = some x → w.cell? ⟨gb, i, none⟩ = some (.string x)) :
    Calls Tryz.prog 34 #[.slice (some ⟨ga, 0, none⟩) n ca, .slice (some ⟨gb, 0, none⟩) n cb] w fun e w' => e = .returned (.bool true) ∧ Below w.heap.size w w' := by
  have HA := hidi (And.intro ha (And.intro hb (And.intro hn hm)))
  clear ha hb hn hm
  go_enter Tryz.func34, Tryz.ntmps34
  go_wp2_with fail
  go_loopg [5] n (fun gk s5 wx => ∃ i : Nat, i + gk = n ∧ s5 = .int .i64 i ∧ Hid (Below w.heap.size w wx))
  case atStart => exact ⟨0, by omega, rfl, Below.refl _ _⟩
  case round =>
    obtain ⟨i, hi, rfl, HI⟩ := hrel
    by_cases hin : i < n
    · have hlt : (i : Int) < (n : Int) := by omega
      have hge : (0 : Int) ≤ (i : Int) := by omega
      obtain ⟨ha, hb, hn, hm⟩ := HA.out
      have hw1 : IntKind.i64.wrap ((i : Int) + 1) = (i : Int) + 1 := by rw [IntKind.wrap_i64]; omega
      obtain ⟨x, hx⟩ : ∃ x, xs[i]? = some x := ⟨_, List.getElem?_eq_getElem (by omega)⟩
      have t0 := ha i x hx
      have u0 := hb i x hx
      have d0 := (HI.out.cell (p := ⟨ga, i, none⟩) (World.block_lt_of_cell? _ _ t0)).trans t0
      have d2 := (HI.out.cell (p := ⟨gb, i, none⟩) (World.block_lt_of_cell? _ _ u0)).trans u0
      clear hx ha hb hn hm t0 u0
      have hxx : (x.toList == x.toList) = true := by simp
      go_wp2_with fail
      go_quiet (fail)
      have HB1 := hidi (below_drewN HI.out (m := nq))
      go_wp2_with fail
      go_roundg (n - (i + 1))
      case measure => omega
      case rel => exact ⟨i + 1, by omega, by first | rfl | simp, HB1.out⟩
    · have hlt : ¬ (i : Int) < (n : Int) := by omega
      go_wp2_with fail
      go_ret
      exact ⟨rfl, HI.out⟩
set_option maxRecDepth 100000 in
theorem sameT_none {w : World} {a b : Option Addr} {ca cb : Nat} : Calls Tryz.prog 34 #[.slice a 0 ca, .slice b 0 cb] w fun e w' => e = .returned (.bool true) ∧ Below w.heap.size w w' := by
  go_enter Tryz.func34, Tryz.ntmps34
  go_wp2_with fail
  go_loopg [5] 0 (fun gk s5 wx => s5 = .int .i64 0 ∧ wx = w)
  case atStart => exact ⟨rfl, rfl⟩
  case round =>
    obtain ⟨rfl, rfl⟩ := hrel
    go_wp2_with fail
    go_ret
    exact ⟨rfl, Below.refl _ _⟩
theorem tcell {w : World} {B n : Nat} {v : Value} {L : List ByteArray} (h : w.ownsRow B 9 1 v n (L.map Value.string)) (h0 : 0 < n) : ∃ g c, v = .slice (some ⟨g, 0, none⟩) n c ∧ ∀ i (x : ByteArray), L[i]? = some x → w.cell? ⟨g, i, none⟩ = some (.string x) := by
  have hl : L.length = n := by simpa using h.1
  rcases h.2 with ⟨_, e⟩ | ⟨g, cap, cur, rfl, _⟩
  · omega
  · refine ⟨g, cap, rfl, fun i x hx => ?_⟩
    have hi := (List.getElem?_eq_some_iff.1 hx).1
    rw [h.cellAt i (by omega), List.getElem?_map, hx]
    rfl
theorem sameT_any {w : World} {B B' n : Nat} {v v' : Value} {L : List ByteArray} (h : w.ownsRow B 9 1 v n (L.map Value.string)) (h' : w.ownsRow B' 9 1 v' n (L.map Value.string)) (hl : n ≤ 900000) :
    Calls Tryz.prog 34 #[v, v'] w fun e w' => e = .returned (.bool true) ∧ Below w.heap.size w w' := by
  by_cases h0 : n = 0
  · obtain ⟨a, c, rfl⟩ := own_sl h
    obtain ⟨a', c', rfl⟩ := own_sl h'
    rw [h0]
    exact sameT_none
  · obtain ⟨g, c, rfl, hc⟩ := tcell h (by omega)
    obtain ⟨g', c', rfl, hc'⟩ := tcell h' (by omega)
    exact sameT_big (by have := h.1; simp at this; exact this.symm) hl hc hc'
end Go.Proofs.YtipagdhoeocjeaaGreat.Li
namespace Go.Proofs.YtipagdhoeocjeaaGreat.Li
open Go Go.RowKit Go.Shelf
set_option linter.unusedSimpArgs false
set_option linter.unusedVariables false
def agg3 (u : V3) : Value := .agg #[u.1, u.2.1, .slice none 0 0, u.2.2]
theorem shc_get : ∀ (l : List V3) (i : Nat) (u : V3), l[i]? = some u → (shc l)[i * 4]? = some u.1 ∧ (shc l)[i * 4 + 1]? = some u.2.1 ∧ (shc l)[i * 4 + 2]? = some (.slice none 0 0) ∧ (shc l)[i * 4 + 3]? = some u.2.2
  | [], i, u, h => by simp at h
  | a :: l, 0, u, h => by
    simp at h
    subst h
    exact ⟨rfl, rfl, rfl, rfl⟩
  | a :: l, i + 1, u, h => by
    have := shc_get l i u (by simpa using h)
    have e : shc (a :: l) = [a.1, a.2.1, .slice none 0 0, a.2.2] ++ shc l := rfl
    rw [e]
    have q : ∀ j, ([a.1, a.2.1, .slice none 0 0, a.2.2] ++ shc l)[(i + 1) * 4 + j]? = (shc l)[i * 4 + j]? := fun j => by
      rw [List.getElem?_append_right (by simp; omega)]
      congr 1
      simp
      omega
    exact ⟨(q 0).trans this.1, (q 1).trans this.2.1, (q 2).trans this.2.2.1, (q 3).trans this.2.2.2⟩
theorem kcell {w : World} {B n : Nat} {v : Value} {l : List V3} (h : w.ownsRow B 49 4 v n (shc l)) (hn : n = l.length) (h0 : 0 < n) : ∃ g c, v = .slice (some ⟨g, 0, none⟩) n c ∧ ∀ (i : Nat) (u : V3), l[i]? = some u → w.cell? ⟨g, i * 4, none⟩ = some u.1 ∧ w.cell? ⟨g, i * 4 + 1, none⟩ = some u.2.1 ∧ w.cell? ⟨g, i * 4 + 2, none⟩ = some (.slice none 0 0) ∧ w.cell? ⟨g, i * 4 + 3, none⟩ = some u.2.2 := by
  rcases h.2 with ⟨_, e⟩ | ⟨g, cap, cur, rfl, _⟩
  · omega
  · refine ⟨g, cap, rfl, fun i u hu => ?_⟩
    have hi := (List.getElem?_eq_some_iff.1 hu).1
    obtain ⟨a, b, c, d⟩ := shc_get l i u hu
    rw [h.cellAt (i * 4) (by omega), h.cellAt (i * 4 + 1) (by omega), h.cellAt (i * 4 + 2) (by omega), h.cellAt (i * 4 + 3) (by omega)]
    exact ⟨a, b, c, d⟩
set_option maxRecDepth 100000 in
set_option maxHeartbeats 8000000 in
/-- SAMESHAPE walked, what its calls tell given. -/
theorem sameShape_walk {w2 : World} {l1 l2 : Value} {hh : Bool} {k1 k2 : Option Addr} {n c1 c2 : Nat} {vs us : List V3} (la : ∃ a m c, l1 = .slice a m c) (lb : ∃ a m c, l2 = .slice a m c)
    (hT : ∀ w', Below w2.heap.size w2 w' → Calls Tryz.prog 34 #[l1, l2] w' fun e w'' => e = .returned (.bool true) ∧ Below w'.heap.size w' w'')
    (h1 : w2.ownsRow 0 49 4 (.slice k1 n c1) n (shc vs)) (h2 : w2.ownsRow 0 49 4 (.slice k2 n c2) n (shc us)) (n1 : n = vs.length) (n2 : n = us.length) (hn : n ≤ 9223372036854775807)
    (hR : ∀ (i : Nat) (v u : V3), vs[i]? = some v → us[i]? = some u → ∀ w', Below w2.heap.size w2 w' → Calls Tryz.prog 15 #[agg3 v, agg3 u] w' fun e w'' => e = .returned (.bool true) ∧ Below w'.heap.size w' w'') :
    Calls Tryz.prog 15 #[.agg #[l1, .bool hh, .slice none 0 0, .slice k1 n c1], .agg #[l2, .bool hh, .slice none 0 0, .slice k2 n c2]] w2 fun e w' => e = .returned (.bool true) ∧ Below w2.heap.size w2 w' := by
  obtain ⟨la1, la2, la3, rfl⟩ := la
  obtain ⟨lb1, lb2, lb3, rfl⟩ := lb
  have HT := hidi hT
  have HR := hidi hR
  have HH := hidi (And.intro h1 (And.intro h2 (And.intro n1 (And.intro n2 hn))))
  obtain ⟨w3, hw3⟩ : ∃ w3, w3 = (w2.alloc (.cells #[.slice la1 la2 la3, .bool hh, .slice none 0 0, .slice k1 n c1] 49)).alloc (.cells #[.slice lb1 lb2 lb3, .bool hh, .slice none 0 0, .slice k2 n c2] 49) := ⟨_, rfl⟩
  have b3 : Below w2.heap.size w2 w3 := by rw [hw3]; exact ((Below.refl _ _).alloc (Nat.le_refl _) _).alloc (by simp) _
  have q1 : w3.heap[w2.heap.size]? = some (.cells #[.slice la1 la2 la3, .bool hh, .slice none 0 0, .slice k1 n c1] 49 (0, 0)) := by
    rw [hw3, (World.grownBy_alloc _ _ none).block _ (by simp) (by simp)]
    exact heap_alloc_new _ _
  have q2 : w3.heap[w2.heap.size + 1]? = some (.cells #[.slice lb1 lb2 lb3, .bool hh, .slice none 0 0, .slice k2 n c2] 49 (0, 0)) := by
    have := heap_alloc_new (w2.alloc (.cells #[.slice la1 la2 la3, .bool hh, .slice none 0 0, .slice k1 n c1] 49)) (.cells #[.slice lb1 lb2 lb3, .bool hh, .slice none 0 0, .slice k2 n c2] 49)
    rw [hw3]
    simpa using this
  obtain ⟨b2, hb2⟩ : ∃ b2, b2 = w2.heap.size + 1 := ⟨_, rfl⟩
  rw [← hb2] at q2
  have CB := hidi (fun (wx : World) (hb : Below w3.heap.size w3 wx) => (show (wx.cell? ⟨w2.heap.size, 0, none⟩ = some (.slice la1 la2 la3) ∧ wx.cell? ⟨w2.heap.size, 1, none⟩ = some (.bool hh) ∧ wx.cell? ⟨w2.heap.size, 2, none⟩ = some (.slice none 0 0) ∧ wx.cell? ⟨w2.heap.size, 3, none⟩ = some (.slice k1 n c1)) ∧ wx.cell? ⟨b2, 0, none⟩ = some (.slice lb1 lb2 lb3) ∧ wx.cell? ⟨b2, 1, none⟩ = some (.bool hh) ∧ wx.cell? ⟨b2, 2, none⟩ = some (.slice none 0 0) ∧ wx.cell? ⟨b2, 3, none⟩ = some (.slice k2 n c2) from by
    have r1 := later_at q1 hb
    have r2 := later_at q2 hb
    exact ⟨⟨box_cells r1 0 _ rfl, box_cells r1 1 _ rfl, box_cells r1 2 _ rfl, box_cells r1 3 _ rfl⟩, box_cells r2 0 _ rfl, box_cells r2 1 _ rfl, box_cells r2 2 _ rfl, box_cells r2 3 _ rfl⟩))
  have B3 := hidi b3
  clear h1 h2 n1 n2 hT hR b3 q1 q2
  go_enter Tryz.func15, Tryz.ntmps15
  go_upto_region 1 with fail
  rw [← hw3, ← hb2]
  obtain ⟨⟨x0, x1, x2, x3⟩, y0, y1, y2, y3⟩ := CB.out w3 (Below.refl _ _)
  have T3 := hidi (HT.out w3 B3.out)
  clear hw3 hb2 HT
  obtain ⟨b1, hb1⟩ : ∃ b1, b1 = w2.heap.size := ⟨_, rfl⟩
  rw [← hb1] at x0 x1 x2 x3 CB ⊢
  clear hb1
  have hbb : (hh != hh) = false := by cases hh <;> rfl
  go_wp2_with (go_at_call 34; refine T3.out.mono ?_; rintro e w4 ⟨rfl, hb⟩; clear x0 x1 x2 x3 y0 y1 y2 y3; obtain ⟨⟨x0, x1, x2, x3⟩, y0, y1, y2, y3⟩ := CB.out w4 hb; have B5 := hidi hb; clear hb T3)
  clear x0 x1 x2 x3 y0 y1 y2 y3
  go_loopg [5] n (fun gg s5 wx => ∃ i : Nat, i + gg = n ∧ s5 = .int .i64 i ∧ Hid (Below w3.heap.size w3 wx))
  case atStart => exact ⟨0, by omega, rfl, B5.out⟩
  case round =>
    obtain ⟨i, hi, rfl, Z⟩ := hrel
    obtain ⟨⟨x0, x1, x2, x3⟩, y0, y1, y2, y3⟩ := CB.out wr Z.out
    by_cases lt : i < n
    · have lt' : (i : Int) < n := by omega
      have ge' : ¬ (i : Int) < 0 := by omega
      have ge2 : (0 : Int) ≤ (i : Int) := by omega
      have hw : IntKind.i64.wrap ((i : Int) + 1) = (i : Int) + 1 := by rw [IntKind.wrap_i64]; omega
      obtain ⟨h1, h2, n1, n2, hn⟩ := HH.out
      obtain ⟨ga, ca, hv1, hc1⟩ := kcell h1 n1 (by omega)
      obtain ⟨gb, cb, hv2, hc2⟩ := kcell h2 n2 (by omega)
      simp only [Value.slice.injEq, true_and] at hv1 hv2
      obtain ⟨rfl, rfl⟩ := hv1
      obtain ⟨rfl, rfl⟩ := hv2
      obtain ⟨⟨v1, v2, v3⟩, hv⟩ : ∃ v, vs[i]? = some v := ⟨_, List.getElem?_eq_getElem (by omega)⟩
      obtain ⟨⟨u1, u2, u3⟩, hu⟩ : ∃ u, us[i]? = some u := ⟨_, List.getElem?_eq_getElem (by omega)⟩
      obtain ⟨p0, p1, p2, p3⟩ := hc1 i _ hv
      obtain ⟨r0, r1, r2, r3⟩ := hc2 i _ hu
      have B0 := hidi ((Below.refl wr.heap.size wr).drew)
      have bz := B3.out.trans (Z.out.mono B3.out.size)
      have kp : ∀ {a : Addr} {v : Value}, w2.cell? a = some v → wr.drew.cell? a = some v := fun {a v} h => ((bz.trans (B0.out.mono bz.size)).cell (World.block_lt_of_cell? _ _ h)).trans h
      have hS0 : wr.drew.cell? ⟨b1, 3, none⟩ = some (.slice (some ⟨ga, 0, none⟩) n c1) ∧ wr.drew.cell? ⟨b2, 3, none⟩ = some (.slice (some ⟨gb, 0, none⟩) n c2) ∧ wr.drew.cell? ⟨ga, i * 4, none⟩ = some v1 ∧ wr.drew.cell? ⟨ga, i * 4 + 1, none⟩ = some v2 ∧ wr.drew.cell? ⟨ga, i * 4 + 2, none⟩ = some (.slice none 0 0) ∧ wr.drew.cell? ⟨ga, i * 4 + 3, none⟩ = some v3 ∧ wr.drew.cell? ⟨gb, i * 4, none⟩ = some u1 ∧ wr.drew.cell? ⟨gb, i * 4 + 1, none⟩ = some u2 ∧ wr.drew.cell? ⟨gb, i * 4 + 2, none⟩ = some (.slice none 0 0) ∧ wr.drew.cell? ⟨gb, i * 4 + 3, none⟩ = some u3 := ⟨x3, y3, kp p0, kp p1, kp p2, kp p3, kp r0, kp r1, kp r2, kp r3⟩
      have RC := hidi (fun (wq : World) (hb : Below wr.heap.size wr wq) => HR.out i _ _ hv hu wq (bz.trans (hb.mono bz.size)))
      have HSK := hidi (fun (wq : World) (hb : Below wr.drew.heap.size wr.drew wq) => (show wq.cell? ⟨b1, 3, none⟩ = some (.slice (some ⟨ga, 0, none⟩) n c1) ∧ wq.cell? ⟨b2, 3, none⟩ = some (.slice (some ⟨gb, 0, none⟩) n c2) ∧ wq.cell? ⟨ga, i * 4, none⟩ = some v1 ∧ wq.cell? ⟨ga, i * 4 + 1, none⟩ = some v2 ∧ wq.cell? ⟨ga, i * 4 + 2, none⟩ = some (.slice none 0 0) ∧ wq.cell? ⟨ga, i * 4 + 3, none⟩ = some v3 ∧ wq.cell? ⟨gb, i * 4, none⟩ = some u1 ∧ wq.cell? ⟨gb, i * 4 + 1, none⟩ = some u2 ∧ wq.cell? ⟨gb, i * 4 + 2, none⟩ = some (.slice none 0 0) ∧ wq.cell? ⟨gb, i * 4 + 3, none⟩ = some u3 from by
        have kq : ∀ {a : Addr} {v : Value}, wr.drew.cell? a = some v → wq.cell? a = some v := fun {a v} h => (hb.cell (World.block_lt_of_cell? _ _ h)).trans h
        obtain ⟨s0, s1, s2, s3, s4, s5, s6, s7, s8, s9⟩ := hS0
        exact ⟨kq s0, kq s1, kq s2, kq s3, kq s4, kq s5, kq s6, kq s7, kq s8, kq s9⟩))
      unfold agg3 at RC
      clear x0 x1 x2 y0 y1 y2 hc1 hc2 hv hu p0 p1 p2 p3 r0 r1 r2 r3 bz kp h1 h2 n1 n2 hn
      go_wp2_with fail
      refine wp_region_held_drew (S := fun w' => w'.cell? ⟨b1, 3, none⟩ = some (.slice (some ⟨ga, 0, none⟩) n c1) ∧ w'.cell? ⟨b2, 3, none⟩ = some (.slice (some ⟨gb, 0, none⟩) n c2) ∧ w'.cell? ⟨ga, i * 4, none⟩ = some v1 ∧ w'.cell? ⟨ga, i * 4 + 1, none⟩ = some v2 ∧ w'.cell? ⟨ga, i * 4 + 2, none⟩ = some (.slice none 0 0) ∧ w'.cell? ⟨ga, i * 4 + 3, none⟩ = some v3 ∧ w'.cell? ⟨gb, i * 4, none⟩ = some u1 ∧ w'.cell? ⟨gb, i * 4 + 1, none⟩ = some u2 ∧ w'.cell? ⟨gb, i * 4 + 2, none⟩ = some (.slice none 0 0) ∧ w'.cell? ⟨gb, i * 4 + 3, none⟩ = some u3) (by kernel_rfl) hS0 (fun hHeld => ?_)
      change wpAnyH _ _ _ _ _ 12 #[false, false, false, false, false, false, false, false, false, false, false, false] _ (World.drew _)
      refine wpAnyH_take (i := 0) (oi := { dst := some 41, op := Go.Op.fieldAddr 49 (Go.Operand.tmp 2) 3, type := 0, pos := "exact.go:80", after := #[], guard := none }) (v := .pointer (some ⟨b1, 3, none⟩)) rfl (by kernel_rfl) (by kernel_rfl) (by kernel_rfl) (fun _ _ _ h => h) (Or.inl ⟨by kernel_rfl, by intro wq hSw; (try dsimp only at hSw); go_simp⟩) hHeld ?_
      (try simp only [Act.put, List.setIfInBounds_toArray, List.set_cons_zero, List.set_cons_succ])
      refine wpAnyH_take (i := 1) (oi := { dst := some 42, op := Go.Op.load 47 (Go.Operand.tmp 41), type := 47, pos := "exact.go:80", after := #[{ on := 0, ground := Go.Ground.data }], guard := none }) (v := .slice (some ⟨ga, 0, none⟩) n c1) rfl (by kernel_rfl) (by kernel_rfl) (by kernel_rfl) (fun _ _ _ h => h) (Or.inl ⟨by kernel_rfl, by intro wq hSw; (try dsimp only at hSw); go_simp⟩) hHeld ?_
      (try simp only [Act.put, List.setIfInBounds_toArray, List.set_cons_zero, List.set_cons_succ])
      refine wpAnyH_take (i := 2) (oi := { dst := some 43, op := Go.Op.move (Go.Operand.tmp 5), type := 3, pos := "exact.go:80", after := #[], guard := none }) (v := .int .i64 (i : Int)) rfl (by kernel_rfl) (by kernel_rfl) (by kernel_rfl) (fun _ _ _ h => h) (Or.inl ⟨by kernel_rfl, by intro wq hSw; (try dsimp only at hSw); go_simp⟩) hHeld ?_
      (try simp only [Act.put, List.setIfInBounds_toArray, List.set_cons_zero, List.set_cons_succ])
      refine wpAnyH_take (i := 3) (oi := { dst := some 44, op := Go.Op.indexAddr 47 (Go.Operand.tmp 42) (Go.Operand.tmp 43), type := 0, pos := "exact.go:80", after := #[{ on := 1, ground := Go.Ground.data }, { on := 2, ground := Go.Ground.data }], guard := none }) (v := .pointer (some ⟨ga, i * 4, none⟩)) rfl (by kernel_rfl) (by kernel_rfl) (by kernel_rfl) (fun _ _ _ h => h) (Or.inl ⟨by kernel_rfl, by intro wq hSw; (try dsimp only at hSw); go_simp⟩) hHeld ?_
      (try simp only [Act.put, List.setIfInBounds_toArray, List.set_cons_zero, List.set_cons_succ])
      refine wpAnyH_take (i := 4) (oi := { dst := some 45, op := Go.Op.load 49 (Go.Operand.tmp 44), type := 49, pos := "exact.go:80", after := #[{ on := 3, ground := Go.Ground.data }], guard := none }) (v := .agg #[v1, v2, .slice none 0 0, v3]) rfl (by kernel_rfl) (by kernel_rfl) (by kernel_rfl) (fun _ _ _ h => h) (Or.inl ⟨by kernel_rfl, by intro wq hSw; (try dsimp only at hSw); go_simp⟩) hHeld ?_
      (try simp only [Act.put, List.setIfInBounds_toArray, List.set_cons_zero, List.set_cons_succ])
      refine wpAnyH_take (i := 5) (oi := { dst := some 46, op := Go.Op.fieldAddr 49 (Go.Operand.tmp 3) 3, type := 0, pos := "exact.go:80", after := #[], guard := none }) (v := .pointer (some ⟨b2, 3, none⟩)) rfl (by kernel_rfl) (by kernel_rfl) (by kernel_rfl) (fun _ _ _ h => h) (Or.inl ⟨by kernel_rfl, by intro wq hSw; (try dsimp only at hSw); go_simp⟩) hHeld ?_
      (try simp only [Act.put, List.setIfInBounds_toArray, List.set_cons_zero, List.set_cons_succ])
      refine wpAnyH_take (i := 6) (oi := { dst := some 47, op := Go.Op.load 47 (Go.Operand.tmp 46), type := 47, pos := "exact.go:80", after := #[{ on := 5, ground := Go.Ground.data }], guard := none }) (v := .slice (some ⟨gb, 0, none⟩) n c2) rfl (by kernel_rfl) (by kernel_rfl) (by kernel_rfl) (fun _ _ _ h => h) (Or.inl ⟨by kernel_rfl, by intro wq hSw; (try dsimp only at hSw); go_simp⟩) hHeld ?_
      (try simp only [Act.put, List.setIfInBounds_toArray, List.set_cons_zero, List.set_cons_succ])
      refine wpAnyH_take (i := 7) (oi := { dst := some 48, op := Go.Op.move (Go.Operand.tmp 5), type := 3, pos := "exact.go:80", after := #[], guard := none }) (v := .int .i64 (i : Int)) rfl (by kernel_rfl) (by kernel_rfl) (by kernel_rfl) (fun _ _ _ h => h) (Or.inl ⟨by kernel_rfl, by intro wq hSw; (try dsimp only at hSw); go_simp⟩) hHeld ?_
      (try simp only [Act.put, List.setIfInBounds_toArray, List.set_cons_zero, List.set_cons_succ])
      refine wpAnyH_take (i := 8) (oi := { dst := some 49, op := Go.Op.indexAddr 47 (Go.Operand.tmp 47) (Go.Operand.tmp 48), type := 0, pos := "exact.go:80", after := #[{ on := 6, ground := Go.Ground.data }, { on := 7, ground := Go.Ground.data }], guard := none }) (v := .pointer (some ⟨gb, i * 4, none⟩)) rfl (by kernel_rfl) (by kernel_rfl) (by kernel_rfl) (fun _ _ _ h => h) (Or.inl ⟨by kernel_rfl, by intro wq hSw; (try dsimp only at hSw); go_simp⟩) hHeld ?_
      (try simp only [Act.put, List.setIfInBounds_toArray, List.set_cons_zero, List.set_cons_succ])
      refine wpAnyH_take (i := 9) (oi := { dst := some 50, op := Go.Op.load 49 (Go.Operand.tmp 49), type := 49, pos := "exact.go:80", after := #[{ on := 8, ground := Go.Ground.data }], guard := none }) (v := .agg #[u1, u2, .slice none 0 0, u3]) rfl (by kernel_rfl) (by kernel_rfl) (by kernel_rfl) (fun _ _ _ h => h) (Or.inl ⟨by kernel_rfl, by intro wq hSw; (try dsimp only at hSw); go_simp⟩) hHeld ?_
      (try simp only [Act.put, List.setIfInBounds_toArray, List.set_cons_zero, List.set_cons_succ])
      refine wpAnyH_ready (rs := [10]) (by kernel_rfl) (by simp) ?_
      refine AllReadyH.cons (o := { dst := some 51, op := Go.Op.call { callee := Go.Callee.value (Go.Operand.func 15), args := #[Go.Operand.tmp 45, Go.Operand.tmp 50], argTypes := #[49, 49] }, type := 4, pos := "exact.go:80", after := #[{ on := 4, ground := Go.Ground.data }, { on := 9, ground := Go.Ground.data }], guard := none }) (by rfl) (fun K hK => ?_) AllReadyH.nil
      go_simp
      go_wp2_with (go_at_call 15; refine (RC.out _ B0.out).mono ?_; rintro e wq ⟨rfl, hb⟩; have BQ := hidi (Z.out.trans ((B0.out.trans (hb.mono B0.out.size)).mono Z.out.size)); have HQ := hidi (HSK.out _ hb); clear hb)
      refine hK.out _ _ HQ.out (fun hHeld => ?_)
      clear hK K
      (try simp only [Act.put, List.setIfInBounds_toArray, List.set_cons_zero, List.set_cons_succ])
      refine wpAnyH_take (i := 11) (oi := { dst := some 52, op := Go.Op.unOp Go.UnOp.not 4 (Go.Operand.tmp 51), type := 4, pos := "exact.go:80", after := #[{ on := 10, ground := Go.Ground.data }], guard := none }) (v := .bool false) rfl (by kernel_rfl) (by kernel_rfl) (by kernel_rfl) (fun _ _ _ h => h) (Or.inl ⟨by kernel_rfl, by intro wq hSw; (try dsimp only at hSw); go_simp⟩) hHeld ?_
      (try simp only [Act.put, List.setIfInBounds_toArray, List.set_cons_zero, List.set_cons_succ])
      refine wpAnyH_done (by kernel_rfl) ?_ _
      go_wp2_with fail
      go_roundg (n - (i + 1))
      case measure => omega
      case rel => exact ⟨i + 1, by omega, by simp, BQ.out⟩
    · have lt' : ¬ (i : Int) < n := by omega
      have FIN := hidi (B3.out.trans (Z.out.mono B3.out.size))
      go_wp2_with fail
      go_ret
      exact ⟨rfl, FIN.out⟩
end Go.Proofs.YtipagdhoeocjeaaGreat.Li
namespace Go.Proofs.YtipagdhoeocjeaaGreat.Li
open Go Go.RowKit
set_option linter.unusedSimpArgs false
set_option linter.unusedVariables false
/-- How much a list of them comes to. -/
def sumM : List Ml → Nat
  | [] => 0
  | s :: l => 1 + s.1.t.size + s.1.xs.length + sumM l
theorem sumM_app (a b : List Ml) : sumM (a ++ b) = sumM a + sumM b := by
  induction a with
  | nil => simp [sumM]
  | cons s a ih => simp [sumM, ih]; omega
theorem sumM_mem {l : List Ml} {s : Ml} (h : s ∈ l) : s.1.t.size ≤ sumM l ∧ s.1.xs.length ≤ sumM l := by
  induction l with
  | nil => cases h
  | cons a l ih =>
    unfold sumM
    rcases List.mem_cons.1 h with rfl | h
    · omega
    · have := ih h; omega
/-- What small tells. -/
def SmR (l : List Ml) (b : Bool) : Prop := b = true → l.length ≤ 60 ∧ sumM l ≤ 60000
set_option maxRecDepth 100000 in
set_option maxHeartbeats 4000000 in
theorem small_any {w : World} {v : Value} {l : List Ml} (h : MsIn w v l) (hx : ∀ s ∈ l, s.1.t.size ≤ 140737488355328 ∧ s.1.xs.length ≤ 140737488355328) (hbig : l.length ≤ 140737488355328) :
    Calls Tryz.prog 5 #[v] w fun e w' => ∃ b, e = .returned (.bool b) ∧ SmR l b ∧ Below w.heap.size w w' := by
  obtain ⟨a, n, cap, rfl, hn, hc, hrow⟩ := h.ex
  have HN := hidi (show n = l.length ∧ n ≤ cap ∧ n ≤ 140737488355328 from ⟨hn, hc, by omega⟩)
  have HR := hidi hrow
  have HX := hidi hx
  have HP := hidi (fun s (hs : s ∈ l) => h.pr s hs)
  clear h hn hc hrow hx hbig
  go_enter Tryz.func5, Tryz.ntmps5
  go_wp2_with fail
  go_loopg [3, 4] n (fun gg s3 s4 wx => ∃ k : Nat, k ≤ n ∧ k ≤ 61 ∧ gg = n - k ∧ s3 = .int .i64 (sumM (l.take k) : Nat) ∧ s4 = .int .i64 k ∧ Hid (Below w.heap.size w wx ∧ (k = 0 ∨ sumM (l.take (k - 1)) ≤ 60000)))
  case atStart => exact ⟨0, Nat.zero_le _, by omega, rfl, rfl, rfl, Below.refl _ _, .inl rfl⟩
  case round =>
    obtain ⟨k, hk, hk61, rfl, rfl, rfl, Z⟩ := hrel
    obtain ⟨sm, hsm⟩ : ∃ sm, sm = sumM (l.take k) := ⟨_, rfl⟩
    rw [← hsm]
    have HS := hidi hsm
    clear hsm
    have bsm : sm ≤ 60000 + 281474976710657 := by
      rcases Z.out.2 with q | q
      · have := HS.out; rw [q] at this; simp [sumM] at this; omega
      · have h1 := HS.out
        by_cases k0 : k = 0
        · rw [k0] at h1; simp [sumM] at h1; omega
        · obtain ⟨t, ht⟩ : ∃ t, l[k - 1]? = some t := ⟨_, List.getElem?_eq_getElem (by have := HN.out.1; omega)⟩
          have h2 := HX.out t (List.mem_of_getElem? ht)
          rw [show k = (k - 1) + 1 by omega, List.take_add_one, ht, sumM_app] at h1
          simp [sumM] at h1
          omega
    by_cases go : k < n ∧ k ≤ 60 ∧ sm ≤ 60000
    · obtain ⟨lt, l60, le⟩ := go
      have lt' : (k : Int) < n := by omega
      have l60' : (k : Int) ≤ 60 := by omega
      have le' : (sm : Int) ≤ 60000 := by omega
      have d1 : decide ((k : Int) < n) = true := decide_eq_true lt'
      have d2 : decide ((k : Int) ≤ 60) = true := decide_eq_true l60'
      have d3 : decide ((sm : Int) ≤ 60000) = true := decide_eq_true le'
      obtain ⟨t, ht⟩ : ∃ t, l[k]? = some t := ⟨_, List.getElem?_eq_getElem (by have := HN.out.1; omega)⟩
      obtain ⟨g, o, rfl, hg, hcells⟩ := HR.out (fun e => by subst e; simp at ht)
      obtain ⟨x1, x2, x3, x4⟩ := hcells k t ht
      have tx := HX.out t (List.mem_of_getElem? ht)
      obtain ⟨pa, pc, hpv, -⟩ := (HP.out t (List.mem_of_getElem? ht)).sl
      obtain ⟨px, hpx⟩ : ∃ px, px = t.1.xs.length := ⟨_, rfl⟩
      rw [← hpx] at tx hpv
      have y1 : wr.cell? ⟨g, o + k * 4, none⟩ = some (.string t.1.t) := by rw [Z.out.1.cell (by exact hg)]; exact x1
      have y2 : wr.cell? ⟨g, o + k * 4 + 1, none⟩ = some (.slice pa px pc) := by rw [Z.out.1.cell (by exact hg), ← hpv]; exact x2
      have hw1 : IntKind.i64.wrap ((sm : Int) + 1) = (sm : Int) + 1 := by rw [IntKind.wrap_i64]; omega
      have hw2 : IntKind.i64.wrap ((sm : Int) + 1 + (t.1.t.size : Int)) = (sm : Int) + 1 + (t.1.t.size : Int) := by rw [IntKind.wrap_i64]; omega
      have hw3 : IntKind.i64.wrap ((sm : Int) + 1 + (t.1.t.size : Int) + (px : Int)) = (sm : Int) + 1 + (t.1.t.size : Int) + (px : Int) := by rw [IntKind.wrap_i64]; omega
      have hw4 : IntKind.i64.wrap ((k : Int) + 1) = (k : Int) + 1 := by rw [IntKind.wrap_i64]; have := HN.out; omega
      have NX := hidi (show sm + 1 + t.1.t.size + px = sumM (l.take (k + 1)) ∧ sumM (l.take (k + 1 - 1)) ≤ 60000 from ⟨by rw [List.take_add_one, ht, sumM_app, ← HS.out, hpx]; simp [sumM]; omega, by rw [Nat.add_sub_cancel, ← HS.out]; exact le⟩)
      clear ht hcells x1 x2 x3 x4 tx bsm le hg hpv hpx
      go_wp2_with fail
      go_quiet (fail)
      go_wp2_with fail
      go_roundg (n - (k + 1))
      case measure => omega
      case rel => exact ⟨k + 1, by omega, by omega, rfl, by rw [← NX.out.1]; simp, by simp, below_drewN Z.out.1, .inr NX.out.2⟩
    · have FIN := hidi (show (decide ((n : Int) ≤ 60) = true ∧ decide ((sm : Int) ≤ 60000) = true) → l.length ≤ 60 ∧ sumM l ≤ 60000 from fun ⟨c1, c2⟩ => by
        have c1 := of_decide_eq_true c1
        have c2 := of_decide_eq_true c2
        have kn : k = n := by
          refine Classical.byContradiction fun c => go ⟨by omega, by omega, by omega⟩
        have := HS.out
        rw [List.take_of_length_le (by have := HN.out; omega)] at this
        exact ⟨by have := HN.out; omega, by omega⟩)
      by_cases lt : k < n
      · have lt' : (k : Int) < n := by omega
        have d1 : decide ((k : Int) < n) = true := decide_eq_true lt'
        by_cases l60 : k ≤ 60
        · have l60' : (k : Int) ≤ 60 := by omega
          have d2 : decide ((k : Int) ≤ 60) = true := decide_eq_true l60'
          have le' : ¬ (sm : Int) ≤ 60000 := fun c => go ⟨lt, l60, by omega⟩
          have d3 : decide ((sm : Int) ≤ 60000) = false := decide_eq_false le'
          clear go bsm
          by_cases n60 : (n : Int) ≤ 60
          · go_wp2_with fail
            go_ret
            exact .inl ⟨rfl, (fun c => by cases c), Z.out.1⟩
          · go_wp2_with fail
            go_ret
            exact .inl ⟨rfl, (fun c => by cases c), Z.out.1⟩
        · have l60' : ¬ (k : Int) ≤ 60 := by omega
          have d2 : decide ((k : Int) ≤ 60) = false := decide_eq_false l60'
          have n60 : ¬ (n : Int) ≤ 60 := by omega
          have d4 : decide ((n : Int) ≤ 60) = false := decide_eq_false n60
          clear go bsm
          go_wp2_with fail
          go_ret
          exact .inl ⟨rfl, (fun c => by cases c), Z.out.1⟩
      · have lt' : ¬ (k : Int) < n := by omega
        have d1 : decide ((k : Int) < n) = false := decide_eq_false lt'
        clear go bsm
        by_cases n60 : (n : Int) ≤ 60
        · by_cases le' : (sm : Int) ≤ 60000
          · go_wp2_with fail
            go_ret
            exact .inr ⟨rfl, fun _ => FIN.out ⟨decide_eq_true n60, decide_eq_true le'⟩, Z.out.1⟩
          · go_wp2_with fail
            go_ret
            exact .inl ⟨rfl, (fun c => by cases c), Z.out.1⟩
        · go_wp2_with fail
          go_ret
          exact .inl ⟨rfl, (fun c => by cases c), Z.out.1⟩
end Go.Proofs.YtipagdhoeocjeaaGreat.Li
namespace Go.Proofs.YtipagdhoeocjeaaGreat
open Go Go.RowKit
set_option linter.unusedSimpArgs false
set_option linter.unusedVariables false

abbrev MatchesOk (fs ts : List ByteArray) : Prop := ∀ (vf vt : Value) (w : World), Row w vf fs → Row w vt ts → Calls Tryz.prog 41 #[vf, vt] w fun e w' => e = .returned (.bool (mt (fs.map unB) (ts.map unB))) ∧ ∃ k, w' = w.drewN k

theorem matches_nil (ts : List ByteArray) : MatchesOk [] ts := by
  intro vf vt w Rf Rt
  obtain ⟨a, cap, rfl⟩ := Rf.nil
  obtain ⟨a2, n2, cap2, rfl, hn, _, _⟩ := Rt
  have e : mt (([] : List ByteArray).map unB) (ts.map unB) = ((n2 : Int) == 0) := by
    rw [hn]; cases ts with
    | nil => rfl
    | cons a b => simp [mt]; omega
  rw [e]
  clear Rf hn e
  go_enter Tryz.func41, Tryz.ntmps41
  go_wp2_with fail
  go_ret
  exact ⟨rfl, 0, rfl⟩
theorem matches_hash (f : ByteArray) (fs ts : List ByteArray) (hf : unB f = [35]) : MatchesOk (f :: fs) ts := by
  intro vf vt w Rf Rt
  have e : mt ((f :: fs).map unB) (ts.map unB) = true := by simp [mt, hf]
  rw [e]
  obtain ⟨g, o, n1, cap, rfl, hn1, hc1, hg1, c1, hk1⟩ := Rf.cons
  have hN1 : Hid (n1 = fs.length + 1 ∧ n1 ≤ cap) := ⟨hn1, hc1⟩
  have e0 : ((n1 : Int) == 0) = false := by rw [beq_eq_false_iff_ne]; omega
  have p0 : (0 : Int) < (n1 : Int) := by omega
  have p0' : (1 : Int) ≤ (n1 : Int) := by omega
  have q1 : (f.toList == (⟨#[35]⟩ : ByteArray).toList) = true := by rw [eq_one]; exact decide_eq_true hf
  have q1' : (f.toList == [35]) = true := by rw [eq_one']; exact decide_eq_true hf
  clear e hk1 Rf Rt hn1
  go_enter Tryz.func41, Tryz.ntmps41
  go_wp2_with fail
  go_ret
  exact ⟨rfl, 0, rfl⟩
theorem matches_short (f : ByteArray) (fs : List ByteArray) (hf : ¬ unB f = [35]) : MatchesOk (f :: fs) [] := by
  intro vf vt w Rf Rt
  have e : mt ((f :: fs).map unB) (([] : List ByteArray).map unB) = false := by simp [mt, hf]
  rw [e]
  obtain ⟨a2, cap2, rfl⟩ := Rt.nil
  obtain ⟨g, o, n1, cap, rfl, hn1, hc1, hg1, c1, hk1⟩ := Rf.cons
  have hN1 : Hid (n1 = fs.length + 1 ∧ n1 ≤ cap) := ⟨hn1, hc1⟩
  have e0 : ((n1 : Int) == 0) = false := by rw [beq_eq_false_iff_ne]; omega
  have p0 : (0 : Int) < (n1 : Int) := by omega
  have p0' : (1 : Int) ≤ (n1 : Int) := by omega
  have q1 : (f.toList == (⟨#[35]⟩ : ByteArray).toList) = false := by rw [eq_one]; exact decide_eq_false hf
  have q1' : (f.toList == [35]) = false := by rw [eq_one']; exact decide_eq_false hf
  clear e hk1 Rf Rt hn1
  go_enter Tryz.func41, Tryz.ntmps41
  go_wp2_with fail
  go_ret
  exact ⟨rfl, 0, rfl⟩
theorem matches_unlike (f t : ByteArray) (fs ts : List ByteArray) (hf : ¬ unB f = [35]) (h43 : ¬ unB f = [43]) (hne : ¬ unB f = unB t) : MatchesOk (f :: fs) (t :: ts) := by
  intro vf vt w Rf Rt
  have e : mt ((f :: fs).map unB) ((t :: ts).map unB) = false := by simp [mt, hf, h43, hne]
  rw [e]
  obtain ⟨g, o, n1, cap, rfl, hn1, hc1, hg1, c1, hk1⟩ := Rf.cons
  have hN1 : Hid (n1 = fs.length + 1 ∧ n1 ≤ cap) := ⟨hn1, hc1⟩
  have e0 : ((n1 : Int) == 0) = false := by rw [beq_eq_false_iff_ne]; omega
  have p0 : (0 : Int) < (n1 : Int) := by omega
  have p0' : (1 : Int) ≤ (n1 : Int) := by omega
  obtain ⟨g2, o2, n2, cap2, rfl, hn2, hc2, hg2, c2, hk2⟩ := Rt.cons
  have hN2 : Hid (n2 = ts.length + 1 ∧ n2 ≤ cap2) := ⟨hn2, hc2⟩
  have e1 : ((n2 : Int) == 0) = false := by rw [beq_eq_false_iff_ne]; omega
  have p1 : (0 : Int) < (n2 : Int) := by omega
  have p1' : (1 : Int) ≤ (n2 : Int) := by omega
  have q1 : (f.toList == (⟨#[35]⟩ : ByteArray).toList) = false := by rw [eq_one]; exact decide_eq_false hf
  have q1' : (f.toList == [35]) = false := by rw [eq_one']; exact decide_eq_false hf
  have q2 : (f.toList == (⟨#[43]⟩ : ByteArray).toList) = false := by rw [eq_one]; exact decide_eq_false h43
  have q2' : (f.toList == [43]) = false := by rw [eq_one']; exact decide_eq_false h43
  have q3 : (f.toList == t.toList) = false := by rw [eq_two]; exact decide_eq_false hne
  clear e hk1 hk2 Rf Rt hf h43 hne hn1 hn2
  go_enter Tryz.func41, Tryz.ntmps41
  go_wp2_with fail
  go_quiet (fail)
  go_wp2_with fail
  go_ret
  exact ⟨rfl, _, rfl⟩
theorem matches_plus (f t : ByteArray) (fs ts : List ByteArray) (hf : ¬ unB f = [35]) (h43 : unB f = [43]) (ih : MatchesOk fs ts) : MatchesOk (f :: fs) (t :: ts) := by
  intro vf vt w Rf Rt
  have e : mt ((f :: fs).map unB) ((t :: ts).map unB) = mt (fs.map unB) (ts.map unB) := by simp only [List.map_cons, mt, if_neg hf]; rw [if_neg]; exact fun h => h.1 h43
  rw [e]
  obtain ⟨g, o, n1, cap, rfl, hn1, hc1, hg1, c1, hk1⟩ := Rf.cons
  have hN1 : Hid (n1 = fs.length + 1 ∧ n1 ≤ cap) := ⟨hn1, hc1⟩
  have e0 : ((n1 : Int) == 0) = false := by rw [beq_eq_false_iff_ne]; omega
  have p0 : (0 : Int) < (n1 : Int) := by omega
  have p0' : (1 : Int) ≤ (n1 : Int) := by omega
  obtain ⟨g2, o2, n2, cap2, rfl, hn2, hc2, hg2, c2, hk2⟩ := Rt.cons
  have hN2 : Hid (n2 = ts.length + 1 ∧ n2 ≤ cap2) := ⟨hn2, hc2⟩
  have e1 : ((n2 : Int) == 0) = false := by rw [beq_eq_false_iff_ne]; omega
  have p1 : (0 : Int) < (n2 : Int) := by omega
  have p1' : (1 : Int) ≤ (n2 : Int) := by omega
  have q1 : (f.toList == (⟨#[35]⟩ : ByteArray).toList) = false := by rw [eq_one]; exact decide_eq_false hf
  have q1' : (f.toList == [35]) = false := by rw [eq_one']; exact decide_eq_false hf
  have q2 : (f.toList == (⟨#[43]⟩ : ByteArray).toList) = true := by rw [eq_one]; exact decide_eq_true h43
  have q2' : (f.toList == [43]) = true := by rw [eq_one']; exact decide_eq_true h43
  obtain ⟨x, hx⟩ : ∃ x, x = mt (fs.map unB) (ts.map unB) := ⟨_, rfl⟩
  have IH : Hid (∀ (a1 a2 : Option Addr), (fs ≠ [] → a1 = some ⟨g, o + 1, none⟩) → (ts ≠ [] → a2 = some ⟨g2, o2 + 1, none⟩) → ∀ k, Calls Tryz.prog 41 #[.slice a1 (n1 - 1) (cap - 1), .slice a2 (n2 - 1) (cap2 - 1)] (w.drewN k) fun e w' => e = .returned (.bool x) ∧ ∃ m, w' = (w.drewN k).drewN m) := fun a1 a2 h1 h2 k => by
    rw [hx]
    exact ih _ _ _ (Row.drew (Row.tail hn1 hc1 hg1 hk1 a1 h1) k) (Row.drew (Row.tail hn2 hc2 hg2 hk2 a2 h2) k)
  have H1 : Hid (n1 = fs.length + 1 ∧ n2 = ts.length + 1 ∧ n1 ≤ cap ∧ n2 ≤ cap2) := ⟨hn1, hn2, hc1, hc2⟩
  rw [← hx]
  clear e hk1 hk2 Rf Rt hf h43 hx ih hn1 hn2
  go_enter Tryz.func41, Tryz.ntmps41
  go_wp2_with fail
  go_quiet (fail)
  have IH2 : Hid (∀ k, Calls Tryz.prog 41 #[.slice (if cap = 1 then some ⟨g, o, none⟩ else some ⟨g, o + 1, none⟩) (n1 - 1) (cap - 1), .slice (if cap2 = 1 then some ⟨g2, o2, none⟩ else some ⟨g2, o2 + 1, none⟩) (n2 - 1) (cap2 - 1)] ((w.drewN nq).drewN k) fun e w' => e = .returned (.bool x) ∧ ∃ m, w' = ((w.drewN nq).drewN k).drewN m) := fun k => by
    rw [World.drewN_drewN]; exact IH.out _ _ (fun hne => by
      have h1 := H1.out; have h2 := List.length_pos_iff.2 hne
      rw [if_neg (by omega)]) (fun hne => by
      have h1 := H1.out; have h2 := List.length_pos_iff.2 hne
      rw [if_neg (by omega)]) (nq + k)
  obtain ⟨w1, hw1⟩ : ∃ w1, w1 = w.drewN nq := ⟨_, rfl⟩
  rw [← hw1] at IH2 ⊢
  obtain ⟨m1, HW1⟩ : ∃ m1, Hid (w1 = w.drewN m1) := ⟨nq, hw1⟩
  clear hw1 IH
  go_wp2_with fail
  go_quiet ((go_at_call 41; exact Calls.quiet_of (IH2.out _)))
  go_wp2_with fail
  all_goals go_ret
  all_goals exact ⟨rfl, m1 + nq, by rw [HW1.out, World.drewN_drewN]⟩
theorem matches_same (f t : ByteArray) (fs ts : List ByteArray) (hf : ¬ unB f = [35]) (h43 : ¬ unB f = [43]) (hne : unB f = unB t) (ih : MatchesOk fs ts) : MatchesOk (f :: fs) (t :: ts) := by
  intro vf vt w Rf Rt
  have e : mt ((f :: fs).map unB) ((t :: ts).map unB) = mt (fs.map unB) (ts.map unB) := by simp only [List.map_cons, mt, if_neg hf]; rw [if_neg]; exact fun h => h.2 hne
  rw [e]
  obtain ⟨g, o, n1, cap, rfl, hn1, hc1, hg1, c1, hk1⟩ := Rf.cons
  have hN1 : Hid (n1 = fs.length + 1 ∧ n1 ≤ cap) := ⟨hn1, hc1⟩
  have e0 : ((n1 : Int) == 0) = false := by rw [beq_eq_false_iff_ne]; omega
  have p0 : (0 : Int) < (n1 : Int) := by omega
  have p0' : (1 : Int) ≤ (n1 : Int) := by omega
  obtain ⟨g2, o2, n2, cap2, rfl, hn2, hc2, hg2, c2, hk2⟩ := Rt.cons
  have hN2 : Hid (n2 = ts.length + 1 ∧ n2 ≤ cap2) := ⟨hn2, hc2⟩
  have e1 : ((n2 : Int) == 0) = false := by rw [beq_eq_false_iff_ne]; omega
  have p1 : (0 : Int) < (n2 : Int) := by omega
  have p1' : (1 : Int) ≤ (n2 : Int) := by omega
  have q1 : (f.toList == (⟨#[35]⟩ : ByteArray).toList) = false := by rw [eq_one]; exact decide_eq_false hf
  have q1' : (f.toList == [35]) = false := by rw [eq_one']; exact decide_eq_false hf
  have q2 : (f.toList == (⟨#[43]⟩ : ByteArray).toList) = false := by rw [eq_one]; exact decide_eq_false h43
  have q2' : (f.toList == [43]) = false := by rw [eq_one']; exact decide_eq_false h43
  have q3 : (f.toList == t.toList) = true := by rw [eq_two]; exact decide_eq_true hne
  clear hne
  obtain ⟨x, hx⟩ : ∃ x, x = mt (fs.map unB) (ts.map unB) := ⟨_, rfl⟩
  have IH : Hid (∀ (a1 a2 : Option Addr), (fs ≠ [] → a1 = some ⟨g, o + 1, none⟩) → (ts ≠ [] → a2 = some ⟨g2, o2 + 1, none⟩) → ∀ k, Calls Tryz.prog 41 #[.slice a1 (n1 - 1) (cap - 1), .slice a2 (n2 - 1) (cap2 - 1)] (w.drewN k) fun e w' => e = .returned (.bool x) ∧ ∃ m, w' = (w.drewN k).drewN m) := fun a1 a2 h1 h2 k => by
    rw [hx]
    exact ih _ _ _ (Row.drew (Row.tail hn1 hc1 hg1 hk1 a1 h1) k) (Row.drew (Row.tail hn2 hc2 hg2 hk2 a2 h2) k)
  have H1 : Hid (n1 = fs.length + 1 ∧ n2 = ts.length + 1 ∧ n1 ≤ cap ∧ n2 ≤ cap2) := ⟨hn1, hn2, hc1, hc2⟩
  rw [← hx]
  clear e hk1 hk2 Rf Rt hf h43 hx ih hn1 hn2
  go_enter Tryz.func41, Tryz.ntmps41
  go_wp2_with fail
  go_quiet (fail)
  have IH2 : Hid (∀ k, Calls Tryz.prog 41 #[.slice (if cap = 1 then some ⟨g, o, none⟩ else some ⟨g, o + 1, none⟩) (n1 - 1) (cap - 1), .slice (if cap2 = 1 then some ⟨g2, o2, none⟩ else some ⟨g2, o2 + 1, none⟩) (n2 - 1) (cap2 - 1)] ((w.drewN nq).drewN k) fun e w' => e = .returned (.bool x) ∧ ∃ m, w' = ((w.drewN nq).drewN k).drewN m) := fun k => by
    rw [World.drewN_drewN]; exact IH.out _ _ (fun hne => by
      have h1 := H1.out; have h2 := List.length_pos_iff.2 hne
      rw [if_neg (by omega)]) (fun hne => by
      have h1 := H1.out; have h2 := List.length_pos_iff.2 hne
      rw [if_neg (by omega)]) (nq + k)
  obtain ⟨w1, hw1⟩ : ∃ w1, w1 = w.drewN nq := ⟨_, rfl⟩
  rw [← hw1] at IH2 ⊢
  obtain ⟨m1, HW1⟩ : ∃ m1, Hid (w1 = w.drewN m1) := ⟨nq, hw1⟩
  clear hw1 IH
  go_wp2_with fail
  go_quiet ((go_at_call 41; exact Calls.quiet_of (IH2.out _)))
  go_wp2_with fail
  all_goals go_ret
  all_goals exact ⟨rfl, m1 + nq, by rw [HW1.out, World.drewN_drewN]⟩

theorem matches_any : ∀ (fs ts : List ByteArray), MatchesOk fs ts
  | [], ts => matches_nil ts
  | f :: fs, ts => by
    by_cases hf : unB f = [35]
    · exact matches_hash f fs ts hf
    · cases ts with
      | nil => exact matches_short f fs hf
      | cons t ts =>
        by_cases h43 : unB f = [43]
        · exact matches_plus f t fs ts hf h43 (matches_any fs ts)
        · by_cases hne : unB f = unB t
          · exact matches_same f t fs ts hf h43 hne (matches_any fs ts)
          · exact matches_unlike f t fs ts hf h43 hne
set_option maxRecDepth 100000 in
set_option maxHeartbeats 1000000 in
theorem tmatch_no (f t : ByteArray) (h : ¬ rfc f = 0 ∨ ¬ tcode t = 0) (w : World) : Calls Tryz.prog 21 #[.string f, .string t] w fun e w' => e = .returned (.bool false) ∧ Below w.heap.size w w' := by
  by_cases h1 : rfc f = 0
  · have h2 : (tcode t != 0) = true := by
      rcases h with h | h
      · exact absurd h1 h
      · simpa using h
    clear h
    go_enter Tryz.func21, Tryz.ntmps21
    go_wp2_with (first | (go_at_call 40; refine (fcheck_any f _).mono ?_; rintro e w1 ⟨rfl, hb⟩; have B1 : Hid (Below w.heap.size w w1) := hb; clear hb; rw [h1]) | (go_at_call 20; refine (tcheck_any t _).mono ?_; rintro e w2 ⟨rfl, hb⟩; have B2 : Hid (Below w.heap.size w w2) := B1.out.trans (hb.mono B1.out.size); clear hb))
    go_ret
    exact ⟨rfl, B2.out⟩
  · have h2 : (rfc f != 0) = true := by simpa using h1
    clear h h1
    go_enter Tryz.func21, Tryz.ntmps21
    go_wp2_with (first | (go_at_call 40; refine (fcheck_any f _).mono ?_; rintro e w1 ⟨rfl, hb⟩; have B1 : Hid (Below w.heap.size w w1) := hb; clear hb) | fail)
    go_ret
    exact ⟨rfl, B1.out⟩

set_option maxRecDepth 100000 in
set_option maxHeartbeats 1000000 in
theorem tmatch_plus (f t : ByteArray) (h1 : rfc f = 0) (h2 : tcode t = 0) (g : ByteArray) (r : List ByteArray) (hl : levels f = g :: r) (h36 : atB t 0 = 36) (h43 : unB g = [43]) (w : World) : Calls Tryz.prog 21 #[.string f, .string t] w fun e w' => e = .returned (.bool (false)) ∧ Below w.heap.size w w' := by
  have hf := rfc_zero h1
  have ht := tcode_zero h2
  have HS : Hid (f.size ≤ 1000000 ∧ t.size ≤ 1000000) := ⟨by omega, by omega⟩
  have p0 : (0 : Int) < t.size := by omega
  have p0' : 0 < t.size := ht.2
  have HL : Hid (levels f = g :: r) := hl
  have hat : atB t 0 = (t[0]'p0').toNat := atB_in t 0 p0'
  have q0 : (((t[0]'p0').toNat : Int) == 36) = true := by rw [← hat, h36]; rfl
  have q1 : (g.toList == (⟨#[43]⟩ : ByteArray).toList) = true := by rw [eq_one]; exact decide_eq_true h43
  have q1' : (g.toList == [43]) = true := by rw [eq_one']; exact decide_eq_true h43
  clear hf ht hl hat
  go_enter Tryz.func21, Tryz.ntmps21
  go_wp2_with (first | (go_at_call 40; refine (fcheck_any f _).mono ?_; rintro e w1 ⟨rfl, hb⟩; have B1 : Hid (Below w.heap.size w w1) := hb; clear hb; rw [h1]) | (go_at_call 20; refine (tcheck_any t _).mono ?_; rintro e w2 ⟨rfl, hb⟩; have B2 : Hid (Below w.heap.size w w2) := B1.out.trans (hb.mono B1.out.size); clear hb; rw [h2]))
  go_must (go_at_call 28)
  refine (tlevels_row f HS.out.1 _).mono ?_
  rintro e w3 ⟨v, rfl, hr, hb⟩
  rw [HL.out] at hr
  have R3 : Hid (Row w3 v (g :: r)) := hr
  have B3 : Hid (Below w.heap.size w w3) := B2.out.trans (hb.mono B2.out.size)
  obtain ⟨gb, o, n, cap, rfl, hn, hc, hg, c1, hk⟩ := hr.cons
  have hp : (0 : Int) < (n : Int) := by omega
  have HN : Hid (n = r.length + 1) := hn
  clear hb hr hn hk hg
  go_wp2_with fail
  go_ret
  exact ⟨rfl, B3.out⟩

set_option maxRecDepth 100000 in
set_option maxHeartbeats 1000000 in
theorem tmatch_hash (f t : ByteArray) (h1 : rfc f = 0) (h2 : tcode t = 0) (g : ByteArray) (r : List ByteArray) (hl : levels f = g :: r) (h36 : atB t 0 = 36) (h43 : ¬ unB g = [43]) (h35 : unB g = [35]) (w : World) : Calls Tryz.prog 21 #[.string f, .string t] w fun e w' => e = .returned (.bool (false)) ∧ Below w.heap.size w w' := by
  have hf := rfc_zero h1
  have ht := tcode_zero h2
  have HS : Hid (f.size ≤ 1000000 ∧ t.size ≤ 1000000) := ⟨by omega, by omega⟩
  have p0 : (0 : Int) < t.size := by omega
  have p0' : 0 < t.size := ht.2
  have HL : Hid (levels f = g :: r) := hl
  have hat : atB t 0 = (t[0]'p0').toNat := atB_in t 0 p0'
  have q0 : (((t[0]'p0').toNat : Int) == 36) = true := by rw [← hat, h36]; rfl
  have q1 : (g.toList == (⟨#[43]⟩ : ByteArray).toList) = false := by rw [eq_one]; exact decide_eq_false h43
  have q1' : (g.toList == [43]) = false := by rw [eq_one']; exact decide_eq_false h43
  have q2 : (g.toList == (⟨#[35]⟩ : ByteArray).toList) = true := by rw [eq_one]; exact decide_eq_true h35
  have q2' : (g.toList == [35]) = true := by rw [eq_one']; exact decide_eq_true h35
  clear hf ht hl hat
  go_enter Tryz.func21, Tryz.ntmps21
  go_wp2_with (first | (go_at_call 40; refine (fcheck_any f _).mono ?_; rintro e w1 ⟨rfl, hb⟩; have B1 : Hid (Below w.heap.size w w1) := hb; clear hb; rw [h1]) | (go_at_call 20; refine (tcheck_any t _).mono ?_; rintro e w2 ⟨rfl, hb⟩; have B2 : Hid (Below w.heap.size w w2) := B1.out.trans (hb.mono B1.out.size); clear hb; rw [h2]))
  go_must (go_at_call 28)
  refine (tlevels_row f HS.out.1 _).mono ?_
  rintro e w3 ⟨v, rfl, hr, hb⟩
  rw [HL.out] at hr
  have R3 : Hid (Row w3 v (g :: r)) := hr
  have B3 : Hid (Below w.heap.size w w3) := B2.out.trans (hb.mono B2.out.size)
  obtain ⟨gb, o, n, cap, rfl, hn, hc, hg, c1, hk⟩ := hr.cons
  have hp : (0 : Int) < (n : Int) := by omega
  have HN : Hid (n = r.length + 1) := hn
  clear hb hr hn hk hg
  go_wp2_with fail
  go_ret
  exact ⟨rfl, B3.out⟩

set_option maxRecDepth 100000 in
set_option maxHeartbeats 1000000 in
theorem tmatch_word (f t : ByteArray) (h1 : rfc f = 0) (h2 : tcode t = 0) (g : ByteArray) (r : List ByteArray) (hl : levels f = g :: r) (h36 : atB t 0 = 36) (h43 : ¬ unB g = [43]) (h35 : ¬ unB g = [35]) (w : World) : Calls Tryz.prog 21 #[.string f, .string t] w fun e w' => e = .returned (.bool (mt ((g :: r).map unB) ((levels t).map unB))) ∧ Below w.heap.size w w' := by
  have hf := rfc_zero h1
  have ht := tcode_zero h2
  have HS : Hid (f.size ≤ 1000000 ∧ t.size ≤ 1000000) := ⟨by omega, by omega⟩
  have p0 : (0 : Int) < t.size := by omega
  have p0' : 0 < t.size := ht.2
  have HL : Hid (levels f = g :: r) := hl
  have hat : atB t 0 = (t[0]'p0').toNat := atB_in t 0 p0'
  have q0 : (((t[0]'p0').toNat : Int) == 36) = true := by rw [← hat, h36]; rfl
  have q1 : (g.toList == (⟨#[43]⟩ : ByteArray).toList) = false := by rw [eq_one]; exact decide_eq_false h43
  have q1' : (g.toList == [43]) = false := by rw [eq_one']; exact decide_eq_false h43
  have q2 : (g.toList == (⟨#[35]⟩ : ByteArray).toList) = false := by rw [eq_one]; exact decide_eq_false h35
  have q2' : (g.toList == [35]) = false := by rw [eq_one']; exact decide_eq_false h35
  clear hf ht hl hat
  go_enter Tryz.func21, Tryz.ntmps21
  go_wp2_with (first | (go_at_call 40; refine (fcheck_any f _).mono ?_; rintro e w1 ⟨rfl, hb⟩; have B1 : Hid (Below w.heap.size w w1) := hb; clear hb; rw [h1]) | (go_at_call 20; refine (tcheck_any t _).mono ?_; rintro e w2 ⟨rfl, hb⟩; have B2 : Hid (Below w.heap.size w w2) := B1.out.trans (hb.mono B1.out.size); clear hb; rw [h2]))
  go_must (go_at_call 28)
  refine (tlevels_row f HS.out.1 _).mono ?_
  rintro e w3 ⟨v, rfl, hr, hb⟩
  rw [HL.out] at hr
  have R3 : Hid (Row w3 v (g :: r)) := hr
  have B3 : Hid (Below w.heap.size w w3) := B2.out.trans (hb.mono B2.out.size)
  obtain ⟨gb, o, n, cap, rfl, hn, hc, hg, c1, hk⟩ := hr.cons
  have hp : (0 : Int) < (n : Int) := by omega
  have HN : Hid (n = r.length + 1) := hn
  clear hb hr hn hk hg
  go_wp2_with fail
  go_must (go_at_call 28)
  refine (tlevels_row t HS.out.2 _).mono ?_
  rintro e w4 ⟨v4, rfl, hr, hb⟩
  have R4 : Hid (Row w4 v4 (levels t)) := hr
  have R5 : Hid (Row w4 (.slice (some ⟨gb, o, none⟩) n cap) (g :: r)) := R3.out.later hb
  have B4 : Hid (Below w.heap.size w w4) := B3.out.trans (hb.mono B3.out.size)
  clear hb hr
  go_wp2_with fail
  go_must (go_at_call 41)
  refine (matches_any _ _ _ _ _ R5.out R4.out).mono ?_
  rintro e w5 ⟨rfl, k5, hw5⟩
  have B5 : Hid (Below w.heap.size w w5) := by show Below _ _ _; rw [hw5]; exact below_drewN B4.out _
  clear hw5
  go_wp2_with fail
  go_ret
  exact ⟨rfl, B5.out⟩

set_option maxRecDepth 100000 in
set_option maxHeartbeats 1000000 in
theorem tmatch_open (f t : ByteArray) (h1 : rfc f = 0) (h2 : tcode t = 0) (g : ByteArray) (r : List ByteArray) (hl : levels f = g :: r) (h36 : ¬ atB t 0 = 36) (w : World) : Calls Tryz.prog 21 #[.string f, .string t] w fun e w' => e = .returned (.bool (mt ((g :: r).map unB) ((levels t).map unB))) ∧ Below w.heap.size w w' := by
  have hf := rfc_zero h1
  have ht := tcode_zero h2
  have HS : Hid (f.size ≤ 1000000 ∧ t.size ≤ 1000000) := ⟨by omega, by omega⟩
  have p0 : (0 : Int) < t.size := by omega
  have p0' : 0 < t.size := ht.2
  have HL : Hid (levels f = g :: r) := hl
  have hat : atB t 0 = (t[0]'p0').toNat := atB_in t 0 p0'
  have q0 : (((t[0]'p0').toNat : Int) == 36) = false := by rw [← hat, beq_eq_false_iff_ne]; omega
  clear hf ht hl hat
  go_enter Tryz.func21, Tryz.ntmps21
  go_wp2_with (first | (go_at_call 40; refine (fcheck_any f _).mono ?_; rintro e w1 ⟨rfl, hb⟩; have B1 : Hid (Below w.heap.size w w1) := hb; clear hb; rw [h1]) | (go_at_call 20; refine (tcheck_any t _).mono ?_; rintro e w2 ⟨rfl, hb⟩; have B2 : Hid (Below w.heap.size w w2) := B1.out.trans (hb.mono B1.out.size); clear hb; rw [h2]))
  go_must (go_at_call 28)
  refine (tlevels_row f HS.out.1 _).mono ?_
  rintro e w3 ⟨v, rfl, hr, hb⟩
  rw [HL.out] at hr
  have R3 : Hid (Row w3 v (g :: r)) := hr
  have B3 : Hid (Below w.heap.size w w3) := B2.out.trans (hb.mono B2.out.size)
  obtain ⟨gb, o, n, cap, rfl, hn, hc, hg, c1, hk⟩ := hr.cons
  have hp : (0 : Int) < (n : Int) := by omega
  have HN : Hid (n = r.length + 1) := hn
  clear hb hr hn hk hg
  go_wp2_with fail
  go_must (go_at_call 28)
  refine (tlevels_row t HS.out.2 _).mono ?_
  rintro e w4 ⟨v4, rfl, hr, hb⟩
  have R4 : Hid (Row w4 v4 (levels t)) := hr
  have R5 : Hid (Row w4 (.slice (some ⟨gb, o, none⟩) n cap) (g :: r)) := R3.out.later hb
  have B4 : Hid (Below w.heap.size w w4) := B3.out.trans (hb.mono B3.out.size)
  clear hb hr
  go_wp2_with fail
  go_must (go_at_call 41)
  refine (matches_any _ _ _ _ _ R5.out R4.out).mono ?_
  rintro e w5 ⟨rfl, k5, hw5⟩
  have B5 : Hid (Below w.heap.size w w5) := by show Below _ _ _; rw [hw5]; exact below_drewN B4.out _
  clear hw5
  go_wp2_with fail
  go_ret
  exact ⟨rfl, B5.out⟩

theorem tmatch_any (f t : ByteArray) (w : World) : Calls Tryz.prog 21 #[.string f, .string t] w fun e w' => e = .returned (.bool (mch f t)) ∧ Below w.heap.size w w' := by
  by_cases h1 : rfc f = 0
  · by_cases h2 : tcode t = 0
    · obtain ⟨g, r, hl, hs⟩ := levels_head f
      have e2 : (levels t).map unB = split (unB t) := levels_split t
      have e1 : (g :: r).map unB = split (unB f) := by rw [hs]; rfl
      by_cases h36 : atB t 0 = 36
      · by_cases h43 : unB g = [43]
        · rw [show mch f t = false by simp [mch, h36, hs, hd0, h43]]
          exact tmatch_plus f t h1 h2 g r hl h36 h43 w
        · by_cases h35 : unB g = [35]
          · rw [show mch f t = false by simp [mch, h36, hs, hd0, h35]]
            exact tmatch_hash f t h1 h2 g r hl h36 h43 h35 w
          · have := tmatch_word f t h1 h2 g r hl h36 h43 h35 w
            rw [e1, e2] at this
            rw [show mch f t = mt (split (unB f)) (split (unB t)) by rw [mch, hs]; simp [h1, h2, hd0, h43, h35]]
            exact this
      · have := tmatch_open f t h1 h2 g r hl h36 w
        rw [e1, e2] at this
        rw [show mch f t = mt (split (unB f)) (split (unB t)) by simp [mch, h1, h2, h36]]
        exact this
    · rw [show mch f t = false by simp [mch, h2]]
      exact tmatch_no f t (.inr h2) w
  · rw [show mch f t = false by simp [mch, h1]]
    exact tmatch_no f t (.inl h1) w
end Go.Proofs.YtipagdhoeocjeaaGreat
