import Derived.Test.YtmihpmmkkklpfaaGreatDoorBRe
import Derived.Test.YtmihpmmkkklpfaaGreatDoorBTb
namespace Go.Proofs.YtmihpmmkkklpfaaGreatDoor
open Go Go.RowKit Go.Shelf Go.Maps Go.Sort
set_option linter.unusedSimpArgs false
set_option linter.unusedVariables false
/-! ### The same image of a session -/
set_option maxRecDepth 100000 in
set_option maxHeartbeats 4000000 in
theorem sameSess_any {w : World} {k : ByteArray} {p : Pw} {LS : List Sb} {LI : List Int} {Lf Mf : List Fo} {Lm Mm : List Ms} {v1 vf vq vi u1 uf uq ui : Value} {B B' C C' : Nat} (h1 : w.ownsRow B 42 2 v1 LS.length (arow LS)) (k1 : w.ownsRow B' 42 2 u1 LS.length (arow LS)) (h2 : Imo w p Lf Lm vf vq) (k2 : Imo w p Mf Mm uf uq)
    (h3 : w.ownsRow C 3 1 vi LI.length (LI.map (Value.int .i64))) (k3 : w.ownsRow C' 3 1 ui LI.length (LI.map (Value.int .i64))) (hs : p.fl.length + p.wt.length ≤ 200000) (hl : LS.length ≤ 1000000) (hi : LI.length ≤ 1000000) :
    Calls Tryz.prog 13 #[.agg #[.string k, v1, .int .i64 (p.last : Int), vf, vq, vi], .agg #[.string k, u1, .int .i64 (p.last : Int), uf, uq, ui]] w fun e w' => e = .returned (.bool true) ∧ Below w.heap.size w w' := by
  have SA := hidi (fun (w2 : World) (hb : Below w.heap.size w w2) => sameA_any (own_below h1 hb) (own_below k1 hb) hl)
  have SI := hidi (fun (w2 : World) (hb : Below w.heap.size w w2) => sameI_any (own_below h3 hb) (own_below k3 hb) hi)
  have SW := hidi (fun (w2 : World) (hb : Below w.heap.size w w2) => sameWin_any (h2.below hb) (k2.below hb) hs)
  obtain ⟨a1, c1, e1⟩ := own_sl h1
  obtain ⟨b1, d1, e2⟩ := own_sl k1
  obtain ⟨a2, c2, e3⟩ := own_sl h2.fl
  obtain ⟨a3, c3, e4⟩ := own_sl h2.qu
  obtain ⟨b2, d2, e5⟩ := own_sl k2.fl
  obtain ⟨b3, d3, e6⟩ := own_sl k2.qu
  obtain ⟨a4, c4, e7⟩ := own_sl h3
  obtain ⟨b4, d4, e8⟩ := own_sl k3
  subst e1 e2 e3 e4 e5 e6 e7 e8
  obtain ⟨ls, hls⟩ : ∃ ls : Int, ls = (p.last : Int) := ⟨_, rfl⟩
  rw [← hls] at SW ⊢
  obtain ⟨nS, hnS⟩ : ∃ nS, nS = LS.length := ⟨_, rfl⟩
  obtain ⟨nI, hnI⟩ : ∃ nI, nI = LI.length := ⟨_, rfl⟩
  obtain ⟨n2, hn2⟩ : ∃ n2, n2 = Lf.length := ⟨_, rfl⟩
  obtain ⟨n3, hn3⟩ : ∃ n3, n3 = Lm.length := ⟨_, rfl⟩
  obtain ⟨m2, hm2⟩ : ∃ m2, m2 = Mf.length := ⟨_, rfl⟩
  obtain ⟨m3, hm3⟩ : ∃ m3, m3 = Mm.length := ⟨_, rfl⟩
  rw [← hnS] at SA
  rw [← hnI] at SI
  rw [← hn2, ← hn3, ← hm2, ← hm3] at SW
  rw [← hnS, ← hnI, ← hn2, ← hn3, ← hm2, ← hm3]
  obtain ⟨w1, hw1⟩ : ∃ w1, w1 = (w.alloc (.cells #[.string k, .slice a1 nS c1, .int .i64 ls, .slice a2 n2 c2, .slice a3 n3 c3, .slice a4 nI c4] 34)).alloc (.cells #[.string k, .slice b1 nS d1, .int .i64 ls, .slice b2 m2 d2, .slice b3 m3 d3, .slice b4 nI d4] 34) := ⟨_, rfl⟩
  obtain ⟨x1, x2, y1, z1⟩ := two_at w (.cells #[.string k, .slice a1 nS c1, .int .i64 ls, .slice a2 n2 c2, .slice a3 n3 c3, .slice a4 nI c4] 34) (.cells #[.string k, .slice b1 nS d1, .int .i64 ls, .slice b2 m2 d2, .slice b3 m3 d3, .slice b4 nI d4] 34)
  rw [← hw1] at x1 x2 y1 z1
  have KB := hidi (show ∀ w2, Below w1.heap.size w1 w2 → (w2.cell? ⟨w.heap.size, 0, none⟩ = some (.string k) ∧ w2.cell? ⟨w.heap.size, 1, none⟩ = some (.slice a1 nS c1) ∧ w2.cell? ⟨w.heap.size, 2, none⟩ = some (.int .i64 ls) ∧ w2.cell? ⟨w.heap.size, 3, none⟩ = some (.slice a2 n2 c2) ∧ w2.cell? ⟨w.heap.size, 4, none⟩ = some (.slice a3 n3 c3) ∧ w2.cell? ⟨w.heap.size, 5, none⟩ = some (.slice a4 nI c4)) ∧ (w2.cell? ⟨w.heap.size + 1, 0, none⟩ = some (.string k) ∧ w2.cell? ⟨w.heap.size + 1, 1, none⟩ = some (.slice b1 nS d1) ∧ w2.cell? ⟨w.heap.size + 1, 2, none⟩ = some (.int .i64 ls) ∧ w2.cell? ⟨w.heap.size + 1, 3, none⟩ = some (.slice b2 m2 d2) ∧ w2.cell? ⟨w.heap.size + 1, 4, none⟩ = some (.slice b3 m3 d3) ∧ w2.cell? ⟨w.heap.size + 1, 5, none⟩ = some (.slice b4 nI d4)) ∧ Below w.heap.size w w2 from fun w2 hb => by
    have q1 := later_at x1 hb
    have q2 := later_at x2 hb
    exact ⟨⟨box_cells q1 0 _ rfl, box_cells q1 1 _ rfl, box_cells q1 2 _ rfl, box_cells q1 3 _ rfl, box_cells q1 4 _ rfl, box_cells q1 5 _ rfl⟩, ⟨box_cells q2 0 _ rfl, box_cells q2 1 _ rfl, box_cells q2 2 _ rfl, box_cells q2 3 _ rfl, box_cells q2 4 _ rfl, box_cells q2 5 _ rfl⟩, y1.trans (hb.mono y1.size)⟩)
  clear h1 k1 h2 k2 h3 k3 hs hl hi hls hnS hnI hn2 hn3 hm2 hm3 x1 x2 y1 z1
  obtain ⟨⟨p0, p1, p2, p3, p4, p5⟩, ⟨q0, q1, q2, q3, q4, q5⟩, hB⟩ := KB.out w1 (Below.refl _ _)
  have SA1 := hidi (SA.out _ hB)
  clear SA hB
  go_enter Tryz.func13, Tryz.ntmps13
  go_upto_region 1 with fail
  rw [← hw1]
  clear hw1
  go_wp2_with (first
    | (go_at_call 43; refine SA1.out.mono ?_; clear SA1; rintro e w2 ⟨rfl, hb2⟩; have HB2 := hidi hb2; clear p0 p1 p2 p3 p4 p5 q0 q1 q2 q3 q4 q5 hb2; obtain ⟨⟨p0, p1, p2, p3, p4, p5⟩, ⟨q0, q1, q2, q3, q4, q5⟩, hB⟩ := KB.out w2 HB2.out; have SI1 := hidi (SI.out _ hB); clear SI hB)
    | (go_at_call 44; refine SI1.out.mono ?_; clear SI1; rintro e w3 ⟨rfl, hb3⟩; have HB3 := hidi (HB2.out.trans (hb3.mono HB2.out.size)); clear p0 p1 p2 p3 p4 p5 q0 q1 q2 q3 q4 q5 hb3; obtain ⟨⟨p0, p1, p2, p3, p4, p5⟩, ⟨q0, q1, q2, q3, q4, q5⟩, hB⟩ := KB.out w3 HB3.out; have SW1 := hidi (SW.out _ hB); clear SW hB)
    | (go_at_call 45; refine SW1.out.mono ?_; clear SW1; rintro e w4 ⟨rfl, hb4⟩; have HB4 := hidi (HB3.out.trans (hb4.mono HB3.out.size)); clear p0 p1 p2 p3 p4 p5 q0 q1 q2 q3 q4 q5 hb4))
  go_ret
  exact ⟨rfl, (KB.out _ HB4.out).2.2⟩
end Go.Proofs.YtmihpmmkkklpfaaGreatDoor
