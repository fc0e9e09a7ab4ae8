import Derived.Test.YtmihpmmkkklpfaaGreatDoorOp
import Derived.Lib.MinMax
namespace Go.Proofs.YtmihpmmkkklpfaaGreatDoor
open Go Go.RowKit Go.Shelf Go.Maps Go.Sort
set_option linter.unusedSimpArgs false
set_option linter.unusedVariables false
/-! ### The calls that only tell; Down -/
set_option maxHeartbeats 1000000 in
theorem online_ws {w : World} {wb : Nat} {i : WI} {c : Nat} (h : WS w wb i c) : Calls Tryz.prog 14 #[.pointer (some ⟨wb, 0, none⟩)] w fun e w' => e = .returned (.bool i.on) ∧ w' = w := by
  have c2 : w.cell? ⟨wb, 2, none⟩ = some (.bool i.on) := box_cells h.blk 2 _ rfl
  clear h
  go_enter Tryz.func14, Tryz.ntmps14
  go_wp2_with fail
  go_ret
  exact ⟨rfl, rfl⟩
set_option maxHeartbeats 1000000 in
theorem WS.kl {w : World} {wb : Nat} {i : WI} {c : Nat} (h : WS w wb i c) (hc : c ≤ 200000) : i.Z.length + i.L.length ≤ 1000000 := by
  have hbc := h.bc
  rcases h.half with q | q
  · omega
  · rw [q]; simp; omega
theorem WS.length {w : World} {wb : Nat} {i : WI} {c : Nat} (h : WS w wb i c) (hc : c ≤ 200000) : Calls Tryz.prog 74 #[.pointer (some ⟨wb, 6, none⟩)] w fun e w' => e = .returned (.int .i64 (i.L.length : Int)) ∧ ∃ m, w' = w.drewN m := by
  obtain ⟨la, lc, hlv⟩ := own_sl h.row
  have := length_any (w := w) (wb := wb) (k := i.Z.length + i.L.length) (gone := i.Z.length) (la := la) (lc := lc) (by rw [← hlv]; exact box_cells h.blk 6 _ rfl) (box_cells h.blk 7 _ rfl) (h.kl hc) (by omega)
  rw [show i.Z.length + i.L.length - i.Z.length = i.L.length by omega] at this
  exact this
set_option maxHeartbeats 1000000 in
set_option maxHeartbeats 1000000 in
theorem down_ws {w : World} {wb : Nat} {i : WI} {c : Nat} (h : WS w wb i c) : Calls Tryz.prog 11 #[.pointer (some ⟨wb, 0, none⟩)] w fun e w' => e = .returned (.tuple #[]) ∧ St w w' wb i { i with on := false } c := by
  have c2 : w.cell? ⟨wb, 2, none⟩ = some (.bool i.on) := box_cells h.blk 2 _ rfl
  have f2 := box_frozen h.blk 2
  have Z := hidi (h.set (i' := { i with on := false }) 2 (.bool false) rfl rfl rfl rfl rfl rfl rfl rfl rfl rfl rfl rfl h.bs (Nat.le_refl c)).2
  clear h
  go_enter Tryz.func11, Tryz.ntmps11
  go_wp2_with fail
  go_end0
  exact ⟨rfl, Z.out⟩
/-! ### Image -/
/-- What an image holds. -/
structure Im (w w' : World) (i : WI) (vf vq : Value) : Prop where
  fl : ∃ L, w'.ownsRow w.heap.size 108 6 vf i.fs.length (frow L) ∧ L.map Fo.p = i.fs.map Fm.p ∧ ∀ o ∈ L, PB w' o.m.v o.m.xs
  qu : ∃ L', w'.ownsRow w.heap.size 45 4 vq i.L.length (mrow L') ∧ L'.map Ms.p = i.L.map Ms.p ∧ ∀ o ∈ L', PB w' o.v o.xs
theorem WS.flights {w : World} {wb : Nat} {i : WI} {c : Nat} (h : WS w wb i c) : Calls Tryz.prog 46 #[.pointer (some ⟨wb, 0, none⟩)] w fun e w' => ∃ v, e = .returned v ∧ FlOut w w' i.fs v :=
  flights_any (box_cells h.blk 5 _ rfl) h.und h.fls (List.nodup_append.1 h.nd).1 (fun f hf => (h.rng f.id (List.mem_append.2 (.inl (List.mem_map.2 ⟨f, hf, rfl⟩)))).2) h.srt (Nat.le_trans h.bf h.bm.2)
theorem WS.told {w : World} {wb : Nat} {i : WI} {c : Nat} (h : WS w wb i c) (hc : c ≤ 200000) : Calls Tryz.prog 60 #[.pointer (some ⟨wb, 6, none⟩)] w fun e w' => ∃ v, e = .returned v ∧ MsOut w w' i.L v :=
  told_any (box_cells h.blk 6 _ rfl) (box_cells h.blk 7 _ rfl) h.row rfl (h.kl hc) h.pay
theorem im_set {w : World} {b t : Nat} {x0 x1 x2 : Value} (hb : w.heap[b]? = some (.cells #[x0, x1, x2] t (0, 0))) (y0 y1 y2 : Value) : (((w.setCell ⟨b, 0, none⟩ y0).setCell ⟨b, 1, none⟩ y1).setCell ⟨b, 2, none⟩ y2).heap[b]? = some (.cells #[y0, y1, y2] t (0, 0)) := by
  rw [heap_set (heap_set (heap_set hb _) _) _]
  simp
set_option maxRecDepth 100000 in
set_option maxHeartbeats 4000000 in
theorem image_ws {w : World} {wb : Nat} {i : WI} {c : Nat} (h : WS w wb i c) (hc : c ≤ 200000) : Calls Tryz.prog 35 #[.pointer (some ⟨wb, 0, none⟩)] w fun e w' => ∃ vf vq, e = .returned (.agg #[.int .i64 (i.last : Int), vf, vq]) ∧ Im w w' i vf vq ∧ Below w.heap.size w w' := by
  have hwl : wb < w.heap.size := h.lt (.inl rfl)
  have H := hidi (And.intro h hc)
  have hne : wb ≠ w.heap.size := by omega
  have hne' : w.heap.size ≠ wb := by omega
  obtain ⟨w1, hw1⟩ : ∃ w1, w1 = w.alloc (.cells #[.int .i64 0, .slice none 0 0, .slice none 0 0] 31) := ⟨_, rfl⟩
  have a1 := heap_alloc_new w (.cells #[.int .i64 0, .slice none 0 0, .slice none 0 0] 31)
  have b1 : Below w.heap.size w (w.alloc (.cells #[.int .i64 0, .slice none 0 0, .slice none 0 0] 31)) := (Below.refl _ _).alloc (Nat.le_refl _) _
  rw [← hw1] at a1 b1
  have HB1 := hidi (And.intro a1 b1)
  have c3 : w1.cell? ⟨wb, 3, none⟩ = some (.int .i64 (i.last : Int)) := (b1.cell (p := ⟨wb, 3, none⟩) hwl).trans (box_cells h.blk 3 _ rfl)
  have F33 := hidi ((h.below b1.drew).flights)
  clear h hc a1 b1
  go_enter Tryz.func35, Tryz.ntmps35
  go_upto_region 1 with fail
  rw [← hw1]
  clear hw1
  go_region_held_law (fun w' => w'.cell? ⟨wb, 3, none⟩ = some (.int .i64 (i.last : Int))) (first | exact c3 | go_keep) (first
    | (go_at_call 46; refine F33.out.mono ?_; clear F33; rintro e w2 ⟨vf, rfl, hf⟩; obtain ⟨fa, fc, rfl⟩ := own_sl hf.choose_spec.1; have hb2 := hf.choose_spec.2.2.2; have HB2 := hidi (HB1.out.2.drew.trans (hb2.mono HB1.out.2.size)); have HX2 := hidi (later_at (w := w1.drew) HB1.out.1 hb2); have F34 := hidi ((H.out.1.below HB2.out).told H.out.2); have HF := hidi hf; clear c3; have c3 : w2.cell? ⟨wb, 3, none⟩ = some (.int .i64 (i.last : Int)) := (HB2.out.cell (p := ⟨wb, 3, none⟩) hwl).trans (box_cells H.out.1.blk 3 _ rfl); clear hf hb2)
    | (go_at_call 60; refine F34.out.mono ?_; clear F34; rintro e w3 ⟨vq, rfl, hq⟩; obtain ⟨qa, qc, rfl⟩ := own_sl hq.choose_spec.1; have hb3 := hq.choose_spec.2.2.2; have HB3 := hidi (HB2.out.trans (hb3.mono HB2.out.size)); have HX3 := hidi (later_at HX2.out hb3); have HQ := hidi (And.intro hq hb3); clear c3; have c3 : w3.cell? ⟨wb, 3, none⟩ = some (.int .i64 (i.last : Int)) := (HB3.out.cell (p := ⟨wb, 3, none⟩) hwl).trans (box_cells H.out.1.blk 3 _ rfl); have d0 := box_cells HX3.out 0 _ rfl; have d1 := box_cells HX3.out 1 _ rfl; have d2 := box_cells HX3.out 2 _ rfl; have df := box_frozen HX3.out; clear hq hb3))
  go_wp2_with fail
  refine bodyPost_ret (results_cell_row rfl _ _ _ _ _ _ _ rfl (im_set HX3.out _ _ _) Tryz.underlying31 rfl (by kernel_rfl)) rfl ⟨_, _, rfl, ?_, ?_⟩
  · obtain ⟨W, hW⟩ : ∃ W, W = (((w3.setCell ⟨w.heap.size, 0, none⟩ (.int .i64 (i.last : Int))).setCell ⟨w.heap.size, 1, none⟩ (.slice fa i.fs.length fc)).setCell ⟨w.heap.size, 2, none⟩ (.slice qa i.L.length qc)) := ⟨_, rfl⟩
    rw [← hW]
    have hch : Ch (fun j => j = w.heap.size) w3 W := by
      rw [hW]
      exact ((ch_set _ 0 _).then (ch_set _ 1 _)).then (ch_set _ 2 _)
    have hkb : Kb w3 W := Kb.ch hch (fun j hj cs fz q => by rw [hj, HX3.out] at q; simp at q)
    obtain ⟨L, f1, f2, f3, f4⟩ := HF.out
    obtain ⟨L', q1, q2, q3, q4⟩ := HQ.out.1
    have hs1 : w.heap.size < w1.heap.size := (Array.getElem?_eq_some_iff.1 HB1.out.1).1
    have hbw : ∀ {w0 W' : World} {e s n : Nat} {v : Value} {xs : List Value}, w.heap.size < w0.heap.size → W'.ownsRow w0.heap.size e s v n xs → W'.ownsRow w.heap.size e s v n xs := fun hlt ho => ⟨ho.1, ho.2.elim .inl (fun ⟨g, cap, cur, a, b, c⟩ => .inr ⟨g, cap, cur, a, by omega, c⟩)⟩
    have hnb : ∀ {w0 W' : World} {e s n : Nat} {v : Value} {xs : List Value}, w.heap.size < w0.heap.size → W'.ownsRow w0.heap.size e s v n xs → ∀ g, v.ownBlock = some g → ¬ g = w.heap.size := fun hlt ho g hg q => by
      rcases ho.2 with ⟨a, _⟩ | ⟨g', cap, cur, a, b, _⟩
      · rw [a] at hg; simp [Value.ownBlock] at hg
      · rw [a] at hg; simp [Value.ownBlock] at hg; omega
    have hs2 : w.heap.size < w2.heap.size := (Array.getElem?_eq_some_iff.1 HX2.out).1
    refine ⟨⟨L, ?_, f2, fun o ho => ((f3 o ho).keep (Kb.below HQ.out.2)).keep hkb⟩, ⟨L', ?_, q2, fun o ho => (q3 o ho).keep hkb⟩⟩
    · exact own_ch (hbw (w0 := w1.drew) hs1 (own_below f1 HQ.out.2)) hch (hnb (w0 := w1.drew) hs1 (own_below f1 HQ.out.2))
    · exact own_ch (hbw hs2 q1) hch (hnb hs2 q1)
  · exact ((HB3.out.setCell (Nat.le_refl _) _).setCell (Nat.le_refl _) _).setCell (Nat.le_refl _) _
end Go.Proofs.YtmihpmmkkklpfaaGreatDoor
namespace Go.Proofs.YtmihpmmkkklpfaaGreatDoor
open Go Go.RowKit Go.Shelf Go.Maps Go.Sort
set_option linter.unusedSimpArgs false
set_option linter.unusedVariables false
/-! ### New -/
def newI (mo qu : Nat) : WI := ⟨mo, qu, false, 0, 0, [], .map none, .slice none 0 0, [], [], .map none, [], 0⟩
def mostOf (n : Int) : Nat := (min (max n 1) 65535).toNat
def queueOf (n : Int) : Nat := (min (max n 0) 65536).toNat
theorem mostOf_is (n : Int) : 1 ≤ mostOf n ∧ mostOf n ≤ 65535 ∧ (mostOf n : Int) = min (max n 1) 65535 := by unfold mostOf; omega
theorem queueOf_is (n : Int) : queueOf n ≤ 65536 ∧ (queueOf n : Int) = min (max n 0) 65536 := by unfold queueOf; omega
theorem ws_new (w : World) (mo qu : Nat) (h1 : 1 ≤ mo ∧ mo ≤ 65535) (h2 : qu ≤ 65536) : WS (w.alloc (.cells (newI mo qu).cs 101)) w.heap.size (newI mo qu) 0 where
  blk := heap_alloc_new w _
  und := (MI.nil _).congr (fun k _ => rfl)
  fls := by intro f hf; cases hf
  tkn := by
    have : (newI mo qu).T = fun _ => false := by funext j; simp [WI.T, WI.ids, newI]
    rw [this]
    exact NT.nil _
  row := World.ownsRow_nil _ _ _ _
  pay := by intro f hf; cases hf
  half := .inr rfl
  apt := by intro j hj; cases hj
  nd := List.nodup_nil
  rng := by intro j hj; cases hj
  srt := List.Pairwise.nil
  tns := by intro f hf; cases hf
  snf := by intro f hf; cases hf
  snl := by intro f hf; cases hf
  bm := h1
  bq := h2
  bf := Nat.zero_le _
  bl := Nat.zero_le _
  br := Nat.zero_le _
  bs := Nat.zero_le _
  bc := ⟨Nat.le_refl _, Nat.le_refl _⟩
set_option maxRecDepth 100000 in
set_option maxHeartbeats 1000000 in
theorem new_any (n q : Int) (w : World) : Calls Tryz.prog 33 #[.int .i64 n, .int .i64 q] w fun e w' => e = .returned (pt w.heap.size) ∧ w' = w.alloc (.cells (newI (mostOf n) (queueOf q)).cs 101) := by
  obtain ⟨a, ha⟩ : ∃ a, max n 1 = a := ⟨_, rfl⟩
  obtain ⟨b, hb⟩ : ∃ b, max q 0 = b := ⟨_, rfl⟩
  have ha2 : min a 65535 = (mostOf n : Int) := by rw [(mostOf_is n).2.2, ha]
  have hb2 : min b 65536 = (queueOf q : Int) := by rw [(queueOf_is q).2, hb]
  unfold pt
  go_enter Tryz.func33, Tryz.ntmps33
  go_wp2_with fail
  go_ret
  exact ⟨rfl, rfl⟩
/-! ### Reserve -/
end Go.Proofs.YtmihpmmkkklpfaaGreatDoor
namespace Go.Proofs.YtmihpmmkkklpfaaGreatDoor
open Go Go.RowKit Go.Shelf Go.Maps Go.Sort
set_option linter.unusedSimpArgs false
set_option linter.unusedVariables false
/-! ### Free -/
end Go.Proofs.YtmihpmmkkklpfaaGreatDoor
namespace Go.Proofs.YtmihpmmkkklpfaaGreatDoor
open Go Go.RowKit Go.Shelf Go.Maps Go.Sort
set_option linter.unusedSimpArgs false
set_option linter.unusedVariables false
/-! ### Up -/
def resend (f : Fp) : Pp := if f.rel then ⟨6, false, f.id, zMp⟩ else ⟨3, true, f.id, f.m⟩
noncomputable def pUp (p : Pw) : Pw × List Pp := ((pFill { p with on := true }).1, p.fl.map resend ++ (pFill { p with on := true }).2)
theorem frow_at (L : List Fo) (i : Nat) (hi : i < L.length) (c : Nat) (hc : c < 6) : (frow L)[i * 6 + c]? = L[i].cs[c]? := by
  induction L generalizing i with
  | nil => simp at hi
  | cons x L ih =>
    have e : frow (x :: L) = .int .i64 x.id :: .string x.m.t :: x.m.v :: .int .i64 x.m.q :: .bool x.m.r :: .bool x.rel :: frow L := rfl
    cases i with
    | zero =>
      rw [e]
      match c, hc with
      | 0, _ => rfl
      | 1, _ => rfl
      | 2, _ => rfl
      | 3, _ => rfl
      | 4, _ => rfl
      | 5, _ => rfl
    | succ i =>
      have h := ih i (by simpa using hi)
      rw [e, show (i + 1) * 6 + c = (i * 6 + c) + 1 + 1 + 1 + 1 + 1 + 1 by omega]
      simp only [List.getElem?_cons_succ, List.getElem_cons_succ]
      exact h
theorem frow_cell {w : World} {B k : Nat} {v : Value} {L : List Fo} (h : w.ownsRow B 108 6 v k (frow L)) {j : Nat} (hj : j < k) (hl : j < L.length) : ∃ g c, v = .slice (some ⟨g, 0, none⟩) k c ∧ ∀ x, x < 6 → w.cell? ⟨g, j * 6 + x, none⟩ = L[j].cs[x]? := by
  rcases h.2 with ⟨_, h2⟩ | ⟨g, cap, cur, h1, h2, h3, h4, h5, h6, h7⟩
  · omega
  · refine ⟨g, cap, h1, fun x hx => ?_⟩
    rw [← frow_at L j hl x hx, ← h7]
    have : j * 6 + x < k * 6 := by omega
    simp [List.getElem?_take, this, World.cell?, h3]
structure UpI (w1 wx : World) (L : List Fo) (vf lv : Value) (j : Nat) (S : List Pq) : Prop where
  own : wx.ownsRow w1.heap.size 66 25 lv j (prow S)
  is : S.map Pq.p = (L.take j).map (fun o => resend o.p)
  pay : ∀ p ∈ S, PB wx p.m.v p.m.xs
  bel : Below w1.heap.size w1 wx
  row : wx.ownsRow w1.heap.size 108 6 vf L.length (frow L)
  payL : ∀ o ∈ L, PB wx o.m.v o.m.xs
theorem UpI.arm {w1 wr w2 : World} {L : List Fo} {vf lv : Value} {j : Nat} {S : List Pq} (h : UpI w1 wr L vf lv j S) (hj : j < L.length) (hl : j ≤ 1000000) (hb : Below wr.heap.size wr w2) (p : Pq) (hp : PB w2 p.m.v p.m.xs) (he : p.p = resend L[j].p) :
    ∃ g' cap' w3, (Builtin.append_ #[38, 38] 38 #[lv, .slice (some ⟨w2.heap.size, 0, none⟩) 1 1]).run Tryz.prog (w2.alloc (.cells p.cs 66)) = .ok (.slice (some ⟨g', 0, none⟩) (j + 1) cap') w3 ∧ UpI w1 w3 L vf (.slice (some ⟨g', 0, none⟩) (j + 1) cap') (j + 1) (S ++ [p]) := by
  have hown := own_below h.own hb
  obtain ⟨g', cap', w3, k1, k2, k3, k4, k5⟩ := app_pk hown p hp.sl hl
  have hsz : w1.heap.size ≤ w2.heap.size := Nat.le_trans h.bel.size hb.size
  have h3 : ∀ k, lv.ownBlock = some k → w1.heap.size ≤ k := fun k hk => by
    rcases hown.2 with ⟨rfl, _⟩ | ⟨g, cap, cur, rfl, q, _⟩
    · simp [Value.ownBlock] at hk
    · simp [Value.ownBlock] at hk
      omega
  have hkb : Kb wr w3 := (Kb.below hb).trans k5
  refine ⟨g', cap', w3, k1, ⟨?_, ?_, ?_, ?_, ?_, fun o ho => (h.payL o ho).keep hkb⟩⟩
  · refine ⟨k2.1, ?_⟩
    rcases k2.2 with q | ⟨g, cap, cur, e, q1, q2⟩
    · exact .inl q
    · refine .inr ⟨g, cap, cur, e, ?_, q2⟩
      simp only [Value.slice.injEq, Option.some.injEq, Addr.mk.injEq] at e
      obtain ⟨⟨rfl, -⟩, -⟩ := e
      rcases k4 with q | q
      · exact h3 _ q
      · omega
  · rw [List.map_append, h.is, List.take_succ_eq_append_getElem hj, List.map_append]
    simp [he]
  · intro x hx
    rcases List.mem_append.1 hx with q | q
    · exact (h.pay x q).keep hkb
    · simp only [List.mem_singleton] at q
      subst q
      exact hp.keep k5
  · have hb1 : Below w1.heap.size w1 w2 := h.bel.trans (hb.mono h.bel.size)
    exact ⟨k3.os.trans hb1.os, k3.tape.trans hb1.tape, k3.output.trans hb1.output, Nat.le_trans hb1.size k3.size, fun k hk => (k3.block k (by omega) (fun q => by have := h3 k q; omega)).trans (hb1.block k hk)⟩
  · refine own_ch (own_below h.row hb) k3 (fun g hg q => ?_)
    obtain ⟨cur, e⟩ := own_lt hown q
    obtain ⟨cur', e'⟩ := own_lt (own_below h.row hb) hg
    rw [e] at e'
    simp at e'
set_option maxRecDepth 100000 in
set_option maxHeartbeats 4000000 in
theorem up_ws {w : World} {wb : Nat} {i : WI} {c : Nat} (h : WS w wb i c) (g : Gd w) (hc : c ≤ 200000) :
    Calls Tryz.prog 15 #[.pointer (some ⟨wb, 0, none⟩)] w fun e w' => ∃ v, e = .returned v ∧ Out w w' wb i c (pUp i.p).1 (pUp i.p).2 v := by
  obtain ⟨i0, hi, hz0, hz1, hz2⟩ := info_parts info51
  obtain ⟨w1, hw1⟩ : ∃ w1, w1 = w.setCell ⟨wb, 2, none⟩ (.bool true) := ⟨_, rfl⟩
  have hS := (h.set (i' := { i with on := true }) 2 (.bool true) rfl rfl rfl rfl rfl rfl rfl rfl rfl rfl rfl rfl h.bs (Nat.le_refl c)).2
  rw [← hw1] at hS
  have hwl : wb < w.heap.size := h.lt (.inl rfl)
  have c2 : w.cell? ⟨wb, 2, none⟩ = some (.bool i.on) := box_cells h.blk 2 _ rfl
  have f2 := box_frozen h.blk 2
  obtain ⟨n, hn⟩ : ∃ n, n = i.fs.length := ⟨_, rfl⟩
  obtain ⟨mu, hmu⟩ : ∃ mu, mu = i.mu := ⟨_, rfl⟩
  have c5 : w1.cell? ⟨wb, 5, none⟩ = some mu := by rw [hmu]; exact box_cells hS.ws.blk 5 _ rfl
  have hlen : (Builtin.len_ #[94] 3 #[mu]).run Tryz.prog w1 = .ok (.int .i64 (n : Int)) w1 := by rw [hmu, hn]; exact hS.ws.und.len Tryz.underlying94 3
  have hnb : n ≤ 65535 := by have := h.bf; have := h.bm; omega
  obtain ⟨wm, hmk, hmo, hmg⟩ := run_make_own w1 w1.heap.size 38 66 i0 _ 25 Tryz.underlying38 hi hz0 hz1 .i64 .i64 n (by rw [hz2]; omega) (by unfold maxLen; omega) (Nat.le_refl _)
  have hbm : Below w1.heap.size w1 wm := ⟨hmg.os, hmg.tape, hmg.output, hmg.size, fun k hk => hmg.block k hk (fun q => by cases q)⟩
  have F33 := hidi ((hS.ws.below hbm).flights)
  have HN := hidi (And.intro hn hnb)
  have H := hidi (And.intro h (And.intro g (And.intro hc hS)))
  have HM := hidi (And.intro hmo hbm)
  have hs1 : w1.heap.size = w.heap.size := by rw [hw1]; simp
  have HS1 := hidi hs1
  clear h g hc hS hn hmu hnb hmo hmg hbm hi hz0 hz1 hz2
  rw [hs1] at hmk
  clear hs1
  go_enter Tryz.func15, Tryz.ntmps15
  go_upto_region 2 with fail
  rw [← hw1]
  clear hw1 c2 f2
  go_wp2_with fail
  go_must (go_at_call 46)
  refine F33.out.mono ?_
  clear F33
  rintro e w3 ⟨vf, rfl, L, f1, fe, f3, f4⟩
  have hLl : L.length = n := by
    have := congrArg List.length fe
    simp at this
    rw [HN.out.1]
    exact this
  have U0 : UpI w1 w3 L vf (.slice (some ⟨w.heap.size, 0, none⟩) 0 n) 0 [] := by
    refine ⟨by rw [← HS1.out]; exact own_below HM.out.1 f4, by simp, by simp, HM.out.2.trans (f4.mono HM.out.2.size), ?_, f3⟩
    have f1' : w3.ownsRow wm.heap.size 108 6 vf L.length (frow L) := by rw [hLl, HN.out.1]; exact f1
    exact ⟨f1'.1, f1'.2.elim .inl (fun ⟨g, cap, cur, a, b, c⟩ => .inr ⟨g, cap, cur, a, Nat.le_trans HM.out.2.size b, c⟩)⟩
  obtain ⟨va, vc, hvf⟩ := own_sl U0.row
  rw [hLl] at hvf
  subst hvf
  have HU0 := hidi U0
  have HL := hidi (And.intro hLl fe)
  clear U0 f1 f3 f4 fe hLl hmk hlen c5
  go_wp2_with fail
  go_loopg [3, 18] n (fun gk s3 s18 wx => ∃ (j : Nat) (S : List Pq) (lv : Value), j + gk = n ∧ s18 = .int .i64 j ∧ lv = s3 ∧ Hid (UpI w1 wx L (.slice va n vc) lv j S))
  case atStart => exact ⟨0, [], _, by omega, rfl, rfl, HU0.out⟩
  case round =>
    obtain ⟨j, S, lv, hj, rfl, rfl, HI⟩ := hrel
    by_cases hjn : j < n
    · have hlt : (j : Int) < (n : Int) := by omega
      have hge : (0 : Int) ≤ (j : Int) := by omega
      have hjf : j < L.length := by rw [HL.out.1]; exact hjn
      have hw1 : IntKind.i64.wrap ((j : Int) + 1) = (j : Int) + 1 := by rw [IntKind.wrap_i64]; have := HN.out; omega
      obtain ⟨gb, cb, hv, hcell⟩ := frow_cell HI.out.row hjf hjf
      have hva : va = some ⟨gb, 0, none⟩ := by injection hv
      subst hva
      have hpy : PB wr L[j].m.v L[j].m.xs := HI.out.payL _ (List.getElem_mem hjf)
      have ARM := hidi (fun (w2 : World) (hb : Below wr.heap.size wr w2) (p : Pq) (hp : PB w2 p.m.v p.m.xs) (he : p.p = resend L[j].p) => HI.out.arm hjf (show j ≤ 1000000 by have := HN.out; omega) hb p hp he)
      obtain ⟨f, hf⟩ : ∃ f, f = L[j] := ⟨_, rfl⟩
      rw [← hf] at hcell hpy ARM
      clear hf hv hjf
      obtain ⟨id, ⟨t, pv, q, r, xs⟩, rl⟩ := f
      obtain ⟨pa, pn, pc, rfl⟩ := hpy.sl
      have k0 : wr.cell? ⟨gb, j * 6, none⟩ = some (.int .i64 (id : Int)) := hcell 0 (by omega)
      have k1 : wr.cell? ⟨gb, j * 6 + 1, none⟩ = some (.string t) := hcell 1 (by omega)
      have k2 : wr.cell? ⟨gb, j * 6 + 2, none⟩ = some (.slice pa pn pc) := hcell 2 (by omega)
      have k3 : wr.cell? ⟨gb, j * 6 + 3, none⟩ = some (.int .i64 q) := hcell 3 (by omega)
      have k4 : wr.cell? ⟨gb, j * 6 + 4, none⟩ = some (.bool r) := hcell 4 (by omega)
      have k5 : wr.cell? ⟨gb, j * 6 + 5, none⟩ = some (.bool rl) := hcell 5 (by omega)
      have HPY := hidi hpy
      clear hcell hpy
      have B0 : Below wr.heap.size wr (wr.alloc (.cells #[.int .i64 (id : Int), .string t, .slice pa pn pc, .int .i64 q, .bool r, .bool rl] 108)) := (Below.refl _ _).alloc (Nat.le_refl _) _
      have HB0 := hidi B0
      clear B0
      cases rl
      · go_upto_region 8 with fail
        obtain ⟨w2, hw2⟩ : ∃ w2, w2 = wr.alloc (.cells #[.int .i64 (id : Int), .string t, .slice pa pn pc, .int .i64 q, .bool r, .bool false] 108) := ⟨_, rfl⟩
        rw [← hw2]
        have hx := heap_alloc_new wr (.cells #[.int .i64 (id : Int), .string t, .slice pa pn pc, .int .i64 q, .bool r, .bool false] 108)
        have hb2 := HB0.out
        rw [← hw2] at hx hb2
        obtain ⟨g', cap', w4, hr, hU⟩ := ARM.out w2 hb2 ⟨3, true, id, ⟨t, .slice pa pn pc, q, r, xs⟩⟩ (HPY.out.keep (Kb.below hb2)) rfl
        have HR := hidi hr
        have HU := hidi hU
        clear k0 k1 k2 k3 k4 k5 hr hU hw2 hb2 ARM
        have k0 := box_cells hx 0 _ rfl
        have k1 := box_cells hx 1 _ rfl
        have k2 := box_cells hx 2 _ rfl
        have k3 := box_cells hx 3 _ rfl
        have k4 := box_cells hx 4 _ rfl
        clear hx
        go_wp2_with (first
          | (refine wpList_build_to rfl 66 _ rfl (pkc 3 true t (.slice pa pn pc) q r id) (built_dup t pa pn pc q r id) ?_; simp only [pkc])
          | (at_builtin; refine Lib.wpList_append_run _ rfl _ _ 38 38 rfl _ _ rfl rfl _ _ HR.out ?_))
        go_roundg (n - (j + 1))
        case measure => omega
        case rel => exact ⟨j + 1, _, _, by omega, by first | rfl | simp, rfl, HU.out⟩
      · go_wp2_with fail
        go_must (go_at_call 47)
        refine (pubrel_any (id : Int) _).mono ?_
        rintro e w2 ⟨rfl, hb⟩
        obtain ⟨g', cap', w4, hr, hU⟩ := ARM.out w2 (HB0.out.trans (hb.mono HB0.out.size)) ⟨6, false, id, zMs⟩ (.inl ⟨rfl, rfl⟩) rfl
        have HR := hidi hr
        have HU := hidi hU
        clear hr hU hb
        simp only [pkc]
        go_wp2_with (at_builtin; refine Lib.wpList_append_run _ rfl _ _ 38 38 rfl _ _ rfl rfl _ _ HR.out ?_)
        go_roundg (n - (j + 1))
        case measure => omega
        case rel => exact ⟨j + 1, _, _, by omega, by first | rfl | simp, rfl, HU.out⟩
    · have hlt : ¬ (j : Int) < (n : Int) := by omega
      have hjn' : j = n := by omega
      subst hjn'
      have hw := H.out.2.2.2
      have hI := HI.out
      have hwx := hw.ws.below hI.bel
      have FL := hidi (fill_ws (B := w1.heap.size) hwx ((H.out.2.1.ch H.out.1 hw.ch).below hI.bel) H.out.2.2.1 hI.own (by have := HN.out; omega) hI.pay)
      clear hw hI hwx
      go_wp2_with fail
      go_must (go_at_call 48)
      refine FL.out.mono ?_
      clear FL
      rintro e w5 ⟨v, rfl, hF⟩
      have HF := hidi hF
      clear hF
      go_wp2_with fail
      go_ret
      obtain ⟨ir, S1, hI5, e1, e2⟩ := HF.out
      have hI := HI.out
      have hw := H.out.2.2.2
      have hLS : S.length = j := by
        have := congrArg List.length hI.is
        simp at this
        rw [this, HL.out.1]
        omega
      have hs1 := HS1.out
      have hnb : ∀ x, lv.ownBlock = some x → w.heap.size ≤ x := fun x hx => by
        rcases hI.own.2 with ⟨q, _⟩ | ⟨g, cap, cur, q, q1, _⟩
        · rw [q] at hx; simp [Value.ownBlock] at hx
        · rw [q] at hx; simp [Value.ownBlock] at hx; omega
      have st1 := hw.trans (St.below hw.ws hI.bel)
      have hszr : w.heap.size ≤ wr.heap.size := st1.ch.size
      have st : St w w5 wb i ir c := ⟨hI5.ws, st1.ch.trans hI5.ch (fun x hx q => by
        rcases q with q | q
        · exact (st1.bl x q).elim id (fun z => absurd hx (by omega))
        · have := hnb x q; omega), fun x hx => (hI5.bl x hx).elim (st1.bl x) (fun z => .inr (Nat.le_trans hszr z))⟩
      refine ⟨v, rfl, ⟨⟨ir, S ++ S1, st, ?_, hI5.pay, e1, ?_⟩, hI5.gd⟩⟩
      · have ho := hI5.own
        rw [List.length_append, hLS]
        refine ⟨ho.1, ?_⟩
        rcases ho.2 with q | ⟨g, cap, cur, q, q1, q2⟩
        · exact .inl q
        · refine .inr ⟨g, cap, cur, q, ?_, q2⟩
          rcases hI5.nb g (by rw [q]; rfl) with z | z
          · exact hnb g z
          · omega
      · show _ = i.p.fl.map resend ++ _
        rw [List.map_append, hI.is, e2]
        congr 1
        rw [← HL.out.1, List.take_length]
        show L.map (resend ∘ Fo.p) = (i.fs.map Fm.p).map resend
        rw [← List.map_map, HL.out.2]
end Go.Proofs.YtmihpmmkkklpfaaGreatDoor
namespace Go.Proofs.YtmihpmmkkklpfaaGreatDoor
open Go Go.RowKit Go.Shelf Go.Maps Go.Sort
set_option linter.unusedSimpArgs false
set_option linter.unusedVariables false
/-! ### play -/
theorem Out.more {w w' : World} {wb : Nat} {i : WI} {c c' : Nat} {P : Pw} {X : List Pp} {v : Value} (h : Out w w' wb i c P X v) (hc : c ≤ c') : Out w w' wb i c' P X v := by
  obtain ⟨i', S, s, r⟩ := h.ex
  exact ⟨⟨i', S, ⟨s.ws.more hc, s.ch, s.bl⟩, r⟩, h.gd⟩
theorem St.more {w w' : World} {wb : Nat} {i i' : WI} {c c' : Nat} (s : St w w' wb i i' c) (hc : c ≤ c') : St w w' wb i i' c' := ⟨s.ws.more hc, s.ch, s.bl⟩
theorem St.out {w w' : World} {wb : Nat} {i i' : WI} {c : Nat} {P : Pw} (s : St w w' wb i i' c) (g : Gd w') (e : i'.p = P) : Out w w' wb i c P [] (.slice none 0 0) := ⟨⟨i', [], s, World.ownsRow_nil _ _ _ _, by simp, e, rfl⟩, g⟩

end Go.Proofs.YtmihpmmkkklpfaaGreatDoor
namespace Go.Proofs.YtmihpmmkkklpfaaGreatDoor
open Go Go.RowKit Go.Shelf Go.Maps Go.Sort
set_option linter.unusedSimpArgs false
set_option linter.unusedVariables false

end Go.Proofs.YtmihpmmkkklpfaaGreatDoor
