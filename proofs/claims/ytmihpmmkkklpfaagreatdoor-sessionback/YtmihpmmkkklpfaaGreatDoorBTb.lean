import Derived.Test.YtmihpmmkkklpfaaGreatDoorBSo
namespace Go.Proofs.YtmihpmmkkklpfaaGreatDoor
open Go Go.RowKit Go.Shelf Go.Maps Go.Sort
open Tq (cmpB cmpB_flip cmpB_zero cmpB_trans cmpB_self)
set_option linter.unusedSimpArgs false
set_option linter.unusedVariables false
/-! ### Maps out of lists -/
def fLs (f : ByteArray → Option Int) (L : List Sb) : ByteArray → Option Int := L.foldl (fun f a => setI f a.1 (some a.2)) f
theorem fLs_app (f : ByteArray → Option Int) (L : List Sb) (a : Sb) : fLs f (L ++ [a]) = setI (fLs f L) a.1 (some a.2) := by simp [fLs]
theorem fLs_none : ∀ (L : List Sb) (f : ByteArray → Option Int) (x : ByteArray), x ∉ L.map (·.1) → fLs f L x = f x
  | [], f, x, _ => rfl
  | a :: L, f, x, h => by
    have h1 : x ≠ a.1 := fun e => h (by simp [e])
    have h2 : x ∉ L.map (·.1) := fun e => h (by simp at e ⊢; exact .inr e)
    show fLs (setI f a.1 (some a.2)) L x = f x
    rw [fLs_none L _ x h2]
    unfold setI
    rw [if_neg h1]
theorem fLs_some : ∀ (L : List Sb) (f : ByteArray → Option Int) (x : ByteArray) (q : Int), (L.map (·.1)).Nodup → (x, q) ∈ L → fLs f L x = some q
  | [], f, x, q, _, h => by cases h
  | a :: L, f, x, q, hn, h => by
    show fLs (setI f a.1 (some a.2)) L x = some q
    have hn' := List.nodup_cons.1 (show (a.1 :: L.map (·.1)).Nodup from hn)
    rcases List.mem_cons.1 h with e | e
    · subst e
      rw [fLs_none L _ x hn'.1]
      unfold setI
      rw [if_pos rfl]
    · exact fLs_some L _ x q hn'.2 e
theorem subs_nodup {f : ByteArray → Option Int} {n : Nat} {L : List Sb} (h : SubsOf f n L) : (L.map (·.1)).Nodup := by
  unfold List.Nodup
  rw [List.pairwise_map]
  exact h.ord.imp (fun {a b} q e => by rw [e, cmpB_self] at q; omega)
theorem fLs_is {f : ByteArray → Option Int} {n : Nat} {L : List Sb} (h : SubsOf f n L) {x : ByteArray} (hx : okT x) : f x = fLs (fun _ => none) L x := by
  cases e : f x with
  | none =>
    rw [fLs_none]
    intro hm
    obtain ⟨p, hp, rfl⟩ := List.mem_map.1 hm
    rw [(h.val p hp).2] at e
    cases e
  | some q =>
    obtain ⟨p, hp, he⟩ := List.mem_map.1 (h.all x hx (by rw [e]; rfl))
    subst he
    have := (h.val p hp).2
    rw [e] at this
    cases this
    exact (fLs_some L _ p.1 p.2 (subs_nodup h) hp).symm
def gLs (g : Int → Option Value) (L : List Int) : Int → Option Value := L.foldl (fun g x => setF g x (some (.agg #[]))) g
theorem gLs_app (g : Int → Option Value) (L : List Int) (a : Int) : gLs g (L ++ [a]) = setF (gLs g L) a (some (.agg #[])) := by simp [gLs]
theorem gLs_none : ∀ (L : List Int) (g : Int → Option Value) (x : Int), x ∉ L → gLs g L x = g x
  | [], g, x, _ => rfl
  | a :: L, g, x, h => by
    have h1 : x ≠ a := fun e => h (by simp [e])
    have h2 : x ∉ L := fun e => h (by simp [e])
    show gLs (setF g a _) L x = g x
    rw [gLs_none L _ x h2]
    unfold setF
    rw [if_neg h1]
theorem gLs_some : ∀ (L : List Int) (g : Int → Option Value) (x : Int), x ∈ L → gLs g L x = some (.agg #[])
  | [], g, x, h => by cases h
  | a :: L, g, x, h => by
    show gLs (setF g a _) L x = _
    by_cases hx : x ∈ L
    · exact gLs_some L _ x hx
    · rw [gLs_none L _ x hx]
      rcases List.mem_cons.1 h with e | e
      · unfold setF
        rw [if_pos e]
      · exact absurd e hx
theorem gLs_is {g : Int → Option Value} {m : Nat} {L : List Int} (h : InbOf g m L) (hq : ∀ x v, g x = some v → v = .agg #[]) {x : Int} (hx : okI x) : g x = gLs (fun _ => none) L x := by
  cases e : g x with
  | none =>
    rw [gLs_none]
    intro hm
    have := (h.val x hm).2
    rw [e] at this
    cases this
  | some v =>
    rw [gLs_some L _ x (h.all x hx (by rw [e]; rfl)), hq x v e]
theorem gLs_q (L : List Int) : ∀ x v, gLs (fun _ => none) L x = some v → v = .agg #[] := fun x v e => by
  by_cases hx : x ∈ L
  · rw [gLs_some L _ x hx] at e
    cases e
    rfl
  · rw [gLs_none L _ x hx] at e
    cases e
end Go.Proofs.YtmihpmmkkklpfaaGreatDoor
namespace Go.Proofs.YtmihpmmkkklpfaaGreatDoor
open Go Go.RowKit Go.Shelf Go.Maps Go.Sort
open Tq (cmpB cmpB_flip cmpB_zero cmpB_trans cmpB_self)
set_option linter.unusedSimpArgs false
set_option linter.unusedVariables false
/-! ### From -/
theorem two_at (w : World) (o1 o2 : Obj) : ((w.alloc o1).alloc o2).heap[w.heap.size]? = some o1 ∧ ((w.alloc o1).alloc o2).heap[w.heap.size + 1]? = some o2 ∧ Below w.heap.size w ((w.alloc o1).alloc o2) ∧ ((w.alloc o1).alloc o2).heap.size = w.heap.size + 2 := by
  exact ⟨(two_alloc w o1 o2).1, (two_alloc w o1 o2).2.1, two_below w o1 o2, (two_alloc w o1 o2).2.2⟩
theorem OfS.s1 {w1 wx : World} {tb wb0 xb : Nat} {q : Pw} {c : Nat} {k : ByteArray} {la : Bool} {mo : Int} {G : Nat → Prop} (h : OfS w1 wx xb q c) (gd : Gd wx) (ss : SsAt w1 tb wb0 k la mo (.map none) (.map none)) (hG : ∀ j, G j → j < w1.heap.size) (ht : ¬ G tb) (h0 : tb ≠ 0) :
    S1 G (wx.setCell ⟨tb, 0, none⟩ (.pointer (some ⟨xb, 0, none⟩))) tb xb k la mo q c (.map none) (.map none) 0 (fun _ => none) 0 (fun _ => none) ∧ Ch (fun j => j = tb) wx (wx.setCell ⟨tb, 0, none⟩ (.pointer (some ⟨xb, 0, none⟩))) := by
  obtain ⟨i, hw, e, hU⟩ := h.ex
  have htl : tb < w1.heap.size := (Array.getElem?_eq_some_iff.1 ss).1
  have ssx := ss.below h.bel
  have hc := ch_set (w := wx) tb 0 (.pointer (some ⟨xb, 0, none⟩))
  have hks : KS (fun j => G j ∨ SU tb (.map none) (.map none) j) wx xb q c := ⟨⟨i, hw, e, fun j hj => by
    have hl : j < w1.heap.size := by
      rcases hj with z | z | z | z
      · exact hG j z
      · rw [z]; exact htl
      · cases z
      · cases z
    exact ⟨Nat.lt_of_lt_of_le hl h.bel.size, fun y => by have := hU j y; omega⟩⟩, gd⟩
  refine ⟨⟨hks.write hc (fun j hj => .inr (.inl hj)) (Kb.ch hc (fun j hj cs fz y => ?_)) (fun z => h0 z.symm), ?_, MG.nil _, .inl ⟨rfl, rfl, fun _ _ => rfl⟩, fun j z => (by cases z), fun j hj hGj => ?_, fun x v z => (by cases z), h0⟩, hc⟩
  · have := ssx
    unfold SsAt at this
    rw [← hj, y] at this
    simp at this
  · exact (heap_set ssx _).trans rfl
  · rcases hj with z | z | z
    · rw [z] at hGj; exact ht hGj
    · cases z
    · cases z
section
variable {W : World} {k : ByteArray} {v1 vf vq vi : Value} {LS : List Sb} {LI : List Int} {Lf : List Fo} {Lm : List Ms} {p : Pw} {f : ByteArray → Option Int} {g : Int → Option Value} {n m : Nat}
set_option maxRecDepth 100000 in
set_option maxHeartbeats 16000000 in
theorem from_any (gd : Gd W) (hk : k.size ≤ 1000000) (h1 : W.ownsRow 0 42 2 v1 LS.length (arow LS)) (hS : SubsOf f n LS) (hG : GoodL LS) (h2 : Imo W p Lf Lm vf vq) (hok : ImOk p) (h3 : W.ownsRow 0 3 1 vi LI.length (LI.map (Value.int .i64))) (hI : InbOf g m LI) (hgq : ∀ x v, g x = some v → v = .agg #[]) (hr : ∀ x ∈ LI, 1 ≤ x ∧ x ≤ 65535)
    (l0 : Bool) (c1 nn qq s c5 c6 c7 c8 : Int) (ua : Option Addr) (un uc : Nat) (hm : p.most = mostOf nn) (hq : p.queue = queueOf qq) (hmo : (LS.length : Int) ≤ min (max s 0) 65536) (hml : LI.length ≤ 65536) :
    Calls Tryz.prog 10 #[.agg #[.string k, v1, .int .i64 (p.last : Int), vf, vq, vi], .agg #[.bool l0, .int .i64 c1, .int .i64 nn, .int .i64 qq, .int .i64 s, .int .i64 c5, .int .i64 c6, .int .i64 c7, .int .i64 c8, .slice ua un uc]] W fun e w' => ∃ tb xb sv nv, e = .returned (.tuple #[.pointer (some ⟨tb, 0, none⟩), .int .i64 0]) ∧ S1 (fun j => j < W.heap.size) w' tb xb k true (min (max s 0) 65536) ⟨p.most, p.queue, false, p.last, p.fl, p.wt, []⟩ 100000 sv nv n f m g ∧ Below W.heap.size W w' := by
  obtain ⟨sa, sc, rfl⟩ := own_sl h1
  obtain ⟨fa, fc, rfl⟩ := own_sl h2.fl
  obtain ⟨qa, qc, e2⟩ := own_sl h2.qu
  subst e2
  obtain ⟨ia, ic, rfl⟩ := own_sl h3
  obtain ⟨mo, hmo'⟩ : ∃ mo, mo = min (max s 0) 65536 := ⟨_, rfl⟩
  obtain ⟨nS, hnS⟩ : ∃ nS, nS = LS.length := ⟨_, rfl⟩
  obtain ⟨nI, hnI⟩ : ∃ nI, nI = LI.length := ⟨_, rfl⟩
  obtain ⟨ls, hls⟩ : ∃ ls : Int, ls = (p.last : Int) := ⟨_, rfl⟩
  obtain ⟨nf, hnf⟩ : ∃ nf, nf = Lf.length := ⟨_, rfl⟩
  obtain ⟨nq, hnq⟩ : ∃ nq, nq = Lm.length := ⟨_, rfl⟩
  have OF := hidi (fun (w2 : World) (hb : Below W.heap.size W w2) => of_any nn qq (h2.below hb) hok hm hq)
  obtain ⟨pq, hpq⟩ : ∃ pq : Pw, pq = ⟨p.most, p.queue, false, p.last, p.fl, p.wt, []⟩ := ⟨_, rfl⟩
  rw [← hmo'] at hmo ⊢
  rw [← hnS, ← hnI, ← hls, ← hnf, ← hnq, ← hpq]
  rw [← hls, ← hnf, ← hnq, ← hpq] at OF
  obtain ⟨W1, hW1⟩ : ∃ W1, W1 = (W.alloc (.cells #[.string k, .slice sa nS sc, .int .i64 ls, .slice fa nf fc, .slice qa nq qc, .slice ia nI ic] 34)).alloc (.cells #[.bool l0, .int .i64 c1, .int .i64 nn, .int .i64 qq, .int .i64 s, .int .i64 c5, .int .i64 c6, .int .i64 c7, .int .i64 c8, .slice ua un uc] 24) := ⟨_, rfl⟩
  obtain ⟨x1, x2, b1, z1⟩ := two_at W (.cells #[.string k, .slice sa nS sc, .int .i64 ls, .slice fa nf fc, .slice qa nq qc, .slice ia nI ic] 34) (.cells #[.bool l0, .int .i64 c1, .int .i64 nn, .int .i64 qq, .int .i64 s, .int .i64 c5, .int .i64 c6, .int .i64 c7, .int .i64 c8, .slice ua un uc] 24)
  rw [← hW1] at x1 x2 b1 z1
  have NW := hidi (snew_any (gd.below b1) k true l0 c1 nn qq s c5 c6 c7 c8 ua un uc hk)
  rw [← hmo'] at NW
  have AS := hidi (fun (w2 : World) (hb : Below W.heap.size W w2) => areSubs_any (own_below h1 hb) hG (by omega))
  have IB := hidi (fun (w2 : World) (hb : Below W.heap.size W w2) => isInbox_any (own_below h3 hb) hI.ord hr (by omega))
  rw [← hnS] at AS
  rw [← hnI] at IB
  have X1 := hidi (And.intro x1 (And.intro x2 (And.intro b1 z1)))
  have HL := hidi (And.intro h1 (And.intro h3 (And.intro hnS hnI)))
  have HP := hidi (And.intro hS (And.intro hG (And.intro hI (And.intro hgq (And.intro hr hml)))))
  have GDW := hidi gd
  have hge0 : 0 < W.heap.size := by
    obtain ⟨o, ho, _⟩ := gd.oth
    exact (Array.getElem?_eq_some_iff.1 ho).1
  have hcond : ¬ (nS : Int) > mo := by rw [hnS]; omega
  have hcond' : ¬ mo < (nS : Int) := by omega
  have HMO := hidi (And.intro hmo hmo')
  have i0 := box_cells x1 0 _ rfl
  have d0 := box_cells x2 0 _ rfl
  have d1 := box_cells x2 1 _ rfl
  have d2 := box_cells x2 2 _ rfl
  have d3 := box_cells x2 3 _ rfl
  have d4 := box_cells x2 4 _ rfl
  have d5 := box_cells x2 5 _ rfl
  have d6 := box_cells x2 6 _ rfl
  have d7 := box_cells x2 7 _ rfl
  have d8 := box_cells x2 8 _ rfl
  have d9 := box_cells x2 9 _ rfl
  clear gd hk h1 hS hG h2 hok h3 hI hgq hr hm hq hmo hml hmo' hnS hnI hls hnf hnq hpq x1 x2 b1 z1
  go_enter Tryz.func10, Tryz.ntmps10
  go_upto_region 1 with fail
  rw [← hW1]
  clear hW1
  go_upto_region 2 with (go_at_call 7; refine NW.out.mono ?_; clear NW; rintro e w2 ⟨tb, wb0, rfl, ss2, ks2, b2, ht2⟩)
  clear i0 d0 d1 d2 d3 d4 d5 d6 d7 d8 d9
  have SS2 := hidi ss2
  have HT := hidi ht2
  have HB2 := hidi b2
  clear ks2 ht2 b2
  have KB := hidi (show ∀ w3, Below w2.heap.size w2 w3 → w3.cell? ⟨W.heap.size, 1, none⟩ = some (.slice sa nS sc) ∧ w3.cell? ⟨W.heap.size, 5, none⟩ = some (.slice ia nI ic) ∧ w3.cell? ⟨tb, 3, none⟩ = some (.int .i64 mo) from fun w3 hb => by
    have y1 := later_at (later_at X1.out.1 HB2.out) hb
    exact ⟨box_cells y1 1 _ rfl, box_cells y1 5 _ rfl, box_cells (SS2.out.below hb) 3 _ rfl⟩)
  have BW := hidi (show ∀ w3, Below w2.heap.size w2 w3 → Below W.heap.size W w3 from fun w3 hb => (X1.out.2.2.1.trans (HB2.out.mono X1.out.2.2.1.size)).trans (hb.mono (Nat.le_trans X1.out.2.2.1.size HB2.out.size)))
  clear ss2
  obtain ⟨a1, a5, a3⟩ := KB.out w2 (Below.refl _ _)
  refine wp_region_held_drew (S := fun w' => w'.cell? ⟨W.heap.size, 1, none⟩ = some (.slice sa nS sc) ∧ w'.cell? ⟨W.heap.size, 5, none⟩ = some (.slice ia nI ic) ∧ w'.cell? ⟨tb, 3, none⟩ = some (.int .i64 mo)) (by kernel_rfl) ⟨a1, a5, a3⟩ (fun hHeld => ?_)
  change wpAnyH _ _ _ _ _ 20 #[false, false, false, false, false, false, false, false, false, false, false, false, false, false, false, false, false, false, false, false] _ (World.drew _)
  refine wpAnyH_take (i := 0) (oi := { dst := some 17, op := Go.Op.fieldAddr 34 (Go.Operand.tmp 2) 1, type := 0, pos := "session.go:38", after := #[], guard := none }) (v := .pointer (some ⟨W.heap.size, 1, none⟩)) rfl (by kernel_rfl) (by kernel_rfl) (by kernel_rfl) (fun _ _ _ h => h) (Or.inl ⟨by kernel_rfl, by intro wq hSw; (try dsimp only at hSw); clear hHeld; go_simp⟩) hHeld ?_
  simp only [Act.put, List.setIfInBounds_toArray, List.set_cons_zero, List.set_cons_succ]
  refine wpAnyH_take (i := 1) (oi := { dst := some 18, op := Go.Op.load 27 (Go.Operand.tmp 17), type := 27, pos := "session.go:38", after := #[{ on := 0, ground := Go.Ground.data }], guard := none }) (v := .slice sa nS sc) rfl (by kernel_rfl) (by kernel_rfl) (by kernel_rfl) (fun _ _ _ h => h) (Or.inl ⟨by kernel_rfl, by intro wq hSw; (try dsimp only at hSw); clear hHeld; go_simp⟩) hHeld ?_
  simp only [Act.put, List.setIfInBounds_toArray, List.set_cons_zero, List.set_cons_succ]
  refine wpAnyH_take (i := 2) (oi := { dst := some 19, op := Go.Op.call { callee := Go.Callee.builtin Go.Builtin.len, args := #[Go.Operand.tmp 18], argTypes := #[27] }, type := 3, pos := "session.go:38", after := #[{ on := 1, ground := Go.Ground.data }], guard := none }) (v := .int .i64 (nS : Int)) rfl (by kernel_rfl) (by kernel_rfl) (by kernel_rfl) (fun _ _ _ h => h) (Or.inl ⟨by kernel_rfl, by intro wq hSw; (try dsimp only at hSw); clear hHeld; go_simp⟩) hHeld ?_
  simp only [Act.put, List.setIfInBounds_toArray, List.set_cons_zero, List.set_cons_succ]
  refine wpAnyH_take (i := 3) (oi := { dst := some 20, op := Go.Op.move (Go.Operand.tmp 6), type := 36, pos := "session.go:38", after := #[], guard := none }) (v := .pointer (some ⟨tb, 0, none⟩)) rfl (by kernel_rfl) (by kernel_rfl) (by kernel_rfl) (fun _ _ _ h => h) (Or.inl ⟨by kernel_rfl, by intro wq hSw; (try dsimp only at hSw); clear hHeld; go_simp⟩) hHeld ?_
  simp only [Act.put, List.setIfInBounds_toArray, List.set_cons_zero, List.set_cons_succ]
  refine wpAnyH_take (i := 4) (oi := { dst := some 21, op := Go.Op.nilCheck (Go.Operand.tmp 20), type := 0, pos := "session.go:38", after := #[{ on := 3, ground := Go.Ground.data }], guard := none }) (v := .pointer (some ⟨tb, 0, none⟩)) rfl (by kernel_rfl) (by kernel_rfl) (by kernel_rfl) (fun _ _ _ h => h) (Or.inl ⟨by kernel_rfl, by intro wq hSw; (try dsimp only at hSw); clear hHeld; go_simp⟩) hHeld ?_
  simp only [Act.put, List.setIfInBounds_toArray, List.set_cons_zero, List.set_cons_succ]
  refine wpAnyH_take (i := 5) (oi := { dst := some 22, op := Go.Op.fieldAddr 56 (Go.Operand.tmp 21) 3, type := 0, pos := "session.go:38", after := #[{ on := 4, ground := Go.Ground.data }], guard := none }) (v := .pointer (some ⟨tb, 3, none⟩)) rfl (by kernel_rfl) (by kernel_rfl) (by kernel_rfl) (fun _ _ _ h => h) (Or.inl ⟨by kernel_rfl, by intro wq hSw; (try dsimp only at hSw); clear hHeld; go_simp⟩) hHeld ?_
  simp only [Act.put, List.setIfInBounds_toArray, List.set_cons_zero, List.set_cons_succ]
  refine wpAnyH_take (i := 6) (oi := { dst := some 23, op := Go.Op.load 3 (Go.Operand.tmp 22), type := 3, pos := "session.go:38", after := #[{ on := 5, ground := Go.Ground.data }], guard := none }) (v := .int .i64 mo) rfl (by kernel_rfl) (by kernel_rfl) (by kernel_rfl) (fun _ _ _ h => h) (Or.inl ⟨by kernel_rfl, by intro wq hSw; (try dsimp only at hSw); clear hHeld; go_simp⟩) hHeld ?_
  simp only [Act.put, List.setIfInBounds_toArray, List.set_cons_zero, List.set_cons_succ]
  refine wpAnyH_take (i := 7) (oi := { dst := some 24, op := Go.Op.binOp Go.BinOp.gtr 3 (Go.Operand.tmp 19) (Go.Operand.tmp 23) 3, type := 4, pos := "session.go:38", after := #[{ on := 2, ground := Go.Ground.data }, { on := 6, ground := Go.Ground.data }], guard := none }) (v := .bool false) rfl (by kernel_rfl) (by kernel_rfl) (by kernel_rfl) (fun _ _ _ h => h) (Or.inl ⟨by kernel_rfl, by intro wq hSw; (try dsimp only at hSw); clear hHeld; go_simp⟩) hHeld ?_
  simp only [Act.put, List.setIfInBounds_toArray, List.set_cons_zero, List.set_cons_succ]
  refine wpAnyH_take (i := 8) (oi := { dst := some 25, op := Go.Op.move (Go.Operand.tmp 24), type := 4, pos := "session.go:38", after := #[{ on := 7, ground := Go.Ground.data }], guard := none }) (v := .bool false) rfl (by kernel_rfl) (by kernel_rfl) (by kernel_rfl) (fun _ _ _ h => h) (Or.inl ⟨by kernel_rfl, by intro wq hSw; (try dsimp only at hSw); clear hHeld; go_simp⟩) hHeld ?_
  simp only [Act.put, List.setIfInBounds_toArray, List.set_cons_zero, List.set_cons_succ]
  refine wpAnyH_take (i := 9) (oi := { dst := some 26, op := Go.Op.fieldAddr 34 (Go.Operand.tmp 2) 1, type := 0, pos := "session.go:38", after := #[{ on := 8, ground := Go.Ground.guard }], guard := some (8, false) }) (v := .pointer (some ⟨W.heap.size, 1, none⟩)) rfl (by kernel_rfl) (by kernel_rfl) (by kernel_rfl) (fun _ _ _ h => h) (Or.inl ⟨by kernel_rfl, by intro wq hSw; (try dsimp only at hSw); clear hHeld; go_simp⟩) hHeld ?_
  simp only [Act.put, List.setIfInBounds_toArray, List.set_cons_zero, List.set_cons_succ]
  refine wpAnyH_take (i := 10) (oi := { dst := some 27, op := Go.Op.load 27 (Go.Operand.tmp 26), type := 27, pos := "session.go:38", after := #[{ on := 9, ground := Go.Ground.data }, { on := 8, ground := Go.Ground.guard }], guard := some (8, false) }) (v := .slice sa nS sc) rfl (by kernel_rfl) (by kernel_rfl) (by kernel_rfl) (fun _ _ _ h => h) (Or.inl ⟨by kernel_rfl, by intro wq hSw; (try dsimp only at hSw); clear hHeld; go_simp⟩) hHeld ?_
  simp only [Act.put, List.setIfInBounds_toArray, List.set_cons_zero, List.set_cons_succ]
  refine wpAnyH_ready (rs := [11]) (by kernel_rfl) (by simp) ?_
  refine AllReadyH.cons (o := { dst := some 28, op := Go.Op.call { callee := Go.Callee.value (Go.Operand.func 38), args := #[Go.Operand.tmp 27], argTypes := #[27] }, type := 4, pos := "session.go:38", after := #[{ on := 10, ground := Go.Ground.data }, { on := 8, ground := Go.Ground.chain }, { on := 8, ground := Go.Ground.guard }], guard := some (8, false) }) (by rfl) (fun K hK => ?_) AllReadyH.nil
  go_simp
  go_wp2_with (go_at_call 38; refine (AS.out _ (BW.out _ (Below.refl _ w2).drew)).mono ?_; rintro e w3 ⟨rfl, hb⟩)
  have HB3 := hidi (((Below.refl w2.heap.size w2).drew).trans (hb.mono (Nat.le_refl _)))
  clear a1 a5 a3 hb hHeld
  obtain ⟨a1, a5, a3⟩ := KB.out _ HB3.out
  refine hK.out _ _ ⟨a1, a5, a3⟩ (fun hHeld => ?_)
  clear hK K
  (try simp only [Act.put, List.setIfInBounds_toArray, List.set_cons_zero, List.set_cons_succ])
  refine wpAnyH_take (i := 12) (oi := { dst := some 29, op := Go.Op.unOp Go.UnOp.not 4 (Go.Operand.tmp 28), type := 4, pos := "session.go:38", after := #[{ on := 11, ground := Go.Ground.data }, { on := 8, ground := Go.Ground.guard }], guard := some (8, false) }) (v := .bool false) rfl (by kernel_rfl) (by kernel_rfl) (by kernel_rfl) (fun _ _ _ h => h) (Or.inl ⟨by kernel_rfl, by intro wq hSw; (try dsimp only at hSw); clear hHeld; go_simp⟩) hHeld ?_
  simp only [Act.put, List.setIfInBounds_toArray, List.set_cons_zero, List.set_cons_succ]
  refine wpAnyH_take (i := 13) (oi := { dst := some 30, op := Go.Op.pick (Go.Operand.tmp 25) (Go.Operand.const (Go.Value.bool true)) (Go.Operand.tmp 29), type := 4, pos := "session.go:38", after := #[{ on := 8, ground := Go.Ground.data }, { on := 12, ground := Go.Ground.data }], guard := none }) (v := .bool false) rfl (by kernel_rfl) (by kernel_rfl) (by kernel_rfl) (fun _ _ _ h => h) (Or.inl ⟨by kernel_rfl, by intro wq hSw; (try dsimp only at hSw); clear hHeld; go_simp⟩) hHeld ?_
  simp only [Act.put, List.setIfInBounds_toArray, List.set_cons_zero, List.set_cons_succ]
  refine wpAnyH_take (i := 14) (oi := { dst := some 31, op := Go.Op.move (Go.Operand.tmp 30), type := 4, pos := "session.go:38", after := #[{ on := 13, ground := Go.Ground.data }, { on := 11, ground := Go.Ground.chain }], guard := none }) (v := .bool false) rfl (by kernel_rfl) (by kernel_rfl) (by kernel_rfl) (fun _ _ _ h => h) (Or.inl ⟨by kernel_rfl, by intro wq hSw; (try dsimp only at hSw); clear hHeld; go_simp⟩) hHeld ?_
  simp only [Act.put, List.setIfInBounds_toArray, List.set_cons_zero, List.set_cons_succ]
  refine wpAnyH_take (i := 15) (oi := { dst := some 32, op := Go.Op.fieldAddr 34 (Go.Operand.tmp 2) 3, type := 0, pos := "session.go:38", after := #[{ on := 14, ground := Go.Ground.guard }], guard := some (14, false) }) (v := .pointer (some ⟨W.heap.size, 5, none⟩)) rfl (by kernel_rfl) (by kernel_rfl) (by kernel_rfl) (fun _ _ _ h => h) (Or.inl ⟨by kernel_rfl, by intro wq hSw; (try dsimp only at hSw); clear hHeld; go_simp⟩) hHeld ?_
  simp only [Act.put, List.setIfInBounds_toArray, List.set_cons_zero, List.set_cons_succ]
  refine wpAnyH_take (i := 16) (oi := { dst := some 33, op := Go.Op.load 32 (Go.Operand.tmp 32), type := 32, pos := "session.go:38", after := #[{ on := 15, ground := Go.Ground.data }, { on := 14, ground := Go.Ground.guard }], guard := some (14, false) }) (v := .slice ia nI ic) rfl (by kernel_rfl) (by kernel_rfl) (by kernel_rfl) (fun _ _ _ h => h) (Or.inl ⟨by kernel_rfl, by intro wq hSw; (try dsimp only at hSw); clear hHeld; go_simp⟩) hHeld ?_
  simp only [Act.put, List.setIfInBounds_toArray, List.set_cons_zero, List.set_cons_succ]
  refine wpAnyH_ready (rs := [17]) (by kernel_rfl) (by simp) ?_
  refine AllReadyH.cons (o := { dst := some 34, op := Go.Op.call { callee := Go.Callee.value (Go.Operand.func 39), args := #[Go.Operand.tmp 33], argTypes := #[32] }, type := 4, pos := "session.go:38", after := #[{ on := 16, ground := Go.Ground.data }, { on := 14, ground := Go.Ground.chain }, { on := 14, ground := Go.Ground.guard }], guard := some (14, false) }) (by rfl) (fun K hK => ?_) AllReadyH.nil
  go_simp
  go_wp2_with (go_at_call 39; refine (IB.out _ (BW.out _ HB3.out)).mono ?_; rintro e w4 ⟨rfl, hw4⟩)
  obtain rfl := hw4.symm
  clear hHeld
  refine hK.out _ _ ⟨a1, a5, a3⟩ (fun hHeld => ?_)
  clear hK K
  (try simp only [Act.put, List.setIfInBounds_toArray, List.set_cons_zero, List.set_cons_succ])
  refine wpAnyH_take (i := 18) (oi := { dst := some 35, op := Go.Op.unOp Go.UnOp.not 4 (Go.Operand.tmp 34), type := 4, pos := "session.go:38", after := #[{ on := 17, ground := Go.Ground.data }, { on := 14, ground := Go.Ground.guard }], guard := some (14, false) }) (v := .bool false) rfl (by kernel_rfl) (by kernel_rfl) (by kernel_rfl) (fun _ _ _ h => h) (Or.inl ⟨by kernel_rfl, by intro wq hSw; (try dsimp only at hSw); clear hHeld; go_simp⟩) hHeld ?_
  simp only [Act.put, List.setIfInBounds_toArray, List.set_cons_zero, List.set_cons_succ]
  refine wpAnyH_take (i := 19) (oi := { dst := some 36, op := Go.Op.pick (Go.Operand.tmp 31) (Go.Operand.const (Go.Value.bool true)) (Go.Operand.tmp 35), type := 4, pos := "session.go:38", after := #[{ on := 14, ground := Go.Ground.data }, { on := 18, ground := Go.Ground.data }], guard := none }) (v := .bool false) rfl (by kernel_rfl) (by kernel_rfl) (by kernel_rfl) (fun _ _ _ h => h) (Or.inl ⟨by kernel_rfl, by intro wq hSw; (try dsimp only at hSw); clear hHeld; go_simp⟩) hHeld ?_
  simp only [Act.put, List.setIfInBounds_toArray, List.set_cons_zero, List.set_cons_succ]
  refine wpAnyH_done (by kernel_rfl) ?_ _
  have y1 := later_at (later_at X1.out.1 HB2.out) HB3.out
  have y2 := later_at (later_at X1.out.2.1 HB2.out) HB3.out
  have e2 := box_cells y1 2 _ rfl
  have e3 := box_cells y1 3 _ rfl
  have e4 := box_cells y1 4 _ rfl
  have f2 := box_cells y2 2 _ rfl
  have f3 := box_cells y2 3 _ rfl
  have OF1 := hidi (OF.out _ (BW.out _ HB3.out))
  have SS3 := hidi (SS2.out.below HB3.out)
  have BW3 := hidi (BW.out _ HB3.out)
  have BX3 := hidi (HB2.out.trans (HB3.out.mono HB2.out.size))
  clear y1 y2 OF a1 a5 a3 KB BW AS IB
  go_upto_region 7 with (go_at_call 40; refine OF1.out.mono ?_; clear OF1; rintro e w5 ⟨xb, rfl, o5⟩)
  clear e2 e3 e4 f2 f3
  have ss5 := SS3.out.below o5.bel
  have c0 := box_cells ss5 0 _ rfl
  have f0 := box_frozen ss5 0
  obtain ⟨w6, hw6⟩ : ∃ w6, w6 = w5.setCell ⟨tb, 0, none⟩ (.pointer (some ⟨xb, 0, none⟩)) := ⟨_, rfl⟩
  have T6 := o5.s1 (G := fun j => j < W1.heap.size) (GDW.out.below (BW3.out.trans (o5.bel.mono BW3.out.size))) SS3.out (fun j hj => Nat.lt_of_lt_of_le hj BX3.out.size) (by have := HT.out; omega) (by have := HT.out; have := X1.out.2.2.2; omega)
  rw [← hw6] at T6
  have BX6 := hidi (show Below W1.heap.size W1 w6 from by
    have b5 := BX3.out.trans (o5.bel.mono BX3.out.size)
    have h6 := T6.2
    exact ⟨h6.os.trans b5.os, h6.tape.trans b5.tape, h6.output.trans b5.output, Nat.le_trans b5.size h6.size, fun j hj => (h6.block j (Nat.lt_of_lt_of_le hj b5.size) (by have := HT.out; omega)).trans (b5.block j hj)⟩)
  have HS6 := hidi T6.1
  have KI := hidi (show ∀ w3, Below W1.heap.size W1 w3 → w3.cell? ⟨W.heap.size, 1, none⟩ = some (.slice sa nS sc) ∧ w3.cell? ⟨W.heap.size, 5, none⟩ = some (.slice ia nI ic) ∧ Below W.heap.size W w3 from fun w3 hb => by
    have y1 := later_at X1.out.1 hb
    exact ⟨box_cells y1 1 _ rfl, box_cells y1 5 _ rfl, X1.out.2.2.1.trans (hb.mono X1.out.2.2.1.size)⟩)
  have hnp : w5.heap.size = w5.heap.size := rfl
  clear T6 ss5 o5 hnp
  go_upto_region 8 with fail
  rw [← hw6]
  clear hw6 c0 f0
  obtain ⟨e1, e5, eb⟩ := KI.out w6 BX6.out
  clear e5 eb
  go_wp2_with fail
  go_loopg [10, 57] nS (fun gk s10 s57 wx => ∃ (j : Nat) (sv : Value), j + gk = nS ∧ s57 = .int .i64 j ∧ Hid (S1 (fun j => j < W1.heap.size) wx tb xb k true mo pq 100000 sv (.map none) j (fLs (fun _ => none) (LS.take j)) 0 (fun _ => none) ∧ Below W1.heap.size W1 wx))
  case atStart => exact ⟨0, .map none, by omega, rfl, HS6.out, BX6.out⟩
  case round =>
    clear e1
    obtain ⟨j, sv, hj, rfl, HI⟩ := hrel
    by_cases hjn : j < nS
    · have hlt : (j : Int) < (nS : Int) := by omega
      have hge : (0 : Int) ≤ (j : Int) := by omega
      have hw1 : IntKind.i64.wrap ((j : Int) + 1) = (j : Int) + 1 := by rw [IntKind.wrap_i64]; have := HL.out.2.2.1; have := HMO.out.1; have := HMO.out.2; omega
      have hjl : j < LS.length := by rw [← HL.out.2.2.1]; exact hjn
      obtain ⟨_, _, hbW⟩ := KI.out wr HI.out.2
      obtain ⟨g', c', hv, hle, hcell⟩ := arow_cell (own_below HL.out.1 hbW) hjl
      rw [← HL.out.2.2.1] at hv
      simp only [Value.slice.injEq, true_and] at hv
      obtain ⟨rfl, rfl⟩ := hv
      obtain ⟨y, hy⟩ : ∃ y, y = LS[j] := ⟨_, rfl⟩
      obtain ⟨k0, k1⟩ := hcell j hjl
      rw [← hy] at k0 k1
      have hgy := HP.out.2.1.2 y (by rw [hy]; exact List.getElem_mem hjl)
      have htk : LS.take (j + 1) = LS.take j ++ [y] := by rw [hy]; exact List.take_succ_eq_append_getElem hjl
      have hnk : fLs (fun _ => none) (LS.take j) y.1 = none := by
        refine fLs_none _ _ _ (fun hm => ?_)
        obtain ⟨a, ha, hae⟩ := List.mem_map.1 hm
        obtain ⟨i, hi, rfl⟩ := List.getElem_of_mem ha
        have hij : i < j := by simp at hi; omega
        have := List.pairwise_iff_getElem.1 HP.out.1.ord i j (by omega) hjl hij
        rw [List.getElem_take] at hae
        rw [← hy, hae, cmpB_self] at this
        omega
      obtain ⟨fy, qy⟩ := y
      simp only at hgy k0 k1 hnk
      obtain ⟨w7, hw7⟩ : ∃ w7, w7 = wr.alloc (.cells #[.string fy, .int .i64 qy] 42) := ⟨_, rfl⟩
      have x7 : w7.heap[wr.heap.size]? = some (.cells #[.string fy, .int .i64 qy] 42 (0, 0)) := by rw [hw7]; exact heap_alloc_new wr _
      have b7 : Below wr.heap.size wr w7 := by rw [hw7]; exact (Below.refl _ _).alloc (Nat.le_refl _) _
      have S7 := hidi (HI.out.1.below b7)
      have GR := hidi (s1_grant S7.out fy hgy.2.1 qy (by have := HL.out.2.2.1; have := HMO.out.1; have := HMO.out.2; omega))
      have B7 := hidi (HI.out.2.trans (b7.mono HI.out.2.size))
      have r0 := box_cells x7 0 _ rfl
      have r1 := box_cells x7 1 _ rfl
      have HK := hidi (And.intro htk hnk)
      clear hcell hgy hle hbW hy htk hnk x7 b7
      go_upto_region 11 with fail
      rw [← hw7]
      clear hw7 k0 k1
      go_wp2_with (go_at_call 41; refine GR.out.mono ?_; clear GR; rintro e w8 ⟨rfl, r8⟩)
      obtain ⟨sv8, s8, fr8, kq8⟩ := S7.out.gr r8
      have hsz : szI (fLs (fun _ => none) (LS.take j)) fy j = j + 1 := by unfold szI; rw [HK.out.2]; rfl
      rw [hsz, ← fLs_app _ _ (fy, qy), ← HK.out.1] at s8
      have B8 := hidi (show Below W1.heap.size W1 w8 from ⟨fr8.os.trans B7.out.os, fr8.tape.trans B7.out.tape, fr8.output.trans B7.out.output, Nat.le_trans B7.out.size fr8.size, fun i hi => (fr8.at hi (Nat.lt_of_lt_of_le hi B7.out.size)).trans (B7.out.block i hi)⟩)
      have HS8 := hidi s8
      clear s8 fr8 kq8 r8 r0 r1
      go_wp2_with fail
      go_roundg (nS - (j + 1))
      case measure => omega
      case rel => exact ⟨j + 1, sv8, by omega, by first | rfl | simp, HS8.out, B8.out⟩
    · have hlt : ¬ (j : Int) < (nS : Int) := by omega
      obtain rfl : j = nS := by omega
      obtain ⟨_, e5, _⟩ := KI.out wr HI.out.2
      have HS9 := hidi (show S1 (fun j => j < W1.heap.size) wr tb xb k true mo pq 100000 sv (.map none) LS.length (fLs (fun _ => none) LS) 0 (fun _ => none) ∧ Below W1.heap.size W1 wr from by
        have := HI.out
        rw [HL.out.2.2.1, List.take_length] at this
        exact this)
      clear HI
      go_wp2_with fail
      clear e5
      go_loopg [12, 68] nI (fun gk s12 s68 wx => ∃ (j : Nat) (nv : Value), j + gk = nI ∧ s68 = .int .i64 j ∧ Hid (S1 (fun j => j < W1.heap.size) wx tb xb k true mo pq 100000 sv nv LS.length (fLs (fun _ => none) LS) j (gLs (fun _ => none) (LI.take j)) ∧ Below W1.heap.size W1 wx))
      case atStart => exact ⟨0, .map none, by omega, rfl, HS9.out.1, HS9.out.2⟩
      case round =>
        rename_i wr0 _ _ _ _ _ wr _
        obtain ⟨j, nv, hj, rfl, HI⟩ := hrel
        by_cases hjn : j < nI
        · have hlt : (j : Int) < (nI : Int) := by omega
          have hge : (0 : Int) ≤ (j : Int) := by omega
          have hw1 : IntKind.i64.wrap ((j : Int) + 1) = (j : Int) + 1 := by rw [IntKind.wrap_i64]; have := HL.out.2.2.2; have := HP.out.2.2.2.2.2; omega
          have hjl : j < LI.length := by rw [← HL.out.2.2.2]; exact hjn
          obtain ⟨_, _, hbW⟩ := KI.out _ HI.out.2
          obtain ⟨g', c', hv, hle, k0⟩ := irow_cell (own_below HL.out.2.1 hbW) hjl
          rw [← HL.out.2.2.2] at hv
          simp only [Value.slice.injEq, true_and] at hv
          obtain ⟨rfl, rfl⟩ := hv
          obtain ⟨y, hy⟩ : ∃ y, y = LI[j] := ⟨_, rfl⟩
          rw [← hy] at k0
          have hry := HP.out.2.2.2.2.1 y (by rw [hy]; exact List.getElem_mem hjl)
          have htk : LI.take (j + 1) = LI.take j ++ [y] := by rw [hy]; exact List.take_succ_eq_append_getElem hjl
          have hnk : gLs (fun _ => none) (LI.take j) y = none := by
            refine gLs_none _ _ _ (fun hm => ?_)
            obtain ⟨i, hi, hae⟩ := List.getElem_of_mem hm
            have hij : i < j := by simp at hi; omega
            have := List.pairwise_iff_getElem.1 HP.out.2.2.1.ord i j (by omega) hjl hij
            rw [List.getElem_take] at hae
            omega
          have hoky : okI y := (HP.out.2.2.1.val y (by rw [hy]; exact List.getElem_mem hjl)).1
          have NY := hidi (note_yes HI.out.1.ss HI.out.1.mg HI.out.1.mi HI.out.1.ap HI.out.1.gq y hoky hnk hry.1 hry.2 (by have := HL.out.2.2.2; have := HP.out.2.2.2.2.2; omega))
          have HK := hidi htk
          clear hry hle hbW hy htk hnk hoky
          go_wp2_with (go_at_call 31; refine NY.out.mono ?_; clear NY; rintro e w8 ⟨rfl, nv8, r8⟩)
          obtain ⟨s8, fr8, kq8⟩ := HI.out.1.tk r8 (by rw [← gLs_app, ← HK.out]; exact gLs_q _)
          rw [← gLs_app, ← HK.out] at s8
          have B8 := hidi (show Below W1.heap.size W1 w8 from ⟨fr8.os.trans HI.out.2.os, fr8.tape.trans HI.out.2.tape, fr8.output.trans HI.out.2.output, Nat.le_trans HI.out.2.size fr8.size, fun i hi => (fr8.at hi (Nat.lt_of_lt_of_le hi HI.out.2.size)).trans (HI.out.2.block i hi)⟩)
          have HS8 := hidi s8
          clear s8 fr8 kq8 r8 k0
          go_wp2_with fail
          go_roundg (nI - (j + 1))
          case measure => omega
          case rel => exact ⟨j + 1, nv8, by omega, by first | rfl | simp, HS8.out, B8.out⟩
        · have hlt : ¬ (j : Int) < (nI : Int) := by omega
          obtain rfl : j = nI := by omega
          go_wp2_with fail
          go_ret2
          have hS := HI.out.1
          rw [HL.out.2.2.2, List.take_length] at hS
          refine ⟨tb, rfl, ⟨xb, sv, nv, ⟨hS.ks.less (fun i hi => hi.elim (fun z => .inl (by have := X1.out.2.2.2; omega)) .inr), hS.ss, ?_, ?_, hS.ap, fun i hi hz => hS.ag i hi (by have := X1.out.2.2.2; omega), HP.out.2.2.2.1, hS.b0⟩⟩, (KI.out _ HI.out.2).2.2⟩
          · have := hS.mg
            rw [HP.out.1.len] at this
            exact this.congr (fun x hx => by unfold fS; rw [fLs_is HP.out.1 hx])
          · have := hS.mi
            rw [HP.out.2.2.1.len] at this
            exact this.congr (fun x hx => gLs_is HP.out.2.2.1 HP.out.2.2.2.1 hx)
end
end Go.Proofs.YtmihpmmkkklpfaaGreatDoor
