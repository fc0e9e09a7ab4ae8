import Derived.Test.YtkjeneklkdekoaaGreatDoorBlk
namespace Go.Proofs.YtkjeneklkdekoaaGreatDoor
open Go Go.RowKit
set_option linter.unusedSimpArgs false
set_option linter.unusedVariables false

/-! ### The book while markBytes goes through the lists that waited -/
def O4 (j : Nat) : Prop := j = 2 ∨ j = 3 ∨ j = 5 ∨ j = 6
theorem O4.lt {j : Nat} (h : O4 j) : j < 8 := by unfold O4 at h; omega
/-- The book since a world w, with the four rows of w that are gone through. -/
structure Ms (w0 w wx : World) (bb B : Nat) (S : Nat → Prop) (rv0 : Nat → Value) (xs0 : Nat → List Value) (cs : Array Value) (rv : Nat → Value) (xs : Nat → List Value) (t deep seen : Int) : Prop where
  bq : Bq w0 wx bb B S cs rv xs t deep seen
  old : ∀ j, O4 j → wx.ownsRow B (et j) 1 (rv0 j) (xs0 j).length (xs0 j)
  olt : ∀ j, O4 j → ∀ k, (rv0 j).ownBlock = some k → k < w.heap.size ∧ (rv0 0).ownBlock ≠ some k ∧ (rv0 1).ownBlock ≠ some k ∧ k ≠ bb
  nw : ∀ i, i < 8 → ∀ k, (rv i).ownBlock = some k → w.heap.size ≤ k ∨ (i = 0 ∧ (rv0 0).ownBlock = some k) ∨ (i = 1 ∧ (rv0 1).ownBlock = some k)
  sz : w.heap.size ≤ wx.heap.size
section
variable {w0 w wx w' : World} {bb B : Nat} {S : Nat → Prop} {rv0 : Nat → Value} {xs0 : Nat → List Value} {cs : Array Value} {rv : Nat → Value} {xs : Nat → List Value} {t deep seen : Int}
theorem Ms.ne (h : Ms w0 w wx bb B S rv0 xs0 cs rv xs t deep seen) {j : Nat} (hj : O4 j) {k : Nat} (e : (rv0 j).ownBlock = some k) (i : Nat) (hi : i < 8) : (rv i).ownBlock ≠ some k := fun q => by
  obtain ⟨h1, h2, h3, h4⟩ := h.olt j hj k e
  rcases h.nw i hi k q with q | ⟨_, q⟩ | ⟨_, q⟩
  · omega
  · exact h2 q
  · exact h3 q
theorem Ms.below (h : Ms w0 w wx bb B S rv0 xs0 cs rv xs t deep seen) (hb : Below wx.heap.size wx w') : Ms w0 w w' bb B S rv0 xs0 cs rv xs t deep seen :=
  ⟨h.bq.below hb, fun j hj => own_keep (h.old j hj) (fun k e => hb.block k ((h.old j hj).lt k e).2), h.olt, h.nw, Nat.le_trans h.sz hb.size⟩
theorem Ms.push (h : Ms w0 w wx bb B S rv0 xs0 cs rv xs t deep seen) {i : Nat} (hi : i < 8) {x v' : Value} (p : Pu wx w' bb B cs rv xs i x v') : Ms w0 w (w'.setCell ⟨bb, 4 + i, none⟩ v') bb B S rv0 xs0 (cs.setIfInBounds (4 + i) v') (upd rv i v') (upd xs i (xs i ++ [x])) t deep seen := by
  refine ⟨h.bq.push hi p, fun j hj => own_keep (h.old j hj) (fun k e => ?_), h.olt, fun j hj k e => ?_, ?_⟩
  · rw [Below.heap_setCell _ _ _ _ (h.olt j hj k e).2.2.2]
    exact p.gr.block k ((h.old j hj).lt k e).2 (fun q => h.ne hj e i hi q.symm)
  · by_cases q : j = i
    · subst q
      rw [upd_same] at e
      rcases p.wh with q | q
      · rw [q] at e; exact h.nw j hj k e
      · rw [q] at e; cases e; exact .inl h.sz
    · rw [upd_ne _ _ q] at e; exact h.nw j hj k e
  · have := h.sz; have h2 := p.gr.size; simp [World.setCell]; omega
theorem Ms.other (h : Ms w0 w wx bb B S rv0 xs0 cs rv xs t deep seen) (k : Nat) (hk : k < 4 ∨ 12 ≤ k) (v : Value) {t' deep' seen' : Int} (hh : Hd (cs.setIfInBounds k v) t' deep' seen') : Ms w0 w (wx.setCell ⟨bb, k, none⟩ v) bb B S rv0 xs0 (cs.setIfInBounds k v) rv xs t' deep' seen' :=
  ⟨h.bq.other k hk v hh, fun j hj => own_keep (h.old j hj) (fun q e => Below.heap_setCell _ _ _ _ (h.olt j hj q e).2.2.2), h.olt, h.nw, by have := h.sz; simpa [World.setCell] using this⟩
theorem Ms.copy (h : Ms w0 w wx bb B S rv0 xs0 cs rv xs t deep seen) {b n : Nat} {L : List Value} {v' : Value} (hb : wx.heap[b]? = some (.cells #[] 5 (0, 0))) (hn : w0.heap.size ≤ b) (p : Cp wx w' b n L v') : Ms w0 w w' bb B S rv0 xs0 cs rv xs t deep seen :=
  ⟨h.bq.copy hb hn p, fun j hj => own_keep (h.old j hj) (fun k e => p.gr.block _ ((h.old j hj).lt k e).2 (fun q => by cases q; obtain ⟨c, hc⟩ := own_blk (h.old j hj) e; exact blk_ne hb hc (Ne.symm (et_ne j).2) rfl)), h.olt, h.nw, Nat.le_trans h.sz p.gr.size⟩
/-- A byte is written into a list that waited. -/
theorem Ms.wr (h : Ms w0 w wx bb B S rv0 xs0 cs rv xs t deep seen) {g : Nat} {c : Array Value} (hg : wx.heap[g]? = some (.cells c 5 (0, 0))) (hs : S g ∨ w0.heap.size ≤ g) (i : Nat) (v : Value) : Ms w0 w (wx.setCell ⟨g, i, none⟩ v) bb B S rv0 xs0 cs rv xs t deep seen := by
  refine ⟨⟨h.bq.br.keep (Below.heap_setCell _ _ _ _ (Ne.symm (blk_ne hg h.bq.br.at_ (by decide)))) (fun j hj k e => Below.heap_setCell _ _ _ _ (fun q => ?_)), h.bq.hd, Ch.trans (S' := fun k => k = g) h.bq.ch (ch_set g _ _) (fun j hj q => ?_), h.bq.sb, h.bq.ins⟩, fun j hj => own_keep (h.old j hj) (fun k e => Below.heap_setCell _ _ _ _ (fun q => ?_)), h.olt, h.nw, by have := h.sz; simpa [World.setCell] using this⟩
  · subst q; obtain ⟨c2, hc2⟩ := own_blk (h.bq.br.own j hj) e; exact blk_ne hg hc2 (Ne.symm (et_ne j).2) rfl
  · subst q; rcases hs with hs | hs
    · exact hs
    · omega
  · subst q; obtain ⟨c2, hc2⟩ := own_blk (h.old j hj) e; exact blk_ne hg hc2 (Ne.symm (et_ne j).2) rfl
end
/-- How it begins: the four rows are let go. -/
theorem Ms.start {w0 w : World} {bb B : Nat} {S : Nat → Prop} {cs : Array Value} {rv : Nat → Value} {xs : Nat → List Value} {t deep seen : Int} (h : Bq w0 w bb B S cs rv xs t deep seen) (h4 : rv 4 = .slice none 0 0) (h7 : rv 7 = .slice none 0 0) :
    ∃ cs', Ms w0 w ((((w.setCell ⟨bb, 6, none⟩ (.slice none 0 0)).setCell ⟨bb, 7, none⟩ (.slice none 0 0)).setCell ⟨bb, 9, none⟩ (.slice none 0 0)).setCell ⟨bb, 10, none⟩ (.slice none 0 0)) bb B S rv xs cs' (upd (upd (upd (upd rv 2 (.slice none 0 0)) 3 (.slice none 0 0)) 5 (.slice none 0 0)) 6 (.slice none 0 0)) (upd (upd (upd (upd xs 2 []) 3 []) 5 []) 6 []) t deep seen := by
  have h1 := (((h.nil 2 (by decide)).nil 3 (by decide)).nil 5 (by decide)).nil 6 (by decide)
  refine ⟨_, h1, fun j hj => own_keep (h.br.own j hj.lt) (fun k e => ?_), fun j hj k e => ⟨((h.br.own j hj.lt).lt k e).2, ?_, ?_, ?_⟩, fun i hi k e => ?_, by simp [World.setCell]⟩
  · have hne : k ≠ bb := fun q => h.br.ne j hj.lt (q ▸ e)
    rw [Below.heap_setCell _ _ _ _ hne, Below.heap_setCell _ _ _ _ hne, Below.heap_setCell _ _ _ _ hne, Below.heap_setCell _ _ _ _ hne]
  · exact fun q => h.br.sep j 0 hj.lt (by decide) (by unfold O4 at hj; omega) k e q
  · exact fun q => h.br.sep j 1 hj.lt (by decide) (by unfold O4 at hj; omega) k e q
  · exact fun q => h.br.ne j hj.lt (q ▸ e)
  · by_cases e6 : i = 6
    · subst e6; rw [upd_same] at e; cases e
    rw [upd_ne _ _ e6] at e
    by_cases e5 : i = 5
    · subst e5; rw [upd_same] at e; cases e
    rw [upd_ne _ _ e5] at e
    by_cases e3 : i = 3
    · subst e3; rw [upd_same] at e; cases e
    rw [upd_ne _ _ e3] at e
    by_cases e2 : i = 2
    · subst e2; rw [upd_same] at e; cases e
    rw [upd_ne _ _ e2] at e
    by_cases e4 : i = 4
    · subst e4; rw [h4] at e; cases e
    by_cases e7 : i = 7
    · subst e7; rw [h7] at e; cases e
    by_cases e0 : i = 0
    · subst e0; exact .inr (.inl ⟨rfl, e⟩)
    have e1 : i = 1 := by omega
    subst e1; exact .inr (.inr ⟨rfl, e⟩)
end Go.Proofs.YtkjeneklkdekoaaGreatDoor
namespace Go.Proofs.YtkjeneklkdekoaaGreatDoor
open Go Go.RowKit
set_option linter.unusedSimpArgs false
set_option linter.unusedVariables false

/-! ### The lists of the book while markBytes goes through them -/
def NB (v u : Value) : Prop := ∀ k, v.ownBlock = some k → u.ownBlock ≠ some k
theorem NB.symm {v u : Value} (h : NB v u) : NB u v := fun k e q => h k q e
def PS (l : List Value) : Prop := l.Pairwise NB
theorem sep_of_ps {l : List Value} (h : PS l) : Sep l := by
  intro i j v u hij hi hj k e
  obtain ⟨h1, e1⟩ := List.getElem?_eq_some_iff.1 hi
  obtain ⟨h2, e2⟩ := List.getElem?_eq_some_iff.1 hj
  rcases Nat.lt_or_gt_of_ne hij with q | q
  · have := List.pairwise_iff_getElem.1 h i j h1 h2 q
    rw [e1, e2] at this
    exact this k e
  · have := List.pairwise_iff_getElem.1 h j i h2 h1 q
    rw [e1, e2] at this
    exact this.symm k e
abbrev Five (w w' : World) : Prop := ∀ (g : Nat) (k : Array Value), w.heap[g]? = some (.cells k 5 (0, 0)) → w'.heap[g]? = w.heap[g]?
structure Mi (w0 wx : World) (B : Nat) (S : Nat → Prop) (D : Nat → Nat → Prop) (xw0 xn0 : List Value) (k : Nat) (xo xt xw xn xf : List Value) : Prop where
  dk : Dk wx D
  pd : PD wx D xo xt
  ps : PS (xw ++ (xf ++ xw0.drop k))
  wl : xw.length = xn.length
  wt : ∀ (i : Nat) (v vn : Value), xw[i]? = some v → xn[i]? = some vn → Wt wx B D v vn
  rt : ∀ (i : Nat) (v vn : Value), k ≤ i → xw0[i]? = some v → xn0[i]? = some vn → Wt wx B D v vn
  fr : ∀ (i : Nat) (v : Value), xf[i]? = some v → ∃ n L, Ol wx B D v n n L ∧ n ≤ 900000
  dS : ∀ g j, D g j → S g ∨ w0.heap.size ≤ g
  ins : ∀ v, v ∈ xw0 ∨ v ∈ xw ∨ v ∈ xf → ∀ g, v.ownBlock = some g → S g ∨ w0.heap.size ≤ g
theorem Wt.five {w w' : World} {B : Nat} {D : Nat → Nat → Prop} {v vn : Value} (h : Wt w B D v vn) (hd : Dk w D) (hf : Five w w') : Wt w' B D v vn := by
  obtain ⟨n, L, b, c, h1, ho, _⟩ := h.ex
  exact h.keep (fun k e => by obtain ⟨cc, hc⟩ := own_blk ho e; exact hf k cc hc) (keeps_five hd hf) (fun _ _ q => q) (fun _ _ _ q => q)
theorem Mi.five {w0 wx w' : World} {B : Nat} {S : Nat → Prop} {D : Nat → Nat → Prop} {xw0 xn0 : List Value} {k : Nat} {xo xt xw xn xf : List Value} (h : Mi w0 wx B S D xw0 xn0 k xo xt xw xn xf) (hf : Five wx w') : Mi w0 w' B S D xw0 xn0 k xo xt xw xn xf :=
  ⟨dk_five h.dk hf, h.pd.keep (keeps_five h.dk hf) (fun _ _ q => q), h.ps, h.wl, fun i v vn e1 e2 => (h.wt i v vn e1 e2).five h.dk hf, fun i v vn hi e1 e2 => (h.rt i v vn hi e1 e2).five h.dk hf, fun i v e => by
    obtain ⟨n, L, ho, hn⟩ := h.fr i v e
    exact ⟨n, L, ho.keep (fun k e => by obtain ⟨cc, hc⟩ := own_blk ho.own e; exact hf k cc hc) (fun _ _ _ q => q), hn⟩, h.dS, h.ins⟩
theorem drop_at {l : List Value} {k : Nat} {v : Value} (h : l[k]? = some v) : l.drop k = v :: l.drop (k + 1) := by
  obtain ⟨h1, h2⟩ := List.getElem?_eq_some_iff.1 h
  rw [← h2]
  exact List.drop_eq_getElem_cons h1
theorem Mi.wait {w0 wx : World} {B : Nat} {S : Nat → Prop} {D : Nat → Nat → Prop} {xw0 xn0 : List Value} {k : Nat} {xo xt xw xn xf : List Value} {v vn : Value} (h : Mi w0 wx B S D xw0 xn0 k xo xt xw xn xf) (hv : xw0[k]? = some v) (hvn : xn0[k]? = some vn) : Mi w0 wx B S D xw0 xn0 (k + 1) xo xt (xw ++ [v]) (xn ++ [vn]) xf := by
  refine ⟨h.dk, h.pd, ?_, by simp [h.wl], fun i u un e1 e2 => ?_, fun i u un hi => h.rt i u un (by omega), h.fr, h.dS, fun u hu => ?_⟩
  · have hp := h.ps
    rw [drop_at hv] at hp
    have e : (xw ++ [v]) ++ (xf ++ xw0.drop (k + 1)) = xw ++ (v :: (xf ++ xw0.drop (k + 1))) := by simp
    show List.Pairwise NB _
    rw [e]
    exact (List.Perm.pairwise_iff (fun h => NB.symm h) (List.Perm.append_left xw List.perm_middle)).1 hp
  · by_cases q : i < xw.length
    · rw [List.getElem?_append_left q] at e1
      rw [List.getElem?_append_left (by rw [← h.wl]; exact q)] at e2
      exact h.wt i u un e1 e2
    · have hi : i = xw.length := by have := (List.getElem?_eq_some_iff.1 e1).1; simp at this; omega
      subst hi
      rw [List.getElem?_append_right (Nat.le_refl _)] at e1
      rw [List.getElem?_append_right (by rw [h.wl]; exact Nat.le_refl _)] at e2
      simp [h.wl] at e1 e2
      subst e1 e2
      exact h.rt k v vn (Nat.le_refl _) hv hvn
  · refine h.ins u ?_
    rcases hu with q | q | q
    · exact .inl q
    · rcases List.mem_append.1 q with q | q
      · exact .inr (.inl q)
      · simp at q; subst q; exact .inl (List.mem_of_getElem? hv)
    · exact .inr (.inr q)
theorem Mi.fresh {w0 wx wy wz : World} {B n vc k4 : Nat} {S : Nat → Prop} {D : Nat → Nat → Prop} {xw0 xn0 : List Value} {k : Nat} {xo xt xw xn xf L2 : List Value} {va a4 : Option Addr} {vn : Value} (h : Mi w0 wx B S D xw0 xn0 k xo xt xw xn xf) (hv : xw0[k]? = some (.slice va n vc)) (hvn : xn0[k]? = some vn) (hl : xw0.length = xn0.length) (own2 : wy.ownsRow B 5 1 (.slice va n vc) n L2) (hb : ∀ u ∈ L2, Bv u) (hn : n ≤ 900000) (ch : Ch (fun q => (Value.slice va n vc).ownBlock = some q) wx wy) (n4 : Nl wy wz a4 n k4 L2) (v4 : Five wy wz) (hw0 : w0.heap.size ≤ wy.heap.size) :
    ∃ D', Mi w0 wz B S D' xw0 xn0 (k + 1) (xo ++ [.slice va n vc]) (xt ++ [.slice a4 n k4]) xw xn (xf ++ [.slice va n vc]) ∧ ∀ g j, D g j → D' g j := by
  have W := h.rt k _ _ (Nat.le_refl _) hv hvn
  have K1 : Keeps D wx wy := fun g j q => by
    obtain ⟨c, hc⟩ := h.dk.typ g j q
    unfold World.cell?
    rw [show (⟨g, j, none⟩ : Addr).block = g from rfl, ch.block g (lt_of_block hc) (fun e => W.off g e j q)]
  have T1 : Dk wy D := ⟨fun g j q => by
    obtain ⟨c, hc⟩ := h.dk.typ g j q
    exact ⟨c, (ch.block g (lt_of_block hc) (fun e => W.off g e j q)).trans hc⟩⟩
  have K2 : Keeps D wy wz := keeps_five T1 v4
  have T2 : Dk wz D := dk_five T1 v4
  have O2 : wz.ownsRow B 5 1 (.slice va n vc) n L2 := own_keep own2 (fun q e => by obtain ⟨c, hc⟩ := own_blk own2 e; exact v4 q c hc)
  have hp := h.ps
  rw [drop_at hv] at hp
  obtain ⟨_, p2, p3⟩ := List.pairwise_append.1 hp
  obtain ⟨_, p4, p5⟩ := List.pairwise_append.1 p2
  obtain ⟨p6, _⟩ := List.pairwise_cons.1 p4
  -- what lies in another block stays
  have stay : ∀ (u : Value) (m : Nat) (L : List Value), wx.ownsRow B 5 1 u m L → NB u (.slice va n vc) → ∀ q, u.ownBlock = some q → wz.heap[q]? = wx.heap[q]? ∧ q < wy.heap.size := fun u m L ho hnb q e => by
    obtain ⟨c, hc⟩ := own_blk ho e
    have e1 := ch.block q (lt_of_block hc) (hnb q e)
    exact ⟨(v4 q c (e1.trans hc)).trans e1, lt_of_block (e1.trans hc)⟩
  have hD : ∀ (u : Value) (m : Nat) (L : List Value), wx.ownsRow B 5 1 u m L → NB u (.slice va n vc) → ∀ g, u.ownBlock = some g → ∀ j, (D g j ∨ ((Value.slice va n vc).ownBlock = some g ∧ j < n) ∨ ∃ off, a4 = some ⟨g, off, none⟩) → D g j := fun u m L ho hnb g e j q => by
    rcases q with q | ⟨q, _⟩ | ⟨off, q⟩
    · exact q
    · exact absurd q (hnb g e)
    · have h1 := (n4.new g off q).1
      have := (stay u m L ho hnb g e).2
      omega
  refine ⟨fun g j => D g j ∨ ((Value.slice va n vc).ownBlock = some g ∧ j < n) ∨ ∃ off, a4 = some ⟨g, off, none⟩, ⟨⟨?_⟩, ?_, ?_, h.wl, fun i u un e1 e2 => ?_, fun i u un hi e1 e2 => ?_, fun i u e => ?_, ?_, fun u hu => ?_⟩, fun g j q => .inl q⟩
  · rintro g j (q | ⟨q, _⟩ | ⟨off, q⟩)
    · exact T2.typ g j q
    · exact own_blk O2 q
    · exact (n4.new g off q).2
  · exact (h.pd.keep (K1.trans K2) (fun g j q => Or.inl q)).snoc (by omega) (cl_of_own O2) n4.cl (ind_own O2 (fun g e j hj => .inr (.inl ⟨e, hj⟩))) (fun g off e j hj => .inr (.inr ⟨off, e⟩)) hb
  · show List.Pairwise NB _
    have e : xw ++ (xf ++ [.slice va n vc] ++ xw0.drop (k + 1)) = xw ++ (xf ++ .slice va n vc :: xw0.drop (k + 1)) := by simp
    rw [e]; exact hp
  · have hw := h.wt i u un e1 e2
    obtain ⟨m, L, b, c, h1, ho, _⟩ := hw.ex
    have hnb : NB u (.slice va n vc) := p3 u (List.mem_of_getElem? e1) _ (List.mem_append.2 (.inr (List.mem_cons.2 (.inl rfl))))
    exact hw.keep (fun q e => (stay u m L ho hnb q e).1) (K1.trans K2) (fun g j q => .inl q) (fun g e j q => hD u m L ho hnb g e j q)
  · have hw := h.rt i u un (by omega) e1 e2
    obtain ⟨m, L, b, c, h1, ho, _⟩ := hw.ex
    have hnb : NB u (.slice va n vc) := (p6 u (by
      refine List.mem_of_getElem? (i := i - (k + 1)) ?_
      rw [List.getElem?_drop, show k + 1 + (i - (k + 1)) = i by omega]; exact e1)).symm
    exact hw.keep (fun q e => (stay u m L ho hnb q e).1) (K1.trans K2) (fun g j q => .inl q) (fun g e j q => hD u m L ho hnb g e j q)
  · by_cases q : i < xf.length
    · rw [List.getElem?_append_left q] at e
      obtain ⟨m, L, ho, hm⟩ := h.fr i u e
      have hnb : NB u (.slice va n vc) := p5 u (List.mem_of_getElem? e) _ (List.mem_cons.2 (.inl rfl))
      exact ⟨m, L, ho.keep (fun q e => (stay u m L ho.own hnb q e).1) (fun g e j q => hD u m L ho.own hnb g e j q), hm⟩
    · have hi : i = xf.length := by have := (List.getElem?_eq_some_iff.1 e).1; simp at this; omega
      subst hi
      simp at e
      subst e
      refine ⟨n, L2, ⟨O2, ?_, hb, by omega⟩, hn⟩
      rintro g e j (q | ⟨_, q⟩ | ⟨off, q⟩)
      · exact absurd q (W.off g e j)
      · exact q
      · have h1 := (n4.new g off q).1
        obtain ⟨c, hc⟩ := own_blk own2 e
        have := lt_of_block hc
        omega
  · rintro g j (q | ⟨q, _⟩ | ⟨off, q⟩)
    · exact h.dS g j q
    · exact h.ins _ (.inl (List.mem_of_getElem? hv)) g q
    · have := (n4.new g off q).1
      exact .inr (by omega)
  · refine h.ins u ?_
    rcases hu with q | q | q
    · exact .inl q
    · exact .inr (.inl q)
    · rcases List.mem_append.1 q with q | q
      · exact .inr (.inr q)
      · simp at q; subst q; exact .inl (List.mem_of_getElem? hv)
end Go.Proofs.YtkjeneklkdekoaaGreatDoor
