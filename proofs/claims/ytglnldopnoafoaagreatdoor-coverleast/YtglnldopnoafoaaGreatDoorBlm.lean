import Derived.Test.YtglnldopnoafoaaGreatDoorBll
namespace Go.Proofs.YtglnldopnoafoaaGreatDoor
open Go Go.RowKit
set_option linter.unusedSimpArgs false
set_option linter.unusedVariables false

/-! ### The lists of the book while markBytes goes through them -/
def NB (v u : Value) : Prop := ∀ k, v.ownBlock = some k → u.ownBlock ≠ some k
theorem NB.symm {v u : Value} (h : NB v u) : NB u v := fun k e q => h k q e
def PS (l : List Value) : Prop := l.Pairwise NB
theorem sep_of_ps {l : List Value} (h : PS l) : Sep l := by
  intro i j v u hij hi hj k e
  obtain ⟨h1, e1⟩ := List.getElem?_eq_some_iff.1 hi
  obtain ⟨h2, e2⟩ := List.getElem?_eq_some_iff.1 hj
  rcases Nat.lt_or_gt_of_ne hij with q | q
  · have := List.pairwise_iff_getElem.1 h i j h1 h2 q
    rw [e1, e2] at this
    exact this k e
  · have := List.pairwise_iff_getElem.1 h j i h2 h1 q
    rw [e1, e2] at this
    exact this.symm k e
abbrev Five (w w' : World) : Prop := ∀ (g : Nat) (k : Array Value), w.heap[g]? = some (.cells k 9 (0, 0)) → w'.heap[g]? = w.heap[g]?
structure Mi (w0 wx : World) (B : Nat) (S : Nat → Prop) (D : Nat → Nat → Prop) (xw0 xn0 : List Value) (k : Nat) (xo xt xw xn xf : List Value) : Prop where
  dk : Dk wx D
  pd : PD wx D xo xt
  ps : PS (xw ++ (xf ++ xw0.drop k))
  wl : xw.length = xn.length
  wt : ∀ (i : Nat) (v vn : Value), xw[i]? = some v → xn[i]? = some vn → Wt wx B D v vn
  rt : ∀ (i : Nat) (v vn : Value), k ≤ i → xw0[i]? = some v → xn0[i]? = some vn → Wt wx B D v vn
  fr : ∀ (i : Nat) (v : Value), xf[i]? = some v → ∃ n L, Ol wx B D v n n L ∧ n ≤ 900000
  dS : ∀ g j, D g j → S g ∨ w0.heap.size ≤ g
  ins : ∀ v, v ∈ xw0 ∨ v ∈ xw ∨ v ∈ xf → ∀ g, v.ownBlock = some g → S g ∨ w0.heap.size ≤ g
theorem Wt.five {w w' : World} {B : Nat} {D : Nat → Nat → Prop} {v vn : Value} (h : Wt w B D v vn) (hd : Dk w D) (hf : Five w w') : Wt w' B D v vn := by
  obtain ⟨n, L, b, c, h1, ho, _⟩ := h.ex
  exact h.keep (fun k e => by obtain ⟨cc, hc⟩ := own_blk ho e; exact hf k cc hc) (keeps_five hd hf) (fun _ _ q => q) (fun _ _ _ q => q)
theorem Mi.five {w0 wx w' : World} {B : Nat} {S : Nat → Prop} {D : Nat → Nat → Prop} {xw0 xn0 : List Value} {k : Nat} {xo xt xw xn xf : List Value} (h : Mi w0 wx B S D xw0 xn0 k xo xt xw xn xf) (hf : Five wx w') : Mi w0 w' B S D xw0 xn0 k xo xt xw xn xf :=
  ⟨dk_five h.dk hf, h.pd.keep (keeps_five h.dk hf) (fun _ _ q => q), h.ps, h.wl, fun i v vn e1 e2 => (h.wt i v vn e1 e2).five h.dk hf, fun i v vn hi e1 e2 => (h.rt i v vn hi e1 e2).five h.dk hf, fun i v e => by
    obtain ⟨n, L, ho, hn⟩ := h.fr i v e
    exact ⟨n, L, ho.keep (fun k e => by obtain ⟨cc, hc⟩ := own_blk ho.own e; exact hf k cc hc) (fun _ _ _ q => q), hn⟩, h.dS, h.ins⟩
theorem drop_at {l : List Value} {k : Nat} {v : Value} (h : l[k]? = some v) : l.drop k = v :: l.drop (k + 1) := by
  obtain ⟨h1, h2⟩ := List.getElem?_eq_some_iff.1 h
  rw [← h2]
  exact List.drop_eq_getElem_cons h1
theorem Mi.wait {w0 wx : World} {B : Nat} {S : Nat → Prop} {D : Nat → Nat → Prop} {xw0 xn0 : List Value} {k : Nat} {xo xt xw xn xf : List Value} {v vn : Value} (h : Mi w0 wx B S D xw0 xn0 k xo xt xw xn xf) (hv : xw0[k]? = some v) (hvn : xn0[k]? = some vn) : Mi w0 wx B S D xw0 xn0 (k + 1) xo xt (xw ++ [v]) (xn ++ [vn]) xf := by
  refine ⟨h.dk, h.pd, ?_, by simp [h.wl], fun i u un e1 e2 => ?_, fun i u un hi => h.rt i u un (by omega), h.fr, h.dS, fun u hu => ?_⟩
  · have hp := h.ps
    rw [drop_at hv] at hp
    have e : (xw ++ [v]) ++ (xf ++ xw0.drop (k + 1)) = xw ++ (v :: (xf ++ xw0.drop (k + 1))) := by simp
    show List.Pairwise NB _
    rw [e]
    exact (List.Perm.pairwise_iff (fun h => NB.symm h) (List.Perm.append_left xw List.perm_middle)).1 hp
  · by_cases q : i < xw.length
    · rw [List.getElem?_append_left q] at e1
      rw [List.getElem?_append_left (by rw [← h.wl]; exact q)] at e2
      exact h.wt i u un e1 e2
    · have hi : i = xw.length := by have := (List.getElem?_eq_some_iff.1 e1).1; simp at this; omega
      subst hi
      rw [List.getElem?_append_right (Nat.le_refl _)] at e1
      rw [List.getElem?_append_right (by rw [h.wl]; exact Nat.le_refl _)] at e2
      simp [h.wl] at e1 e2
      subst e1 e2
      exact h.rt k v vn (Nat.le_refl _) hv hvn
  · refine h.ins u ?_
    rcases hu with q | q | q
    · exact .inl q
    · rcases List.mem_append.1 q with q | q
      · exact .inr (.inl q)
      · simp at q; subst q; exact .inl (List.mem_of_getElem? hv)
    · exact .inr (.inr q)
theorem Mi.fresh {w0 wx wy wz : World} {B n vc k4 : Nat} {S : Nat → Prop} {D : Nat → Nat → Prop} {xw0 xn0 : List Value} {k : Nat} {xo xt xw xn xf L2 : List Value} {va a4 : Option Addr} {vn : Value} (h : Mi w0 wx B S D xw0 xn0 k xo xt xw xn xf) (hv : xw0[k]? = some (.slice va n vc)) (hvn : xn0[k]? = some vn) (hl : xw0.length = xn0.length) (own2 : wy.ownsRow B 9 1 (.slice va n vc) n L2) (hb : ∀ u ∈ L2, Bv u) (hn : n ≤ 900000) (ch : Ch (fun q => (Value.slice va n vc).ownBlock = some q) wx wy) (n4 : Nl wy wz a4 n k4 L2) (v4 : Five wy wz) (hw0 : w0.heap.size ≤ wy.heap.size) :
    ∃ D', Mi w0 wz B S D' xw0 xn0 (k + 1) (xo ++ [.slice va n vc]) (xt ++ [.slice a4 n k4]) xw xn (xf ++ [.slice va n vc]) ∧ ∀ g j, D g j → D' g j := by
  have W := h.rt k _ _ (Nat.le_refl _) hv hvn
  have K1 : Keeps D wx wy := fun g j q => by
    obtain ⟨c, hc⟩ := h.dk.typ g j q
    unfold World.cell?
    rw [show (⟨g, j, none⟩ : Addr).block = g from rfl, ch.block g (lt_of_block hc) (fun e => W.off g e j q)]
  have T1 : Dk wy D := ⟨fun g j q => by
    obtain ⟨c, hc⟩ := h.dk.typ g j q
    exact ⟨c, (ch.block g (lt_of_block hc) (fun e => W.off g e j q)).trans hc⟩⟩
  have K2 : Keeps D wy wz := keeps_five T1 v4
  have T2 : Dk wz D := dk_five T1 v4
  have O2 : wz.ownsRow B 9 1 (.slice va n vc) n L2 := own_keep own2 (fun q e => by obtain ⟨c, hc⟩ := own_blk own2 e; exact v4 q c hc)
  have hp := h.ps
  rw [drop_at hv] at hp
  obtain ⟨_, p2, p3⟩ := List.pairwise_append.1 hp
  obtain ⟨_, p4, p5⟩ := List.pairwise_append.1 p2
  obtain ⟨p6, _⟩ := List.pairwise_cons.1 p4
  -- what lies in another block stays
  have stay : ∀ (u : Value) (m : Nat) (L : List Value), wx.ownsRow B 9 1 u m L → NB u (.slice va n vc) → ∀ q, u.ownBlock = some q → wz.heap[q]? = wx.heap[q]? ∧ q < wy.heap.size := fun u m L ho hnb q e => by
    obtain ⟨c, hc⟩ := own_blk ho e
    have e1 := ch.block q (lt_of_block hc) (hnb q e)
    exact ⟨(v4 q c (e1.trans hc)).trans e1, lt_of_block (e1.trans hc)⟩
  have hD : ∀ (u : Value) (m : Nat) (L : List Value), wx.ownsRow B 9 1 u m L → NB u (.slice va n vc) → ∀ g, u.ownBlock = some g → ∀ j, (D g j ∨ ((Value.slice va n vc).ownBlock = some g ∧ j < n) ∨ ∃ off, a4 = some ⟨g, off, none⟩) → D g j := fun u m L ho hnb g e j q => by
    rcases q with q | ⟨q, _⟩ | ⟨off, q⟩
    · exact q
    · exact absurd q (hnb g e)
    · have h1 := (n4.new g off q).1
      have := (stay u m L ho hnb g e).2
      omega
  refine ⟨fun g j => D g j ∨ ((Value.slice va n vc).ownBlock = some g ∧ j < n) ∨ ∃ off, a4 = some ⟨g, off, none⟩, ⟨⟨?_⟩, ?_, ?_, h.wl, fun i u un e1 e2 => ?_, fun i u un hi e1 e2 => ?_, fun i u e => ?_, ?_, fun u hu => ?_⟩, fun g j q => .inl q⟩
  · rintro g j (q | ⟨q, _⟩ | ⟨off, q⟩)
    · exact T2.typ g j q
    · exact own_blk O2 q
    · exact (n4.new g off q).2
  · exact (h.pd.keep (K1.trans K2) (fun g j q => Or.inl q)).snoc (by omega) (cl_of_own O2) n4.cl (ind_own O2 (fun g e j hj => .inr (.inl ⟨e, hj⟩))) (fun g off e j hj => .inr (.inr ⟨off, e⟩)) hb
  · show List.Pairwise NB _
    have e : xw ++ (xf ++ [.slice va n vc] ++ xw0.drop (k + 1)) = xw ++ (xf ++ .slice va n vc :: xw0.drop (k + 1)) := by simp
    rw [e]; exact hp
  · have hw := h.wt i u un e1 e2
    obtain ⟨m, L, b, c, h1, ho, _⟩ := hw.ex
    have hnb : NB u (.slice va n vc) := p3 u (List.mem_of_getElem? e1) _ (List.mem_append.2 (.inr (List.mem_cons.2 (.inl rfl))))
    exact hw.keep (fun q e => (stay u m L ho hnb q e).1) (K1.trans K2) (fun g j q => .inl q) (fun g e j q => hD u m L ho hnb g e j q)
  · have hw := h.rt i u un (by omega) e1 e2
    obtain ⟨m, L, b, c, h1, ho, _⟩ := hw.ex
    have hnb : NB u (.slice va n vc) := (p6 u (by
      refine List.mem_of_getElem? (i := i - (k + 1)) ?_
      rw [List.getElem?_drop, show k + 1 + (i - (k + 1)) = i by omega]; exact e1)).symm
    exact hw.keep (fun q e => (stay u m L ho hnb q e).1) (K1.trans K2) (fun g j q => .inl q) (fun g e j q => hD u m L ho hnb g e j q)
  · by_cases q : i < xf.length
    · rw [List.getElem?_append_left q] at e
      obtain ⟨m, L, ho, hm⟩ := h.fr i u e
      have hnb : NB u (.slice va n vc) := p5 u (List.mem_of_getElem? e) _ (List.mem_cons.2 (.inl rfl))
      exact ⟨m, L, ho.keep (fun q e => (stay u m L ho.own hnb q e).1) (fun g e j q => hD u m L ho.own hnb g e j q), hm⟩
    · have hi : i = xf.length := by have := (List.getElem?_eq_some_iff.1 e).1; simp at this; omega
      subst hi
      simp at e
      subst e
      refine ⟨n, L2, ⟨O2, ?_, hb, by omega⟩, hn⟩
      rintro g e j (q | ⟨_, q⟩ | ⟨off, q⟩)
      · exact absurd q (W.off g e j)
      · exact q
      · have h1 := (n4.new g off q).1
        obtain ⟨c, hc⟩ := own_blk own2 e
        have := lt_of_block hc
        omega
  · rintro g j (q | ⟨q, _⟩ | ⟨off, q⟩)
    · exact h.dS g j q
    · exact h.ins _ (.inl (List.mem_of_getElem? hv)) g q
    · have := (n4.new g off q).1
      exact .inr (by omega)
  · refine h.ins u ?_
    rcases hu with q | q | q
    · exact .inl q
    · exact .inr (.inl q)
    · rcases List.mem_append.1 q with q | q
      · exact .inr (.inr q)
      · simp at q; subst q; exact .inl (List.mem_of_getElem? hv)
end Go.Proofs.YtglnldopnoafoaaGreatDoor
