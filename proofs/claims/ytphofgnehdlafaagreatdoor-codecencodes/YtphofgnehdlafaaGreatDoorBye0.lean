import Derived.Test.YtphofgnehdlafaaGreatDoorBln
import Derived.Test.YtphofgnehdlafaaGreatDoorBkg
import Derived.Test.YtphofgnehdlafaaGreatDoorRfb
import Derived.Test.YtphofgnehdlafaaGreatDoorBsix
import Derived.Deep.LoopGhost
import Derived.Laws.Tables
namespace Go.Proofs.YtphofgnehdlafaaGreatDoor.Bk
open Go Go.RowKit
set_option linter.unusedSimpArgs false
set_option linter.unusedVariables false
set_option maxRecDepth 100000
set_option maxHeartbeats 4000000
theorem frl_of {w0 w1 : World} {B : Nat} {S : Nat → Prop} {D : Nat → Nat → Prop} {xw0 xn0 : List Value} {k K : Nat} {xs xs' : Nat → List Value} {xo xt xw xn : List Value} (h : Mi w0 w1 B S D xw0 xn0 k xo xt xw xn (xs' 4)) (m : Mn xs xs' K) : FrL w1 w0 B S D (xs' 4) (xs' 7) := by
 refine ⟨m.m7, h.fr, fun i x hx => m.i7 x (List.mem_of_getElem? hx), sep_of_ps ?_, fun i v hv => h.ins v (.inr (.inr (List.mem_of_getElem? hv)))⟩
 exact (List.pairwise_append.1 (List.pairwise_append.1 h.ps).2.1).1
theorem after_grow {w0 w1 w2 : World} {B : Nat} {S : Nat → Prop} {D D2 : Nat → Nat → Prop} {xw0 xn0 : List Value} {k : Nat} {xo xt xw xn xf xo2 xt2 : List Value} (h : Mi w0 w1 B S D xw0 xn0 k xo xt xw xn xf) (hd : Dk w2 D2) (hp : PD w2 D2 xo2 xt2) (hsub : Sb S w0 D D2) (hk : Keeps D w1 w2) (ha : Aside w1 w2 D D2 xf xf.length) : Mi w0 w2 B S D2 xw xn 0 xo2 xt2 [] [] [] := by
 obtain ⟨p1, _, p3⟩ := List.pairwise_append.1 h.ps
 refine ⟨hd, hp, by show List.Pairwise NB _; simpa using p1, rfl, fun i v vn e => by simp at e, fun i v vn _ e1 e2 => ?_, fun i v e => by simp at e, fun g j q => ?_, fun v hv => ?_⟩
 ·
  have hw := h.wt i v vn e1 e2
  obtain ⟨n, L, b, c, h1, ho, _⟩ := hw.ex
  have q : ∀ g, v.ownBlock = some g → w2.heap[g]? = w1.heap[g]? ∧ ∀ j, D2 g j → D g j := fun g e => by
   obtain ⟨cc, hc⟩ := own_blk ho e
   exact ha g cc hc (fun i' u _ hu e' => p3 v (List.mem_of_getElem? e1) u (List.mem_append.2 (.inl (List.mem_of_getElem? hu))) g e e')
  exact hw.keep (fun g e => (q g e).1) hk hsub.sub (fun g e => (q g e).2)
 ·
  rcases hsub.new g j q with q | q
  ·
   exact h.dS g j q
  ·
   exact q
 ·
  rcases hv with q | q | q
  ·
   exact h.ins v (.inr (.inl q))
  ·
   cases q
  ·
   cases q
structure Bo (w0 w : World) (bb B : Nat) (S : Nat → Prop) (D : Nat → Nat → Prop) (cs : Array Value) (rv : Nat → Value) (xs : Nat → List Value) (t deep seen : Int) : Prop where
 bq : Bq w0 w bb B S cs rv xs t deep seen
 mi : Mi w0 w B S D (xs 2) (xs 3) 0 (xs 0) (xs 1) [] [] []
 n4 : rv 4 = .slice none 0 0 ∧ rv 7 = .slice none 0 0 ∧ xs 4 = [] ∧ xs 7 = []
 len : (xs 3).length = (xs 2).length ∧ (xs 5).length = (xs 2).length ∧ (xs 6).length = (xs 2).length
 i5 : ∀ u ∈ xs 5, ∃ m, u = .int .i64 m
 i6 : ∀ u ∈ xs 6, ∃ m, u = .int .i64 m
theorem Bo.below {w0 w w' : World} {bb B : Nat} {S : Nat → Prop} {D : Nat → Nat → Prop} {cs : Array Value} {rv : Nat → Value} {xs : Nat → List Value} {t deep seen : Int} (h : Bo w0 w bb B S D cs rv xs t deep seen) (hb : Below w.heap.size w w') : Bo w0 w' bb B S D cs rv xs t deep seen :=
 ⟨h.bq.below hb, h.mi.five (fun g k hg => hb.block g (lt_of_block hg)), h.n4, h.len, h.i5, h.i6⟩
theorem Bo.other {w0 w : World} {bb B : Nat} {S : Nat → Prop} {D : Nat → Nat → Prop} {cs : Array Value} {rv : Nat → Value} {xs : Nat → List Value} {t deep seen : Int} (h : Bo w0 w bb B S D cs rv xs t deep seen) (k : Nat) (hk : k < 4 ∨ 12 ≤ k) (v : Value) {t' deep' seen' : Int} (hh : Hd (cs.setIfInBounds k v) t' deep' seen') : Bo w0 (w.setCell ⟨bb, k, none⟩ v) bb B S D (cs.setIfInBounds k v) rv xs t' deep' seen' :=
 ⟨h.bq.other k hk v hh, h.mi.five (fun g c hg => Below.heap_setCell _ _ _ _ (blk_ne hg h.bq.br.at_ (by decide))), h.n4, h.len, h.i5, h.i6⟩
theorem below_of_grown {w1 w2 : World} {bb : Nat} (h : w1.grownBy w2 (some bb)) (hc : ∃ cs, BkAt w1 bb cs ∧ BkAt w2 bb cs) : Below w1.heap.size w1 w2 := by
 obtain ⟨cs, h1, h2⟩ := hc
 refine ⟨h.os, h.tape, h.output, h.size, fun k hk => ?_⟩
 by_cases e : k = bb
 ·
  subst e; exact h2.trans h1.symm
 ·
  exact h.block k hk (fun q => by cases q; exact e rfl)
def Bgrown (w0 w' : World) (bb B : Nat) (S : Nat → Prop) (D : Nat → Nat → Prop) (xs : Nat → List Value) (t deep seen : Int) : Prop :=
 ∃ D' cs' rv' xs', Bo w0 w' bb B S D' cs' rv' xs' t deep seen ∧ (∀ g j, D g j → D' g j) ∧ (xs' 2).length ≤ (xs 2).length ∧ (xs' 0).length ≤ (xs 0).length + 2 * (xs 2).length ∧ (xs' 0).length + 2 * (xs' 2).length ≤ (xs 0).length + 2 * (xs 2).length
theorem grow_of {bb B : Nat} {S : Nat → Prop} {D : Nat → Nat → Prop} {xs : Nat → List Value} {t deep seen : Int} {w0 w : World} (h : Mdone w0 w bb B S D xs t deep seen) (hB : B ≤ w.heap.size) (hl : (xs 0).length + 2 * (xs 2).length ≤ 800000) :
    Calls Tryz.prog 188 #[.pointer (some ⟨bb, 0, none⟩)] w fun e w' => e = .returned (.tuple #[]) ∧ (∃ cs, BkAt w' bb cs ∧ Rest cs) ∧ Bgrown w0 w' bb B S D xs t deep seen := by
  obtain ⟨D1, cs1, rv1, xs1, hq, hm, hs, mn⟩ := h
  refine (growBytes_any bb B S D1 cs1 rv1 xs1 t deep seen w0 w hq hm.dk hm.pd (frl_of hm mn) hB (by have := mn.l0; have := mn.l4; omega)).mono ?_
  rintro e w' ⟨rfl, D2, cs2, rv2, xo, xt, hq2, hd2, hp2, hs2, hk2, ha2, hl2⟩
  refine ⟨rfl, ⟨cs2, hq2.br.at_, hq2.hd.rest⟩, D2, cs2, _, _, ⟨hq2, ?_, ?_, ?_, ?_, ?_⟩, fun g j q => hs2.sub g j (hs g j q), ?_, ?_, ?_⟩
  · have := after_grow hm hd2 hp2 hs2 hk2 ha2
    simpa [upd] using this
  · simp [upd]
  · have := mn.m5; have := mn.m6; have := hm.wl; simp [upd]; omega
  · intro u hu; exact mn.i5 u (by simpa [upd] using hu)
  · intro u hu; exact mn.i6 u (by simpa [upd] using hu)
  · have := mn.l2; simp [upd]; omega
  · have := mn.l0; have := mn.l4; simp [upd]; omega
  · have := mn.l24; have := mn.l04; simp [upd]; omega
theorem done_any (bb B : Nat) (S : Nat → Prop) (D : Nat → Nat → Prop) (cs : Array Value) (rv : Nat → Value) (xs : Nat → List Value) (t : Nat) (seen : Int) (w0 w : World) (h : Bo w0 w bb B S D cs rv xs t 1 seen) (hB : B ≤ w0.heap.size) (hl : (xs 0).length + 2 * (xs 2).length ≤ 800000) (ht : t ≤ 1000000) :
    Calls Tryz.prog 57 #[.pointer (some ⟨bb, 0, none⟩)] w fun e w' => e = .returned (.tuple #[]) ∧ Bgrown w0 w' bb B S D xs (t + 1 : Nat) 0 seen := by
  have H0 : Hid (Bo w0 w bb B S D cs rv xs t 1 seen) := h
  have HB : Hid (B ≤ w0.heap.size ∧ (xs 0).length + 2 * (xs 2).length ≤ 800000 ∧ t ≤ 1000000) := ⟨hB, hl, ht⟩
  have c3 := (bk_cell h.bq.br.at_ h.bq.hd.dp).1
  have z3 := (bk_cell h.bq.br.at_ h.bq.hd.dp).2
  obtain ⟨wa, hwa⟩ : ∃ W, W = w.setCell ⟨bb, 3, none⟩ (.int .i64 0) := ⟨_, rfl⟩
  obtain ⟨csa, HA⟩ : ∃ c, Hid (Bo w0 wa bb B S D c rv xs t 0 seen) := ⟨_, by show Bo _ _ _ _ _ _ _ _ _ _ _ _; rw [hwa]; exact h.other 3 (.inl (by decide)) (.int .i64 0) (h.bq.hd.deep 0)⟩
  have C1 : Hid (Calls Tryz.prog 115 #[.pointer (some ⟨bb, 0, none⟩)] wa fun e w' => e = .returned (.tuple #[]) ∧ Mdone w0 w' bb B S D xs t 0 seen) := by
    refine marks_any bb wa _ ((markBytes_any bb B S D csa rv xs t 0 seen w0 wa HA.out.bq HA.out.mi HA.out.n4.1 HA.out.n4.2.1 HA.out.n4.2.2.1 HA.out.n4.2.2.2 HA.out.len HA.out.i5 HA.out.i6 (Nat.le_trans hB HA.out.bq.ch.size) (by omega)).mono ?_)
    rintro e w1 ⟨rfl, hm⟩
    obtain ⟨D1, cs1, rv1, xs1, hq, r⟩ := hm
    exact ⟨rfl, ⟨cs1, hq.br.at_, hq.hd.rest⟩, D1, cs1, rv1, xs1, hq, r⟩
  have C2 : Hid (∀ w1, Mdone w0 w1 bb B S D xs t 0 seen → Calls Tryz.prog 116 #[.pointer (some ⟨bb, 0, none⟩)] w1 fun e w' => e = .returned (.tuple #[]) ∧ Bgrown w0 w' bb B S D xs t 0 seen) := fun w1 hd => grows_any bb w1 _ (fun u1 u2 q hg hc => by
    obtain ⟨D', cs', rv', xs', hbo, r⟩ := q
    exact ⟨D', cs', rv', xs', hbo.below (below_of_grown hg hc), r⟩) (grow_of hd (by obtain ⟨_, _, _, _, hq, _⟩ := hd; exact Nat.le_trans HB.out.1 hq.ch.size) HB.out.2.1)
  clear h hB hl ht
  go_enter Tryz.func57, Tryz.ntmps57
  go_wp2_with fail
  rw [← hwa]
  clear hwa c3 z3
  go_must (go_at_call 115)
  refine C1.out.mono ?_
  rintro e w1 ⟨rfl, hm⟩
  have CC := (show Hid (Calls Tryz.prog 116 #[.pointer (some ⟨bb, 0, none⟩)] w1 fun e w' => e = .returned (.tuple #[]) ∧ Bgrown w0 w' bb B S D xs t 0 seen) from C2.out w1 hm)
  clear hm
  go_wp2_with fail
  go_must (go_at_call 116)
  refine CC.out.mono ?_
  rintro e w2 ⟨rfl, hg⟩
  obtain ⟨D2, cs2, rv2, xs2, hb2, r1, r2, r3⟩ := hg
  have H2 : Hid (Bo w0 w2 bb B S D2 cs2 rv2 xs2 t 0 seen ∧ (∀ g j, D g j → D2 g j) ∧ (xs2 2).length ≤ (xs 2).length ∧ (xs2 0).length ≤ (xs 0).length + 2 * (xs 2).length ∧ (xs2 0).length + 2 * (xs2 2).length ≤ (xs 0).length + 2 * (xs 2).length) := ⟨hb2, r1, r2, r3⟩
  have ct := (bk_cell hb2.bq.br.at_ hb2.bq.hd.turn).1
  have zt := (bk_cell hb2.bq.br.at_ hb2.bq.hd.turn).2
  clear hb2 r1 r2 r3
  have hwt : IntKind.i64.wrap ((t : Int) + 1) = ((t + 1 : Nat) : Int) := by have := HB.out.2.2; rw [IntKind.wrap_i64]; omega
  go_wp2_with fail
  go_end0
  exact ⟨rfl, D2, _, rv2, xs2, H2.out.1.other 2 (.inl (by decide)) _ (H2.out.1.bq.hd.turned _), H2.out.2.1, H2.out.2.2.1, H2.out.2.2.2⟩
theorem Mi.add {w0 w wx : World} {B n vc k4 : Nat} {S : Nat → Prop} {D : Nat → Nat → Prop} {xw xn xo xt L : List Value} {va a4 : Option Addr} (h : Mi w0 w B S D xw xn 0 xo xt [] [] []) (hl : xn.length = xw.length) (hw0 : w0.heap.size ≤ w.heap.size) (hf : Five w wx) (ho : w.ownsRow B 5 1 (.slice va n vc) n L) (hnl : Nl w wx a4 n k4 L) (hoff : ∀ g, (Value.slice va n vc).ownBlock = some g → ∀ j, ¬ D g j) (hnb : ∀ u ∈ xw, NB u (.slice va n vc)) (hS : ∀ g, (Value.slice va n vc).ownBlock = some g → S g ∨ w0.heap.size ≤ g) (hb : ∀ u ∈ L, Bv u) (hn : n ≤ 1900000) :
    ∃ D', Mi w0 wx B S D' (xw ++ [.slice va n vc]) (xn ++ [.slice a4 n k4]) 0 xo xt [] [] [] ∧ ∀ g j, D g j → D' g j := by
  have h' := h.five hf
  have new : ∀ (u : Value) (m : Nat) (L' : List Value), w.ownsRow B 5 1 u m L' → ∀ g, u.ownBlock = some g → ∀ j, (D g j ∨ ∃ off, a4 = some ⟨g, off, none⟩) → D g j := fun u m L' hu g e j q => by
    rcases q with q | ⟨off, q⟩
    · exact q
    · have h1 := (hnl.new g off q).1
      have h2 := (hu.lt g e).2
      omega
  refine ⟨fun g j => D g j ∨ ∃ off, a4 = some ⟨g, off, none⟩, ⟨⟨?_⟩, h'.pd.keep (fun _ _ _ => rfl) (fun g j q => .inl q), ?_, rfl, fun i v vn e => by simp at e, fun i u un _ e1 e2 => ?_, fun i v e => by simp at e, ?_, fun u hu => ?_⟩, fun g j q => .inl q⟩
  · rintro g j (q | ⟨off, q⟩)
    · exact h'.dk.typ g j q
    · exact (hnl.new g off q).2
  · have hp : List.Pairwise NB xw := by have := h.ps; unfold PS at this; simpa using this
    show List.Pairwise NB _
    simp only [List.nil_append, List.drop_zero]
    exact List.pairwise_append.2 ⟨hp, List.pairwise_singleton _ _, fun a ha b hb' => by simp at hb'; subst hb'; exact hnb a ha⟩
  · by_cases q : i < xw.length
    · rw [List.getElem?_append_left q] at e1
      rw [List.getElem?_append_left (by rw [hl]; exact q)] at e2
      obtain ⟨m, L', _, _, _, hu, _⟩ := (h.rt i u un (Nat.zero_le _) e1 e2).ex
      exact (h'.rt i u un (Nat.zero_le _) e1 e2).keep (fun _ _ => rfl) (fun _ _ _ => rfl) (fun g j q => .inl q) (new u m L' hu)
    · have hi : i = xw.length := by have := (List.getElem?_eq_some_iff.1 e1).1; simp at this; omega
      subst hi
      rw [List.getElem?_append_right (Nat.le_refl _)] at e1
      rw [List.getElem?_append_right (by rw [hl]; exact Nat.le_refl _)] at e2
      simp [hl] at e1 e2
      subst e1 e2
      refine ⟨⟨n, L, a4, k4, hn, own_keep ho (fun g e => by obtain ⟨c, hc⟩ := own_blk ho e; exact hf g c hc), rfl, hnl.cl, fun g off e j hj => .inr ⟨off, e⟩, hb⟩, fun g e j q => hoff g e j (new _ n L ho g e j q)⟩
  · rintro g j (q | ⟨off, q⟩)
    · exact h.dS g j q
    · have := (hnl.new g off q).1
      exact .inr (by omega)
  · rcases hu with q | q | q
    · rcases List.mem_append.1 q with q | q
      · exact h.ins u (.inl q)
      · simp at q; subst q; exact hS
    · cases q
    · cases q
theorem Bq.rebase {w0 w : World} {bb B : Nat} {S : Nat → Prop} {cs : Array Value} {rv : Nat → Value} {xs : Nat → List Value} {t deep seen : Int} (h : Bq w0 w bb B S cs rv xs t deep seen) : Bq w w bb B (fun k => S k ∨ w0.heap.size ≤ k) cs rv xs t deep seen :=
 ⟨h.br, h.hd, Ch.refl _ _, .inl h.sb, fun i hi k e => .inl (h.ins i hi k e)⟩
theorem Bq.back {w0 w wx : World} {bb B : Nat} {S : Nat → Prop} {cs : Array Value} {rv : Nat → Value} {xs : Nat → List Value} {t deep seen : Int} (h : Bq w wx bb B (fun k => S k ∨ w0.heap.size ≤ k) cs rv xs t deep seen) (hc : Ch S w0 w) (hs : S bb) : Bq w0 wx bb B S cs rv xs t deep seen :=
 ⟨h.br, h.hd, Ch.trans hc h.ch (fun j hj q => by rcases q with q | q; exact q; omega), hs, fun i hi k e => by
  rcases h.ins i hi k e with q | q
  ·
   exact q
  ·
   exact .inr (Nat.le_trans hc.size q)⟩
theorem book_bytes (bb B : Nat) (S : Nat → Prop) (D : Nat → Nat → Prop) (cs : Array Value) (rv : Nat → Value) (xs : Nat → List Value) (t seen : Nat) (va : Option Addr) (n vc : Nat) (L : List Value) (mark : Int) (w0 w : World)
    (h : Bo w0 w bb B S D cs rv xs t 0 seen) (hB : B ≤ w0.heap.size) (hl : (xs 0).length + 2 * (xs 2).length ≤ 700000) (ht : t ≤ 100000) (hsn : seen ≤ 100000) (ho : w.ownsRow B 5 1 (.slice va n vc) n L) (hb : ∀ u ∈ L, Bv u) (hn : n ≤ 1900000)
    (hoff : ∀ g, (Value.slice va n vc).ownBlock = some g → ∀ j, ¬ D g j) (hnb : ∀ u ∈ xs 2, NB u (.slice va n vc)) (hS : ∀ g, (Value.slice va n vc).ownBlock = some g → S g ∨ w0.heap.size ≤ g) :
    Calls Tryz.prog 53 #[.pointer (some ⟨bb, 0, none⟩), .slice va n vc, .int .i64 mark] w fun e w' => e = .returned (.tuple #[]) ∧ ∃ D' cs' rv' xs', Bo w0 w' bb B S D' cs' rv' xs' (t + 1 : Nat) 0 (seen + 1 : Nat) ∧ (∀ g j, D g j → D' g j) ∧ (xs' 2).length ≤ (xs 2).length + 1 ∧ (xs' 0).length ≤ (xs 0).length + 2 * (xs 2).length + 2 ∧ (xs' 0).length + 2 * (xs' 2).length ≤ (xs 0).length + 2 * (xs 2).length + 2 := by
  have hlen := h.len
  have hpd := h.mi.pd.1
  have h8 : ∀ i, i < 8 → (xs i).length ≤ 900000 := fun i hi => by
    match i, hi with
    | 0, _ => omega
    | 1, _ => omega
    | 2, _ => omega
    | 3, _ => omega
    | 4, _ => rw [h.n4.2.2.1]; exact Nat.zero_le _
    | 5, _ => omega
    | 6, _ => omega
    | 7, _ => rw [h.n4.2.2.2]; exact Nat.zero_le _
  refine bytes_any bb B (fun k => S k ∨ w0.heap.size ≤ k) cs rv xs t seen va n vc L mark w w _ h.bq.rebase (Nat.le_trans hB h.bq.ch.size) h8 ht hsn (cl_of_own ho) (fun g off e => ?_) (fun u hu => (hb u hu).one) (by omega) ?_
  · subst e
    rcases ho.2 with ⟨q, h0⟩ | ⟨g', cap, cur, q, _, hg, _⟩
    · cases q
    · injection q with q1 q2 q3
      injection q1 with q1
      injection q1 with q1 q2
      subst q1
      exact ⟨_, hg⟩
  · intro wx cs' v2 v3 v5 v6 a4 k4 due hq hnl hf hd1 hd2
    obtain ⟨D1, hm, hs⟩ := h.mi.add hlen.1 h.bq.ch.size hf ho hnl hoff hnb hS hb hn
    have hbo : Bo w0 wx bb B S D1 cs' (upd (upd (upd (upd rv 2 v2) 3 v3) 5 v5) 6 v6) (upd (upd (upd (upd xs 2 (xs 2 ++ [.slice va n vc])) 3 (xs 3 ++ [.slice a4 n k4])) 5 (xs 5 ++ [.int .i64 mark])) 6 (xs 6 ++ [.int .i64 due])) t 1 (seen + 1 : Nat) := by
      refine ⟨hq.back h.bq.ch h.bq.sb, by simpa [upd] using hm, by simpa [upd] using h.n4, ?_, ?_, ?_⟩
      · simp [upd]; omega
      · intro u hu
        rcases List.mem_append.1 (by simpa [upd] using hu : u ∈ xs 5 ++ [.int .i64 mark]) with q | q
        · exact h.i5 u q
        · simp at q; exact ⟨_, q⟩
      · intro u hu
        rcases List.mem_append.1 (by simpa [upd] using hu : u ∈ xs 6 ++ [.int .i64 due]) with q | q
        · exact h.i6 u q
        · simp at q; exact ⟨_, q⟩
    refine (done_any bb B S D1 cs' _ _ t (seen + 1 : Nat) w0 wx hbo hB (by simp [upd]; omega) (by omega)).mono ?_
    rintro e w' ⟨rfl, D2, cs2, rv2, xs2, hb2, r1, r2, r3⟩
    refine ⟨rfl, D2, cs2, rv2, xs2, hb2, fun g j q => r1 g j (hs g j q), ?_, ?_, ?_⟩
    · simpa [upd] using r2
    · simp [upd] at r3; omega
    · simp [upd] at r3; omega
set_option maxHeartbeats 1000000
def PairsC (w : World) (xs ys : List Value) (n : Nat) : Prop :=
 ∀ i, i < n → ∃ a b l c c' L, xs[i]? = some (.slice a l c) ∧ ys[i]? = some (.slice b l c') ∧ l ≤ 2000000 ∧ CL w a l c L ∧ CL w b l c' L ∧ ∀ u ∈ L, Bv u
theorem holdBytes_cl (bb n m : Nat) (cs : Array Value) (vo vt vw vn : Value) (xo xt xw xn : List Value) (w : World) (hB : BkAt w bb cs) (c4 : cs[4]? = some vo) (c5 : cs[5]? = some vt) (c6 : cs[6]? = some vw) (c7 : cs[7]? = some vn)
    (hn : n ≤ 1000000) (hm : m ≤ 1000000) (r4 : RowAt w vo n xo) (r5 : RowAt w vt n xt) (r6 : RowAt w vw m xw) (r7 : RowAt w vn m xn) (p1 : PairsC w xo xt n) (p2 : PairsC w xw xn m) :
    Calls Tryz.prog 58 #[.pointer (some ⟨bb, 0, none⟩)] w fun e w1 => e = .returned (.bool true) ∧ Below w.heap.size w w1 := by
  have x4 := (bk_cell hB c4).1
  have x5 := (bk_cell hB c5).1
  have x6 := (bk_cell hB c6).1
  have x7 := (bk_cell hB c7).1
  have L4 : ∃ a c, vo = .slice a n c := by
    obtain ⟨_, ⟨h, h'⟩ | ⟨g, c, h, _⟩⟩ := r4
    · subst h'; exact ⟨_, _, h⟩
    · exact ⟨_, _, h⟩
  have L6 : ∃ a c, vw = .slice a m c := by
    obtain ⟨_, ⟨h, h'⟩ | ⟨g, c, h, _⟩⟩ := r6
    · subst h'; exact ⟨_, _, h⟩
    · exact ⟨_, _, h⟩
  have row : ∀ v k xs i, RowAt w v k xs → i < k → ∃ g c, v = .slice (some ⟨g, 0, none⟩) k c ∧ k ≤ c ∧ w.cell? ⟨g, i, none⟩ = xs[i]? := by
    intro v k xs i h hi
    obtain ⟨_, ⟨h, h'⟩ | ⟨g, c, h, h2, h3⟩⟩ := h
    · omega
    · exact ⟨g, c, h, h2, h3 i hi⟩
  have P1 : Hid (∀ w', Below w.heap.size w w' → ∀ i, i < n → ∃ g c g' c' a b l k k' , vo = .slice (some ⟨g, 0, none⟩) n c ∧ n ≤ c ∧ vt = .slice (some ⟨g', 0, none⟩) n c' ∧ n ≤ c' ∧ w'.cell? ⟨g, i, none⟩ = some (.slice a l k) ∧ w'.cell? ⟨g', i, none⟩ = some (.slice b l k') ∧ ∀ w, Below w'.heap.size w' w → Calls Tryz.prog 117 #[.slice a l k, .slice b l k'] w fun e w' => e = .returned (.bool true) ∧ w' = w) := by
    intro w' bw i hi
    obtain ⟨a, b, l, k, k', L, e1, e2, hl, q1, q2, hb⟩ := p1 i hi
    obtain ⟨g, c, h1, h2, h3⟩ := row _ _ _ i r4 hi
    obtain ⟨g', c', h1', h2', h3'⟩ := row _ _ _ i r5 hi
    exact ⟨g, c, g', c', a, b, l, k, k', h1, h2, h1', h2', cell_later bw (h3.trans e1), cell_later bw (h3'.trans e2), fun w2 b2 => sameBytes_cl a b l k k' L w2 ((q1.below bw).below b2) ((q2.below bw).below b2) hb hl⟩
  have P2 : Hid (∀ w', Below w.heap.size w w' → ∀ i, i < m → ∃ g c g' c' a b l k k' , vw = .slice (some ⟨g, 0, none⟩) m c ∧ m ≤ c ∧ vn = .slice (some ⟨g', 0, none⟩) m c' ∧ m ≤ c' ∧ w'.cell? ⟨g, i, none⟩ = some (.slice a l k) ∧ w'.cell? ⟨g', i, none⟩ = some (.slice b l k') ∧ ∀ w, Below w'.heap.size w' w → Calls Tryz.prog 117 #[.slice a l k, .slice b l k'] w fun e w' => e = .returned (.bool true) ∧ w' = w) := by
    intro w' bw i hi
    obtain ⟨a, b, l, k, k', L, e1, e2, hl, q1, q2, hb⟩ := p2 i hi
    obtain ⟨g, c, h1, h2, h3⟩ := row _ _ _ i r6 hi
    obtain ⟨g', c', h1', h2', h3'⟩ := row _ _ _ i r7 hi
    exact ⟨g, c, g', c', a, b, l, k, k', h1, h2, h1', h2', cell_later bw (h3.trans e1), cell_later bw (h3'.trans e2), fun w2 b2 => sameBytes_cl a b l k k' L w2 ((q1.below bw).below b2) ((q2.below bw).below b2) hb hl⟩
  obtain ⟨a4, k4, e4⟩ := L4
  obtain ⟨a6, k6, e6⟩ := L6
  rw [e4] at x4 P1
  rw [e6] at x6 P2
  clear row p1 p2 r4 r5 r6 r7 hB c4 c5 c6 c7 e4 e6
  have X : Hid (∀ w', Below w.heap.size w w' → w'.cell? ⟨bb, 4, none⟩ = some (.slice a4 n k4) ∧ w'.cell? ⟨bb, 5, none⟩ = some vt ∧ w'.cell? ⟨bb, 6, none⟩ = some (.slice a6 m k6) ∧ w'.cell? ⟨bb, 7, none⟩ = some vn) := fun w' hb => ⟨cell_later hb x4, cell_later hb x5, cell_later hb x6, cell_later hb x7⟩
  clear x4 x5 x6 x7
  go_enter Tryz.func58, Tryz.ntmps58
  go_wp2
  go_loopw [3] (fun i wr => ∃ k : Nat, i = .int .i64 k ∧ k ≤ n ∧ Below w.heap.size w wr) (fun i _ => n - (intOf i).toNat)
  case atStart => exact ⟨0, rfl, by omega, Below.refl _ _⟩
  case round =>
    obtain ⟨k, rfl, hk, hbel⟩ := hrel
    obtain ⟨x4, x5, x6, x7⟩ := X.out _ hbel
    have HB : Hid (Below w.heap.size w wr) := hbel
    by_cases hlt : k < n
    · obtain ⟨g, c, g', c', a, b, l, q, q', h1, h2, h3, h4, h5, h6, h7⟩ := P1.out _ hbel k hlt
      have H7 : Hid (∀ N, Calls Tryz.prog 117 #[.slice a l q, .slice b l q'] (wr.drewN N) fun e w' => e = .returned (.bool true) ∧ w' = wr.drewN N) := fun N => h7 _ (below_drewN (Below.refl _ _) N)
      clear h7 hbel
      rw [h1] at x4
      rw [h3] at x5
      clear h1 h3
      have hk' : (k : Int) < n := by omega
      go_wp2
      go_quiet ((go_at_call 117; exact Calls.quiet_of_same (H7.out _)))
      go_wp2
      go_roundw
      case rel => exact ⟨k + 1, by simp, by omega, below_drewN HB.out _⟩
      case measure => simp [intOf]; omega
    · have hk' : ¬ (k : Int) < n := by omega
      clear hbel
      have HBX : Hid (Below w.heap.size w wr) := HB.out
      go_wp2
      go_loopw [4] (fun i wr => ∃ k : Nat, i = .int .i64 k ∧ k ≤ m ∧ Below w.heap.size w wr) (fun i _ => m - (intOf i).toNat)
      case atStart => exact ⟨0, rfl, by omega, HBX.out⟩
      case round =>
        obtain ⟨k, rfl, hk, hbel⟩ := hrel
        obtain ⟨x4, x5, x6, x7⟩ := X.out _ hbel
        have HB : Hid (Below w.heap.size w wr) := hbel
        by_cases hlt : k < m
        · obtain ⟨g, c, g', c', a, b, l, q, q', h1, h2, h3, h4, h5, h6, h7⟩ := P2.out _ hbel k hlt
          have H7 : Hid (∀ N, Calls Tryz.prog 117 #[.slice a l q, .slice b l q'] (wr.drewN N) fun e w' => e = .returned (.bool true) ∧ w' = wr.drewN N) := fun N => h7 _ (below_drewN (Below.refl _ _) N)
          clear h7 hbel
          rw [h1] at x6
          rw [h3] at x7
          clear h1 h3
          have hk' : (k : Int) < m := by omega
          go_wp2
          go_quiet ((go_at_call 117; exact Calls.quiet_of_same (H7.out _)))
          go_wp2
          go_roundw
          case rel => exact ⟨k + 1, by simp, by omega, below_drewN HB.out _⟩
          case measure => simp [intOf]; omega
        · have hk' : ¬ (k : Int) < m := by omega
          clear hbel
          go_wp2
          go_ret
          exact ⟨rfl, HB.out⟩
theorem rowAt_of {w : World} {B e : Nat} {v : Value} {xs : List Value} (h : w.ownsRow B e 1 v xs.length xs) : RowAt w v xs.length xs := by
 refine ⟨rfl, ?_⟩
 rcases h.2 with ⟨q, h0⟩ | ⟨g, cap, cur, q, _, hg, hnc, _⟩
 ·
  exact .inl ⟨q, h0⟩
 ·
  subst q
  exact .inr ⟨g, cap, rfl, hnc, fun i hi => h.cellAt i (by omega)⟩
theorem hold_bo {w0 w : World} {bb B : Nat} {S : Nat → Prop} {D : Nat → Nat → Prop} {cs : Array Value} {rv : Nat → Value} {xs : Nat → List Value} {t deep seen : Int} (h : Bo w0 w bb B S D cs rv xs t deep seen) (h0 : (xs 0).length ≤ 1000000) (h2 : (xs 2).length ≤ 1000000) :
    Calls Tryz.prog 17 #[.pointer (some ⟨bb, 0, none⟩)] w fun e w1 => e = .returned (.bool true) ∧ Below w.heap.size w w1 := by
  have br := h.bq.br
  have e1 : (xs 1).length = (xs 0).length := h.mi.pd.1.symm
  have e3 := h.len.1
  refine hold_bk bb cs w br.at_ h.bq.hd.rest h.bq.hd.bad (holdBytes_cl bb (xs 0).length (xs 2).length cs (rv 0) (rv 1) (rv 2) (rv 3) (xs 0) (xs 1) (xs 2) (xs 3) w br.at_ (br.fld 0 (by decide)) (br.fld 1 (by decide)) (br.fld 2 (by decide)) (br.fld 3 (by decide)) h0 h2 (rowAt_of (br.own 0 (by decide))) (e1 ▸ rowAt_of (br.own 1 (by decide))) (rowAt_of (br.own 2 (by decide))) (e3 ▸ rowAt_of (br.own 3 (by decide))) (fun i hi => ?_) (fun i hi => ?_))
  · obtain ⟨a, b, l, c, c', L, q1, q2, q3, q4, q5, _, _, q8⟩ := h.mi.pd.2 i hi
    exact ⟨a, b, l, c, c', L, q1, q2, q3, q4, q5, q8⟩
  · obtain ⟨v, hv⟩ : ∃ v, (xs 2)[i]? = some v := ⟨_, List.getElem?_eq_getElem hi⟩
    obtain ⟨vn, hvn⟩ : ∃ v, (xs 3)[i]? = some v := ⟨_, List.getElem?_eq_getElem (by omega)⟩
    obtain ⟨n, L, b, c', hn, ho, rfl, hc, _, hb⟩ := (h.mi.rt i v vn (Nat.zero_le _) hv hvn).ex
    obtain ⟨a, c, rfl⟩ := own_sl ho
    exact ⟨a, b, n, c, c', L, hv, hvn, by omega, cl_of_own ho, hc, hb⟩
theorem bo_start {w : World} {bb B : Nat} {cs : Array Value} (hat : BkAt w bb cs) (hd : Hd cs 0 0 0) (hr : ∀ i, i < 8 → cs[4 + i]? = some (.slice none 0 0)) (S : Nat → Prop) (hs : S bb) : Bo w w bb B S (fun _ _ => False) cs (fun _ => .slice none 0 0) (fun _ => []) 0 0 0 := by
 refine ⟨⟨⟨hat, hr, fun i hi => ⟨rfl, .inl ⟨rfl, rfl⟩⟩, fun i j _ _ _ k e => by cases e⟩, hd, Ch.refl _ _, hs, fun i hi k e => by cases e⟩, ⟨⟨fun g j q => q.elim⟩, PD.nil _ _, List.Pairwise.nil, rfl, fun i v vn e => by simp at e, fun i v vn _ e => by simp at e, fun i v e => by simp at e, fun _ _ q => q.elim, fun v hv => ?_⟩, ⟨rfl, rfl, rfl, rfl⟩, ⟨rfl, rfl, rfl⟩, fun u hu => (by cases hu), fun u hu => (by cases hu)⟩
 rcases hv with q | q | q <;> cases q
theorem Bo.more {w0 w : World} {bb B : Nat} {S S' : Nat → Prop} {D : Nat → Nat → Prop} {cs : Array Value} {rv : Nat → Value} {xs : Nat → List Value} {t deep seen : Int} (h : Bo w0 w bb B S D cs rv xs t deep seen) (hs : ∀ k, S k → S' k) : Bo w0 w bb B S' D cs rv xs t deep seen :=
 ⟨⟨h.bq.br, h.bq.hd, h.bq.ch.mono (fun j _ q => hs j q), hs _ h.bq.sb, fun i hi k e => (h.bq.ins i hi k e).imp (hs k) id⟩, ⟨h.mi.dk, h.mi.pd, h.mi.ps, h.mi.wl, h.mi.wt, h.mi.rt, h.mi.fr, fun g j q => (h.mi.dS g j q).imp (hs g) id, fun v hv g e => (h.mi.ins v hv g e).imp (hs g) id⟩, h.n4, h.len, h.i5, h.i6⟩
structure Mz (w w' : World) (v : Value) (n : Nat) (Z : Nat → Int) : Prop where
 sl : ∃ g cp, v = .slice (some ⟨g, 0, none⟩) n cp ∧ w.heap.size ≤ g
 own : w'.ownsRow w.heap.size 5 1 v n (cellsOf Z n)
 bd : ∀ i, 0 ≤ Z i ∧ Z i ≤ 255
 bel : Below w.heap.size w w'
theorem mz_of {w w' : World} {g n cp : Nat} {xs : List Value} {Z : Nat → Int} (ho : w'.ownsRow w.heap.size 5 1 (.slice (some ⟨g, 0, none⟩) n cp) n xs) (hx : xs = cellsOf Z n) (hz : ∀ i, 0 ≤ Z i ∧ Z i ≤ 255) (hb : Below w.heap.size w w') : Mz w w' (.slice (some ⟨g, 0, none⟩) n cp) n Z :=
 ⟨⟨g, cp, rfl, (ho.lt g rfl).1⟩, hx ▸ ho, hz, hb⟩
theorem mz_made {w w' : World} {e : Ending} {n : Nat} {xs : List Value} {Z : Nat → Int} (h : Made w w' e n xs) (hx : xs = cellsOf Z n) (hz : ∀ i, 0 ≤ Z i ∧ Z i ≤ 255) : ∃ v, e = .returned v ∧ Mz w w' v n Z := by
 obtain ⟨g, cp, rfl, ho, hb⟩ := h
 exact ⟨_, rfl, mz_of ho hx hz hb⟩
theorem Mz.came {w w' : World} {g n cp : Nat} {Z : Nat → Int} (h : Mz w w' (.slice (some ⟨g, 0, none⟩) n cp) n Z) : Came w' (some ⟨g, 0, none⟩) n cp Z := made_came (w := w) h.own h.bd
def cl (n : Int) : Int := if n < 0 then 0 else if 268435455 < n then 268435455 else n
theorem cl_bd (n : Int) : 0 ≤ cl n ∧ cl n ≤ 268435455 := by unfold cl; split <;> (try split) <;> omega
section
variable (a0 : Option Addr) (l0 k0 : Nat) (z0 : Nat → Int) (w : World) (h0 : Came w a0 l0 k0 z0) (hl0 : l0 ≤ 1300000)
include h0 hl0
end
theorem rz_number (n : Int) (w : World) : Calls Tryz.prog 163 #[.int .i64 n] w fun e w' => ∃ v, e = .returned v ∧ Mz w w' v 2 (numZ n) :=
 (rnumber_made n w).mono fun e w' h => mz_made h rfl (numZ_bd n)
theorem rz_groups (n : Int) (w : World) : Calls Tryz.prog 101 #[.int .i64 n] w fun e w' => ∃ v, e = .returned v ∧ Mz w w' v (kn (cl n)) (glZ (cl n)) := by
 have key : Calls Tryz.prog 101 #[.int .i64 n] w fun e w' => Made w w' e (kn (cl n)) (cellsOf (glZ (cl n)) (kn (cl n))) := by
  by_cases h1 : n < 0
  ·
   exact rgroups_low n h1 (cl n) (by simp [cl, h1]) w
  ·
   by_cases h2 : 268435455 < n
   ·
    exact rgroups_high n h2 (cl n) (by simp [cl, h1, h2]) w
   ·
    exact rgroups_in n (by omega) (by omega) (cl n) (by simp [cl, h1, h2]) w
 exact key.mono fun e w' h => mz_made h rfl (glZ_bd _ (cl_bd n).1 (cl_bd n).2)
theorem rz_words (s : ByteArray) (w : World) (hs : s.size ≤ 65535) (hc : (chk s).2 = 0) : Calls Tryz.prog 244 #[.string s] w fun e w' => ∃ v, e = .returned (.tuple #[v, .int .i64 0]) ∧ Mz w w' v (2 + s.size) (cat (numZ s.size) 2 (sZ s)) := by
 refine (words_ok s w hc hs).mono ?_
 rintro e w' ⟨g, cp, rfl, ho, hb⟩
 exact ⟨_, rfl, mz_of ho (by rw [strCells_sZ, cells_cat]) (cat_bd (numZ_bd _) (sZ_bd s)) hb⟩
def Ob (bb : Nat) (rv : Nat → Value) (xs : Nat → List Value) (k : Nat) : Prop := k = bb ∨ (∃ i, i < 8 ∧ (rv i).ownBlock = some k) ∨ ∃ v ∈ xs 2, v.ownBlock = some k
theorem Bo.tight {w0 w : World} {bb B : Nat} {S : Nat → Prop} {D : Nat → Nat → Prop} {cs : Array Value} {rv : Nat → Value} {xs : Nat → List Value} {t deep seen : Int} (h : Bo w0 w bb B S D cs rv xs t deep seen) (T : Nat → Prop) (hT : ∀ g j, D g j → T g) : Bo w w bb B (fun k => Ob bb rv xs k ∨ T k) D cs rv xs t deep seen :=
 ⟨⟨h.bq.br, h.bq.hd, Ch.refl _ _, .inl (.inl rfl), fun i hi k e => .inl (.inl (.inr (.inl ⟨i, hi, e⟩)))⟩, ⟨h.mi.dk, h.mi.pd, h.mi.ps, h.mi.wl, h.mi.wt, h.mi.rt, h.mi.fr, fun g j q => .inl (.inr (hT g j q)), fun v hv g e => by
  rcases hv with q | q | q
  ·
   exact .inl (.inl (.inr (.inr ⟨v, q, e⟩)))
  ·
   cases q
  ·
   cases q⟩, h.n4, h.len, h.i5, h.i6⟩
theorem Bo.loose {w0 w w' : World} {bb B : Nat} {S S' : Nat → Prop} {D : Nat → Nat → Prop} {cs : Array Value} {rv : Nat → Value} {xs : Nat → List Value} {t deep seen : Int} (h : Bo w w' bb B S' D cs rv xs t deep seen) (hc : Ch S w0 w) (hs : S bb) (h2 : ∀ k, S' k → S k ∨ w0.heap.size ≤ k) : Bo w0 w' bb B S D cs rv xs t deep seen :=
 have big : ∀ k, S' k ∨ w.heap.size ≤ k → S k ∨ w0.heap.size ≤ k := fun k q => by
  rcases q with q | q
  ·
   exact h2 k q
  ·
   exact .inr (Nat.le_trans hc.size q)
 ⟨⟨h.bq.br, h.bq.hd, Ch.trans hc h.bq.ch (fun j hj q => by rcases h2 j q with q | q; exact q; omega), hs, fun i hi k e => big k (h.bq.ins i hi k e)⟩, ⟨h.mi.dk, h.mi.pd, h.mi.ps, h.mi.wl, h.mi.wt, h.mi.rt, h.mi.fr, fun g j q => big g (h.mi.dS g j q), fun v hv g e => big g (h.mi.ins v hv g e)⟩, h.n4, h.len, h.i5, h.i6⟩
theorem book_step (bb B : Nat) (S : Nat → Prop) (D : Nat → Nat → Prop) (cs : Array Value) (rv : Nat → Value) (xs : Nat → List Value) (t seen : Nat) (va : Option Addr) (n vc : Nat) (L : List Value) (mark : Int) (w0 w : World)
    (h : Bo w0 w bb B S D cs rv xs t 0 seen) (hB : B ≤ w0.heap.size) (hl : (xs 0).length + 2 * (xs 2).length ≤ 700000) (ht : t ≤ 100000) (hsn : seen ≤ 100000) (ho : w.ownsRow B 5 1 (.slice va n vc) n L) (hb : ∀ u ∈ L, Bv u) (hn : n ≤ 1900000)
    (hoff : ∀ g, (Value.slice va n vc).ownBlock = some g → ¬ Ob bb rv xs g ∧ (∀ j, ¬ D g j) ∧ (S g ∨ w0.heap.size ≤ g)) :
    Calls Tryz.prog 53 #[.pointer (some ⟨bb, 0, none⟩), .slice va n vc, .int .i64 mark] w fun e w' => e = .returned (.tuple #[]) ∧ ∃ D' cs' rv' xs', Bo w0 w' bb B S D' cs' rv' xs' (t + 1 : Nat) 0 (seen + 1 : Nat) ∧ (∀ g j, D g j → D' g j) ∧ (xs' 2).length ≤ (xs 2).length + 1 ∧ (xs' 0).length ≤ (xs 0).length + 2 * (xs 2).length + 2 ∧ (xs' 0).length + 2 * (xs' 2).length ≤ (xs 0).length + 2 * (xs 2).length + 2 ∧
      Ch (fun k => Ob bb rv xs k ∨ (Value.slice va n vc).ownBlock = some k ∨ ∃ j, D k j) w w' ∧ ∀ k, (Ob bb rv' xs' k ∨ ∃ j, D' k j) → (Ob bb rv xs k ∨ (Value.slice va n vc).ownBlock = some k ∨ ∃ j, D k j) ∨ w.heap.size ≤ k := by
  refine (book_bytes bb B _ D cs rv xs t seen va n vc L mark w w (h.tight (fun k => (Value.slice va n vc).ownBlock = some k ∨ ∃ j, D k j) (fun g j q => .inr ⟨j, q⟩)) (Nat.le_trans hB h.bq.ch.size) hl ht hsn ho hb hn (fun g e => (hoff g e).2.1) (fun u hu k e q => (hoff k q).1 (.inr (.inr ⟨u, hu, e⟩))) (fun g e => .inl (.inr (.inl e)))).mono ?_
  rintro e w' ⟨rfl, D', cs', rv', xs', hb', r1, r2, r3, r4⟩
  refine ⟨rfl, D', cs', rv', xs', hb'.loose h.bq.ch h.bq.sb (fun k q => ?_), r1, r2, r3, r4, hb'.bq.ch, fun k q => ?_⟩
  · rcases q with (rfl | ⟨i, hi, e⟩ | ⟨v, hv, e⟩) | e | ⟨j, e⟩
    · exact .inl h.bq.sb
    · exact h.bq.ins i hi k e
    · exact h.mi.ins v (.inl hv) k e
    · exact (hoff k e).2.2
    · exact h.mi.dS k j e
  · rcases q with (rfl | ⟨i, hi, e⟩ | ⟨v, hv, e⟩) | ⟨j, e⟩
    · exact .inl (.inl (.inl rfl))
    · exact hb'.bq.ins i hi k e
    · exact hb'.mi.ins v (.inl hv) k e
    · exact hb'.mi.dS k j e
theorem cell_alike {w w' : World} {g k : Nat} (h : w'.heap[g]? = w.heap[g]?) : w'.cell? ⟨g, k, none⟩ = w.cell? ⟨g, k, none⟩ := by
 unfold World.cell?
 simp only [h]
def Bk (w : World) (bb N : Nat) (U : Nat → Prop) : Prop := ∃ D cs rv xs, Bo w w bb 0 U D cs rv xs (N : Nat) 0 (N : Nat) ∧ (∀ k, U k ↔ Ob bb rv xs k ∨ ∃ j, D k j) ∧ (xs 0).length + 2 * (xs 2).length ≤ 2 * N ∧ True
theorem Bk.lt {w : World} {bb N : Nat} {U : Nat → Prop} (h : Bk w bb N U) {k : Nat} (hk : U k) : k < w.heap.size := by
 obtain ⟨D, cs, rv, xs, h1, h2, h3, h4⟩ := h
 rcases (h2 k).1 hk with (rfl | ⟨i, hi, e⟩ | ⟨v, hv, e⟩) | ⟨j, e⟩
 ·
  exact lt_of_block h1.bq.br.at_
 ·
  exact ((h1.bq.br.own i hi).lt k e).2
 ·
  obtain ⟨i, hi, rfl⟩ := List.mem_iff_getElem.1 hv
  have hl := h1.len.1
  obtain ⟨n, L, b, c, _, ho, _⟩ := (h1.mi.rt i _ ((xs 3)[i]'(by omega)) (Nat.zero_le _) (List.getElem?_eq_getElem hi) (List.getElem?_eq_getElem (by omega))).ex
  exact (ho.lt k e).2
 ·
  obtain ⟨c, hc⟩ := h1.mi.dk.typ k j e
  exact lt_of_block hc
theorem Bk.keep {w w' : World} {bb N : Nat} {U : Nat → Prop} (h : Bk w bb N U) (hk : ∀ k, U k → w'.heap[k]? = w.heap[k]?) : Bk w' bb N U := by
 obtain ⟨D, cs, rv, xs, h1, h2, h3, h4⟩ := h
 have kO : ∀ k, Ob bb rv xs k → w'.heap[k]? = w.heap[k]? := fun k q => hk k ((h2 k).2 (.inl q))
 have kD : ∀ g j, D g j → w'.heap[g]? = w.heap[g]? := fun g j q => hk g ((h2 g).2 (.inr ⟨j, q⟩))
 have kk : Keeps D w w' := fun g j q => cell_alike (kD g j q)
 refine ⟨D, cs, rv, xs, ⟨⟨h1.bq.br.keep (kO bb (.inl rfl)) (fun i hi k e => kO k (.inr (.inl ⟨i, hi, e⟩))), h1.bq.hd, Ch.refl _ _, h1.bq.sb, fun i hi k e => .inl ((h2 k).2 (.inl (.inr (.inl ⟨i, hi, e⟩))))⟩, ⟨⟨fun g j q => ?_⟩, h1.mi.pd.keep kk (fun _ _ q => q), h1.mi.ps, h1.mi.wl, fun i v vn e => ?_, fun i v vn hi e1 e2 => ?_, fun i v e => ?_, fun g j q => .inl ((h2 g).2 (.inr ⟨j, q⟩)), fun v hv g e => ?_⟩, h1.n4, h1.len, h1.i5, h1.i6⟩, h2, h3, h4⟩
 ·
  obtain ⟨c, hc⟩ := h1.mi.dk.typ g j q
  exact ⟨c, (kD g j q).trans hc⟩
 ·
  simp at e
 ·
  exact (h1.mi.rt i v vn hi e1 e2).keep (fun k e => kO k (.inr (.inr ⟨v, List.mem_of_getElem? e1, e⟩))) kk (fun _ _ q => q) (fun _ _ _ q => q)
 ·
  simp at e
 ·
  rcases hv with q | q | q
  ·
   exact .inl ((h2 g).2 (.inl (.inr (.inr ⟨v, q, e⟩))))
  ·
   cases q
  ·
   cases q
theorem bk_start {w : World} {bb : Nat} {cs : Array Value} (hat : BkAt w bb cs) (hd : Hd cs 0 0 0) (hr : ∀ i, i < 8 → cs[4 + i]? = some (.slice none 0 0)) : Bk w bb 0 (fun k => k = bb) := by
 refine ⟨_, cs, _, _, bo_start hat hd hr _ rfl, fun k => ?_, by simp, by simp⟩
 constructor
 ·
  exact fun q => .inl (.inl q)
 ·
  rintro ((q | ⟨i, _, e⟩ | ⟨v, hv, _⟩) | ⟨j, q⟩)
  ·
   exact q
  ·
   simp [Value.ownBlock] at e
  ·
   cases hv
  ·
   exact q.elim
theorem bk_step {w : World} {bb N : Nat} {U : Nat → Prop} (h : Bk w bb N U) (hN : N ≤ 90000) (va : Option Addr) (n vc : Nat) (L : List Value) (mark : Int) (ho : w.ownsRow 0 5 1 (.slice va n vc) n L) (hb : ∀ u ∈ L, Bv u) (hn : n ≤ 1900000) (hoff : ∀ g, (Value.slice va n vc).ownBlock = some g → ¬ U g) :
    Calls Tryz.prog 53 #[.pointer (some ⟨bb, 0, none⟩), .slice va n vc, .int .i64 mark] w fun e w' => e = .returned (.tuple #[]) ∧ ∃ U', Bk w' bb (N + 1) U' ∧ Ch (fun k => U k ∨ (Value.slice va n vc).ownBlock = some k) w w' ∧ ∀ k, U' k → (U k ∨ (Value.slice va n vc).ownBlock = some k) ∨ w.heap.size ≤ k := by
  obtain ⟨D, cs, rv, xs, h1, h2, h3, h4⟩ := h
  refine (book_step bb 0 (fun k => U k ∨ (Value.slice va n vc).ownBlock = some k) D cs rv xs N N va n vc L mark w w (h1.more (fun k q => .inl q)) (Nat.zero_le _) (by omega) (by omega) (by omega) ho hb hn (fun g e => ⟨fun q => hoff g e ((h2 g).2 (.inl q)), fun j q => hoff g e ((h2 g).2 (.inr ⟨j, q⟩)), .inl (.inr e)⟩)).mono ?_
  rintro e w' ⟨rfl, D', cs', rv', xs', q1, q2, q3, q4, q4', q5, q6⟩
  have back : ∀ k, (Ob bb rv xs k ∨ (Value.slice va n vc).ownBlock = some k ∨ ∃ j, D k j) → U k ∨ (Value.slice va n vc).ownBlock = some k := fun k q => by
    rcases q with q | q | q
    · exact .inl ((h2 k).2 (.inl q))
    · exact .inr q
    · exact .inl ((h2 k).2 (.inr q))
  refine ⟨rfl, fun k => Ob bb rv' xs' k ∨ ∃ j, D' k j, ⟨D', cs', rv', xs', q1.tight (fun k => ∃ j, D' k j) (fun g j q => ⟨j, q⟩), fun k => Iff.rfl, by omega, trivial⟩, q5.mono (fun j _ q => back j q), fun k q => ?_⟩
  rcases q6 k q with q | q
  · exact .inl (back k q)
  · exact .inr q
theorem bk_hold {w : World} {bb N : Nat} {U : Nat → Prop} (h : Bk w bb N U) (hN : N ≤ 90000) : Calls Tryz.prog 17 #[.pointer (some ⟨bb, 0, none⟩)] w fun e w1 => e = .returned (.bool true) ∧ Below w.heap.size w w1 := by
 obtain ⟨D, cs, rv, xs, h1, h2, h3, h4⟩ := h
 exact hold_bo h1 (by omega) (by omega)
noncomputable def bk0 : Array Value := (Tryz.prog.built 55 []).getD #[]
theorem bk0_some : (Tryz.prog.built 55 []).isSome = true := by kernel_rfl
theorem wp_build0 {o : Oper} {a : Act} {w : World} {K : Act → World → Prop} {Q : Exit → Act → World → Prop} (ho : o.op = .build 55 #[]) (h : K (a.put o.dst (.agg bk0)) w) : o.wp Tryz.prog a w K Q := by
 have e : (Array.map (fun (x : Nat × Operand) => match x with | (i, x) => (i, a.eval x)) #[]).toList = [] := by simp
 refine wp_build 55 #[] ho ?_ ?_
 ·
  rw [e]
  exact bk0_some
 ·
  rw [e]
  exact h
end Go.Proofs.YtphofgnehdlafaaGreatDoor.Bk
