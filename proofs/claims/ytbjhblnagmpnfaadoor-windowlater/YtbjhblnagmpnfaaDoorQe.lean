import Derived.Test.YtbjhblnagmpnfaaDoorQd
namespace Go.Proofs.YtbjhblnagmpnfaaDoor
open Go Go.RowKit Go.Shelf Go.Maps Go.Sort
set_option linter.unusedSimpArgs false
set_option linter.unusedVariables false
/-! ### What WindowOnce has in memory -/
def F5 (F : Nat → Prop) (W : World) (j : Nat) : Prop := F j ∨ ∃ (cs : Array Value) (fz : Nat × Nat), W.heap[j]? = some (Obj.cells cs 5 fz)
theorem KS.add5 {F : Nat → Prop} {W : World} {wb : Nat} {p : Pw} {c : Nat} (h : KS F W wb p c) : KS (F5 F W) W wb p c := by
  obtain ⟨i, hw, e, hF⟩ := h.ex
  refine ⟨⟨i, hw, e, fun j hj => ?_⟩, h.gd⟩
  rcases hj with q | ⟨cs, fz, q⟩
  · exact hF j q
  · exact ⟨(Array.getElem?_eq_some_iff.1 q).1, hw.other q ⟨cs, 5, fz, rfl, by decide, by decide, by decide⟩⟩
theorem Fr.kb5 {F : Nat → Prop} {W W' : World} (r : Fr (F5 F W) W W') : Kb W W' := fun b cs fz hb => (r.at (.inr ⟨cs, fz, hb⟩) (Array.getElem?_eq_some_iff.1 hb).1).trans hb
theorem KS.swap {F F' S : Nat → Prop} {W W' : World} {wb : Nat} {p : Pw} {c : Nat} (h : KS F W wb p c) (hc : Ch S W W') (hs : ∀ j, S j → F j) (h5 : Kb W W') (h0 : ¬ S 0) (hF' : ∀ j, F' j → F j ∨ (W.heap.size ≤ j ∧ j < W'.heap.size)) : KS F' W' wb p c := by
  obtain ⟨i, hw, e, hF⟩ := (h.write hc hs h5 h0).ex
  obtain ⟨i0, hw0, e0, hF0⟩ := h.ex
  obtain ⟨o, ho, hO⟩ := h.gd.oth
  have he : W'.heap[0]? = W.heap[0]? := hc.block 0 (Array.getElem?_eq_some_iff.1 ho).1 h0
  refine ⟨⟨i0, hw0.keep hc (fun j hj q => (hF0 j (hs j q)).2 hj) h5, e0, fun j hj => ?_⟩, ⟨fun j hj => (cell_heap (by exact he)).trans (h.gd.tab j hj), o, he.trans ho, hO⟩⟩
  rcases hF' j hj with q | ⟨q1, q2⟩
  · exact ⟨Nat.lt_of_lt_of_le (hF0 j q).1 hc.size, (hF0 j q).2⟩
  · exact ⟨q2, fun z => by have := hw0.lt z; omega⟩
def FO (w0 : World) (sbx : Nat) (tv sv : Value) (j : Nat) : Prop := j < w0.heap.size ∨ j = sbx ∨ tv.ownBlock = some j ∨ sv.ownBlock = some j
structure OW (w0 W : World) (wb sbx : Nat) (p : Pw) (c : Nat) (tv sv : Value) (MT MS : List Ms) : Prop where
  ks : KS (FO w0 sbx tv sv) W wb p c
  box : W.heap[sbx]? = some (.cells #[sv] 39 (0, 0))
  sb0 : w0.heap.size ≤ sbx
  w00 : 0 < w0.heap.size
  tk : W.ownsRow w0.heap.size 30 4 tv MT.length (mrow MT)
  st : W.ownsRow w0.heap.size 30 4 sv MS.length (mrow MS)
  apt : ∀ j, tv.ownBlock = some j → sv.ownBlock ≠ some j
  pt : ∀ m ∈ MT, PBi w0 m.v m.xs
  ps : ∀ m ∈ MS, PB W m.v m.xs
  bel : Below w0.heap.size w0 W
  fu : Full p
structure OS (w0 W : World) (wb sbx : Nat) (p : Pw) (c : Nat) (tv sv : Value) (MT MS : List Ms) (Y : List Mp) : Prop extends OW w0 W wb sbx p c tv sv MT MS where
  inv : MT.map Ms.p = MS.map Ms.p ++ Y ++ p.wt
  fln : p.fl.length ≤ MS.length + Y.length
theorem row_ge {w : World} {B e s n : Nat} {v : Value} {xs : List Value} (h : w.ownsRow B e s v n xs) {g : Nat} (hg : v.ownBlock = some g) : B ≤ g := by
  rcases h.2 with ⟨rfl, _⟩ | ⟨g', cap, cur, rfl, q, _⟩
  · simp [Value.ownBlock] at hg
  · simp [Value.ownBlock] at hg
    omega
theorem row_base {w : World} {B B' e s n : Nat} {v : Value} {xs : List Value} (h : w.ownsRow B e s v n xs) (hb : ∀ g, v.ownBlock = some g → B' ≤ g) : w.ownsRow B' e s v n xs :=
  ⟨h.1, h.2.elim .inl (fun ⟨g, cap, cur, a, b, c⟩ => .inr ⟨g, cap, cur, a, hb g (by rw [a]; rfl), c⟩)⟩
section
variable {w0 W W' : World} {wb sbx : Nat} {p p' : Pw} {c c' : Nat} {tv sv : Value} {MT MS : List Ms} {Y Y' : List Mp}
/-- A call of the window. -/
theorem OW.to (h : OW w0 W wb sbx p c tv sv MT MS) (k : KS (F5 (FO w0 sbx tv sv) W) W' wb p' c') (r : Fr (F5 (FO w0 sbx tv sv) W) W W') (hf : Full p') : OW w0 W' wb sbx p' c' tv sv MT MS where
  ks := k.less (fun j hj => .inl hj)
  box := (r.at (.inl (.inr (.inl rfl))) (Array.getElem?_eq_some_iff.1 h.box).1).trans h.box
  sb0 := h.sb0
  w00 := h.w00
  tk := own_ch h.tk r (fun g hg q => q (.inl (.inr (.inr (.inl hg)))))
  st := own_ch h.st r (fun g hg q => q (.inl (.inr (.inr (.inr hg)))))
  apt := h.apt
  pt := h.pt
  ps := fun m hm => (h.ps m hm).keep r.kb5
  bel := ⟨r.os.trans h.bel.os, r.tape.trans h.bel.tape, r.output.trans h.bel.output, Nat.le_trans h.bel.size r.size, fun j hj => (r.at (.inl (.inl hj)) (Nat.lt_of_lt_of_le hj h.bel.size)).trans (h.bel.block j hj)⟩
  fu := hf
theorem OS.to (h : OS w0 W wb sbx p c tv sv MT MS Y) (k : KS (F5 (FO w0 sbx tv sv) W) W' wb p' c') (r : Fr (F5 (FO w0 sbx tv sv) W) W W') (hf : Full p') (hi : MT.map Ms.p = MS.map Ms.p ++ Y' ++ p'.wt) (hl : p'.fl.length ≤ MS.length + Y'.length) : OS w0 W' wb sbx p' c' tv sv MT MS Y' := { h.toOW.to k r hf with inv := hi, fln := hl }
theorem OW.below (h : OW w0 W wb sbx p c tv sv MT MS) (hb : Below W.heap.size W W') : OW w0 W' wb sbx p c tv sv MT MS := h.to (h.ks.add5.below hb) (Fr.below hb) h.fu
theorem OS.below (h : OS w0 W wb sbx p c tv sv MT MS Y) (hb : Below W.heap.size W W') : OS w0 W' wb sbx p c tv sv MT MS Y :=
  h.to (h.ks.add5.below hb) (Fr.below hb) h.fu h.inv h.fln
/-- What was sent is heard. -/
theorem OS.heard {lv : Value} {S : List Pq} (h : OS w0 W wb sbx p c tv sv MT MS (msgsOf (S.map Pq.p))) (H : HeI W W' sbx sv lv MS S) (hp : ∀ q ∈ S, PB W q.m.v q.m.xs) : OS w0 W' wb sbx p c tv lv MT (MS ++ newMs S) [] := by
  have hsv5 : ∀ g, sv.ownBlock = some g → ∃ cur, W.heap[g]? = some (.cells cur 30 (0, 0)) := fun g hg => own_lt h.st hg
  have hkb : Kb W W' := Kb.ch H.ch (fun j hj cs fz q => by
    rcases hj with z | z
    · rw [z, h.box] at q; simp at q
    · obtain ⟨cur, e⟩ := hsv5 j z; rw [e] at q; simp at q)
  have hlg : ∀ g, lv.ownBlock = some g → w0.heap.size ≤ g := fun g hg => by
    rcases H.nb g hg with z | z
    · exact row_ge h.st z
    · exact Nat.le_trans h.bel.size z
  have htn : ∀ g, tv.ownBlock = some g → ¬ (g = sbx ∨ sv.ownBlock = some g) := fun g hg q => by
    rcases q with z | z
    · obtain ⟨cur, e⟩ := own_lt h.tk hg; rw [z, h.box] at e; simp at e
    · exact h.apt g hg z
  refine { ks := h.ks.swap H.ch ?_ hkb ?_ ?_, box := H.box, sb0 := h.sb0, w00 := h.w00, tk := own_ch h.tk H.ch htn, st := row_base H.own hlg, apt := ?_, pt := h.pt, ps := ?_, bel := ?_, fu := h.fu, inv := ?_, fln := ?_ }
  · intro j hj
    rcases hj with z | z
    · exact .inr (.inl z)
    · exact .inr (.inr (.inr z))
  · rintro (z | z)
    · have := h.sb0; have := h.w00; omega
    · have := row_ge h.st z; have := h.w00; omega
  · intro j hj
    rcases hj with z | z | z | z
    · exact .inl (.inl z)
    · exact .inl (.inr (.inl z))
    · exact .inl (.inr (.inr (.inl z)))
    · rcases H.nb j z with y | y
      · exact .inl (.inr (.inr (.inr y)))
      · obtain ⟨cur, e⟩ := own_lt H.own z
        exact .inr ⟨y, (Array.getElem?_eq_some_iff.1 e).1⟩
  · intro j hj z
    rcases H.nb j z with y | y
    · exact h.apt j hj y
    · obtain ⟨cur, e⟩ := own_lt h.tk hj
      have := (Array.getElem?_eq_some_iff.1 e).1
      omega
  · intro m hm
    rcases List.mem_append.1 hm with z | z
    · exact (h.ps m z).keep hkb
    · obtain ⟨q, hq, rfl⟩ := List.mem_map.1 z
      exact (hp q (List.mem_filter.1 hq).1).keep hkb
  · exact ⟨H.ch.os.trans h.bel.os, H.ch.tape.trans h.bel.tape, H.ch.output.trans h.bel.output, Nat.le_trans h.bel.size H.ch.size, fun j hj => (H.ch.block j (Nat.lt_of_lt_of_le hj h.bel.size) (fun z => by
      rcases z with z | z
      · have := h.sb0; omega
      · have := row_ge h.st z; omega)).trans (h.bel.block j hj)⟩
  · rw [h.inv, List.map_append, newMs_p]
    simp
  · have := h.fln
    rw [List.length_append, show (newMs S).length = (msgsOf (S.map Pq.p)).length by rw [← newMs_p, List.length_map]]
    simpa using this
/-- What was taken is laid down. -/
theorem OW.take (h : OW w0 W wb sbx p c tv sv MT MS) (m : Ms) (hm : PBi w0 m.v m.xs) (hl : MT.length ≤ 1000000) (hi : MT.map Ms.p ++ [m.p] = MS.map Ms.p ++ Y' ++ p.wt) (hf : p.fl.length ≤ MS.length + Y'.length) :
    ∃ g' cap' w2, (Builtin.append_ #[39, 39] 39 #[tv, .slice (some ⟨W.heap.size, 0, none⟩) 1 1]).run Tryd.prog (W.alloc (.cells #[.string m.t, m.v, .int .i64 m.q, .bool m.r] 30)) = .ok (.slice (some ⟨g', 0, none⟩) (MT.length + 1) cap') w2 ∧ OS w0 w2 wb sbx p c (.slice (some ⟨g', 0, none⟩) (MT.length + 1) cap') sv (MT ++ [m]) MS Y' ∧ Ch (fun j => tv.ownBlock = some j) W w2 := by
  obtain ⟨pa, pk, pc, hv⟩ := hm.sl
  obtain ⟨g', cap', w2, k1, k2, k3, k4⟩ := app_gen (w := W) (st := 39) (e := 30) (cs := #[.string m.t, m.v, .int .i64 m.q, .bool m.r]) Tryd.underlying39 info30 rfl (by omega) (by omega) (own0 h.tk) rfl (by rw [hv]; simp [Value.oneCell']) hl
  have hkb : Kb W w2 := Kb.ch k3 (fun j hj cs fz q => by obtain ⟨cur, e⟩ := own_lt h.tk hj; rw [e] at q; simp at q)
  have htb : ¬ tv.ownBlock = some sbx := fun z => by obtain ⟨cur, e⟩ := own_lt h.tk z; rw [h.box] at e; simp at e
  have hg0 : w0.heap.size ≤ g' := by
    rcases k4 with z | z
    · exact row_ge h.tk z
    · exact Nat.le_trans h.bel.size z
  refine ⟨g', cap', w2, k1, { ks := h.ks.swap k3 (fun j hj => .inr (.inr (.inl hj))) hkb ?_ ?_, box := (k3.block sbx (Array.getElem?_eq_some_iff.1 h.box).1 htb).trans h.box, sb0 := h.sb0, w00 := h.w00, tk := ?_, st := own_ch h.st k3 (fun g hg q => h.apt g q hg), apt := ?_, pt := ?_, ps := fun x hx => (h.ps x hx).keep hkb, bel := ?_, fu := h.fu, inv := ?_, fln := hf }, k3⟩
  · intro z
    have := row_ge h.tk z
    have := h.w00
    omega
  · intro j hj
    rcases hj with z | z | z | z
    · exact .inl (.inl z)
    · exact .inl (.inr (.inl z))
    · simp [Value.ownBlock] at z
      subst z
      rcases k4 with y | y
      · exact .inl (.inr (.inr (.inl y)))
      · obtain ⟨cur, e⟩ := own_lt k2 (g := g') rfl
        exact .inr ⟨y, (Array.getElem?_eq_some_iff.1 e).1⟩
    · exact .inl (.inr (.inr (.inr z)))
  · rw [mrow_snoc, List.length_append, List.length_singleton]
    exact row_base k2 (fun g hg => by simp [Value.ownBlock] at hg; subst hg; exact hg0)
  · intro j hj z
    simp [Value.ownBlock] at hj
    subst hj
    rcases k4 with y | y
    · exact h.apt _ y z
    · obtain ⟨cur, e⟩ := own_lt h.st z
      have := (Array.getElem?_eq_some_iff.1 e).1
      omega
  · intro x hx
    rcases List.mem_append.1 hx with z | z
    · exact h.pt x z
    · simp only [List.mem_singleton] at z
      subst z
      exact hm
  · exact ⟨k3.os.trans h.bel.os, k3.tape.trans h.bel.tape, k3.output.trans h.bel.output, Nat.le_trans h.bel.size k3.size, fun j hj => (k3.block j (Nat.lt_of_lt_of_le hj h.bel.size) (fun z => by have := row_ge h.tk z; omega)).trans (h.bel.block j hj)⟩
  · rw [List.map_append]
    exact hi
end
end Go.Proofs.YtbjhblnagmpnfaaDoor
