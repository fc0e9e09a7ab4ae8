import Derived.Test.YtmihpmmkkklpfaaGreatDoorBRb
import Derived.Test.YtmihpmmkkklpfaaGreatDoorBRc
import Derived.Deep.DeepCutAuto
import Derived.Deep.RegionHeld
import Derived.Deep.MidRow
namespace Go.Proofs.YtmihpmmkkklpfaaGreatDoor
open Go Go.RowKit Go.Shelf Go.Maps Go.Sort
set_option linter.unusedSimpArgs false
set_option linter.unusedVariables false
/-! ### WindowLater -/
def pureVal (a : Act) (o : Oper) : Option Value :=
  match o.op with
  | .move x => some (a.eval x)
  | .assign x => some (a.eval x)
  | .pick c x y => match a.eval c with
    | .bool true => some (a.eval x)
    | .bool false => some (a.eval y)
    | _ => none
  | _ => none
theorem pureVal_run {P : Program} {a : Act} {o : Oper} {v : Value} (h : pureVal a o = some v) (w : World) : (execOp a.eval o).run P w = .ok (.value v) w := by
  unfold pureVal at h
  split at h
  · rename_i x hx
    cases h
    simp [execOp, hx]
  · rename_i x hx
    cases h
    simp [execOp, hx]
  · rename_i c x y hx
    split at h
    · rename_i hc
      cases h
      simp [execOp, hx, hc, asBool]
    · rename_i hc
      cases h
      simp [execOp, hx, hc, asBool]
    · cases h
  · cases h
theorem held_call {P : Program} {ops : Array Oper} {Q : Exit → Act → World → Prop} {o : Oper} {a : Act} {w : World} {K : Act → World → Prop} {E : Prop} (hw : Region.wanted o (yielded ops a.tmps) = true) (f : FuncId) (args : Array Value)
    (hr : (execOp a.eval o).run P w = .ok (.enter f args) w) {R : Value → World → Prop} (hc : Calls P f args w fun e w' => ∃ v, e = .returned v ∧ R v w') (hK : ∀ v w', R v w' → K (a.put o.dst v) w') :
    if Region.wanted o (yielded ops a.tmps) = true then Oper.wp P o a w K Q else E := by
  rw [if_pos hw]
  unfold Oper.wp
  rw [hr]
  simp only [Oper.upon]
  exact hc.mono fun e w' ⟨v, he, hv⟩ => by subst he; exact hK v w' hv
theorem yields_mid51 {o : Oper} {a : Act} {x : Operand} {g off : Nat} {cs : Array Value} {w : World} (ho : o.op = .load 66 x) (hx : a.eval x = .pointer (some ⟨g, off, none⟩)) (hg : w.rangeAt g off cs.toList ∧ cs.size = 25) :
    (execOp a.eval o).run Tryz.prog w = .ok (.value (.agg cs)) w := by
  have hl : (loadVar 66 ⟨g, off, none⟩).run Tryz.prog w = .ok (.agg cs.toList.toArray) w := run_loadVar_mid w g off 66 cs.toList _ hg.1 Tryz.underlying66 rfl (by rw [Array.length_toList, hg.2]; kernel_rfl)
  rw [Array.toArray_toList] at hl
  unfold execOp
  simp only [ho, hx, Instr.loadAt, Instr.sureAddr, Sem.run_bind, Sem.run_pure, Result.andThen_ok, hl]
theorem prow_range {w : World} {B k : Nat} {v : Value} {S : List Pq} (h : w.ownsRow B 66 25 v k (prow S)) {j : Nat} (hj : j < k) (hl : j < S.length) : ∃ g c, v = .slice (some ⟨g, 0, none⟩) k c ∧ w.rangeAt g (j * 25) (S[j].cs).toList ∧ (S[j].cs).size = 25 := by
  obtain ⟨g, c, h1, h2⟩ := prow_cell h hj hl
  refine ⟨g, c, h1, fun i u hu => ?_, rfl⟩
  have hi : i < 25 := by have := (List.getElem?_eq_some_iff.1 hu).1; simpa [Pq.cs, pkc] using this
  rw [h2 i hi]
  simpa using hu
theorem Lst.sl {W : World} {v : Value} {X : List Pp} (h : Lst W v X) : ∃ a c, v = .slice a X.length c := by
  obtain ⟨S, h1, _, h3⟩ := h
  obtain ⟨a, c, rfl⟩ := own_sl h1
  exact ⟨a, c, by rw [← h3, List.length_map]⟩
/-- What a list of packets gives at a place. -/
theorem lst_same {w : World} {v v' : Value} {X : List Pp} (h : Lst w v X) (h' : Lst w v' X) {j : Nat} (hj : j < X.length) : ∃ (g g' : Nat) (c c' : Nat) (P P' : Array Value), v = .slice (some ⟨g, 0, none⟩) X.length c ∧ v' = .slice (some ⟨g', 0, none⟩) X.length c' ∧ (∀ wq, Below w.heap.size w wq → wq.rangeAt g (j * 25) P.toList ∧ P.size = 25) ∧ (∀ wq, Below w.heap.size w wq → wq.rangeAt g' (j * 25) P'.toList ∧ P'.size = 25) ∧ ∀ wq, Below w.heap.size w wq → Calls Tryz.prog 42 #[.agg P, .agg P'] wq fun e w' => e = .returned (.bool true) ∧ Hid (Below w.heap.size w w') := by
  obtain ⟨S, h1, h2, h3⟩ := h
  obtain ⟨S', k1, k2, k3⟩ := h'
  have l1 : S.length = X.length := by rw [← h3, List.length_map]
  have l2 : S'.length = X.length := by rw [← k3, List.length_map]
  have j1 : j < S.length := by omega
  have j2 : j < S'.length := by omega
  obtain ⟨g, c, e1, -⟩ := prow_range h1 j1 j1
  obtain ⟨g', c', e2, -⟩ := prow_range k1 j2 j2
  have hp : (S[j]).p = (S'[j]).p := by
    have : (S.map Pq.p)[j]? = (S'.map Pq.p)[j]? := by rw [h3, k3]
    rw [List.getElem?_map, List.getElem?_map, List.getElem?_eq_getElem j1, List.getElem?_eq_getElem j2] at this
    simpa using this
  refine ⟨g, g', c, c', (S[j]).cs, (S'[j]).cs, by rw [← l1]; exact e1, by rw [← l2]; exact e2, fun wq hb => ?_, fun wq hb => ?_, fun wq hb => ?_⟩
  · obtain ⟨g1, c1, e3, hr⟩ := prow_range (own_below h1 hb) j1 j1
    rw [e3] at e1; injection e1 with q1 q2 q3; injection q1 with q1; injection q1 with q1; subst q1; exact hr
  · obtain ⟨g1, c1, e3, hr⟩ := prow_range (own_below k1 hb) j2 j2
    rw [e3] at e2; injection e2 with q1 q2 q3; injection q1 with q1; injection q1 with q1; subst q1; exact hr
  · have p1 := (h2 _ (List.getElem_mem j1)).i.below hb
    have p2 := (k2 _ (List.getElem_mem j2)).i.below hb
    obtain ⟨f, hf⟩ : ∃ f, f = S[j] := ⟨_, rfl⟩
    obtain ⟨f', hf'⟩ : ∃ f, f = S'[j] := ⟨_, rfl⟩
    rw [← hf] at p1 hp ⊢
    rw [← hf'] at p2 hp ⊢
    obtain ⟨kd, dp, id, ⟨t, pv, q, r, xs⟩⟩ := f
    obtain ⟨kd', dp', id', ⟨t', pv', q', r', xs'⟩⟩ := f'
    simp only [Pq.p, Ms.p, Pp.mk.injEq, Mp.mk.injEq] at hp
    obtain ⟨rfl, rfl, rfl, rfl, rfl, rfl, rfl⟩ := hp
    refine (rsame_eq kd dp t q r id p1 p2).mono ?_
    rintro e w' ⟨rfl, hb'⟩
    exact ⟨rfl, hb.trans (hb'.mono hb.size)⟩
end Go.Proofs.YtmihpmmkkklpfaaGreatDoor
