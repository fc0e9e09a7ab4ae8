import Derived.Test.YtkjeneklkdekoaaGreatDoorBld
import Derived.Deep.Cut
namespace Go.Proofs.YtkjeneklkdekoaaGreatDoor
open Go Go.RowKit
set_option linter.unusedSimpArgs false
set_option linter.unusedVariables false

theorem binfo5 : (Tryz.prog.info? 5).map (fun i => (i.zero, i.size, i.bytes)) = some (some (.int .u8 0), 1, 1) := by kernel_rfl
theorem own_empty {w : World} {b : Nat} (hb : w.heap[b]? = some (.cells #[] 5 (0, 0))) : w.ownsRow b 5 1 (.slice (some ⟨b, 0, none⟩) 0 0) 0 [] :=
  ⟨rfl, .inr ⟨b, 0, #[], rfl, Nat.le_refl _, hb, Nat.le_refl _, by unfold maxLen; omega, rfl, rfl⟩⟩
theorem run_append_none {P : Program} {w : World} (t ty e : TypeId) (i : TypeInfo) (ht : P.underlying t = some (.slice e)) (hi : P.info? e = some i) (b : Nat) (hb : w.heap[b]? = some (.cells #[] e (0, 0))) (a : Option Addr) (c : Nat) :
    (Builtin.append_ #[t, t] ty #[.slice (some ⟨b, 0, none⟩) 0 0, .slice a 0 c]).run P w = .ok (.slice (some ⟨b, 0, none⟩) 0 0) w := by
  cases a with
  | none => simp [Builtin.append_, run_underlying ht, sizeOf, typeInfo, hi, Builtin.lenOf, Builtin.firstCells, storeCells]
  | some a =>
    have hf := run_firstCells_some (P := P) w i.size 0 a 0 c [] (by simp) (by intro j v h; simp at h)
    simp [Builtin.append_, run_underlying ht, sizeOf, typeInfo, hi, Builtin.lenOf, hf, storeCells]
/-- What is known behind a copy. -/
structure Cp (w w' : World) (b n : Nat) (L : List Value) (v' : Value) : Prop where
  own : w'.ownsRow b 5 1 v' n L
  gr : w.grownBy w' (some b)
  wh : v'.ownBlock = some b ∨ v'.ownBlock = some w.heap.size
theorem copy_run {w : World} (ty : TypeId) (b : Nat) (hb : w.heap[b]? = some (.cells #[] 5 (0, 0))) (sa : Option Addr) (n c : Nat) (L : List Value) (hc : CL w sa n c L) (h1 : ∀ u ∈ L, u.oneCell' = true) (hn : n ≤ 1000000) :
    ∃ v' w', (Builtin.append_ #[22, 22] ty #[.slice (some ⟨b, 0, none⟩) 0 0, .slice sa n c]).run Tryz.prog w = .ok v' w' ∧ Cp w w' b n L v' := by
  obtain ⟨i0, hi, hz0, hz1, hz2⟩ := info_parts binfo5
  by_cases h0 : n = 0
  · subst h0
    have hL : L = [] := List.eq_nil_of_length_eq_zero hc.2.1
    subst hL
    exact ⟨_, w, run_append_none 22 ty 5 i0 Tryz.underlying22 hi b hb sa c, own_empty hb, World.grownBy.refl _ _, .inl rfl⟩
  · obtain ⟨g, off, e, hcell⟩ := hc.2.2.resolve_left h0
    subst e
    obtain ⟨v', w', hr, ho, hg, hne, hw⟩ := push_run (P := Tryz.prog) w b 22 ty 5 i0 (.int .u8 0) 1 1 Tryz.underlying22 hi hz0 hz1 hz2 rfl (by decide) _ 0 [] (own_empty hb) ⟨g, off, none⟩ n c L (by omega) (by rw [hc.2.1, Nat.mul_one]) (fun j u hu => by
      have hj : j < n := by have := (List.getElem?_eq_some_iff.1 hu).1; rw [hc.2.1] at this; exact this
      rw [plain_add, hcell j hj, hu]) h1 (by unfold maxLen; omega) (by omega) (Nat.le_of_lt (lt_of_block hb))
    refine ⟨v', w', hr, ?_, hg, hw⟩
    rw [Nat.zero_add, List.nil_append] at ho
    exact ho
theorem step_copy {w : World} {ops : Array Oper} {o : Oper} {a : Act} {K : Act → World → Prop} {Q : Exit → Act → World → Prop} {E : Prop} (hgd : o.guard = none) (s x : Operand) (ho : o.op = .call { callee := .builtin .append, args := #[s, x], argTypes := #[22, 22] })
    (b : Nat) (hs : a.eval s = .slice (some ⟨b, 0, none⟩) 0 0) (hb : w.heap[b]? = some (.cells #[] 5 (0, 0))) (sa : Option Addr) (n c : Nat) (L : List Value) (hx : a.eval x = .slice sa n c) (hc : CL w sa n c L) (h1 : ∀ u ∈ L, u.oneCell' = true) (hn : n ≤ 1000000)
    (k : ∀ v' w', Cp w w' b n L v' → K (a.put o.dst v') w') : if Region.wanted o (yielded ops a.tmps) = true then Oper.wp Tryz.prog o a w K Q else E := by
  have hw : Region.wanted o (yielded ops a.tmps) = true := by simp [Region.wanted, hgd]
  rw [if_pos hw]
  obtain ⟨v', w', hr, hcp⟩ := copy_run (w := w) o.type b hb sa n c L hc h1 hn
  unfold Oper.wp
  simp [execOp, ho, resolve, invoke, builtin, hs, hx, hr, Result.andThen]
  exact k v' w' hcp
theorem CL.below {w w' : World} {a : Option Addr} {l c : Nat} {L : List Value} (h : CL w a l c L) (hb : Below w.heap.size w w') : CL w' a l c L := by
  refine ⟨h.1, h.2.1, ?_⟩
  rcases h.2.2 with h0 | ⟨g, off, e, hc⟩
  · exact .inl h0
  · refine .inr ⟨g, off, e, fun j hj => ?_⟩
    have h1 := hc j hj
    have hj' : j < L.length := by rw [h.2.1]; exact hj
    rw [List.getElem?_eq_getElem hj'] at h1 ⊢
    exact cell_later hb h1
end Go.Proofs.YtkjeneklkdekoaaGreatDoor
namespace Go.Proofs.YtkjeneklkdekoaaGreatDoor
open Go Go.RowKit
set_option linter.unusedSimpArgs false
set_option linter.unusedVariables false

/-- The book's own cells. -/
structure Hd (cs : Array Value) (t deep seen : Int) : Prop where
  now : cs[0]? = some (.bool false)
  bad : cs[1]? = some (.bool false)
  turn : cs[2]? = some (.int .i64 t)
  dp : cs[3]? = some (.int .i64 deep)
  sn : cs[12]? = some (.int .i64 seen)
  rest : Rest cs
theorem Hd.row {cs : Array Value} {t deep seen : Int} (h : Hd cs t deep seen) (i : Nat) (hi : i < 8) (v : Value) : Hd (cs.setIfInBounds (4 + i) v) t deep seen := by
  refine ⟨?_, ?_, ?_, ?_, ?_, fun k hk hk' j hj => ?_⟩
  · rw [Array.getElem?_setIfInBounds_ne (by omega)]; exact h.now
  · rw [Array.getElem?_setIfInBounds_ne (by omega)]; exact h.bad
  · rw [Array.getElem?_setIfInBounds_ne (by omega)]; exact h.turn
  · rw [Array.getElem?_setIfInBounds_ne (by omega)]; exact h.dp
  · rw [Array.getElem?_setIfInBounds_ne (by omega)]; exact h.sn
  · rw [Array.getElem?_setIfInBounds_ne (by omega)]; exact h.rest k hk hk' j hj
theorem Hd.deep {cs : Array Value} {t deep seen : Int} (h : Hd cs t deep seen) (d : Int) : Hd (cs.setIfInBounds 3 (.int .i64 d)) t d seen := by
  have h3 : 3 < cs.size := (Array.getElem?_eq_some_iff.1 h.dp).1
  refine ⟨?_, ?_, ?_, by simp [h3], ?_, fun k hk hk' j hj => ?_⟩
  · rw [Array.getElem?_setIfInBounds_ne (by omega)]; exact h.now
  · rw [Array.getElem?_setIfInBounds_ne (by omega)]; exact h.bad
  · rw [Array.getElem?_setIfInBounds_ne (by omega)]; exact h.turn
  · rw [Array.getElem?_setIfInBounds_ne (by omega)]; exact h.sn
  · rw [Array.getElem?_setIfInBounds_ne (by omega)]; exact h.rest k hk hk' j hj
theorem Hd.turned {cs : Array Value} {t deep seen : Int} (h : Hd cs t deep seen) (d : Int) : Hd (cs.setIfInBounds 2 (.int .i64 d)) d deep seen := by
  have h3 : 2 < cs.size := (Array.getElem?_eq_some_iff.1 h.turn).1
  refine ⟨?_, ?_, by simp [h3], ?_, ?_, fun k hk hk' j hj => ?_⟩
  · rw [Array.getElem?_setIfInBounds_ne (by omega)]; exact h.now
  · rw [Array.getElem?_setIfInBounds_ne (by omega)]; exact h.bad
  · rw [Array.getElem?_setIfInBounds_ne (by omega)]; exact h.dp
  · rw [Array.getElem?_setIfInBounds_ne (by omega)]; exact h.sn
  · rw [Array.getElem?_setIfInBounds_ne (by omega)]; exact h.rest k hk hk' j hj
theorem Hd.seen {cs : Array Value} {t deep seen : Int} (h : Hd cs t deep seen) (d : Int) : Hd (cs.setIfInBounds 12 (.int .i64 d)) t deep d := by
  have h3 : 12 < cs.size := (Array.getElem?_eq_some_iff.1 h.sn).1
  refine ⟨?_, ?_, ?_, ?_, by simp [h3], fun k hk hk' j hj => ?_⟩
  · rw [Array.getElem?_setIfInBounds_ne (by omega)]; exact h.now
  · rw [Array.getElem?_setIfInBounds_ne (by omega)]; exact h.bad
  · rw [Array.getElem?_setIfInBounds_ne (by omega)]; exact h.turn
  · rw [Array.getElem?_setIfInBounds_ne (by omega)]; exact h.dp
  · rw [Array.getElem?_setIfInBounds_ne (by omega)]; exact h.rest k hk hk' j hj
/-- The book since a world: only its own blocks have changed. -/
structure Bq (w0 wx : World) (bb B : Nat) (S : Nat → Prop) (cs : Array Value) (rv : Nat → Value) (xs : Nat → List Value) (t deep seen : Int) : Prop where
  br : BR wx bb B cs rv xs
  hd : Hd cs t deep seen
  ch : Ch S w0 wx
  sb : S bb
  ins : ∀ i, i < 8 → ∀ k, (rv i).ownBlock = some k → S k ∨ w0.heap.size ≤ k
section
variable {w0 wx w' : World} {bb B : Nat} {S : Nat → Prop} {cs : Array Value} {rv : Nat → Value} {xs : Nat → List Value} {t deep seen : Int}
theorem Bq.below (h : Bq w0 wx bb B S cs rv xs t deep seen) (hb : Below wx.heap.size wx w') : Bq w0 w' bb B S cs rv xs t deep seen :=
  ⟨h.br.below hb, h.hd, Ch.trans (S' := fun _ => False) h.ch (Below.ch hb) (fun _ _ q => q.elim), h.sb, h.ins⟩
theorem Bq.push (h : Bq w0 wx bb B S cs rv xs t deep seen) {i : Nat} (hi : i < 8) {x v' : Value} (p : Pu wx w' bb B cs rv xs i x v') : Bq w0 (w'.setCell ⟨bb, 4 + i, none⟩ v') bb B S (cs.setIfInBounds (4 + i) v') (upd rv i v') (upd xs i (xs i ++ [x])) t deep seen := by
  refine ⟨p.br, h.hd.row i hi v', ?_, h.sb, fun j hj k e => ?_⟩
  · refine Ch.trans (S' := fun k => k = bb) (Ch.trans (S' := fun k => (rv i).ownBlock = some k) h.ch (ch_grown p.gr) (fun j hj q => ?_)) (ch_set bb _ _) (fun j _ q => q ▸ h.sb)
    rcases h.ins i hi j q with q | q
    · exact q
    · omega
  · by_cases q : j = i
    · subst q
      rw [upd_same] at e
      rcases p.wh with q | q
      · exact h.ins j hj k (q ▸ e)
      · rw [q] at e; cases e; exact .inr h.ch.size
    · rw [upd_ne _ _ q] at e; exact h.ins j hj k e
theorem Bq.other (h : Bq w0 wx bb B S cs rv xs t deep seen) (k : Nat) (hk : k < 4 ∨ 12 ≤ k) (v : Value) {t' deep' seen' : Int} (hh : Hd (cs.setIfInBounds k v) t' deep' seen') : Bq w0 (wx.setCell ⟨bb, k, none⟩ v) bb B S (cs.setIfInBounds k v) rv xs t' deep' seen' :=
  ⟨h.br.other k hk v, hh, Ch.trans (S' := fun k => k = bb) h.ch (ch_set bb _ _) (fun j _ q => q ▸ h.sb), h.sb, h.ins⟩
/-- A copy was made beside the book. -/
theorem Bq.copy (h : Bq w0 wx bb B S cs rv xs t deep seen) {b n : Nat} {L : List Value} {v' : Value} (hb : wx.heap[b]? = some (.cells #[] 5 (0, 0))) (hn : w0.heap.size ≤ b) (p : Cp wx w' b n L v') : Bq w0 w' bb B S cs rv xs t deep seen := by
  refine ⟨h.br.keep (p.gr.block _ (lt_of_block h.br.at_) (fun e => by cases e; exact blk_ne hb h.br.at_ (by decide) rfl)) (fun i hi k e => p.gr.block _ ((h.br.own i hi).lt k e).2 (fun q => by cases q; obtain ⟨c, hc⟩ := own_blk (h.br.own i hi) e; exact blk_ne hb hc (Ne.symm (et_ne i).2) rfl)), h.hd, ?_, h.sb, h.ins⟩
  exact Ch.trans (S' := fun k => some b = some k) h.ch (ch_grown p.gr) (fun j hj q => by cases q; omega)
end
end Go.Proofs.YtkjeneklkdekoaaGreatDoor
