import Derived.Test.YtbjhblnagmpnfaaDoorOz
namespace Go.Proofs.YtbjhblnagmpnfaaDoor
open Go Go.RowKit Go.Shelf Go.Maps Go.Sort
set_option linter.unusedSimpArgs false
set_option linter.unusedVariables false
/-! ### What holds purely -/
/-- Nothing waits while there is room. -/
def Full (p : Pw) : Prop := p.on = true → p.wt ≠ [] → p.most ≤ p.fl.length
/-- The bounds and the reserved numbers are the same. -/
structure Sm (p p' : Pw) : Prop where
  m : p'.most = p.most
  q : p'.queue = p.queue
  r : p'.R = p.R
theorem Sm.refl (p : Pw) : Sm p p := ⟨rfl, rfl, rfl⟩
theorem Sm.trans {a b c : Pw} (h : Sm a b) (k : Sm b c) : Sm a c := ⟨k.m.trans h.m, k.q.trans h.q, k.r.trans h.r⟩
theorem fillL_ok : ∀ (wt : List Mp) (p : Pw), Sm p (pFillL wt p).1 ∧ Full (pFillL wt p).1 ∧ (pFillL wt p).1.on = p.on
  | [], p => ⟨⟨rfl, rfl, rfl⟩, fun _ h => absurd rfl h, rfl⟩
  | m :: wt, p => by
    simp only [pFillL]
    split
    · obtain ⟨a, b, c⟩ := fillL_ok wt (pLaunch { p with wt := wt } m).1
      exact ⟨(show Sm p (pLaunch { p with wt := wt } m).1 from ⟨rfl, rfl, rfl⟩).trans a, b, c⟩
    · rename_i h
      refine ⟨⟨rfl, rfl, rfl⟩, fun h1 _ => ?_, rfl⟩
      show p.most ≤ p.fl.length
      exact Nat.le_of_not_lt (fun z => h ⟨h1, z⟩)
theorem fill_ok (p : Pw) : Sm p (pFill p).1 ∧ Full (pFill p).1 := ⟨(fillL_ok p.wt p).1, (fillL_ok p.wt p).2.1⟩
theorem send_ok {p : Pw} (m : Mp) (h : Full p) : Sm p (pSend p m).1 ∧ Full (pSend p m).1 := by
  unfold pSend
  split
  · split
    · rename_i hg
      refine ⟨⟨rfl, rfl, rfl⟩, fun h1 h2 => ?_⟩
      have := h hg.1 h2
      omega
    · rename_i hg
      split
      · refine ⟨⟨rfl, rfl, rfl⟩, fun h1 h2 => ?_⟩
        exact Nat.le_of_not_lt (fun z => hg ⟨h1, z⟩)
      · exact ⟨Sm.refl p, h⟩
  · exact ⟨Sm.refl p, h⟩
theorem ackF_ok {p : Pw} (k id : Int) (f : Fp) (h : Full p) : Sm p (pAckF p k id f).1 ∧ Full (pAckF p k id f).1 := by
  unfold pAckF
  split
  · exact ⟨Sm.refl p, h⟩
  · split
    · refine ⟨⟨rfl, rfl, rfl⟩, fun h1 h2 => ?_⟩
      show p.most ≤ (p.fl.map _).length
      rw [List.length_map]
      exact h h1 h2
    · split
      · obtain ⟨a, b⟩ := fill_ok { p with fl := p.fl.filter (fun g => g.id != f.id) }
        exact ⟨(show Sm p { p with fl := p.fl.filter (fun g => g.id != f.id) } from ⟨rfl, rfl, rfl⟩).trans a, b⟩
      · exact ⟨Sm.refl p, h⟩
theorem ack_ok {p : Pw} (k id : Int) (h : Full p) : Sm p (pAck p k id).1 ∧ Full (pAck p k id).1 := by
  unfold pAck
  split
  · exact ⟨Sm.refl p, h⟩
  · exact ackF_ok k id _ h
theorem up_ok (p : Pw) : Sm p (pUp p).1 ∧ Full (pUp p).1 := by
  obtain ⟨a, b⟩ := fill_ok { p with on := true }
  exact ⟨(show Sm p { p with on := true } from ⟨rfl, rfl, rfl⟩).trans a, b⟩
theorem play_ok {p : Pw} (k : Int) (m : Mp) (a n : Int) (h : Full p) (h5 : k ≠ 5) (h6 : k ≠ 6) : Sm p (pPlay p k m a n).1 ∧ Full (pPlay p k m a n).1 := by
  unfold pPlay
  split
  · exact send_ok m h
  · split
    · exact ack_ok a n h
    · split
      · exact up_ok p
      · split
        · exact ⟨⟨rfl, rfl, rfl⟩, fun z => by cases z⟩
        · split
          · unfold pNine
            split
            · exact ack_ok a _ h
            · exact ⟨Sm.refl p, h⟩
          · exact ⟨Sm.refl p, h⟩
theorem KS.facts {F : Nat → Prop} {W : World} {wb : Nat} {p : Pw} {c : Nat} (h : KS F W wb p c) : (p.fl.map (·.id) ++ p.R).Nodup ∧ (∀ j ∈ p.fl.map (·.id) ++ p.R, 1 ≤ j ∧ j ≤ 65535) ∧ p.fl.length ≤ p.most ∧ p.wt.length ≤ p.queue ∧ p.R.length ≤ 65535 - p.most ∧ 1 ≤ p.most ∧ p.most ≤ 65535 ∧ p.queue ≤ 65536 := by
  obtain ⟨i, hw, rfl, hF⟩ := h.ex
  have e : i.p.fl.map (·.id) = i.ids := by show (i.fs.map Fm.p).map _ = _; rw [List.map_map]; rfl
  rw [e]
  refine ⟨hw.nd, hw.rng, ?_, ?_, hw.br, hw.bm.1, hw.bm.2, hw.bq⟩
  · show (i.fs.map Fm.p).length ≤ _; rw [List.length_map]; exact hw.bf
  · show (i.L.map Ms.p).length ≤ _; rw [List.length_map]; exact hw.bl
/-! ### The law's own maps -/
def fR (R : List Nat) (k : Int) : Option Value := if 0 ≤ k ∧ k.toNat ∈ R then some (.int .i64 1) else none
theorem fR_nat (R : List Nat) (k : Nat) : (fR R (k : Int)).isSome = decide (k ∈ R) := by
  unfold fR
  by_cases h : k ∈ R <;> simp [h]
theorem fR_put (R : List Nat) (id : Nat) (k : Int) : fR (R ++ [id]) k = setF (fR R) (id : Int) (some (.int .i64 1)) k := by
  unfold fR setF
  by_cases e : k = (id : Int)
  · subst e; simp
  · rw [if_neg e]
    by_cases h0 : 0 ≤ k
    · have : ¬ k.toNat = id := by omega
      simp [this]
    · simp [h0]
theorem fR_del (R : List Nat) (id : Nat) (k : Int) : fR (R.filter (fun j => j != id)) k = setF (fR R) (id : Int) none k := by
  unfold fR setF
  by_cases e : k = (id : Int)
  · subst e; simp
  · rw [if_neg e]
    by_cases h0 : 0 ≤ k
    · have : ¬ k.toNat = id := by omega
      simp [this]
    · simp [h0]
theorem zero3 (w : World) : (zeroValue 3).run Tryd.prog w = .ok (.int .i64 0) w := by kernel_rfl
structure HS (w0 W : World) (wb rb : Nat) (p : Pw) (c : Nat) (n q : Int) (Rm : List Nat) : Prop where
  ks : KS (fun j => j < w0.heap.size ∨ j = rb) W wb p c
  mp : MI W (.map (some rb)) Rm.length (fR Rm)
  bel : Below w0.heap.size w0 W
  fu : Full p
  mo : p.most = mostOf n
  qu : p.queue = queueOf q
  rb0 : w0.heap.size ≤ rb
theorem HS.below {w0 W W' : World} {wb rb : Nat} {p : Pw} {c : Nat} {n q : Int} {Rm : List Nat} (h : HS w0 W wb rb p c n q Rm) (hb : Below W.heap.size W W') : HS w0 W' wb rb p c n q Rm :=
  { h with ks := h.ks.below hb, mp := h.mp.keep (fun b e => hb.block b (h.mp.lt e)), bel := h.bel.trans (hb.mono h.bel.size) }
theorem HS.to {w0 W W' : World} {wb rb : Nat} {p p' : Pw} {c c' : Nat} {n q : Int} {Rm : List Nat} (h : HS w0 W wb rb p c n q Rm) (k : KS (fun j => j < w0.heap.size ∨ j = rb) W' wb p' c') (r : Fr (fun j => j < w0.heap.size ∨ j = rb) W W') (hf : Full p') (hm : p'.most = p.most) (hq : p'.queue = p.queue) : HS w0 W' wb rb p' c' n q Rm :=
  { h with
    ks := k
    mp := h.mp.keep (fun b e => by cases e; exact r.at (.inr rfl) (h.mp.lt rfl))
    bel := ⟨r.os.trans h.bel.os, r.tape.trans h.bel.tape, r.output.trans h.bel.output, Nat.le_trans h.bel.size r.size, fun j hj => (r.at (.inl hj) (Nat.lt_of_lt_of_le hj h.bel.size)).trans (h.bel.block j hj)⟩
    fu := hf
    mo := hm.trans h.mo
    qu := hq.trans h.qu }
theorem MI.kb {w w' : World} {b n : Nat} {f : Int → Option Value} (h : MI w (.map (some b)) n f) (hc : Ch (fun j => j = b) w w') : Kb w w' := Kb.ch hc (fun j hj cs fz q => by obtain ⟨es, cl, e⟩ := h.block rfl; rw [hj, e] at q; cases q)
/-- The reserved numbers' map is written. -/
theorem HS.map {w0 W W' : World} {wb rb : Nat} {p : Pw} {c : Nat} {n q : Int} {Rm R' : List Nat} (h : HS w0 W wb rb p c n q Rm) (hc : Ch (fun j => j = rb) W W') (hm : MI W' (.map (some rb)) R'.length (fR R')) : HS w0 W' wb rb p c n q R' := by
  have h0 : ¬ (0 : Nat) = rb := fun e => by
    obtain ⟨o, ho, hO⟩ := h.ks.gd.oth
    obtain ⟨cs, t, fz, rfl, -⟩ := hO
    obtain ⟨es, cl, e'⟩ := h.mp.block rfl
    rw [← e, ho] at e'
    cases e'
  refine { h with ks := h.ks.write hc (fun j hj => .inr hj) (h.mp.kb hc) h0, mp := hm, bel := ⟨hc.os.trans h.bel.os, hc.tape.trans h.bel.tape, hc.output.trans h.bel.output, Nat.le_trans h.bel.size hc.size, fun j hj => (hc.block j (Nat.lt_of_lt_of_le hj h.bel.size) (fun e => ?_)).trans (h.bel.block j hj)⟩ }
  have := h.rb0
  omega
theorem HS.put {w0 W : World} {wb rb : Nat} {p : Pw} {c : Nat} {n q : Int} {Rm : List Nat} (h : HS w0 W wb rb p c n q Rm) (id : Nat) (hn : id ∉ Rm) (hid : id ≤ 65535) (hl : Rm.length ≤ 65535) : ∃ W', (Instr.mapUpdate 27 (.map (some rb)) (.int .i64 (id : Int)) (.int .i64 1)).run Tryd.prog W = .ok () W' ∧ HS w0 W' wb rb p c n q (Rm ++ [id]) := by
  obtain ⟨W', hr, hM, hc⟩ := h.mp.put Tryd.underlying27 (okI_nat id (by omega)) (.int .i64 1) (by unfold maxLen; omega)
  refine ⟨W', hr, h.map hc ?_⟩
  have e : szF (fR Rm) (id : Int) Rm.length = (Rm ++ [id]).length := by
    unfold szF
    rw [fR_nat, decide_eq_false hn]
    simp
  rw [← e]
  exact hM.congr (fun k hk => fR_put Rm id k)
theorem HS.del {w0 W : World} {wb rb : Nat} {p : Pw} {c : Nat} {n q : Int} {Rm : List Nat} (h : HS w0 W wb rb p c n q Rm) (hnd : Rm.Nodup) (id : Int) (hid : okI id) : ∃ W', (Builtin.delete_ #[27, 3] 0 #[.map (some rb), .int .i64 id]).run Tryd.prog W = .ok (.tuple #[]) W' ∧ HS w0 W' wb rb p c n q (if 0 ≤ id ∧ id.toNat ∈ Rm then Rm.filter (fun j => j != id.toNat) else Rm) := by
  obtain ⟨W', hr, hM, hc⟩ := h.mp.del Tryd.underlying27 hid 0
  refine ⟨W', hr, h.map hc ?_⟩
  by_cases hR : 0 ≤ id ∧ id.toNat ∈ Rm
  · rw [if_pos hR]
    obtain ⟨k, rfl⟩ : ∃ k : Nat, id = (k : Int) := ⟨id.toNat, by omega⟩
    simp only [Int.toNat_natCast] at hR ⊢
    have hl := filter_lenN hnd hR.2
    have e : Rm.length - (if (fR Rm (k : Int)).isSome then 1 else 0) = (Rm.filter (fun j => j != k)).length := by
      rw [fR_nat, decide_eq_true hR.2]
      simp
      omega
    rw [← e]
    exact hM.congr (fun j hj => fR_del Rm k j)
  · rw [if_neg hR]
    have e0 : fR Rm id = none := by unfold fR; rw [if_neg hR]
    rw [e0] at hM
    simp only [Option.isSome_none, Bool.false_eq_true, if_false, Nat.sub_zero] at hM
    refine hM.congr (fun k hk => ?_)
    unfold setF
    by_cases e : k = id
    · rw [if_pos e, e, e0]
    · rw [if_neg e]
theorem HS.look {w0 W : World} {wb rb : Nat} {p : Pw} {c : Nat} {n q : Int} {Rm : List Nat} (h : HS w0 W wb rb p c n q Rm) (id : Int) (hid : okI id) : ∃ x, (Instr.lookup 27 (.map (some rb)) (.int .i64 id) true).run Tryd.prog W = .ok (.tuple #[.int .i64 x, .bool (decide (0 ≤ id ∧ id.toNat ∈ Rm))]) W := by
  have := h.mp.look2 Tryd.underlying27 zero3 hid
  by_cases hR : 0 ≤ id ∧ id.toNat ∈ Rm
  · have e : fR Rm id = some (.int .i64 1) := by unfold fR; rw [if_pos hR]
    rw [e] at this
    rw [decide_eq_true hR]
    exact ⟨_, this⟩
  · have e : fR Rm id = none := by unfold fR; rw [if_neg hR]
    rw [e] at this
    rw [decide_eq_false hR]
    exact ⟨_, this⟩
end Go.Proofs.YtbjhblnagmpnfaaDoor
