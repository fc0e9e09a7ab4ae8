import Derived.Test.YtmihpmmkkklpfaaGreatDoorOw
namespace Go.Proofs.YtmihpmmkkklpfaaGreatDoor
open Go Go.RowKit Go.Shelf Go.Maps Go.Sort
set_option linter.unusedSimpArgs false
set_option linter.unusedVariables false
/-! ### A window among other things -/
/-- What others have stays. -/
def Fr (F : Nat → Prop) (W W' : World) : Prop := Ch (fun j => ¬ F j) W W'
theorem Fr.at {F : Nat → Prop} {W W' : World} (h : Fr F W W') {j : Nat} (hj : F j) (hl : j < W.heap.size) : W'.heap[j]? = W.heap[j]? := h.block j hl (fun q => q hj)
theorem Fr.trans {F : Nat → Prop} {a b c : World} (h : Fr F a b) (k : Fr F b c) : Fr F a c := Ch.trans h k (fun _ _ q => q)
theorem Fr.refl (F : Nat → Prop) (w : World) : Fr F w w := Ch.refl _ _
theorem Fr.mono {F F' : Nat → Prop} {a b : World} (h : Fr F a b) (hf : ∀ j, F' j → F j) : Fr F' a b := Ch.mono h (fun j _ q z => q (hf j z))
theorem Fr.below {F : Nat → Prop} {a b : World} (h : Below a.heap.size a b) : Fr F a b := Below.ch h
/-- A window with its state told purely, F what others have. -/
structure KS (F : Nat → Prop) (W : World) (wb : Nat) (p : Pw) (c : Nat) : Prop where
  ex : ∃ i, WS W wb i c ∧ i.p = p ∧ ∀ j, F j → j < W.heap.size ∧ ¬ i.U wb j
  gd : Gd W
/-- A list of packets. -/
def Lst (W : World) (v : Value) (X : List Pp) : Prop := ∃ S : List Pq, W.ownsRow 0 66 25 v S.length (prow S) ∧ (∀ p ∈ S, PB W p.m.v p.m.xs) ∧ S.map Pq.p = X
theorem KS.st {F : Nat → Prop} {W W' : World} {wb : Nat} {i i' : WI} {c' : Nat} {P : Pw} (hF : ∀ j, F j → j < W.heap.size ∧ ¬ i.U wb j) (s : St W W' wb i i' c') (g : Gd W') (e : i'.p = P) : KS F W' wb P c' ∧ Fr F W W' := by
  refine ⟨⟨⟨i', s.ws, e, fun j hj => ⟨Nat.lt_of_lt_of_le (hF j hj).1 s.ch.size, fun q => ?_⟩⟩, g⟩, s.ch.mono (fun j _ q z => (hF j z).2 q)⟩
  rcases s.bl j q with z | z
  · exact (hF j hj).2 z
  · have := (hF j hj).1; omega
theorem KS.out {F : Nat → Prop} {W W' : World} {wb : Nat} {i : WI} {c' : Nat} {P : Pw} {X : List Pp} {v : Value} (hF : ∀ j, F j → j < W.heap.size ∧ ¬ i.U wb j) (o : Out W W' wb i c' P X v) : KS F W' wb P c' ∧ Fr F W W' ∧ Lst W' v X := by
  obtain ⟨i', S, s, ho, hp, e1, e2⟩ := o.ex
  obtain ⟨k1, k2⟩ := KS.st hF s o.gd e1
  exact ⟨k1, k2, S, own0 ho, hp, e2⟩
theorem KS.below {F : Nat → Prop} {W W' : World} {wb : Nat} {p : Pw} {c : Nat} (h : KS F W wb p c) (hb : Below W.heap.size W W') : KS F W' wb p c := by
  obtain ⟨i, hw, e, hF⟩ := h.ex
  exact (KS.st hF (St.below hw hb) (h.gd.below hb) e).1
theorem KS.more {F : Nat → Prop} {W : World} {wb : Nat} {p : Pw} {c c' : Nat} (h : KS F W wb p c) (hc : c ≤ c') : KS F W wb p c' := by
  obtain ⟨i, hw, e, hF⟩ := h.ex
  exact ⟨⟨i, hw.more hc, e, hF⟩, h.gd⟩
/-- Another block that is none of the window's: a new one, or one of another kind. -/
theorem KS.add {F : Nat → Prop} {W W' : World} {wb : Nat} {p : Pw} {c b : Nat} (h : KS F W wb p c) (hb : Below W.heap.size W W') (hl : W.heap.size ≤ b) (hl' : b < W'.heap.size) : KS (fun j => F j ∨ j = b) W' wb p c := by
  obtain ⟨i, hw, e, hF⟩ := h.ex
  refine ⟨⟨i, hw.below hb, e, fun j hj => ?_⟩, h.gd.below hb⟩
  rcases hj with q | q
  · exact ⟨Nat.lt_of_lt_of_le (hF j q).1 hb.size, (hF j q).2⟩
  · refine ⟨by omega, fun z => ?_⟩
    have := hw.lt z
    omega
theorem KS.less {F F' : Nat → Prop} {W : World} {wb : Nat} {p : Pw} {c : Nat} (h : KS F W wb p c) (hf : ∀ j, F' j → F j) : KS F' W wb p c := by
  obtain ⟨i, hw, e, hF⟩ := h.ex
  exact ⟨⟨i, hw, e, fun j hj => hF j (hf j hj)⟩, h.gd⟩
/-- What others write is nothing to the window. -/
theorem KS.write {F S : Nat → Prop} {W W' : World} {wb : Nat} {p : Pw} {c : Nat} (h : KS F W wb p c) (hc : Ch S W W') (hs : ∀ j, S j → F j) (h5 : Kb W W') (h0 : ¬ S 0) : KS F W' wb p c := by
  obtain ⟨i, hw, e, hF⟩ := h.ex
  obtain ⟨o, ho, hO⟩ := h.gd.oth
  have he : W'.heap[0]? = W.heap[0]? := hc.block 0 (Array.getElem?_eq_some_iff.1 ho).1 h0
  exact ⟨⟨i, hw.keep hc (fun j hj q => (hF j (hs j q)).2 hj) h5, e, fun j hj => ⟨Nat.lt_of_lt_of_le (hF j hj).1 hc.size, (hF j hj).2⟩⟩, ⟨fun j hj => (cell_heap (by exact he)).trans (h.gd.tab j hj), o, he.trans ho, hO⟩⟩
section
variable {F : Nat → Prop} {W : World} {wb : Nat} {p : Pw} {c : Nat}
theorem ks_new (n q : Int) (w : World) (g : Gd w) : Calls Tryz.prog 33 #[.int .i64 n, .int .i64 q] w fun e w' => e = .returned (.pointer (some ⟨w.heap.size, 0, none⟩)) ∧ KS (fun j => j < w.heap.size) w' w.heap.size ⟨mostOf n, queueOf q, false, 0, [], [], []⟩ 0 ∧ Below w.heap.size w w' := by
  refine (new_any n q w).mono ?_
  rintro e w' ⟨rfl, rfl⟩
  have hb : Below w.heap.size w (w.alloc (.cells (newI (mostOf n) (queueOf q)).cs 101)) := (Below.refl _ _).alloc (Nat.le_refl _) _
  refine ⟨rfl, ⟨⟨newI (mostOf n) (queueOf q), ws_new w _ _ ⟨(mostOf_is n).1, (mostOf_is n).2.1⟩ (queueOf_is q).1, rfl, fun j hj => ⟨by simp; omega, ?_⟩⟩, g.below hb⟩, hb⟩
  rintro (q | q | q | q | ⟨f, hf, _⟩)
  · omega
  · cases q
  · cases q
  · simp [newI, Value.ownBlock] at q
  · cases hf
theorem ks_send (h : KS F W wb p c) (hc : c + 1 ≤ 200000) (t : ByteArray) (v : Value) (q : Int) (r : Bool) (xs : List Int) (hp : PBi W v xs) (ht : t.size ≤ 1000000) : Calls Tryz.prog 49 #[.pointer (some ⟨wb, 0, none⟩), .agg #[.string t, v, .int .i64 q, .bool r]] W fun e w' => ∃ v', e = .returned (.tuple #[v', .bool (pSend p ⟨t, q, r, xs⟩).2.2.1, .int .i64 (pSend p ⟨t, q, r, xs⟩).2.2.2]) ∧ KS F w' wb (pSend p ⟨t, q, r, xs⟩).1 (c + 1) ∧ Fr F W w' ∧ Lst w' v' (pSend p ⟨t, q, r, xs⟩).2.1 := by
  obtain ⟨i, hw, rfl, hF⟩ := h.ex
  refine (send_ws (m := ⟨t, v, q, r, xs⟩) hw h.gd hc hp ht).mono ?_
  rintro e w' ⟨v', rfl, o⟩
  exact ⟨v', rfl, KS.out hF o⟩
theorem ks_ack (h : KS F W wb p c) (hc : c ≤ 200000) (kind id : Int) (hid : okI id) : Calls Tryz.prog 17 #[.pointer (some ⟨wb, 0, none⟩), .int .i64 kind, .int .i64 id] W fun e w' => ∃ v', e = .returned v' ∧ KS F w' wb (pAck p kind id).1 c ∧ Fr F W w' ∧ Lst w' v' (pAck p kind id).2 := by
  obtain ⟨i, hw, rfl, hF⟩ := h.ex
  refine (ack_ws hw h.gd hc kind id hid).mono ?_
  rintro e w' ⟨v', rfl, o⟩
  exact ⟨v', rfl, KS.out hF o⟩
theorem ks_up (h : KS F W wb p c) (hc : c ≤ 200000) : Calls Tryz.prog 15 #[.pointer (some ⟨wb, 0, none⟩)] W fun e w' => ∃ v', e = .returned v' ∧ KS F w' wb (pUp p).1 c ∧ Fr F W w' ∧ Lst w' v' (pUp p).2 := by
  obtain ⟨i, hw, rfl, hF⟩ := h.ex
  refine (up_ws hw h.gd hc).mono ?_
  rintro e w' ⟨v', rfl, o⟩
  exact ⟨v', rfl, KS.out hF o⟩
theorem ks_down (h : KS F W wb p c) : Calls Tryz.prog 11 #[.pointer (some ⟨wb, 0, none⟩)] W fun e w' => e = .returned (.tuple #[]) ∧ KS F w' wb { p with on := false } c ∧ Fr F W w' := by
  obtain ⟨i, hw, rfl, hF⟩ := h.ex
  refine (down_ws hw).mono ?_
  rintro e w' ⟨rfl, s⟩
  exact ⟨rfl, KS.st hF s (s.gd hw h.gd) rfl⟩
theorem ks_online (h : KS F W wb p c) : Calls Tryz.prog 14 #[.pointer (some ⟨wb, 0, none⟩)] W fun e w' => e = .returned (.bool p.on) ∧ w' = W := by
  obtain ⟨i, hw, rfl, hF⟩ := h.ex
  exact online_ws hw
/-- An image, told purely. -/
structure ImP (w w' : World) (p : Pw) (vf vq : Value) : Prop where
  fl : ∃ L, w'.ownsRow w.heap.size 108 6 vf p.fl.length (frow L) ∧ L.map Fo.p = p.fl ∧ ∀ o ∈ L, PB w' o.m.v o.m.xs
  qu : ∃ L', w'.ownsRow w.heap.size 45 4 vq p.wt.length (mrow L') ∧ L'.map Ms.p = p.wt ∧ ∀ o ∈ L', PB w' o.v o.xs
theorem ks_image (h : KS F W wb p c) (hc : c ≤ 200000) : Calls Tryz.prog 35 #[.pointer (some ⟨wb, 0, none⟩)] W fun e w' => ∃ vf vq, e = .returned (.agg #[.int .i64 (p.last : Int), vf, vq]) ∧ ImP W w' p vf vq ∧ Below W.heap.size W w' := by
  obtain ⟨i, hw, rfl, hF⟩ := h.ex
  refine (image_ws hw hc).mono ?_
  rintro e w' ⟨vf, vq, rfl, hI, hb⟩
  refine ⟨vf, vq, rfl, ⟨?_, ?_⟩, hb⟩
  · obtain ⟨L, a, b, d⟩ := hI.fl
    exact ⟨L, by rw [show i.p.fl.length = i.fs.length by simp [WI.p]]; exact a, b, d⟩
  · obtain ⟨L, a, b, d⟩ := hI.qu
    exact ⟨L, by rw [show i.p.wt.length = i.L.length by simp [WI.p]]; exact a, b, d⟩

end
end Go.Proofs.YtmihpmmkkklpfaaGreatDoor
namespace Go.Proofs.YtmihpmmkkklpfaaGreatDoor
open Go Go.RowKit Go.Shelf Go.Maps Go.Sort
set_option linter.unusedSimpArgs false
set_option linter.unusedVariables false
/-! ### The chapter's example, purely -/
theorem abvF_next {T : Nat → Bool} {last : Nat} (hl : last < 65535) (hT : T (last + 1) = false) : abvF T last = last + 1 := by
  refine abvF_is (by omega) ⟨by omega, by omega, hT, fun j h1 h2 hr => ?_⟩
  exfalso
  have e : rank last (last + 1) = 1 := by unfold rank; rw [if_pos (by omega)]; omega
  rw [e] at hr
  unfold rank at hr
  split at hr <;> omega
def mA : Mp := ⟨⟨#[97]⟩, 2, false, []⟩
def mB : Mp := ⟨⟨#[98]⟩, 1, false, []⟩
def q0 : Pw := ⟨1, 1, false, 0, [], [], []⟩
def q1 : Pw := ⟨1, 1, false, 0, [], [mA], []⟩
def q2 : Pw := ⟨1, 1, true, 1, [⟨1, false, mA⟩], [], []⟩
def q3 : Pw := ⟨1, 1, true, 1, [⟨1, false, mA⟩], [mB], []⟩
def q4 : Pw := ⟨1, 1, true, 1, [⟨1, true, zMp⟩], [mB], []⟩
def q5 : Pw := ⟨1, 1, false, 1, [⟨1, true, zMp⟩], [mB], []⟩
def q7 : Pw := ⟨1, 1, true, 2, [⟨2, false, mB⟩], [], []⟩
theorem Lst.nil {W : World} {v : Value} (h : Lst W v []) : ∃ a c, v = .slice a 0 c := by
  obtain ⟨S, ho, -, e⟩ := h
  have : S = [] := by simpa using e
  subst this
  exact own_sl ho
theorem Lst.one {W : World} {v : Value} {x : Pp} (h : Lst W v [x]) : ∃ g c cur, v = .slice (some ⟨g, 0, none⟩) 1 c ∧ W.heap[g]? = some (.cells cur 66 (0, 0)) ∧ cur[0]? = some (.int .i64 x.k) ∧ cur[16]? = some (.bool x.d) ∧ cur[17]? = some (.string x.m.t) ∧ cur[21]? = some (.int .i64 x.id) := by
  obtain ⟨S, ho, -, e⟩ := h
  obtain ⟨p, rfl⟩ : ∃ p, S = [p] := by
    cases S with
    | nil => cases e
    | cons p S => cases S with
      | nil => exact ⟨p, rfl⟩
      | cons q S => simp at e
  have e' : p.p = x := by simpa using e
  subst e'
  rcases ho.2 with ⟨_, h2⟩ | ⟨g, cap, cur, h1, h2, h3, h4, h5, h6, h7⟩
  · simp at h2
  · have hx : ∀ j v, j < 25 → p.cs[j]? = some v → cur[j]? = some v := fun j v hj hv => by
      have := congrArg (fun l => l[j]?) h7
      simp only [List.getElem?_take, List.length_singleton, Nat.one_mul] at this
      rw [if_pos hj] at this
      have h9 : (prow [p])[j]? = p.cs[j]? := by simp [prow]
      rw [h9, hv] at this
      simpa using this
    exact ⟨g, cap, cur, h1, h3, hx 0 _ (by omega) rfl, hx 16 _ (by omega) rfl, hx 17 _ (by omega) rfl, hx 21 _ (by omega) rfl⟩
section
variable {F : Nat → Prop} {W : World} {wb c : Nat}
end
end Go.Proofs.YtmihpmmkkklpfaaGreatDoor
namespace Go.Proofs.YtmihpmmkkklpfaaGreatDoor
open Go Go.RowKit Go.Shelf Go.Maps Go.Sort
set_option linter.unusedSimpArgs false
set_option linter.unusedVariables false
/-! ### What holds purely -/
/-- Nothing waits while there is room. -/
def Full (p : Pw) : Prop := p.on = true → p.wt ≠ [] → p.most ≤ p.fl.length
/-- The bounds and the reserved numbers are the same. -/
structure Sm (p p' : Pw) : Prop where
  m : p'.most = p.most
  q : p'.queue = p.queue
  r : p'.R = p.R
theorem Sm.refl (p : Pw) : Sm p p := ⟨rfl, rfl, rfl⟩
theorem Sm.trans {a b c : Pw} (h : Sm a b) (k : Sm b c) : Sm a c := ⟨k.m.trans h.m, k.q.trans h.q, k.r.trans h.r⟩
theorem fillL_ok : ∀ (wt : List Mp) (p : Pw), Sm p (pFillL wt p).1 ∧ Full (pFillL wt p).1 ∧ (pFillL wt p).1.on = p.on
  | [], p => ⟨⟨rfl, rfl, rfl⟩, fun _ h => absurd rfl h, rfl⟩
  | m :: wt, p => by
    simp only [pFillL]
    split
    · obtain ⟨a, b, c⟩ := fillL_ok wt (pLaunch { p with wt := wt } m).1
      exact ⟨(show Sm p (pLaunch { p with wt := wt } m).1 from ⟨rfl, rfl, rfl⟩).trans a, b, c⟩
    · rename_i h
      refine ⟨⟨rfl, rfl, rfl⟩, fun h1 _ => ?_, rfl⟩
      show p.most ≤ p.fl.length
      exact Nat.le_of_not_lt (fun z => h ⟨h1, z⟩)
theorem fill_ok (p : Pw) : Sm p (pFill p).1 ∧ Full (pFill p).1 := ⟨(fillL_ok p.wt p).1, (fillL_ok p.wt p).2.1⟩
theorem send_ok {p : Pw} (m : Mp) (h : Full p) : Sm p (pSend p m).1 ∧ Full (pSend p m).1 := by
  unfold pSend
  split
  · split
    · rename_i hg
      refine ⟨⟨rfl, rfl, rfl⟩, fun h1 h2 => ?_⟩
      have := h hg.1 h2
      omega
    · rename_i hg
      split
      · refine ⟨⟨rfl, rfl, rfl⟩, fun h1 h2 => ?_⟩
        exact Nat.le_of_not_lt (fun z => hg ⟨h1, z⟩)
      · exact ⟨Sm.refl p, h⟩
  · exact ⟨Sm.refl p, h⟩
theorem up_ok (p : Pw) : Sm p (pUp p).1 ∧ Full (pUp p).1 := by
  obtain ⟨a, b⟩ := fill_ok { p with on := true }
  exact ⟨(show Sm p { p with on := true } from ⟨rfl, rfl, rfl⟩).trans a, b⟩
theorem KS.facts {F : Nat → Prop} {W : World} {wb : Nat} {p : Pw} {c : Nat} (h : KS F W wb p c) : (p.fl.map (·.id) ++ p.R).Nodup ∧ (∀ j ∈ p.fl.map (·.id) ++ p.R, 1 ≤ j ∧ j ≤ 65535) ∧ p.fl.length ≤ p.most ∧ p.wt.length ≤ p.queue ∧ p.R.length ≤ 65535 - p.most ∧ 1 ≤ p.most ∧ p.most ≤ 65535 ∧ p.queue ≤ 65536 := by
  obtain ⟨i, hw, rfl, hF⟩ := h.ex
  have e : i.p.fl.map (·.id) = i.ids := by show (i.fs.map Fm.p).map _ = _; rw [List.map_map]; rfl
  rw [e]
  refine ⟨hw.nd, hw.rng, ?_, ?_, hw.br, hw.bm.1, hw.bm.2, hw.bq⟩
  · show (i.fs.map Fm.p).length ≤ _; rw [List.length_map]; exact hw.bf
  · show (i.L.map Ms.p).length ≤ _; rw [List.length_map]; exact hw.bl
/-! ### The law's own maps -/
def fR (R : List Nat) (k : Int) : Option Value := if 0 ≤ k ∧ k.toNat ∈ R then some (.int .i64 1) else none
theorem zero3 (w : World) : (zeroValue 3).run Tryz.prog w = .ok (.int .i64 0) w := by kernel_rfl
structure HS (w0 W : World) (wb rb : Nat) (p : Pw) (c : Nat) (n q : Int) (Rm : List Nat) : Prop where
  ks : KS (fun j => j < w0.heap.size ∨ j = rb) W wb p c
  mp : MI W (.map (some rb)) Rm.length (fR Rm)
  bel : Below w0.heap.size w0 W
  fu : Full p
  mo : p.most = mostOf n
  qu : p.queue = queueOf q
  rb0 : w0.heap.size ≤ rb
theorem HS.below {w0 W W' : World} {wb rb : Nat} {p : Pw} {c : Nat} {n q : Int} {Rm : List Nat} (h : HS w0 W wb rb p c n q Rm) (hb : Below W.heap.size W W') : HS w0 W' wb rb p c n q Rm :=
  { h with ks := h.ks.below hb, mp := h.mp.keep (fun b e => hb.block b (h.mp.lt e)), bel := h.bel.trans (hb.mono h.bel.size) }
theorem HS.to {w0 W W' : World} {wb rb : Nat} {p p' : Pw} {c c' : Nat} {n q : Int} {Rm : List Nat} (h : HS w0 W wb rb p c n q Rm) (k : KS (fun j => j < w0.heap.size ∨ j = rb) W' wb p' c') (r : Fr (fun j => j < w0.heap.size ∨ j = rb) W W') (hf : Full p') (hm : p'.most = p.most) (hq : p'.queue = p.queue) : HS w0 W' wb rb p' c' n q Rm :=
  { h with
    ks := k
    mp := h.mp.keep (fun b e => by cases e; exact r.at (.inr rfl) (h.mp.lt rfl))
    bel := ⟨r.os.trans h.bel.os, r.tape.trans h.bel.tape, r.output.trans h.bel.output, Nat.le_trans h.bel.size r.size, fun j hj => (r.at (.inl hj) (Nat.lt_of_lt_of_le hj h.bel.size)).trans (h.bel.block j hj)⟩
    fu := hf
    mo := hm.trans h.mo
    qu := hq.trans h.qu }
theorem MI.kb {w w' : World} {b n : Nat} {f : Int → Option Value} (h : MI w (.map (some b)) n f) (hc : Ch (fun j => j = b) w w') : Kb w w' := Kb.ch hc (fun j hj cs fz q => by obtain ⟨es, cl, e⟩ := h.block rfl; rw [hj, e] at q; cases q)
/-- The reserved numbers' map is written. -/
theorem HS.map {w0 W W' : World} {wb rb : Nat} {p : Pw} {c : Nat} {n q : Int} {Rm R' : List Nat} (h : HS w0 W wb rb p c n q Rm) (hc : Ch (fun j => j = rb) W W') (hm : MI W' (.map (some rb)) R'.length (fR R')) : HS w0 W' wb rb p c n q R' := by
  have h0 : ¬ (0 : Nat) = rb := fun e => by
    obtain ⟨o, ho, hO⟩ := h.ks.gd.oth
    obtain ⟨cs, t, fz, rfl, -⟩ := hO
    obtain ⟨es, cl, e'⟩ := h.mp.block rfl
    rw [← e, ho] at e'
    cases e'
  refine { h with ks := h.ks.write hc (fun j hj => .inr hj) (h.mp.kb hc) h0, mp := hm, bel := ⟨hc.os.trans h.bel.os, hc.tape.trans h.bel.tape, hc.output.trans h.bel.output, Nat.le_trans h.bel.size hc.size, fun j hj => (hc.block j (Nat.lt_of_lt_of_le hj h.bel.size) (fun e => ?_)).trans (h.bel.block j hj)⟩ }
  have := h.rb0
  omega

end Go.Proofs.YtmihpmmkkklpfaaGreatDoor
namespace Go.Proofs.YtmihpmmkkklpfaaGreatDoor
open Go Go.RowKit
set_option linter.unusedSimpArgs false
set_option linter.unusedVariables false
/-! ### Each message once, in order: purely -/
/-- The messages of what is sent for the first time. -/
def isNew (x : Pp) : Bool := decide (x.k = 3) && !x.d
def msgsOf (X : List Pp) : List Mp := (X.filter isNew).map (·.m)
def costM (m : Mp) : Nat := if m.q = 2 then 2 else 1
theorem costM_le (m : Mp) : costM m ≤ 2 := by unfold costM; split <;> omega
theorem sum_le {α : Type} (f : α → Nat) (h : ∀ x, f x ≤ 2) (l : List α) : (l.map f).sum ≤ 2 * l.length := by
  induction l with
  | nil => simp
  | cons x l ih => have := h x; simp; omega
/-- What is kept of the order by a call that takes nothing. -/
structure Kp (p p' : Pw) (X : List Pp) : Prop where
  wt : p.wt = msgsOf X ++ p'.wt
  fl : p'.fl.length ≤ p.fl.length + (msgsOf X).length
theorem Kp.same (p : Pw) : Kp p p [] := ⟨by simp [msgsOf], by simp⟩
end Go.Proofs.YtmihpmmkkklpfaaGreatDoor
namespace Go.Proofs.YtmihpmmkkklpfaaGreatDoor
open Go Go.RowKit
set_option linter.unusedSimpArgs false
set_option linter.unusedVariables false
theorem fill_on (p : Pw) : (pFill p).1.on = p.on := (fillL_ok p.wt p).2.2
theorem filter_head {f : Fp} {fl : List Fp} (hn : ((f :: fl).map (·.id)).Nodup) : (f :: fl).filter (fun g => g.id != f.id) = fl := by
  simp only [List.map_cons, List.nodup_cons] at hn
  rw [List.filter_cons_of_neg (by simp), List.filter_eq_self]
  intro g hg
  simp only [bne_iff_ne, ne_eq]
  intro e
  exact hn.1 (by rw [← e]; exact List.mem_map.2 ⟨g, hg, rfl⟩)
theorem map_head {f : Fp} {fl : List Fp} (hn : ((f :: fl).map (·.id)).Nodup) : (f :: fl).map (relP f.id) = ⟨f.id, true, zMp⟩ :: fl := by
  simp only [List.map_cons, List.nodup_cons] at hn
  have e1 : relP f.id f = ⟨f.id, true, zMp⟩ := if_pos rfl
  rw [List.map_cons, e1]
  congr 1
  have : fl.map (relP f.id) = fl.map id := by
    apply List.map_congr_left
    intro g hg
    exact if_neg (fun e => hn.1 (by rw [← e]; exact List.mem_map.2 ⟨g, hg, rfl⟩))
  rw [this, List.map_id]
/-- At last nothing waits. -/
theorem rest_wt {p : Pw} (h : Full p) (hon : p.on = true) (hm : 1 ≤ p.most) (hfl : p.fl = []) : p.wt = [] := Classical.byContradiction fun z => by
  have := h hon z
  rw [hfl] at this
  simp at this
  omega
end Go.Proofs.YtmihpmmkkklpfaaGreatDoor
