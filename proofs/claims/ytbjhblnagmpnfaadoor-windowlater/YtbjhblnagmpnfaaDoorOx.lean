import Derived.Test.YtbjhblnagmpnfaaDoorOw
namespace Go.Proofs.YtbjhblnagmpnfaaDoor
open Go Go.RowKit Go.Shelf Go.Maps Go.Sort
set_option linter.unusedSimpArgs false
set_option linter.unusedVariables false
/-! ### A window among other things -/
/-- What others have stays. -/
def Fr (F : Nat → Prop) (W W' : World) : Prop := Ch (fun j => ¬ F j) W W'
theorem Fr.at {F : Nat → Prop} {W W' : World} (h : Fr F W W') {j : Nat} (hj : F j) (hl : j < W.heap.size) : W'.heap[j]? = W.heap[j]? := h.block j hl (fun q => q hj)
theorem Fr.trans {F : Nat → Prop} {a b c : World} (h : Fr F a b) (k : Fr F b c) : Fr F a c := Ch.trans h k (fun _ _ q => q)
theorem Fr.refl (F : Nat → Prop) (w : World) : Fr F w w := Ch.refl _ _
theorem Fr.mono {F F' : Nat → Prop} {a b : World} (h : Fr F a b) (hf : ∀ j, F' j → F j) : Fr F' a b := Ch.mono h (fun j _ q z => q (hf j z))
theorem Fr.below {F : Nat → Prop} {a b : World} (h : Below a.heap.size a b) : Fr F a b := Below.ch h
/-- A window with its state told purely, F what others have. -/
structure KS (F : Nat → Prop) (W : World) (wb : Nat) (p : Pw) (c : Nat) : Prop where
  ex : ∃ i, WS W wb i c ∧ i.p = p ∧ ∀ j, F j → j < W.heap.size ∧ ¬ i.U wb j
  gd : Gd W
/-- A list of packets. -/
def Lst (W : World) (v : Value) (X : List Pp) : Prop := ∃ S : List Pq, W.ownsRow 0 51 25 v S.length (prow S) ∧ (∀ p ∈ S, PB W p.m.v p.m.xs) ∧ S.map Pq.p = X
theorem KS.st {F : Nat → Prop} {W W' : World} {wb : Nat} {i i' : WI} {c' : Nat} {P : Pw} (hF : ∀ j, F j → j < W.heap.size ∧ ¬ i.U wb j) (s : St W W' wb i i' c') (g : Gd W') (e : i'.p = P) : KS F W' wb P c' ∧ Fr F W W' := by
  refine ⟨⟨⟨i', s.ws, e, fun j hj => ⟨Nat.lt_of_lt_of_le (hF j hj).1 s.ch.size, fun q => ?_⟩⟩, g⟩, s.ch.mono (fun j _ q z => (hF j z).2 q)⟩
  rcases s.bl j q with z | z
  · exact (hF j hj).2 z
  · have := (hF j hj).1; omega
theorem KS.out {F : Nat → Prop} {W W' : World} {wb : Nat} {i : WI} {c' : Nat} {P : Pw} {X : List Pp} {v : Value} (hF : ∀ j, F j → j < W.heap.size ∧ ¬ i.U wb j) (o : Out W W' wb i c' P X v) : KS F W' wb P c' ∧ Fr F W W' ∧ Lst W' v X := by
  obtain ⟨i', S, s, ho, hp, e1, e2⟩ := o.ex
  obtain ⟨k1, k2⟩ := KS.st hF s o.gd e1
  exact ⟨k1, k2, S, own0 ho, hp, e2⟩
theorem KS.below {F : Nat → Prop} {W W' : World} {wb : Nat} {p : Pw} {c : Nat} (h : KS F W wb p c) (hb : Below W.heap.size W W') : KS F W' wb p c := by
  obtain ⟨i, hw, e, hF⟩ := h.ex
  exact (KS.st hF (St.below hw hb) (h.gd.below hb) e).1
theorem KS.more {F : Nat → Prop} {W : World} {wb : Nat} {p : Pw} {c c' : Nat} (h : KS F W wb p c) (hc : c ≤ c') : KS F W wb p c' := by
  obtain ⟨i, hw, e, hF⟩ := h.ex
  exact ⟨⟨i, hw.more hc, e, hF⟩, h.gd⟩
/-- Another block that is none of the window's: a new one, or one of another kind. -/
theorem KS.add {F : Nat → Prop} {W W' : World} {wb : Nat} {p : Pw} {c b : Nat} (h : KS F W wb p c) (hb : Below W.heap.size W W') (hl : W.heap.size ≤ b) (hl' : b < W'.heap.size) : KS (fun j => F j ∨ j = b) W' wb p c := by
  obtain ⟨i, hw, e, hF⟩ := h.ex
  refine ⟨⟨i, hw.below hb, e, fun j hj => ?_⟩, h.gd.below hb⟩
  rcases hj with q | q
  · exact ⟨Nat.lt_of_lt_of_le (hF j q).1 hb.size, (hF j q).2⟩
  · refine ⟨by omega, fun z => ?_⟩
    have := hw.lt z
    omega
theorem KS.addO {F : Nat → Prop} {W : World} {wb : Nat} {p : Pw} {c b : Nat} {o : Obj} (h : KS F W wb p c) (hb : W.heap[b]? = some o) (hO : Other o) : KS (fun j => F j ∨ j = b) W wb p c := by
  obtain ⟨i, hw, e, hF⟩ := h.ex
  refine ⟨⟨i, hw, e, fun j hj => ?_⟩, h.gd⟩
  rcases hj with q | q
  · exact hF j q
  · subst q
    exact ⟨(Array.getElem?_eq_some_iff.1 hb).1, hw.other hb hO⟩
theorem KS.less {F F' : Nat → Prop} {W : World} {wb : Nat} {p : Pw} {c : Nat} (h : KS F W wb p c) (hf : ∀ j, F' j → F j) : KS F' W wb p c := by
  obtain ⟨i, hw, e, hF⟩ := h.ex
  exact ⟨⟨i, hw, e, fun j hj => hF j (hf j hj)⟩, h.gd⟩
/-- What others write is nothing to the window. -/
theorem KS.write {F S : Nat → Prop} {W W' : World} {wb : Nat} {p : Pw} {c : Nat} (h : KS F W wb p c) (hc : Ch S W W') (hs : ∀ j, S j → F j) (h5 : Kb W W') (h0 : ¬ S 0) : KS F W' wb p c := by
  obtain ⟨i, hw, e, hF⟩ := h.ex
  obtain ⟨o, ho, hO⟩ := h.gd.oth
  have he : W'.heap[0]? = W.heap[0]? := hc.block 0 (Array.getElem?_eq_some_iff.1 ho).1 h0
  exact ⟨⟨i, hw.keep hc (fun j hj q => (hF j (hs j q)).2 hj) h5, e, fun j hj => ⟨Nat.lt_of_lt_of_le (hF j hj).1 hc.size, (hF j hj).2⟩⟩, ⟨fun j hj => (cell_heap (by exact he)).trans (h.gd.tab j hj), o, he.trans ho, hO⟩⟩
section
variable {F : Nat → Prop} {W : World} {wb : Nat} {p : Pw} {c : Nat}
theorem ks_new (n q : Int) (w : World) (g : Gd w) : Calls Tryd.prog 8 #[.int .i64 n, .int .i64 q] w fun e w' => e = .returned (.pointer (some ⟨w.heap.size, 0, none⟩)) ∧ KS (fun j => j < w.heap.size) w' w.heap.size ⟨mostOf n, queueOf q, false, 0, [], [], []⟩ 0 ∧ Below w.heap.size w w' := by
  refine (new_any n q w).mono ?_
  rintro e w' ⟨rfl, rfl⟩
  have hb : Below w.heap.size w (w.alloc (.cells (newI (mostOf n) (queueOf q)).cs 75)) := (Below.refl _ _).alloc (Nat.le_refl _) _
  refine ⟨rfl, ⟨⟨newI (mostOf n) (queueOf q), ws_new w _ _ ⟨(mostOf_is n).1, (mostOf_is n).2.1⟩ (queueOf_is q).1, rfl, fun j hj => ⟨by simp; omega, ?_⟩⟩, g.below hb⟩, hb⟩
  rintro (q | q | q | q | ⟨f, hf, _⟩)
  · omega
  · cases q
  · cases q
  · simp [newI, Value.ownBlock] at q
  · cases hf
theorem ks_send (h : KS F W wb p c) (hc : c + 1 ≤ 200000) (t : ByteArray) (v : Value) (q : Int) (r : Bool) (xs : List Int) (hp : PBi W v xs) (ht : t.size ≤ 1000000) : Calls Tryd.prog 17 #[.pointer (some ⟨wb, 0, none⟩), .agg #[.string t, v, .int .i64 q, .bool r]] W fun e w' => ∃ v', e = .returned (.tuple #[v', .bool (pSend p ⟨t, q, r, xs⟩).2.2.1, .int .i64 (pSend p ⟨t, q, r, xs⟩).2.2.2]) ∧ KS F w' wb (pSend p ⟨t, q, r, xs⟩).1 (c + 1) ∧ Fr F W w' ∧ Lst w' v' (pSend p ⟨t, q, r, xs⟩).2.1 := by
  obtain ⟨i, hw, rfl, hF⟩ := h.ex
  refine (send_ws (m := ⟨t, v, q, r, xs⟩) hw h.gd hc hp ht).mono ?_
  rintro e w' ⟨v', rfl, o⟩
  exact ⟨v', rfl, KS.out hF o⟩
theorem ks_ack (h : KS F W wb p c) (hc : c ≤ 200000) (kind id : Int) (hid : okI id) : Calls Tryd.prog 20 #[.pointer (some ⟨wb, 0, none⟩), .int .i64 kind, .int .i64 id] W fun e w' => ∃ v', e = .returned v' ∧ KS F w' wb (pAck p kind id).1 c ∧ Fr F W w' ∧ Lst w' v' (pAck p kind id).2 := by
  obtain ⟨i, hw, rfl, hF⟩ := h.ex
  refine (ack_ws hw h.gd hc kind id hid).mono ?_
  rintro e w' ⟨v', rfl, o⟩
  exact ⟨v', rfl, KS.out hF o⟩
theorem ks_up (h : KS F W wb p c) (hc : c ≤ 200000) : Calls Tryd.prog 19 #[.pointer (some ⟨wb, 0, none⟩)] W fun e w' => ∃ v', e = .returned v' ∧ KS F w' wb (pUp p).1 c ∧ Fr F W w' ∧ Lst w' v' (pUp p).2 := by
  obtain ⟨i, hw, rfl, hF⟩ := h.ex
  refine (up_ws hw h.gd hc).mono ?_
  rintro e w' ⟨v', rfl, o⟩
  exact ⟨v', rfl, KS.out hF o⟩
theorem ks_down (h : KS F W wb p c) : Calls Tryd.prog 23 #[.pointer (some ⟨wb, 0, none⟩)] W fun e w' => e = .returned (.tuple #[]) ∧ KS F w' wb { p with on := false } c ∧ Fr F W w' := by
  obtain ⟨i, hw, rfl, hF⟩ := h.ex
  refine (down_ws hw).mono ?_
  rintro e w' ⟨rfl, s⟩
  exact ⟨rfl, KS.st hF s (s.gd hw h.gd) rfl⟩
theorem ks_reserve (h : KS F W wb p c) (hc : c + 1 ≤ 200000) : Calls Tryd.prog 9 #[.pointer (some ⟨wb, 0, none⟩)] W fun e w' => e = .returned (.tuple #[.int .i64 (pReserve p).2.1, .bool (pReserve p).2.2]) ∧ KS F w' wb (pReserve p).1 (c + 1) ∧ Fr F W w' := by
  obtain ⟨i, hw, rfl, hF⟩ := h.ex
  refine (reserve_ws hw h.gd hc).mono ?_
  rintro e w' ⟨rfl, g, i', s, ep⟩
  exact ⟨rfl, KS.st hF s g ep⟩
theorem ks_free (h : KS F W wb p c) (hc : c ≤ 200000) (id : Int) (hid : okI id) : Calls Tryd.prog 10 #[.pointer (some ⟨wb, 0, none⟩), .int .i64 id] W fun e w' => e = .returned (.bool (pFree p id).2) ∧ KS F w' wb (pFree p id).1 c ∧ Fr F W w' := by
  obtain ⟨i, hw, rfl, hF⟩ := h.ex
  refine (free_ws hw h.gd hc id hid).mono ?_
  rintro e w' ⟨rfl, g, i', s, ep⟩
  exact ⟨rfl, KS.st hF s g ep⟩
theorem ks_online (h : KS F W wb p c) : Calls Tryd.prog 15 #[.pointer (some ⟨wb, 0, none⟩)] W fun e w' => e = .returned (.bool p.on) ∧ w' = W := by
  obtain ⟨i, hw, rfl, hF⟩ := h.ex
  exact online_ws hw
theorem ks_flying (h : KS F W wb p c) : Calls Tryd.prog 13 #[.pointer (some ⟨wb, 0, none⟩)] W fun e w' => e = .returned (.int .i64 (p.fl.length : Int)) ∧ w' = W := by
  obtain ⟨i, hw, rfl, hF⟩ := h.ex
  have := flying_ws hw
  rw [show i.p.fl.length = i.fs.length by simp [WI.p]]
  exact this
theorem ks_waiting (h : KS F W wb p c) (hc : c ≤ 200000) : Calls Tryd.prog 14 #[.pointer (some ⟨wb, 0, none⟩)] W fun e w' => e = .returned (.int .i64 (p.wt.length : Int)) ∧ Below W.heap.size W w' := by
  obtain ⟨i, hw, rfl, hF⟩ := h.ex
  have := waiting_ws hw hc
  rw [show i.p.wt.length = i.L.length by simp [WI.p]]
  exact this
/-- An image, told purely. -/
structure ImP (w w' : World) (p : Pw) (vf vq : Value) : Prop where
  fl : ∃ L, w'.ownsRow w.heap.size 45 6 vf p.fl.length (frow L) ∧ L.map Fo.p = p.fl ∧ ∀ o ∈ L, PB w' o.m.v o.m.xs
  qu : ∃ L', w'.ownsRow w.heap.size 30 4 vq p.wt.length (mrow L') ∧ L'.map Ms.p = p.wt ∧ ∀ o ∈ L', PB w' o.v o.xs
theorem ks_image (h : KS F W wb p c) (hc : c ≤ 200000) : Calls Tryd.prog 12 #[.pointer (some ⟨wb, 0, none⟩)] W fun e w' => ∃ vf vq, e = .returned (.agg #[.int .i64 (p.last : Int), vf, vq]) ∧ ImP W w' p vf vq ∧ Below W.heap.size W w' := by
  obtain ⟨i, hw, rfl, hF⟩ := h.ex
  refine (image_ws hw hc).mono ?_
  rintro e w' ⟨vf, vq, rfl, hI, hb⟩
  refine ⟨vf, vq, rfl, ⟨?_, ?_⟩, hb⟩
  · obtain ⟨L, a, b, d⟩ := hI.fl
    exact ⟨L, by rw [show i.p.fl.length = i.fs.length by simp [WI.p]]; exact a, b, d⟩
  · obtain ⟨L, a, b, d⟩ := hI.qu
    exact ⟨L, by rw [show i.p.wt.length = i.L.length by simp [WI.p]]; exact a, b, d⟩
theorem ks_play (h : KS F W wb p c) (hc : c + 1 ≤ 200000) (o : Ov) (hp : PBi W o.m.v o.m.xs) (ht : o.m.t.size ≤ 1000000) (ha : okI o.a) (hn : okI o.n) : Calls Tryd.prog 11 #[.pointer (some ⟨wb, 0, none⟩), .agg o.cs] W fun e w' => ∃ v', e = .returned v' ∧ KS F w' wb (pPlay p o.k o.m.p o.a o.n).1 (c + 1) ∧ Fr F W w' ∧ Lst w' v' (pPlay p o.k o.m.p o.a o.n).2 := by
  obtain ⟨i, hw, rfl, hF⟩ := h.ex
  obtain ⟨k, s, ⟨t, v, q, r, xs⟩, a, n⟩ := o
  obtain ⟨pa, pn, pc, hv⟩ := hp.sl
  simp only at hv
  subst hv
  have fin : ∀ {e : Ending} {w' : World}, (∃ v, e = .returned v ∧ Out W w' wb i (c + 1) (pPlay i.p k ⟨t, q, r, xs⟩ a n).1 (pPlay i.p k ⟨t, q, r, xs⟩ a n).2 v) → ∃ v', e = .returned v' ∧ KS F w' wb (pPlay i.p k ⟨t, q, r, xs⟩ a n).1 (c + 1) ∧ Fr F W w' ∧ Lst w' v' (pPlay i.p k ⟨t, q, r, xs⟩ a n).2 := fun ⟨v, e, o⟩ => ⟨v, e, KS.out hF o⟩
  by_cases k1 : k = 1
  · subst k1; exact (play_send hw h.gd hc hp ht ha hn).mono (fun e w' z => fin z)
  by_cases k2 : k = 2
  · subst k2; exact (play_ack hw h.gd hc hp ht ha hn).mono (fun e w' z => fin z)
  by_cases k3 : k = 3
  · subst k3; exact (play_up hw h.gd hc hp ht ha hn).mono (fun e w' z => fin z)
  by_cases k4 : k = 4
  · subst k4; exact (play_down hw h.gd hc hp ht ha hn).mono (fun e w' z => fin z)
  by_cases k5 : k = 5
  · subst k5; exact (play_res hw h.gd hc hp ht ha hn).mono (fun e w' z => fin z)
  by_cases k6 : k = 6
  · subst k6; exact (play_free hw h.gd hc hp ht ha hn).mono (fun e w' z => fin z)
  by_cases k9 : k = 9
  · subst k9; exact (play_nine hw h.gd hc hp ht ha hn).mono (fun e w' z => fin z)
  exact (play_else hw h.gd hc hp ht ha hn (by simpa using k1) (by simpa using k2) (by simpa using k3) (by simpa using k4) (by simpa using k5) (by simpa using k6) (by simpa using k9)).mono (fun e w' z => fin z)
end
end Go.Proofs.YtbjhblnagmpnfaaDoor
