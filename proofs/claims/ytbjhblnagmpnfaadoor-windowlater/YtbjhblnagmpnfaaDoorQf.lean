import Derived.Test.YtbjhblnagmpnfaaDoorQe
namespace Go.Proofs.YtbjhblnagmpnfaaDoor
open Go Go.RowKit Go.Shelf Go.Maps Go.Sort
set_option linter.unusedSimpArgs false
set_option linter.unusedVariables false
/-! ### How much is sent -/
theorem fillL_len : ∀ (wt : List Mp) (p : Pw), (pFillL wt p).2.length ≤ wt.length
  | [], p => by simp [pFillL]
  | m :: wt, p => by
    simp only [pFillL]
    split
    · have := fillL_len wt (pLaunch { p with wt := wt } m).1
      simp
      omega
    · simp
theorem fill_len (p : Pw) : (pFill p).2.length ≤ p.wt.length := fillL_len p.wt p
theorem ack_len (p : Pw) (k id : Int) : (pAck p k id).2.length ≤ p.fl.length + p.wt.length + 1 := by
  unfold pAck
  split
  · simp
  · rename_i f _
    unfold pAckF
    split
    · simp
    · split
      · simp
      · split
        · have := fill_len { p with fl := p.fl.filter (fun g => g.id != f.id) }
          simp only at this
          omega
        · simp
theorem up_len (p : Pw) : (pUp p).2.length ≤ p.fl.length + p.wt.length + 1 := by
  have := fill_len { p with on := true }
  unfold pUp
  simp only [List.length_append, List.length_map] at *
  omega
theorem send_len (p : Pw) (m : Mp) : (pSend p m).2.1.length ≤ p.fl.length + p.wt.length + 1 := by
  unfold pSend
  split
  · split
    · simp
    · split <;> simp
  · simp
theorem play_len (p : Pw) (k : Int) (m : Mp) (a n : Int) : (pPlay p k m a n).2.length ≤ p.fl.length + p.wt.length + 1 := by
  unfold pPlay
  split
  · exact send_len p m
  · split
    · exact ack_len p a n
    · split
      · exact up_len p
      · split
        · simp
        · split
          · simp
          · split
            · simp
            · split
              · unfold pNine
                split
                · exact ack_len p a _
                · simp
              · simp
/-! ### Calls within WindowOnce -/
/-- A list of packets, not yet heard. -/
def OsL (w0 w' : World) (wb sbx c : Nat) (tv sv : Value) (MT MS : List Ms) (v : Value) (p' : Pw) (X : List Pp) : Prop := ∃ S : List Pq, OS w0 w' wb sbx p' c tv sv MT MS (msgsOf X) ∧ S.map Pq.p = X ∧ w'.ownsRow 0 51 25 v S.length (prow S) ∧ (∀ q ∈ S, PB w' q.m.v q.m.xs) ∧ S.length ≤ 200000
section
variable {w0 W : World} {wb sbx : Nat} {p : Pw} {c : Nat} {tv sv : Value} {MT MS : List Ms}
theorem os_lst {W' : World} {p' : Pw} {c' : Nat} {X : List Pp} {v : Value} {Y : List Mp} (h : OS w0 W wb sbx p c tv sv MT MS Y) (k : KS (F5 (FO w0 sbx tv sv) W) W' wb p' c') (r : Fr (F5 (FO w0 sbx tv sv) W) W W') (l : Lst W' v X) (hf : Full p') (hi : MT.map Ms.p = MS.map Ms.p ++ msgsOf X ++ p'.wt) (hl : p'.fl.length ≤ MS.length + (msgsOf X).length) (hX : X.length ≤ p.fl.length + p.wt.length + 1) : OsL w0 W' wb sbx c' tv sv MT MS v p' X := by
  obtain ⟨S, a, b, e⟩ := l
  have hf' := h.ks.facts
  refine ⟨S, h.to k r hf hi hl, e, a, b, ?_⟩
  have : S.length = X.length := by rw [← e, List.length_map]
  omega
theorem os_kp {p' : Pw} {X : List Pp} (h : OS w0 W wb sbx p c tv sv MT MS []) (k : Kp p p' X) : MT.map Ms.p = MS.map Ms.p ++ msgsOf X ++ p'.wt ∧ p'.fl.length ≤ MS.length + (msgsOf X).length := by
  have h1 := h.inv
  have h2 := h.fln
  have h3 := k.fl
  refine ⟨?_, by simp at h2; omega⟩
  rw [h1, k.wt]
  simp
theorem os_play (h : OS w0 W wb sbx p c tv sv MT MS []) (hc : c + 1 ≤ 200000) (o : Ov) (hp : PBi W o.m.v o.m.xs) (ht : o.m.t.size ≤ 1000000) (ha : okI o.a) (hn : okI o.n) (h1 : o.k ≠ 1) : Calls Tryd.prog 11 #[.pointer (some ⟨wb, 0, none⟩), .agg o.cs] W fun e w' => ∃ v, e = .returned v ∧ OsL w0 w' wb sbx (c + 1) tv sv MT MS v (pPlay p o.k o.m.p o.a o.n).1 (pPlay p o.k o.m.p o.a o.n).2 := by
  refine (ks_play h.ks.add5 hc o hp ht ha hn).mono ?_
  rintro e w' ⟨v, rfl, k, r, l⟩
  have hk := os_kp h (kp_play o.k o.m.p o.a o.n h1)
  exact ⟨v, rfl, os_lst h k r l (play_full _ _ _ _ h.fu) hk.1 hk.2 (play_len _ _ _ _ _)⟩
theorem F5.of {F G : Nat → Prop} {W : World} (h : ∀ j, F j → G j) (j : Nat) (hj : F5 F W j) : F5 G W j := hj.elim (fun z => .inl (h j z)) .inr
theorem os_ack (h : OS w0 W wb sbx p c tv sv MT MS []) {ob : Nat} (hx : KS (fun j => FO w0 sbx tv sv j ∨ j = ob) W wb p c) (hob : ob < W.heap.size) (hc : c ≤ 200000) (kind id : Int) (hid : okI id) : Calls Tryd.prog 20 #[.pointer (some ⟨wb, 0, none⟩), .int .i64 kind, .int .i64 id] W fun e w' => ∃ v, e = .returned v ∧ OsL w0 w' wb sbx c tv sv MT MS v (pAck p kind id).1 (pAck p kind id).2 ∧ w'.heap[ob]? = W.heap[ob]? := by
  refine (ks_ack hx.add5 hc kind id hid).mono ?_
  rintro e w' ⟨v, rfl, k, r, l⟩
  have hk := os_kp h (kp_ack p kind id)
  exact ⟨v, rfl, os_lst h (k.less (F5.of (fun j z => .inl z))) (r.mono (F5.of (fun j z => .inl z))) l (ack_ok kind id h.fu).2 hk.1 hk.2 (ack_len _ _ _), r.at (.inl (.inr rfl)) hob⟩
theorem os_up (h : OS w0 W wb sbx p c tv sv MT MS []) (hc : c ≤ 200000) : Calls Tryd.prog 19 #[.pointer (some ⟨wb, 0, none⟩)] W fun e w' => ∃ v, e = .returned v ∧ OsL w0 w' wb sbx c tv sv MT MS v (pUp p).1 (pUp p).2 := by
  refine (ks_up h.ks.add5 hc).mono ?_
  rintro e w' ⟨v, rfl, k, r, l⟩
  have hk := os_kp h (kp_up p)
  exact ⟨v, rfl, os_lst h k r l (up_ok p).2 hk.1 hk.2 (up_len _)⟩
/-- Send: what is taken is laid down behind it. -/
def SentO (w0 W : World) (wb sbx c : Nat) (tv sv : Value) (MT MS : List Ms) (v : Value) (p' : Pw) (X : List Pp) (m : Mp) (ok : Bool) : Prop := ∃ S : List Pq, S.map Pq.p = X ∧ W.ownsRow 0 51 25 v S.length (prow S) ∧ (∀ q ∈ S, PB W q.m.v q.m.xs) ∧ S.length ≤ 200000 ∧ OW w0 W wb sbx p' c tv sv MT MS ∧ MT.map Ms.p ++ (if ok then [m] else []) = MS.map Ms.p ++ msgsOf X ++ p'.wt ∧ p'.fl.length ≤ MS.length + (msgsOf X).length
theorem SentO.no {v : Value} {p' : Pw} {X : List Pp} {m : Mp} (h : SentO w0 W wb sbx c tv sv MT MS v p' X m false) : OsL w0 W wb sbx c tv sv MT MS v p' X := by
  obtain ⟨S, h1, h2, h3, h4, h5, h6, h7⟩ := h
  exact ⟨S, { h5 with inv := by simpa using h6, fln := h7 }, h1, h2, h3, h4⟩
theorem os_send (h : OS w0 W wb sbx p c tv sv MT MS []) {ob : Nat} (hx : KS (fun j => FO w0 sbx tv sv j ∨ j = ob) W wb p c) (hob : ob < W.heap.size) (hc : c + 1 ≤ 200000) (m : Ms) (hp : PBi W m.v m.xs) (ht : m.t.size ≤ 1000000) : Calls Tryd.prog 17 #[.pointer (some ⟨wb, 0, none⟩), .agg #[.string m.t, m.v, .int .i64 m.q, .bool m.r]] W fun e w' => ∃ v, e = .returned (.tuple #[v, .bool (pSend p m.p).2.2.1, .int .i64 (pSend p m.p).2.2.2]) ∧ SentO w0 w' wb sbx (c + 1) tv sv MT MS v (pSend p m.p).1 (pSend p m.p).2.1 m.p (pSend p m.p).2.2.1 ∧ w'.heap[ob]? = W.heap[ob]? := by
  refine (ks_send hx.add5 hc m.t m.v m.q m.r m.xs hp ht).mono ?_
  rintro e w' ⟨v, rfl, k, r, S, l1, l2, l3⟩
  have hk := kp_send m.p h.fu
  have hf' := h.ks.facts
  have hl := send_len p m.p
  have e3 : S.length = (pSend p m.p).2.1.length := by rw [show (pSend p m.p).2.1 = S.map Pq.p from l3.symm, List.length_map]
  have h1 := h.inv
  have h2 := h.fln
  refine ⟨v, rfl, ⟨S, l3, l1, l2, by omega, h.toOW.to (k.less (F5.of (fun j z => .inl z))) (r.mono (F5.of (fun j z => .inl z))) (send_ok _ h.fu).2, ?_, ?_⟩, r.at (.inl (.inr rfl)) hob⟩
  · rw [h1, List.append_nil, List.append_assoc, hk.1, List.append_assoc]
  · have := hk.2.1
    simp at h2
    omega
/-- The messages of a list are heard. -/
theorem os_hear {v : Value} {X : List Pp} (h : OsL w0 W wb sbx c tv sv MT MS v p X) (hl : MS.length ≤ 500000) : Calls Tryd.prog 16 #[v, .pointer (some ⟨sbx, 0, none⟩)] W fun e w' => e = .returned (.tuple #[]) ∧ ∃ lv MS', OS w0 w' wb sbx p c tv lv MT MS' [] ∧ MS'.length ≤ MS.length + X.length := by
  obtain ⟨S, ho, rfl, hr, hp, hb⟩ := h
  refine (hear_any hr hp ho.st ho.box (by omega)).mono ?_
  rintro e w' ⟨rfl, lv, H⟩
  refine ⟨rfl, lv, _, ho.heard H hp, ?_⟩
  rw [List.length_append, List.length_map]
  have : (newMs S).length ≤ S.length := by
    unfold newMs
    rw [List.length_map]
    exact List.length_filter_le _ _
  omega
end
end Go.Proofs.YtbjhblnagmpnfaaDoor
