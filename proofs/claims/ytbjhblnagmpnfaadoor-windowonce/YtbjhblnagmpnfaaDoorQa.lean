import Derived.Test.YtbjhblnagmpnfaaDoorPa
namespace Go.Proofs.YtbjhblnagmpnfaaDoor
open Go Go.RowKit
set_option linter.unusedSimpArgs false
set_option linter.unusedVariables false
/-! ### Each message once, in order: purely -/
/-- The messages of what is sent for the first time. -/
def isNew (x : Pp) : Bool := decide (x.k = 3) && !x.d
def msgsOf (X : List Pp) : List Mp := (X.filter isNew).map (·.m)
theorem msgsOf_app (A B : List Pp) : msgsOf (A ++ B) = msgsOf A ++ msgsOf B := by simp [msgsOf]
theorem msgs_resend (fl : List Fp) : msgsOf (fl.map resend) = [] := by
  induction fl with
  | nil => rfl
  | cons f fl ih =>
    have e : msgsOf [resend f] = [] := by
      unfold resend
      cases h : f.rel <;> simp [msgsOf, isNew]
    have : (f :: fl).map resend = [resend f] ++ fl.map resend := rfl
    rw [this, msgsOf_app, e, ih]
    rfl
def costM (m : Mp) : Nat := if m.q = 2 then 2 else 1
def costF (f : Fp) : Nat := if f.rel = false ∧ f.m.q = 2 then 2 else 1
def pot (p : Pw) : Nat := (p.fl.map costF).sum + (p.wt.map costM).sum
theorem costM_le (m : Mp) : costM m ≤ 2 := by unfold costM; split <;> omega
theorem costF_le (f : Fp) : costF f ≤ 2 := by unfold costF; split <;> omega
theorem sum_le {α : Type} (f : α → Nat) (h : ∀ x, f x ≤ 2) (l : List α) : (l.map f).sum ≤ 2 * l.length := by
  induction l with
  | nil => simp
  | cons x l ih => have := h x; simp; omega
theorem pot_le (p : Pw) : pot p ≤ 2 * (p.fl.length + p.wt.length) := by
  have h1 := sum_le costF costF_le p.fl
  have h2 := sum_le costM costM_le p.wt
  unfold pot
  omega
/-- What filling does. -/
theorem fillL_msgs : ∀ (wt : List Mp) (p : Pw), wt = msgsOf (pFillL wt p).2 ++ (pFillL wt p).1.wt ∧ (pFillL wt p).1.fl.length = p.fl.length + (msgsOf (pFillL wt p).2).length ∧ ((pFillL wt p).1.fl.map costF).sum + ((pFillL wt p).1.wt.map costM).sum = (p.fl.map costF).sum + (wt.map costM).sum
  | [], p => by simp [pFillL, msgsOf]
  | m :: wt, p => by
    simp only [pFillL]
    split
    · obtain ⟨a, b, c⟩ := fillL_msgs wt (pLaunch { p with wt := wt } m).1
      have e : msgsOf ((pLaunch { p with wt := wt } m).2 :: (pFillL wt (pLaunch { p with wt := wt } m).1).2) = m :: msgsOf (pFillL wt (pLaunch { p with wt := wt } m).1).2 := by
        simp [msgsOf, isNew, pLaunch]
      have hf : (pLaunch { p with wt := wt } m).1.fl = p.fl ++ [⟨abvF (Pw.T { p with wt := wt }) p.last, false, m⟩] := rfl
      rw [hf] at b c
      refine ⟨?_, ?_, ?_⟩
      · simp only
        rw [e, List.cons_append, ← a]
      · simp only
        rw [e, b]
        simp
        omega
      · simp only
        rw [c]
        simp [costF, costM]
        omega
    · simp [msgsOf]
theorem fill_msgs (p : Pw) : p.wt = msgsOf (pFill p).2 ++ (pFill p).1.wt ∧ (pFill p).1.fl.length = p.fl.length + (msgsOf (pFill p).2).length ∧ pot (pFill p).1 = pot p := fillL_msgs p.wt p
/-- What is kept of the order by a call that takes nothing. -/
structure Kp (p p' : Pw) (X : List Pp) : Prop where
  wt : p.wt = msgsOf X ++ p'.wt
  fl : p'.fl.length ≤ p.fl.length + (msgsOf X).length
theorem Kp.same (p : Pw) : Kp p p [] := ⟨by simp [msgsOf], by simp⟩
theorem kp_ack (p : Pw) (k id : Int) : Kp p (pAck p k id).1 (pAck p k id).2 := by
  unfold pAck
  split
  · exact Kp.same p
  · rename_i f _
    unfold pAckF
    split
    · exact Kp.same p
    · split
      · exact ⟨by simp [msgsOf, isNew], by simp⟩
      · split
        · obtain ⟨a, b, c⟩ := fill_msgs { p with fl := p.fl.filter (fun g => g.id != f.id) }
          refine ⟨a, ?_⟩
          rw [b]
          have : (p.fl.filter (fun g => g.id != f.id)).length ≤ p.fl.length := List.length_filter_le _ _
          show (p.fl.filter (fun g => g.id != f.id)).length + _ ≤ _
          omega
        · exact Kp.same p
theorem kp_up (p : Pw) : Kp p (pUp p).1 (pUp p).2 := by
  obtain ⟨a, b, c⟩ := fill_msgs { p with on := true }
  unfold pUp
  refine ⟨?_, ?_⟩
  · show p.wt = msgsOf (p.fl.map resend ++ _) ++ _
    rw [msgsOf_app, msgs_resend]
    exact a
  · show (pFill { p with on := true }).1.fl.length ≤ p.fl.length + (msgsOf (p.fl.map resend ++ _)).length
    rw [msgsOf_app, msgs_resend, b]
    simp
theorem kp_play {p : Pw} (k : Int) (m : Mp) (a n : Int) (h1 : k ≠ 1) : Kp p (pPlay p k m a n).1 (pPlay p k m a n).2 := by
  unfold pPlay
  rw [if_neg h1]
  split
  · exact kp_ack p a n
  · split
    · exact kp_up p
    · split
      · exact ⟨by simp [msgsOf], by simp⟩
      · split
        · unfold pReserve
          split
          · exact Kp.same p
          · exact ⟨by simp [msgsOf], by simp⟩
        · split
          · unfold pFree
            split
            · exact ⟨by simp [msgsOf], by simp⟩
            · exact Kp.same p
          · split
            · unfold pNine
              split
              · exact kp_ack p a _
              · exact Kp.same p
            · exact Kp.same p
/-- What Send takes. -/
theorem kp_send {p : Pw} (m : Mp) (hf : Full p) : p.wt ++ (if (pSend p m).2.2.1 then [m] else []) = msgsOf (pSend p m).2.1 ++ (pSend p m).1.wt ∧ (pSend p m).1.fl.length ≤ p.fl.length + (msgsOf (pSend p m).2.1).length ∧ ((pSend p m).2.2.1 = true → (pSend p m).2.2.2 = 0) ∧ ((m.q = 1 ∨ m.q = 2) → (pSend p m).2.2.2 = 0) := by
  unfold pSend
  split
  · split
    · rename_i hg
      have hw : p.wt = [] := Classical.byContradiction fun z => by have := hf hg.1 z; omega
      refine ⟨?_, ?_, fun _ => rfl, fun _ => rfl⟩
      · simp [msgsOf, isNew, pLaunch, hw]
      · simp [msgsOf, isNew, pLaunch]
    · split
      · exact ⟨by simp [msgsOf], by simp, fun _ => rfl, fun _ => rfl⟩
      · exact ⟨by simp [msgsOf], by simp, fun _ => rfl, fun _ => rfl⟩
  · rename_i hq
    exact ⟨by simp [msgsOf], by simp, fun z => (by cases z), fun z => absurd z hq⟩
end Go.Proofs.YtbjhblnagmpnfaaDoor
