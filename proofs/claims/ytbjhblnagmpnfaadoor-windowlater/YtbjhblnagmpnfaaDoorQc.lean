import Derived.Test.YtbjhblnagmpnfaaDoorPa
import Derived.Laws.BytesArg
import Derived.Laws.BytesString
namespace Go.Proofs.YtbjhblnagmpnfaaDoor
open Go Go.RowKit
set_option linter.unusedSimpArgs false
set_option linter.unusedVariables false
/-! ### Each message once, in order: purely -/
/-- The messages of what is sent for the first time. -/
def isNew (x : Pp) : Bool := decide (x.k = 3) && !x.d
def msgsOf (X : List Pp) : List Mp := (X.filter isNew).map (·.m)
theorem msgsOf_app (A B : List Pp) : msgsOf (A ++ B) = msgsOf A ++ msgsOf B := by simp [msgsOf]
theorem msgs_resend (fl : List Fp) : msgsOf (fl.map resend) = [] := by
  induction fl with
  | nil => rfl
  | cons f fl ih =>
    have e : msgsOf [resend f] = [] := by
      unfold resend
      cases h : f.rel <;> simp [msgsOf, isNew]
    have : (f :: fl).map resend = [resend f] ++ fl.map resend := rfl
    rw [this, msgsOf_app, e, ih]
    rfl
def costM (m : Mp) : Nat := if m.q = 2 then 2 else 1
def costF (f : Fp) : Nat := if f.rel = false ∧ f.m.q = 2 then 2 else 1
def pot (p : Pw) : Nat := (p.fl.map costF).sum + (p.wt.map costM).sum
theorem costM_le (m : Mp) : costM m ≤ 2 := by unfold costM; split <;> omega
theorem costF_le (f : Fp) : costF f ≤ 2 := by unfold costF; split <;> omega
theorem sum_le {α : Type} (f : α → Nat) (h : ∀ x, f x ≤ 2) (l : List α) : (l.map f).sum ≤ 2 * l.length := by
  induction l with
  | nil => simp
  | cons x l ih => have := h x; simp; omega
theorem pot_le (p : Pw) : pot p ≤ 2 * (p.fl.length + p.wt.length) := by
  have h1 := sum_le costF costF_le p.fl
  have h2 := sum_le costM costM_le p.wt
  unfold pot
  omega
/-- What filling does. -/
theorem fillL_msgs : ∀ (wt : List Mp) (p : Pw), wt = msgsOf (pFillL wt p).2 ++ (pFillL wt p).1.wt ∧ (pFillL wt p).1.fl.length = p.fl.length + (msgsOf (pFillL wt p).2).length ∧ ((pFillL wt p).1.fl.map costF).sum + ((pFillL wt p).1.wt.map costM).sum = (p.fl.map costF).sum + (wt.map costM).sum
  | [], p => by simp [pFillL, msgsOf]
  | m :: wt, p => by
    simp only [pFillL]
    split
    · obtain ⟨a, b, c⟩ := fillL_msgs wt (pLaunch { p with wt := wt } m).1
      have e : msgsOf ((pLaunch { p with wt := wt } m).2 :: (pFillL wt (pLaunch { p with wt := wt } m).1).2) = m :: msgsOf (pFillL wt (pLaunch { p with wt := wt } m).1).2 := by
        simp [msgsOf, isNew, pLaunch]
      have hf : (pLaunch { p with wt := wt } m).1.fl = p.fl ++ [⟨abvF (Pw.T { p with wt := wt }) p.last, false, m⟩] := rfl
      rw [hf] at b c
      refine ⟨?_, ?_, ?_⟩
      · simp only
        rw [e, List.cons_append, ← a]
      · simp only
        rw [e, b]
        simp
        omega
      · simp only
        rw [c]
        simp [costF, costM]
        omega
    · simp [msgsOf]
theorem fill_msgs (p : Pw) : p.wt = msgsOf (pFill p).2 ++ (pFill p).1.wt ∧ (pFill p).1.fl.length = p.fl.length + (msgsOf (pFill p).2).length ∧ pot (pFill p).1 = pot p := fillL_msgs p.wt p
/-- What is kept of the order by a call that takes nothing. -/
structure Kp (p p' : Pw) (X : List Pp) : Prop where
  wt : p.wt = msgsOf X ++ p'.wt
  fl : p'.fl.length ≤ p.fl.length + (msgsOf X).length
theorem Kp.same (p : Pw) : Kp p p [] := ⟨by simp [msgsOf], by simp⟩
theorem kp_ack (p : Pw) (k id : Int) : Kp p (pAck p k id).1 (pAck p k id).2 := by
  unfold pAck
  split
  · exact Kp.same p
  · rename_i f _
    unfold pAckF
    split
    · exact Kp.same p
    · split
      · exact ⟨by simp [msgsOf, isNew], by simp⟩
      · split
        · obtain ⟨a, b, c⟩ := fill_msgs { p with fl := p.fl.filter (fun g => g.id != f.id) }
          refine ⟨a, ?_⟩
          rw [b]
          have : (p.fl.filter (fun g => g.id != f.id)).length ≤ p.fl.length := List.length_filter_le _ _
          show (p.fl.filter (fun g => g.id != f.id)).length + _ ≤ _
          omega
        · exact Kp.same p
theorem kp_up (p : Pw) : Kp p (pUp p).1 (pUp p).2 := by
  obtain ⟨a, b, c⟩ := fill_msgs { p with on := true }
  unfold pUp
  refine ⟨?_, ?_⟩
  · show p.wt = msgsOf (p.fl.map resend ++ _) ++ _
    rw [msgsOf_app, msgs_resend]
    exact a
  · show (pFill { p with on := true }).1.fl.length ≤ p.fl.length + (msgsOf (p.fl.map resend ++ _)).length
    rw [msgsOf_app, msgs_resend, b]
    simp
theorem kp_play {p : Pw} (k : Int) (m : Mp) (a n : Int) (h1 : k ≠ 1) : Kp p (pPlay p k m a n).1 (pPlay p k m a n).2 := by
  unfold pPlay
  rw [if_neg h1]
  split
  · exact kp_ack p a n
  · split
    · exact kp_up p
    · split
      · exact ⟨by simp [msgsOf], by simp⟩
      · split
        · unfold pReserve
          split
          · exact Kp.same p
          · exact ⟨by simp [msgsOf], by simp⟩
        · split
          · unfold pFree
            split
            · exact ⟨by simp [msgsOf], by simp⟩
            · exact Kp.same p
          · split
            · unfold pNine
              split
              · exact kp_ack p a _
              · exact Kp.same p
            · exact Kp.same p
/-- What Send takes. -/
theorem kp_send {p : Pw} (m : Mp) (hf : Full p) : p.wt ++ (if (pSend p m).2.2.1 then [m] else []) = msgsOf (pSend p m).2.1 ++ (pSend p m).1.wt ∧ (pSend p m).1.fl.length ≤ p.fl.length + (msgsOf (pSend p m).2.1).length ∧ ((pSend p m).2.2.1 = true → (pSend p m).2.2.2 = 0) ∧ ((m.q = 1 ∨ m.q = 2) → (pSend p m).2.2.2 = 0) := by
  unfold pSend
  split
  · split
    · rename_i hg
      have hw : p.wt = [] := Classical.byContradiction fun z => by have := hf hg.1 z; omega
      refine ⟨?_, ?_, fun _ => rfl, fun _ => rfl⟩
      · simp [msgsOf, isNew, pLaunch, hw]
      · simp [msgsOf, isNew, pLaunch]
    · split
      · exact ⟨by simp [msgsOf], by simp, fun _ => rfl, fun _ => rfl⟩
      · exact ⟨by simp [msgsOf], by simp, fun _ => rfl, fun _ => rfl⟩
  · rename_i hq
    exact ⟨by simp [msgsOf], by simp, fun z => (by cases z), fun z => absurd z hq⟩
end Go.Proofs.YtbjhblnagmpnfaaDoor
namespace Go.Proofs.YtbjhblnagmpnfaaDoor
open Go Go.RowKit
set_option linter.unusedSimpArgs false
set_option linter.unusedVariables false
theorem play_full {p : Pw} (k : Int) (m : Mp) (a n : Int) (h : Full p) : Full (pPlay p k m a n).1 := by
  by_cases h5 : k = 5
  · subst h5
    have e : (pPlay p 5 m a n).1 = (pReserve p).1 := by unfold pPlay; simp
    rw [e]
    unfold pReserve
    split
    · exact h
    · exact h
  · by_cases h6 : k = 6
    · subst h6
      have e : (pPlay p 6 m a n).1 = (pFree p n).1 := by unfold pPlay; simp
      rw [e]
      unfold pFree
      split
      · exact h
      · exact h
    · exact (play_ok k m a n h h5 h6).2
theorem fill_on (p : Pw) : (pFill p).1.on = p.on := (fillL_ok p.wt p).2.2
theorem filter_head {f : Fp} {fl : List Fp} (hn : ((f :: fl).map (·.id)).Nodup) : (f :: fl).filter (fun g => g.id != f.id) = fl := by
  simp only [List.map_cons, List.nodup_cons] at hn
  rw [List.filter_cons_of_neg (by simp), List.filter_eq_self]
  intro g hg
  simp only [bne_iff_ne, ne_eq]
  intro e
  exact hn.1 (by rw [← e]; exact List.mem_map.2 ⟨g, hg, rfl⟩)
theorem map_head {f : Fp} {fl : List Fp} (hn : ((f :: fl).map (·.id)).Nodup) : (f :: fl).map (relP f.id) = ⟨f.id, true, zMp⟩ :: fl := by
  simp only [List.map_cons, List.nodup_cons] at hn
  have e1 : relP f.id f = ⟨f.id, true, zMp⟩ := if_pos rfl
  rw [List.map_cons, e1]
  congr 1
  have : fl.map (relP f.id) = fl.map id := by
    apply List.map_congr_left
    intro g hg
    exact if_neg (fun e => hn.1 (by rw [← e]; exact List.mem_map.2 ⟨g, hg, rfl⟩))
  rw [this, List.map_id]
/-- The first one under way is acknowledged. -/
theorem ack_first {p : Pw} {f : Fp} {fl : List Fp} (hp : p.fl = f :: fl) (hon : p.on = true) (hn : (p.fl.map (·.id)).Nodup) :
    (f.rel = true → pot (pAck p 7 f.id).1 + 1 = pot p ∧ (pAck p 7 f.id).1.on = true) ∧ (f.rel = false → f.m.q = 2 → pot (pAck p 5 f.id).1 + 1 = pot p ∧ (pAck p 5 f.id).1.on = true ∧ (pAck p 5 f.id).2 = [⟨6, false, f.id, zMp⟩]) ∧ (f.rel = false → f.m.q ≠ 2 → pot (pAck p 4 f.id).1 + 1 = pot p ∧ (pAck p 4 f.id).1.on = true) := by
  have hfind : p.fl.find? (fun g => decide ((g.id : Int) = (f.id : Int))) = some f := by rw [hp]; simp
  have e : ∀ k, pAck p k f.id = pAckF p k f.id f := fun k => by unfold pAck; rw [hfind]
  have hne : ¬ p.on = false := by rw [hon]; simp
  rw [hp] at hn
  have hfil : p.fl.filter (fun g => g.id != f.id) = fl := by rw [hp]; exact filter_head hn
  have hmap : p.fl.map (relP f.id) = ⟨f.id, true, zMp⟩ :: fl := by rw [hp]; exact map_head hn
  refine ⟨fun hr => ?_, fun hr hq => ?_, fun hr hq => ?_⟩
  · have ha : awt f.m.q f.rel = 7 := by unfold awt; rw [hr]; rfl
    have e2 : pAckF p 7 f.id f = pFill { p with fl := fl } := by
      unfold pAckF
      rw [if_neg hne, if_neg (by omega), ha, if_pos rfl, hfil]
    rw [e, e2, (fill_msgs _).2.2, fill_on]
    refine ⟨?_, hon⟩
    unfold pot
    rw [hp]
    simp [costF, hr]
    omega
  · have ha : awt f.m.q f.rel = 5 := by unfold awt; rw [hr, hq]; rfl
    have e2 : pAckF p 5 f.id f = ({ p with fl := ⟨f.id, true, zMp⟩ :: fl }, [⟨6, false, f.id, zMp⟩]) := by
      unfold pAckF
      rw [if_neg hne, if_pos ⟨rfl, .inl ha⟩, hmap]
    rw [e, e2]
    refine ⟨?_, hon, rfl⟩
    unfold pot
    rw [hp]
    simp [costF, hr, hq]
    omega
  · have ha : awt f.m.q f.rel = 4 := by unfold awt; rw [hr, if_neg hq]; rfl
    have e2 : pAckF p 4 f.id f = pFill { p with fl := fl } := by
      unfold pAckF
      rw [if_neg hne, if_neg (by omega), ha, if_pos rfl, hfil]
    rw [e, e2, (fill_msgs _).2.2, fill_on]
    refine ⟨?_, hon⟩
    unfold pot
    rw [hp]
    simp [costF, hr, hq]
    omega
/-- At last nothing waits. -/
theorem rest_wt {p : Pw} (h : Full p) (hon : p.on = true) (hm : 1 ≤ p.most) (hfl : p.fl = []) : p.wt = [] := Classical.byContradiction fun z => by
  have := h hon z
  rw [hfl] at this
  simp at this
  omega
end Go.Proofs.YtbjhblnagmpnfaaDoor
namespace Go.Proofs.YtbjhblnagmpnfaaDoor
open Go Go.RowKit Go.Shelf Go.Maps Go.Sort
set_option linter.unusedSimpArgs false
set_option linter.unusedVariables false
/-! ### Two messages held against each other -/
def strL (xs : List Int) : ByteArray := strOfNums xs
theorem conv_i {w : World} {v : Value} {xs : List Int} (h : PBi w v xs) : (convert 28 9 v).run Tryd.prog w = .ok (.string (strL xs)) w := by
  rcases h with ⟨rfl, rfl⟩ | ⟨ad, n, c, rfl, rfl, -, hc⟩
  · rw [run_convert_bytes_nil w 28 5 Tryd.underlying28 Tryd.underlying5 0 0 9 Tryd.underlying9]
    rfl
  · rw [run_convert_bytes_string w 28 9 5 _ xs.length c Tryd.underlying28 Tryd.underlying5 Tryd.underlying9]
    have hl : (loadCells ad xs.length).run Tryd.prog w = .ok (xs.map (Value.int .u8)).toArray w := by
      have := run_loadCells_list (P := Tryd.prog) w ad (xs.map (Value.int .u8)) (fun j v hj => by
        rw [List.getElem?_map] at hj
        obtain ⟨x, hx, rfl⟩ := Option.map_eq_some_iff.1 hj
        have hlt := (List.getElem?_eq_some_iff.1 hx).1
        rw [hc j hlt, List.getD_eq_getElem?_getD, hx]
        rfl)
      simpa using this
    rw [run_bytesToString w ad xs.length c _ hl, foldl_push_bytes]
    simp [strL, strOfNums, ByteArray.empty, ByteArray.emptyWithCapacity]
    try rfl
set_option maxRecDepth 100000 in
set_option maxHeartbeats 1000000 in
theorem sameMsg_any {w : World} {t : ByteArray} {v v' : Value} {q : Int} {r : Bool} {xs : List Int} (h : PBi w v xs) (h' : PBi w v' xs) :
    Calls Tryd.prog 21 #[.agg #[.string t, v, .int .i64 q, .bool r], .agg #[.string t, v', .int .i64 q, .bool r]] w fun e w' => e = .returned (.bool true) ∧ Below w.heap.size w w' := by
  obtain ⟨a1, n1, c1, rfl⟩ := h.sl
  obtain ⟨a2, n2, c2, rfl⟩ := h'.sl
  obtain ⟨w2, hw2⟩ : ∃ w2, w2 = (w.alloc (.cells #[.string t, .slice a1 n1 c1, .int .i64 q, .bool r] 30)).alloc (.cells #[.string t, .slice a2 n2 c2, .int .i64 q, .bool r] 30) := ⟨_, rfl⟩
  obtain ⟨q1, q2, q3⟩ := two_alloc w (.cells #[.string t, .slice a1 n1 c1, .int .i64 q, .bool r] 30) (.cells #[.string t, .slice a2 n2 c2, .int .i64 q, .bool r] 30)
  have b2 := two_below w (.cells #[.string t, .slice a1 n1 c1, .int .i64 q, .bool r] 30) (.cells #[.string t, .slice a2 n2 c2, .int .i64 q, .bool r] 30)
  rw [← hw2] at q1 q2 b2
  have cv1 := conv_i (h.below b2)
  have cv2 := conv_i (h'.below b2)
  obtain ⟨s, hs⟩ : ∃ s, s = strL xs := ⟨_, rfl⟩
  rw [← hs] at cv1 cv2
  have e0 := box_cells q1 0 _ rfl
  have e1 := box_cells q1 1 _ rfl
  have e2 := box_cells q1 2 _ rfl
  have e3 := box_cells q1 3 _ rfl
  have f0 := box_cells q2 0 _ rfl
  have f1 := box_cells q2 1 _ rfl
  have f2 := box_cells q2 2 _ rfl
  have f3 := box_cells q2 3 _ rfl
  have HB := hidi b2
  clear h h' q1 q2 q3 b2 hs
  go_enter Tryd.func21, Tryd.ntmps21
  go_upto_region 1 with fail
  rw [← hw2]
  clear hw2
  go_wp2_with fail
  go_ret
  exact ⟨by simp, HB.out⟩
end Go.Proofs.YtbjhblnagmpnfaaDoor
