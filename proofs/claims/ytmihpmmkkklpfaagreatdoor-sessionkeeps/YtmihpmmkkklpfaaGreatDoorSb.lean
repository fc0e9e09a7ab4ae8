import Derived.Test.YtmihpmmkkklpfaaGreatDoorQb
import Derived.ArgAppend
import Derived.Laws.OwnMore
namespace Go.Proofs.YtmihpmmkkklpfaaGreatDoor
open Go Go.RowKit
set_option linter.unusedSimpArgs false
set_option linter.unusedVariables false
/-! ### What SessionKeeps keeps, purely -/
/-- A packet but for its mark. -/
def nf (x : Pp) : Int × Int × Mp := (x.k, x.id, x.m)
def fpk (f : Fp) : Int × Int × Mp := if f.rel then (6, (f.id : Int), zMp) else (3, (f.id : Int), f.m)
/-- The messages of what is sent. -/
def isPub (x : Pp) : Bool := decide (x.k = 3)
def pubs (X : List Pp) : List Mp := (X.filter isPub).map (·.m)
theorem pubs_app (A B : List Pp) : pubs (A ++ B) = pubs A ++ pubs B := by simp [pubs]
theorem nf_resend (f : Fp) : nf (resend f) = fpk f := by
  unfold resend fpk nf
  cases f.rel <;> rfl
def costX (x : Pp) : Nat := if x.k = 3 ∧ x.m.q = 2 then 2 else 1
def potX (X : List Pp) (wt : List Mp) : Nat := (X.map costX).sum + (wt.map costM).sum
theorem costX_pos (x : Pp) : 1 ≤ costX x := by unfold costX; split <;> omega
/-- What filling sends. -/
theorem fillL_new : ∀ (wt : List Mp) (p : Pw), ∃ N : List Fp, (pFillL wt p).1.fl = p.fl ++ N ∧ (pFillL wt p).2.map nf = N.map fpk ∧ (∀ f ∈ N, f.rel = false) ∧ wt = N.map (·.m) ++ (pFillL wt p).1.wt ∧ pubs (pFillL wt p).2 = N.map (·.m) ∧ ((pFillL wt p).2.map costX).sum = ((N.map (·.m)).map costM).sum
  | [], p => ⟨[], by simp [pFillL], by simp [pFillL], by simp, by simp [pFillL], by simp [pFillL, pubs], by simp [pFillL]⟩
  | m :: wt, p => by
    simp only [pFillL]
    split
    · obtain ⟨N, h1, h2, h3, h4, h5, h6⟩ := fillL_new wt (pLaunch { p with wt := wt } m).1
      have hf : (pLaunch { p with wt := wt } m).1.fl = p.fl ++ [⟨abvF (Pw.T { p with wt := wt }) p.last, false, m⟩] := rfl
      have hx : (pLaunch { p with wt := wt } m).2 = ⟨3, false, abvF (Pw.T { p with wt := wt }) p.last, m⟩ := rfl
      refine ⟨⟨abvF (Pw.T { p with wt := wt }) p.last, false, m⟩ :: N, ?_, ?_, ?_, ?_, ?_, ?_⟩
      · simp only
        rw [h1, hf]
        simp
      · simp only [List.map_cons]
        rw [h2, hx]
        rfl
      · intro f hf
        rcases List.mem_cons.1 hf with rfl | hf
        · rfl
        · exact h3 f hf
      · simp only [List.map_cons, List.cons_append]
        rw [← h4]
      · have : pubs ((pLaunch { p with wt := wt } m).2 :: (pFillL wt (pLaunch { p with wt := wt } m).1).2) = m :: pubs (pFillL wt (pLaunch { p with wt := wt } m).1).2 := by
          rw [hx]
          simp [pubs, isPub]
        simp only
        rw [this, h5]
        rfl
      · simp only [List.map_cons, List.sum_cons]
        rw [h6, hx]
        simp [costX, costM]
    · exact ⟨[], by simp, by simp, by simp, by simp, by simp [pubs], by simp⟩
theorem fill_new (p : Pw) : ∃ N : List Fp, (pFill p).1.fl = p.fl ++ N ∧ (pFill p).2.map nf = N.map fpk ∧ (∀ f ∈ N, f.rel = false) ∧ p.wt = N.map (·.m) ++ (pFill p).1.wt ∧ pubs (pFill p).2 = N.map (·.m) ∧ ((pFill p).2.map costX).sum = ((N.map (·.m)).map costM).sum := fillL_new p.wt p
/-- What is delivered: nothing is acknowledged yet. -/
structure Dv (p : Pw) (T : List Mp) : Prop where
  tk : p.fl.map (·.m) ++ p.wt = T
  nr : ∀ f ∈ p.fl, f.rel = false
  fu : Full p
theorem Dv.down {p : Pw} {T : List Mp} (h : Dv p T) : Dv { p with on := false } T := ⟨h.tk, h.nr, fun z => by cases z⟩
theorem Dv.up {p : Pw} {T : List Mp} (h : Dv p T) : Dv (pUp p).1 T := by
  obtain ⟨N, h1, h2, h3, h4, h5, h6⟩ := fill_new { p with on := true }
  refine ⟨?_, ?_, (up_ok p).2⟩
  · show (pFill { p with on := true }).1.fl.map _ ++ (pFill { p with on := true }).1.wt = T
    rw [h1, List.map_append, List.append_assoc, ← h4]
    exact h.tk
  · intro f hf
    have hf' : f ∈ (pFill { p with on := true }).1.fl := hf
    rw [h1] at hf'
    rcases List.mem_append.1 hf' with q | q
    · exact h.nr f q
    · exact h3 f q
theorem Dv.send {p : Pw} {T : List Mp} (h : Dv p T) (m : Mp) (hq : m.q = 1 ∨ m.q = 2) : Dv (pSend p m).1 (T ++ if (pSend p m).2.2.1 then [m] else []) := by
  have hfu := (send_ok m h.fu).2
  refine ⟨?_, ?_, hfu⟩
  · rw [← h.tk]
    by_cases h1 : p.on = true ∧ p.fl.length < p.most
    · have hw : p.wt = [] := Classical.byContradiction fun z => by have := h.fu h1.1 z; omega
      rw [pSend_go hq h1]
      simp [pLaunch, hw]
    · by_cases h2 : p.wt.length < p.queue
      · rw [pSend_wait hq h1 h2]
        simp
      · rw [pSend_full hq h1 h2]
        simp
  · intro f hf
    by_cases h1 : p.on = true ∧ p.fl.length < p.most
    · rw [pSend_go hq h1] at hf
      rcases List.mem_append.1 (show f ∈ p.fl ++ [_] from hf) with q | q
      · exact h.nr f q
      · simp only [List.mem_singleton] at q
        rw [q]
    · by_cases h2 : p.wt.length < p.queue
      · rw [pSend_wait hq h1 h2] at hf
        exact h.nr f hf
      · rw [pSend_full hq h1 h2] at hf
        exact h.nr f hf
/-- The second loop: X is still to be answered, D was told. -/
structure Ak (p : Pw) (X : List Pp) (D T : List Mp) (n : Nat) : Prop where
  pm : (X.map nf).Perm (p.fl.map fpk)
  tk : D ++ pubs X ++ p.wt = T
  on : p.on = true
  fu : Full p
  po : potX X p.wt + n ≤ 2 * T.length
theorem pot_msgs (l : List Mp) : (l.map costM).sum ≤ 2 * l.length := sum_le costM costM_le l
theorem Dv.ak {p : Pw} {T : List Mp} (h : Dv p T) : Ak (pUp p).1 (pUp p).2 [] T 0 := by
  obtain ⟨N, h1, h2, h3, h4, h5, h6⟩ := fill_new { p with on := true }
  have hr : (p.fl.map resend).map nf = p.fl.map fpk := by
    rw [List.map_map]
    exact List.map_congr_left (fun f _ => nf_resend f)
  have e1 : (pUp p).1.fl = p.fl ++ N := h1
  have e2 : (pUp p).2 = p.fl.map resend ++ (pFill { p with on := true }).2 := rfl
  have e3 : (pUp p).1.wt = (pFill { p with on := true }).1.wt := rfl
  have hpb : pubs (p.fl.map resend) = p.fl.map (·.m) ∧ ((p.fl.map resend).map costX).sum = ((p.fl.map (·.m)).map costM).sum := by
    have := h.nr
    revert this
    generalize p.fl = l
    induction l with
    | nil => intro _; exact ⟨rfl, rfl⟩
    | cons f l ih =>
      intro hn
      obtain ⟨a, b⟩ := ih (fun g hg => hn g (List.mem_cons_of_mem _ hg))
      have e : resend f = ⟨3, true, f.id, f.m⟩ := by unfold resend; rw [hn f (List.mem_cons_self ..)]; rfl
      constructor
      · rw [List.map_cons, e]
        show pubs ([⟨3, true, f.id, f.m⟩] ++ l.map resend) = _
        rw [pubs_app, a]
        rfl
      · simp only [List.map_cons, List.sum_cons]
        rw [b, e]
        simp [costX, costM]
  refine ⟨?_, ?_, (fill_on { p with on := true }).trans rfl, (up_ok p).2, ?_⟩
  · rw [e2, e1, List.map_append, List.map_append, hr, h2]
  · rw [e2, e3, pubs_app, hpb.1, h5, List.nil_append, List.append_assoc, ← h4]
    exact h.tk
  · unfold potX
    rw [e2, e3, List.map_append, List.sum_append, hpb.2, h6]
    have k1 := pot_msgs (p.fl.map (·.m))
    have k2 := pot_msgs (N.map (·.m))
    have k3 := pot_msgs (pFill { p with on := true }).1.wt
    have k4 := congrArg List.length h.tk
    have k5 : p.wt.length = _ := congrArg List.length h4
    simp only [List.length_append, List.length_map] at *
    omega
section
variable {p : Pw} {x : Pp} {X : List Pp} {D T : List Mp} {n : Nat}
theorem find_id {l : List Fp} (hn : (l.map (·.id)).Nodup) {f : Fp} (hf : f ∈ l) : l.find? (fun g => decide ((g.id : Int) = (f.id : Int))) = some f := by
  induction l with
  | nil => cases hf
  | cons g l ih =>
    simp only [List.map_cons, List.nodup_cons] at hn
    rcases List.mem_cons.1 hf with rfl | hf
    · simp
    · have : g.id ≠ f.id := fun e => hn.1 (by rw [e]; exact List.mem_map.2 ⟨f, hf, rfl⟩)
      rw [List.find?_cons_of_neg (by simp; omega)]
      exact ih hn.2 hf
theorem perm_id {l : List Fp} (hn : (l.map (·.id)).Nodup) {f : Fp} (hf : f ∈ l) : l.Perm (f :: l.filter (fun g => g.id != f.id)) ∧ (l.map (relP f.id)).Perm (⟨f.id, true, zMp⟩ :: l.filter (fun g => g.id != f.id)) := by
  induction l with
  | nil => cases hf
  | cons g l ih =>
    by_cases e : g = f
    · subst e
      rw [filter_head hn, map_head hn]
      exact ⟨List.Perm.refl _, List.Perm.refl _⟩
    · have hf' : f ∈ l := (List.mem_cons.1 hf).resolve_left (fun z => e z.symm)
      have hn' := hn
      simp only [List.map_cons, List.nodup_cons] at hn'
      have hid : g.id ≠ f.id := fun e => hn'.1 (by rw [e]; exact List.mem_map.2 ⟨f, hf', rfl⟩)
      obtain ⟨a, b⟩ := ih hn'.2 hf'
      rw [List.filter_cons_of_pos (by simpa using hid), List.map_cons]
      have er : relP f.id g = g := if_neg hid
      rw [er]
      exact ⟨(List.Perm.cons g a).trans (List.Perm.swap ..), (List.Perm.cons g b).trans (List.Perm.swap ..)⟩
/-- The flight that a packet speaks of. -/
theorem Ak.flight (h : Ak p (x :: X) D T n) : ∃ f ∈ p.fl, fpk f = nf x := by
  have : nf x ∈ p.fl.map fpk := h.pm.subset (by simp)
  obtain ⟨f, hf, e⟩ := List.mem_map.1 this
  exact ⟨f, hf, e⟩
theorem Ak.rest (h : Ak p (x :: X) D T n) (hn : (p.fl.map (·.id)).Nodup) {f : Fp} (hf : f ∈ p.fl) (e : fpk f = nf x) : (X.map nf).Perm ((p.fl.filter (fun g => g.id != f.id)).map fpk) := by
  have h1 := h.pm.trans ((perm_id hn hf).1.map fpk)
  rw [List.map_cons, List.map_cons, e] at h1
  exact List.Perm.cons_inv h1
/-- One goes, and others may be sent. -/
theorem Ak.gone (h : Ak p (x :: X) D T n) (hn : (p.fl.map (·.id)).Nodup) {f : Fp} (hf : f ∈ p.fl) (e : fpk f = nf x) {D' : List Mp} (hD : D' ++ pubs X = D ++ pubs (x :: X)) : Ak (pFill { p with fl := p.fl.filter (fun g => g.id != f.id) }).1 (X ++ (pFill { p with fl := p.fl.filter (fun g => g.id != f.id) }).2) D' T (n + 1) := by
  obtain ⟨N, h1, h2, h3, h4, h5, h6⟩ := fill_new { p with fl := p.fl.filter (fun g => g.id != f.id) }
  have ho : (pFill { p with fl := p.fl.filter (fun g => g.id != f.id) }).1.on = true := (fill_on _).trans h.on
  have hk := (fill_ok { p with fl := p.fl.filter (fun g => g.id != f.id) }).2
  generalize pFill { p with fl := p.fl.filter (fun g => g.id != f.id) } = P at *
  have h4' : p.wt = N.map (·.m) ++ P.1.wt := h4
  refine ⟨?_, ?_, ho, hk, ?_⟩
  · rw [h1, List.map_append, List.map_append, h2]
    exact (h.rest hn hf e).append_right _
  · rw [pubs_app, h5, ← h.tk, h4']
    simp only [← List.append_assoc]
    rw [hD]
  · have hp := h.po
    have hc := costX_pos x
    unfold potX at hp ⊢
    rw [h4'] at hp
    rw [List.map_append, List.sum_append, h6]
    simp only [List.map_cons, List.sum_cons, List.map_append, List.sum_append] at hp ⊢
    omega
/-- A message of quality 2 is released. -/
theorem Ak.rel (h : Ak p (x :: X) D T n) (hn : (p.fl.map (·.id)).Nodup) {f : Fp} (hf : f ∈ p.fl) (e : fpk f = nf x) (hk : x.k = 3) (hq : x.m.q = 2) : Ak { p with fl := p.fl.map (relP f.id) } (X ++ [⟨6, false, f.id, zMp⟩]) (D ++ [x.m]) T (n + 1) := by
  refine ⟨?_, ?_, h.on, fun z1 z2 => ?_, ?_⟩
  · rw [List.map_append]
    have h1 := ((perm_id hn hf).2.map fpk).symm
    refine List.Perm.trans ?_ h1
    rw [List.map_cons]
    exact (List.perm_append_comm).trans ((h.rest hn hf e).cons _)
  · rw [pubs_app, ← h.tk]
    have : pubs (x :: X) = x.m :: pubs X := by simp [pubs, isPub, hk]
    rw [this]
    simp [pubs, isPub]
  · have := h.fu z1 z2
    show p.most ≤ (p.fl.map _).length
    simpa using this
  · have hp := h.po
    unfold potX at hp ⊢
    have c1 : costX x = 2 := by simp [costX, hk, hq]
    simp only [List.map_cons, List.sum_cons, List.map_append, List.sum_append, c1, List.map_nil, List.sum_nil] at hp ⊢
    have c2 : costX ⟨6, false, (f.id : Int), zMp⟩ = 1 := by simp [costX]
    rw [c2]
    show _ + (p.wt.map costM).sum + _ ≤ _
    omega
/-- What a packet of the second loop is, and what its answer leaves. -/
theorem Ak.step (h : Ak p (x :: X) D T n) (hn : (p.fl.map (·.id)).Nodup) (hT : ∀ m ∈ T, m.q = 1 ∨ m.q = 2) :
    (x.k = 3 ∧ x.m ∈ T ∧ x.m.q = 1 ∧ Ak (pAck p 4 x.id).1 (X ++ (pAck p 4 x.id).2) (D ++ [x.m]) T (n + 1)) ∨
    (x.k = 3 ∧ x.m ∈ T ∧ x.m.q = 2 ∧ Ak (pAck p 5 x.id).1 (X ++ (pAck p 5 x.id).2) (D ++ [x.m]) T (n + 1)) ∨
    (x.k = 6 ∧ Ak (pAck p 7 x.id).1 (X ++ (pAck p 7 x.id).2) D T (n + 1)) := by
  obtain ⟨f, hf, e⟩ := h.flight
  have hne : ¬ p.on = false := by rw [h.on]; simp
  unfold fpk nf at e
  have hid : x.id = f.id := by cases hr : f.rel <;> rw [hr] at e <;> simp at e <;> exact e.2.1.symm
  have ea : ∀ k, pAck p k x.id = pAckF p k f.id f := fun k => by
    rw [hid]
    unfold pAck
    rw [find_id hn hf]
  have e' : fpk f = nf x := e
  cases hr : f.rel
  · rw [hr] at e
    simp only [Bool.false_eq_true, if_false, Prod.mk.injEq] at e
    obtain ⟨e1, -, e3⟩ := e
    have hk : x.k = 3 := e1.symm
    have hpb : pubs (x :: X) = x.m :: pubs X := by simp [pubs, isPub, hk]
    have hmT : x.m ∈ T := by rw [← h.tk, hpb]; simp
    rcases hT _ hmT with hq | hq
    · refine .inl ⟨hk, hmT, hq, ?_⟩
      have ha : awt f.m.q f.rel = 4 := by unfold awt; rw [hr, e3, hq]; rfl
      have e2 : pAckF p 4 f.id f = pFill { p with fl := p.fl.filter (fun g => g.id != f.id) } := by
        unfold pAckF
        rw [if_neg hne, if_neg (by omega), ha, if_pos rfl]
      rw [ea, e2]
      exact h.gone hn hf e' (by rw [hpb]; simp)
    · refine .inr (.inl ⟨hk, hmT, hq, ?_⟩)
      have ha : awt f.m.q f.rel = 5 := by unfold awt; rw [hr, e3, hq]; rfl
      have e2 : pAckF p 5 f.id f = ({ p with fl := p.fl.map (relP f.id) }, [⟨6, false, f.id, zMp⟩]) := by
        unfold pAckF
        rw [if_neg hne, if_pos ⟨rfl, .inl ha⟩]
      rw [ea, e2]
      exact h.rel hn hf e' hk hq
  · rw [hr] at e
    simp only [if_true, Prod.mk.injEq] at e
    obtain ⟨e1, -, e3⟩ := e
    have hk : x.k = 6 := e1.symm
    refine .inr (.inr ⟨hk, ?_⟩)
    have ha : awt f.m.q f.rel = 7 := by unfold awt; rw [hr]; rfl
    have e2 : pAckF p 7 f.id f = pFill { p with fl := p.fl.filter (fun g => g.id != f.id) } := by
      unfold pAckF
      rw [if_neg hne, if_neg (by omega), ha, if_pos rfl]
    rw [ea, e2]
    exact h.gone hn hf e' (by simp [pubs, isPub, hk])
theorem Ak.rounds (h : Ak p (x :: X) D T n) : n < 2 * T.length := by
  have := h.po
  have hc := costX_pos x
  unfold potX at this
  simp only [List.map_cons, List.sum_cons] at this
  omega
theorem Ak.done (h : Ak p [] D T n) (hm : 1 ≤ p.most) : p.fl = [] ∧ p.wt = [] ∧ D = T := by
  have h1 : p.fl = [] := by
    have := h.pm.length_eq
    simp at this
    exact List.length_eq_zero_iff.1 this.symm
  have h2 := rest_wt h.fu h.on hm h1
  refine ⟨h1, h2, ?_⟩
  have := h.tk
  rw [h2] at this
  simpa [pubs] using this
end
end Go.Proofs.YtmihpmmkkklpfaaGreatDoor
namespace Go.Proofs.YtmihpmmkkklpfaaGreatDoor
open Go Go.RowKit Go.Shelf Go.Maps Go.Sort
set_option linter.unusedSimpArgs false
set_option linter.unusedVariables false
/-! ### What is no window's stays -/
def KO (W W' : World) : Prop := ∀ (b : Nat) (o : Obj), W.heap[b]? = some o → Other o → W'.heap[b]? = some o
theorem KO.refl (W : World) : KO W W := fun _ _ h _ => h
theorem KO.trans {a b c : World} (h : KO a b) (k : KO b c) : KO a c := fun x o q z => k x o (h x o q z) z
theorem KO.below {W W' : World} (h : Below W.heap.size W W') : KO W W' := fun b o q _ => (h.block b (Array.getElem?_eq_some_iff.1 q).1).trans q
theorem KO.kb {W W' : World} (h : KO W W') : Kb W W' := fun b cs fz q => ⟨cs, h b _ q ⟨cs, 5, fz, rfl, by decide, by decide, by decide⟩, rfl⟩
theorem KO.own {W W' : World} (h : KO W W') {B e s n : Nat} {v : Value} {xs : List Value} (ho : W.ownsRow B e s v n xs) (h1 : e ≠ 101) (h2 : e ≠ 119) (h3 : e ≠ 45) : W'.ownsRow B e s v n xs :=
  ⟨ho.1, ho.2.elim .inl (fun ⟨g, cap, cur, a, b, c, d⟩ => .inr ⟨g, cap, cur, a, b, h g _ c ⟨cur, e, _, rfl, h1, h2, h3⟩, d⟩)⟩
def FX (F : Nat → Prop) (W : World) (j : Nat) : Prop := F j ∨ ∃ o, W.heap[j]? = some o ∧ Other o
theorem KS.addX {F : Nat → Prop} {W : World} {wb : Nat} {p : Pw} {c : Nat} (h : KS F W wb p c) : KS (FX F W) W wb p c := by
  obtain ⟨i, hw, e, hF⟩ := h.ex
  refine ⟨⟨i, hw, e, fun j hj => ?_⟩, h.gd⟩
  rcases hj with q | ⟨o, ho, hO⟩
  · exact hF j q
  · exact ⟨(Array.getElem?_eq_some_iff.1 ho).1, hw.other ho hO⟩
theorem Fr.ko {F : Nat → Prop} {W W' : World} (r : Fr (FX F W) W W') : KO W W' := fun b o q z => (r.at (.inr ⟨o, q, z⟩) (Array.getElem?_eq_some_iff.1 q).1).trans q
theorem fx_inl {F : Nat → Prop} {W : World} : ∀ j, F j → FX F W j := fun _ h => Or.inl h
theorem KS.swapX {F F' S : Nat → Prop} {W W' : World} {wb : Nat} {p : Pw} {c : Nat} (h : KS F W wb p c) (hc : Ch S W W') (hs : ∀ j, S j → FX F W j) (h5 : Kb W W') (h0 : ¬ S 0) (hF' : ∀ j, F' j → F j ∨ (W.heap.size ≤ j ∧ j < W'.heap.size)) : KS F' W' wb p c := by
  obtain ⟨i0, hw0, e0, hF0⟩ := h.addX.ex
  obtain ⟨o, ho, hO⟩ := h.gd.oth
  have he : W'.heap[0]? = W.heap[0]? := hc.block 0 (Array.getElem?_eq_some_iff.1 ho).1 h0
  refine ⟨⟨i0, hw0.keep hc (fun j hj q => (hF0 j (hs j q)).2 hj) h5, e0, fun j hj => ?_⟩, ⟨fun j hj => (cell_heap (by exact he)).trans (h.gd.tab j hj), o, he.trans ho, hO⟩⟩
  rcases hF' j hj with q | ⟨q1, q2⟩
  · exact ⟨Nat.lt_of_lt_of_le (hF0 j (.inl q)).1 hc.size, (hF0 j (.inl q)).2⟩
  · exact ⟨q2, fun z => by have := hw0.lt z; omega⟩
theorem row_ge {w : World} {B e s n : Nat} {v : Value} {xs : List Value} (h : w.ownsRow B e s v n xs) {g : Nat} (hg : v.ownBlock = some g) : B ≤ g := by
  rcases h.2 with ⟨rfl, _⟩ | ⟨g', cap, cur, rfl, q, _⟩
  · simp [Value.ownBlock] at hg
  · simp [Value.ownBlock] at hg
    omega
theorem row_base {w : World} {B B' e s n : Nat} {v : Value} {xs : List Value} (h : w.ownsRow B e s v n xs) (hb : ∀ g, v.ownBlock = some g → B' ≤ g) : w.ownsRow B' e s v n xs :=
  ⟨h.1, h.2.elim .inl (fun ⟨g, cap, cur, a, b, c⟩ => .inr ⟨g, cap, cur, a, hb g (by rw [a]; rfl), c⟩)⟩
/-! Calls of the window: F stays, and so does what is no window's. -/
section
variable {F : Nat → Prop} {W : World} {wb : Nat} {p : Pw} {c : Nat}
theorem kx_send (h : KS F W wb p c) (hc : c + 1 ≤ 200000) (t : ByteArray) (v : Value) (q : Int) (r : Bool) (xs : List Int) (hp : PBi W v xs) (ht : t.size ≤ 1000000) : Calls Tryz.prog 49 #[.pointer (some ⟨wb, 0, none⟩), .agg #[.string t, v, .int .i64 q, .bool r]] W fun e w' => ∃ v', e = .returned (.tuple #[v', .bool (pSend p ⟨t, q, r, xs⟩).2.2.1, .int .i64 (pSend p ⟨t, q, r, xs⟩).2.2.2]) ∧ KS F w' wb (pSend p ⟨t, q, r, xs⟩).1 (c + 1) ∧ Fr F W w' ∧ KO W w' ∧ Lst w' v' (pSend p ⟨t, q, r, xs⟩).2.1 := by
  refine (ks_send h.addX hc t v q r xs hp ht).mono ?_
  rintro e w' ⟨v', rfl, k, r, l⟩
  exact ⟨v', rfl, k.less fx_inl, r.mono fx_inl, r.ko, l⟩
theorem kx_ack (h : KS F W wb p c) (hc : c ≤ 200000) (kind id : Int) (hid : okI id) : Calls Tryz.prog 17 #[.pointer (some ⟨wb, 0, none⟩), .int .i64 kind, .int .i64 id] W fun e w' => ∃ v', e = .returned v' ∧ KS F w' wb (pAck p kind id).1 c ∧ Fr F W w' ∧ KO W w' ∧ Lst w' v' (pAck p kind id).2 := by
  refine (ks_ack h.addX hc kind id hid).mono ?_
  rintro e w' ⟨v', rfl, k, r, l⟩
  exact ⟨v', rfl, k.less fx_inl, r.mono fx_inl, r.ko, l⟩
theorem kx_up (h : KS F W wb p c) (hc : c ≤ 200000) : Calls Tryz.prog 15 #[.pointer (some ⟨wb, 0, none⟩)] W fun e w' => ∃ v', e = .returned v' ∧ KS F w' wb (pUp p).1 c ∧ Fr F W w' ∧ KO W w' ∧ Lst w' v' (pUp p).2 := by
  refine (ks_up h.addX hc).mono ?_
  rintro e w' ⟨v', rfl, k, r, l⟩
  exact ⟨v', rfl, k.less fx_inl, r.mono fx_inl, r.ko, l⟩
theorem kx_down (h : KS F W wb p c) : Calls Tryz.prog 11 #[.pointer (some ⟨wb, 0, none⟩)] W fun e w' => e = .returned (.tuple #[]) ∧ KS F w' wb { p with on := false } c ∧ Fr F W w' ∧ KO W w' := by
  refine (ks_down h.addX).mono ?_
  rintro e w' ⟨rfl, k, r⟩
  exact ⟨rfl, k.less fx_inl, r.mono fx_inl, r.ko⟩
end
/-! ### Appending -/
theorem info5 : (Tryz.prog.info? 5).map (fun i => (i.zero, i.size, i.bytes)) = some (some (.int .u8 0), 1, 1) := by kernel_rfl
/-- A byte behind bytes: the first byte of every row stays. -/
theorem appB {w : World} {B n : Nat} {tv : Value} {xs : List Value} (ho : w.ownsRow B 5 1 tv n xs) (h0 : n = 0 → tv = .slice none 0 0) (y : Int) (hn : n ≤ 1000000) (hB : B ≤ w.heap.size) :
    ∃ g' cap' w', (Builtin.append_ #[43, 43] 43 #[tv, .slice (some ⟨w.heap.size, 0, none⟩) 1 1]).run Tryz.prog (w.alloc (.cells #[.int .u8 y] 5)) = .ok (.slice (some ⟨g', 0, none⟩) (n + 1) cap') w' ∧ w'.ownsRow B 5 1 (.slice (some ⟨g', 0, none⟩) (n + 1) cap') (n + 1) (xs ++ [.int .u8 y]) ∧ Ch (fun j => tv.ownBlock = some j) w w' ∧ (tv.ownBlock = some g' ∨ w.heap.size ≤ g') ∧ Kb w w' := by
  obtain ⟨g', cap', w', k1, k2, k3, k4⟩ := app_gen (st := 43) (e := 5) (cs := #[.int .u8 y]) Tryz.underlying43 info5 rfl (by omega) (by omega) (own0 ho) rfl (by simp [Value.oneCell']) hn
  refine ⟨g', cap', w', k1, row_base (by simpa using k2) (fun g hg => ?_), k3, k4, ?_⟩
  · simp [Value.ownBlock] at hg
    subst hg
    rcases k4 with z | z
    · exact row_ge ho z
    · omega
  · rcases ho.2 with ⟨rfl, _⟩ | ⟨g, cap, cur, rfl, hb, hg, hc1, hc2, hc3, hc4⟩
    · exact Kb.ch k3 (fun j hj => by simp [Value.ownBlock] at hj)
    · have hn1 : n ≠ 0 := fun z => by have := h0 z; simp at this
      have hlt : g < w.heap.size := (Array.getElem?_eq_some_iff.1 hg).1
      have hg1 : (w.alloc (.cells #[.int .u8 y] 5)).heap[g]? = some (.cells cur 5 (0, 0)) := by rw [heap_alloc_old w _ hlt]; exact hg
      have hnw := heap_alloc_new w (.cells #[.int .u8 y] 5)
      obtain ⟨i0, hi0, hzz⟩ := Option.map_eq_some_iff.1 info5
      simp only [Prod.mk.injEq] at hzz
      by_cases hr : n + 1 ≤ cap
      · have := run_append_room_cells (P := Tryz.prog) (w.alloc (.cells #[.int .u8 y] 5)) 43 43 5 i0 Tryz.underlying43 hi0 g 0 n cap ⟨w.heap.size, 0, none⟩ 1 1 [.int .u8 y] (by rw [hzz.2.1]; rfl) (fun j u hu => by
          rw [addr_at]
          exact box_cells hnw j u (by simpa using hu)) (by simp [Value.oneCell']) hr (fun j hj => by
          have hj0 : j = 0 := by simpa using hj
          subst hj0
          rw [hzz.2.1]
          have : (0 + n * 1 + 0) < cur.size := by omega
          rw [box_cells hg1 (0 + n * 1 + 0) _ (Array.getElem?_eq_getElem this)]
          rfl) (fun j hj => box_frozen hg1 _)
        rw [k1] at this
        injection this with e1 e2
        subst e2
        rw [hzz.2.1]
        intro b cs fz hq
        have hql : b < w.heap.size := (Array.getElem?_eq_some_iff.1 hq).1
        by_cases hbg : b = g
        · subst hbg
          rw [hg] at hq
          cases hq
          refine ⟨cur.setIfInBounds (0 + n * 1) (.int .u8 y), ?_, ?_⟩
          · have := heap_set (k := 0 + n * 1) hg1 (.int .u8 y)
            simpa [World.setCells] using this
          · rw [Array.getElem?_setIfInBounds_ne (by omega)]
        · refine ⟨cs, ?_, rfl⟩
          have := heap_set_ne (w := w.alloc (.cells #[.int .u8 y] 5)) (k := 0 + n * 1) (.int .u8 y) hbg
          have h2 : ((w.alloc (.cells #[.int .u8 y] 5)).setCells g (0 + n * 1) [.int .u8 y]).heap[b]? = (w.alloc (.cells #[.int .u8 y] 5)).heap[b]? := by simpa [World.setCells] using this
          rw [h2, heap_alloc_old w _ hql]
          exact hq
      · obtain ⟨v2, w2, r1, r2, r3⟩ := run_append_arg_grows (P := Tryz.prog) (w.alloc (.cells #[.int .u8 y] 5)) 43 43 5 i0 (.int .u8 0) 1 1 Tryz.underlying43 hi0 hzz.1 hzz.2.1 hzz.2.2 rfl (by omega) ⟨g, 0, none⟩ n cap xs (by simpa using ho.1) (fun j u hu => by
          rw [addr_at]
          refine box_cells hg1 j u ?_
          rw [← hc4, List.getElem?_take] at hu
          split at hu
          · simpa using hu
          · cases hu) ⟨w.heap.size, 0, none⟩ 1 1 [.int .u8 y] rfl (fun j u hu => by
          rw [addr_at]
          exact box_cells hnw j u (by simpa using hu)) (by omega) (by unfold maxLen; omega) (by omega)
        rw [k1] at r1
        injection r1 with e1 e2
        subst e2
        exact Kb.trans (Kb.below ((Below.refl _ _).alloc (Nat.le_refl _) _)) (Kb.ch (ch_grown r3) (fun j hj => by cases hj))
theorem prow_one {S : List Pq} {w : World} (h : ∀ q ∈ S, PB w q.m.v q.m.xs) : ∀ u ∈ prow S, u.oneCell' = true := by
  intro u hu
  unfold prow at hu
  obtain ⟨q, hq, hu⟩ := List.mem_flatMap.1 hu
  obtain ⟨a, k, c, hv⟩ := (h q hq).sl
  have := pkc_one q.k q.d q.m.t a k c q.m.q q.m.r q.id
  rw [← hv] at this
  exact Array.all_eq_true_iff_forall_mem.1 this u (by simpa [Pq.cs] using hu)
/-- Packets behind packets. -/
theorem appP {w : World} {B n m : Nat} {v : Value} {xs news : List Value} (ho : w.ownsRow B 66 25 v n xs) (x : Value) (hx : (m = 0 ∧ x = .slice none 0 0) ∨ ∃ a c, x = .slice (some a) m c ∧ ∀ j u, news[j]? = some u → w.cell? (a.add j) = some u) (hl : news.length = m * 25) (h1 : ∀ u ∈ news, u.oneCell' = true) (hn : n + m ≤ 1000000) (hB : B ≤ w.heap.size) :
    ∃ v' w', (Builtin.append_ #[38, 38] 38 #[v, x]).run Tryz.prog w = .ok v' w' ∧ w'.ownsRow B 66 25 v' (n + m) (xs ++ news) ∧ w.grownBy w' v.ownBlock ∧ (v'.ownBlock = v.ownBlock ∨ v'.ownBlock = some w.heap.size) := by
  obtain ⟨i0, hi0, hzz⟩ := Option.map_eq_some_iff.1 info51
  simp only [Prod.mk.injEq] at hzz
  have hsm : ∀ (a : Addr) (c : Nat), (∀ j u, news[j]? = some u → w.cell? (a.add j) = some u) → ∃ v' w', (Builtin.append_ #[38, 38] 38 #[v, .slice (some a) m c]).run Tryz.prog w = .ok v' w' ∧ w'.ownsRow B 66 25 v' (n + m) (xs ++ news) ∧ w.grownBy w' v.ownBlock ∧ (v'.ownBlock = v.ownBlock ∨ v'.ownBlock = some w.heap.size) := fun a c hc => by
    obtain ⟨v', w', hr, h2, h3, h4, h5⟩ := run_append_own_at (P := Tryz.prog) w B 38 38 66 i0 _ 25 328 Tryz.underlying38 hi0 hzz.1 hzz.2.1 hzz.2.2 rfl (by omega) v n xs ho a m c news hl hc h1 (by unfold maxLen; omega) (by omega) hB
    exact ⟨v', w', hr, h2, h3, h5⟩
  rcases hx with ⟨hm, rfl⟩ | ⟨a, c, rfl, hc⟩
  · subst hm
    have hnil : news = [] := List.length_eq_zero_iff.1 (by omega)
    subst hnil
    exact ⟨v, w, run_append_owned_none w B 38 38 66 i0 25 Tryz.underlying38 hi0 v n xs ho, by simpa using ho, ⟨rfl, rfl, rfl, Nat.le_refl _, fun _ _ _ => rfl⟩, .inl rfl⟩
  · exact hsm a c hc
end Go.Proofs.YtmihpmmkkklpfaaGreatDoor
