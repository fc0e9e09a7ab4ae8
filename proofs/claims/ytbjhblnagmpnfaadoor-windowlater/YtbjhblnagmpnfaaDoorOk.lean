import Derived.Test.YtbjhblnagmpnfaaDoorOj
namespace Go.Proofs.YtbjhblnagmpnfaaDoor
open Go Go.RowKit Go.Shelf Go.Maps Go.Sort
set_option linter.unusedSimpArgs false
set_option linter.unusedVariables false
/-! ### The window purely -/
open Classical in
noncomputable def abvF (T : Nat → Bool) (last : Nat) : Nat := if h : ∃ id, Abv T last id then Classical.choose h else 0
theorem abvF_is {T : Nat → Bool} {last id : Nat} (hl : last ≤ 65535) (h : Abv T last id) : abvF T last = id := by
  unfold abvF
  rw [dif_pos ⟨id, h⟩]
  exact Abv.uniq hl (Classical.choose_spec (⟨id, h⟩ : ∃ id, Abv T last id)) h
structure Pw where
  most : Nat
  queue : Nat
  on : Bool
  last : Nat
  fl : List Fp
  wt : List Mp
  R : List Nat
structure Pp where
  k : Int
  d : Bool
  id : Int
  m : Mp
def WI.p (i : WI) : Pw := ⟨i.most, i.queue, i.on, i.last, i.fs.map Fm.p, i.L.map Ms.p, i.R⟩
def Pw.T (p : Pw) (j : Nat) : Bool := decide (j ∈ p.fl.map (·.id)) || decide (j ∈ p.R)
theorem WI.T_p (i : WI) : i.p.T = i.T := by
  funext j
  unfold Pw.T WI.T WI.ids WI.p
  have : (i.fs.map Fm.p).map (·.id) = i.fs.map (·.id) := by simp [Function.comp_def, Fm.p]
  rw [this]
noncomputable def pLaunch (p : Pw) (m : Mp) : Pw × Pp := ({ p with last := abvF p.T p.last, fl := p.fl ++ [⟨abvF p.T p.last, false, m⟩] }, ⟨3, false, abvF p.T p.last, m⟩)
noncomputable def pFillL : List Mp → Pw → Pw × List Pp
  | [], p => ({ p with wt := [] }, [])
  | m :: wt, p => if p.on = true ∧ p.fl.length < p.most then ((pFillL wt (pLaunch { p with wt := wt } m).1).1, (pLaunch { p with wt := wt } m).2 :: (pFillL wt (pLaunch { p with wt := wt } m).1).2) else ({ p with wt := m :: wt }, [])
noncomputable def pFill (p : Pw) : Pw × List Pp := pFillL p.wt p
theorem pFill_stop {p : Pw} (h : p.on = false ∨ p.most ≤ p.fl.length ∨ p.wt = []) : pFill p = (p, []) := by
  obtain ⟨m, q, on, last, fl, wt, R⟩ := p
  unfold pFill
  cases wt with
  | nil => rfl
  | cons x wt =>
    simp only at h
    simp only [pFillL]
    rw [if_neg]
    rintro ⟨h1, h2⟩
    rcases h with h | h | h
    · rw [h1] at h; cases h
    · omega
    · cases h
theorem pFill_go {p : Pw} {m : Mp} {wt : List Mp} (h1 : p.on = true) (h2 : p.fl.length < p.most) (h3 : p.wt = m :: wt) : pFill p = ((pFill (pLaunch { p with wt := wt } m).1).1, (pLaunch { p with wt := wt } m).2 :: (pFill (pLaunch { p with wt := wt } m).1).2) := by
  unfold pFill
  rw [h3]
  simp only [pFillL]
  rw [if_pos ⟨h1, h2⟩]
  rfl
theorem launched_p {w w' : World} {wb : Nat} {i : WI} {c' : Nat} {m : Ms} {id b : Nat} {mu mt : Value} (hs : i.last ≤ 65535) (hA : Abv i.T i.last id) : (({ i with last := id } : WI).put b id false m mu mt).p = (pLaunch i.p m.p).1 ∧ (pLaunch i.p m.p).2 = ⟨3, false, id, m.p⟩ := by
  have e : abvF i.p.T i.p.last = id := by
    rw [WI.T_p]
    exact abvF_is hs hA
  unfold pLaunch
  rw [e]
  refine ⟨?_, rfl⟩
  unfold WI.put WI.p
  simp [Fm.p]
/-! ### Packets in a row -/
structure Pq where
  k : Int
  d : Bool
  id : Int
  m : Ms
def Pq.cs (p : Pq) : Array Value := pkc p.k p.d p.m.t p.m.v p.m.q p.m.r p.id
def Pq.p (p : Pq) : Pp := ⟨p.k, p.d, p.id, p.m.p⟩
def prow (L : List Pq) : List Value := L.flatMap (fun p => p.cs.toList)
theorem prow_app (A B : List Pq) : prow (A ++ B) = prow A ++ prow B := by simp [prow]
theorem info51 : (Tryd.prog.info? 51).map (fun i => (i.zero, i.size, i.bytes)) = some (some (.agg (pkc 0 false ⟨#[]⟩ (.slice none 0 0) 0 false 0)), 25, 328) := by kernel_rfl
theorem app_pk {w : World} {B n : Nat} {v : Value} {S : List Pq} (ho : w.ownsRow B 51 25 v n (prow S)) (p : Pq) (hv : ∃ a k c, p.m.v = .slice a k c) (hn : n ≤ 1000000) :
    ∃ g' cap' w', (Builtin.append_ #[36, 36] 36 #[v, .slice (some ⟨w.heap.size, 0, none⟩) 1 1]).run Tryd.prog (w.alloc (.cells p.cs 51)) = .ok (.slice (some ⟨g', 0, none⟩) (n + 1) cap') w' ∧ w'.ownsRow 0 51 25 (.slice (some ⟨g', 0, none⟩) (n + 1) cap') (n + 1) (prow (S ++ [p])) ∧ Ch (fun j => v.ownBlock = some j) w w' ∧ (v.ownBlock = some g' ∨ w.heap.size ≤ g') ∧ Kb w w' := by
  obtain ⟨a, k, c, hv⟩ := hv
  obtain ⟨g', cap', w', h1, h2, h3, h4⟩ := app_gen (st := 36) (e := 51) (cs := p.cs) Tryd.underlying36 info51 rfl (by omega) (by omega) (own0 ho) rfl (by
    intro u hu
    have := pkc_one p.k p.d p.m.t a k c p.m.q p.m.r p.id
    rw [← hv] at this
    exact Array.all_eq_true_iff_forall_mem.1 this u (by simpa [Pq.cs] using hu)) hn
  refine ⟨g', cap', w', h1, by rw [prow_app]; simpa [prow] using h2, h3, h4, Kb.ch h3 (fun j hj cs fz q => ?_)⟩
  obtain ⟨cur, e⟩ := own_lt ho hj
  rw [e] at q
  simp at q
end Go.Proofs.YtbjhblnagmpnfaaDoor
