import Derived.Test.YtbjhblnagmpnfaaDoorOm
namespace Go.Proofs.YtbjhblnagmpnfaaDoor
open Go Go.RowKit Go.Shelf Go.Maps Go.Sort
set_option linter.unusedSimpArgs false
set_option linter.unusedVariables false
/-! ### What is released -/
def zMp : Mp := ⟨⟨#[]⟩, 0, false, []⟩
def relF (id : Nat) (g : Fm) : Fm := if g.id = id then { g with rel := true, m := zMs } else g
theorem relF_id (id : Nat) (g : Fm) : (relF id g).id = g.id := by unfold relF; split <;> rfl
theorem relF_b (id : Nat) (g : Fm) : (relF id g).b = g.b := by unfold relF; split <;> rfl
theorem relF_tn (id : Nat) (g : Fm) : (relF id g).tn = g.tn := by unfold relF; split <;> rfl
theorem lookF_rel (fs : List Fm) (id : Nat) (k : Int) : lookF (fs.map (relF id)) k = lookF fs k := by
  unfold lookF
  rw [List.find?_map]
  have : ((fun f : Fm => decide ((f.id : Int) = k)) ∘ relF id) = (fun f => decide ((f.id : Int) = k)) := by
    funext f
    simp [Function.comp_def, relF_id]
  rw [this]
  cases fs.find? (fun f => decide ((f.id : Int) = k)) with
  | none => rfl
  | some f => simp [relF_b]
theorem ids_rel (fs : List Fm) (id : Nat) : (fs.map (relF id)).map (·.id) = fs.map (·.id) := by
  rw [List.map_map]
  apply List.map_congr_left
  intro f _
  exact relF_id id f
theorem ws_rel {w W : World} {wb : Nat} {i : WI} {c : Nat} (h : WS w wb i c) {f : Fm} (hf : f ∈ i.fs) (hch : Ch (fun j => j = f.b) w W) (hb : W.heap[f.b]? = some (.cells (Fm.cs { f with rel := true, m := zMs }) 90 (0, 0))) : St w W wb i { i with fs := i.fs.map (relF f.id) } c := by
  have hchU : Ch (i.U wb) w W := hch.mono (fun j _ q => .inr (.inr (.inr (.inr ⟨f, hf, q.symm⟩))))
  have hkb := h.kb hchU
  have hfb := (h.fls f hf).blk
  have hnd : (i.fs.map (·.id)).Nodup := (List.nodup_append.1 h.nd).1
  have huniq : ∀ g ∈ i.fs, g.id = f.id → g = f := fun g hg e => by
    have h1 := lookF_mem hnd hg
    have h2 := lookF_mem hnd hf
    rw [e, h2] at h1
    have hbb : f.b = g.b := by injection h1
    have key : ∀ (l : List Fm), (l.map (·.id)).Nodup → f ∈ l → g ∈ l → g = f := by
      intro l
      induction l with
      | nil => intro _ q; cases q
      | cons x l ih =>
        intro hn q1 q2
        simp only [List.map_cons, List.nodup_cons] at hn
        rcases List.mem_cons.1 q1 with e1 | e1 <;> rcases List.mem_cons.1 q2 with e2 | e2
        · rw [e1, e2]
        · exact absurd (List.mem_map.2 ⟨g, e2, by rw [e, e1]⟩) hn.1
        · exact absurd (List.mem_map.2 ⟨f, e1, by rw [← e, e2]⟩) hn.1
        · exact ih hn.2 e1 e2
    exact key i.fs hnd hf hg
  have hinj : ∀ g ∈ i.fs, g.b = f.b → g = f := fun g hg e => by
    refine huniq g hg ?_
    have h1 := (h.fls g hg).blk
    rw [e, hfb] at h1
    simp only [Option.some.injEq, Obj.cells.injEq] at h1
    have := congrArg (fun a : Array Value => a[2]?) h1.1
    simp [Fm.cs] at this
    omega
  have hoth : ∀ j o, w.heap[j]? = some o → (∀ cs, o ≠ Obj.cells cs 90 (0, 0)) → W.heap[j]? = w.heap[j]? := fun j o hj ho => by
    refine hch.block j (Array.getElem?_eq_some_iff.1 hj).1 (fun q => ?_)
    rw [q, hfb] at hj
    cases hj
    exact ho _ rfl
  refine ⟨{ h with blk := (hoth wb _ h.blk (fun cs q => by simp at q)).trans h.blk, und := ?_, fls := ?_, tkn := ?_, row := ?_, pay := fun x hx => (h.pay x hx).keep hkb, nd := ?_, rng := ?_, srt := ?_, tns := ?_, snf := ?_, bf := ?_ }, hchU, ?_⟩
  · show MI W i.mu (i.fs.map (relF f.id)).length (fun k => (lookF (i.fs.map (relF f.id)) k).map pt)
    rw [List.length_map]
    refine (h.und.keep (fun b hb' => ?_)).congr (fun k hk => by rw [lookF_rel])
    obtain ⟨es, cl, e⟩ := h.und.block hb'
    exact hoth b _ e (fun cs q => by cases q)
  · intro x hx
    obtain ⟨g, hg, rfl⟩ := List.mem_map.1 hx
    by_cases e : g.id = f.id
    · have := huniq g hg e
      subst this
      refine ⟨?_, ?_⟩
      · rw [relF_b]
        simp only [relF, if_true]
        exact hb
      · simp only [relF, if_true]
        exact .inl ⟨rfl, rfl⟩
    · have e' : relF f.id g = g := if_neg e
      rw [e']
      refine ⟨(hch.block g.b (Array.getElem?_eq_some_iff.1 (h.fls g hg).blk).1 (fun q => ?_)).trans (h.fls g hg).blk, (h.fls g hg).pay.keep hkb⟩
      exact e (by rw [hinj g hg q])
  · have hT : ({ i with fs := i.fs.map (relF f.id) } : WI).T = i.T := by
      funext j
      unfold WI.T WI.ids
      rw [ids_rel]
    rw [hT]
    refine h.tkn.keep (fun b hb' => ?_)
    obtain ⟨es, cl, e⟩ := h.tkn.block hb'
    exact hoth b _ e (fun cs q => by cases q)
  · refine own_ch h.row hch (fun g hg q => ?_)
    obtain ⟨cur, e⟩ := own_lt h.row hg
    rw [q, hfb] at e
    simp at e
  · show ((i.fs.map (relF f.id)).map (·.id) ++ i.R).Nodup
    rw [ids_rel]
    exact h.nd
  · show ∀ j ∈ (i.fs.map (relF f.id)).map (·.id) ++ i.R, _
    rw [ids_rel]
    exact h.rng
  · show (i.fs.map (relF f.id)).Pairwise _
    rw [List.pairwise_map]
    exact h.srt.imp (fun q => by rw [relF_tn, relF_tn]; exact q)
  · intro x hx
    obtain ⟨g, hg, rfl⟩ := List.mem_map.1 hx
    rw [relF_tn]
    exact h.tns g hg
  · intro x hx
    obtain ⟨g, hg, rfl⟩ := List.mem_map.1 hx
    unfold relF
    split
    · exact ⟨fun _ => ⟨rfl, rfl, rfl, rfl⟩, nofun⟩
    · exact h.snf g hg
  · show (i.fs.map (relF f.id)).length ≤ i.most
    rw [List.length_map]
    exact h.bf
  · rintro j (q | q | q | q | ⟨x, hx, rfl⟩)
    · exact .inl (.inl q)
    · exact .inl (.inr (.inl q))
    · exact .inl (.inr (.inr (.inl q)))
    · exact .inl (.inr (.inr (.inr (.inl q))))
    · obtain ⟨g, hg, rfl⟩ := List.mem_map.1 hx
      exact .inl (.inr (.inr (.inr (.inr ⟨g, hg, (relF_b _ _).symm⟩))))
/-! ### Ack purely -/
def relP (id : Nat) (g : Fp) : Fp := if g.id = id then ⟨g.id, true, zMp⟩ else g
noncomputable def pAckF (p : Pw) (kind id : Int) (f : Fp) : Pw × List Pp :=
  if p.on = false then (p, []) else if kind = 5 ∧ (awt f.m.q f.rel = 5 ∨ awt f.m.q f.rel = 7) then ({ p with fl := p.fl.map (relP f.id) }, [⟨6, false, id, zMp⟩]) else if awt f.m.q f.rel = kind then pFill { p with fl := p.fl.filter (fun g => g.id != f.id) } else (p, [])
noncomputable def pAck (p : Pw) (kind id : Int) : Pw × List Pp :=
  match p.fl.find? (fun f => decide ((f.id : Int) = id)) with
  | none => (p, [])
  | some f => pAckF p kind id f
theorem find_p (fs : List Fm) (id : Int) : (fs.map Fm.p).find? (fun f => decide ((f.id : Int) = id)) = (fs.find? (fun f => decide ((f.id : Int) = id))).map Fm.p := by
  rw [List.find?_map]
  rfl
theorem map_rel_p (fs : List Fm) (id : Nat) : (fs.map (relF id)).map Fm.p = (fs.map Fm.p).map (relP id) := by
  rw [List.map_map, List.map_map]
  apply List.map_congr_left
  intro f _
  by_cases e : f.id = id
  · have e1 : relF id f = { f with rel := true, m := zMs } := if_pos e
    have e2 : relP id f.p = ⟨f.id, true, zMp⟩ := if_pos e
    simp only [Function.comp_apply]
    rw [e1, e2]
    rfl
  · have e1 : relF id f = f := if_neg e
    have e2 : relP id f.p = f.p := if_neg e
    simp only [Function.comp_apply]
    rw [e1, e2]
theorem filter_p (fs : List Fm) (id : Nat) : (fs.filter (fun f => f.id != id)).map Fm.p = (fs.map Fm.p).filter (fun g => g.id != id) := by
  rw [List.filter_map]
  rfl
theorem zero78 (w : World) : (zeroValue 78).run Tryd.prog w = .ok (.pointer none) w := by kernel_rfl
end Go.Proofs.YtbjhblnagmpnfaaDoor
