import Derived.Test.YtbjhblnagmpnfaaDoorQa
namespace Go.Proofs.YtbjhblnagmpnfaaDoor
open Go Go.RowKit
set_option linter.unusedSimpArgs false
set_option linter.unusedVariables false
theorem play_full {p : Pw} (k : Int) (m : Mp) (a n : Int) (h : Full p) : Full (pPlay p k m a n).1 := by
  by_cases h5 : k = 5
  · subst h5
    have e : (pPlay p 5 m a n).1 = (pReserve p).1 := by unfold pPlay; simp
    rw [e]
    unfold pReserve
    split
    · exact h
    · exact h
  · by_cases h6 : k = 6
    · subst h6
      have e : (pPlay p 6 m a n).1 = (pFree p n).1 := by unfold pPlay; simp
      rw [e]
      unfold pFree
      split
      · exact h
      · exact h
    · exact (play_ok k m a n h h5 h6).2
theorem fill_on (p : Pw) : (pFill p).1.on = p.on := (fillL_ok p.wt p).2.2
theorem filter_head {f : Fp} {fl : List Fp} (hn : ((f :: fl).map (·.id)).Nodup) : (f :: fl).filter (fun g => g.id != f.id) = fl := by
  simp only [List.map_cons, List.nodup_cons] at hn
  rw [List.filter_cons_of_neg (by simp), List.filter_eq_self]
  intro g hg
  simp only [bne_iff_ne, ne_eq]
  intro e
  exact hn.1 (by rw [← e]; exact List.mem_map.2 ⟨g, hg, rfl⟩)
theorem map_head {f : Fp} {fl : List Fp} (hn : ((f :: fl).map (·.id)).Nodup) : (f :: fl).map (relP f.id) = ⟨f.id, true, zMp⟩ :: fl := by
  simp only [List.map_cons, List.nodup_cons] at hn
  have e1 : relP f.id f = ⟨f.id, true, zMp⟩ := if_pos rfl
  rw [List.map_cons, e1]
  congr 1
  have : fl.map (relP f.id) = fl.map id := by
    apply List.map_congr_left
    intro g hg
    exact if_neg (fun e => hn.1 (by rw [← e]; exact List.mem_map.2 ⟨g, hg, rfl⟩))
  rw [this, List.map_id]
/-- The first one under way is acknowledged. -/
theorem ack_first {p : Pw} {f : Fp} {fl : List Fp} (hp : p.fl = f :: fl) (hon : p.on = true) (hn : (p.fl.map (·.id)).Nodup) :
    (f.rel = true → pot (pAck p 7 f.id).1 + 1 = pot p ∧ (pAck p 7 f.id).1.on = true) ∧ (f.rel = false → f.m.q = 2 → pot (pAck p 5 f.id).1 + 1 = pot p ∧ (pAck p 5 f.id).1.on = true ∧ (pAck p 5 f.id).2 = [⟨6, false, f.id, zMp⟩]) ∧ (f.rel = false → f.m.q ≠ 2 → pot (pAck p 4 f.id).1 + 1 = pot p ∧ (pAck p 4 f.id).1.on = true) := by
  have hfind : p.fl.find? (fun g => decide ((g.id : Int) = (f.id : Int))) = some f := by rw [hp]; simp
  have e : ∀ k, pAck p k f.id = pAckF p k f.id f := fun k => by unfold pAck; rw [hfind]
  have hne : ¬ p.on = false := by rw [hon]; simp
  rw [hp] at hn
  have hfil : p.fl.filter (fun g => g.id != f.id) = fl := by rw [hp]; exact filter_head hn
  have hmap : p.fl.map (relP f.id) = ⟨f.id, true, zMp⟩ :: fl := by rw [hp]; exact map_head hn
  refine ⟨fun hr => ?_, fun hr hq => ?_, fun hr hq => ?_⟩
  · have ha : awt f.m.q f.rel = 7 := by unfold awt; rw [hr]; rfl
    have e2 : pAckF p 7 f.id f = pFill { p with fl := fl } := by
      unfold pAckF
      rw [if_neg hne, if_neg (by omega), ha, if_pos rfl, hfil]
    rw [e, e2, (fill_msgs _).2.2, fill_on]
    refine ⟨?_, hon⟩
    unfold pot
    rw [hp]
    simp [costF, hr]
    omega
  · have ha : awt f.m.q f.rel = 5 := by unfold awt; rw [hr, hq]; rfl
    have e2 : pAckF p 5 f.id f = ({ p with fl := ⟨f.id, true, zMp⟩ :: fl }, [⟨6, false, f.id, zMp⟩]) := by
      unfold pAckF
      rw [if_neg hne, if_pos ⟨rfl, .inl ha⟩, hmap]
    rw [e, e2]
    refine ⟨?_, hon, rfl⟩
    unfold pot
    rw [hp]
    simp [costF, hr, hq]
    omega
  · have ha : awt f.m.q f.rel = 4 := by unfold awt; rw [hr, if_neg hq]; rfl
    have e2 : pAckF p 4 f.id f = pFill { p with fl := fl } := by
      unfold pAckF
      rw [if_neg hne, if_neg (by omega), ha, if_pos rfl, hfil]
    rw [e, e2, (fill_msgs _).2.2, fill_on]
    refine ⟨?_, hon⟩
    unfold pot
    rw [hp]
    simp [costF, hr, hq]
    omega
/-- At last nothing waits. -/
theorem rest_wt {p : Pw} (h : Full p) (hon : p.on = true) (hm : 1 ≤ p.most) (hfl : p.fl = []) : p.wt = [] := Classical.byContradiction fun z => by
  have := h hon z
  rw [hfl] at this
  simp at this
  omega
end Go.Proofs.YtbjhblnagmpnfaaDoor
