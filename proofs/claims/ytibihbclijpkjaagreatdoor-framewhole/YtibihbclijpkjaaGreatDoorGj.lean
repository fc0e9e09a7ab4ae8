import Derived.Test.YtibihbclijpkjaaGreatDoorGi
import Derived.Deep.RegionHeld
namespace Go.Proofs.YtibihbclijpkjaaGreatDoor
open Go Go.RowKit
open Pkt (Pk Cn Sl In By Is Ss As pkCells Gd wpList_load_wanted box_below)
set_option linter.unusedSimpArgs false
set_option linter.unusedVariables false

def pureVal (a : Act) (o : Oper) : Option Value :=
  match o.op with
  | .move x => some (a.eval x)
  | .assign x => some (a.eval x)
  | .pick c x y => match a.eval c with
    | .bool true => some (a.eval x)
    | .bool false => some (a.eval y)
    | _ => none
  | _ => none
theorem pureVal_run {P : Program} {a : Act} {o : Oper} {v : Value} (h : pureVal a o = some v) (w : World) : (execOp a.eval o).run P w = .ok (.value v) w := by
  unfold pureVal at h
  split at h
  · rename_i x hx
    cases h
    simp [execOp, hx]
  · rename_i x hx
    cases h
    simp [execOp, hx]
  · rename_i c x y hx
    split at h
    · rename_i hc
      cases h
      simp [execOp, hx, hc, asBool]
    · rename_i hc
      cases h
      simp [execOp, hx, hc, asBool]
    · cases h
  · cases h
theorem held_call {P : Program} {ops : Array Oper} {Q : Exit → Act → World → Prop} {o : Oper} {a : Act} {w : World} {K : Act → World → Prop} {E : Prop} (hw : Region.wanted o (yielded ops a.tmps) = true) (f : FuncId) (args : Array Value)
    (hr : (execOp a.eval o).run P w = .ok (.enter f args) w) {R : Value → World → Prop} (hc : Calls P f args w fun e w' => ∃ v, e = .returned v ∧ R v w') (hK : ∀ v w', R v w' → K (a.put o.dst v) w') :
    if Region.wanted o (yielded ops a.tmps) = true then Oper.wp P o a w K Q else E := by
  rw [if_pos hw]
  unfold Oper.wp
  rw [hr]
  simp only [Oper.upon]
  exact hc.mono fun e w' ⟨v, he, hv⟩ => by subst he; exact hK v w' hv
theorem yields_load29 {o : Oper} {a : Act} {x : Operand} {g : Nat} {cs : Array Value} {w : World} (ho : o.op = .load 29 x) (hx : a.eval x = .pointer (some ⟨g, 0, none⟩)) (hg : w.heap[g]? = some (.cells cs 29)) (hs : cs.size = 25) :
    (execOp a.eval o).run Tryz.prog w = .ok (.value (.agg cs)) w := by
  have hl : (loadVar 29 ⟨g, 0, none⟩).run Tryz.prog w = .ok (.agg cs) w := run_loadVar_row w g 29 29 cs (0, 0) _ hg Tryz.underlying29 rfl (by rw [hs]; kernel_rfl)
  unfold execOp
  simp only [ho, hx, Instr.loadAt, Instr.sureAddr, Sem.run_bind, Sem.run_pure, Result.andThen_ok, hl]
/-- A mark. -/
def mkU (b : Bool) (m : Int) : Int := if b then m else 0
theorem mark_any (b : Bool) (m : Int) (w : World) : Calls Tryz.prog 67 #[.bool b, .int .u8 m] w fun e w' => e = .returned (.int .u8 (mkU b m)) ∧ w' = w := by
  cases b with
  | true =>
    go_enter Tryz.func67, Tryz.ntmps67
    go_wp2
    go_ret
    exact ⟨rfl, rfl⟩
  | false =>
    go_enter Tryz.func67, Tryz.ntmps67
    go_wp2
    go_ret
    exact ⟨rfl, rfl⟩
/-- A Connect's marks, as the code reckons them. -/
def marksI (p : Pk) (q : Int) : Int := bits .or .u8 (bits .or .u8 (bits .or .u8 (bits .or .u8 (bits .or .u8 (mkU p.hasUser 128) (mkU p.hasPass 64)) (mkU p.wR 32)) q) (mkU p.hasWill 4)) (mkU p.clean 2)
def marksV (p : Pk) : Int := mkU p.hasUser 128 + mkU p.hasPass 64 + mkU p.wR 32 + 8 * p.wQ + mkU p.hasWill 4 + mkU p.clean 2
theorem marks_sum (a b c d e : Bool) : ∀ q : Fin 3, bits .or .u8 (bits .or .u8 (bits .or .u8 (bits .or .u8 (bits .or .u8 (mkU a 128) (mkU b 64)) (mkU c 32)) (8 * (q.val : Int))) (mkU d 4)) (mkU e 2) = mkU a 128 + mkU b 64 + mkU c 32 + 8 * (q.val : Int) + mkU d 4 + mkU e 2 := by
  cases a <;> cases b <;> cases c <;> cases d <;> cases e <;> decide +kernel
set_option maxRecDepth 100000 in
set_option maxHeartbeats 2000000 in
theorem marksOf_any (p : Pk) (w : World) (hq : p.wQ = 0 ∨ p.wQ = 1 ∨ p.wQ = 2) : Calls Tryz.prog 89 #[.agg (pkCells p)] w fun e w' => e = .returned (.int .u8 (marksV p)) ∧ Below w.heap.size w w' := by
  have HR : Hid (marksI p (8 * p.wQ) = marksV p) := by
    show _ = _
    rcases hq with e | e | e
    · have := marks_sum p.hasUser p.hasPass p.wR p.hasWill p.clean 0
      rw [marksI, marksV, e]; exact this
    · have := marks_sum p.hasUser p.hasPass p.wR p.hasWill p.clean 1
      rw [marksI, marksV, e]; exact this
    · have := marks_sum p.hasUser p.hasPass p.wR p.hasWill p.clean 2
      rw [marksI, marksV, e]; exact this
  obtain ⟨R, hRR⟩ : ∃ R, R = marksV p := ⟨_, rfl⟩
  rw [← hRR] at HR ⊢
  clear hRR
  obtain ⟨cs, hcs⟩ : ∃ cs, cs = pkCells p := ⟨_, rfl⟩
  obtain ⟨W, hW⟩ : ∃ W, W = w.alloc (.cells cs 29) := ⟨_, rfl⟩
  have b0 : Hid (Below w.heap.size w W) := box_below hW
  have g0 : Hid (W.heap[w.heap.size]? = some (.cells cs 29)) := by show _ = _; rw [hW]; exact heap_alloc_new w _
  have c2 : W.cell? ⟨w.heap.size, 2, none⟩ = some (.bool p.clean) := box_cells g0.out 2 _ (by rw [hcs]; rfl)
  have c5 : W.cell? ⟨w.heap.size, 5, none⟩ = some (.bool p.hasWill) := box_cells g0.out 5 _ (by rw [hcs]; rfl)
  have c8 : W.cell? ⟨w.heap.size, 8, none⟩ = some (.int .i64 p.wQ) := box_cells g0.out 8 _ (by rw [hcs]; rfl)
  have c9 : W.cell? ⟨w.heap.size, 9, none⟩ = some (.bool p.wR) := box_cells g0.out 9 _ (by rw [hcs]; rfl)
  have c10 : W.cell? ⟨w.heap.size, 10, none⟩ = some (.bool p.hasUser) := box_cells g0.out 10 _ (by rw [hcs]; rfl)
  have c12 : W.cell? ⟨w.heap.size, 12, none⟩ = some (.bool p.hasPass) := box_cells g0.out 12 _ (by rw [hcs]; rfl)
  rw [← hcs]
  clear hcs


  go_enter Tryz.func89, Tryz.ntmps89
  go_upto_region 1 with fail
  rw [← hW]
  clear hW
  rcases hq with e | e | e
  all_goals
    rw [e] at c8 HR
    go_quiet ((go_at_call 67; exact Calls.quiet_of_same (mark_any _ _ _)))
    have B1 : Hid (Below w.heap.size w (W.drewN nq)) := below_drewN b0.out nq
    go_wp2_with fail
    go_ret
    exact ⟨by rw [← HR.out]; rfl, B1.out⟩
end Go.Proofs.YtibihbclijpkjaaGreatDoor
