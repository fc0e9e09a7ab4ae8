import Derived.Test.YtpldoeeahhaimaaGreatDoorFrd
import Derived.Deep.RegionHeld
namespace Go.Proofs.YtpldoeeahhaimaaGreatDoor
open Go Go.RowKit
open Pkt (Pk Cn Sl In By Is Ss As pkCells Gd wpList_load_wanted box_below)
set_option linter.all false
def pureVal (a:Act) (o:Oper):Option Value :=
 match o.op with
 | .move x=>some (a.eval x)
 | .assign x=>some (a.eval x)
 | .pick c x y=>match a.eval c with | .bool true=>some (a.eval x) | .bool false=>some (a.eval y) | _=>none
 | _=>none
theorem pureVal_run {P:Program} {a:Act} {o:Oper} {v:Value} (h:pureVal a o=some v) (w:World):(execOp a.eval o).run P w = .ok (.value v) w:=by
 unfold pureVal at h;split at h;· rename_i x hx;cases h;simp [execOp,hx]
 · rename_i x hx;cases h;simp [execOp,hx]
 ·
  rename_i c x y hx;split at h
  · rename_i hc
    cases h;simp [execOp,hx,hc,asBool]
  · rename_i hc
    cases h;simp [execOp,hx,hc,asBool]
  · cases h
 · cases h
theorem held_call {P:Program} {ops:Array Oper} {Q:Exit->Act->World->Prop} {o:Oper} {a:Act} {w:World} {K:Act->World->Prop} {E:Prop} (hw:Region.wanted o (yielded ops a.tmps)=true) (f:FuncId) (args:Array Value)
 (hr:(execOp a.eval o).run P w = .ok (.enter f args) w) {R:Value->World->Prop} (hc:Calls P f args w fun e w'=>∃ v,e = .returned v/\R v w') (hK:∀ v w',R v w'->K (a.put o.dst v) w') :
 if Region.wanted o (yielded ops a.tmps)=true then Oper.wp P o a w K Q else E:=by
 rw [if_pos hw];unfold Oper.wp;rw [hr];simp only [Oper.upon];exact hc.mono fun e w' ⟨v,he,hv⟩=>by subst he;exact hK v w' hv
end Go.Proofs.YtpldoeeahhaimaaGreatDoor
