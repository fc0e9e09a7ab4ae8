import Derived.Test.YtceigllifjgalaaGreatDoorGi
import Derived.Deep.CutBlock
namespace Go.Proofs.YtceigllifjgalaaGreatDoor
open Go Go.RowKit
open Pkt (Pk Cn Sl In By Is Ss As pkCells Gd za0 zat)
set_option linter.unusedSimpArgs false
set_option linter.unusedVariables false
section
variable {P:Program} {a:Act} {o:Oper}
def pureVal (a:Act) (o:Oper):Option Value :=
 match o.op with
 | .move x=>some (a.eval x)
 | .assign x=>some (a.eval x)
 | .pick c x y=>match a.eval c with | .bool true=>some (a.eval x) | .bool false=>some (a.eval y) | _=>none
 | _=>none
theorem zak {v:Value} (h:pureVal a o=some v) (w:World):(execOp a.eval o).run P w = .ok (.value v) w:=by
 unfold pureVal at h;split at h;· rename_i x hx;cases h;simp [execOp,hx]
 · rename_i x hx;cases h;simp [execOp,hx]
 ·
  rename_i c x y hx;split at h
  · rename_i hc
    cases h;simp [execOp,hx,hc,asBool]
  · rename_i hc
    cases h;simp [execOp,hx,hc,asBool]
  · cases h
 · cases h
theorem zbx {ops:Array Oper} {Q:Exit->Act->World->Prop} {w:World} {K:Act->World->Prop} {E:Prop} (hw:Region.wanted o (yielded ops a.tmps)=true) (f:FuncId) (args:Array Value)
 (hr:(execOp a.eval o).run P w = .ok (.enter f args) w) {R:Value->World->Prop} (hc:Calls P f args w fun e w'=>∃ v,e = .returned v/\R v w') (hK:∀ v w',R v w'->K (a.put o.dst v) w') :
 if Region.wanted o (yielded ops a.tmps)=true then Oper.wp P o a w K Q else E:=by
 rw [if_pos hw];unfold Oper.wp;rw [hr];simp only [Oper.upon];exact hc.mono fun e w' ⟨v,he,hv⟩=>by subst he;exact hK v w' hv
end
open Pkt (Pk Cn Sl In By Is Ss As pkCells Gd KindsAt Small)
section
variable {W w:World} {g:Nat} {cs:Array Value}
theorem zaw {a b:World} (h:Below W.heap.size W a) (k:Below a.heap.size a b):Below W.heap.size W b:=h.trans ⟨k.os,k.tape,k.output,k.size,fun j hj=>k.block j (by have:=h.size;omega)⟩
theorem zaK {old:Array Value} {t:TypeId} (h:w.heap[g]?=some (.cells old t (0,0))):(w.setRow g cs).heap[g]?=some (.cells cs t (0,0)):=by first | exact heap_setRow_same h;| (unfold World.setRow;simp [Array.getElem?_modify,h])
theorem za7 {k:Nat} (h:k≠g):(w.setRow g cs).heap[k]?=w.heap[k]?:=by first | exact heap_setRow_ne h;| (unfold World.setRow;simp [Array.getElem?_modify,Ne.symm h])
theorem zbc :(w.setRow g cs).heap.size=w.heap.size:=by unfold World.setRow;simp
theorem zbv (h:Below W.heap.size W w) (hg:W.heap.size<=g):Hid (Below W.heap.size W (w.setRow g cs)) := ⟨h.os,h.tape,h.output,by rw [zbc];exact h.size,fun k hk=>(za7 (by omega)).trans (h.block k hk)⟩
theorem zaH {P:Program} {ops:Array Oper} {Q:Exit->Act->World->Prop} {o:Oper} {a:Act} {K:Act->World->Prop} {E:Prop} (hw:Region.wanted o (yielded ops a.tmps)=true) (ty:TypeId) (x y:Operand) (ho:o.op = .store ty x y)
 (g:Nat) (cells:Array Value) (hx:a.eval x = .pointer (some ⟨g,0,none⟩)) (hy:a.eval y = .agg cells) (t:TypeId) (old:Array Value) (hg:w.heap[g]?=some (.cells old t (0,0))) (hi:(P.info? ty).map (·.size)=some cells.size) (hold:old.size=cells.size) (h1:cells.all (·.oneCell')=true) (h:K (a.put o.dst undef) (w.setRow g cells)):if Region.wanted o (yielded ops a.tmps)=true then Oper.wp P o a w K Q else E:=by
 rw [if_pos hw];exact wp_store_row ty x y ho g cells hx hy t old hg hi hold h1 h
end
end Go.Proofs.YtceigllifjgalaaGreatDoor
namespace Go.Proofs.YtceigllifjgalaaGreatDoor.Co
open Go Go.RowKit
open Pkt (Pk Cn Sl In By Is Ss As pkCells Gd KindsAt Small za0)
set_option linter.unusedSimpArgs false
set_option linter.unusedVariables false
theorem zcr {w w1:World} {o:Obj} {b:Nat} (h:w.heap[b]?=some o) (hb:Below w.heap.size w w1):w1.heap[b]?=some o:=(hb.block b (Array.getElem?_eq_some_iff.1 h).1).trans h
end Go.Proofs.YtceigllifjgalaaGreatDoor.Co
namespace Go.Proofs.YtceigllifjgalaaGreatDoor.Dr
open Go Go.RowKit
open Pkt (Pk Cn Sl In By Is Ss As pkCells)
set_option linter.unusedSimpArgs false
set_option linter.unusedVariables false
open Go.Proofs.YtceigllifjgalaaGreatDoor renaming rByte → rB, rNum → rN, rEnd → rE
def RdIs (w w':World) (e:Ending):Except (Int×Int) (Rs×Pk×Cn)->Prop | .error x=>(∃ q:Pk,e = .returned (.tuple #[.agg (pkCells q),.agg #[.int .i64 x.1,.int .i64 x.2]]))/\Below w.heap.size w w' | .ok y=>(∃ q:Pk,e = .returned (.tuple #[.agg (pkCells q),.agg #[.int .i64 0,.int .i64 0]])/\In w' q y.2.2/\Alike q y.2.1/\NxAll w.heap.size q)/\Below w.heap.size w w'
theorem zb4 {P:Program} {fn:Func} {p q:Tmp} {ty uy:TypeId} (h:fn.results = #[.cell p ty,.cell q uy]) (tmps:Array Value) (w:World) (g j:Nat) (t u:TypeId) (cs ds:Array Value) (fr fs:Nat×Nat) (d d':TypeDesc)
 (hp:tmps.getD p undef = .pointer (some ⟨g,0,none⟩)) (hg:w.heap[g]?=some (.cells cs t fr)) (hu:P.underlying ty=some d) (hd:(match d with | .struct _ | .array _ _=>true | _=>false)=true) (hi:(P.info? ty).map (·.size)=some cs.size)
 (hq:tmps.getD q undef = .pointer (some ⟨j,0,none⟩)) (hj:w.heap[j]?=some (.cells ds u fs)) (hu':P.underlying uy=some d') (hd':(match d' with | .struct _ | .array _ _=>true | _=>false)=true) (hi':(P.info? uy).map (·.size)=some ds.size) :
 (results fn tmps).run P w = .ok (.tuple #[.agg cs,.agg ds]) w:=by
 have hp':tmps[p]?.getD undef = .pointer (some ⟨g,0,none⟩):=by simpa using hp
 have hq':tmps[q]?.getD undef = .pointer (some ⟨j,0,none⟩):=by simpa using hq
 simp [results,h,hp',hq',asAddr,run_loadVar_row w g t ty cs fr d hg hu hd hi,run_loadVar_row w j u uy ds fs d' hj hu' hd' hi']
theorem built39 (x:Int):Tryz.prog.built 29 [(0,.int .i64 x)]=some #[.int .i64 x,.int .i64 0,.bool false,.int .i64 0,.string ⟨#[]⟩,.bool false,.string ⟨#[]⟩,.slice none 0 0,.int .i64 0,.bool false,.bool false,.string ⟨#[]⟩,.bool false,.slice none 0 0,.bool false,.int .i64 0,.bool false,.string ⟨#[]⟩,.slice none 0 0,.int .i64 0,.bool false,.int .i64 0,.slice none 0 0,.slice none 0 0,.slice none 0 0]:=by kernel_rfl
theorem wpList_build39 {ops:Array Oper} {rest:List Oper} {o:Oper} {a:Act} {w:World} {Q:Exit->Act->World->Prop} (hg:o.guard=none) (x:Operand) (ho:o.op = .build 29 #[(0,x)]) (v:Int) (hx:a.eval x = .int .i64 v) (h:wpList Tryz.prog ops Q rest (a.put o.dst (.agg (pkCells (blank v)))) w):wpList Tryz.prog ops Q (o::rest) a w:=by
 refine zaf hg 29 _ ho (pkCells (blank v)) ?_ h;have e:(Array.map (fun (y:Nat×Operand)=>(y.1,a.eval y.2)) #[(0,x)]).toList=[(0,.int .i64 v)]:=by simp only [List.map_toArray,List.map_cons,List.map_nil,hx]
 exact (congrArg (Tryz.prog.built 29) e).trans (built39 v)
theorem info39:(Tryz.prog.info? 29).map (·.size)=some 25:=by kernel_rfl
open Go.Proofs.YtceigllifjgalaaGreatDoor renaming rEnd → rE, rByte → rB, rNum → rN
set_option maxRecDepth 100000
set_option maxHeartbeats 4000000
section
variable {z:Nat->Int} {g k mb n pb:Nat} {r:Rs} {p:Pk} {c:Cn} {W3 v w:World} {cs:Array Value}
def listP (z:Nat->Int) (n:Nat) (k:Int) (r:Rs) (p:Pk) (c:Cn):Rs×Pk×Cn := if k=8 then subL z n r p c else if k=9 then ackL z n r p c else if k=10 then unsL z n r p c else (r,p,c)
def endP (n:Nat) (y:Rs×Pk×Cn):Except (Int×Int) (Rs×Pk×Cn):=errOut (rE n y.1,y.2)
def ackP (z:Nat->Int) (n:Nat) (r:Rs) (p:Pk) (c:Cn):Except (Int×Int) (Rs×Pk×Cn) := if (rB z n r).2.q=0/\1<(rB z n r).1 then .error (0,34) else endP n ((rB z n (rB z n r).2).2,{ p with present:=(rB z n r).1==1,code:=(rB z n (rB z n r).2).1 },c)
def readP (z:Nat->Int) (n b:Nat):Except (Int×Int) (Rs×Pk×Cn) := if (b:Int) / 16=1 then (match connP0 z n ⟨0,0,0⟩ (blank 1) noCn with | .error x=>.error x | .ok y=>endP n y) else if (b:Int) / 16=2 then ackP z n ⟨0,0,0⟩ (blank 2) noCn else if (b:Int) / 16=3 then endP n (publishP z n ⟨0,0,0⟩ (blank 3) noCn ((b:Int) % 16)) else if (b:Int) / 16=12\/(b:Int) / 16=13\/(b:Int) / 16=14 then endP n (⟨0,0,0⟩,blank ((b:Int) / 16),noCn) else endP n (listP z n ((b:Int) / 16) (rN z n ⟨0,0,0⟩).2 { blank ((b:Int) / 16) with id:=(rN z n ⟨0,0,0⟩).1 } noCn)
theorem pub_facts:∀ b:Nat,b<256->decide ((8:Int)<=(b:Int) % 16)=fD ((b:Int) % 16)/\(b:Int) / 2 % 4=fQ ((b:Int) % 16)/\(((b:Int) % 2==1)=fR ((b:Int) % 16)):=by decide +kernel
theorem zdf {x:Int×Int} (h:connP0 z n r p c = .error x):x.2≠0:=by
 unfold connP0 at h;split at h;· cases h;simp
 split at h;· cases h;simp
 ·
  unfold cMid0 cEnd at h;split at h
  · rename_i hq
    cases h;exact hq
  · cases h
theorem zcZ {a:Act} {o:Oper} (x:Operand) (ho:o.op = .load 29 x) (g:Nat) (hx:a.eval x = .pointer (some ⟨g,0,none⟩)) (cs:Array Value) (fr:Nat×Nat) (hg:w.heap[g]?=some (.cells cs 29 fr)) (hs:cs.size=25):Sem.run Tryz.prog (execOp a.eval o) w = .ok (.value (.agg cs)) w:=by unfold execOp;simp only [ho,hx,Instr.loadAt,Instr.sureAddr,Sem.run_bind,Sem.run_pure,Result.andThen_ok,Pkt.zeH hg hs]
theorem zaB (x y:Int):(#[Value.int .i64 x,Value.int .i64 y]).all (·.oneCell')=true:=by simp [Value.oneCell']
theorem za5 {i:Nat} (h:k≠g):(w.setRow g cs).cell? ⟨k,i,none⟩=w.cell? ⟨k,i,none⟩:=by unfold World.cell?;rw [za7 h]
theorem zeq {B:Nat} (h:g<B):Keep B w (w.setRow g cs):=fun a u ha hb=>by unfold World.cell? at ha ⊢;rw [za7 (by omega)];exact ha
theorem zdB {a:Option Addr} {cp:Nat} (hB:Below w.heap.size w W3) (h:Ds W3 v mb pb a n cp z r p c) (lm:w.heap.size+2<=mb) (lp:w.heap.size+2<=pb) (cs ds:Array Value):Below w.heap.size w ((v.setRow w.heap.size cs).setRow (w.heap.size+1) ds) := ⟨h.os.trans hB.os,h.tape.trans hB.tape,h.output.trans hB.output,by rw [zbc,zbc];exact Nat.le_trans hB.size h.size, fun k hk=>(za7 (by omega)).trans ((za7 (by omega)).trans ((h.block k (by have:=hB.size;omega) (by omega) (by omega)).trans (hB.block k hk)))⟩
theorem rd_belowF (hB:Below w.heap.size w W3) (h:Fr2 W3 v mb pb) (lm:w.heap.size+2<=mb) (lp:w.heap.size+2<=pb) (cs ds:Array Value):Below w.heap.size w ((v.setRow w.heap.size cs).setRow (w.heap.size+1) ds) := ⟨h.os.trans hB.os,h.tape.trans hB.tape,h.output.trans hB.output,by rw [zbc,zbc];exact Nat.le_trans hB.size h.size, fun k hk=>(za7 (by omega)).trans ((za7 (by omega)).trans ((h.block k (by have:=hB.size;omega) (by omega) (by omega)).trans (hB.block k hk)))⟩
theorem zaW {ds o4 o5:Array Value} (h4:v.heap[g]?=some (.cells o4 29 (0,0))) (h5:v.heap[g+1]?=some (.cells o5 112 (0,0))):((v.setRow g cs).setRow (g+1) ds).heap[g]?=some (.cells cs 29 (0,0))/\((v.setRow g cs).setRow (g+1) ds).heap[g+1]?=some (.cells ds 112 (0,0)) := ⟨(za7 (by omega)).trans (zaK h4),zaK ((za7 (by omega)).trans h5)⟩
theorem dread_any {ao:Option Addr} {b:Nat} (h:Came w ao n k z) (hn:n<=300000) (hb:b<256) :
 Calls Tryz.prog 137 #[.int .u8 b,.slice ao n k] w fun e w'=>RdIs w w' e (readP z n b):=by
 obtain ⟨R,hRR⟩:∃ R,R=readP z n b:=⟨_,rfl⟩;rw [<-hRR];have HRR:=hidi hRR;clear hRR;have HC:=hidi h;obtain ⟨W1,hW1⟩:∃ W1,W1=(w.alloc (.cells (pkCells (blank 0)) 29)).alloc (.cells #[.int .i64 0,.int .i64 0] 112):=⟨_,rfl⟩;have b1:Below w.heap.size w W1:=by rw [hW1];exact ((Below.refl _ _).alloc (Nat.le_refl _) _).alloc (by simp) _
 have HRD:=hidi (refRead_any (zaq (B:=w.heap.size) h b1) hn);have s1:W1.heap.size=w.heap.size+2:=by rw [hW1];simp
 have B1:=hidi b1;have S1:=hidi s1;have x4:W1.heap[w.heap.size]?=some (.cells (pkCells (blank 0)) 29 (0,0)):=by rw [hW1];exact (((Below.refl _ _).alloc (Nat.le_refl _) _).block w.heap.size (by simp)).trans (heap_alloc_new w _)
 have x5:W1.heap[w.heap.size+1]?=some (.cells #[.int .i64 0,.int .i64 0] 112 (0,0)):=by rw [hW1];have:=heap_alloc_new (w.alloc (.cells (pkCells (blank 0)) 29)) (.cells #[.int .i64 0,.int .i64 0] 112);simpa using this
 have X4:=hidi x4;have X5:=hidi x5;have HW1:=hidi hW1;clear h b1 s1 x4 x5 hW1;go_enter Tryz.func137,Tryz.ntmps137;go_upto_region 1 with fail;rw [show (w.alloc (.cells #[.int .i64 0,.int .i64 0,.bool false,.int .i64 0,.string ⟨#[]⟩,.bool false,.string ⟨#[]⟩,.slice none 0 0,.int .i64 0,.bool false,.bool false,.string ⟨#[]⟩,.bool false,.slice none 0 0,.bool false,.int .i64 0,.bool false,.string ⟨#[]⟩,.slice none 0 0,.int .i64 0,.bool false,.int .i64 0,.slice none 0 0,.slice none 0 0,.slice none 0 0] 29)).alloc (.cells #[.int .i64 0,.int .i64 0] 112)=W1 from HW1.out.symm];clear HW1;go_wp2_with fail;go_must (go_at_call 208);refine HRD.out.mono ?_;rintro e v1 ⟨mb,a,cp,rfl,hrd,lm,la,hb1⟩;have RD:=hidi hrd;have LM:=hidi lm;have LA:=hidi la;have B2:=hidi hb1;clear HRD hrd lm la hb1;have wk:IntKind.i64.wrap ((b:Int) / 16)=(b:Int) / 16:=by rw [IntKind.wrap_i64];omega
 go_upto_region 3 with (first | (refine wpList_build39 rfl (.tmp 14) rfl ((b:Int) / 16) rfl ?_)|(refine wpList_store_row rfl 29 (.tmp 7) (.tmp 15) rfl v1.heap.size (pkCells (blank ((b:Int) / 16))) rfl rfl 29 (pkCells (blank 0)) (heap_alloc_new _ _) info39 rfl (pk_one _) ?_;rw [World.setRow_alloc_new]));obtain ⟨W3,hW3⟩:∃ W3,W3=v1.alloc (.cells (pkCells (blank ((b:Int) / 16))) 29):=⟨_,rfl⟩;obtain ⟨pb,hpb⟩:∃ pb,pb=v1.heap.size:=⟨_,rfl⟩;have b3:Below v1.heap.size v1 W3:=by rw [hW3];exact (Below.refl _ _).alloc (Nat.le_refl _) _
 have hmb:mb<v1.heap.size:=lt_of_block (by have:=RD.out.rr;unfold Rr at this;exact this);have z3:W3.heap.size=v1.heap.size+1:=by rw [hW3];exact Array.size_push _
 have DS:=hidi (show Ds W3 W3 mb pb a n cp z ⟨0,0,0⟩ (blank ((b:Int) / 16)) noCn from ⟨Rrd.below RD.out b3,by rw [hW3,hpb];exact heap_alloc_new v1 _,by omega,by omega,by omega,fun g e=>by have:=(LA.out g e).2;omega,Go.Proofs.YtceigllifjgalaaGreatDoor.zbE _ _,zaX _ _,rfl,rfl,rfl,Nat.le_refl _,fun _ _ _ _=>rfl⟩);have Y4:=hidi (show W3.heap[w.heap.size]?=some (.cells (pkCells (blank 0)) 29 (0,0)) from by have:=S1.out;have:=B2.out.size;exact (b3.block _ (by omega)).trans ((B2.out.block _ (by omega)).trans X4.out));have Y5:=hidi (show W3.heap[w.heap.size+1]?=some (.cells #[.int .i64 0,.int .i64 0] 112 (0,0)) from by have:=S1.out;have:=B2.out.size;exact (b3.block _ (by omega)).trans ((B2.out.block _ (by omega)).trans X5.out));have LL:=hidi (show w.heap.size+2<=mb/\w.heap.size+2<=pb/\w.heap.size+2<=W3.heap.size from by have:=S1.out;have:=LM.out;have:=B2.out.size;omega);have BB:=hidi (show Below w.heap.size w W3 from B1.out.trans ((B2.out.trans (b3.mono B2.out.size)).mono B1.out.size));rw [<-hW3,<-hpb];clear hW3 hpb b3 hmb z3 X4 X5 RD;have kc:=DS.out.cell 0 (.int .i64 ((b:Int) / 16)) rfl;go_upto_block 0 with fail;clear kc;obtain ⟨kd,hkd⟩:∃ kd,kd=(b:Int) / 16:=⟨_,rfl⟩;rw [<-hkd] at DS ⊢;have HKD:=hidi hkd;have HRK:=hidi (show R=readP z n b from HRR.out);rw [readP,<-hkd] at HRK;clear hkd HRR;go_cut [] from 18 to 91 (fun wx=>∃ y:Rs×Pk×Cn,Hid (R=errOut (rE n y.1,y.2))/\Hid (DDone W3 wx mb pb a n cp z y));case first =>
  by_cases c12:kd=12
  · subst c12
    have HG:=hidi (show R=endP n (⟨0,0,0⟩,blank 12,noCn) from by rw [HRK.out];rfl);clear HRK HKD;go_wp2_with fail;go_meet;case rel=>exact ⟨_,HG.out,blank 12,DS.out,Alike.refl _⟩
  by_cases c13:kd=13
  · subst c13
    have HG:=hidi (show R=endP n (⟨0,0,0⟩,blank 13,noCn) from by rw [HRK.out];rfl);clear HRK HKD;go_wp2_with fail;go_meet;case rel=>exact ⟨_,HG.out,blank 13,DS.out,Alike.refl _⟩
  by_cases c14:kd=14
  · subst c14
    have HG:=hidi (show R=endP n (⟨0,0,0⟩,blank 14,noCn) from by rw [HRK.out];rfl);clear HRK HKD;go_wp2_with fail;go_meet;case rel=>exact ⟨_,HG.out,blank 14,DS.out,Alike.refl _⟩
  by_cases c8:kd=8
  · subst c8
    have HG:=hidi (show R=endP n (listP z n 8 (rN z n ⟨0,0,0⟩).2 { blank 8 with id:=(rN z n ⟨0,0,0⟩).1 } noCn) from by rw [HRK.out];rfl);obtain ⟨t,ht⟩:∃ t,t=rN z n ⟨0,0,0⟩:=⟨_,rfl⟩;have D5:=hidi (ds_num DS.out);rw [<-ht] at D5 HG;clear HRK ht;obtain ⟨t,r1⟩:=t;go_wp2_with fail;go_must (go_at_call 212);refine D5.out.mono ?_;rintro e v4 ⟨rfl,hX⟩;have e21:=hX.cell 21 (.int .i64 (blank 8).id) rfl;have g21:=hX.frozen 21;obtain ⟨v5,hv5⟩:∃ v5,v5=v4.setCell ⟨pb,21,none⟩ (.int .i64 t):=⟨_,rfl⟩;have X5:=hidi (show Ds W3 v5 mb pb a n cp z r1 { blank 8 with id:=t } noCn from by rw [hv5];exact hX.setS 21 _ _ rfl rfl rfl rfl rfl rfl rfl);clear hX D5;go_upto_region 5 with fail;rw [<-hv5];clear hv5 e21 g21;have L5:=hidi (dsub_any X5.out rfl rfl);go_wp2_with fail;go_must (go_at_call 214);refine L5.out.mono ?_;rintro e v6 ⟨rfl,hd⟩;have HD:=hidi hd;clear hd L5;go_wp2_with fail;go_meet;case rel=>exact ⟨_,HG.out,HD.out⟩
  by_cases c9:kd=9
  · subst c9
    have HG:=hidi (show R=endP n (listP z n 9 (rN z n ⟨0,0,0⟩).2 { blank 9 with id:=(rN z n ⟨0,0,0⟩).1 } noCn) from by rw [HRK.out];rfl);obtain ⟨t,ht⟩:∃ t,t=rN z n ⟨0,0,0⟩:=⟨_,rfl⟩;have D5:=hidi (ds_num DS.out);rw [<-ht] at D5 HG;clear HRK ht;obtain ⟨t,r1⟩:=t;go_wp2_with fail;go_must (go_at_call 212);refine D5.out.mono ?_;rintro e v4 ⟨rfl,hX⟩;have e21:=hX.cell 21 (.int .i64 (blank 9).id) rfl;have g21:=hX.frozen 21;obtain ⟨v5,hv5⟩:∃ v5,v5=v4.setCell ⟨pb,21,none⟩ (.int .i64 t):=⟨_,rfl⟩;have X5:=hidi (show Ds W3 v5 mb pb a n cp z r1 { blank 9 with id:=t } noCn from by rw [hv5];exact hX.setS 21 _ _ rfl rfl rfl rfl rfl rfl rfl);clear hX D5;go_upto_region 5 with fail;rw [<-hv5];clear hv5 e21 g21;have L5:=hidi (dack_any X5.out rfl rfl);go_wp2_with fail;go_must (go_at_call 214);refine L5.out.mono ?_;rintro e v6 ⟨rfl,hd⟩;have HD:=hidi hd;clear hd L5;go_wp2_with fail;go_meet;case rel=>exact ⟨_,HG.out,HD.out⟩
  by_cases c10:kd=10
  · subst c10
    have HG:=hidi (show R=endP n (listP z n 10 (rN z n ⟨0,0,0⟩).2 { blank 10 with id:=(rN z n ⟨0,0,0⟩).1 } noCn) from by rw [HRK.out];rfl);obtain ⟨t,ht⟩:∃ t,t=rN z n ⟨0,0,0⟩:=⟨_,rfl⟩;have D5:=hidi (ds_num DS.out);rw [<-ht] at D5 HG;clear HRK ht;obtain ⟨t,r1⟩:=t;go_wp2_with fail;go_must (go_at_call 212);refine D5.out.mono ?_;rintro e v4 ⟨rfl,hX⟩;have e21:=hX.cell 21 (.int .i64 (blank 10).id) rfl;have g21:=hX.frozen 21;obtain ⟨v5,hv5⟩:∃ v5,v5=v4.setCell ⟨pb,21,none⟩ (.int .i64 t):=⟨_,rfl⟩;have X5:=hidi (show Ds W3 v5 mb pb a n cp z r1 { blank 10 with id:=t } noCn from by rw [hv5];exact hX.setS 21 _ _ rfl rfl rfl rfl rfl rfl rfl);clear hX D5;go_upto_region 5 with fail;rw [<-hv5];clear hv5 e21 g21;have L5:=hidi (duns_any X5.out rfl rfl);go_wp2_with fail;go_must (go_at_call 214);refine L5.out.mono ?_;rintro e v6 ⟨rfl,hd⟩;have HD:=hidi hd;clear hd L5;go_wp2_with fail;go_meet;case rel=>exact ⟨_,HG.out,HD.out⟩
  by_cases c2:kd=2
  · subst c2
    have HG:=hidi (show R=ackP z n ⟨0,0,0⟩ (blank 2) noCn from by rw [HRK.out];rfl);obtain ⟨t,ht⟩:∃ t,t=rB z n ⟨0,0,0⟩:=⟨_,rfl⟩;obtain ⟨s,hs⟩:∃ s,s=rB z n t.2:=⟨_,rfl⟩;have D5:=hidi (zcM DS.out);rw [ackP,<-ht,<-hs] at HG;rw [<-ht] at D5;have HS:=hidi hs;clear HRK ht hs;obtain ⟨t,r1⟩:=t;obtain ⟨s,r2⟩:=s;simp only at HG HS;go_wp2_with fail;go_must (go_at_call 210);refine D5.out.mono ?_;rintro e v4 ⟨rfl,hX,ht0,ht1⟩;have X5:=hidi hX;have ce:=hX.err.1;clear hX D5;have D6:=hidi (zcM X5.out);rw [<-HS.out] at D6;-- the fields behind the first byte
    have e14:=X5.out.cell 14 (.bool (blank 2).present) rfl;have g14:=X5.out.frozen 14;obtain ⟨v5,hv5⟩:∃ v5,v5=v4.setCell ⟨pb,14,none⟩ (.bool (t==1)):=⟨_,rfl⟩;have X6:=hidi (show Ds W3 v5 mb pb a n cp z r1 { blank 2 with present:=t==1 } noCn from by rw [hv5];exact X5.out.setS 14 _ _ rfl rfl rfl rfl rfl rfl rfl);have D7:=hidi (zcM X6.out);rw [<-HS.out] at D7;have GO:=hidi (show ∀ (w7:World),Ds W3 w7 mb pb a n cp z r2 { blank 2 with present:=t==1 } noCn->Ds W3 (w7.setCell ⟨pb,15,none⟩ (.int .i64 s)) mb pb a n cp z r2 { blank 2 with present:=t==1,code:=s } noCn from fun w7 h7=>h7.setS 15 _ _ rfl rfl rfl rfl rfl rfl rfl);by_cases hbad:r1.q=0/\1<t
    · have HE:=hidi (show R = .error (0,34) from by rw [HG.out,if_pos hbad])
      have x4:=hidi (X5.out.kept Y4.out (by have:=LL.out;omega) (by have:=LL.out;omega));have x5:=hidi (X5.out.kept Y5.out (by have:=LL.out;omega) (by have:=LL.out;omega));rw [hbad.1] at ce;have hlt:1<t:=hbad.2;clear hbad hv5 e14 g14 X6 D6 D7 GO;go_wp2_with (first | (refine Pkt.za0 rfl (.tmp 7) rfl pb rfl (pkCells (blank 2)) (0,0) X5.out.pk (zav _) ?_)|(refine wpList_store_row rfl 29 (.tmp 4) (.tmp 47) rfl w.heap.size (pkCells (blank 2)) rfl rfl 29 (pkCells (blank 0)) x4.out zaa rfl (pk_one _) ?_)|(refine wpList_store_row rfl 112 (.tmp 5) (.tmp 48) rfl (w.heap.size+1) #[.int .i64 0,.int .i64 34] rfl rfl 112 #[.int .i64 0,.int .i64 0] ((za7 (by omega)).trans x5.out) f_info rfl (zaB _ _) ?_));have RR:=zaW (cs:=pkCells (blank 2)) (ds:=#[.int .i64 0,.int .i64 34]) x4.out x5.out;refine bodyPost_ret (zb4 rfl _ _ w.heap.size (w.heap.size+1) 29 112 (pkCells (blank 2)) #[.int .i64 0,.int .i64 34] (0,0) (0,0) _ _ rfl RR.1 Tryz.underlying29 rfl zaa rfl RR.2 Tryz.underlying112 rfl f_info) rfl ?_;rw [HE.out];exact ⟨⟨blank 2,rfl⟩,zdB BB.out X5.out LL.out.1 LL.out.2.1 _ _⟩
    · have HE:=hidi (show R=endP n (r2,{ blank 2 with present:=t==1,code:=s },noCn) from by rw [HG.out,if_neg hbad])
      have HV5:=hidi hv5;clear hv5;have DUO:Hid ((r1.q==0)=false\/(r1.q=0/\decide (1<t)=false)):=by
       by_cases q:r1.q=0
       · have hn1:¬ 1<t:=fun h=>hbad ⟨q,h⟩
         exact .inr ⟨q,by simpa using hn1⟩
       · exact .inl (by simpa using q)
      clear hbad ht0 ht1;rcases DUO.out with hq | ⟨hq,hlt⟩
      · clear DUO
        go_upto_region 15 with fail;rw [<-HV5.out];clear e14 g14 ce;go_wp2_with fail;go_must (go_at_call 210);refine D7.out.mono ?_;rintro e w7 ⟨rfl,hX,hs0,hs1⟩;have e15:=hX.cell 15 (.int .i64 (blank 2).code) rfl;have g15:=hX.frozen 15;have wl:IntKind.i64.wrap s=s:=by rw [IntKind.wrap_i64];omega
        have X8:=hidi (GO.out _ hX);clear hX hs0 hs1 D7 GO;go_wp2_with fail;go_meet;case rel=>exact ⟨_,HE.out,_,X8.out,Alike.refl _⟩
      · rw [hq] at ce
        clear DUO hq;go_upto_region 15 with fail;rw [<-HV5.out];clear e14 g14 ce;go_wp2_with fail;go_must (go_at_call 210);refine D7.out.mono ?_;rintro e w7 ⟨rfl,hX,hs0,hs1⟩;have e15:=hX.cell 15 (.int .i64 (blank 2).code) rfl;have g15:=hX.frozen 15;have wl:IntKind.i64.wrap s=s:=by rw [IntKind.wrap_i64];omega
        have X8:=hidi (GO.out _ hX);clear hX hs0 hs1 D7 GO;go_wp2_with fail;go_meet;case rel=>exact ⟨_,HE.out,_,X8.out,Alike.refl _⟩
  by_cases c3:kd=3
  · subst c3
    have HG:=hidi (show R=endP n (publishP z n ⟨0,0,0⟩ (blank 3) noCn ((b:Int) % 16)) from by rw [HRK.out];rfl);obtain ⟨pf1,pf2,pf3⟩:=pub_facts b hb;obtain ⟨fd,efd⟩:∃ y,fD ((b:Int) % 16)=y:=⟨_,rfl⟩;obtain ⟨fq,efq⟩:∃ y,fQ ((b:Int) % 16)=y:=⟨_,rfl⟩;obtain ⟨fr,efr⟩:∃ y,fR ((b:Int) % 16)=y:=⟨_,rfl⟩;obtain ⟨t,ht⟩:∃ t,t=rText z n ⟨0,0,0⟩:=⟨_,rfl⟩;obtain ⟨s,hs⟩:∃ s,s=(if 0<fq then rN z n t.2 else ((blank 3).id,t.2)):=⟨_,rfl⟩;obtain ⟨u,hu⟩:∃ u,u=rRest z n s.2:=⟨_,rfl⟩;rw [publishP,pubNum,efd,efq,efr,<-ht,<-hs,<-hu] at HG;rw [efd] at pf1;rw [efq] at pf2;rw [efr] at pf3;have HT:=hidi ht;have HS:=hidi hs;have HU:=hidi hu;clear HRK ht hs hu efd efq efr;obtain ⟨t,r1⟩:=t;obtain ⟨s,r2⟩:=s;obtain ⟨⟨un,uz⟩,r3⟩:=u;simp only at HG HS HU;have A1:=DS.out.setS 16 (.bool fd) { blank 3 with dup:=fd } rfl rfl rfl rfl rfl rfl rfl;have A2:=A1.setS 19 (.int .i64 fq) { blank 3 with dup:=fd,mQ:=fq } rfl rfl rfl rfl rfl rfl rfl;have A3:=A2.setS 20 (.bool fr) { blank 3 with dup:=fd,mQ:=fq,mR:=fr } rfl rfl rfl rfl rfl rfl rfl;have e16:=DS.out.cell 16 (.bool (blank 3).dup) rfl;have g16:=DS.out.frozen 16;have e19:=A1.cell 19 (.int .i64 (blank 3).mQ) rfl;have g19:=A1.frozen 19;have e20:=A2.cell 20 (.bool (blank 3).mR) rfl;have g20:=A2.frozen 20;have wq:IntKind.i64.wrap ((b:Int) / 2 % 4)=(b:Int) / 2 % 4:=by rw [IntKind.wrap_i64];omega
    obtain ⟨v4,hv4⟩:∃ v4,v4=((W3.setCell ⟨pb,16,none⟩ (.bool fd)).setCell ⟨pb,19,none⟩ (.int .i64 fq)).setCell ⟨pb,20,none⟩ (.bool fr):=⟨_,rfl⟩;have X4:=hidi (show Ds W3 v4 mb pb a n cp z ⟨0,0,0⟩ { blank 3 with dup:=fd,mQ:=fq,mR:=fr } noCn from by rw [hv4];exact A3);clear A1 A2 A3;go_upto_region 18 with fail;rw [<-hv4];clear hv4 e16 g16 e19 g19 e20 g20 wq pf1 pf2 pf3;have D5:=hidi (zcR X4.out);rw [<-HT.out] at D5;go_wp2_with fail;go_must (go_at_call 211);refine D5.out.mono ?_;rintro e v5 ⟨rfl,hX⟩;have e17:=hX.cell 17 (.string (blank 3).mT) rfl;have g17:=hX.frozen 17;obtain ⟨v6,hv6⟩:∃ v6,v6=v5.setCell ⟨pb,17,none⟩ (.string t):=⟨_,rfl⟩;have X6:=hidi (show Ds W3 v6 mb pb a n cp z r1 { blank 3 with dup:=fd,mQ:=fq,mR:=fr,mT:=t } noCn from by rw [hv6];exact hX.setS 17 _ _ rfl rfl rfl rfl rfl rfl rfl);clear hX D5 X4;go_upto_region 19 with fail;rw [<-hv6];clear hv6 e17 g17;have e19:=X6.out.cell 19 (.int .i64 fq) rfl;by_cases hfq:0<fq
    · have HZ:=hidi (show (s,r2)=rN z n r1 from by have:=HS.out;rw [if_pos hfq] at this;exact this)
      have D6:=hidi (ds_num X6.out);rw [<-HZ.out] at D6;go_wp2_with fail;go_must (go_at_call 212);refine D6.out.mono ?_;rintro e v7 ⟨rfl,hX⟩;have e21:=hX.cell 21 (.int .i64 (blank 3).id) rfl;have g21:=hX.frozen 21;obtain ⟨v7',hv7⟩:∃ v7',v7'=v7.setCell ⟨pb,21,none⟩ (.int .i64 s):=⟨_,rfl⟩;have X7:=hidi (show Ds W3 v7' mb pb a n cp z r2 { blank 3 with dup:=fd,mQ:=fq,mR:=fr,mT:=t,id:=s } noCn from by rw [hv7];exact hX.setS 21 _ _ rfl rfl rfl rfl rfl rfl rfl);clear hX D6 X6 hfq e19;go_upto_region 21 with fail;rw [<-hv7];clear hv7 e21 g21;have D8:=hidi (zfe X7.out);rw [<-HU.out] at D8;go_wp2_with fail;go_must (go_at_call 213);refine D8.out.mono ?_;rintro e v8 ⟨sl,rfl,hs1,hs2,hs3,hX⟩;have e18:=hX.cell 18 (.slice (blank 3).mP.a (blank 3).mP.n (blank 3).mP.c) rfl;have g18:=hX.frozen 18;have X9:=hidi (hX.setM hs1 hs3);have HSL:=hidi hs2;clear hX D8 hs1 hs2 hs3;go_wp2_with fail;go_meet;case rel=>exact ⟨_,HG.out,_,X9.out,(blank 3).wP,(blank 3).pass,sl,(blank 3).asks,(blank 3).codes,(blank 3).filters,rfl,rfl,rfl,HSL.out,rfl,rfl,rfl⟩
    · have hfq':decide (0<fq)=false:=by simpa using hfq
      have HZ:=hidi (show s=(blank 3).id/\r2=r1 from by have:=HS.out;rw [if_neg hfq] at this;exact ⟨congrArg Prod.fst this,congrArg Prod.snd this⟩);have X7:=hidi (show Ds W3 v6 mb pb a n cp z r2 { blank 3 with dup:=fd,mQ:=fq,mR:=fr,mT:=t,id:=s } noCn from by rw [HZ.out.1,HZ.out.2];exact X6.out);clear X6 hfq;go_upto_region 21 with fail;clear e19;have D8:=hidi (zfe X7.out);rw [<-HU.out] at D8;go_wp2_with fail;go_must (go_at_call 213);refine D8.out.mono ?_;rintro e v8 ⟨sl,rfl,hs1,hs2,hs3,hX⟩;have e18:=hX.cell 18 (.slice (blank 3).mP.a (blank 3).mP.n (blank 3).mP.c) rfl;have g18:=hX.frozen 18;have X9:=hidi (hX.setM hs1 hs3);have HSL:=hidi hs2;clear hX D8 hs1 hs2 hs3;go_wp2_with fail;go_meet;case rel=>exact ⟨_,HG.out,_,X9.out,(blank 3).wP,(blank 3).pass,sl,(blank 3).asks,(blank 3).codes,(blank 3).filters,rfl,rfl,rfl,HSL.out,rfl,rfl,rfl⟩
  by_cases c1:kd=1
  · subst c1
    have HG:=hidi (show R=(match connP0 z n ⟨0,0,0⟩ (blank 1) noCn with | .error x=>.error x | .ok y=>endP n y) from by rw [HRK.out];rfl);obtain ⟨C,hC⟩:∃ C,C=connP0 z n ⟨0,0,0⟩ (blank 1) noCn:=⟨_,rfl⟩;have D5:=hidi (dconnect_any DS.out);rw [<-hC] at D5 HG;have HER:=hidi (show ∀ x,C = .error x->x.2≠0 from fun x hx=>zdf (hC ▸ hx));clear hC HRK;go_wp2_with fail;go_must (go_at_call 209);refine D5.out.mono ?_;rintro e v4 hd;clear D5;cases C with
    | ok y => obtain ⟨r1,p1,c1⟩:=y;obtain ⟨rfl,q,hX,hal⟩:=hd;have X5:=hidi hX;have HAL:=hidi hal;clear hX hal;go_wp2_with fail;go_meet;case rel=>exact ⟨_,HG.out,q,X5.out.below ((Below.refl _ _).alloc (Nat.le_refl _) _),HAL.out⟩;| error x =>
     obtain ⟨x0,x1⟩:=x;obtain ⟨rfl,hfr,q,hpk⟩:=hd;have HF:=hidi hfr;have HP:=hidi hpk;clear hfr hpk;have hx1:(x1 != 0)=true:=by have:=HER.out _ rfl;simpa using this
     go_upto_region 9 with fail;obtain ⟨v5,hv5⟩:∃ v5,v5=v4.alloc (.cells #[.int .i64 x0,.int .i64 x1] 112):=⟨_,rfl⟩;obtain ⟨fb,hfb⟩:∃ fb,fb=v4.heap.size:=⟨_,rfl⟩;have b5:Below v4.heap.size v4 v5:=by rw [hv5];exact (Below.refl _ _).alloc (Nat.le_refl _) _
     have FR:=hidi (Fr2.below HF.out b5);have x4:=hidi ((FR.out.block _ (by have:=LL.out;omega) (by have:=LL.out;omega) (by have:=LL.out;omega)).trans Y4.out);have x5:=hidi ((FR.out.block (w.heap.size+1) (by have:=LL.out;omega) (by have:=LL.out;omega) (by have:=LL.out;omega)).trans Y5.out);have PK:=hidi ((b5.block pb (lt_of_block HP.out)).trans HP.out);have nb:v5.heap[fb]?=some (.cells #[.int .i64 x0,.int .i64 x1] 112 (0,0)):=by rw [hv5,hfb];exact heap_alloc_new v4 _
     have k0:=dcell nb 0 (.int .i64 x0) rfl;have k1:=dcell nb 1 (.int .i64 x1) rfl;have LF:=hidi (show w.heap.size+2<=fb from by rw [hfb];have:=LL.out;have:=HF.out.size;omega);rw [<-hv5,<-hfb];clear hv5 hfb b5 nb HF HP;refine wp_region_held_drew (S:=fun w'=>w'.heap[pb]?=some (.cells (pkCells q) 29 (0,0))/\w'.cell? ⟨fb,0,none⟩=some (.int .i64 x0)/\w'.cell? ⟨fb,1,none⟩=some (.int .i64 x1)) (by kernel_rfl) ⟨PK.out,k0,k1⟩ (fun hHeld=>?_);change wpAnyH _ _ _ _ _ 4 #[false,false,false,false] _ (World.drew _);refine tkz 0 ⟨some 32,.load 29 (.tmp 7),29,"crierref3.go:186",#[],none⟩ (.agg (pkCells q)) (by intro wq hSw;exact zcZ (.tmp 7) rfl pb rfl (pkCells q) (0,0) hSw.1 (zav _)) hHeld ?_;simp only [Act.put,zz1,zz2,zz3];refine tkz 1 ⟨some 33,.load 112 (.tmp 8),112,"crierref3.go:186",#[⟨2,.gcOnly .lateStores⟩],none⟩ (.agg #[.int .i64 x0,.int .i64 x1]) (by intro wq hSw;obtain ⟨-,s1,s2⟩:=hSw;clear hHeld;go_simp) hHeld ?_;simp only [Act.put,zz1,zz2,zz3];refine wpAnyH_ready (rs:=[2]) (by kernel_rfl) (by simp) ?_;refine AllReadyH.cons (o:=⟨none,.store 29 (.tmp 4) (.tmp 32),0,"crierref3.go:186",#[⟨0,.data⟩,⟨0,.phase⟩,⟨1,.textOnly .lateStores⟩],none⟩) (by rfl) (fun K hK=>?_) AllReadyH.nil;refine zaH (by kernel_rfl) 29 (.tmp 4) (.tmp 32) rfl w.heap.size (pkCells q) rfl rfl 29 (pkCells (blank 0)) x4.out zaa rfl (pk_one _) ?_;refine hK.out _ _ ⟨(za7 (by have:=LL.out;omega)).trans PK.out,(za5 (by have:=LF.out;omega)).trans k0,(za5 (by have:=LF.out;omega)).trans k1⟩ (fun hHeld=>?_);clear hK K;(try simp only [Act.put,zz1,zz2,zz3]);refine wpAnyH_ready (rs:=[3]) (by kernel_rfl) (by simp) ?_;refine AllReadyH.cons (o:=⟨none,.store 112 (.tmp 5) (.tmp 33),0,"crierref3.go:186",#[⟨1,.data⟩,⟨2,.chain⟩,⟨0,.phase⟩,⟨1,.phase⟩,⟨2,.phase⟩],none⟩) (by rfl) (fun K hK=>?_) AllReadyH.nil;refine zaH (by kernel_rfl) 112 (.tmp 5) (.tmp 33) rfl (w.heap.size+1) #[.int .i64 x0,.int .i64 x1] rfl rfl 112 #[.int .i64 0,.int .i64 0] ((za7 (by omega)).trans x5.out) f_info rfl (zaB _ _) ?_;refine hK.out _ _ ⟨(za7 (by have:=LL.out;omega)).trans ((za7 (by have:=LL.out;omega)).trans PK.out),(za5 (by have:=LF.out;omega)).trans ((za5 (by have:=LF.out;omega)).trans k0),(za5 (by have:=LF.out;omega)).trans ((za5 (by have:=LF.out;omega)).trans k1)⟩ (fun hHeld=>?_);clear hK K hHeld;(try simp only [Act.put,zz1,zz2,zz3]);refine wpAnyH_done (by kernel_rfl) ?_ _;go_wp2_with fail;have RR:=zaW (v:=v5.drew) (cs:=pkCells q) (ds:=#[.int .i64 x0,.int .i64 x1]) x4.out x5.out;refine bodyPost_ret (zb4 rfl _ _ w.heap.size (w.heap.size+1) 29 112 (pkCells q) #[.int .i64 x0,.int .i64 x1] (0,0) (0,0) _ _ rfl RR.1 Tryz.underlying29 rfl zaa rfl RR.2 Tryz.underlying112 rfl f_info) rfl ?_;rw [HG.out];exact ⟨⟨q,rfl⟩,rd_belowF BB.out (Fr2.drew FR.out) LL.out.1 LL.out.2.1 _ _⟩
  have d12:(kd==12)=false:=by simpa using c12
  have d13:(kd==13)=false:=by simpa using c13
  have d14:(kd==14)=false:=by simpa using c14
  have d8:(kd==8)=false:=by simpa using c8
  have d9:(kd==9)=false:=by simpa using c9
  have d10:(kd==10)=false:=by simpa using c10
  have d2:(kd==2)=false:=by simpa using c2
  have d3:(kd==3)=false:=by simpa using c3
  have d1:(kd==1)=false:=by simpa using c1
  · have HCC:=hidi (And.intro c8 (And.intro c9 c10))
    have HGG:=hidi (show R=endP n (listP z n kd (rN z n ⟨0,0,0⟩).2 { blank kd with id:=(rN z n ⟨0,0,0⟩).1 } noCn) from by rw [HRK.out,if_neg c1,if_neg c2,if_neg c3,if_neg (by omega)]);rw [listP,if_neg c8,if_neg c9,if_neg c10] at HGG;clear c12 c13 c14 c8 c9 c10 c2 c3 c1;obtain ⟨t,ht⟩:∃ t,t=rN z n ⟨0,0,0⟩:=⟨_,rfl⟩;have D5:=hidi (ds_num DS.out);rw [<-ht] at D5 HGG;clear HRK ht;obtain ⟨t,r1⟩:=t;go_wp2_with fail;go_must (go_at_call 212);refine D5.out.mono ?_;rintro e v4 ⟨rfl,hX⟩;have e21:=hX.cell 21 (.int .i64 (blank kd).id) rfl;have g21:=hX.frozen 21;obtain ⟨v5,hv5⟩:∃ v5,v5=v4.setCell ⟨pb,21,none⟩ (.int .i64 t):=⟨_,rfl⟩;have X5:=hidi (show Ds W3 v5 mb pb a n cp z r1 { blank kd with id:=t } noCn from by rw [hv5];exact hX.setS 21 _ _ rfl rfl rfl rfl rfl rfl rfl);clear hX D5;go_upto_region 5 with fail;rw [<-hv5];clear hv5 e21 g21;have L5:=hidi (dnone_any X5.out HCC.out.1 HCC.out.2.1 HCC.out.2.2);go_wp2_with fail;go_must (go_at_call 214);refine L5.out.mono ?_;rintro e v6 ⟨rfl,hd⟩;have HD:=hidi hd;clear hd L5;go_wp2_with fail;go_meet;case rel=>exact ⟨_,HGG.out,{ blank kd with id:=t },by rw [HD.out];exact X5.out,Alike.refl _⟩
 case rest =>
  obtain ⟨⟨r1,p1,c1⟩,HR,HD⟩:=hcut;obtain ⟨q,hds,hal⟩:=HD.out;have D1:=hidi hds;have HAL:=hidi hal;clear hds hal HD DS;have E1:=hidi (ds_end D1.out);go_wp2_with fail;go_must (go_at_call 215);refine E1.out.mono ?_;rintro e v5 ⟨rfl,hX⟩;obtain ⟨r2,er2⟩:∃ r2,r2=rE n r1:=⟨_,rfl⟩;have HR2:=hidi (show R=errOut (r2,p1,c1) from by rw [HR.out,er2]);have X6:=hidi (show Ds W3 v5 mb pb a n cp z r2 q c1 from by rw [er2];exact hX);clear hX E1 D1 er2 HR;have ce:=X6.out.err.1;have x4:=hidi (X6.out.kept Y4.out (by have:=LL.out;omega) (by have:=LL.out;omega));have x5:=hidi (X6.out.kept Y5.out (by have:=LL.out;omega) (by have:=LL.out;omega));by_cases hq:r2.q=0
  · rw [hq] at ce
    have HQ:=hidi (show R = .ok (r2,p1,c1) from by rw [HR2.out,errOut,if_neg (by rw [hq];exact fun q=>q rfl)]);clear hq;go_wp2_with (first | (refine Pkt.za0 rfl (.tmp 7) rfl pb rfl (pkCells q) (0,0) X6.out.pk (zav _) ?_)|(refine wpList_store_row rfl 29 (.tmp 4) (.tmp 109) rfl w.heap.size (pkCells q) rfl rfl 29 (pkCells (blank 0)) x4.out zaa rfl (pk_one _) ?_)|(refine wpList_store_row rfl 112 (.tmp 5) (.tmp 110) rfl (w.heap.size+1) #[.int .i64 0,.int .i64 0] rfl rfl 112 #[.int .i64 0,.int .i64 0] ((za7 (by omega)).trans x5.out) f_info rfl (zaB _ _) ?_));have RR:=zaW (cs:=pkCells q) (ds:=#[.int .i64 0,.int .i64 0]) x4.out x5.out;refine bodyPost_ret (zb4 rfl _ _ w.heap.size (w.heap.size+1) 29 112 (pkCells q) #[.int .i64 0,.int .i64 0] (0,0) (0,0) _ _ rfl RR.1 Tryz.underlying29 rfl zaa rfl RR.2 Tryz.underlying112 rfl f_info) rfl ?_;rw [HQ.out];refine ⟨⟨q,rfl,In.keep (In.keep X6.out.inn X6.out.nx (zeq (by have:=LL.out;omega))) X6.out.nx (zeq (by have:=LL.out;omega)),HAL.out,?_⟩,zdB BB.out X6.out LL.out.1 LL.out.2.1 _ _⟩;have x:=X6.out.nx;have hl:=BB.out.size;exact ⟨Nx.mono x.wP hl,Nx.mono x.pass hl,Nx.mono x.mP hl,Nx.mono x.asks hl,Nx.mono x.codes hl,Nx.mono x.filters hl⟩
  · have hq':(r2.q==0)=false:=by simpa using hq
    have ce2:=X6.out.err.2;go_upto_region 27 with fail;have HQ:=hidi (show R = .error (r2.p,r2.q) from by rw [HR2.out,errOut,if_pos hq]);clear hq;refine wp_region_held_drew (S:=fun w'=>w'.cell? ⟨mb,2,none⟩=some (.int .i64 r2.q)/\w'.cell? ⟨mb,3,none⟩=some (.int .i64 r2.p)/\w'.heap[pb]?=some (.cells (pkCells q) 29 (0,0))) (by kernel_rfl) ⟨ce,ce2,X6.out.pk⟩ (fun hHeld=>?_);change wpAnyH _ _ _ _ _ 12 #[false,false,false,false,false,false,false,false,false,false,false,false] _ (World.drew _);refine tkz 0 ⟨some 99,.load 29 (.tmp 7),29,"crierref3.go:209",#[],none⟩ (.agg (pkCells q)) (by intro wq hSw;exact zcZ (.tmp 7) rfl pb rfl (pkCells q) (0,0) hSw.2.2 (zav _)) hHeld ?_;simp only [Act.put,zz1,zz2,zz3];refine tkz 1 ⟨some 100,.move (.tmp 6),230,"crierref3.go:209",#[⟨10,.gcOnly .lateStores⟩],none⟩ (.pointer (some ⟨mb,0,none⟩)) (by intro wq hSw;(try dsimp only at hSw);clear hHeld;go_simp) hHeld ?_;simp only [Act.put,zz1,zz2,zz3];refine tkz 2 ⟨some 101,.nilCheck (.tmp 100),0,"crierref3.go:209",#[⟨1,.data⟩,⟨10,.gcOnly .lateStores⟩],none⟩ (.pointer (some ⟨mb,0,none⟩)) (by intro wq hSw;(try dsimp only at hSw);clear hHeld;go_simp) hHeld ?_;simp only [Act.put,zz1,zz2,zz3];refine tkz 3 ⟨some 102,.fieldAddr 236 (.tmp 101) 3,0,"crierref3.go:209",#[⟨2,.data⟩,⟨10,.gcOnly .lateStores⟩],none⟩ (.pointer (some ⟨mb,3,none⟩)) (by intro wq hSw;(try dsimp only at hSw);clear hHeld;go_simp) hHeld ?_;simp only [Act.put,zz1,zz2,zz3];refine tkz 4 ⟨some 103,.load 3 (.tmp 102),3,"crierref3.go:209",#[⟨3,.data⟩,⟨10,.gcOnly .lateStores⟩],none⟩ (.int .i64 r2.p) (by intro wq hSw;(try dsimp only at hSw);clear hHeld;go_simp) hHeld ?_;simp only [Act.put,zz1,zz2,zz3];refine tkz 5 ⟨some 104,.move (.tmp 6),230,"crierref3.go:209",#[⟨10,.gcOnly .lateStores⟩],none⟩ (.pointer (some ⟨mb,0,none⟩)) (by intro wq hSw;(try dsimp only at hSw);clear hHeld;go_simp) hHeld ?_;simp only [Act.put,zz1,zz2,zz3];refine tkz 6 ⟨some 105,.nilCheck (.tmp 104),0,"crierref3.go:209",#[⟨5,.data⟩,⟨10,.gcOnly .lateStores⟩],none⟩ (.pointer (some ⟨mb,0,none⟩)) (by intro wq hSw;(try dsimp only at hSw);clear hHeld;go_simp) hHeld ?_;simp only [Act.put,zz1,zz2,zz3];refine tkz 7 ⟨some 106,.fieldAddr 236 (.tmp 105) 2,0,"crierref3.go:209",#[⟨6,.data⟩,⟨10,.gcOnly .lateStores⟩],none⟩ (.pointer (some ⟨mb,2,none⟩)) (by intro wq hSw;(try dsimp only at hSw);clear hHeld;go_simp) hHeld ?_;simp only [Act.put,zz1,zz2,zz3];refine tkz 8 ⟨some 107,.load 3 (.tmp 106),3,"crierref3.go:209",#[⟨7,.data⟩,⟨10,.gcOnly .lateStores⟩],none⟩ (.int .i64 r2.q) (by intro wq hSw;(try dsimp only at hSw);clear hHeld;go_simp) hHeld ?_;simp only [Act.put,zz1,zz2,zz3];refine tkz 9 ⟨some 108,.build 112 #[(0,.tmp 103),(1,.tmp 107)],112,"crierref3.go:209",#[⟨4,.data⟩,⟨8,.data⟩,⟨10,.gcOnly .lateStores⟩],none⟩ (.agg #[.int .i64 r2.p,.int .i64 r2.q]) (by intro wq hSw;(try dsimp only at hSw);clear hHeld;go_simp) hHeld ?_;simp only [Act.put,zz1,zz2,zz3];refine wpAnyH_ready (rs:=[10]) (by kernel_rfl) (by simp) ?_;refine AllReadyH.cons (o:=⟨none,.store 29 (.tmp 4) (.tmp 99),0,"crierref3.go:209",#[⟨0,.data⟩,⟨0,.phase⟩,⟨1,.textOnly .lateStores⟩,⟨2,.textOnly .lateStores⟩,⟨3,.textOnly .lateStores⟩,⟨4,.textOnly .lateStores⟩,⟨5,.textOnly .lateStores⟩,⟨6,.textOnly .lateStores⟩,⟨7,.textOnly .lateStores⟩,⟨8,.textOnly .lateStores⟩,⟨9,.textOnly .lateStores⟩],none⟩) (by rfl) (fun K hK=>?_) AllReadyH.nil;refine zaH (by kernel_rfl) 29 (.tmp 4) (.tmp 99) rfl w.heap.size (pkCells q) rfl rfl 29 (pkCells (blank 0)) x4.out zaa rfl (pk_one _) ?_;refine hK.out _ _ ⟨(za5 (by have:=LL.out;omega)).trans ce,(za5 (by have:=LL.out;omega)).trans ce2,(za7 (by have:=LL.out;omega)).trans X6.out.pk⟩ (fun hHeld=>?_);clear hK K;(try simp only [Act.put,zz1,zz2,zz3]);refine wpAnyH_ready (rs:=[11]) (by kernel_rfl) (by simp) ?_;refine AllReadyH.cons (o:=⟨none,.store 112 (.tmp 5) (.tmp 108),0,"crierref3.go:209",#[⟨9,.data⟩,⟨10,.chain⟩,⟨0,.phase⟩,⟨1,.phase⟩,⟨2,.phase⟩,⟨3,.phase⟩,⟨4,.phase⟩,⟨5,.phase⟩,⟨6,.phase⟩,⟨7,.phase⟩,⟨8,.phase⟩,⟨9,.phase⟩,⟨10,.phase⟩],none⟩) (by rfl) (fun K hK=>?_) AllReadyH.nil;refine zaH (by kernel_rfl) 112 (.tmp 5) (.tmp 108) rfl (w.heap.size+1) #[.int .i64 r2.p,.int .i64 r2.q] rfl rfl 112 #[.int .i64 0,.int .i64 0] ((za7 (by omega)).trans x5.out) f_info rfl (zaB _ _) ?_;refine hK.out _ _ ⟨(za5 (by have:=LL.out;omega)).trans ((za5 (by have:=LL.out;omega)).trans ce),(za5 (by have:=LL.out;omega)).trans ((za5 (by have:=LL.out;omega)).trans ce2),(za7 (by have:=LL.out;omega)).trans ((za7 (by have:=LL.out;omega)).trans X6.out.pk)⟩ (fun hHeld=>?_);clear hK K hHeld;(try simp only [Act.put,zz1,zz2,zz3]);refine wpAnyH_done (by kernel_rfl) ?_ _;go_wp2_with fail;have RR:=zaW (v:=v5.drew) (cs:=pkCells q) (ds:=#[.int .i64 r2.p,.int .i64 r2.q]) x4.out x5.out;refine bodyPost_ret (zb4 rfl _ _ w.heap.size (w.heap.size+1) 29 112 (pkCells q) #[.int .i64 r2.p,.int .i64 r2.q] (0,0) (0,0) _ _ rfl RR.1 Tryz.underlying29 rfl zaa rfl RR.2 Tryz.underlying112 rfl f_info) rfl ?_;rw [HQ.out];exact ⟨⟨q,rfl⟩,zdB BB.out (X6.out.below (Below.refl _ _).drew) LL.out.1 LL.out.2.1 _ _⟩
end
theorem zdG (z:Nat->Int) (n:Nat):∀ (b:Nat) (r:Rs) (fs:List Int),r.q=0->r.at0<=n->n<=r.at0+b->(ackF z n b r fs).1.at0=n/\(ackF z n b r fs).1.q=0/\((ackF z n b r fs).1.p=r.p)/\(ackF z n b r fs).2=fs++(List.range (n-r.at0)).map (fun i=>z (r.at0+i))
 | 0,r,fs,hq,h1,h2=>by
  have:n-r.at0=0:=by omega
  simp [ackF,this,hq];omega
 | b+1,r,fs,hq,h1,h2=>by
  by_cases h:r.at0<n;·
   have hm:more n r=true:=by simp [more,hq,h]
   rw [ackF,if_pos hm,zci hm];have ih:=zdG z n b (r.on 1) (fs++[z r.at0]) rfl (by show r.at0+1<=n;omega) (by show n<=r.at0+1+b;omega);refine ⟨ih.1,ih.2.1,ih.2.2.1,ih.2.2.2.trans ?_⟩;have e:n-r.at0=(n-(r.on 1).at0)+1:=by show n-r.at0=(n-(r.at0+1))+1;omega
   rw [e,List.range_succ_eq_map,List.map_cons,List.map_map,List.append_assoc];congr 1;show z r.at0::_=_;congr 1;apply List.map_congr_left;intro i _;show z (r.at0+1+i)=z (r.at0+(i+1));congr 1;omega
  ·
   have hm:more n r=false:=by simp [more,h]
   have e:n-r.at0=0:=by omega
   rw [zdt _ _ _ hm,e];simp [hq];omega
def sh (h:Nat) (z:Nat->Int):Nat->Int:=fun i=>z (i+h)
structure Sh (h:Nat) (r r':Rs):Prop where
 at0:r'.at0=r.at0+h
 q:r'.q=r.q
 p:r.q≠0->r'.p=r.p+h
theorem sh_two (h:Nat) (z:Nat->Int) (k:Nat):two z (k+h)=two (sh h z) k:=by unfold two sh;rw [show k+h+1=k+1+h by omega]
theorem sh_txt (h:Nat) (z:Nat->Int) (k L:Nat):txtAt z (k+h) L=txtAt (sh h z) k L:=by unfold txtAt sh;congr 1;funext i;congr 1;omega
section
variable {h n:Nat} {z:Nat->Int} {r r':Rs}
theorem Sh.on (S:Sh h r r') (k:Nat):Sh h (r.on k) (r'.on k):=⟨by show r'.at0+k=r.at0+k+h;have:=S.at0;omega,rfl,fun q=>absurd rfl q⟩
theorem Sh.gave (S:Sh h r r') (p p' q:Int) (hp:p'=p+h):Sh h (r.gaveUp p q) (r'.gaveUp p' q):=⟨S.at0,rfl,fun _=>hp⟩
theorem zcJ (S:Sh h r r'):(rB z (n+h) r').1=(rB (sh h z) n r).1/\Sh h (rB (sh h z) n r).2 (rB z (n+h) r').2:=by
 unfold Go.Proofs.YtceigllifjgalaaGreatDoor.rByte;rw [S.q];by_cases hq:r.q≠0
 · rw [if_pos hq,if_pos hq]
   exact ⟨rfl,S⟩
 rw [if_neg hq,if_neg hq];by_cases h1:n<r.at0+1
 · rw [if_pos h1,if_pos (by have:=S.at0;omega)]
   exact ⟨rfl,S.gave _ _ _ (by omega)⟩
 · rw [if_neg h1,if_neg (by have:=S.at0;omega),S.at0]
   exact ⟨rfl,S.on 1⟩
theorem sh_num (S:Sh h r r'):(rN z (n+h) r').1=(rN (sh h z) n r).1/\Sh h (rN (sh h z) n r).2 (rN z (n+h) r').2:=by
 unfold Go.Proofs.YtceigllifjgalaaGreatDoor.rNum;rw [S.q];by_cases hq:r.q≠0
 · rw [if_pos hq,if_pos hq]
   exact ⟨rfl,S⟩
 rw [if_neg hq,if_neg hq];by_cases h1:n<r.at0+2
 · rw [if_pos h1,if_pos (by have:=S.at0;omega)]
   exact ⟨rfl,S.gave _ _ _ (by omega)⟩
 · rw [if_neg h1,if_neg (by have:=S.at0;omega),S.at0];refine ⟨?_,S.on 2⟩;show z (r.at0+h)*256+z (r.at0+h+1)=z (r.at0+h)*256+z (r.at0+1+h);rw [show r.at0+h+1=r.at0+1+h by omega]
theorem zby (S:Sh h r r'):(rText z (n+h) r').1=(rText (sh h z) n r).1/\Sh h (rText (sh h z) n r).2 (rText z (n+h) r').2:=by
 unfold rText;rw [S.q,S.at0,sh_two,sh_txt];by_cases hq:r.q≠0
 · rw [if_pos hq,if_pos hq]
   exact ⟨rfl,S⟩
 rw [if_neg hq,if_neg hq];by_cases h1:n<r.at0+2
 · rw [if_pos h1,if_pos (by omega)]
   exact ⟨rfl,S.gave _ _ _ (by omega)⟩
 rw [if_neg h1,if_neg (by omega)];by_cases h2:n<r.at0+2+two (sh h z) r.at0
 · rw [if_pos h2,if_pos (by omega)]
   exact ⟨rfl,S.gave _ _ _ (by omega)⟩
 rw [if_neg h2,if_neg (by omega)];split;· exact ⟨rfl,S.gave _ _ _ (by omega)⟩
 · exact ⟨rfl,S.on _⟩
theorem zeQ (S:Sh h r r'):(rData z (n+h) r').1=(rData (sh h z) n r).1/\Sh h (rData (sh h z) n r).2 (rData z (n+h) r').2:=by
 unfold rData;rw [S.q,S.at0,sh_two];by_cases hq:r.q≠0
 · rw [if_pos hq,if_pos hq]
   exact ⟨rfl,S⟩
 rw [if_neg hq,if_neg hq];by_cases h1:n<r.at0+2
 · rw [if_pos h1,if_pos (by omega)]
   exact ⟨rfl,S.gave _ _ _ (by omega)⟩
 rw [if_neg h1,if_neg (by omega)];by_cases h2:n<r.at0+2+two (sh h z) r.at0
 · rw [if_pos h2,if_pos (by omega)]
   exact ⟨rfl,S.gave _ _ _ (by omega)⟩
 rw [if_neg h2,if_neg (by omega)];refine ⟨?_,S.on _⟩;show (two (sh h z) r.at0,fun i=>z (r.at0+h+2+i))=(two (sh h z) r.at0,fun i=>z (r.at0+2+i+h));congr 1;funext i;congr 1;omega
theorem zeT (S:Sh h r r'):(rRest z (n+h) r').1=(rRest (sh h z) n r).1/\Sh h (rRest (sh h z) n r).2 (rRest z (n+h) r').2:=by
 unfold rRest;rw [S.q,S.at0];by_cases hq:r.q≠0
 · rw [if_pos hq,if_pos hq]
   exact ⟨rfl,S⟩
 rw [if_neg hq,if_neg hq];refine ⟨?_,rfl,rfl,fun q=>absurd rfl q⟩;show (n+h-(r.at0+h),fun i=>z (r.at0+h+i))=(n-r.at0,fun i=>z (r.at0+i+h));rw [show n+h-(r.at0+h)=n-r.at0 by omega];congr 1;funext i;congr 1;omega
theorem sh_end (S:Sh h r r'):Sh h (rE n r) (rE (n+h) r'):=by
 unfold Go.Proofs.YtceigllifjgalaaGreatDoor.rEnd;rw [S.q,S.at0];by_cases hq:r.q≠0
 · rw [if_pos hq,if_pos hq]
   exact S
 rw [if_neg hq,if_neg hq];by_cases h1:r.at0<n
 · rw [if_pos h1,if_pos (by omega)]
   exact S.gave _ _ _ (by omega)
 · rw [if_neg h1,if_neg (by omega)]
   exact S
theorem zdx (S:Sh h r r'):more (n+h) r'=more n r:=by unfold more;rw [S.q,S.at0];congr 1;exact decide_eq_decide.2 (by omega)
end
open Go.Proofs.YtceigllifjgalaaGreatDoor renaming rByte → rB
def Enough (n b:Nat) (r:Rs):Prop:=more n r=true->n<=r.at0+b
theorem sh_uns (h n:Nat) (z:Nat->Int):∀ (b b':Nat) (r r':Rs) (fs:List ByteArray),Sh h r r'->Enough n b r->Enough n b' r->Sh h (unsF (sh h z) n b r fs).1 (unsF z (n+h) b' r' fs).1/\(unsF z (n+h) b' r' fs).2=(unsF (sh h z) n b r fs).2
 | b,b',r,r',fs,S,e,e'=>by
  by_cases hm:more n r=true;·
   have hm':more (n+h) r'=true:=(zdx S).trans hm;have hlt:=(zau hm).2;have h1:=e hm;have h2:=e' hm;cases b with
   | zero=>omega;| succ b => cases b' with | zero=>omega | succ b' => rw [unsF,if_pos hm,unsF,if_pos hm',(zby S).1];exact sh_uns h n z b b' _ _ _ (zby S).2 (fun q=>by have:=zbg hm q;omega) (fun q=>by have:=zbg hm q;omega)
  ·
   have hm0:more n r=false:=by simpa using hm
   have hm':more (n+h) r'=false:=(zdx S).trans hm0;rw [zbV _ _ _ hm0,zbV _ _ _ hm'];exact ⟨S,rfl⟩
 termination_by b=>b
theorem sh_sub (h n:Nat) (z:Nat->Int):∀ (b b':Nat) (r r':Rs) (fs:List (ByteArray×Int)),Sh h r r'->Enough n b r->Enough n b' r->Sh h (subF (sh h z) n b r fs).1 (subF z (n+h) b' r' fs).1/\(subF z (n+h) b' r' fs).2=(subF (sh h z) n b r fs).2
 | b,b',r,r',fs,S,e,e'=>by
  by_cases hm:more n r=true;·
   have hm':more (n+h) r'=true:=(zdx S).trans hm;have hlt:=(zau hm).2;have h1:=e hm;have h2:=e' hm;cases b with
   | zero=>omega;| succ b => cases b' with | zero=>omega | succ b' => have T:=zby (z:=z) (n:=n) S;have B:=zcJ (z:=z) (n:=n) T.2;rw [subF,if_pos hm,subF,if_pos hm',T.1,B.1];exact sh_sub h n z b b' _ _ _ B.2 (fun q=>by have:=sub_on hm q;omega) (fun q=>by have:=sub_on hm q;omega)
  ·
   have hm0:more n r=false:=by simpa using hm
   have hm':more (n+h) r'=false:=(zdx S).trans hm0;rw [zc1 _ _ _ hm0,zc1 _ _ _ hm'];exact ⟨S,rfl⟩
 termination_by b=>b
end Go.Proofs.YtceigllifjgalaaGreatDoor.Dr
