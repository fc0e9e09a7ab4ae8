import Derived.Test.YtceigllifjgalaaGreatDoorPRh
import Derived.Test.YtceigllifjgalaaGreatDoorPRl
namespace Go.Proofs.YtceigllifjgalaaGreatDoor.Pkt
open Go Go.RowKit Go.Sort
set_option linter.unusedSimpArgs false
set_option linter.unusedVariables false
set_option maxRecDepth 100000
set_option maxHeartbeats 4000000
def rb (p:Pk) (c:Cn):Nat := if p.kind=1 then szc p else if p.kind=2 then 2 else if p.kind=3 then 2+p.mT.size+p.mP.n else if p.kind=8 then sumN (fun i=>3+(c.af i).size) p.asks.n else if p.kind=9 then p.codes.n else if p.kind=10 then sumN (fun i=>2+(c.fs i).size) p.filters.n else 0
def rsz (p:Pk) (c:Cn):Nat:=rb p c+nid p
theorem zdK (f:Nat->Nat) (n k:Nat) (h:k<n):sumN f k+f k<=sumN f n:=by
 induction n with
 | zero=>omega;| succ n ih =>
  by_cases e:k=n;· subst e;exact Nat.le_refl _
  · have:=ih (by omega)
    show sumN f k+f k<=sumN f n+f n;omega
theorem rbytes_any (p:Pk) (c:Cn) (w:World) (hin:In w p c) (hs:Small p c):Calls Tryz.prog 152 #[p.v] w fun e w'=>e = .returned (.int .i64 (rsz p c))/\Below w.heap.size w w':=by
 obtain ⟨x,hx⟩:∃ x:Int,x=(rsz p c:Nat):=⟨_,rfl⟩;rw [<-hx];have HX:=Hi hx;clear hx;obtain ⟨P,hP⟩:∃ P,P=pkCells p:=⟨_,rfl⟩;obtain ⟨W,hW⟩:∃ W,W=w.alloc (.cells P 29):=⟨_,rfl⟩;have b0:=Hi (zat hW);have g0:Hid (W.heap[w.heap.size]?=some (.cells P 29)):=by show _=_;rw [hW];exact heap_alloc_new w _
 have SP:Hid (P.size=25):=by show _=_;rw [hP];rfl
 have FA:Hid (∀ k v,(pkCells p)[k]?=some v->W.cell? ⟨w.heap.size,k,none⟩=some v):=fun k v h=>by rw [hW];exact za2 w P 29 k v (by rw [hP];exact h)
 have NU:Hid (∀ w',Calls Tryz.prog 151 #[.agg P] w' fun e w''=>e = .returned (.bool (hasID p))/\Below w'.heap.size w' w''):=fun w'=>by rw [hP];exact zbt p w'
 rw [show p.v = .agg P by rw [hP];rfl];clear hP;have HA:=Hi (hin.asks.below b0.out);have HS:=Hi (hin.filters.below b0.out);have SM:=Hi hs;clear hin hs;go_enter Tryz.func152,Tryz.ntmps152;go_upto_region 2 with fail;rw [<-hW];clear hW;have c0:=FA.out 0 (.int .i64 p.kind) rfl;obtain ⟨bi,hi⟩:∃ b,hasID p=b:=⟨_,rfl⟩;have HI:=Hi hi;have NU2:Hid (Calls Tryz.prog 151 #[.agg P] W fun e w''=>e = .returned (.bool bi)/\Below W.heap.size W w''):=by have:=NU.out W;rw [HI.out] at this;exact this
 clear hi;by_cases k1:p.kind=1;·
  have e1:(p.kind==1)=true:=by rw [k1];rfl
  have c4:=FA.out 4 (.string p.client) rfl;have c5:=FA.out 5 (.bool p.hasWill) rfl;have c6:=FA.out 6 (.string p.wT) rfl;have c7:=FA.out 7 (.slice p.wP.a p.wP.n p.wP.c) rfl;have c10:=FA.out 10 (.bool p.hasUser) rfl;have c11:=FA.out 11 (.string p.user) rfl;have c12:=FA.out 12 (.bool p.hasPass) rfl;have c13:=FA.out 13 (.slice p.pass.a p.pass.n p.pass.c) rfl;cases hw:p.hasWill;case true =>
   rw [hw] at c5;cases hu:p.hasUser;case true =>
    rw [hu] at c10;cases hp:p.hasPass;case true =>
     rw [hp] at c12;have hS:=SM.out;have s1:=hS.cl;have s2:=hS.us;have s3:=hS.wt;have s4:=hS.mt;have s5:=hS.wp;have s6:=hS.ps;have s7:=hS.mp;have s8:=hS.cn;have v0:IntKind.i64.wrap ((12:Int)+(p.client.size:Int))=(12:Int)+(p.client.size:Int):=by rw [IntKind.wrap_i64];omega
     have v1:IntKind.i64.wrap ((12:Int)+(p.client.size:Int)+(2:Int))=(12:Int)+(p.client.size:Int)+(2:Int):=by rw [IntKind.wrap_i64];omega
     have v2:IntKind.i64.wrap ((12:Int)+(p.client.size:Int)+(2:Int)+(p.wT.size:Int))=(12:Int)+(p.client.size:Int)+(2:Int)+(p.wT.size:Int):=by rw [IntKind.wrap_i64];omega
     have v3:IntKind.i64.wrap ((12:Int)+(p.client.size:Int)+(2:Int)+(p.wT.size:Int)+(2:Int))=(12:Int)+(p.client.size:Int)+(2:Int)+(p.wT.size:Int)+(2:Int):=by rw [IntKind.wrap_i64];omega
     have v4:IntKind.i64.wrap ((12:Int)+(p.client.size:Int)+(2:Int)+(p.wT.size:Int)+(2:Int)+(p.wP.n:Int))=(12:Int)+(p.client.size:Int)+(2:Int)+(p.wT.size:Int)+(2:Int)+(p.wP.n:Int):=by rw [IntKind.wrap_i64];omega
     have v5:IntKind.i64.wrap ((12:Int)+(p.client.size:Int)+(2:Int)+(p.wT.size:Int)+(2:Int)+(p.wP.n:Int)+(2:Int))=(12:Int)+(p.client.size:Int)+(2:Int)+(p.wT.size:Int)+(2:Int)+(p.wP.n:Int)+(2:Int):=by rw [IntKind.wrap_i64];omega
     have v6:IntKind.i64.wrap ((12:Int)+(p.client.size:Int)+(2:Int)+(p.wT.size:Int)+(2:Int)+(p.wP.n:Int)+(2:Int)+(p.user.size:Int))=(12:Int)+(p.client.size:Int)+(2:Int)+(p.wT.size:Int)+(2:Int)+(p.wP.n:Int)+(2:Int)+(p.user.size:Int):=by rw [IntKind.wrap_i64];omega
     have v7:IntKind.i64.wrap ((12:Int)+(p.client.size:Int)+(2:Int)+(p.wT.size:Int)+(2:Int)+(p.wP.n:Int)+(2:Int)+(p.user.size:Int)+(2:Int))=(12:Int)+(p.client.size:Int)+(2:Int)+(p.wT.size:Int)+(2:Int)+(p.wP.n:Int)+(2:Int)+(p.user.size:Int)+(2:Int):=by rw [IntKind.wrap_i64];omega
     have v8:IntKind.i64.wrap ((12:Int)+(p.client.size:Int)+(2:Int)+(p.wT.size:Int)+(2:Int)+(p.wP.n:Int)+(2:Int)+(p.user.size:Int)+(2:Int)+(p.pass.n:Int))=(12:Int)+(p.client.size:Int)+(2:Int)+(p.wT.size:Int)+(2:Int)+(p.wP.n:Int)+(2:Int)+(p.user.size:Int)+(2:Int)+(p.pass.n:Int):=by rw [IntKind.wrap_i64];omega
     clear hS s1 s2 s3 s4 s5 s6 s7 s8;have HV:Hid ((rb p c:Int)=(12:Int)+(p.client.size:Int)+(2:Int)+(p.wT.size:Int)+(2:Int)+(p.wP.n:Int)+(2:Int)+(p.user.size:Int)+(2:Int)+(p.pass.n:Int)):=by show _=_;rw [show rb p c=12+p.client.size+(4+p.wT.size+p.wP.n)+(2+p.user.size)+(2+p.pass.n) by simp [rb,szc,k1,hw,hu,hp]];push_cast;omega
     have HL:Hid (((12:Int)+(p.client.size:Int)+(2:Int)+(p.wT.size:Int)+(2:Int)+(p.wP.n:Int)+(2:Int)+(p.user.size:Int)+(2:Int)+(p.pass.n:Int):Int)<=300000000/\0<=((12:Int)+(p.client.size:Int)+(2:Int)+(p.wT.size:Int)+(2:Int)+(p.wP.n:Int)+(2:Int)+(p.user.size:Int)+(2:Int)+(p.pass.n:Int):Int)):=by have hS:=SM.out;have s1:=hS.cl;have s2:=hS.us;have s3:=hS.wt;have s4:=hS.mt;have s5:=hS.wp;have s6:=hS.ps;have s7:=hS.mp;have s8:=hS.cn;have s9:=hS.sa;have s10:=hS.sf;have hv:=HV.out;show _/\_;(try have hn:=HN.out);constructor <;> omega
     have hwl:IntKind.i64.wrap ((12:Int)+(p.client.size:Int)+(2:Int)+(p.wT.size:Int)+(2:Int)+(p.wP.n:Int)+(2:Int)+(p.user.size:Int)+(2:Int)+(p.pass.n:Int)+2)=(12:Int)+(p.client.size:Int)+(2:Int)+(p.wT.size:Int)+(2:Int)+(p.wP.n:Int)+(2:Int)+(p.user.size:Int)+(2:Int)+(p.pass.n:Int)+2:=by rw [IntKind.wrap_i64];have:=HL.out;omega
     go_wp2_with (first | (refine za0 rfl _ rfl w.heap.size rfl P (0,0) g0.out SP.out ?_) | fail);go_must (go_at_call 151);refine NU2.out.mono ?_;rintro e w1 ⟨rfl,hb⟩;have B1:=Hi (b0.out.trans (hb.mono b0.out.size));clear hb;cases bi
     · have HR:Hid (x=(12:Int)+(p.client.size:Int)+(2:Int)+(p.wT.size:Int)+(2:Int)+(p.wP.n:Int)+(2:Int)+(p.user.size:Int)+(2:Int)+(p.pass.n:Int)):=by have hv:=HV.out;show _=_;rw [HX.out,rsz,nid,HI.out,if_neg (by decide)];omega
       go_wp2;go_ret;exact ⟨by rw [HR.out];rfl,B1.out⟩
     · have HR:Hid (x=(12:Int)+(p.client.size:Int)+(2:Int)+(p.wT.size:Int)+(2:Int)+(p.wP.n:Int)+(2:Int)+(p.user.size:Int)+(2:Int)+(p.pass.n:Int)+2):=by have hv:=HV.out;show _=_;rw [HX.out,rsz,nid,HI.out,if_pos rfl];omega
       go_wp2;go_ret;exact ⟨by rw [HR.out];rfl,B1.out⟩
    case false =>
     rw [hp] at c12;have hS:=SM.out;have s1:=hS.cl;have s2:=hS.us;have s3:=hS.wt;have s4:=hS.mt;have s5:=hS.wp;have s6:=hS.ps;have s7:=hS.mp;have s8:=hS.cn;have v0:IntKind.i64.wrap ((12:Int)+(p.client.size:Int))=(12:Int)+(p.client.size:Int):=by rw [IntKind.wrap_i64];omega
     have v1:IntKind.i64.wrap ((12:Int)+(p.client.size:Int)+(2:Int))=(12:Int)+(p.client.size:Int)+(2:Int):=by rw [IntKind.wrap_i64];omega
     have v2:IntKind.i64.wrap ((12:Int)+(p.client.size:Int)+(2:Int)+(p.wT.size:Int))=(12:Int)+(p.client.size:Int)+(2:Int)+(p.wT.size:Int):=by rw [IntKind.wrap_i64];omega
     have v3:IntKind.i64.wrap ((12:Int)+(p.client.size:Int)+(2:Int)+(p.wT.size:Int)+(2:Int))=(12:Int)+(p.client.size:Int)+(2:Int)+(p.wT.size:Int)+(2:Int):=by rw [IntKind.wrap_i64];omega
     have v4:IntKind.i64.wrap ((12:Int)+(p.client.size:Int)+(2:Int)+(p.wT.size:Int)+(2:Int)+(p.wP.n:Int))=(12:Int)+(p.client.size:Int)+(2:Int)+(p.wT.size:Int)+(2:Int)+(p.wP.n:Int):=by rw [IntKind.wrap_i64];omega
     have v5:IntKind.i64.wrap ((12:Int)+(p.client.size:Int)+(2:Int)+(p.wT.size:Int)+(2:Int)+(p.wP.n:Int)+(2:Int))=(12:Int)+(p.client.size:Int)+(2:Int)+(p.wT.size:Int)+(2:Int)+(p.wP.n:Int)+(2:Int):=by rw [IntKind.wrap_i64];omega
     have v6:IntKind.i64.wrap ((12:Int)+(p.client.size:Int)+(2:Int)+(p.wT.size:Int)+(2:Int)+(p.wP.n:Int)+(2:Int)+(p.user.size:Int))=(12:Int)+(p.client.size:Int)+(2:Int)+(p.wT.size:Int)+(2:Int)+(p.wP.n:Int)+(2:Int)+(p.user.size:Int):=by rw [IntKind.wrap_i64];omega
     clear hS s1 s2 s3 s4 s5 s6 s7 s8;have HV:Hid ((rb p c:Int)=(12:Int)+(p.client.size:Int)+(2:Int)+(p.wT.size:Int)+(2:Int)+(p.wP.n:Int)+(2:Int)+(p.user.size:Int)):=by show _=_;rw [show rb p c=12+p.client.size+(4+p.wT.size+p.wP.n)+(2+p.user.size) by simp [rb,szc,k1,hw,hu,hp]];push_cast;omega
     have HL:Hid (((12:Int)+(p.client.size:Int)+(2:Int)+(p.wT.size:Int)+(2:Int)+(p.wP.n:Int)+(2:Int)+(p.user.size:Int):Int)<=300000000/\0<=((12:Int)+(p.client.size:Int)+(2:Int)+(p.wT.size:Int)+(2:Int)+(p.wP.n:Int)+(2:Int)+(p.user.size:Int):Int)):=by have hS:=SM.out;have s1:=hS.cl;have s2:=hS.us;have s3:=hS.wt;have s4:=hS.mt;have s5:=hS.wp;have s6:=hS.ps;have s7:=hS.mp;have s8:=hS.cn;have s9:=hS.sa;have s10:=hS.sf;have hv:=HV.out;show _/\_;(try have hn:=HN.out);constructor <;> omega
     have hwl:IntKind.i64.wrap ((12:Int)+(p.client.size:Int)+(2:Int)+(p.wT.size:Int)+(2:Int)+(p.wP.n:Int)+(2:Int)+(p.user.size:Int)+2)=(12:Int)+(p.client.size:Int)+(2:Int)+(p.wT.size:Int)+(2:Int)+(p.wP.n:Int)+(2:Int)+(p.user.size:Int)+2:=by rw [IntKind.wrap_i64];have:=HL.out;omega
     go_wp2_with (first | (refine za0 rfl _ rfl w.heap.size rfl P (0,0) g0.out SP.out ?_) | fail);go_must (go_at_call 151);refine NU2.out.mono ?_;rintro e w1 ⟨rfl,hb⟩;have B1:=Hi (b0.out.trans (hb.mono b0.out.size));clear hb;cases bi
     · have HR:Hid (x=(12:Int)+(p.client.size:Int)+(2:Int)+(p.wT.size:Int)+(2:Int)+(p.wP.n:Int)+(2:Int)+(p.user.size:Int)):=by have hv:=HV.out;show _=_;rw [HX.out,rsz,nid,HI.out,if_neg (by decide)];omega
       go_wp2;go_ret;exact ⟨by rw [HR.out];rfl,B1.out⟩
     · have HR:Hid (x=(12:Int)+(p.client.size:Int)+(2:Int)+(p.wT.size:Int)+(2:Int)+(p.wP.n:Int)+(2:Int)+(p.user.size:Int)+2):=by have hv:=HV.out;show _=_;rw [HX.out,rsz,nid,HI.out,if_pos rfl];omega
       go_wp2;go_ret;exact ⟨by rw [HR.out];rfl,B1.out⟩
   case false =>
    rw [hu] at c10;cases hp:p.hasPass;case true =>
     rw [hp] at c12;have hS:=SM.out;have s1:=hS.cl;have s2:=hS.us;have s3:=hS.wt;have s4:=hS.mt;have s5:=hS.wp;have s6:=hS.ps;have s7:=hS.mp;have s8:=hS.cn;have v0:IntKind.i64.wrap ((12:Int)+(p.client.size:Int))=(12:Int)+(p.client.size:Int):=by rw [IntKind.wrap_i64];omega
     have v1:IntKind.i64.wrap ((12:Int)+(p.client.size:Int)+(2:Int))=(12:Int)+(p.client.size:Int)+(2:Int):=by rw [IntKind.wrap_i64];omega
     have v2:IntKind.i64.wrap ((12:Int)+(p.client.size:Int)+(2:Int)+(p.wT.size:Int))=(12:Int)+(p.client.size:Int)+(2:Int)+(p.wT.size:Int):=by rw [IntKind.wrap_i64];omega
     have v3:IntKind.i64.wrap ((12:Int)+(p.client.size:Int)+(2:Int)+(p.wT.size:Int)+(2:Int))=(12:Int)+(p.client.size:Int)+(2:Int)+(p.wT.size:Int)+(2:Int):=by rw [IntKind.wrap_i64];omega
     have v4:IntKind.i64.wrap ((12:Int)+(p.client.size:Int)+(2:Int)+(p.wT.size:Int)+(2:Int)+(p.wP.n:Int))=(12:Int)+(p.client.size:Int)+(2:Int)+(p.wT.size:Int)+(2:Int)+(p.wP.n:Int):=by rw [IntKind.wrap_i64];omega
     have v5:IntKind.i64.wrap ((12:Int)+(p.client.size:Int)+(2:Int)+(p.wT.size:Int)+(2:Int)+(p.wP.n:Int)+(2:Int))=(12:Int)+(p.client.size:Int)+(2:Int)+(p.wT.size:Int)+(2:Int)+(p.wP.n:Int)+(2:Int):=by rw [IntKind.wrap_i64];omega
     have v6:IntKind.i64.wrap ((12:Int)+(p.client.size:Int)+(2:Int)+(p.wT.size:Int)+(2:Int)+(p.wP.n:Int)+(2:Int)+(p.pass.n:Int))=(12:Int)+(p.client.size:Int)+(2:Int)+(p.wT.size:Int)+(2:Int)+(p.wP.n:Int)+(2:Int)+(p.pass.n:Int):=by rw [IntKind.wrap_i64];omega
     clear hS s1 s2 s3 s4 s5 s6 s7 s8;have HV:Hid ((rb p c:Int)=(12:Int)+(p.client.size:Int)+(2:Int)+(p.wT.size:Int)+(2:Int)+(p.wP.n:Int)+(2:Int)+(p.pass.n:Int)):=by show _=_;rw [show rb p c=12+p.client.size+(4+p.wT.size+p.wP.n)+(2+p.pass.n) by simp [rb,szc,k1,hw,hu,hp]];push_cast;omega
     have HL:Hid (((12:Int)+(p.client.size:Int)+(2:Int)+(p.wT.size:Int)+(2:Int)+(p.wP.n:Int)+(2:Int)+(p.pass.n:Int):Int)<=300000000/\0<=((12:Int)+(p.client.size:Int)+(2:Int)+(p.wT.size:Int)+(2:Int)+(p.wP.n:Int)+(2:Int)+(p.pass.n:Int):Int)):=by have hS:=SM.out;have s1:=hS.cl;have s2:=hS.us;have s3:=hS.wt;have s4:=hS.mt;have s5:=hS.wp;have s6:=hS.ps;have s7:=hS.mp;have s8:=hS.cn;have s9:=hS.sa;have s10:=hS.sf;have hv:=HV.out;show _/\_;(try have hn:=HN.out);constructor <;> omega
     have hwl:IntKind.i64.wrap ((12:Int)+(p.client.size:Int)+(2:Int)+(p.wT.size:Int)+(2:Int)+(p.wP.n:Int)+(2:Int)+(p.pass.n:Int)+2)=(12:Int)+(p.client.size:Int)+(2:Int)+(p.wT.size:Int)+(2:Int)+(p.wP.n:Int)+(2:Int)+(p.pass.n:Int)+2:=by rw [IntKind.wrap_i64];have:=HL.out;omega
     go_wp2_with (first | (refine za0 rfl _ rfl w.heap.size rfl P (0,0) g0.out SP.out ?_) | fail);go_must (go_at_call 151);refine NU2.out.mono ?_;rintro e w1 ⟨rfl,hb⟩;have B1:=Hi (b0.out.trans (hb.mono b0.out.size));clear hb;cases bi
     · have HR:Hid (x=(12:Int)+(p.client.size:Int)+(2:Int)+(p.wT.size:Int)+(2:Int)+(p.wP.n:Int)+(2:Int)+(p.pass.n:Int)):=by have hv:=HV.out;show _=_;rw [HX.out,rsz,nid,HI.out,if_neg (by decide)];omega
       go_wp2;go_ret;exact ⟨by rw [HR.out];rfl,B1.out⟩
     · have HR:Hid (x=(12:Int)+(p.client.size:Int)+(2:Int)+(p.wT.size:Int)+(2:Int)+(p.wP.n:Int)+(2:Int)+(p.pass.n:Int)+2):=by have hv:=HV.out;show _=_;rw [HX.out,rsz,nid,HI.out,if_pos rfl];omega
       go_wp2;go_ret;exact ⟨by rw [HR.out];rfl,B1.out⟩
    case false =>
     rw [hp] at c12;have hS:=SM.out;have s1:=hS.cl;have s2:=hS.us;have s3:=hS.wt;have s4:=hS.mt;have s5:=hS.wp;have s6:=hS.ps;have s7:=hS.mp;have s8:=hS.cn;have v0:IntKind.i64.wrap ((12:Int)+(p.client.size:Int))=(12:Int)+(p.client.size:Int):=by rw [IntKind.wrap_i64];omega
     have v1:IntKind.i64.wrap ((12:Int)+(p.client.size:Int)+(2:Int))=(12:Int)+(p.client.size:Int)+(2:Int):=by rw [IntKind.wrap_i64];omega
     have v2:IntKind.i64.wrap ((12:Int)+(p.client.size:Int)+(2:Int)+(p.wT.size:Int))=(12:Int)+(p.client.size:Int)+(2:Int)+(p.wT.size:Int):=by rw [IntKind.wrap_i64];omega
     have v3:IntKind.i64.wrap ((12:Int)+(p.client.size:Int)+(2:Int)+(p.wT.size:Int)+(2:Int))=(12:Int)+(p.client.size:Int)+(2:Int)+(p.wT.size:Int)+(2:Int):=by rw [IntKind.wrap_i64];omega
     have v4:IntKind.i64.wrap ((12:Int)+(p.client.size:Int)+(2:Int)+(p.wT.size:Int)+(2:Int)+(p.wP.n:Int))=(12:Int)+(p.client.size:Int)+(2:Int)+(p.wT.size:Int)+(2:Int)+(p.wP.n:Int):=by rw [IntKind.wrap_i64];omega
     clear hS s1 s2 s3 s4 s5 s6 s7 s8;have HV:Hid ((rb p c:Int)=(12:Int)+(p.client.size:Int)+(2:Int)+(p.wT.size:Int)+(2:Int)+(p.wP.n:Int)):=by show _=_;rw [show rb p c=12+p.client.size+(4+p.wT.size+p.wP.n) by simp [rb,szc,k1,hw,hu,hp]];push_cast;omega
     have HL:Hid (((12:Int)+(p.client.size:Int)+(2:Int)+(p.wT.size:Int)+(2:Int)+(p.wP.n:Int):Int)<=300000000/\0<=((12:Int)+(p.client.size:Int)+(2:Int)+(p.wT.size:Int)+(2:Int)+(p.wP.n:Int):Int)):=by have hS:=SM.out;have s1:=hS.cl;have s2:=hS.us;have s3:=hS.wt;have s4:=hS.mt;have s5:=hS.wp;have s6:=hS.ps;have s7:=hS.mp;have s8:=hS.cn;have s9:=hS.sa;have s10:=hS.sf;have hv:=HV.out;show _/\_;(try have hn:=HN.out);constructor <;> omega
     have hwl:IntKind.i64.wrap ((12:Int)+(p.client.size:Int)+(2:Int)+(p.wT.size:Int)+(2:Int)+(p.wP.n:Int)+2)=(12:Int)+(p.client.size:Int)+(2:Int)+(p.wT.size:Int)+(2:Int)+(p.wP.n:Int)+2:=by rw [IntKind.wrap_i64];have:=HL.out;omega
     go_wp2_with (first | (refine za0 rfl _ rfl w.heap.size rfl P (0,0) g0.out SP.out ?_) | fail);go_must (go_at_call 151);refine NU2.out.mono ?_;rintro e w1 ⟨rfl,hb⟩;have B1:=Hi (b0.out.trans (hb.mono b0.out.size));clear hb;cases bi
     · have HR:Hid (x=(12:Int)+(p.client.size:Int)+(2:Int)+(p.wT.size:Int)+(2:Int)+(p.wP.n:Int)):=by have hv:=HV.out;show _=_;rw [HX.out,rsz,nid,HI.out,if_neg (by decide)];omega
       go_wp2;go_ret;exact ⟨by rw [HR.out];rfl,B1.out⟩
     · have HR:Hid (x=(12:Int)+(p.client.size:Int)+(2:Int)+(p.wT.size:Int)+(2:Int)+(p.wP.n:Int)+2):=by have hv:=HV.out;show _=_;rw [HX.out,rsz,nid,HI.out,if_pos rfl];omega
       go_wp2;go_ret;exact ⟨by rw [HR.out];rfl,B1.out⟩
  case false =>
   rw [hw] at c5;cases hu:p.hasUser;case true =>
    rw [hu] at c10;cases hp:p.hasPass;case true =>
     rw [hp] at c12;have hS:=SM.out;have s1:=hS.cl;have s2:=hS.us;have s3:=hS.wt;have s4:=hS.mt;have s5:=hS.wp;have s6:=hS.ps;have s7:=hS.mp;have s8:=hS.cn;have v0:IntKind.i64.wrap ((12:Int)+(p.client.size:Int))=(12:Int)+(p.client.size:Int):=by rw [IntKind.wrap_i64];omega
     have v1:IntKind.i64.wrap ((12:Int)+(p.client.size:Int)+(2:Int))=(12:Int)+(p.client.size:Int)+(2:Int):=by rw [IntKind.wrap_i64];omega
     have v2:IntKind.i64.wrap ((12:Int)+(p.client.size:Int)+(2:Int)+(p.user.size:Int))=(12:Int)+(p.client.size:Int)+(2:Int)+(p.user.size:Int):=by rw [IntKind.wrap_i64];omega
     have v3:IntKind.i64.wrap ((12:Int)+(p.client.size:Int)+(2:Int)+(p.user.size:Int)+(2:Int))=(12:Int)+(p.client.size:Int)+(2:Int)+(p.user.size:Int)+(2:Int):=by rw [IntKind.wrap_i64];omega
     have v4:IntKind.i64.wrap ((12:Int)+(p.client.size:Int)+(2:Int)+(p.user.size:Int)+(2:Int)+(p.pass.n:Int))=(12:Int)+(p.client.size:Int)+(2:Int)+(p.user.size:Int)+(2:Int)+(p.pass.n:Int):=by rw [IntKind.wrap_i64];omega
     clear hS s1 s2 s3 s4 s5 s6 s7 s8;have HV:Hid ((rb p c:Int)=(12:Int)+(p.client.size:Int)+(2:Int)+(p.user.size:Int)+(2:Int)+(p.pass.n:Int)):=by show _=_;rw [show rb p c=12+p.client.size+(2+p.user.size)+(2+p.pass.n) by simp [rb,szc,k1,hw,hu,hp]];push_cast;omega
     have HL:Hid (((12:Int)+(p.client.size:Int)+(2:Int)+(p.user.size:Int)+(2:Int)+(p.pass.n:Int):Int)<=300000000/\0<=((12:Int)+(p.client.size:Int)+(2:Int)+(p.user.size:Int)+(2:Int)+(p.pass.n:Int):Int)):=by have hS:=SM.out;have s1:=hS.cl;have s2:=hS.us;have s3:=hS.wt;have s4:=hS.mt;have s5:=hS.wp;have s6:=hS.ps;have s7:=hS.mp;have s8:=hS.cn;have s9:=hS.sa;have s10:=hS.sf;have hv:=HV.out;show _/\_;(try have hn:=HN.out);constructor <;> omega
     have hwl:IntKind.i64.wrap ((12:Int)+(p.client.size:Int)+(2:Int)+(p.user.size:Int)+(2:Int)+(p.pass.n:Int)+2)=(12:Int)+(p.client.size:Int)+(2:Int)+(p.user.size:Int)+(2:Int)+(p.pass.n:Int)+2:=by rw [IntKind.wrap_i64];have:=HL.out;omega
     go_wp2_with (first | (refine za0 rfl _ rfl w.heap.size rfl P (0,0) g0.out SP.out ?_) | fail);go_must (go_at_call 151);refine NU2.out.mono ?_;rintro e w1 ⟨rfl,hb⟩;have B1:=Hi (b0.out.trans (hb.mono b0.out.size));clear hb;cases bi
     · have HR:Hid (x=(12:Int)+(p.client.size:Int)+(2:Int)+(p.user.size:Int)+(2:Int)+(p.pass.n:Int)):=by have hv:=HV.out;show _=_;rw [HX.out,rsz,nid,HI.out,if_neg (by decide)];omega
       go_wp2;go_ret;exact ⟨by rw [HR.out];rfl,B1.out⟩
     · have HR:Hid (x=(12:Int)+(p.client.size:Int)+(2:Int)+(p.user.size:Int)+(2:Int)+(p.pass.n:Int)+2):=by have hv:=HV.out;show _=_;rw [HX.out,rsz,nid,HI.out,if_pos rfl];omega
       go_wp2;go_ret;exact ⟨by rw [HR.out];rfl,B1.out⟩
    case false =>
     rw [hp] at c12;have hS:=SM.out;have s1:=hS.cl;have s2:=hS.us;have s3:=hS.wt;have s4:=hS.mt;have s5:=hS.wp;have s6:=hS.ps;have s7:=hS.mp;have s8:=hS.cn;have v0:IntKind.i64.wrap ((12:Int)+(p.client.size:Int))=(12:Int)+(p.client.size:Int):=by rw [IntKind.wrap_i64];omega
     have v1:IntKind.i64.wrap ((12:Int)+(p.client.size:Int)+(2:Int))=(12:Int)+(p.client.size:Int)+(2:Int):=by rw [IntKind.wrap_i64];omega
     have v2:IntKind.i64.wrap ((12:Int)+(p.client.size:Int)+(2:Int)+(p.user.size:Int))=(12:Int)+(p.client.size:Int)+(2:Int)+(p.user.size:Int):=by rw [IntKind.wrap_i64];omega
     clear hS s1 s2 s3 s4 s5 s6 s7 s8;have HV:Hid ((rb p c:Int)=(12:Int)+(p.client.size:Int)+(2:Int)+(p.user.size:Int)):=by show _=_;rw [show rb p c=12+p.client.size+(2+p.user.size) by simp [rb,szc,k1,hw,hu,hp]];push_cast;omega
     have HL:Hid (((12:Int)+(p.client.size:Int)+(2:Int)+(p.user.size:Int):Int)<=300000000/\0<=((12:Int)+(p.client.size:Int)+(2:Int)+(p.user.size:Int):Int)):=by have hS:=SM.out;have s1:=hS.cl;have s2:=hS.us;have s3:=hS.wt;have s4:=hS.mt;have s5:=hS.wp;have s6:=hS.ps;have s7:=hS.mp;have s8:=hS.cn;have s9:=hS.sa;have s10:=hS.sf;have hv:=HV.out;show _/\_;(try have hn:=HN.out);constructor <;> omega
     have hwl:IntKind.i64.wrap ((12:Int)+(p.client.size:Int)+(2:Int)+(p.user.size:Int)+2)=(12:Int)+(p.client.size:Int)+(2:Int)+(p.user.size:Int)+2:=by rw [IntKind.wrap_i64];have:=HL.out;omega
     go_wp2_with (first | (refine za0 rfl _ rfl w.heap.size rfl P (0,0) g0.out SP.out ?_) | fail);go_must (go_at_call 151);refine NU2.out.mono ?_;rintro e w1 ⟨rfl,hb⟩;have B1:=Hi (b0.out.trans (hb.mono b0.out.size));clear hb;cases bi
     · have HR:Hid (x=(12:Int)+(p.client.size:Int)+(2:Int)+(p.user.size:Int)):=by have hv:=HV.out;show _=_;rw [HX.out,rsz,nid,HI.out,if_neg (by decide)];omega
       go_wp2;go_ret;exact ⟨by rw [HR.out];rfl,B1.out⟩
     · have HR:Hid (x=(12:Int)+(p.client.size:Int)+(2:Int)+(p.user.size:Int)+2):=by have hv:=HV.out;show _=_;rw [HX.out,rsz,nid,HI.out,if_pos rfl];omega
       go_wp2;go_ret;exact ⟨by rw [HR.out];rfl,B1.out⟩
   case false =>
    rw [hu] at c10;cases hp:p.hasPass;case true =>
     rw [hp] at c12;have hS:=SM.out;have s1:=hS.cl;have s2:=hS.us;have s3:=hS.wt;have s4:=hS.mt;have s5:=hS.wp;have s6:=hS.ps;have s7:=hS.mp;have s8:=hS.cn;have v0:IntKind.i64.wrap ((12:Int)+(p.client.size:Int))=(12:Int)+(p.client.size:Int):=by rw [IntKind.wrap_i64];omega
     have v1:IntKind.i64.wrap ((12:Int)+(p.client.size:Int)+(2:Int))=(12:Int)+(p.client.size:Int)+(2:Int):=by rw [IntKind.wrap_i64];omega
     have v2:IntKind.i64.wrap ((12:Int)+(p.client.size:Int)+(2:Int)+(p.pass.n:Int))=(12:Int)+(p.client.size:Int)+(2:Int)+(p.pass.n:Int):=by rw [IntKind.wrap_i64];omega
     clear hS s1 s2 s3 s4 s5 s6 s7 s8;have HV:Hid ((rb p c:Int)=(12:Int)+(p.client.size:Int)+(2:Int)+(p.pass.n:Int)):=by show _=_;rw [show rb p c=12+p.client.size+(2+p.pass.n) by simp [rb,szc,k1,hw,hu,hp]];push_cast;omega
     have HL:Hid (((12:Int)+(p.client.size:Int)+(2:Int)+(p.pass.n:Int):Int)<=300000000/\0<=((12:Int)+(p.client.size:Int)+(2:Int)+(p.pass.n:Int):Int)):=by have hS:=SM.out;have s1:=hS.cl;have s2:=hS.us;have s3:=hS.wt;have s4:=hS.mt;have s5:=hS.wp;have s6:=hS.ps;have s7:=hS.mp;have s8:=hS.cn;have s9:=hS.sa;have s10:=hS.sf;have hv:=HV.out;show _/\_;(try have hn:=HN.out);constructor <;> omega
     have hwl:IntKind.i64.wrap ((12:Int)+(p.client.size:Int)+(2:Int)+(p.pass.n:Int)+2)=(12:Int)+(p.client.size:Int)+(2:Int)+(p.pass.n:Int)+2:=by rw [IntKind.wrap_i64];have:=HL.out;omega
     go_wp2_with (first | (refine za0 rfl _ rfl w.heap.size rfl P (0,0) g0.out SP.out ?_) | fail);go_must (go_at_call 151);refine NU2.out.mono ?_;rintro e w1 ⟨rfl,hb⟩;have B1:=Hi (b0.out.trans (hb.mono b0.out.size));clear hb;cases bi
     · have HR:Hid (x=(12:Int)+(p.client.size:Int)+(2:Int)+(p.pass.n:Int)):=by have hv:=HV.out;show _=_;rw [HX.out,rsz,nid,HI.out,if_neg (by decide)];omega
       go_wp2;go_ret;exact ⟨by rw [HR.out];rfl,B1.out⟩
     · have HR:Hid (x=(12:Int)+(p.client.size:Int)+(2:Int)+(p.pass.n:Int)+2):=by have hv:=HV.out;show _=_;rw [HX.out,rsz,nid,HI.out,if_pos rfl];omega
       go_wp2;go_ret;exact ⟨by rw [HR.out];rfl,B1.out⟩
    case false =>
     rw [hp] at c12;have hS:=SM.out;have s1:=hS.cl;have s2:=hS.us;have s3:=hS.wt;have s4:=hS.mt;have s5:=hS.wp;have s6:=hS.ps;have s7:=hS.mp;have s8:=hS.cn;have v0:IntKind.i64.wrap ((12:Int)+(p.client.size:Int))=(12:Int)+(p.client.size:Int):=by rw [IntKind.wrap_i64];omega
     clear hS s1 s2 s3 s4 s5 s6 s7 s8;have HV:Hid ((rb p c:Int)=(12:Int)+(p.client.size:Int)):=by show _=_;rw [show rb p c=12+p.client.size by simp [rb,szc,k1,hw,hu,hp]];push_cast;omega
     have HL:Hid (((12:Int)+(p.client.size:Int):Int)<=300000000/\0<=((12:Int)+(p.client.size:Int):Int)):=by have hS:=SM.out;have s1:=hS.cl;have s2:=hS.us;have s3:=hS.wt;have s4:=hS.mt;have s5:=hS.wp;have s6:=hS.ps;have s7:=hS.mp;have s8:=hS.cn;have s9:=hS.sa;have s10:=hS.sf;have hv:=HV.out;show _/\_;(try have hn:=HN.out);constructor <;> omega
     have hwl:IntKind.i64.wrap ((12:Int)+(p.client.size:Int)+2)=(12:Int)+(p.client.size:Int)+2:=by rw [IntKind.wrap_i64];have:=HL.out;omega
     go_wp2_with (first | (refine za0 rfl _ rfl w.heap.size rfl P (0,0) g0.out SP.out ?_) | fail);go_must (go_at_call 151);refine NU2.out.mono ?_;rintro e w1 ⟨rfl,hb⟩;have B1:=Hi (b0.out.trans (hb.mono b0.out.size));clear hb;cases bi
     · have HR:Hid (x=(12:Int)+(p.client.size:Int)):=by have hv:=HV.out;show _=_;rw [HX.out,rsz,nid,HI.out,if_neg (by decide)];omega
       go_wp2;go_ret;exact ⟨by rw [HR.out];rfl,B1.out⟩
     · have HR:Hid (x=(12:Int)+(p.client.size:Int)+2):=by have hv:=HV.out;show _=_;rw [HX.out,rsz,nid,HI.out,if_pos rfl];omega
       go_wp2;go_ret;exact ⟨by rw [HR.out];rfl,B1.out⟩
 have e1:(p.kind==1)=false:=by simpa using k1
 by_cases k2:p.kind=2;·
  have e2:(p.kind==2)=true:=by rw [k2];rfl
  have HV:Hid ((rb p c:Int)=(2:Int)):=by show _=_;rw [show rb p c=2 by simp [rb,szc,k2]];(try rfl)
  have HL:Hid (((2:Int):Int)<=300000000/\0<=((2:Int):Int)):=by have hS:=SM.out;have s1:=hS.cl;have s2:=hS.us;have s3:=hS.wt;have s4:=hS.mt;have s5:=hS.wp;have s6:=hS.ps;have s7:=hS.mp;have s8:=hS.cn;have s9:=hS.sa;have s10:=hS.sf;have hv:=HV.out;show _/\_;(try have hn:=HN.out);constructor <;> omega
  have hwl:IntKind.i64.wrap ((2:Int)+2)=(2:Int)+2:=by rw [IntKind.wrap_i64];have:=HL.out;omega
  go_wp2_with (first | (refine za0 rfl _ rfl w.heap.size rfl P (0,0) g0.out SP.out ?_) | fail);go_must (go_at_call 151);refine NU2.out.mono ?_;rintro e w1 ⟨rfl,hb⟩;have B1:=Hi (b0.out.trans (hb.mono b0.out.size));clear hb;cases bi;·
   have HR:Hid (x=(2:Int)):=by have hv:=HV.out;show _=_;rw [HX.out,rsz,nid,HI.out,if_neg (by decide)];omega
   go_wp2;go_ret;exact ⟨by rw [HR.out];rfl,B1.out⟩
  ·
   have HR:Hid (x=(2:Int)+2):=by have hv:=HV.out;show _=_;rw [HX.out,rsz,nid,HI.out,if_pos rfl];omega
   go_wp2;go_ret;exact ⟨by rw [HR.out];rfl,B1.out⟩
 have e2:(p.kind==2)=false:=by simpa using k2
 by_cases k3:p.kind=3;·
  have e3:(p.kind==3)=true:=by rw [k3];rfl
  have c17:=FA.out 17 (.string p.mT) rfl;have c18:=FA.out 18 (.slice p.mP.a p.mP.n p.mP.c) rfl;have hS:=SM.out;have s1:=hS.cl;have s2:=hS.us;have s3:=hS.wt;have s4:=hS.mt;have s5:=hS.wp;have s6:=hS.ps;have s7:=hS.mp;have s8:=hS.cn;have v0:IntKind.i64.wrap ((2:Int)+(p.mT.size:Int))=(2:Int)+(p.mT.size:Int):=by rw [IntKind.wrap_i64];omega
  have v1:IntKind.i64.wrap ((2:Int)+(p.mT.size:Int)+(p.mP.n:Int))=(2:Int)+(p.mT.size:Int)+(p.mP.n:Int):=by rw [IntKind.wrap_i64];omega
  clear hS s1 s2 s3 s4 s5 s6 s7 s8;have HV:Hid ((rb p c:Int)=(2:Int)+(p.mT.size:Int)+(p.mP.n:Int)):=by show _=_;rw [show rb p c=2+p.mT.size+p.mP.n by simp [rb,szc,k3]];push_cast;omega
  have HL:Hid (((2:Int)+(p.mT.size:Int)+(p.mP.n:Int):Int)<=300000000/\0<=((2:Int)+(p.mT.size:Int)+(p.mP.n:Int):Int)):=by have hS:=SM.out;have s1:=hS.cl;have s2:=hS.us;have s3:=hS.wt;have s4:=hS.mt;have s5:=hS.wp;have s6:=hS.ps;have s7:=hS.mp;have s8:=hS.cn;have s9:=hS.sa;have s10:=hS.sf;have hv:=HV.out;show _/\_;(try have hn:=HN.out);constructor <;> omega
  have hwl:IntKind.i64.wrap ((2:Int)+(p.mT.size:Int)+(p.mP.n:Int)+2)=(2:Int)+(p.mT.size:Int)+(p.mP.n:Int)+2:=by rw [IntKind.wrap_i64];have:=HL.out;omega
  go_wp2_with (first | (refine za0 rfl _ rfl w.heap.size rfl P (0,0) g0.out SP.out ?_) | fail);go_must (go_at_call 151);refine NU2.out.mono ?_;rintro e w1 ⟨rfl,hb⟩;have B1:=Hi (b0.out.trans (hb.mono b0.out.size));clear hb;cases bi;·
   have HR:Hid (x=(2:Int)+(p.mT.size:Int)+(p.mP.n:Int)):=by have hv:=HV.out;show _=_;rw [HX.out,rsz,nid,HI.out,if_neg (by decide)];omega
   go_wp2;go_ret;exact ⟨by rw [HR.out];rfl,B1.out⟩
  ·
   have HR:Hid (x=(2:Int)+(p.mT.size:Int)+(p.mP.n:Int)+2):=by have hv:=HV.out;show _=_;rw [HX.out,rsz,nid,HI.out,if_pos rfl];omega
   go_wp2;go_ret;exact ⟨by rw [HR.out];rfl,B1.out⟩
 have e3:(p.kind==3)=false:=by simpa using k3
 by_cases k8:p.kind=8;·
  have e8:(p.kind==8)=true:=by rw [k8];rfl
  have c22:=FA.out 22 (.slice p.asks.a p.asks.n p.asks.c) rfl;go_wp2_with fail;go_loopg [3,4] p.asks.n (fun g s3 s4 wx=>wx=W/\∃ k N:Nat,s4 = .int .i64 k/\s3 = .int .i64 N/\k+g=p.asks.n/\Hid (N=sumN (fun i=>3+(c.af i).size) k));case atStart=>exact ⟨rfl,0,0,rfl,rfl,by omega,rfl⟩
  case round =>
   obtain ⟨hw0,k,N,rfl,rfl,hkg,HN⟩:=hrel;obtain rfl:=hw0.symm;clear hw0;by_cases hk:k<p.asks.n;·
    have hk':(k:Int)<p.asks.n:=by omega
    obtain ⟨b,off,he,hc⟩:∃ b off,p.asks.a=some ⟨b,off,none⟩/\∀ i,i<p.asks.n->(W.cell? ⟨b,off+i*2,none⟩=some (.string (c.af i))/\W.cell? ⟨b,off+i*2+1,none⟩=some (.int .i64 (c.aq i))):=by
     rcases HA.out.2 with h | h;· omega
     · exact h
    have hac:p.asks.n<=p.asks.c:=HA.out.1;rw [he] at c22;have d1:=(hc k hk).1;have hb:N+(3+(c.af k).size)<=100000000:=by have h1:=zdK (fun i=>3+(c.af i).size) p.asks.n k hk;have h2:=SM.out.sa;have h3:=HN.out;omega
    have hw1:IntKind.i64.wrap ((N:Int)+3)=(N:Int)+3:=by rw [IntKind.wrap_i64];omega
    have hw2:IntKind.i64.wrap ((N:Int)+3+(c.af k).size)=(N:Int)+3+(c.af k).size:=by rw [IntKind.wrap_i64];omega
    have hw3:IntKind.i64.wrap ((k:Int)+1)=(k:Int)+1:=by rw [IntKind.wrap_i64];have:=SM.out.an;omega
    have HN2:Hid (N+(3+(c.af k).size)=sumN (fun i=>3+(c.af i).size) (k+1)):=by show _=sumN (fun i=>3+(c.af i).size) k+(3+(c.af k).size);rw [HN.out]
    clear hc he hb;go_wp2;go_roundg (p.asks.n-(k+1));case measure=>omega
    case rel=>exact ⟨rfl,k+1,N+(3+(c.af k).size),by first | rfl | simp,by congr 1;push_cast;omega,by omega,HN2⟩
   ·
    obtain rfl:k=p.asks.n:=by omega
    have hk':¬ (p.asks.n:Int)<p.asks.n:=by omega
    have HV:Hid ((rb p c:Int)=(N:Int)):=by show _=_;rw [HN.out];simp [rb,k8]
    have HL:Hid (((N:Int):Int)<=300000000/\0<=((N:Int):Int)):=by have hS:=SM.out;have s1:=hS.cl;have s2:=hS.us;have s3:=hS.wt;have s4:=hS.mt;have s5:=hS.wp;have s6:=hS.ps;have s7:=hS.mp;have s8:=hS.cn;have s9:=hS.sa;have s10:=hS.sf;have hv:=HV.out;show _/\_;(try have hn:=HN.out);constructor <;> omega
    have hwl:IntKind.i64.wrap ((N:Int)+2)=(N:Int)+2:=by rw [IntKind.wrap_i64];have:=HL.out;omega
    go_wp2_with (first | (refine za0 rfl _ rfl w.heap.size rfl P (0,0) g0.out SP.out ?_) | fail);go_must (go_at_call 151);refine NU2.out.mono ?_;rintro e w1 ⟨rfl,hb⟩;have B1:=Hi (b0.out.trans (hb.mono b0.out.size));clear hb;cases bi
    · have HR:Hid (x=(N:Int)):=by have hv:=HV.out;show _=_;rw [HX.out,rsz,nid,HI.out,if_neg (by decide)];omega
      go_wp2;go_ret;exact ⟨by rw [HR.out];rfl,B1.out⟩
    · have HR:Hid (x=(N:Int)+2):=by have hv:=HV.out;show _=_;rw [HX.out,rsz,nid,HI.out,if_pos rfl];omega
      go_wp2;go_ret;exact ⟨by rw [HR.out];rfl,B1.out⟩
 have e8:(p.kind==8)=false:=by simpa using k8
 by_cases k9:p.kind=9;·
  have e9:(p.kind==9)=true:=by rw [k9];rfl
  have c23:=FA.out 23 (.slice p.codes.a p.codes.n p.codes.c) rfl;have HV:Hid ((rb p c:Int)=(p.codes.n:Int)):=by show _=_;rw [show rb p c=p.codes.n by simp [rb,szc,k9]];(try rfl)
  have HL:Hid (((p.codes.n:Int):Int)<=300000000/\0<=((p.codes.n:Int):Int)):=by have hS:=SM.out;have s1:=hS.cl;have s2:=hS.us;have s3:=hS.wt;have s4:=hS.mt;have s5:=hS.wp;have s6:=hS.ps;have s7:=hS.mp;have s8:=hS.cn;have s9:=hS.sa;have s10:=hS.sf;have hv:=HV.out;show _/\_;(try have hn:=HN.out);constructor <;> omega
  have hwl:IntKind.i64.wrap ((p.codes.n:Int)+2)=(p.codes.n:Int)+2:=by rw [IntKind.wrap_i64];have:=HL.out;omega
  go_wp2_with (first | (refine za0 rfl _ rfl w.heap.size rfl P (0,0) g0.out SP.out ?_) | fail);go_must (go_at_call 151);refine NU2.out.mono ?_;rintro e w1 ⟨rfl,hb⟩;have B1:=Hi (b0.out.trans (hb.mono b0.out.size));clear hb;cases bi;·
   have HR:Hid (x=(p.codes.n:Int)):=by have hv:=HV.out;show _=_;rw [HX.out,rsz,nid,HI.out,if_neg (by decide)];omega
   go_wp2;go_ret;exact ⟨by rw [HR.out];rfl,B1.out⟩
  ·
   have HR:Hid (x=(p.codes.n:Int)+2):=by have hv:=HV.out;show _=_;rw [HX.out,rsz,nid,HI.out,if_pos rfl];omega
   go_wp2;go_ret;exact ⟨by rw [HR.out];rfl,B1.out⟩
 have e9:(p.kind==9)=false:=by simpa using k9
 by_cases k10:p.kind=10;·
  have e10:(p.kind==10)=true:=by rw [k10];rfl
  have c24:=FA.out 24 (.slice p.filters.a p.filters.n p.filters.c) rfl;go_wp2_with fail;go_loopg [3,5] p.filters.n (fun g s3 s5 wx=>wx=W/\∃ k N:Nat,s5 = .int .i64 k/\s3 = .int .i64 N/\k+g=p.filters.n/\Hid (N=sumN (fun i=>2+(c.fs i).size) k));case atStart=>exact ⟨rfl,0,0,rfl,rfl,by omega,rfl⟩
  case round =>
   obtain ⟨hw0,k,N,rfl,rfl,hkg,HN⟩:=hrel;obtain rfl:=hw0.symm;clear hw0;by_cases hk:k<p.filters.n;·
    have hk':(k:Int)<p.filters.n:=by omega
    obtain ⟨b,off,he,hc⟩:∃ b off,p.filters.a=some ⟨b,off,none⟩/\∀ i,i<p.filters.n->W.cell? ⟨b,off+i,none⟩=some (.string (c.fs i)):=by
     rcases HS.out.2 with h | h;· omega
     · exact h
    have hac:p.filters.n<=p.filters.c:=HS.out.1;rw [he] at c24;have d1:=hc k hk;have hb:N+(2+(c.fs k).size)<=100000000:=by have h1:=zdK (fun i=>2+(c.fs i).size) p.filters.n k hk;have h2:=SM.out.sf;have h3:=HN.out;omega
    have hw1:IntKind.i64.wrap ((N:Int)+2)=(N:Int)+2:=by rw [IntKind.wrap_i64];omega
    have hw2:IntKind.i64.wrap ((N:Int)+2+(c.fs k).size)=(N:Int)+2+(c.fs k).size:=by rw [IntKind.wrap_i64];omega
    have hw3:IntKind.i64.wrap ((k:Int)+1)=(k:Int)+1:=by rw [IntKind.wrap_i64];have:=SM.out.fn;omega
    have HN2:Hid (N+(2+(c.fs k).size)=sumN (fun i=>2+(c.fs i).size) (k+1)):=by show _=sumN (fun i=>2+(c.fs i).size) k+(2+(c.fs k).size);rw [HN.out]
    clear hc he hb;go_wp2;go_roundg (p.filters.n-(k+1));case measure=>omega
    case rel=>exact ⟨rfl,k+1,N+(2+(c.fs k).size),by first | rfl | simp,by congr 1;push_cast;omega,by omega,HN2⟩
   ·
    obtain rfl:k=p.filters.n:=by omega
    have hk':¬ (p.filters.n:Int)<p.filters.n:=by omega
    have HV:Hid ((rb p c:Int)=(N:Int)):=by show _=_;rw [HN.out];simp [rb,k10]
    have HL:Hid (((N:Int):Int)<=300000000/\0<=((N:Int):Int)):=by have hS:=SM.out;have s1:=hS.cl;have s2:=hS.us;have s3:=hS.wt;have s4:=hS.mt;have s5:=hS.wp;have s6:=hS.ps;have s7:=hS.mp;have s8:=hS.cn;have s9:=hS.sa;have s10:=hS.sf;have hv:=HV.out;show _/\_;(try have hn:=HN.out);constructor <;> omega
    have hwl:IntKind.i64.wrap ((N:Int)+2)=(N:Int)+2:=by rw [IntKind.wrap_i64];have:=HL.out;omega
    go_wp2_with (first | (refine za0 rfl _ rfl w.heap.size rfl P (0,0) g0.out SP.out ?_) | fail);go_must (go_at_call 151);refine NU2.out.mono ?_;rintro e w1 ⟨rfl,hb⟩;have B1:=Hi (b0.out.trans (hb.mono b0.out.size));clear hb;cases bi
    · have HR:Hid (x=(N:Int)):=by have hv:=HV.out;show _=_;rw [HX.out,rsz,nid,HI.out,if_neg (by decide)];omega
      go_wp2;go_ret;exact ⟨by rw [HR.out];rfl,B1.out⟩
    · have HR:Hid (x=(N:Int)+2):=by have hv:=HV.out;show _=_;rw [HX.out,rsz,nid,HI.out,if_pos rfl];omega
      go_wp2;go_ret;exact ⟨by rw [HR.out];rfl,B1.out⟩
 have e10:(p.kind==10)=false:=by simpa using k10
 have HV:Hid ((rb p c:Int)=(0:Int)):=by show _=_;simp [rb,k1,k2,k3,k8,k9,k10]
 have HL:Hid (((0:Int):Int)<=300000000/\0<=((0:Int):Int)):=by have hS:=SM.out;have s1:=hS.cl;have s2:=hS.us;have s3:=hS.wt;have s4:=hS.mt;have s5:=hS.wp;have s6:=hS.ps;have s7:=hS.mp;have s8:=hS.cn;have s9:=hS.sa;have s10:=hS.sf;have hv:=HV.out;show _/\_;(try have hn:=HN.out);constructor <;> omega
 have hwl:IntKind.i64.wrap ((0:Int)+2)=(0:Int)+2:=by rw [IntKind.wrap_i64];have:=HL.out;omega
 go_wp2_with (first | (refine za0 rfl _ rfl w.heap.size rfl P (0,0) g0.out SP.out ?_) | fail);go_must (go_at_call 151);refine NU2.out.mono ?_;rintro e w1 ⟨rfl,hb⟩;have B1:=Hi (b0.out.trans (hb.mono b0.out.size));clear hb;cases bi;·
  have HR:Hid (x=(0:Int)):=by have hv:=HV.out;show _=_;rw [HX.out,rsz,nid,HI.out,if_neg (by decide)];omega
  go_wp2;go_ret;exact ⟨by rw [HR.out];rfl,B1.out⟩
 ·
  have HR:Hid (x=(0:Int)+2):=by have hv:=HV.out;show _=_;rw [HX.out,rsz,nid,HI.out,if_pos rfl];omega
  go_wp2;go_ret;exact ⟨by rw [HR.out];rfl,B1.out⟩
theorem zc9 (f:Nat->Nat) {n:Nat} (h:n=0):sumN f n=0:=by subst h;rfl
theorem sz_rsz {p:Pk} {c:Cn} (h:Own p):sz p c=rsz p c:=by
 unfold sz rsz rb;by_cases k1:p.kind=1
 · have:nid p=0:=by simp [nid,hasID,k1]
   rw [if_pos k1,if_pos k1,this];rfl
 rw [if_neg k1,if_neg k1];by_cases k2:p.kind=2
 · have:nid p=0:=by simp [nid,hasID,k2]
   rw [if_pos k2,if_pos k2,this]
 rw [if_neg k2,if_neg k2];by_cases k3:p.kind=3;· rw [if_pos k3,if_pos k3];omega
 rw [if_neg k3,if_neg k3];by_cases k8:p.kind=8;· rw [if_pos k8,zc9 (fun i=>2+(c.fs i).size) (h.filters (by omega)),h.codes (by omega)];omega
 rw [if_neg k8,zc9 (fun i=>3+(c.af i).size) (h.asks k8)];by_cases k9:p.kind=9;· rw [if_pos k9,zc9 (fun i=>2+(c.fs i).size) (h.filters (by omega))];omega
 rw [if_neg k9,h.codes k9];by_cases k10:p.kind=10;· rw [if_pos k10];omega
 rw [if_neg k10,zc9 (fun i=>2+(c.fs i).size) (h.filters k10)];omega
theorem zeX (s:ByteArray):topb s = !(tcode s != 0):=by unfold topb;cases h:(tcode s==0) <;> simp_all
theorem tps_rtps {p:Pk} (h:Own p):tps TT p=rtps p:=by
 have h1:=h.hasWill;unfold tps rtps;show (!(p.hasWill && !topb p.wT) && (decide (p.kind≠3) || topb p.mT))=_;rw [zeX,zeX];by_cases k1:p.kind=1;· simp [k1]
 · rw [h1 k1]
   by_cases k3:p.kind=3 <;> simp [k1,k3]
theorem zcs {q:Int} (h:q=0):isQ q=true:=by subst h;rfl
theorem qls_rqls {p:Pk} {c:Cn} (h:Own p):qls p c=rqls p c:=by
 unfold qls rqls;have e:(isQ p.wQ && isQ p.mQ) = !qA p:=by
  unfold qA;by_cases k1:p.kind=1;·
   have hm:isQ p.mQ=true:=zcs (h.msg (by omega)).2.1;cases hw:p.hasWill
   · have hq:isQ p.wQ=true:=zcs (h.will (by simp [hw])).2.1
     simp [k1,hw,hm,hq]
   · cases hq:isQ p.wQ <;> simp [k1,hw,hm,hq]
  ·
   have hq:isQ p.wQ=true:=zcs (h.will (fun hh=>k1 hh.1)).2.1;by_cases k3:p.kind=3;· cases hm:isQ p.mQ <;> simp [k1,k3,hq,hm]
   · have hm:isQ p.mQ=true:=zcs (h.msg k3).2.1
     simp [k1,k3,hq,hm]
 rw [e]
def rflts (p:Pk) (c:Cn):Bool:=allN p.asks.n (fun i=>rfc (c.af i)==0) && allN p.filters.n (fun i=>rfc (c.fs i)==0)
theorem rfilters_any (p:Pk) (c:Cn) (w:World) (hin:In w p c) (ha:p.asks.n<=1000000) (hd:p.filters.n<=1000000):Calls Tryz.prog 149 #[p.v] w fun e w'=>e = .returned (.bool (rflts p c))/\Below w.heap.size w w':=by
 obtain ⟨x,hx⟩:∃ x,x=rflts p c:=⟨_,rfl⟩;rw [<-hx];have HX:=Hi hx;clear hx;obtain ⟨P,hP⟩:∃ P,P=pkCells p:=⟨_,rfl⟩;obtain ⟨W,hW⟩:∃ W,W=w.alloc (.cells P 29):=⟨_,rfl⟩;have b0:=Hi (zat hW);have FA:Hid (∀ k v,(pkCells p)[k]?=some v->W.cell? ⟨w.heap.size,k,none⟩=some v):=fun k v h=>by rw [hW];exact za2 w P 29 k v (by rw [hP];exact h)
 rw [show p.v = .agg P by rw [hP];rfl];clear hP;have HA:=Hi (hin.asks.below b0.out);have HS:=Hi (hin.filters.below b0.out);have LA:=Hi ha;have LC:=Hi hd;have R0:Hid (Below W.heap.size W W):=Below.refl _ _;have BW:Hid (∀ w',Below W.heap.size W w'->Below w.heap.size w w'):=fun w' hb=>b0.out.trans (hb.mono b0.out.size);clear hin ha hd;go_enter Tryz.func149,Tryz.ntmps149;go_upto_region 1 with fail;rw [<-hW];clear hW;go_wp2_with fail;go_loopg [3] p.asks.n (fun g s3 wx=>∃ k:Nat,s3 = .int .i64 k/\k+g=p.asks.n/\Hid (Below W.heap.size W wx)/\Hid (∀ j,j<k->(rfc (c.af j)==0)=true));case atStart=>exact ⟨0,rfl,by omega,R0,fun j hj=>absurd hj (Nat.not_lt_zero _)⟩
 case round =>
  obtain ⟨k,rfl,hkg,B,HD⟩:=hrel;have c22:=cell_later B.out (FA.out 22 (.slice p.asks.a p.asks.n p.asks.c) rfl);by_cases hk:k<p.asks.n;·
   have hk':(k:Int)<p.asks.n:=by omega
   obtain ⟨b,off,he,hc⟩:∃ b off,p.asks.a=some ⟨b,off,none⟩/\∀ i,i<p.asks.n->(W.cell? ⟨b,off+i*2,none⟩=some (.string (c.af i))/\W.cell? ⟨b,off+i*2+1,none⟩=some (.int .i64 (c.aq i))):=by
    rcases HA.out.2 with h | h;· omega
    · exact h
   have hac:p.asks.n<=p.asks.c:=HA.out.1;rw [he] at c22;have d1:=cell_later B.out (hc k hk).1;have hw:IntKind.i64.wrap ((k:Int)+1)=(k:Int)+1:=by rw [IntKind.wrap_i64];have:=LA.out;omega
   clear hc he;go_wp2_with fail;go_must (go_at_call 225);refine (zd1 (c.af k) _).mono ?_;rintro e w1 ⟨rfl,hb⟩;have B1:=Hi (B.out.trans (hb.mono B.out.size));clear hb c22 d1;cases hq:(rfc (c.af k)==0);case false =>
    have hq':(rfc (c.af k) != 0)=true:=by simpa using hq
    have HR:Hid (x=false):=by show _=_;rw [HX.out,rflts,zaP (f:=fun i=>rfc (c.af i)==0) k hk hq];rfl
    clear hq;go_wp2;go_ret;exact ⟨by rw [HR.out];rfl,BW.out _ B1.out⟩
   have hq':(rfc (c.af k) != 0)=false:=by simpa using hq
   have HN:Hid (∀ j,j<k+1->(rfc (c.af j)==0)=true):=fun j hj=>by
    rcases Nat.lt_or_ge j k with h | h;· exact HD.out j h
    · obtain rfl:j=k:=by omega
      exact hq
   clear hq;go_wp2;go_roundg (p.asks.n-(k+1));case measure=>omega
   case rel=>exact ⟨k+1,by first | rfl | simp,by omega,B1,HN⟩
  ·
   obtain rfl:k=p.asks.n:=by omega
   have hk':¬ (p.asks.n:Int)<p.asks.n:=by omega
   have AL:Hid (allN p.asks.n (fun i=>rfc (c.af i)==0)=true):=(zb6 _ _).2 HD.out;go_wp2_with fail;clear hk' c22;go_loopg [4] p.filters.n (fun g s4 wx=>∃ k:Nat,s4 = .int .i64 k/\k+g=p.filters.n/\Hid (Below W.heap.size W wx)/\Hid (∀ j,j<k->(rfc (c.fs j)==0)=true));case atStart=>exact ⟨0,rfl,by omega,B,fun j hj=>absurd hj (Nat.not_lt_zero _)⟩
   case round =>
    obtain ⟨j,rfl,hjg,C,HC⟩:=hrel;have c24:=cell_later C.out (FA.out 24 (.slice p.filters.a p.filters.n p.filters.c) rfl);by_cases hj:j<p.filters.n;·
     have hj':(j:Int)<p.filters.n:=by omega
     obtain ⟨b,off,he,hc⟩:∃ b off,p.filters.a=some ⟨b,off,none⟩/\∀ i,i<p.filters.n->W.cell? ⟨b,off+i,none⟩=some (.string (c.fs i)):=by
      rcases HS.out.2 with h | h;· omega
      · exact h
     have hac:p.filters.n<=p.filters.c:=HS.out.1;rw [he] at c24;have d1:=cell_later C.out (hc j hj);have hw:IntKind.i64.wrap ((j:Int)+1)=(j:Int)+1:=by rw [IntKind.wrap_i64];have:=LC.out;omega
     clear hc he;go_wp2_with fail;go_must (go_at_call 225);refine (zd1 (c.fs j) _).mono ?_;rintro e w1 ⟨rfl,hb⟩;have B1:=Hi (C.out.trans (hb.mono C.out.size));clear hb c24 d1;cases hq:(rfc (c.fs j)==0);case false =>
      have hq':(rfc (c.fs j) != 0)=true:=by simpa using hq
      have HR:Hid (x=false):=by show _=_;rw [HX.out,rflts,zaP (f:=fun i=>rfc (c.fs i)==0) j hj hq];simp
      clear hq;go_wp2;go_ret;exact ⟨by rw [HR.out];rfl,BW.out _ B1.out⟩
     have hq':(rfc (c.fs j) != 0)=false:=by simpa using hq
     have HN:Hid (∀ i,i<j+1->(rfc (c.fs i)==0)=true):=fun i hi=>by
      rcases Nat.lt_or_ge i j with h | h;· exact HC.out i h
      · obtain rfl:i=j:=by omega
        exact hq
     clear hq;go_wp2;go_roundg (p.filters.n-(j+1));case measure=>omega
     case rel=>exact ⟨j+1,by first | rfl | simp,by omega,B1,HN⟩
    ·
     obtain rfl:j=p.filters.n:=by omega
     have hj':¬ (p.filters.n:Int)<p.filters.n:=by omega
     have CL:Hid (allN p.filters.n (fun i=>rfc (c.fs i)==0)=true):=(zb6 _ _).2 HC.out;have HR:Hid (x=true):=by show _=_;rw [HX.out,rflts,AL.out,CL.out];rfl
     go_wp2;go_ret;exact ⟨by rw [HR.out];rfl,BW.out _ C.out⟩
theorem zdX (s:ByteArray):rfc s=fcode s:=rfl
def rbad1 (p:Pk):Bool:=forB p || !bnd p
def rbad6 (p:Pk):Bool:=hasID p && (decide (p.id<1) || decide (65535<p.id))
def rbad7 (p:Pk) (c:Cn):Bool:=decide (65535<p.wP.n) || decide (65535<p.pass.n) || decide (268435455<rsz p c)
def rbad8 (p:Pk):Bool:=(p.kind==8 && decide (p.asks.n=0)) || (p.kind==9 && decide (p.codes.n=0)) || (p.kind==10 && decide (p.filters.n=0))
def rck (p:Pk) (c:Cn):Nat := if !isK p.kind then 20 else if rbad1 p then 21 else if bad2 TT p then 22 else if !rtps p then 23 else if !rflts p c then 24 else if !rqls p c then 25 else if rbad6 p then 26 else if rbad7 p c then 27 else if rbad8 p then 28 else if bad9 p then 29 else 0
theorem rck_ck (p:Pk) (c:Cn):rck p c=ck TT p c:=by
 unfold rck ck rbad1;cases hk:isK p.kind;· rfl
 have hk':1<=p.kind/\p.kind<=14:=by simpa [isK] using hk
 rw [bad1_for p hk'.1 hk'.2];cases hf:forB p;·
  have ho:=(zes p).1 hf;have e8:bad8 p=rbad8 p:=by
   unfold bad8 rbad8;rw [fl_list p hk'.1 hk'.2,gv_list p];by_cases k8:p.kind=8
   · have h1:=ho.codes (by omega)
     have h2:=ho.filters (by omega);simp [k8,h1,h2]
   by_cases k9:p.kind=9
   · have h1:=ho.asks (by omega)
     have h2:=ho.filters (by omega);simp [k9,h1,h2]
   by_cases k10:p.kind=10
   · have h1:=ho.asks (by omega)
     have h2:=ho.codes (by omega);simp [k10,h1,h2]
   simp [k8,k9,k10]
  have e6:bad6 p=rbad6 p:=by unfold bad6 rbad6;rw [fl_id p hk'.1 hk'.2]
  have e7:bad7 p c=rbad7 p c:=by unfold bad7 rbad7;rw [sz_rsz ho]
  have e4:flts TT p c=rflts p c:=by
   unfold flts rflts;have ea:(fun i=>TT.flt (c.af i))=fun i=>rfc (c.af i)==0:=by funext i;rw [zdX];rfl
   have ef:(fun i=>TT.flt (c.fs i))=fun i=>rfc (c.fs i)==0:=by funext i;rw [zdX];rfl
   rw [ea,ef]
  rw [e8,e6,e7,e4,tps_rtps ho,qls_rqls ho]
 · rfl
theorem zcD (p:Pk):bnd p=((decide (0<=p.level) && decide (p.level<=255)) && (decide (0<=p.code) && decide (p.code<=255)) && (decide (0<=p.keep) && decide (p.keep<=65535))):=by simp only [bnd,Bool.and_assoc]
structure Rc (w:World) (p:Pk) (c:Cn) (v:Value):Prop where
 foreign:∀ w',Calls Tryz.prog 145 #[v] w' fun e w''=>e = .returned (.bool (forB p))/\Below w'.heap.size w' w''
 topics:∀ w',Calls Tryz.prog 148 #[v] w' fun e w''=>e = .returned (.bool (rtps p))/\Below w'.heap.size w' w''
 filters:∀ w',Below w.heap.size w w'->Calls Tryz.prog 149 #[v] w' fun e w''=>e = .returned (.bool (rflts p c))/\Below w'.heap.size w' w''
 quals:∀ w',Below w.heap.size w w'->Calls Tryz.prog 150 #[v] w' fun e w''=>e = .returned (.bool (rqls p c))/\Below w'.heap.size w' w''
 numbered:∀ w',Calls Tryz.prog 151 #[v] w' fun e w''=>e = .returned (.bool (hasID p))/\Below w'.heap.size w' w''
 bytes:∀ w',Below w.heap.size w w'->Calls Tryz.prog 152 #[v] w' fun e w''=>e = .returned (.int .i64 (rsz p c))/\Below w'.heap.size w' w''
theorem rc_of {w:World} {p:Pk} {c:Cn} (hin:In w p c) (hs:Small p c):Rc w p c p.v where
 foreign w':=foreign_any p w'
 topics w':=rtopics_any p w'
 filters w' hb:=rfilters_any p c w' (hin.below hb) hs.an hs.fn
 quals w' hb:=rqualities_any p c w' (hin.below hb) hs.an hs.cn
 numbered w':=zbt p w'
 bytes w' hb:=rbytes_any p c w' (hin.below hb) hs
set_option maxHeartbeats 8000000
theorem rcheck_one (p:Pk) (c:Cn) (w:World) (hin:In w p c) (hs:Small p c) (hbad:(!isK p.kind || rbad1 p || bad2 TT p || !rtps p || !rflts p c || !rqls p c)=true):Calls Tryz.prog 93 #[p.v] w fun e w'=>e = .returned (.int .i64 (rck p c))/\Below w.heap.size w w':=by
 have HC:Hid (Rc w p c p.v):=rc_of hin hs;clear hin hs;obtain ⟨x,hx⟩:∃ x,x=rck p c:=⟨_,rfl⟩;rw [<-hx];have E0:Hid (x=(if !isK p.kind then 20 else if rbad1 p then 21 else if bad2 TT p then 22 else if !rtps p then 23 else if !rflts p c then 24 else if !rqls p c then 25 else if rbad6 p then 26 else if rbad7 p c then 27 else if rbad8 p then 28 else if bad9 p then 29 else 0)):=hx;clear hx;obtain ⟨P,hP⟩:∃ P,P=pkCells p:=⟨_,rfl⟩;rw [show p.v = .agg P by rw [hP];rfl] at HC ⊢;have HP:Hid (P=pkCells p):=hP;have hsz:Hid (P.size=25):=by show _=_;rw [hP];rfl
 clear hP;obtain ⟨W,hW⟩:∃ W,W=w.alloc (.cells P 29):=⟨_,rfl⟩;have b0:Hid (Below w.heap.size w W):=zat hW;have g0:Hid (W.heap[w.heap.size]?=some (.cells P 29)):=by show _=_;rw [hW];exact heap_alloc_new w _
 have FA:Hid (∀ k v,(pkCells p)[k]?=some v->∀ w',Below W.heap.size W w'->w'.cell? ⟨w.heap.size,k,none⟩=some v):=fun k v h w' hb=>cell_later hb (by rw [hW];exact za2 w P 29 k v (by rw [HP.out];exact h));have GA:Hid (∀ w',Below W.heap.size W w'->w'.heap[w.heap.size]?=some (.cells P 29)):=fun w' hb=>(hb.block _ (zb2 g0.out)).trans g0.out;have BW:Hid (∀ w',Below W.heap.size W w'->Below w.heap.size w w'):=fun w' hb=>b0.out.trans (hb.mono b0.out.size);have R0:Hid (Below W.heap.size W W):=Below.refl _ _;have HBAD:Hid ((!isK p.kind || rbad1 p || bad2 TT p || !rtps p || !rflts p c || !rqls p c)=true):=hbad;clear hbad;go_enter Tryz.func93,Tryz.ntmps93;go_upto_region 1 with fail;rw [<-hW];clear hW;go_cut [3] from 3 (fun sx wx=>sx = .bool (!isK p.kind)/\Hid (Below W.heap.size W wx));case first =>
  have c0:=FA.out 0 (.int .i64 p.kind) rfl W R0.out;by_cases i1:p.kind<1;·
   have HV:Hid ((!isK p.kind)=true):=by show _=_;simp only [isK,Bool.not_eq_true',Bool.and_eq_false_iff,decide_eq_false_iff_not];omega
   go_wp2_with fail;go_meet;case rel=>exact ⟨by rw [HV.out],R0⟩
  by_cases i2:14<p.kind;·
   have HV:Hid ((!isK p.kind)=true):=by show _=_;simp only [isK,Bool.not_eq_true',Bool.and_eq_false_iff,decide_eq_false_iff_not];omega
   go_wp2_with fail;go_meet;case rel=>exact ⟨by rw [HV.out],R0⟩
  have HV:Hid ((!isK p.kind)=false):=by show _=_;simp only [isK,Bool.not_eq_false',Bool.and_eq_true,decide_eq_true_eq];omega
  go_wp2_with fail;go_meet;case rel=>exact ⟨by rw [HV.out],R0⟩
 case rest =>
 obtain ⟨rfl,B1⟩:=hcut;cases hb0:(!isK p.kind);case true => go_wp2;go_ret;exact ⟨by rw [E0.out,hb0];rfl,BW.out _ B1.out⟩
 have E1:Hid (x=(if rbad1 p then 21 else if bad2 TT p then 22 else if !rtps p then 23 else if !rflts p c then 24 else if !rqls p c then 25 else if rbad6 p then 26 else if rbad7 p c then 27 else if rbad8 p then 28 else if bad9 p then 29 else 0)):=by show _=_;rw [E0.out,hb0];rfl
 have G0:Hid ((!isK p.kind)=false):=hb0;clear hb0 E0;go_upto_region 3 with fail;go_cut [12] from 3 (fun sx wx=>sx = .bool (rbad1 p)/\Hid (Below W.heap.size W wx));case first =>
  have HV:Hid (rbad1 p=(forB p || !((decide (0<=p.level) && decide (p.level<=255)) && (decide (0<=p.code) && decide (p.code<=255)) && (decide (0<=p.keep) && decide (p.keep<=65535))))):=by show _=_;rw [rbad1,zcD]
  obtain ⟨y0,q0⟩:∃ b,forB p=b:=⟨_,rfl⟩;obtain ⟨y1,q1⟩:∃ b,(decide (0<=p.level) && decide (p.level<=255))=b:=⟨_,rfl⟩;obtain ⟨y2,q2⟩:∃ b,(decide (0<=p.code) && decide (p.code<=255))=b:=⟨_,rfl⟩;obtain ⟨y3,q3⟩:∃ b,(decide (0<=p.keep) && decide (p.keep<=65535))=b:=⟨_,rfl⟩;rw [q0,q1,q2,q3] at HV;cases y0;case true => go_wp2_with (first | (refine za0 rfl _ rfl w.heap.size rfl _ (0,0) (GA.out _ B1.out) hsz.out ?_)|(go_at_call 145;refine (HC.out.foreign _).mono ?_;rintro e w1 ⟨rfl,hb⟩;have D1:Hid (Below W.heap.size W w1):=B1.out.trans (hb.mono B1.out.size);clear hb;rw [q0];have c1:=FA.out 1 (.int .i64 p.level) rfl w1 D1.out;have c15:=FA.out 15 (.int .i64 p.code) rfl w1 D1.out;have c3:=FA.out 3 (.int .i64 p.keep) rfl w1 D1.out)|(go_at_call 146;refine (zam _ _ _).mono ?_;rintro e w' ⟨rfl,hee⟩;obtain rfl:=hee.symm;clear hee;first | rw [q1] | rw [q2] | rw [q3]));go_meet;case rel=>exact ⟨by rw [HV.out];rfl,D1⟩
  cases y1;case false => go_wp2_with (first | (refine za0 rfl _ rfl w.heap.size rfl _ (0,0) (GA.out _ B1.out) hsz.out ?_)|(go_at_call 145;refine (HC.out.foreign _).mono ?_;rintro e w1 ⟨rfl,hb⟩;have D1:Hid (Below W.heap.size W w1):=B1.out.trans (hb.mono B1.out.size);clear hb;rw [q0];have c1:=FA.out 1 (.int .i64 p.level) rfl w1 D1.out;have c15:=FA.out 15 (.int .i64 p.code) rfl w1 D1.out;have c3:=FA.out 3 (.int .i64 p.keep) rfl w1 D1.out)|(go_at_call 146;refine (zam _ _ _).mono ?_;rintro e w' ⟨rfl,hee⟩;obtain rfl:=hee.symm;clear hee;first | rw [q1] | rw [q2] | rw [q3]));go_meet;case rel=>exact ⟨by rw [HV.out];rfl,D1⟩
  cases y2;case false => go_wp2_with (first | (refine za0 rfl _ rfl w.heap.size rfl _ (0,0) (GA.out _ B1.out) hsz.out ?_)|(go_at_call 145;refine (HC.out.foreign _).mono ?_;rintro e w1 ⟨rfl,hb⟩;have D1:Hid (Below W.heap.size W w1):=B1.out.trans (hb.mono B1.out.size);clear hb;rw [q0];have c1:=FA.out 1 (.int .i64 p.level) rfl w1 D1.out;have c15:=FA.out 15 (.int .i64 p.code) rfl w1 D1.out;have c3:=FA.out 3 (.int .i64 p.keep) rfl w1 D1.out)|(go_at_call 146;refine (zam _ _ _).mono ?_;rintro e w' ⟨rfl,hee⟩;obtain rfl:=hee.symm;clear hee;first | rw [q1] | rw [q2] | rw [q3]));go_meet;case rel=>exact ⟨by rw [HV.out];rfl,D1⟩
  cases y3;case false => go_wp2_with (first | (refine za0 rfl _ rfl w.heap.size rfl _ (0,0) (GA.out _ B1.out) hsz.out ?_)|(go_at_call 145;refine (HC.out.foreign _).mono ?_;rintro e w1 ⟨rfl,hb⟩;have D1:Hid (Below W.heap.size W w1):=B1.out.trans (hb.mono B1.out.size);clear hb;rw [q0];have c1:=FA.out 1 (.int .i64 p.level) rfl w1 D1.out;have c15:=FA.out 15 (.int .i64 p.code) rfl w1 D1.out;have c3:=FA.out 3 (.int .i64 p.keep) rfl w1 D1.out)|(go_at_call 146;refine (zam _ _ _).mono ?_;rintro e w' ⟨rfl,hee⟩;obtain rfl:=hee.symm;clear hee;first | rw [q1] | rw [q2] | rw [q3]));go_meet;case rel=>exact ⟨by rw [HV.out];rfl,D1⟩
  go_wp2_with (first | (refine za0 rfl _ rfl w.heap.size rfl _ (0,0) (GA.out _ B1.out) hsz.out ?_)|(go_at_call 145;refine (HC.out.foreign _).mono ?_;rintro e w1 ⟨rfl,hb⟩;have D1:Hid (Below W.heap.size W w1):=B1.out.trans (hb.mono B1.out.size);clear hb;rw [q0];have c1:=FA.out 1 (.int .i64 p.level) rfl w1 D1.out;have c15:=FA.out 15 (.int .i64 p.code) rfl w1 D1.out;have c3:=FA.out 3 (.int .i64 p.keep) rfl w1 D1.out)|(go_at_call 146;refine (zam _ _ _).mono ?_;rintro e w' ⟨rfl,hee⟩;obtain rfl:=hee.symm;clear hee;first | rw [q1] | rw [q2] | rw [q3]));go_meet;case rel=>exact ⟨by rw [HV.out];rfl,D1⟩
 case rest =>
 obtain ⟨rfl,B2⟩:=hcut;cases hb1:(rbad1 p);case true => go_wp2;go_ret;exact ⟨by rw [E1.out,hb1];rfl,BW.out _ B2.out⟩
 have E2:Hid (x=(if bad2 TT p then 22 else if !rtps p then 23 else if !rflts p c then 24 else if !rqls p c then 25 else if rbad6 p then 26 else if rbad7 p c then 27 else if rbad8 p then 28 else if bad9 p then 29 else 0)):=by show _=_;rw [E1.out,hb1];rfl
 have G1:Hid ((rbad1 p)=false):=hb1;clear hb1 E1;go_upto_region 5 with fail;go_cut [33] from 3 (fun sx wx=>sx = .bool (bad2 TT p)/\Hid (Below W.heap.size W wx));case first =>
  have c4:=FA.out 4 (.string p.client) rfl wc B2.out;have c11:=FA.out 11 (.string p.user) rfl wc B2.out;have HV:Hid (bad2 TT p=(!txt p.client || !txt p.user)):=rfl;obtain ⟨y0,q0⟩:∃ b,txt p.client=b:=⟨_,rfl⟩;obtain ⟨y1,q1⟩:∃ b,txt p.user=b:=⟨_,rfl⟩;rw [q0,q1] at HV;cases y0;case false => go_wp2_with (go_at_call 147;refine (zaL _ _).mono ?_;rintro e w' ⟨rfl,hee⟩;obtain rfl:=hee.symm;clear hee;first | rw [q0] | rw [q1]);go_meet;case rel=>exact ⟨by rw [HV.out];rfl,B2⟩
  cases y1;case false => go_wp2_with (go_at_call 147;refine (zaL _ _).mono ?_;rintro e w' ⟨rfl,hee⟩;obtain rfl:=hee.symm;clear hee;first | rw [q0] | rw [q1]);go_meet;case rel=>exact ⟨by rw [HV.out];rfl,B2⟩
  go_wp2_with (go_at_call 147;refine (zaL _ _).mono ?_;rintro e w' ⟨rfl,hee⟩;obtain rfl:=hee.symm;clear hee;first | rw [q0] | rw [q1]);go_meet;case rel=>exact ⟨by rw [HV.out];rfl,B2⟩
 case rest =>
 obtain ⟨rfl,B3⟩:=hcut;cases hb2:(bad2 TT p);case true => go_wp2;go_ret;exact ⟨by rw [E2.out,hb2];rfl,BW.out _ B3.out⟩
 have E3:Hid (x=(if !rtps p then 23 else if !rflts p c then 24 else if !rqls p c then 25 else if rbad6 p then 26 else if rbad7 p c then 27 else if rbad8 p then 28 else if bad9 p then 29 else 0)):=by show _=_;rw [E2.out,hb2];rfl
 have G2:Hid ((bad2 TT p)=false):=hb2;clear hb2 E2;go_upto_region 7 with fail;go_cut [44] from 3 (fun sx wx=>sx = .bool (!rtps p)/\Hid (Below W.heap.size W wx));case first => go_wp2_with (first | (refine za0 rfl _ rfl w.heap.size rfl _ (0,0) (GA.out _ B3.out) hsz.out ?_)|(go_at_call 148;refine (HC.out.topics _).mono ?_;rintro e w1 ⟨rfl,hb⟩;have D1:Hid (Below W.heap.size W w1):=B3.out.trans (hb.mono B3.out.size);clear hb));go_meet;case rel=>exact ⟨rfl,D1⟩
 case rest =>
 obtain ⟨rfl,B4⟩:=hcut;cases hb3:(!rtps p);case true => go_wp2;go_ret;exact ⟨by rw [E3.out,hb3];rfl,BW.out _ B4.out⟩
 have E4:Hid (x=(if !rflts p c then 24 else if !rqls p c then 25 else if rbad6 p then 26 else if rbad7 p c then 27 else if rbad8 p then 28 else if bad9 p then 29 else 0)):=by show _=_;rw [E3.out,hb3];rfl
 have G3:Hid ((!rtps p)=false):=hb3;clear hb3 E3;go_upto_region 9 with fail;go_cut [48] from 3 (fun sx wx=>sx = .bool (!rflts p c)/\Hid (Below W.heap.size W wx));case first => go_wp2_with (first | (refine za0 rfl _ rfl w.heap.size rfl _ (0,0) (GA.out _ B4.out) hsz.out ?_)|(go_at_call 149;refine (HC.out.filters _ (BW.out _ B4.out)).mono ?_;rintro e w1 ⟨rfl,hb⟩;have D1:Hid (Below W.heap.size W w1):=B4.out.trans (hb.mono B4.out.size);clear hb));go_meet;case rel=>exact ⟨rfl,D1⟩
 case rest =>
 obtain ⟨rfl,B5⟩:=hcut;cases hb4:(!rflts p c);case true => go_wp2;go_ret;exact ⟨by rw [E4.out,hb4];rfl,BW.out _ B5.out⟩
 have E5:Hid (x=(if !rqls p c then 25 else if rbad6 p then 26 else if rbad7 p c then 27 else if rbad8 p then 28 else if bad9 p then 29 else 0)):=by show _=_;rw [E4.out,hb4];rfl
 have G4:Hid ((!rflts p c)=false):=hb4;clear hb4 E4;go_upto_region 11 with fail;go_cut [52] from 3 (fun sx wx=>sx = .bool (!rqls p c)/\Hid (Below W.heap.size W wx));case first => go_wp2_with (first | (refine za0 rfl _ rfl w.heap.size rfl _ (0,0) (GA.out _ B5.out) hsz.out ?_)|(go_at_call 150;refine (HC.out.quals _ (BW.out _ B5.out)).mono ?_;rintro e w1 ⟨rfl,hb⟩;have D1:Hid (Below W.heap.size W w1):=B5.out.trans (hb.mono B5.out.size);clear hb));go_meet;case rel=>exact ⟨rfl,D1⟩
 case rest =>
 obtain ⟨rfl,B6⟩:=hcut;cases hb5:(!rqls p c);case true => go_wp2;go_ret;exact ⟨by rw [E5.out,hb5];rfl,BW.out _ B6.out⟩
 have E6:Hid (x=(if rbad6 p then 26 else if rbad7 p c then 27 else if rbad8 p then 28 else if bad9 p then 29 else 0)):=by show _=_;rw [E5.out,hb5];rfl
 have G5:Hid ((!rqls p c)=false):=hb5;clear hb5 E5;exact absurd HBAD.out (by rw [G0.out,G1.out,G2.out,G3.out,G4.out,G5.out];decide)
end Go.Proofs.YtceigllifjgalaaGreatDoor.Pkt
