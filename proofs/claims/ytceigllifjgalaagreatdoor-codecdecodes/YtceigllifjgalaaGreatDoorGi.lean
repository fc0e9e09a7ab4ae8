import Derived.Test.YtceigllifjgalaaGreatDoorLia
import Derived.Lib.AppendZerosOnto
namespace Go.Proofs.YtceigllifjgalaaGreatDoor.Dr
open Go Go.RowKit
open Pkt (Pk Cn Sl In By Is Ss As pkCells)
set_option linter.unusedSimpArgs false
set_option linter.unusedVariables false
open Go.Proofs.YtceigllifjgalaaGreatDoor renaming rByte → rB, rNum → rN
set_option maxRecDepth 100000
set_option maxHeartbeats 8000000
section
variable {v w:World} {b cp g i mb n pb t:Nat} {cs:Array Value} {u:Value} {a:Option Addr} {z:Nat->Int} {r r0:Rs} {p:Pk} {o:Obj}
def cMid0 (z:Nat->Int) (n:Nat) (p:Pk) (c:Cn) (l m:Int) (r:Rs):Except (Int×Int) (Rs×Pk×Cn) := cEnd p c l m (rN z n r).1 (rText z n (rN z n r).2).1 (cWill z n (mk m 4) (rText z n (rN z n r).2).2 p.wT (p.wP.n,c.wz)).1 (cUser z n (mk m 128) (cWill z n (mk m 4) (rText z n (rN z n r).2).2 p.wT (p.wP.n,c.wz)).2 p.user).1 (cPass z n (mk m 64) (cUser z n (mk m 128) (cWill z n (mk m 4) (rText z n (rN z n r).2).2 p.wT (p.wP.n,c.wz)).2 p.user).2 (p.pass.n,c.pz)).1 (cPass z n (mk m 64) (cUser z n (mk m 128) (cWill z n (mk m 4) (rText z n (rN z n r).2).2 p.wT (p.wP.n,c.wz)).2 p.user).2 (p.pass.n,c.pz)).2
def connP0 (z:Nat->Int) (n:Nat) (r:Rs) (p:Pk) (c:Cn):Except (Int×Int) (Rs×Pk×Cn) := if (rText z n r).2.q=0/\isM (rText z n r).1=false then .error (0,33) else if (rB z n (rB z n (rText z n r).2).2).2.q=0/\badMarks (rB z n (rB z n (rText z n r).2).2).1=true then .error (((rB z n (rText z n r).2).2.at0:Int),34) else cMid0 z n p c (rB z n (rText z n r).2).1 (rB z n (rB z n (rText z n r).2).2).1 (rB z n (rB z n (rText z n r).2).2).2
theorem dcell {fz:Nat×Nat} (h:w.heap[g]?=some (.cells cs t fz)) (k:Nat) (v:Value) (hk:cs[k]?=some v):w.cell? ⟨g,k,none⟩=some v:=by simp [World.cell?,h,hk]
theorem dfroz (h:w.heap[g]?=some (.cells cs t (0,0))) (k:Nat):w.frozen? ⟨g,k,none⟩=false:=by simp [World.frozen?,h]
theorem f_info:(Tryz.prog.info? 112).map (·.size)=some 2:=by kernel_rfl
theorem zcu (hb:v.heap[b]?=some (.cells #[.int .i64 0,.int .i64 0] 112 (0,0))) (x y:Int):((v.setCell ⟨b,0,none⟩ (.int .i64 x)).setCell ⟨b,1,none⟩ (.int .i64 y)).heap[b]?=some (.cells #[.int .i64 x,.int .i64 y] 112 (0,0)):=by have h1:=zag (i:=0) hb (.int .i64 x);exact zag (i:=1) h1 (.int .i64 y)
theorem zca (h:Fr2 w v mb pb) (hb:w.heap.size<=b):Fr2 w (v.setCell ⟨b,i,none⟩ u) mb pb :=
 ⟨h.os, h.tape, h.output, by have : (v.setCell ⟨b, i, none⟩ u).heap.size = v.heap.size := by simp [World.setCell]
                             rw [this];exact h.size,fun k hk h1 h2=>(Below.heap_setCell v _ u k (by show k≠b;omega)).trans (h.block k hk h1 h2)⟩
theorem or_one (x y:Int) (h:x=1):true=(decide ((0:Int)=0) && (decide (x=1) || decide (y=3))):=by simp [h]
theorem or_two (x y:Int) (h:¬ x=1):(y==3)=(decide ((0:Int)=0) && (decide (x=1) || decide (y=3))):=by simp only [h,decide_false,Bool.false_or,decide_true,Bool.true_and];rfl
theorem mk_facts:∀ k:Nat,k<256->(bits .and .u8 (k:Int) 24 / 8=(k:Int) / 8 % 4)/\((bits .and .u8 (k:Int) 24==24)=decide ((k:Int) / 8 % 4=3))/\((bits .and .u8 (k:Int) 1 != 0)=decide ((k:Int) % 2=1))/\(0<=bits .and .u8 (k:Int) 128/\0<=bits .and .u8 (k:Int) 64/\0<=bits .and .u8 (k:Int) 32/\0<=bits .and .u8 (k:Int) 4/\0<=bits .and .u8 (k:Int) 2):=by decide +kernel
theorem mk_pos {m b:Int} (h:0<=bits .and .u8 m b):decide (0<bits .and .u8 m b)=mk m b:=by
 unfold mk;by_cases e:bits .and .u8 m b=0;· simp [e]
 · have:0<bits .and .u8 m b:=by omega
   simp [this,e]
theorem Rrd.fresh (h:Rrd v mb a n cp z r) (h0:Rrd w mb a n cp z r0) (hm:mb<w.heap.size) (hb:w.heap.size<=b):Rrd (v.setCell ⟨b,i,none⟩ u) mb a n cp z r:=by
 refine ⟨?_,?_,h.ba,h.le,h.few⟩;· have:=h.rr;unfold Rr at this ⊢;rw [Below.heap_setCell v _ u mb (by show mb≠b;omega)];exact this
 ·
  obtain ⟨h1,h2,h3 | ⟨ad,e,hc⟩⟩:=h.cm;· exact ⟨h1,h2,.inl h3⟩
  ·
   refine ⟨h1,h2,.inr ⟨ad,e,fun j hj=>?_⟩⟩;have hx:=hc j hj;rcases h.ba with q | ⟨g,q,-⟩;· rw [q] at e;cases e
   ·
    rw [q] at e;cases e;have hg:g<w.heap.size:=by
     obtain ⟨-,-,k3 | ⟨ad',e',kc⟩⟩:=h0.cm;· rw [q] at k3;cases k3.1
     · rw [q] at e'
       cases e';have:=kc j hj;rw [za9] at this;exact zaG this
    rw [za9] at hx ⊢;unfold World.cell? at hx ⊢;rw [Below.heap_setCell v _ u g (by show g≠b;omega)];exact hx
theorem Nx.mono {B C:Nat} {s:Sl} (h:Nx C s) (hl:B<=C):Nx B s:=fun b off e=>Nat.le_trans hl (h b off e)
theorem Ds.home {W1:World} {p0:Pk} {c c0:Cn} (h:Ds W1 v mb pb a n cp z r p c) (h0:Ds w w mb pb a n cp z r0 p0 c0) (b1:Below w.heap.size w W1) (sz1:W1.heap.size=w.heap.size+1) (u0 u1:Value):Ds w ((v.setCell ⟨w.heap.size,0,none⟩ u0).setCell ⟨w.heap.size,1,none⟩ u1) mb pb a n cp z r p c where
 rd:=(h.rd.fresh h0.rd h0.lr (Nat.le_refl _)).fresh h0.rd h0.lr (Nat.le_refl _)
 pk:=(Below.heap_setCell _ _ u1 pb (by have:=h0.lp;show pb≠w.heap.size;omega)).trans ((Below.heap_setCell v _ u0 pb (by have:=h0.lp;show pb≠w.heap.size;omega)).trans h.pk)
 lr:=h0.lr
 lp:=h0.lp
 n1:=h.n1
 n2:=h.n2
 inn:=In.keep (In.keep h.inn h.nx (zbC (by omega))) h.nx (zbC (by omega))
 nx:=⟨Nx.mono h.nx.wP (by omega),Nx.mono h.nx.pass (by omega),Nx.mono h.nx.mP (by omega),Nx.mono h.nx.asks (by omega),Nx.mono h.nx.codes (by omega),Nx.mono h.nx.filters (by omega)⟩
 os:=h.os.trans b1.os
 tape:=h.tape.trans b1.tape
 output:=h.output.trans b1.output
 size:=by
  have:((v.setCell ⟨w.heap.size,0,none⟩ u0).setCell ⟨w.heap.size,1,none⟩ u1).heap.size=v.heap.size:=by simp [World.setCell]
  rw [this];exact Nat.le_trans b1.size h.size
 block:=fun k hk h1 h2=>(Below.heap_setCell _ _ u1 k (by show k≠w.heap.size;omega)).trans ((Below.heap_setCell v _ u0 k (by show k≠w.heap.size;omega)).trans ((h.block k (by omega) h1 h2).trans (b1.block k hk)))
theorem Fr2.drew (h:Fr2 w v mb pb):Fr2 w v.drew mb pb:=⟨h.os,h.tape,h.output,h.size,h.block⟩
theorem pk_chain {p7 p8 p9 p10 p11 p12:Pk} {l k q8:Int} {i xt us:ByteArray} {sw sp:Sl} {qA qB qC qE qF:Bool} (h7:p7 = { p with level:=l,hasUser:=qA,hasPass:=qB,hasWill:=qE,clean:=qF }) (h8:p8 = { p7 with wR:=qC,wQ:=q8 }) (h9:p9 = { p8 with keep:=k }) (h10:p10 = { p9 with client:=i }) (h11:p11 = { p10 with wT:=xt,wP:=sw }) (h12:p12 = { p11 with user:=us }) :
 ({ p12 with pass:=sp }:Pk) = { p with level:=l,hasUser:=qA,hasPass:=qB,wR:=qC,wQ:=q8,hasWill:=qE,clean:=qF,keep:=k,client:=i,wT:=xt,wP:=sw,user:=us,pass:=sp }:=by
 rw [h12];dsimp only;rw [h11];dsimp only;rw [h10];dsimp only;rw [h9];dsimp only;rw [h8];dsimp only;rw [h7]
theorem zdp {u0 u1:Value} (h:v.heap[pb]?=some o) (hne:pb≠b):((v.setCell ⟨b,0,none⟩ u0).setCell ⟨b,1,none⟩ u1).heap[pb]?=some o := (Below.heap_setCell _ _ u1 pb (by show pb≠b;exact hne)).trans ((Below.heap_setCell _ _ u0 pb (by show pb≠b;exact hne)).trans h)
theorem zdY (h:v.heap[b]?=some o):v.drew.heap[b]?=some o:=h
theorem dconnect_any (h:Ds w w mb pb a n cp z r (blank 1) noCn) :
 Calls Tryz.prog 209 #[.pointer (some ⟨mb,0,none⟩),.pointer (some ⟨pb,0,none⟩)] w fun e w'=>DOut w w' e mb pb a n cp z (connP0 z n r (blank 1) noCn):=by
 obtain ⟨R,hR⟩:∃ R,R=connP0 z n r (blank 1) noCn:=⟨_,rfl⟩;rw [<-hR];obtain ⟨p,hp⟩:∃ p,p=blank 1:=⟨_,rfl⟩;obtain ⟨c,hc⟩:∃ c,c=noCn:=⟨_,rfl⟩;rw [<-hp,<-hc] at h hR;obtain ⟨W1,hW1⟩:∃ W1,W1=w.alloc (.cells #[.int .i64 0,.int .i64 0] 112):=⟨_,rfl⟩;have b1:Below w.heap.size w W1:=by rw [hW1];exact (Below.refl _ _).alloc (Nat.le_refl _) _
 have sz1:W1.heap.size=w.heap.size+1:=by rw [hW1];exact Array.size_push _
 have bx1:W1.heap[w.heap.size]?=some (.cells #[.int .i64 0,.int .i64 0] 112 (0,0)):=by rw [hW1];exact heap_alloc_new w _
 have nilp:NxAll W1.heap.size p:=by rw [hp];exact ⟨fun b off e=>(by simp [blank] at e),fun b off e=>(by simp [blank] at e),fun b off e=>(by simp [blank] at e),fun b off e=>(by simp [blank] at e),fun b off e=>(by simp [blank] at e),fun b off e=>(by simp [blank] at e)⟩
 have X0:=hidi (show Ds W1 W1 mb pb a n cp z r p c from ⟨h.rd.below b1,(h.below b1).pk,by have:=h.lr;omega,by have:=h.lp;omega,h.n1,h.n2,(h.below b1).inn,nilp,rfl,rfl,rfl,Nat.le_refl _,fun k _ _ _=>rfl⟩);-- the result's box,in every world of the state
 have BX:=hidi (show ∀ (v:World) (r:Rs) (p:Pk) (c:Cn),Ds W1 v mb pb a n cp z r p c->v.heap[w.heap.size]?=some (.cells #[.int .i64 0,.int .i64 0] 112 (0,0)) from fun v r p c hv=>hv.kept bx1 (by have:=h.lr;omega) (by have:=h.lp;omega));have LPB:=hidi h.lp;-- how it ends
 have EN:=hidi (show ∀ (v:World),Fr2 W1 v mb pb->Fr2 w v mb pb from fun v hv=>⟨hv.os.trans b1.os,hv.tape.trans b1.tape,hv.output.trans b1.output,Nat.le_trans b1.size hv.size,fun k hk h1 h2=>(hv.block k (by omega) h1 h2).trans (b1.block k hk)⟩);have HM:=hidi (show ∀ (v:World) (r:Rs) (p:Pk) (c:Cn),Ds W1 v mb pb a n cp z r p c->Ds w ((v.setCell ⟨w.heap.size,0,none⟩ (.int .i64 0)).setCell ⟨w.heap.size,1,none⟩ (.int .i64 0)) mb pb a n cp z r p c from fun v r p c hv=>hv.home h b1 sz1 _ _);-- the pure values
 obtain ⟨t,ht⟩:∃ t,t=rText z n r:=⟨_,rfl⟩;obtain ⟨l,hl⟩:∃ y,y=rB z n t.2:=⟨_,rfl⟩;obtain ⟨m,hm⟩:∃ y,y=rB z n l.2:=⟨_,rfl⟩;obtain ⟨k,hk⟩:∃ y,y=rN z n m.2:=⟨_,rfl⟩;obtain ⟨i,hi⟩:∃ y,y=rText z n k.2:=⟨_,rfl⟩;obtain ⟨x,hx⟩:∃ y,y=cWill z n (mk m.1 4) i.2 p.wT (p.wP.n,c.wz):=⟨_,rfl⟩;obtain ⟨u,hu⟩:∃ y,y=cUser z n (mk m.1 128) x.2 p.user:=⟨_,rfl⟩;obtain ⟨s,hs⟩:∃ y,y=cPass z n (mk m.1 64) u.2 (p.pass.n,c.pz):=⟨_,rfl⟩;have HR:=hidi (show R=if t.2.q=0/\isM t.1=false then .error (0,33) else if m.2.q=0/\badMarks m.1=true then .error ((l.2.at0:Int),34) else cEnd p c l.1 m.1 k.1 i.1 x.1 u.1 s.1 s.2 from by rw [hR,connP0,<-ht,<-hl,<-hm,cMid0,<-hk,<-hi,<-hx,<-hu,<-hs]);have H1:=hidi ht;have H2:=hidi hl;have H3:=hidi hm;have H4:=hidi hk;have H5:=hidi hi;have H6:=hidi hx;have H7:=hidi hu;have H8:=hidi hs;have HW1:=hidi hW1;have HNP:=hidi (show p.wP=⟨none,0,0⟩/\p.pass=⟨none,0,0⟩ from by rw [hp];exact ⟨rfl,rfl⟩);clear ht hl hm hk hi hx hu hs hR hW1 h b1 sz1 bx1 nilp hc hp;obtain ⟨t,r1⟩:=t;obtain ⟨l,r2⟩:=l;obtain ⟨m,r3⟩:=m;obtain ⟨k,r4⟩:=k;obtain ⟨i,r5⟩:=i;obtain ⟨⟨xt,xn,xz⟩,r6⟩:=x;obtain ⟨us,r7⟩:=u;obtain ⟨⟨sn,sz⟩,r8⟩:=s;simp only at H1 H2 H3 H4 H5 H6 H7 H8 HR;have D1:=hidi (zcR X0.out);rw [<-H1.out] at D1;go_enter Tryz.func209,Tryz.ntmps209;go_upto_region 1 with fail;rw [<-HW1.out];go_wp2_with fail;go_must (go_at_call 211);refine D1.out.mono ?_;rintro e v1 ⟨rfl,hX⟩;have X1:=hidi hX;clear hX D1;by_cases hA:r1.q=0/\isM t=false
 · have c2:=X1.out.err.1
   rw [hA.1] at c2;have tq:(t.toList==[77,81,84,84])=false:=hA.2;have hb:=BX.out _ _ _ _ X1.out;have q0:=dcell hb 0 (.int .i64 0) rfl;have q1:=dcell hb 1 (.int .i64 0) rfl;have f0:=dfroz hb 0;have f1:=dfroz hb 1;clear hb;have HE:=hidi (show R = .error (0,33) from by rw [HR.out,if_pos hA]);clear hA;have HB:=hidi (And.intro (zcu (BX.out _ _ _ _ X1.out) 0 33) (zca (i:=1) (u:=.int .i64 33) (zca (i:=0) (u:=.int .i64 0) (EN.out _ X1.out.fr) (Nat.le_refl _)) (Nat.le_refl _)));go_wp2_with fail;refine bodyPost_ret (results_cell_row rfl _ _ w.heap.size 112 #[.int .i64 0,.int .i64 33] (0,0) _ rfl HB.out.1 Tryz.underlying112 rfl f_info) rfl ?_;rw [HE.out];exact ⟨rfl,HB.out.2,p,zdp X1.out.pk (by have:=LPB.out;omega)⟩
 · go_upto_region 2 with fail
   go_cut [18] from 10 to 18 (fun s18 wx=>s18 = .bool false/\Hid (Ds W1 wx mb pb a n cp z r1 p c));case first =>
    have c2:=X1.out.err.1;by_cases hq:r1.q=0
    · rw [hq] at c2
      have hM:isM t=true:=by cases e:isM t with | true=>rfl | false=>exact absurd ⟨hq,e⟩ hA
      have tq:(t.toList==[77,81,84,84])=true:=hM;clear hq hM hA;go_wp2_with fail;go_meet;case rel=>exact ⟨rfl,X1.out⟩
    · have hq':(r1.q==0)=false:=by simpa using hq
      clear hq hA;go_wp2_with fail;go_meet;case rel=>exact ⟨rfl,X1.out⟩
   case rest =>
    obtain ⟨rfl,X2⟩:=hcut;have hA':=hidi hA;clear hA X1;have D2:=hidi (zcM X2.out);rw [<-H2.out] at D2;go_wp2_with fail;go_must (go_at_call 210);refine D2.out.mono ?_;rintro e v3 ⟨rfl,hX,hl0,hl1⟩;have X3:=hidi hX;have e1:=hX.cell 1 (.int .i64 p.level) rfl;have z1:=hX.frozen 1;have wl:IntKind.i64.wrap l=l:=by rw [IntKind.wrap_i64];omega
    obtain ⟨v4,hv4⟩:∃ v4,v4=v3.setCell ⟨pb,1,none⟩ (.int .i64 l):=⟨_,rfl⟩;have X4:=hidi (show Ds W1 v4 mb pb a n cp z r2 { p with level:=l } c from by rw [hv4];exact hX.setS 1 _ _ rfl rfl rfl rfl rfl rfl rfl);clear hX D2 X2;go_upto_region 5 with fail;rw [<-hv4];clear hv4 e1 z1 wl hl0 hl1 X3;have D3:=hidi (ds_at X4.out);have D4:=hidi (zcM X4.out);rw [<-H3.out] at D4;go_wp2_with (go_at_call 250;refine D3.out.mono ?_;rintro e w' ⟨rfl,he⟩;obtain rfl:=he.symm;clear he);go_must (go_at_call 210);refine D4.out.mono ?_;rintro e v5 ⟨rfl,hX,hm0,hm1⟩;have X5:=hidi hX;clear hX D3 D4 X4;obtain ⟨mn,rfl⟩:∃ mn:Nat,m=(mn:Int):=⟨m.toNat,by omega⟩;have hmn:mn<256:=by omega
    obtain ⟨mf1,mf2,mf3,mf4,mf5,mf6,mf7,mf8⟩:=mk_facts mn hmn;have hbm:badMarks (mn:Int)=(decide ((mn:Int) % 2=1) || decide ((mn:Int) / 8 % 4=3)):=by unfold badMarks mk;rw [mf2,mf3]
    go_upto_region 7 with fail;go_cut [45] from 30 to 45 (fun s45 wx=>s45 = .bool (decide (r3.q=0) && badMarks (mn:Int))/\Hid (Ds W1 wx mb pb a n cp z r3 { p with level:=l } c));case first =>
     have c2:=X5.out.err.1;by_cases hq:r3.q=0
     · rw [hq] at c2
       have HBM:=hidi hbm;have HQ:=hidi hq;clear hq mf1 mf2 mf3 mf4 mf5 mf6 mf7 mf8 hbm hm0 hm1 hA';by_cases hm2:(mn:Int) % 2=1
       · have hm2':((mn:Int) % 2==1)=true:=by simpa using hm2
         have HM2:=hidi hm2;clear hm2;go_wp2_with fail;go_meet;case rel=>exact ⟨by rw [HBM.out,HQ.out];exact congrArg Value.bool (or_one _ _ HM2.out),X5.out⟩
       · have hm2':((mn:Int) % 2==1)=false:=by simpa using hm2
         have HM2:=hidi hm2;clear hm2;go_wp2_with fail;go_meet;case rel=>exact ⟨by rw [HBM.out,HQ.out];exact congrArg Value.bool (or_two _ _ HM2.out),X5.out⟩
     · have hq':(r3.q==0)=false:=by simpa using hq
       have HDC:=hidi (show decide (r3.q=0)=false from by simp [hq]);clear hq mf1 mf2 mf3 mf4 mf5 mf6 mf7 mf8 hbm hm0 hm1 hA';go_wp2_with fail;go_meet;case rel=>exact ⟨by rw [HDC.out];rfl,X5.out⟩
    case rest =>
     obtain ⟨hs45,X6⟩:=hcut;clear X5;obtain ⟨bb,hbb⟩:∃ bb:Bool,bb=(decide (r3.q=0) && badMarks (mn:Int)):=⟨_,rfl⟩;rw [<-hbb] at hs45;have HBB:=hidi hbb;clear hbb;cases bb with
     | true =>
      have hB:r3.q=0/\badMarks (mn:Int)=true:=by have:=HBB.out.symm;rw [Bool.and_eq_true,decide_eq_true_eq] at this;exact this
      have HE:=hidi (show R = .error ((r2.at0:Int),34) from by rw [HR.out,if_neg hA'.out,if_pos hB]);have hb:=BX.out _ _ _ _ X6.out;have q0:=dcell hb 0 (.int .i64 0) rfl;have q1:=dcell hb 1 (.int .i64 0) rfl;have f0:=dfroz hb 0;have f1:=dfroz hb 1;have HB:=hidi (And.intro (zcu hb (r2.at0:Int) 34) (zca (i:=1) (u:=.int .i64 34) (zca (i:=0) (u:=.int .i64 (r2.at0:Int)) (EN.out _ X6.out.fr) (Nat.le_refl _)) (Nat.le_refl _)));clear hb hB mf1 mf2 mf3 mf4 mf5 mf6 mf7 mf8 hbm hm0 hm1 hA' hmn;subst hs45;go_wp2_with fail;refine bodyPost_ret (results_cell_row rfl _ _ w.heap.size 112 #[.int .i64 (r2.at0:Int),.int .i64 34] (0,0) _ rfl HB.out.1 Tryz.underlying112 rfl f_info) rfl ?_;rw [HE.out];exact ⟨rfl,HB.out.2,{ p with level:=l },zdp X6.out.pk (by have:=LPB.out;omega)⟩
     | false =>
      have hB:¬ (r3.q=0/\badMarks (mn:Int)=true):=by intro hh;have:=HBB.out;rw [hh.1,hh.2] at this;exact absurd this (by decide)
      have HE:=hidi (show R=cEnd p c l (mn:Int) k i (xt,xn,xz) us (sn,sz) r8 from by rw [HR.out,if_neg hA'.out,if_neg hB]);clear hB hA' HR hbm mf2 mf3 hm0 hm1;subst hs45;have k128:=mk_pos (m:=(mn:Int)) (b:=128) mf4;have k64:=mk_pos (m:=(mn:Int)) (b:=64) mf5;have k32:=mk_pos (m:=(mn:Int)) (b:=32) mf6;have k4:=mk_pos (m:=(mn:Int)) (b:=4) mf7;have k2:=mk_pos (m:=(mn:Int)) (b:=2) mf8;have HQ8:=hidi (And.intro mf1 hmn);clear mf1 mf4 mf5 mf6 mf7 mf8 hmn;obtain ⟨qA,hqA⟩:∃ y,mk (mn:Int) 128=y:=⟨_,rfl⟩;obtain ⟨qB,hqB⟩:∃ y,mk (mn:Int) 64=y:=⟨_,rfl⟩;obtain ⟨qC,hqC⟩:∃ y,mk (mn:Int) 32=y:=⟨_,rfl⟩;obtain ⟨qE,hqE⟩:∃ y,mk (mn:Int) 4=y:=⟨_,rfl⟩;obtain ⟨qF,hqF⟩:∃ y,mk (mn:Int) 2=y:=⟨_,rfl⟩;rw [hqA] at k128 H7;rw [hqB] at k64 H8;rw [hqC] at k32;rw [hqE] at k4 H6;rw [hqF] at k2;have HMK:=hidi (And.intro hqA (And.intro hqB (And.intro hqC (And.intro hqE hqF))));clear hqA hqB hqC hqE hqF;have A1:=X6.out.setS 10 (.bool qA) { p with level:=l,hasUser:=qA } rfl rfl rfl rfl rfl rfl rfl;have A2:=A1.setS 12 (.bool qB) { p with level:=l,hasUser:=qA,hasPass:=qB } rfl rfl rfl rfl rfl rfl rfl;have A3:=A2.setS 5 (.bool qE) { p with level:=l,hasUser:=qA,hasPass:=qB,hasWill:=qE } rfl rfl rfl rfl rfl rfl rfl;have A4:=A3.setS 2 (.bool qF) { p with level:=l,hasUser:=qA,hasPass:=qB,hasWill:=qE,clean:=qF } rfl rfl rfl rfl rfl rfl rfl;have e10:=X6.out.cell 10 (.bool p.hasUser) rfl;have g10:=X6.out.frozen 10;have e12:=A1.cell 12 (.bool p.hasPass) rfl;have g12:=A1.frozen 12;have e5:=A2.cell 5 (.bool p.hasWill) rfl;have g5:=A2.frozen 5;have e2:=A3.cell 2 (.bool p.clean) rfl;have g2:=A3.frozen 2;obtain ⟨v7,hv7⟩:∃ v7,v7=(((wc.setCell ⟨pb,10,none⟩ (.bool qA)).setCell ⟨pb,12,none⟩ (.bool qB)).setCell ⟨pb,5,none⟩ (.bool qE)).setCell ⟨pb,2,none⟩ (.bool qF):=⟨_,rfl⟩;have X7:=hidi (show Ds W1 v7 mb pb a n cp z r3 { p with level:=l,hasUser:=qA,hasPass:=qB,hasWill:=qE,clean:=qF } c from by rw [hv7];exact A4);clear A1 A2 A3 A4;go_upto_region 10 with fail;rw [<-hv7];clear hv7 e10 g10 e12 g12 e5 g5 e2 g2 X6;obtain ⟨p7,hp7⟩:∃ y:Pk,y = { p with level:=l,hasUser:=qA,hasPass:=qB,hasWill:=qE,clean:=qF }:=⟨_,rfl⟩;have HP7:=hidi hp7;have X7':=hidi (show Ds W1 v7 mb pb a n cp z r3 p7 c from by rw [hp7];exact X7.out);clear hp7 X7 k128 k64 k4 k2;have B1:=X7'.out.setS 9 (.bool qC) { p7 with wR:=qC } rfl rfl rfl rfl rfl rfl rfl;have B2:=B1.setS 8 (.int .i64 ((mn:Int) / 8 % 4)) { p7 with wR:=qC,wQ:=(mn:Int) / 8 % 4 } rfl rfl rfl rfl rfl rfl rfl;have e9:=X7'.out.cell 9 (.bool p7.wR) rfl;have g9:=X7'.out.frozen 9;have e8:=B1.cell 8 (.int .i64 p7.wQ) rfl;have g8:=B1.frozen 8;have wq:IntKind.i64.wrap ((mn:Int) / 8 % 4)=(mn:Int) / 8 % 4:=by rw [IntKind.wrap_i64];omega
      obtain ⟨v8,hv8⟩:∃ v8,v8=(v7.setCell ⟨pb,9,none⟩ (.bool qC)).setCell ⟨pb,8,none⟩ (.int .i64 ((mn:Int) / 8 % 4)):=⟨_,rfl⟩;obtain ⟨p8,hp8⟩:∃ y:Pk,y = { p7 with wR:=qC,wQ:=(mn:Int) / 8 % 4 }:=⟨_,rfl⟩;have HP8:=hidi hp8;have X8:=hidi (show Ds W1 v8 mb pb a n cp z r3 p8 c from by rw [hv8,hp8];exact B2);clear B1 B2 hp8 X7';go_upto_region 11 with fail;rw [<-hv8];clear hv8 e9 g9 e8 g8 wq k32;have D5:=hidi (ds_num X8.out);rw [<-H4.out] at D5;go_wp2_with fail;go_must (go_at_call 212);refine D5.out.mono ?_;rintro e v9 ⟨rfl,hX⟩;have e3:=hX.cell 3 (.int .i64 p8.keep) rfl;have g3:=hX.frozen 3;obtain ⟨v10,hv10⟩:∃ v10,v10=v9.setCell ⟨pb,3,none⟩ (.int .i64 k):=⟨_,rfl⟩;obtain ⟨p9,hp9⟩:∃ y:Pk,y = { p8 with keep:=k }:=⟨_,rfl⟩;have HP9:=hidi hp9;have X9:=hidi (show Ds W1 v10 mb pb a n cp z r4 p9 c from by rw [hv10,hp9];exact hX.setS 3 _ _ rfl rfl rfl rfl rfl rfl rfl);clear hX D5 X8 hp9;go_upto_region 12 with fail;rw [<-hv10];clear hv10 e3 g3;have D6:=hidi (zcR X9.out);rw [<-H5.out] at D6;go_wp2_with fail;go_must (go_at_call 211);refine D6.out.mono ?_;rintro e v11 ⟨rfl,hX⟩;have e4:=hX.cell 4 (.string p9.client) rfl;have g4:=hX.frozen 4;obtain ⟨v12,hv12⟩:∃ v12,v12=v11.setCell ⟨pb,4,none⟩ (.string i):=⟨_,rfl⟩;obtain ⟨p10,hp10⟩:∃ y:Pk,y = { p9 with client:=i }:=⟨_,rfl⟩;have HP10:=hidi hp10;have X10:=hidi (show Ds W1 v12 mb pb a n cp z r5 p10 c from by rw [hv12,hp10];exact hX.setS 4 _ _ rfl rfl rfl rfl rfl rfl rfl);clear hX D6 X9 hp10;go_upto_region 13 with fail;rw [<-hv12];clear hv12 e4 g4;have HW:=hidi (show p10.hasWill=qE/\p10.hasUser=qA/\p10.hasPass=qB/\p10.wT=p.wT/\p10.wP=p.wP/\p10.user=p.user/\p10.pass=p.pass from by rw [HP10.out,HP9.out,HP8.out,HP7.out];exact ⟨rfl,rfl,rfl,rfl,rfl,rfl,rfl⟩);have e5:=X10.out.cell 5 (.bool p10.hasWill) rfl;rw [HW.out.1] at e5;go_upto_if 100 with fail;clear e5;go_cut [] from 48 to 112 (fun wx=>∃ s:Sl,s.n=xn/\Hid (Ds W1 wx mb pb a n cp z r6 { p10 with wT:=xt,wP:=s } { c with wz:=xz }));case first => cases qE with | false => have HZ:=hidi (show xt=p.wT/\xn=p.wP.n/\xz=c.wz/\r6=r5 from by have:=H6.out;simp only [cWill,Bool.false_eq_true,if_false,Prod.mk.injEq] at this;exact ⟨this.1.1,this.1.2.1,this.1.2.2,this.2⟩);go_wp2_with fail;go_meet;case rel => refine ⟨p10.wP,by rw [HW.out.2.2.2.2.1,HZ.out.2.1],?_⟩;have q:=X10.out;rw [HZ.out.2.2.2,HZ.out.1,HZ.out.2.2.1,<-HW.out.2.2.2.1];exact q | true => have HZ:=hidi (show xt=(rText z n r5).1/\xn=(rData z n (rText z n r5).2).1.1/\xz=(rData z n (rText z n r5).2).1.2/\r6=(rData z n (rText z n r5).2).2 from by have:=H6.out;simp only [cWill,if_true,Prod.mk.injEq] at this;exact ⟨this.1.1,congrArg Prod.fst this.1.2,congrArg Prod.snd this.1.2,this.2⟩);have D7:=hidi (zcR X10.out);rw [<-HZ.out.1] at D7;go_wp2_with fail;go_must (go_at_call 211);refine D7.out.mono ?_;rintro e v13 ⟨rfl,hX⟩;have e6:=hX.cell 6 (.string p10.wT) rfl;have g6:=hX.frozen 6;obtain ⟨v14,hv14⟩:∃ v14,v14=v13.setCell ⟨pb,6,none⟩ (.string xt):=⟨_,rfl⟩;have X11:=hidi (show Ds W1 v14 mb pb a n cp z (rText z n r5).2 { p10 with wT:=xt } c from by rw [hv14];exact hX.setS 6 _ _ rfl rfl rfl rfl rfl rfl rfl);clear hX D7;go_upto_region 15 with fail;rw [<-hv14];clear hv14 e6 g6;have D8:=hidi (zeU X11.out);go_wp2_with fail;go_must (go_at_call 251);refine D8.out.mono ?_;rintro e v15 ⟨s,rfl,hs1,hs2,hs3,hX⟩;have e7:=hX.cell 7 (.slice p10.wP.a p10.wP.n p10.wP.c) rfl;have g7:=hX.frozen 7;have X12:=hidi (hX.setW hs1 hs3);have HS:=hidi hs2;clear hX D8 hs1 hs2 hs3;go_wp2_with fail;go_meet;case rel => refine ⟨s,by rw [HS.out,HZ.out.2.1],?_⟩;rw [HZ.out.2.2.2,HZ.out.2.2.1];exact X12.out
      case rest =>
       obtain ⟨sw,hsw,X11⟩:=hcut;have HSW:=hidi hsw;obtain ⟨p11,hp11⟩:∃ y:Pk,y = { p10 with wT:=xt,wP:=sw }:=⟨_,rfl⟩;obtain ⟨c1,hc1⟩:∃ y:Cn,y = { c with wz:=xz }:=⟨_,rfl⟩;have HP11:=hidi (And.intro hp11 hc1);have X12:=hidi (show Ds W1 wc mb pb a n cp z r6 p11 c1 from by rw [hp11,hc1];exact X11.out);have HV:=hidi (show p11.hasUser=qA/\p11.hasPass=qB/\p11.user=p.user/\p11.pass=p.pass/\c1.pz=c.pz from by rw [hp11,hc1];exact ⟨HW.out.2.1,HW.out.2.2.1,HW.out.2.2.2.2.2.1,HW.out.2.2.2.2.2.2,rfl⟩);clear hp11 hc1 X11 X10 hsw;have e10:=X12.out.cell 10 (.bool p11.hasUser) rfl;rw [HV.out.1] at e10;go_upto_if 116 with fail;clear e10;go_cut [] from 113 to 121 (fun wx=>Hid (Ds W1 wx mb pb a n cp z r7 { p11 with user:=us } c1));case first => cases qA with | false => have HZ:=hidi (show us=p.user/\r7=r6 from by have:=H7.out;simp only [cUser,Bool.false_eq_true,if_false,Prod.mk.injEq] at this;exact this);go_wp2_with fail;go_meet;case rel => have q:=X12.out;rw [HZ.out.2,HZ.out.1,<-HV.out.2.2.1];exact q | true => have HZ:=hidi (show (us,r7)=rText z n r6 from by have:=H7.out;simp only [cUser,if_true] at this;exact this);have D9:=hidi (zcR X12.out);rw [<-HZ.out] at D9;go_wp2_with fail;go_must (go_at_call 211);refine D9.out.mono ?_;rintro e v13 ⟨rfl,hX⟩;have e11:=hX.cell 11 (.string p11.user) rfl;have g11:=hX.frozen 11;have X13:=hidi (hX.setS 11 (.string us) { p11 with user:=us } rfl rfl rfl rfl rfl rfl rfl);clear hX D9;go_wp2_with fail;go_meet;case rel=>exact X13.out
       case rest =>
        obtain ⟨p12,hp12⟩:∃ y:Pk,y = { p11 with user:=us }:=⟨_,rfl⟩;have HP12:=hidi hp12;have X13:=hidi (show Ds W1 wc mb pb a n cp z r7 p12 c1 from by rw [hp12];exact hcut.out);have HU:=hidi (show p12.hasPass=qB/\p12.pass=p.pass from by rw [hp12];exact ⟨HV.out.2.1,HV.out.2.2.2.1⟩);clear hp12 hcut X12;have e12:=X13.out.cell 12 (.bool p12.hasPass) rfl;rw [HU.out.1] at e12;go_upto_if 125 with fail;clear e12;go_cut [] from 122 to 130 (fun wx=>∃ s:Sl,s.n=sn/\Hid (Ds W1 wx mb pb a n cp z r8 { p12 with pass:=s } { c1 with pz:=sz }));case first => cases qB with | false => have HZ:=hidi (show sn=p.pass.n/\sz=c.pz/\r8=r7 from by have:=H8.out;simp only [cPass,Bool.false_eq_true,if_false,Prod.mk.injEq] at this;exact ⟨this.1.1,this.1.2,this.2⟩);go_wp2_with fail;go_meet;case rel => refine ⟨p12.pass,by rw [HU.out.2,HZ.out.1],?_⟩;have q:=X13.out;rw [HZ.out.2.2,HZ.out.2.1,<-HV.out.2.2.2.2];exact q | true => have HZ:=hidi (show ((sn,sz),r8)=rData z n r7 from by have:=H8.out;simp only [cPass,if_true] at this;exact this);have D9:=hidi (zeU X13.out);rw [<-HZ.out] at D9;go_wp2_with fail;go_must (go_at_call 251);refine D9.out.mono ?_;rintro e v15 ⟨s,rfl,hs1,hs2,hs3,hX⟩;have e13:=hX.cell 13 (.slice p12.pass.a p12.pass.n p12.pass.c) rfl;have g13:=hX.frozen 13;have X14:=hidi (hX.setP hs1 hs3);have HS:=hidi hs2;clear hX D9 hs1 hs2 hs3;go_wp2_with fail;go_meet;case rel=>exact ⟨s,HS.out,X14.out⟩
        case rest =>
         obtain ⟨sp,hsp,X14⟩:=hcut;have HSP:=hidi hsp;clear hsp X13;have c2:=X14.out.err.1;have hb:=BX.out _ _ _ _ X14.out;have q0:=dcell hb 0 (.int .i64 0) rfl;have q1:=dcell hb 1 (.int .i64 0) rfl;have f0:=dfroz hb 0;have f1:=dfroz hb 1;by_cases hq:r8.q=0
         · rw [hq] at c2
           have HQ:=hidi hq;have HB:=hidi (And.intro (zcu hb 0 0) (HM.out _ _ _ _ X14.out));have HO:=hidi (show DOut w ((wc.setCell ⟨w.heap.size,0,none⟩ (.int .i64 0)).setCell ⟨w.heap.size,1,none⟩ (.int .i64 0)) (.returned (.agg #[.int .i64 0,.int .i64 0])) mb pb a n cp z R from by
            rw [HE.out,cEnd,if_neg (by rw [hq];exact fun q=>q rfl)];refine ⟨rfl,{ p12 with pass:=sp },?_,sw,sp,p.mP,p.asks,p.codes,p.filters,?_,HSW.out,HSP.out,rfl,rfl,rfl,rfl⟩;rotate_left
            · refine (pk_chain HP7.out HP8.out HP9.out HP10.out HP11.out.1 HP12.out).trans ?_
              rw [HQ8.out.1,HMK.out.1,HMK.out.2.1,HMK.out.2.2.1,HMK.out.2.2.2.1,HMK.out.2.2.2.2]
            · have:=HB.out.2
              rw [HP11.out.2] at this;exact this)
           clear hb hq;go_wp2_with fail;exact bodyPost_ret (results_cell_row rfl _ _ w.heap.size 112 #[.int .i64 0,.int .i64 0] (0,0) _ rfl HB.out.1 Tryz.underlying112 rfl f_info) rfl HO.out
         · have hq':(r8.q==0)=false:=by simpa using hq
           have c3:=X14.out.err.2;have HQ:=hidi (show R = .error (r8.p,r8.q) from by rw [HE.out,cEnd,if_pos hq]);have HB:=hidi (And.intro (zcu hb r8.p r8.q) (zca (i:=1) (u:=.int .i64 r8.q) (zca (i:=0) (u:=.int .i64 r8.p) (EN.out _ X14.out.fr) (Nat.le_refl _)) (Nat.le_refl _)));clear hb hq;go_upto_region 21 with fail;go_region;go_wp2_with fail;refine bodyPost_ret (results_cell_row rfl _ _ w.heap.size 112 #[.int .i64 r8.p,.int .i64 r8.q] (0,0) _ rfl (zdY HB.out.1) Tryz.underlying112 rfl f_info) rfl ?_;rw [HQ.out];exact ⟨rfl,Fr2.drew HB.out.2,{ p12 with pass:=sp },zdY (zdp X14.out.pk (by have:=LPB.out;omega))⟩
end
structure Do (w0 w:World) (mb pb:Nat) (a:Option Addr) (n cp:Nat) (z:Nat->Int) (r:Rs) (p:Pk):Prop where
 rd:Rrd w mb a n cp z r
 pk:w.heap[pb]?=some (.cells (pkCells p) 29 (0,0))
 lr:mb<w0.heap.size
 lp:pb<w0.heap.size
 n1:pb≠mb
 n2:∀ g,a=some ⟨g,0,none⟩->pb≠g
 os:w.os=w0.os
 tape:w.tape=w0.tape
 output:w.output=w0.output
 size:w0.heap.size<=w.heap.size
 block:∀ k,k<w0.heap.size->k≠mb->k≠pb->w.heap[k]?=w0.heap[k]?
section
variable {w0 w w':World} {mb pb:Nat} {a:Option Addr} {n cp:Nat} {z:Nat->Int} {r r':Rs} {p:Pk} {c:Cn}
theorem Ds.co (h:Ds w0 w mb pb a n cp z r p c):Do w0 w mb pb a n cp z r p:=⟨h.rd,h.pk,h.lr,h.lp,h.n1,h.n2,h.os,h.tape,h.output,h.size,h.block⟩
theorem Do.ds (h:Do w0 w mb pb a n cp z r p) (hi:In w p c) (hn:NxAll w0.heap.size p):Ds w0 w mb pb a n cp z r p c:=⟨h.rd,h.pk,h.lr,h.lp,h.n1,h.n2,hi,hn,h.os,h.tape,h.output,h.size,h.block⟩
theorem Do.read (h:Do w0 w mb pb a n cp z r p) (hr:Rrd w' mb a n cp z r') (hg:w.grownBy w' (some mb)):Do w0 w' mb pb a n cp z r' p where
 rd:=hr
 pk:=(hg.block pb (lt_of_block h.pk) (by simpa using h.n1)).trans h.pk
 lr:=h.lr
 lp:=h.lp
 n1:=h.n1
 n2:=h.n2
 os:=hg.os.trans h.os
 tape:=hg.tape.trans h.tape
 output:=hg.output.trans h.output
 size:=Nat.le_trans h.size hg.size
 block:=fun k hk h1 h2=>(hg.block k (Nat.lt_of_lt_of_le hk h.size) (by simpa using h1)).trans (h.block k hk h1 h2)
theorem Do.set (h:Do w0 w mb pb a n cp z r p) (i:Nat) (v:Value) (p':Pk) (hp:(pkCells p).setIfInBounds i v=pkCells p'):Do w0 (w.setCell ⟨pb,i,none⟩ v) mb pb a n cp z r p' where
 rd:=h.rd.other h.n1 h.n2
 pk:=by rw [<-hp];exact zag h.pk v
 lr:=h.lr
 lp:=h.lp
 n1:=h.n1
 n2:=h.n2
 os:=h.os
 tape:=h.tape
 output:=h.output
 size:=by
  have:(w.setCell ⟨pb,i,none⟩ v).heap.size=w.heap.size:=by simp [World.setCell]
  rw [this];exact h.size
 block:=fun k hk h1 h2=>(Below.heap_setCell w _ v k (by show k≠pb;exact h2)).trans (h.block k hk h1 h2)
theorem Do.grow {B:Nat} {b:Option Nat} (h:Do w0 w mb pb a n cp z r p) (hg:w.grownBy w' b) (hb:∀ x,b=some x->B<=x) (hB:w0.heap.size<=B) (hgB:0<n->∀ g,a=some ⟨g,0,none⟩->g<B):Do w0 w' mb pb a n cp z r p where
 rd:=by
  have lr:=h.lr;refine ⟨?_,?_,h.rd.ba,h.rd.le,h.rd.few⟩;· have:=h.rd.rr;unfold Rr at this ⊢;rw [hg.block mb (lt_of_block this) (fun e=>by have:=hb _ e.symm;omega)];exact this
  ·
   obtain ⟨h1,h2,h3 | ⟨ad,e,hc⟩⟩:=h.rd.cm;· exact ⟨h1,h2,.inl h3⟩
   ·
    refine ⟨h1,h2,.inr ⟨ad,e,fun i hi=>?_⟩⟩;have hx:=hc i hi;rcases h.rd.ba with q | ⟨g,q,-⟩;· rw [q] at e;cases e
    · rw [q] at e
      cases e;rw [za9] at hx ⊢;exact hg.cell hx (fun e=>by have:=hb _ e.symm;have:=hgB (by omega) g q;simp at *;omega)
 pk:=(hg.block pb (lt_of_block h.pk) (fun e=>by have:=hb _ e.symm;have:=h.lp;omega)).trans h.pk
 lr:=h.lr
 lp:=h.lp
 n1:=h.n1
 n2:=h.n2
 os:=hg.os.trans h.os
 tape:=hg.tape.trans h.tape
 output:=hg.output.trans h.output
 size:=Nat.le_trans h.size hg.size
 block:=fun k hk h1 h2=>(hg.block k (Nat.lt_of_lt_of_le hk h.size) (fun e=>by have:=hb _ e.symm;omega)).trans (h.block k hk h1 h2)
theorem Do.cell (h:Do w0 w mb pb a n cp z r p) (k:Nat) (v:Value) (hk:(pkCells p)[k]?=some v):w.cell? ⟨pb,k,none⟩=some v:=by simp [World.cell?,h.pk,hk]
theorem Do.frozen (h:Do w0 w mb pb a n cp z r p) (k:Nat):w.frozen? ⟨pb,k,none⟩=false:=by simp [World.frozen?,h.pk]
theorem Do.err (h:Do w0 w mb pb a n cp z r p):w.cell? ⟨mb,2,none⟩=some (.int .i64 r.q):=h.rd.rr.facts.2.2.1
theorem Rrd.blocks (h:Rrd w mb a n cp z r):0<n->∀ g,a=some ⟨g,0,none⟩->g<w.heap.size:=fun hn g e=>by
 obtain ⟨-,-,k3 | ⟨ad',e',kc⟩⟩:=h.cm;· rw [e] at k3;cases k3.1
 · rw [e] at e';cases e';have:=kc 0 hn;rw [za9] at this;exact zaG this
end
structure Du (w0 w wx:World) (mb pb:Nat) (a:Option Addr) (n cp:Nat) (z:Nat->Int) (r:Rs) (P:Pk) (s:Sl) (e k m:Nat) (xs:List Value):Prop where
 co:Do w0 wx mb pb a n cp z r P
 own:wx.ownsRow w.heap.size e k (.slice s.a s.n s.c) m xs
 keep:Keep w0.heap.size w wx
 big:w0.heap.size<=w.heap.size
 gb:0<n->∀ g,a=some ⟨g,0,none⟩->g<w.heap.size
 grown:w.heap.size<=wx.heap.size
section
variable {w0 w wx w':World} {mb pb:Nat} {a:Option Addr} {n cp:Nat} {z:Nat->Int} {r r':Rs} {P P':Pk} {s s':Sl} {e k m m':Nat} {xs xs':List Value}
theorem Du.read (h:Du w0 w wx mb pb a n cp z r P s e k m xs) (hr:Rrd w' mb a n cp z r') (hg:wx.grownBy w' (some mb)):Du w0 w w' mb pb a n cp z r' P s e k m xs where
 co:=h.co.read hr hg
 own:=zc3 h.own hg (fun x q=>by cases q;have:=h.co.lr;have:=h.big;omega)
 keep:=h.keep.trans (zb8 hg h.co.lr)
 big:=h.big
 gb:=h.gb
 grown:=Nat.le_trans h.grown hg.size
theorem Du.below (h:Du w0 w wx mb pb a n cp z r P s e k m xs) (hb:Below wx.heap.size wx w'):Du w0 w w' mb pb a n cp z r P s e k m xs:=h.read (Rrd.below h.co.rd hb) (gb_bel hb)
theorem Du.set (h:Du w0 w wx mb pb a n cp z r P s e k m xs) (i:Nat) (v:Value) (P':Pk) (hp:(pkCells P).setIfInBounds i v=pkCells P'):Du w0 w (wx.setCell ⟨pb,i,none⟩ v) mb pb a n cp z r P' s e k m xs where
 co:=h.co.set i v P' hp
 own:=zc3 h.own ze3 (fun x q=>by cases q;have:=h.co.lp;have:=h.big;omega)
 keep:=h.keep.trans (zbC h.co.lp)
 big:=h.big
 gb:=h.gb
 grown:=by
  have:(wx.setCell ⟨pb,i,none⟩ v).heap.size=wx.heap.size:=by simp [World.setCell]
  rw [this];exact h.grown
theorem Du.app (h:Du w0 w wx mb pb a n cp z r P s e k m xs) (ho:w'.ownsRow w.heap.size e k (.slice s'.a s'.n s'.c) m' xs') (hg:wx.grownBy w' (Value.slice s.a s.n s.c).ownBlock):Du w0 w w' mb pb a n cp z r P s' e k m' xs' where
 co:=h.co.grow (B:=w.heap.size) hg (own_lt h.own) h.big h.gb
 own:=ho
 keep:=h.keep.grow (B:=w.heap.size) hg (own_lt h.own) (Nat.le_refl _)
 big:=h.big
 gb:=h.gb
 grown:=Nat.le_trans h.grown hg.size
end
set_option maxHeartbeats 4000000
def unsL (z:Nat->Int) (n:Nat) (r:Rs) (p:Pk) (c:Cn):Rs×Pk×Cn := ((unsF z n n r []).1,{ p with filters:=⟨none,(unsF z n n r []).2.length,0⟩ },{ c with fs:=fun i=>(unsF z n n r []).2.getD i ⟨#[]⟩ })
def DDone (w0 w':World) (mb pb:Nat) (a:Option Addr) (n cp:Nat) (z:Nat->Int) (y:Rs×Pk×Cn):Prop:=∃ q:Pk,Ds w0 w' mb pb a n cp z y.1 q y.2.2/\Alike q y.2.1
theorem duns_any {w0 w:World} {mb pb:Nat} {a:Option Addr} {n cp:Nat} {z:Nat->Int} {r:Rs} {p:Pk} {c:Cn} (h:Ds w0 w mb pb a n cp z r p c) (hf:p.filters=⟨none,0,0⟩) (hkd:p.kind=10) :
 Calls Tryz.prog 214 #[.pointer (some ⟨mb,0,none⟩),.pointer (some ⟨pb,0,none⟩),.int .i64 n] w fun e w'=>e = .returned (.tuple #[])/\DDone w0 w' mb pb a n cp z (unsL z n r p c):=by
 have LW:=Hi h.size;have NF:Hid (n<=1000000):=by have:=h.rd.few;show n<=1000000;omega
 have XS:=Hi h;have FN:=Hi hf;have KD:=Hi hkd;obtain ⟨Y,hY⟩:∃ Y,Y=unsL z n r p c:=⟨_,rfl⟩;rw [<-hY];obtain ⟨U,hU⟩:∃ s,s=unsF z n n r []:=⟨_,rfl⟩;have HS:Hid (Y=(U.1,{ p with filters:=⟨none,U.2.length,0⟩ },{ c with fs:=fun i=>U.2.getD i ⟨#[]⟩ })):=by show _=_;rw [hY,unsL,hU]
 have H2:=Hi hU;clear hY hU hf hkd;have U2:Hid (Du w0 w w mb pb a n cp z r p ⟨none,0,0⟩ 9 1 0 []):=⟨h.co,⟨rfl,.inl ⟨rfl,rfl⟩⟩,fun _ _ h _=>h,LW.out,h.rd.blocks,Nat.le_refl _⟩;clear h;obtain ⟨i0,hi,hz0,hz1,hz2⟩:=info_parts Tryz.info9;go_enter Tryz.func214,Tryz.ntmps214;go_wp2_with fail;go_loopg [] n (fun gg wx=>∃ (r':Rs) (fs:List ByteArray) (s:Sl),Hid (Du w0 w wx mb pb a n cp z r' { p with filters:=s } s 9 1 fs.length (fs.map .string))/\Hid (U=unsF z n gg r' fs)/\Hid (more n r'=true->n<=r'.at0+gg)/\Hid (more n r'=true->fs.length<=r'.at0));case atStart=>exact ⟨r,[],⟨none,0,0⟩,by rw [show ({ p with filters:=⟨none,0,0⟩ }:Pk)=p from by rw [<-FN.out]];exact U2.out,H2.out,fun _=>by omega,fun _=>Nat.zero_le _⟩
 case round =>
  obtain ⟨r',fs,s,C1,E0,M0,L0⟩:=hrel;have FI:Hid (more n r'=false->unsF z n gk r' fs=(r',fs)):=fun q=>zbV _ _ _ q;have EN:Hid (∀ v:World,Du w0 w v mb pb a n cp z r' { p with filters:=s } s 9 1 fs.length (fs.map .string)->more n r'=false->DDone w0 v mb pb a n cp z Y):=by intro v hv hm;rw [HS.out,E0.out,FI.out hm];obtain ⟨q1,q2,q3⟩:=own_ss hv.own;have q:=In.keep XS.out.inn XS.out.nx hv.keep;have x:=XS.out.nx;exact ⟨{ p with filters:=s },hv.co.ds ⟨q.wP,q.pass,q.mP,q.asks,q.codes,q1⟩ ⟨x.wP,x.pass,x.mP,x.asks,x.codes,fun b off e=>by have:=q3 b off e;have:=LW.out;omega⟩,p.wP,p.pass,p.mP,p.asks,p.codes,s,rfl,rfl,rfl,rfl,rfl,rfl,q2⟩
  have ce:=C1.out.co.err;by_cases hq:r'.q=0
  · rw [hq] at ce
    have AT:=hidi (zbX C1.out.co.rd);cases hm:more n r' with
    | true =>
     have hlt:r'.at0<n:=(zau hm).2;obtain ⟨tx,htx⟩:∃ y,y=rText z n r':=⟨_,rfl⟩;have HT:=Hi htx;obtain ⟨gg,hgg⟩:∃ gg,gk=gg+1:=⟨gk-1,by have:=M0.out hm;have:=(zau hm).2;omega⟩;have E1:Hid (U=unsF z n gg tx.2 (fs++[tx.1])):=by show _=_;rw [E0.out,hgg,unsF,if_pos hm,htx]
     have N1:Hid ((more n tx.2=true->n<=tx.2.at0+gg)/\(more n tx.2=true->(fs++[tx.1]).length<=tx.2.at0)):=by
      refine ⟨fun q=>?_,fun q=>?_⟩;· have a:=M0.out hm;rw [htx] at q ⊢;have b:=zbg hm q;omega
      · have a:=L0.out hm;rw [htx] at q ⊢;have b:=zbg hm q;simp only [List.length_append,List.length_singleton];omega
     have ML:Hid (fs.length<=1000000):=by have a:=L0.out hm;have b:=(zau hm).2;have:=NF.out;show fs.length<=1000000;omega
     clear htx hm E0 M0 L0 EN hq FI;obtain ⟨tx,r2⟩:=tx;simp only at E1 N1;have ck:wr.cell? ⟨pb,0,none⟩=some (.int .i64 p.kind):=C1.out.co.cell 0 _ rfl;rw [KD.out] at ck;have TX:Hid (Calls Tryz.prog 211 #[.pointer (some ⟨mb,0,none⟩)] wr.drew fun e w'=>e = .returned (.string tx)/\Du w0 w w' mb pb a n cp z r2 { p with filters:=s } s 9 1 fs.length (fs.map .string)):=by have D1:=C1.out.below ((Below.refl _ _).drew);refine (zcO D1.co.rd).mono ?_;rw [<-HT.out];exact fun e w' ⟨h1,h2,h3⟩=>⟨h1,D1.read h2 h3⟩
     have c24:wr.cell? ⟨pb,24,none⟩=some (.slice s.a s.n s.c):=C1.out.co.cell 24 _ rfl;go_wp2_with (go_at_call 250;refine AT.out.mono ?_;rintro e w' ⟨rfl,he⟩;obtain rfl:=he.symm;clear he);first | go_region_law (first | (refine zbs rfl (.tmp 60) (.tmp 63) 27 rfl w.heap.size 9 i0 (.string ⟨#[]⟩) 1 16 Tryz.underlying27 hi hz0 hz1 hz2 rfl (by decide) (.slice s.a s.n s.c) fs.length (fs.map .string) rfl (C2.out.below ((Below.refl _ _).alloc (Nat.le_refl _) _)).own ⟨u2.heap.size,0,none⟩ 1 1 [.string tx] rfl (by decide) rfl (cell_one_new _ _ _) (by intro u hu;simp at hu;subst hu;rfl) (by have:=ML.out;unfold maxLen;omega) (by have:=ML.out;omega) (by have:=C2.out.grown;simp;omega) ?_;intro v3 u3 ho hg hne _;obtain ⟨s3,rfl,hs3,hn3⟩:=zbU ho hne;have C3:Hid (Du w0 w u3 mb pb a n cp z r2 { p with filters:=s } s3 9 1 (fs.length+1) (fs.map .string++[.string tx])):=(C2.out.below ((Below.refl _ _).alloc (Nat.le_refl _) _)).app ho hg;clear ho hg hne hs3 hn3;have c24d:u3.cell? ⟨pb,24,none⟩=some (.slice s.a s.n s.c):=C3.out.co.cell 24 _ rfl;have z24d:=C3.out.co.frozen 24)|(go_simp;go_wp2_with (go_at_call 211;refine TX.out.mono ?_;rintro e u2 ⟨rfl,hX⟩;have C2:Hid (Du w0 w u2 mb pb a n cp z r2 { p with filters:=s } s 9 1 fs.length (fs.map .string)):=hX;clear hX;have c24b:u2.cell? ⟨pb,24,none⟩=some (.slice s.a s.n s.c):=C2.out.co.cell 24 _ rfl;have c24c:(u2.alloc (.cells #[.string tx] 9)).cell? ⟨pb,24,none⟩=some (.slice s.a s.n s.c):=(C2.out.below ((Below.refl _ _).alloc (Nat.le_refl _) _)).co.cell 24 _ rfl))) | fail
     all_goals go_wp2
     all_goals go_roundg gg
     all_goals first | omega | exact ⟨r2,fs++[tx],s3,by show Du _ _ _ _ _ _ _ _ _ _ _ _ _ _ _ _;rw [List.length_append,List.map_append];exact C3.out.set 24 _ _ rfl,E1.out,N1.out.1,N1.out.2⟩
    | false =>
     have hlt:decide (r'.at0<n)=false:=by have:=hm;unfold more at this;rw [hq] at this;simpa using this
     have EE:=hidi (EN.out _ C1.out hm);clear hm E0 M0 L0 EN hq FI;go_wp2_with (go_at_call 250;refine AT.out.mono ?_;rintro e w' ⟨rfl,he⟩;obtain rfl:=he.symm;clear he);go_end0;exact ⟨rfl,EE.out⟩
  · have hq':(r'.q==0)=false:=by simpa using hq
    have EE:=hidi (EN.out _ C1.out (by unfold more;simp [hq]));clear E0 M0 L0 EN hq FI;go_wp2_with fail;go_end0;exact ⟨rfl,EE.out⟩
def subL (z:Nat->Int) (n:Nat) (r:Rs) (p:Pk) (c:Cn):Rs×Pk×Cn := ((subF z n n r []).1,{ p with asks:=⟨none,(subF z n n r []).2.length,0⟩ },{ c with af:=fun i=>((subF z n n r []).2.getD i (⟨#[]⟩,0)).1,aq:=fun i=>((subF z n n r []).2.getD i (⟨#[]⟩,0)).2 })
theorem dsub_any {w0 w:World} {mb pb:Nat} {a:Option Addr} {n cp:Nat} {z:Nat->Int} {r:Rs} {p:Pk} {c:Cn} (h:Ds w0 w mb pb a n cp z r p c) (hf:p.asks=⟨none,0,0⟩) (hkd:p.kind=8) :
 Calls Tryz.prog 214 #[.pointer (some ⟨mb,0,none⟩),.pointer (some ⟨pb,0,none⟩),.int .i64 n] w fun e w'=>e = .returned (.tuple #[])/\DDone w0 w' mb pb a n cp z (subL z n r p c):=by
 have LW:=Hi h.size;have NF:Hid (n<=1000000):=by have:=h.rd.few;show n<=1000000;omega
 have XS:=Hi h;have FN:=Hi hf;have KD:=Hi hkd;obtain ⟨Y,hY⟩:∃ Y,Y=subL z n r p c:=⟨_,rfl⟩;rw [<-hY];obtain ⟨U,hU⟩:∃ s,s=subF z n n r []:=⟨_,rfl⟩;have HS:Hid (Y=(U.1,{ p with asks:=⟨none,U.2.length,0⟩ },{ c with af:=fun i=>(U.2.getD i (⟨#[]⟩,0)).1,aq:=fun i=>(U.2.getD i (⟨#[]⟩,0)).2 })):=by show _=_;rw [hY,subL,hU]
 have H2:=Hi hU;clear hY hU hf hkd;have U2:Hid (Du w0 w w mb pb a n cp z r p ⟨none,0,0⟩ 98 2 0 []):=⟨h.co,⟨rfl,.inl ⟨rfl,rfl⟩⟩,fun _ _ h _=>h,LW.out,h.rd.blocks,Nat.le_refl _⟩;clear h;obtain ⟨i0,hi,hz0,hz1,hz2⟩:=info_parts Tryz.info98;go_enter Tryz.func214,Tryz.ntmps214;go_wp2_with fail;go_loopg [] n (fun gg wx=>∃ (r':Rs) (fs:List (ByteArray×Int)) (s:Sl),Hid (Du w0 w wx mb pb a n cp z r' { p with asks:=s } s 98 2 fs.length (askCells fs))/\Hid (U=subF z n gg r' fs)/\Hid (more n r'=true->n<=r'.at0+gg)/\Hid (more n r'=true->fs.length<=r'.at0));case atStart=>exact ⟨r,[],⟨none,0,0⟩,by rw [show ({ p with asks:=⟨none,0,0⟩ }:Pk)=p from by rw [<-FN.out]];exact U2.out,H2.out,fun _=>by omega,fun _=>Nat.zero_le _⟩
 case round =>
  obtain ⟨r',fs,s,C1,E0,M0,L0⟩:=hrel;have FI:Hid (more n r'=false->subF z n gk r' fs=(r',fs)):=fun q=>zc1 _ _ _ q;have EN:Hid (∀ v:World,Du w0 w v mb pb a n cp z r' { p with asks:=s } s 98 2 fs.length (askCells fs)->more n r'=false->DDone w0 v mb pb a n cp z Y):=by intro v hv hm;rw [HS.out,E0.out,FI.out hm];obtain ⟨q1,q2,q3⟩:=own_as hv.own;have q:=In.keep XS.out.inn XS.out.nx hv.keep;have x:=XS.out.nx;exact ⟨{ p with asks:=s },hv.co.ds ⟨q.wP,q.pass,q.mP,q1,q.codes,q.filters⟩ ⟨x.wP,x.pass,x.mP,fun b off e=>by have:=q3 b off e;have:=LW.out;omega,x.codes,x.filters⟩,p.wP,p.pass,p.mP,s,p.codes,p.filters,rfl,rfl,rfl,rfl,q2,rfl,rfl⟩
  have ce:=C1.out.co.err;by_cases hq:r'.q=0
  · rw [hq] at ce
    have AT:=hidi (zbX C1.out.co.rd);cases hm:more n r' with
    | true =>
     have hlt:r'.at0<n:=(zau hm).2;obtain ⟨tx,htx⟩:∃ y,y=rText z n r':=⟨_,rfl⟩;obtain ⟨qx,hqx⟩:∃ y,y=Go.Proofs.YtceigllifjgalaaGreatDoor.rByte z n tx.2:=⟨_,rfl⟩;have HT:=Hi htx;have HQ:=Hi hqx;obtain ⟨gg,hgg⟩:∃ gg,gk=gg+1:=⟨gk-1,by have:=M0.out hm;have:=(zau hm).2;omega⟩;have E1:Hid (U=subF z n gg qx.2 (fs++[(tx.1,qx.1)])):=by show _=_;rw [E0.out,hgg,subF,if_pos hm,hqx,htx]
     have N1:Hid ((more n qx.2=true->n<=qx.2.at0+gg)/\(more n qx.2=true->(fs++[(tx.1,qx.1)]).length<=qx.2.at0)):=by
      refine ⟨fun q=>?_,fun q=>?_⟩;· have a:=M0.out hm;rw [hqx,htx] at q ⊢;have b:=sub_on hm q;omega
      · have a:=L0.out hm;have b:r'.at0+2<=qx.2.at0:=(by rw [hqx,htx] at q ⊢;exact sub_on hm q);simp only [List.length_append,List.length_singleton];omega
     have ML:Hid (fs.length<=1000000):=by have a:=L0.out hm;have b:=(zau hm).2;have:=NF.out;show fs.length<=1000000;omega
     clear htx hqx hm E0 M0 L0 EN hq FI;obtain ⟨tx,r2⟩:=tx;obtain ⟨qx,r3⟩:=qx;simp only at E1 N1 HQ;have ck:wr.cell? ⟨pb,0,none⟩=some (.int .i64 p.kind):=C1.out.co.cell 0 _ rfl;rw [KD.out] at ck;go_wp2_with (go_at_call 250;refine AT.out.mono ?_;rintro e w' ⟨rfl,he⟩;obtain rfl:=he.symm;clear he);go_must (go_at_call 211);refine (zcO C1.out.co.rd).mono ?_;rw [<-HT.out];rintro e u2 ⟨rfl,hr,hg⟩;have C2:=Hi (C1.out.read hr hg);clear hr hg ck ce hlt;have bq:0<=qx/\qx<=255:=by
      have:=C2.out.co.rd.cm.2.1 r2.at0;have e:qx=(Go.Proofs.YtceigllifjgalaaGreatDoor.rByte z n r2).1:=congrArg Prod.fst HQ.out;rw [e];unfold Go.Proofs.YtceigllifjgalaaGreatDoor.rByte;split;· simp
      · split
        · simp
        · exact this
     have hwr:IntKind.i64.wrap qx=qx:=zbb qx bq.1 (by have:=bq.2;simp;omega);clear bq;have TX:Hid (Calls Tryz.prog 210 #[.pointer (some ⟨mb,0,none⟩)] u2.drew fun e w'=>e = .returned (.int .u8 qx)/\Du w0 w w' mb pb a n cp z r3 { p with asks:=s } s 98 2 fs.length (askCells fs)):=by have D1:=C2.out.below ((Below.refl _ _).drew);refine (zcU D1.co.rd).mono ?_;rw [<-HQ.out];exact fun e w' ⟨h1,h2,h3⟩=>⟨h1,D1.read h2 h3⟩
     have c24:u2.cell? ⟨pb,22,none⟩=some (.slice s.a s.n s.c):=C2.out.co.cell 22 _ rfl;go_wp2;first | go_region_law (first | (refine zbs rfl (.tmp 30) (.tmp 36) 25 rfl w.heap.size 98 i0 (.agg #[.string ⟨#[]⟩,.int .i64 0]) 2 24 Tryz.underlying25 hi hz0 hz1 hz2 zf8 (by decide) (.slice s.a s.n s.c) fs.length (askCells fs) rfl (C3.out.below ((Below.refl _ _).alloc (Nat.le_refl _) _)).own ⟨u3.heap.size,0,none⟩ 1 1 [.string tx,.int .i64 qx] rfl (by decide) rfl (zcn _ _ _ _) (by intro u hu;simp at hu;rcases hu with rfl | rfl <;> rfl) (by have:=ML.out;unfold maxLen;omega) (by have:=ML.out;omega) (by have:=C3.out.grown;simp;omega) ?_;intro v3 u4 ho hg hne _;obtain ⟨s3,rfl,hs3,hn3⟩:=zbU ho hne;have C4:Hid (Du w0 w u4 mb pb a n cp z r3 { p with asks:=s } s3 98 2 (fs.length+1) (askCells fs++[.string tx,.int .i64 qx])):=(C3.out.below ((Below.refl _ _).alloc (Nat.le_refl _) _)).app ho hg;clear ho hg hne hs3 hn3;have c24d:u4.cell? ⟨pb,22,none⟩=some (.slice s.a s.n s.c):=C4.out.co.cell 22 _ rfl;have z24d:=C4.out.co.frozen 22)|(go_simp;go_wp2_with (go_at_call 210;refine TX.out.mono ?_;rintro e u3 ⟨rfl,hX⟩;have C3:Hid (Du w0 w u3 mb pb a n cp z r3 { p with asks:=s } s 98 2 fs.length (askCells fs)):=hX;clear hX;have c24b:u3.cell? ⟨pb,22,none⟩=some (.slice s.a s.n s.c):=C3.out.co.cell 22 _ rfl;have c24c:(u3.alloc (.cells #[.string tx,.int .i64 qx] 98)).cell? ⟨pb,22,none⟩=some (.slice s.a s.n s.c):=(C3.out.below ((Below.refl _ _).alloc (Nat.le_refl _) _)).co.cell 22 _ rfl))) | fail
     all_goals go_wp2
     all_goals go_roundg gg
     all_goals first | omega | exact ⟨r3,fs++[(tx,qx)],s3,by show Du _ _ _ _ _ _ _ _ _ _ _ _ _ _ _ _;rw [List.length_append,zbA];exact C4.out.set 22 _ _ rfl,E1.out,N1.out.1,N1.out.2⟩
    | false =>
     have hlt:decide (r'.at0<n)=false:=by have:=hm;unfold more at this;rw [hq] at this;simpa using this
     have EE:=hidi (EN.out _ C1.out hm);clear hm E0 M0 L0 EN hq FI;go_wp2_with (go_at_call 250;refine AT.out.mono ?_;rintro e w' ⟨rfl,he⟩;obtain rfl:=he.symm;clear he);go_end0;exact ⟨rfl,EE.out⟩
  · have hq':(r'.q==0)=false:=by simpa using hq
    have EE:=hidi (EN.out _ C1.out (by unfold more;simp [hq]));clear E0 M0 L0 EN hq FI;go_wp2_with fail;go_end0;exact ⟨rfl,EE.out⟩
theorem dnone_any {w0 w:World} {mb pb:Nat} {a:Option Addr} {n cp:Nat} {z:Nat->Int} {r:Rs} {p:Pk} {c:Cn} (h:Ds w0 w mb pb a n cp z r p c) (h8:¬ p.kind=8) (h9:¬ p.kind=9) (h10:¬ p.kind=10) :
 Calls Tryz.prog 214 #[.pointer (some ⟨mb,0,none⟩),.pointer (some ⟨pb,0,none⟩),.int .i64 n] w fun e w'=>e = .returned (.tuple #[])/\w'=w:=by
 have X:=hidi h;have k8:(p.kind==8)=false:=by simpa using h8
 have k9:(p.kind==9)=false:=by simpa using h9
 have k10:(p.kind==10)=false:=by simpa using h10
 have ck:w.cell? ⟨pb,0,none⟩=some (.int .i64 p.kind):=h.cell 0 _ rfl;have ce:=h.err.1;have AT:=hidi (ds_at h);clear h h8 h9 h10;go_enter Tryz.func214,Tryz.ntmps214;go_wp2_with fail;go_loopg [] 1 (fun gg wx=>wx=w);case atStart=>rfl
 case round =>
  obtain rfl:=hrel;by_cases hq:r.q=0
  · rw [hq] at ce
    by_cases hm:r.at0<n
    · go_wp2_with (go_at_call 250;refine AT.out.mono ?_;rintro e w' ⟨rfl,he⟩;obtain rfl:=he.symm;clear he)
      (try simp only [Exit.inBlock,Exit.then]);refine bodyPost_ret (results_none rfl _ _ _) rfl ?_;exact ⟨rfl,rfl⟩
    · have hm':decide (r.at0<n)=false:=by simpa using hm
      go_wp2_with (go_at_call 250;refine AT.out.mono ?_;rintro e w' ⟨rfl,he⟩;obtain rfl:=he.symm;clear he);go_end0;exact ⟨rfl,rfl⟩
  · have hq':(r.q==0)=false:=by simpa using hq
    go_wp2_with fail;go_end0;exact ⟨rfl,rfl⟩
section
variable {z:Nat->Int} {n:Nat} {r:Rs} {w:World}
def ackF (z:Nat->Int) (n:Nat):Nat->Rs->List Int->Rs×List Int | 0,r,fs=>(r,fs) | b+1,r,fs=>if more n r=true then ackF z n b (Go.Proofs.YtceigllifjgalaaGreatDoor.rByte z n r).2 (fs++[(Go.Proofs.YtceigllifjgalaaGreatDoor.rByte z n r).1]) else (r,fs)
theorem zdt (b:Nat) (r:Rs) (fs:List Int) (h:more n r=false):ackF z n b r fs=(r,fs):=by cases b with | zero=>rfl | succ b=>simp [ackF,h]
theorem zci (h:more n r=true):Go.Proofs.YtceigllifjgalaaGreatDoor.rByte z n r=(z r.at0,r.on 1):=by obtain ⟨hq,hlt⟩:=zau h;unfold Go.Proofs.YtceigllifjgalaaGreatDoor.rByte;rw [if_neg (by simpa using hq),if_neg (by omega)]
theorem own_is {base:Nat} {s:Sl} {fs:List Int} (h:w.ownsRow base 3 1 (.slice s.a s.n s.c) fs.length (fs.map (.int .i64))):Is w s (fun i=>fs.getD i 0)/\s.n=fs.length/\Nx base s:=by
 obtain ⟨a,m,c⟩:=s;rcases h.2 with ⟨e,hl⟩|⟨gg,cap,cur,e,h1,h2,h3,_,_,h6⟩
 · cases e
   exact ⟨⟨Nat.le_refl _,.inl rfl⟩,hl.symm,fun b off e=>by cases e⟩
 ·
  cases e;refine ⟨⟨h3,.inr ⟨gg,0,rfl,fun i hi=>?_⟩⟩,rfl,fun b off e=>by cases e;exact h1⟩;have hi':i<fs.length:=hi;have q:(fs.map (Value.int .i64))[i]?=some (.int .i64 (fs.getD i 0)):=by simp [hi']
  rw [<-h6,List.getElem?_take] at q;simp only [Nat.mul_one,hi',if_true,Array.getElem?_toList] at q;simp [World.cell?,h2,q]
def ackL (z:Nat->Int) (n:Nat) (r:Rs) (p:Pk) (c:Cn):Rs×Pk×Cn := ((ackF z n n r []).1,{ p with codes:=⟨none,(ackF z n n r []).2.length,0⟩ },{ c with cs:=fun i=>(ackF z n n r []).2.getD i 0 })
theorem dack_any {w0:World} {mb pb:Nat} {a:Option Addr} {cp:Nat} {p:Pk} {c:Cn} (h:Ds w0 w mb pb a n cp z r p c) (hf:p.codes=⟨none,0,0⟩) (hkd:p.kind=9) :
 Calls Tryz.prog 214 #[.pointer (some ⟨mb,0,none⟩),.pointer (some ⟨pb,0,none⟩),.int .i64 n] w fun e w'=>e = .returned (.tuple #[])/\DDone w0 w' mb pb a n cp z (ackL z n r p c):=by
 have LW:=Hi h.size;have NF:Hid (n<=1000000):=by have:=h.rd.few;show n<=1000000;omega
 have XS:=Hi h;have FN:=Hi hf;have KD:=Hi hkd;obtain ⟨Y,hY⟩:∃ Y,Y=ackL z n r p c:=⟨_,rfl⟩;rw [<-hY];obtain ⟨U,hU⟩:∃ s,s=ackF z n n r []:=⟨_,rfl⟩;have HS:Hid (Y=(U.1,{ p with codes:=⟨none,U.2.length,0⟩ },{ c with cs:=fun i=>U.2.getD i 0 })):=by show _=_;rw [hY,ackL,hU]
 have H2:=Hi hU;clear hY hU hf hkd;have U2:Hid (Du w0 w w mb pb a n cp z r p ⟨none,0,0⟩ 3 1 0 []):=⟨h.co,⟨rfl,.inl ⟨rfl,rfl⟩⟩,fun _ _ h _=>h,LW.out,h.rd.blocks,Nat.le_refl _⟩;clear h;obtain ⟨i0,hi,hz0,hz1,hz2⟩:=info_parts Tryz.info3;go_enter Tryz.func214,Tryz.ntmps214;go_wp2_with fail;go_loopg [] n (fun gg wx=>∃ (r':Rs) (fs:List Int) (s:Sl),Hid (Du w0 w wx mb pb a n cp z r' { p with codes:=s } s 3 1 fs.length (fs.map (.int .i64)))/\Hid (U=ackF z n gg r' fs)/\Hid (more n r'=true->n<=r'.at0+gg)/\Hid (more n r'=true->fs.length<=r'.at0));case atStart=>exact ⟨r,[],⟨none,0,0⟩,by rw [show ({ p with codes:=⟨none,0,0⟩ }:Pk)=p from by rw [<-FN.out]];exact U2.out,H2.out,fun _=>by omega,fun _=>Nat.zero_le _⟩
 case round =>
  obtain ⟨r',fs,s,C1,E0,M0,L0⟩:=hrel;have FI:Hid (more n r'=false->ackF z n gk r' fs=(r',fs)):=fun q=>zdt _ _ _ q;have EN:Hid (∀ v:World,Du w0 w v mb pb a n cp z r' { p with codes:=s } s 3 1 fs.length (fs.map (.int .i64))->more n r'=false->DDone w0 v mb pb a n cp z Y):=by intro v hv hm;rw [HS.out,E0.out,FI.out hm];obtain ⟨q1,q2,q3⟩:=own_is hv.own;have q:=In.keep XS.out.inn XS.out.nx hv.keep;have x:=XS.out.nx;exact ⟨{ p with codes:=s },hv.co.ds ⟨q.wP,q.pass,q.mP,q.asks,q1,q.filters⟩ ⟨x.wP,x.pass,x.mP,x.asks,fun b off e=>by have:=q3 b off e;have:=LW.out;omega,x.filters⟩,p.wP,p.pass,p.mP,p.asks,s,p.filters,rfl,rfl,rfl,rfl,rfl,q2,rfl⟩
  have ce:=C1.out.co.err;by_cases hq:r'.q=0
  · rw [hq] at ce
    have AT:=hidi (zbX C1.out.co.rd);cases hm:more n r' with
    | true =>
     have hlt:r'.at0<n:=(zau hm).2;obtain ⟨tx,htx⟩:∃ y,y=Go.Proofs.YtceigllifjgalaaGreatDoor.rByte z n r':=⟨_,rfl⟩;have HT:=Hi htx;obtain ⟨gg,hgg⟩:∃ gg,gk=gg+1:=⟨gk-1,by have:=M0.out hm;have:=(zau hm).2;omega⟩;have E1:Hid (U=ackF z n gg tx.2 (fs++[tx.1])):=by show _=_;rw [E0.out,hgg,ackF,if_pos hm,htx]
     have tx2:tx.2.at0=r'.at0+1:=by rw [htx,zci hm];rfl
     have N1:Hid ((more n tx.2=true->n<=tx.2.at0+gg)/\(more n tx.2=true->(fs++[tx.1]).length<=tx.2.at0)):=by
      refine ⟨fun q=>?_,fun q=>?_⟩;· have a:=M0.out hm;omega
      · have a:=L0.out hm;simp only [List.length_append,List.length_singleton];omega
     have ML:Hid (fs.length<=1000000):=by have a:=L0.out hm;have b:=(zau hm).2;have:=NF.out;show fs.length<=1000000;omega
     have bq:0<=tx.1/\tx.1<=255:=by rw [htx,zci hm];exact C1.out.co.rd.cm.2.1 r'.at0
     clear htx tx2 hm E0 M0 L0 EN hq FI;obtain ⟨tx,r2⟩:=tx;simp only at E1 N1 bq;have hwr:IntKind.i64.wrap tx=tx:=zbb tx bq.1 (by have:=bq.2;simp;omega);clear bq;have ck:wr.cell? ⟨pb,0,none⟩=some (.int .i64 p.kind):=C1.out.co.cell 0 _ rfl;rw [KD.out] at ck;have TX:Hid (Calls Tryz.prog 210 #[.pointer (some ⟨mb,0,none⟩)] wr.drew fun e w'=>e = .returned (.int .u8 tx)/\Du w0 w w' mb pb a n cp z r2 { p with codes:=s } s 3 1 fs.length (fs.map (.int .i64))):=by have D1:=C1.out.below ((Below.refl _ _).drew);refine (zcU D1.co.rd).mono ?_;rw [<-HT.out];exact fun e w' ⟨h1,h2,h3⟩=>⟨h1,D1.read h2 h3⟩
     have c24:wr.cell? ⟨pb,23,none⟩=some (.slice s.a s.n s.c):=C1.out.co.cell 23 _ rfl;go_wp2_with (go_at_call 250;refine AT.out.mono ?_;rintro e w' ⟨rfl,he⟩;obtain rfl:=he.symm;clear he);first | go_region_law (first | (refine zbs rfl (.tmp 46) (.tmp 50) 26 rfl w.heap.size 3 i0 (.int .i64 0) 1 8 Tryz.underlying26 hi hz0 hz1 hz2 rfl (by decide) (.slice s.a s.n s.c) fs.length (fs.map (.int .i64)) rfl (C2.out.below ((Below.refl _ _).alloc (Nat.le_refl _) _)).own ⟨u2.heap.size,0,none⟩ 1 1 [.int .i64 tx] rfl (by decide) rfl (cell_one_new _ _ _) (by intro u hu;simp at hu;subst hu;rfl) (by have:=ML.out;unfold maxLen;omega) (by have:=ML.out;omega) (by have:=C2.out.grown;simp;omega) ?_;intro v3 u3 ho hg hne _;obtain ⟨s3,rfl,hs3,hn3⟩:=zbU ho hne;have C3:Hid (Du w0 w u3 mb pb a n cp z r2 { p with codes:=s } s3 3 1 (fs.length+1) (fs.map (.int .i64)++[.int .i64 tx])):=(C2.out.below ((Below.refl _ _).alloc (Nat.le_refl _) _)).app ho hg;clear ho hg hne hs3 hn3;have c24d:u3.cell? ⟨pb,23,none⟩=some (.slice s.a s.n s.c):=C3.out.co.cell 23 _ rfl;have z24d:=C3.out.co.frozen 23)|(go_simp;go_wp2_with (go_at_call 210;refine TX.out.mono ?_;rintro e u2 ⟨rfl,hX⟩;have C2:Hid (Du w0 w u2 mb pb a n cp z r2 { p with codes:=s } s 3 1 fs.length (fs.map (.int .i64))):=hX;clear hX;have c24b:u2.cell? ⟨pb,23,none⟩=some (.slice s.a s.n s.c):=C2.out.co.cell 23 _ rfl;have c24c:(u2.alloc (.cells #[.int .i64 tx] 3)).cell? ⟨pb,23,none⟩=some (.slice s.a s.n s.c):=(C2.out.below ((Below.refl _ _).alloc (Nat.le_refl _) _)).co.cell 23 _ rfl))) | fail
     all_goals go_wp2
     all_goals go_roundg gg
     all_goals first | omega | exact ⟨r2,fs++[tx],s3,by show Du _ _ _ _ _ _ _ _ _ _ _ _ _ _ _ _;rw [List.length_append,List.map_append];exact C3.out.set 23 _ _ rfl,E1.out,N1.out.1,N1.out.2⟩
    | false =>
     have hlt:decide (r'.at0<n)=false:=by have:=hm;unfold more at this;rw [hq] at this;simpa using this
     have EE:=hidi (EN.out _ C1.out hm);clear hm E0 M0 L0 EN hq FI;go_wp2_with (go_at_call 250;refine AT.out.mono ?_;rintro e w' ⟨rfl,he⟩;obtain rfl:=he.symm;clear he);go_end0;exact ⟨rfl,EE.out⟩
  · have hq':(r'.q==0)=false:=by simpa using hq
    have EE:=hidi (EN.out _ C1.out (by unfold more;simp [hq]));clear E0 M0 L0 EN hq FI;go_wp2_with fail;go_end0;exact ⟨rfl,EE.out⟩
end
end Go.Proofs.YtceigllifjgalaaGreatDoor.Dr
namespace Go.Proofs.YtceigllifjgalaaGreatDoor
open Go Go.RowKit
open Pkt (Pk Cn Sl In By Is Ss As pkCells Gd)
set_option linter.unusedSimpArgs false
set_option linter.unusedVariables false
structure Lay (B:Nat) (v0:Value) (W w:World) (v:Value) (n:Nat) (xs:List Value):Prop where
 own:w.ownsRow B 5 1 v n xs
 ne:v≠.slice none 0 0
 gb:W.grownBy w v0.ownBlock
 at_:∀ k,v.ownBlock=some k->v0.ownBlock=some k\/W.heap.size<=k
theorem Lay.size {B:Nat} {v0 v:Value} {W w:World} {n:Nat} {xs:List Value} (h:Lay B v0 W w v n xs):W.heap.size<=w.heap.size:=h.gb.size
end Go.Proofs.YtceigllifjgalaaGreatDoor
