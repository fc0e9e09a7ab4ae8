import Derived.Test.YtceigllifjgalaaGreatDoorFde
namespace Go.Proofs.YtceigllifjgalaaGreatDoor
open Go Go.RowKit
open Pkt (Pk Cn Sl In By Is Ss As pkCells)
set_option linter.unusedSimpArgs false
set_option linter.unusedVariables false
set_option maxRecDepth 100000
set_option maxHeartbeats 4000000
section
variable {w w0:World} {cp g n pb rb:Nat} {z:Nat->Int} {r:Rs} {p:Pk} {c:Cn}
theorem connect_fine (h:Cs w0 w rb g n cp pb z r p c) (hN:¬ ((rText z n r).2.q=0/\isM (rText z n r).1=false)) (hq:(rText z n r).2.q=0) :
 Calls Tryz.prog 260 #[.agg #[.pointer (some ⟨rb,0,none⟩),.int .i64 n],.pointer (some ⟨pb,0,none⟩)] w fun e w'=>OutIs w0 w' e rb g n cp pb z (connectP z n r p c):=by
 have LW:=Hi h.size;have LR:Hid (rb<w0.heap.size/\pb<w0.heap.size):=⟨h.lr,h.lp⟩;obtain ⟨R,hR⟩:∃ R,R=connectP z n r p c:=⟨_,rfl⟩;rw [<-hR];have HR:=Hi hR;clear hR;obtain ⟨t,ht⟩:∃ t,t=rText z n r:=⟨_,rfl⟩;rw [<-ht] at hN hq;have H1:=Hi ht;obtain ⟨l,hl⟩:∃ y,y=rByte z n t.2:=⟨_,rfl⟩;obtain ⟨m,hm⟩:∃ y,y=rByte z n l.2:=⟨_,rfl⟩;obtain ⟨k,hk⟩:∃ y,y=rNum z n m.2:=⟨_,rfl⟩;obtain ⟨i,hi⟩:∃ y,y=rText z n k.2:=⟨_,rfl⟩;obtain ⟨A,hA⟩:∃ y,mk m.1 128=y:=⟨_,rfl⟩;obtain ⟨B,hB⟩:∃ y,mk m.1 64=y:=⟨_,rfl⟩;obtain ⟨C,hC⟩:∃ y,mk m.1 32=y:=⟨_,rfl⟩;obtain ⟨E,hE⟩:∃ y,mk m.1 4=y:=⟨_,rfl⟩;obtain ⟨F,hF⟩:∃ y,mk m.1 2=y:=⟨_,rfl⟩;obtain ⟨D,hD⟩:∃ y,bits .and .u8 m.1 24 / 8=y:=⟨_,rfl⟩;obtain ⟨x,hx⟩:∃ y,y=cWill z n E i.2 p.wT (p.wP.n,c.wz):=⟨_,rfl⟩;obtain ⟨u,hu⟩:∃ y,y=cUser z n A x.2 p.user:=⟨_,rfl⟩;obtain ⟨s,hs⟩:∃ y,y=cPass z n B u.2 (p.pass.n,c.pz):=⟨_,rfl⟩;obtain ⟨r9,hr9⟩:∃ y,y=rEnd n s.2:=⟨_,rfl⟩;have HS:Hid (R=if badMarks m.1 then .error ((l.2.at0:Int),34) else if r9.q≠0 then .error (r9.p,r9.q) else .ok (r9,{ p with level:=l.1,hasUser:=A,hasPass:=B,wR:=C,wQ:=D,hasWill:=E,clean:=F,keep:=k.1,client:=i.1,wT:=x.1.1,wP:=⟨none,x.1.2.1,0⟩,user:=u.1,pass:=⟨none,s.1.1,0⟩ },{ c with wz:=x.1.2.2,pz:=s.1.2 })):=by show _=_;rw [HR.out,connectP,<-ht,if_neg hN,<-hl,<-hm,cMid,<-hk,<-hi,hE,<-hx,hA,<-hu,hB,<-hs,<-hr9,cEnd,hA,hB,hC,hD,hE,hF]
 have H2:=Hi hl;have H3:=Hi hm;have H4:=Hi hk;have H5:=Hi hi;have H6:=Hi hx;have H7:=Hi hu;have H8:=Hi hs;have H9:=Hi hr9;have HM:Hid (mk m.1 128=A/\mk m.1 64=B/\mk m.1 32=C/\bits .and .u8 m.1 24 / 8=D/\mk m.1 4=E/\mk m.1 2=F):=⟨hA,hB,hC,hD,hE,hF⟩;clear ht hl hm hk hi hx hu hs hr9 hA hB hC hD hE hF HR;obtain ⟨t,r1⟩:=t;obtain ⟨l,r2⟩:=l;obtain ⟨m,r3⟩:=m;obtain ⟨k,r4⟩:=k;obtain ⟨i,r5⟩:=i;obtain ⟨⟨xt,xn,xz⟩,r6⟩:=x;obtain ⟨us,r7⟩:=u;obtain ⟨⟨sn,sz⟩,r8⟩:=s;simp only at H2 H3 H4 H5 H6 H7 H8 H9 HS HM hN;simp only at hq;have HQ:=Hi hq;have ho:(t.toList==[77,81,84,84])=true:=by cases hc:isM t with | true=>exact hc | false=>exact absurd ⟨hq,hc⟩ hN
 clear hN hq;have X0:Hid (Cs w0 (w.alloc (.cells #[.pointer (some ⟨rb,0,none⟩),.int .i64 n] 244)) rb g n cp pb z r p c):=h.below ((Below.refl _ _).alloc (Nat.le_refl _) _);have BX0:Hid ((w.alloc (.cells #[.pointer (some ⟨rb,0,none⟩),.int .i64 n] 244)).cell? ⟨w.heap.size,0,none⟩=some (.pointer (some ⟨rb,0,none⟩))):=by show _=_;simp [go_sem]
 clear h;go_enter Tryz.func260,Tryz.ntmps260;have bx:=BX0.out;go_wp2_with (first | (go_at_call 288;refine (at_any rb _ _ _ _ _ X0.out.rd.rd).mono ?_;rintro e w' ⟨rfl,hee⟩;obtain rfl:=hee.symm;clear hee) | fail);go_must (go_at_call 289);clear bx;refine (zaR X0.out.rd).mono ?_;rw [<-H1.out];rintro e v1 ⟨rfl,hr,hg⟩;have X1:=Hi (X0.out.read hr hg);have BX1:Hid (v1.cell? ⟨w.heap.size,0,none⟩=some (.pointer (some ⟨rb,0,none⟩))):=hg.cell BX0.out (by have:=LR.out;have:=LW.out;simp;omega);clear hr hg;have bx:=BX1.out;go_wp2_with fail;go_must (go_at_call 268);clear bx;refine (zdA rb _ _ _ _ (by have h:=X1.out.rd.rd;rw [HQ.out] at h;exact h)).mono ?_;rintro e w2 ⟨rfl,hee⟩;obtain rfl:=hee.symm;clear hee;go_upto_region 5 with fail;clear ho;have bx:=BX1.out;go_wp2_with fail;go_must (go_at_call 219);clear bx;refine (zbh X1.out.rd).mono ?_;rw [<-H2.out];rintro e v2 ⟨rfl,hr,hg⟩;have X2:=Hi (X1.out.read hr hg);have BX2:Hid (v2.cell? ⟨w.heap.size,0,none⟩=some (.pointer (some ⟨rb,0,none⟩))):=hg.cell BX1.out (by have:=LR.out;have:=LW.out;simp;omega);clear hr hg;have bl:0<=l/\l<=255:=by have h:=zbq (z:=z) (n:=n) X1.out.rd;rw [<-H2.out] at h;exact h
 have e1:=X2.out.cell 1 (.int .i64 p.level) rfl;have z1:=X2.out.frozen 1;obtain ⟨v3,hW⟩:∃ W,W=v2.setCell ⟨pb,1,none⟩ (.int .i64 l):=⟨_,rfl⟩;have X3:=(show Hid _ from X2.out.setS 1 (.int .i64 l) ({ p with level:=l }) rfl rfl rfl rfl rfl rfl rfl);rw [<-hW] at X3;have BX3:Hid (v3.cell? ⟨w.heap.size,0,none⟩=some (.pointer (some ⟨rb,0,none⟩))):=by show _=_;rw [hW];exact bx_set BX2.out (by have:=LR.out;have:=LW.out;omega)
 go_upto_region 6 with fail;rw [<-hW];clear hW e1 z1;clear bl;have bm:0<=m/\m<=255:=by have h:=zbq (z:=z) (n:=n) X3.out.rd;rw [<-H3.out] at h;exact h
 have BM:=Hi bm;clear bm;have bx:=BX3.out;go_wp2_with (first | (go_at_call 288;refine (at_any rb _ _ _ _ _ X3.out.rd.rd).mono ?_;rintro e w' ⟨rfl,hee⟩;obtain rfl:=hee.symm;clear hee) | fail);go_must (go_at_call 219);clear bx;refine (zbh X3.out.rd).mono ?_;rw [<-H3.out];rintro e v4 ⟨rfl,hr,hg⟩;have X4:=Hi (X3.out.read hr hg);have BX4:Hid (v4.cell? ⟨w.heap.size,0,none⟩=some (.pointer (some ⟨rb,0,none⟩))):=hg.cell BX3.out (by have:=LR.out;have:=LW.out;simp;omega);clear hr hg;obtain ⟨a1,h1⟩:∃ y,(bits .and .u8 m 1 != 0)=y:=⟨_,rfl⟩;obtain ⟨a2,h2⟩:∃ y,(bits .and .u8 m 24==24)=y:=⟨_,rfl⟩;have HB:Hid (badMarks m=(a1 || a2)):=by show _=_;rw [badMarks,mk,h1,h2]
 cases a1 with
 | true =>
  have HE:Hid (R = .error ((r2.at0:Int),34)):=by show _=_;rw [HS.out,if_pos (show badMarks m=true from HB.out.trans rfl)]
  go_wp2_with fail;go_must (go_at_call 217);refine (zb0 _ _ _).mono ?_;rintro e w2 ⟨⟨gg,rfl,hgg⟩,hb⟩;have Z:Hid (w2.heap[gg]?=some (.cells #[.int .i64 ((r2.at0:Int):Int),.int .i64 34] 134 (0,0))/\Fr2 w0 w2 rb pb):=⟨hgg,X4.out.fr.below hb⟩;clear hgg hb;go_wp2;go_ret;rw [HE.out];exact ⟨⟨gg,rfl,Z.out.1⟩,Z.out.2⟩
 | false =>
 cases a2 with
 | true =>
  have HE:Hid (R = .error ((r2.at0:Int),34)):=by show _=_;rw [HS.out,if_pos (show badMarks m=true from HB.out.trans rfl)]
  go_wp2_with fail;go_must (go_at_call 217);refine (zb0 _ _ _).mono ?_;rintro e w2 ⟨⟨gg,rfl,hgg⟩,hb⟩;have Z:Hid (w2.heap[gg]?=some (.cells #[.int .i64 ((r2.at0:Int):Int),.int .i64 34] 134 (0,0))/\Fr2 w0 w2 rb pb):=⟨hgg,X4.out.fr.below hb⟩;clear hgg hb;go_wp2;go_ret;rw [HE.out];exact ⟨⟨gg,rfl,Z.out.1⟩,Z.out.2⟩
 | false =>
 have HE:Hid (R=if r9.q≠0 then .error (r9.p,r9.q) else .ok (r9,{ p with level:=l,hasUser:=A,hasPass:=B,wR:=C,wQ:=D,hasWill:=E,clean:=F,keep:=k,client:=i,wT:=xt,wP:=⟨none,xn,0⟩,user:=us,pass:=⟨none,sn,0⟩ },{ c with wz:=xz,pz:=sz })):=by show _=_;rw [HS.out,if_neg (by rw [HB.out];decide)]
 clear HS HB;go_upto_region 10 with fail;clear h1 h2;go_wp2_with fail;go_must (go_at_call 290);refine (zbT m BM.out X4.out).mono ?_;have EM:marksP ({ p with level:=l }) m = { p with level:=l,hasUser:=A,hasPass:=B,wR:=C,wQ:=D,hasWill:=E,clean:=F }:=by obtain ⟨a,b,cc,d,ee,f⟩:=HM.out;rw [marksP,a,b,cc,d,ee,f]
 rw [EM];clear EM;rintro e v5 ⟨rfl,hr,hg⟩;have X5:=Hi hr;have BX5:Hid (v5.cell? ⟨w.heap.size,0,none⟩=some (.pointer (some ⟨rb,0,none⟩))):=hg.cell BX4.out (by have:=LR.out;have:=LW.out;simp;omega);clear hr hg HM BM;have bx:=BX5.out;go_wp2_with fail;go_must (go_at_call 266);clear bx;refine (zaU X5.out.rd).mono ?_;rw [<-H4.out];rintro e v6 ⟨rfl,hr,hg⟩;have X6:=Hi (X5.out.read hr hg);have BX6:Hid (v6.cell? ⟨w.heap.size,0,none⟩=some (.pointer (some ⟨rb,0,none⟩))):=hg.cell BX5.out (by have:=LR.out;have:=LW.out;simp;omega);clear hr hg;have e3:=X6.out.cell 3 (.int .i64 p.keep) rfl;have z3:=X6.out.frozen 3;obtain ⟨v7,hW⟩:∃ W,W=v6.setCell ⟨pb,3,none⟩ (.int .i64 k):=⟨_,rfl⟩;have X7:=(show Hid _ from X6.out.setS 3 (.int .i64 k) ({ p with level:=l,hasUser:=A,hasPass:=B,wR:=C,wQ:=D,hasWill:=E,clean:=F,keep:=k }) rfl rfl rfl rfl rfl rfl rfl);rw [<-hW] at X7;have BX7:Hid (v7.cell? ⟨w.heap.size,0,none⟩=some (.pointer (some ⟨rb,0,none⟩))):=by show _=_;rw [hW];exact bx_set BX6.out (by have:=LR.out;have:=LW.out;omega)
 go_upto_region 12 with fail;rw [<-hW];clear hW e3 z3;have bx:=BX7.out;go_wp2_with fail;go_must (go_at_call 289);clear bx;refine (zaR X7.out.rd).mono ?_;rw [<-H5.out];rintro e v8 ⟨rfl,hr,hg⟩;have X8:=Hi (X7.out.read hr hg);have BX8:Hid (v8.cell? ⟨w.heap.size,0,none⟩=some (.pointer (some ⟨rb,0,none⟩))):=hg.cell BX7.out (by have:=LR.out;have:=LW.out;simp;omega);clear hr hg;have e4:=X8.out.cell 4 (.string p.client) rfl;have z4:=X8.out.frozen 4;obtain ⟨v9,hW⟩:∃ W,W=v8.setCell ⟨pb,4,none⟩ (.string i):=⟨_,rfl⟩;have X9:=(show Hid _ from X8.out.setS 4 (.string i) ({ p with level:=l,hasUser:=A,hasPass:=B,wR:=C,wQ:=D,hasWill:=E,clean:=F,keep:=k,client:=i }) rfl rfl rfl rfl rfl rfl rfl);rw [<-hW] at X9;have BX9:Hid (v9.cell? ⟨w.heap.size,0,none⟩=some (.pointer (some ⟨rb,0,none⟩))):=by show _=_;rw [hW];exact bx_set BX8.out (by have:=LR.out;have:=LW.out;omega)
 go_upto_region 13 with fail;rw [<-hW];clear hW e4 z4;have e5:=X9.out.cell 5 (.bool E) rfl;cases E with
 | true =>
  have eq6:=H6.out.trans (if_pos rfl);obtain ⟨ra,hra⟩:∃ y,y=(rText z n r5).2:=⟨_,rfl⟩;have HT:Hid ((xt,ra)=rText z n r5):=by have a0:xt=(rText z n r5).1:=congrArg (fun y=>y.1.1) eq6;show _=_;rw [hra,a0]
  have HD:Hid (((xn,xz),r6)=rData z n ra):=by show _=_;have a:(xn,xz)=(rData z n (rText z n r5).2).1:=congrArg (fun y=>y.1.2) eq6;have b:r6=(rData z n (rText z n r5).2).2:=congrArg Prod.snd eq6;rw [hra,a,b]
  clear eq6 hra;go_upto_region 14 with fail;clear e5;have bx:=BX9.out;go_wp2_with fail;go_must (go_at_call 289);clear bx;refine (zaR X9.out.rd).mono ?_;rw [<-HT.out];rintro e v10 ⟨rfl,hr,hg⟩;have X10:=Hi (X9.out.read hr hg);have BX10:Hid (v10.cell? ⟨w.heap.size,0,none⟩=some (.pointer (some ⟨rb,0,none⟩))):=hg.cell BX9.out (by have:=LR.out;have:=LW.out;simp;omega);clear hr hg;have e6:=X10.out.cell 6 (.string p.wT) rfl;have z6:=X10.out.frozen 6;obtain ⟨v11,hW⟩:∃ W,W=v10.setCell ⟨pb,6,none⟩ (.string xt):=⟨_,rfl⟩;have X11:=(show Hid _ from X10.out.setS 6 (.string xt) ({ p with level:=l,hasUser:=A,hasPass:=B,wR:=C,wQ:=D,hasWill:=true,clean:=F,keep:=k,client:=i,wT:=xt }) rfl rfl rfl rfl rfl rfl rfl);rw [<-hW] at X11;have BX11:Hid (v11.cell? ⟨w.heap.size,0,none⟩=some (.pointer (some ⟨rb,0,none⟩))):=by show _=_;rw [hW];exact bx_set BX10.out (by have:=LR.out;have:=LW.out;omega)
  go_upto_region 15 with fail;rw [<-hW];clear hW e6 z6;have bx:=BX11.out;go_wp2_with fail;go_must (go_at_call 291);clear bx;refine (zc7 X11.out.rd).mono ?_;rw [<-HD.out];rintro e v12 ⟨⟨s12,rfl,hs⟩,hr,hg⟩;have X12:=Hi (X11.out.read hr hg);have BX12:Hid (v12.cell? ⟨w.heap.size,0,none⟩=some (.pointer (some ⟨rb,0,none⟩))):=hg.cell BX11.out (by have:=LR.out;have:=LW.out;simp;omega);have NS12:=(show Hid _ from hs);clear hs;clear hr hg;have e7:=X12.out.cell 7 (.slice p.wP.a p.wP.n p.wP.c) rfl;have z7:=X12.out.frozen 7;obtain ⟨v13,hW⟩:∃ W,W=v12.setCell ⟨pb,7,none⟩ (.slice s12.a s12.n s12.c):=⟨_,rfl⟩;have X13:Hid (Cs w0 v13 rb g n cp pb z r6 ({ p with level:=l,hasUser:=A,hasPass:=B,wR:=C,wQ:=D,hasWill:=true,clean:=F,keep:=k,client:=i,wT:=xt,wP:=s12 }) ({ c with wz:=xz })):=by have NX:Nx w0.heap.size s12:=fun b off e=>Nat.le_trans X11.out.size (NS12.out.2.2.1 b off e);have x:=X12.out.nx;show Cs _ _ _ _ _ _ _ _ _ _ _;rw [hW];refine X12.out.set 7 (.slice s12.a s12.n s12.c) ({ p with level:=l,hasUser:=A,hasPass:=B,wR:=C,wQ:=D,hasWill:=true,clean:=F,keep:=k,client:=i,wT:=xt,wP:=s12 }) ({ c with wz:=xz }) rfl (fun hk=>?_) ⟨NX,x.pass,x.mP,x.asks,x.codes,x.filters⟩ ⟨(NS12.out.2.2.2.lower X11.out.size),X12.out.ow.pass,X12.out.ow.mP,X12.out.ow.asks,X12.out.ow.codes,X12.out.ow.filters,X11.out.ow.put (fun k e=>(NS12.out.2.2.2.blk e).1) 0 _ rfl⟩;have q:=In.keep X12.out.inn x hk;have Q:By (v12.setCell ⟨pb,7,none⟩ (.slice s12.a s12.n s12.c)) s12 xz:=By.keep NS12.out.2.1 NX hk;exact ⟨Q,q.pass,q.mP,q.asks,q.codes,q.filters⟩
  have BX13:Hid (v13.cell? ⟨w.heap.size,0,none⟩=some (.pointer (some ⟨rb,0,none⟩))):=by show _=_;rw [hW];exact bx_set BX12.out (by have:=LR.out;have:=LW.out;omega)
  go_upto_region 16 with fail;rw [<-hW];clear hW e7 z7;have e10:=X13.out.cell 10 (.bool A) rfl;cases A with
  | true =>
   have HU:=(show Hid _ from H7.out.trans (if_pos rfl));go_upto_region 17 with fail;clear e10;have bx:=BX13.out;go_wp2_with fail;go_must (go_at_call 289);clear bx;refine (zaR X13.out.rd).mono ?_;rw [<-HU.out];rintro e v14 ⟨rfl,hr,hg⟩;have X14:=Hi (X13.out.read hr hg);have BX14:Hid (v14.cell? ⟨w.heap.size,0,none⟩=some (.pointer (some ⟨rb,0,none⟩))):=hg.cell BX13.out (by have:=LR.out;have:=LW.out;simp;omega);clear hr hg;have e11:=X14.out.cell 11 (.string p.user) rfl;have z11:=X14.out.frozen 11;obtain ⟨v15,hW⟩:∃ W,W=v14.setCell ⟨pb,11,none⟩ (.string us):=⟨_,rfl⟩;have X15:=(show Hid _ from X14.out.setS 11 (.string us) ({ p with level:=l,hasUser:=true,hasPass:=B,wR:=C,wQ:=D,hasWill:=true,clean:=F,keep:=k,client:=i,wT:=xt,wP:=s12,user:=us }) rfl rfl rfl rfl rfl rfl rfl);rw [<-hW] at X15;have BX15:Hid (v15.cell? ⟨w.heap.size,0,none⟩=some (.pointer (some ⟨rb,0,none⟩))):=by show _=_;rw [hW];exact bx_set BX14.out (by have:=LR.out;have:=LW.out;omega)
   go_upto_region 18 with fail;rw [<-hW];clear hW e11 z11;have e12:=X15.out.cell 12 (.bool B) rfl;cases B with
   | true =>
    have HP:=(show Hid _ from H8.out.trans (if_pos rfl));go_upto_region 19 with fail;clear e12;have bx:=BX15.out;go_wp2_with fail;go_must (go_at_call 291);clear bx;refine (zc7 X15.out.rd).mono ?_;rw [<-HP.out];rintro e v16 ⟨⟨s16,rfl,hs⟩,hr,hg⟩;have X16:=Hi (X15.out.read hr hg);have BX16:Hid (v16.cell? ⟨w.heap.size,0,none⟩=some (.pointer (some ⟨rb,0,none⟩))):=hg.cell BX15.out (by have:=LR.out;have:=LW.out;simp;omega);have NS16:=(show Hid _ from hs);clear hs;clear hr hg;have e13:=X16.out.cell 13 (.slice p.pass.a p.pass.n p.pass.c) rfl;have z13:=X16.out.frozen 13;obtain ⟨v17,hW⟩:∃ W,W=v16.setCell ⟨pb,13,none⟩ (.slice s16.a s16.n s16.c):=⟨_,rfl⟩;have X17:Hid (Cs w0 v17 rb g n cp pb z r8 ({ p with level:=l,hasUser:=true,hasPass:=true,wR:=C,wQ:=D,hasWill:=true,clean:=F,keep:=k,client:=i,wT:=xt,wP:=s12,user:=us,pass:=s16 }) ({ c with wz:=xz,pz:=sz })):=by have NX:Nx w0.heap.size s16:=fun b off e=>Nat.le_trans X15.out.size (NS16.out.2.2.1 b off e);have x:=X16.out.nx;show Cs _ _ _ _ _ _ _ _ _ _ _;rw [hW];refine X16.out.set 13 (.slice s16.a s16.n s16.c) ({ p with level:=l,hasUser:=true,hasPass:=true,wR:=C,wQ:=D,hasWill:=true,clean:=F,keep:=k,client:=i,wT:=xt,wP:=s12,user:=us,pass:=s16 }) ({ c with wz:=xz,pz:=sz }) rfl (fun hk=>?_) ⟨x.wP,NX,x.mP,x.asks,x.codes,x.filters⟩ ⟨X16.out.ow.wP,(NS16.out.2.2.2.lower X15.out.size),X16.out.ow.mP,X16.out.ow.asks,X16.out.ow.codes,X16.out.ow.filters,X15.out.ow.put (fun k e=>(NS16.out.2.2.2.blk e).1) 1 _ rfl⟩;have q:=In.keep X16.out.inn x hk;have Q:By (v16.setCell ⟨pb,13,none⟩ (.slice s16.a s16.n s16.c)) s16 sz:=By.keep NS16.out.2.1 NX hk;exact ⟨q.wP,Q,q.mP,q.asks,q.codes,q.filters⟩
    have BX17:Hid (v17.cell? ⟨w.heap.size,0,none⟩=some (.pointer (some ⟨rb,0,none⟩))):=by show _=_;rw [hW];exact bx_set BX16.out (by have:=LR.out;have:=LW.out;omega)
    go_upto_region 20 with fail;rw [<-hW];clear hW e13 z13;have bx:=BX17.out;go_wp2_with fail;go_must (go_at_call 267);clear bx;refine (zb1 X17.out.rd).mono ?_;rw [<-H9.out];rintro e v18 ⟨rfl,hr,hg⟩;have X18:=Hi (X17.out.read hr hg);have BX18:Hid (v18.cell? ⟨w.heap.size,0,none⟩=some (.pointer (some ⟨rb,0,none⟩))):=hg.cell BX17.out (by have:=LR.out;have:=LW.out;simp;omega);clear hr hg;have bx:=BX18.out;go_wp2_with fail;go_must (go_at_call 268);clear bx;have EE:R=if r9.q≠0 then .error (r9.p,r9.q) else .ok (r9,{ p with level:=l,hasUser:=true,hasPass:=true,wR:=C,wQ:=D,hasWill:=true,clean:=F,keep:=k,client:=i,wT:=xt,wP:=⟨none,xn,0⟩,user:=us,pass:=⟨none,sn,0⟩ },{ c with wz:=xz,pz:=sz }):=HE.out;have T:=zaJ X18.out ({ p with level:=l,hasUser:=true,hasPass:=true,wR:=C,wQ:=D,hasWill:=true,clean:=F,keep:=k,client:=i,wT:=xt,wP:=⟨none,xn,0⟩,user:=us,pass:=⟨none,sn,0⟩ }) ⟨s12,s16,p.mP,p.asks,p.codes,p.filters,rfl,NS12.out.1,NS16.out.1,rfl,rfl,rfl,rfl⟩;rw [<-EE] at T;refine T.mono ?_;rintro e w6 hO;obtain ⟨v,rfl⟩:=hO.ret;have HO:=(show Hid _ from hO);clear hO T EE;go_wp2;go_ret;exact HO.out
   | false => have eq8:=H8.out.trans (if_neg (by decide));simp only [Prod.mk.injEq] at eq8;obtain ⟨⟨rfl,rfl⟩,rfl⟩:=eq8;go_upto_region 20 with fail;clear e12;have bx:=BX15.out;go_wp2_with fail;go_must (go_at_call 267);clear bx;refine (zb1 X15.out.rd).mono ?_;rw [<-H9.out];rintro e v16 ⟨rfl,hr,hg⟩;have X16:=Hi (X15.out.read hr hg);have BX16:Hid (v16.cell? ⟨w.heap.size,0,none⟩=some (.pointer (some ⟨rb,0,none⟩))):=hg.cell BX15.out (by have:=LR.out;have:=LW.out;simp;omega);clear hr hg;have bx:=BX16.out;go_wp2_with fail;go_must (go_at_call 268);clear bx;have EE:R=if r9.q≠0 then .error (r9.p,r9.q) else .ok (r9,{ p with level:=l,hasUser:=true,hasPass:=false,wR:=C,wQ:=D,hasWill:=true,clean:=F,keep:=k,client:=i,wT:=xt,wP:=⟨none,xn,0⟩,user:=us,pass:=⟨none,p.pass.n,0⟩ },{ c with wz:=xz }):=HE.out;have T:=zaJ X16.out ({ p with level:=l,hasUser:=true,hasPass:=false,wR:=C,wQ:=D,hasWill:=true,clean:=F,keep:=k,client:=i,wT:=xt,wP:=⟨none,xn,0⟩,user:=us,pass:=⟨none,p.pass.n,0⟩ }) ⟨s12,p.pass,p.mP,p.asks,p.codes,p.filters,rfl,NS12.out.1,rfl,rfl,rfl,rfl,rfl⟩;rw [<-EE] at T;refine T.mono ?_;rintro e w6 hO;obtain ⟨v,rfl⟩:=hO.ret;have HO:=(show Hid _ from hO);clear hO T EE;go_wp2;go_ret;exact HO.out
  | false =>
   have eq7:=H7.out.trans (if_neg (by decide));simp only [Prod.mk.injEq] at eq7;obtain ⟨rfl,rfl⟩:=eq7;go_upto_region 18 with fail;clear e10;have e12:=X13.out.cell 12 (.bool B) rfl;cases B with
   | true =>
    have HP:=(show Hid _ from H8.out.trans (if_pos rfl));go_upto_region 19 with fail;clear e12;have bx:=BX13.out;go_wp2_with fail;go_must (go_at_call 291);clear bx;refine (zc7 X13.out.rd).mono ?_;rw [<-HP.out];rintro e v14 ⟨⟨s14,rfl,hs⟩,hr,hg⟩;have X14:=Hi (X13.out.read hr hg);have BX14:Hid (v14.cell? ⟨w.heap.size,0,none⟩=some (.pointer (some ⟨rb,0,none⟩))):=hg.cell BX13.out (by have:=LR.out;have:=LW.out;simp;omega);have NS14:=(show Hid _ from hs);clear hs;clear hr hg;have e13:=X14.out.cell 13 (.slice p.pass.a p.pass.n p.pass.c) rfl;have z13:=X14.out.frozen 13;obtain ⟨v15,hW⟩:∃ W,W=v14.setCell ⟨pb,13,none⟩ (.slice s14.a s14.n s14.c):=⟨_,rfl⟩;have X15:Hid (Cs w0 v15 rb g n cp pb z r8 ({ p with level:=l,hasUser:=false,hasPass:=true,wR:=C,wQ:=D,hasWill:=true,clean:=F,keep:=k,client:=i,wT:=xt,wP:=s12,pass:=s14 }) ({ c with wz:=xz,pz:=sz })):=by have NX:Nx w0.heap.size s14:=fun b off e=>Nat.le_trans X13.out.size (NS14.out.2.2.1 b off e);have x:=X14.out.nx;show Cs _ _ _ _ _ _ _ _ _ _ _;rw [hW];refine X14.out.set 13 (.slice s14.a s14.n s14.c) ({ p with level:=l,hasUser:=false,hasPass:=true,wR:=C,wQ:=D,hasWill:=true,clean:=F,keep:=k,client:=i,wT:=xt,wP:=s12,pass:=s14 }) ({ c with wz:=xz,pz:=sz }) rfl (fun hk=>?_) ⟨x.wP,NX,x.mP,x.asks,x.codes,x.filters⟩ ⟨X14.out.ow.wP,(NS14.out.2.2.2.lower X13.out.size),X14.out.ow.mP,X14.out.ow.asks,X14.out.ow.codes,X14.out.ow.filters,X13.out.ow.put (fun k e=>(NS14.out.2.2.2.blk e).1) 1 _ rfl⟩;have q:=In.keep X14.out.inn x hk;have Q:By (v14.setCell ⟨pb,13,none⟩ (.slice s14.a s14.n s14.c)) s14 sz:=By.keep NS14.out.2.1 NX hk;exact ⟨q.wP,Q,q.mP,q.asks,q.codes,q.filters⟩
    have BX15:Hid (v15.cell? ⟨w.heap.size,0,none⟩=some (.pointer (some ⟨rb,0,none⟩))):=by show _=_;rw [hW];exact bx_set BX14.out (by have:=LR.out;have:=LW.out;omega)
    go_upto_region 20 with fail;rw [<-hW];clear hW e13 z13;have bx:=BX15.out;go_wp2_with fail;go_must (go_at_call 267);clear bx;refine (zb1 X15.out.rd).mono ?_;rw [<-H9.out];rintro e v16 ⟨rfl,hr,hg⟩;have X16:=Hi (X15.out.read hr hg);have BX16:Hid (v16.cell? ⟨w.heap.size,0,none⟩=some (.pointer (some ⟨rb,0,none⟩))):=hg.cell BX15.out (by have:=LR.out;have:=LW.out;simp;omega);clear hr hg;have bx:=BX16.out;go_wp2_with fail;go_must (go_at_call 268);clear bx;have EE:R=if r9.q≠0 then .error (r9.p,r9.q) else .ok (r9,{ p with level:=l,hasUser:=false,hasPass:=true,wR:=C,wQ:=D,hasWill:=true,clean:=F,keep:=k,client:=i,wT:=xt,wP:=⟨none,xn,0⟩,user:=p.user,pass:=⟨none,sn,0⟩ },{ c with wz:=xz,pz:=sz }):=HE.out;have T:=zaJ X16.out ({ p with level:=l,hasUser:=false,hasPass:=true,wR:=C,wQ:=D,hasWill:=true,clean:=F,keep:=k,client:=i,wT:=xt,wP:=⟨none,xn,0⟩,user:=p.user,pass:=⟨none,sn,0⟩ }) ⟨s12,s14,p.mP,p.asks,p.codes,p.filters,rfl,NS12.out.1,NS14.out.1,rfl,rfl,rfl,rfl⟩;rw [<-EE] at T;refine T.mono ?_;rintro e w6 hO;obtain ⟨v,rfl⟩:=hO.ret;have HO:=(show Hid _ from hO);clear hO T EE;go_wp2;go_ret;exact HO.out
   | false => have eq8:=H8.out.trans (if_neg (by decide));simp only [Prod.mk.injEq] at eq8;obtain ⟨⟨rfl,rfl⟩,rfl⟩:=eq8;go_upto_region 20 with fail;clear e12;have bx:=BX13.out;go_wp2_with fail;go_must (go_at_call 267);clear bx;refine (zb1 X13.out.rd).mono ?_;rw [<-H9.out];rintro e v14 ⟨rfl,hr,hg⟩;have X14:=Hi (X13.out.read hr hg);have BX14:Hid (v14.cell? ⟨w.heap.size,0,none⟩=some (.pointer (some ⟨rb,0,none⟩))):=hg.cell BX13.out (by have:=LR.out;have:=LW.out;simp;omega);clear hr hg;have bx:=BX14.out;go_wp2_with fail;go_must (go_at_call 268);clear bx;have EE:R=if r9.q≠0 then .error (r9.p,r9.q) else .ok (r9,{ p with level:=l,hasUser:=false,hasPass:=false,wR:=C,wQ:=D,hasWill:=true,clean:=F,keep:=k,client:=i,wT:=xt,wP:=⟨none,xn,0⟩,user:=p.user,pass:=⟨none,p.pass.n,0⟩ },{ c with wz:=xz }):=HE.out;have T:=zaJ X14.out ({ p with level:=l,hasUser:=false,hasPass:=false,wR:=C,wQ:=D,hasWill:=true,clean:=F,keep:=k,client:=i,wT:=xt,wP:=⟨none,xn,0⟩,user:=p.user,pass:=⟨none,p.pass.n,0⟩ }) ⟨s12,p.pass,p.mP,p.asks,p.codes,p.filters,rfl,NS12.out.1,rfl,rfl,rfl,rfl,rfl⟩;rw [<-EE] at T;refine T.mono ?_;rintro e w6 hO;obtain ⟨v,rfl⟩:=hO.ret;have HO:=(show Hid _ from hO);clear hO T EE;go_wp2;go_ret;exact HO.out
 | false =>
  have eq6:=H6.out.trans (if_neg (by decide));simp only [Prod.mk.injEq] at eq6;obtain ⟨⟨rfl,rfl,rfl⟩,rfl⟩:=eq6;go_upto_region 16 with fail;clear e5;have e10:=X9.out.cell 10 (.bool A) rfl;cases A with
  | true =>
   have HU:=(show Hid _ from H7.out.trans (if_pos rfl));go_upto_region 17 with fail;clear e10;have bx:=BX9.out;go_wp2_with fail;go_must (go_at_call 289);clear bx;refine (zaR X9.out.rd).mono ?_;rw [<-HU.out];rintro e v10 ⟨rfl,hr,hg⟩;have X10:=Hi (X9.out.read hr hg);have BX10:Hid (v10.cell? ⟨w.heap.size,0,none⟩=some (.pointer (some ⟨rb,0,none⟩))):=hg.cell BX9.out (by have:=LR.out;have:=LW.out;simp;omega);clear hr hg;have e11:=X10.out.cell 11 (.string p.user) rfl;have z11:=X10.out.frozen 11;obtain ⟨v11,hW⟩:∃ W,W=v10.setCell ⟨pb,11,none⟩ (.string us):=⟨_,rfl⟩;have X11:=(show Hid _ from X10.out.setS 11 (.string us) ({ p with level:=l,hasUser:=true,hasPass:=B,wR:=C,wQ:=D,hasWill:=false,clean:=F,keep:=k,client:=i,user:=us }) rfl rfl rfl rfl rfl rfl rfl);rw [<-hW] at X11;have BX11:Hid (v11.cell? ⟨w.heap.size,0,none⟩=some (.pointer (some ⟨rb,0,none⟩))):=by show _=_;rw [hW];exact bx_set BX10.out (by have:=LR.out;have:=LW.out;omega)
   go_upto_region 18 with fail;rw [<-hW];clear hW e11 z11;have e12:=X11.out.cell 12 (.bool B) rfl;cases B with
   | true =>
    have HP:=(show Hid _ from H8.out.trans (if_pos rfl));go_upto_region 19 with fail;clear e12;have bx:=BX11.out;go_wp2_with fail;go_must (go_at_call 291);clear bx;refine (zc7 X11.out.rd).mono ?_;rw [<-HP.out];rintro e v12 ⟨⟨s12,rfl,hs⟩,hr,hg⟩;have X12:=Hi (X11.out.read hr hg);have BX12:Hid (v12.cell? ⟨w.heap.size,0,none⟩=some (.pointer (some ⟨rb,0,none⟩))):=hg.cell BX11.out (by have:=LR.out;have:=LW.out;simp;omega);have NS12:=(show Hid _ from hs);clear hs;clear hr hg;have e13:=X12.out.cell 13 (.slice p.pass.a p.pass.n p.pass.c) rfl;have z13:=X12.out.frozen 13;obtain ⟨v13,hW⟩:∃ W,W=v12.setCell ⟨pb,13,none⟩ (.slice s12.a s12.n s12.c):=⟨_,rfl⟩;have X13:Hid (Cs w0 v13 rb g n cp pb z r8 ({ p with level:=l,hasUser:=true,hasPass:=true,wR:=C,wQ:=D,hasWill:=false,clean:=F,keep:=k,client:=i,user:=us,pass:=s12 }) ({ c with pz:=sz })):=by have NX:Nx w0.heap.size s12:=fun b off e=>Nat.le_trans X11.out.size (NS12.out.2.2.1 b off e);have x:=X12.out.nx;show Cs _ _ _ _ _ _ _ _ _ _ _;rw [hW];refine X12.out.set 13 (.slice s12.a s12.n s12.c) ({ p with level:=l,hasUser:=true,hasPass:=true,wR:=C,wQ:=D,hasWill:=false,clean:=F,keep:=k,client:=i,user:=us,pass:=s12 }) ({ c with pz:=sz }) rfl (fun hk=>?_) ⟨x.wP,NX,x.mP,x.asks,x.codes,x.filters⟩ ⟨X12.out.ow.wP,(NS12.out.2.2.2.lower X11.out.size),X12.out.ow.mP,X12.out.ow.asks,X12.out.ow.codes,X12.out.ow.filters,X11.out.ow.put (fun k e=>(NS12.out.2.2.2.blk e).1) 1 _ rfl⟩;have q:=In.keep X12.out.inn x hk;have Q:By (v12.setCell ⟨pb,13,none⟩ (.slice s12.a s12.n s12.c)) s12 sz:=By.keep NS12.out.2.1 NX hk;exact ⟨q.wP,Q,q.mP,q.asks,q.codes,q.filters⟩
    have BX13:Hid (v13.cell? ⟨w.heap.size,0,none⟩=some (.pointer (some ⟨rb,0,none⟩))):=by show _=_;rw [hW];exact bx_set BX12.out (by have:=LR.out;have:=LW.out;omega)
    go_upto_region 20 with fail;rw [<-hW];clear hW e13 z13;have bx:=BX13.out;go_wp2_with fail;go_must (go_at_call 267);clear bx;refine (zb1 X13.out.rd).mono ?_;rw [<-H9.out];rintro e v14 ⟨rfl,hr,hg⟩;have X14:=Hi (X13.out.read hr hg);have BX14:Hid (v14.cell? ⟨w.heap.size,0,none⟩=some (.pointer (some ⟨rb,0,none⟩))):=hg.cell BX13.out (by have:=LR.out;have:=LW.out;simp;omega);clear hr hg;have bx:=BX14.out;go_wp2_with fail;go_must (go_at_call 268);clear bx;have EE:R=if r9.q≠0 then .error (r9.p,r9.q) else .ok (r9,{ p with level:=l,hasUser:=true,hasPass:=true,wR:=C,wQ:=D,hasWill:=false,clean:=F,keep:=k,client:=i,wT:=p.wT,wP:=⟨none,p.wP.n,0⟩,user:=us,pass:=⟨none,sn,0⟩ },{ c with pz:=sz }):=HE.out;have T:=zaJ X14.out ({ p with level:=l,hasUser:=true,hasPass:=true,wR:=C,wQ:=D,hasWill:=false,clean:=F,keep:=k,client:=i,wT:=p.wT,wP:=⟨none,p.wP.n,0⟩,user:=us,pass:=⟨none,sn,0⟩ }) ⟨p.wP,s12,p.mP,p.asks,p.codes,p.filters,rfl,rfl,NS12.out.1,rfl,rfl,rfl,rfl⟩;rw [<-EE] at T;refine T.mono ?_;rintro e w6 hO;obtain ⟨v,rfl⟩:=hO.ret;have HO:=(show Hid _ from hO);clear hO T EE;go_wp2;go_ret;exact HO.out
   | false => have eq8:=H8.out.trans (if_neg (by decide));simp only [Prod.mk.injEq] at eq8;obtain ⟨⟨rfl,rfl⟩,rfl⟩:=eq8;go_upto_region 20 with fail;clear e12;have bx:=BX11.out;go_wp2_with fail;go_must (go_at_call 267);clear bx;refine (zb1 X11.out.rd).mono ?_;rw [<-H9.out];rintro e v12 ⟨rfl,hr,hg⟩;have X12:=Hi (X11.out.read hr hg);have BX12:Hid (v12.cell? ⟨w.heap.size,0,none⟩=some (.pointer (some ⟨rb,0,none⟩))):=hg.cell BX11.out (by have:=LR.out;have:=LW.out;simp;omega);clear hr hg;have bx:=BX12.out;go_wp2_with fail;go_must (go_at_call 268);clear bx;have EE:R=if r9.q≠0 then .error (r9.p,r9.q) else .ok (r9,{ p with level:=l,hasUser:=true,hasPass:=false,wR:=C,wQ:=D,hasWill:=false,clean:=F,keep:=k,client:=i,wT:=p.wT,wP:=⟨none,p.wP.n,0⟩,user:=us,pass:=⟨none,p.pass.n,0⟩ },c):=HE.out;have T:=zaJ X12.out ({ p with level:=l,hasUser:=true,hasPass:=false,wR:=C,wQ:=D,hasWill:=false,clean:=F,keep:=k,client:=i,wT:=p.wT,wP:=⟨none,p.wP.n,0⟩,user:=us,pass:=⟨none,p.pass.n,0⟩ }) ⟨p.wP,p.pass,p.mP,p.asks,p.codes,p.filters,rfl,rfl,rfl,rfl,rfl,rfl,rfl⟩;rw [<-EE] at T;refine T.mono ?_;rintro e w6 hO;obtain ⟨v,rfl⟩:=hO.ret;have HO:=(show Hid _ from hO);clear hO T EE;go_wp2;go_ret;exact HO.out
  | false =>
   have eq7:=H7.out.trans (if_neg (by decide));simp only [Prod.mk.injEq] at eq7;obtain ⟨rfl,rfl⟩:=eq7;go_upto_region 18 with fail;clear e10;have e12:=X9.out.cell 12 (.bool B) rfl;cases B with
   | true =>
    have HP:=(show Hid _ from H8.out.trans (if_pos rfl));go_upto_region 19 with fail;clear e12;have bx:=BX9.out;go_wp2_with fail;go_must (go_at_call 291);clear bx;refine (zc7 X9.out.rd).mono ?_;rw [<-HP.out];rintro e v10 ⟨⟨s10,rfl,hs⟩,hr,hg⟩;have X10:=Hi (X9.out.read hr hg);have BX10:Hid (v10.cell? ⟨w.heap.size,0,none⟩=some (.pointer (some ⟨rb,0,none⟩))):=hg.cell BX9.out (by have:=LR.out;have:=LW.out;simp;omega);have NS10:=(show Hid _ from hs);clear hs;clear hr hg;have e13:=X10.out.cell 13 (.slice p.pass.a p.pass.n p.pass.c) rfl;have z13:=X10.out.frozen 13;obtain ⟨v11,hW⟩:∃ W,W=v10.setCell ⟨pb,13,none⟩ (.slice s10.a s10.n s10.c):=⟨_,rfl⟩;have X11:Hid (Cs w0 v11 rb g n cp pb z r8 ({ p with level:=l,hasUser:=false,hasPass:=true,wR:=C,wQ:=D,hasWill:=false,clean:=F,keep:=k,client:=i,pass:=s10 }) ({ c with pz:=sz })):=by have NX:Nx w0.heap.size s10:=fun b off e=>Nat.le_trans X9.out.size (NS10.out.2.2.1 b off e);have x:=X10.out.nx;show Cs _ _ _ _ _ _ _ _ _ _ _;rw [hW];refine X10.out.set 13 (.slice s10.a s10.n s10.c) ({ p with level:=l,hasUser:=false,hasPass:=true,wR:=C,wQ:=D,hasWill:=false,clean:=F,keep:=k,client:=i,pass:=s10 }) ({ c with pz:=sz }) rfl (fun hk=>?_) ⟨x.wP,NX,x.mP,x.asks,x.codes,x.filters⟩ ⟨X10.out.ow.wP,(NS10.out.2.2.2.lower X9.out.size),X10.out.ow.mP,X10.out.ow.asks,X10.out.ow.codes,X10.out.ow.filters,X9.out.ow.put (fun k e=>(NS10.out.2.2.2.blk e).1) 1 _ rfl⟩;have q:=In.keep X10.out.inn x hk;have Q:By (v10.setCell ⟨pb,13,none⟩ (.slice s10.a s10.n s10.c)) s10 sz:=By.keep NS10.out.2.1 NX hk;exact ⟨q.wP,Q,q.mP,q.asks,q.codes,q.filters⟩
    have BX11:Hid (v11.cell? ⟨w.heap.size,0,none⟩=some (.pointer (some ⟨rb,0,none⟩))):=by show _=_;rw [hW];exact bx_set BX10.out (by have:=LR.out;have:=LW.out;omega)
    go_upto_region 20 with fail;rw [<-hW];clear hW e13 z13;have bx:=BX11.out;go_wp2_with fail;go_must (go_at_call 267);clear bx;refine (zb1 X11.out.rd).mono ?_;rw [<-H9.out];rintro e v12 ⟨rfl,hr,hg⟩;have X12:=Hi (X11.out.read hr hg);have BX12:Hid (v12.cell? ⟨w.heap.size,0,none⟩=some (.pointer (some ⟨rb,0,none⟩))):=hg.cell BX11.out (by have:=LR.out;have:=LW.out;simp;omega);clear hr hg;have bx:=BX12.out;go_wp2_with fail;go_must (go_at_call 268);clear bx;have EE:R=if r9.q≠0 then .error (r9.p,r9.q) else .ok (r9,{ p with level:=l,hasUser:=false,hasPass:=true,wR:=C,wQ:=D,hasWill:=false,clean:=F,keep:=k,client:=i,wT:=p.wT,wP:=⟨none,p.wP.n,0⟩,user:=p.user,pass:=⟨none,sn,0⟩ },{ c with pz:=sz }):=HE.out;have T:=zaJ X12.out ({ p with level:=l,hasUser:=false,hasPass:=true,wR:=C,wQ:=D,hasWill:=false,clean:=F,keep:=k,client:=i,wT:=p.wT,wP:=⟨none,p.wP.n,0⟩,user:=p.user,pass:=⟨none,sn,0⟩ }) ⟨p.wP,s10,p.mP,p.asks,p.codes,p.filters,rfl,rfl,NS10.out.1,rfl,rfl,rfl,rfl⟩;rw [<-EE] at T;refine T.mono ?_;rintro e w6 hO;obtain ⟨v,rfl⟩:=hO.ret;have HO:=(show Hid _ from hO);clear hO T EE;go_wp2;go_ret;exact HO.out
   | false => have eq8:=H8.out.trans (if_neg (by decide));simp only [Prod.mk.injEq] at eq8;obtain ⟨⟨rfl,rfl⟩,rfl⟩:=eq8;go_upto_region 20 with fail;clear e12;have bx:=BX9.out;go_wp2_with fail;go_must (go_at_call 267);clear bx;refine (zb1 X9.out.rd).mono ?_;rw [<-H9.out];rintro e v10 ⟨rfl,hr,hg⟩;have X10:=Hi (X9.out.read hr hg);have BX10:Hid (v10.cell? ⟨w.heap.size,0,none⟩=some (.pointer (some ⟨rb,0,none⟩))):=hg.cell BX9.out (by have:=LR.out;have:=LW.out;simp;omega);clear hr hg;have bx:=BX10.out;go_wp2_with fail;go_must (go_at_call 268);clear bx;have EE:R=if r9.q≠0 then .error (r9.p,r9.q) else .ok (r9,{ p with level:=l,hasUser:=false,hasPass:=false,wR:=C,wQ:=D,hasWill:=false,clean:=F,keep:=k,client:=i,wT:=p.wT,wP:=⟨none,p.wP.n,0⟩,user:=p.user,pass:=⟨none,p.pass.n,0⟩ },c):=HE.out;have T:=zaJ X10.out ({ p with level:=l,hasUser:=false,hasPass:=false,wR:=C,wQ:=D,hasWill:=false,clean:=F,keep:=k,client:=i,wT:=p.wT,wP:=⟨none,p.wP.n,0⟩,user:=p.user,pass:=⟨none,p.pass.n,0⟩ }) ⟨p.wP,p.pass,p.mP,p.asks,p.codes,p.filters,rfl,rfl,rfl,rfl,rfl,rfl,rfl⟩;rw [<-EE] at T;refine T.mono ?_;rintro e w6 hO;obtain ⟨v,rfl⟩:=hO.ret;have HO:=(show Hid _ from hO);clear hO T EE;go_wp2;go_ret;exact HO.out
theorem connect_any (h:Cs w0 w rb g n cp pb z r p c) :
 Calls Tryz.prog 260 #[.agg #[.pointer (some ⟨rb,0,none⟩),.int .i64 n],.pointer (some ⟨pb,0,none⟩)] w fun e w'=>OutIs w0 w' e rb g n cp pb z (connectP z n r p c):=by
 by_cases hN:(rText z n r).2.q=0/\isM (rText z n r).1=false;· exact connect_odd h hN
 by_cases hq:(rText z n r).2.q=0;· exact connect_fine h hN hq
 · exact connect_dead h hN hq
end
section
variable {v w w0:World} {G cp g i n pb rb:Nat} {z:Nat->Int} {r:Rs} {p:Pk} {c:Cn} {u:Value}
theorem Tryz.info3:(Tryz.prog.info? 3).map (fun i=>(i.zero,i.size,i.bytes))=some (some (.int .i64 0),1,8):=by kernel_rfl
theorem Cs.extend {wx:World} (h:Cs w0 v rb g n cp pb z r p c) (hg:v.grownBy wx (some pb)) (p':Pk) (c':Cn) (hp:wx.heap[pb]?=some (.cells (pkCells p') 29 (0,0)))
 (hin:Keep w0.heap.size v wx->In wx p' c') (hnx:NxAll w0.heap.size p') (how:Ows w0.heap.size wx p'):Cs w0 wx rb g n cp pb z r p' c' where
 rd:=by refine ⟨h.rd.rd.grown hg (Ne.symm h.n1),⟨⟨h.rd.rb.own.1,fun j hj=>?_⟩,h.rd.rb.le,h.rd.rb.few,h.rd.rb.ne⟩,h.rd.le⟩;exact hg.cell (h.rd.rb.own.2 j hj) (by simpa using Ne.symm h.n2)
 pk:=hp
 lr:=h.lr
 lp:=h.lp
 n1:=h.n1
 n2:=h.n2
 inn:=hin fun a u ha hb=>hg.cell ha (by have:=h.lp;simp;omega)
 nx:=hnx
 os:=hg.os.trans h.os
 tape:=hg.tape.trans h.tape
 output:=hg.output.trans h.output
 size:=Nat.le_trans h.size hg.size
 block:=fun k hk h1 h2=>(hg.block k (Nat.lt_of_lt_of_le hk h.size) (by simpa using h2)).trans (h.block k hk h1 h2)
 ow:=how
theorem gb_fresh {w1:World} (h:v.grownBy w1 (some pb)) (hG:v.heap.size<=G):v.grownBy (w1.setCell ⟨G,i,none⟩ u) (some pb) :=
 ⟨h.os, h.tape, h.output, by have : (w1.setCell ⟨G, i, none⟩ u).heap.size = w1.heap.size := by simp [World.setCell]
                             rw [this];exact h.size,fun k hk hn=>(Below.heap_setCell w1 _ u k (by show k≠G;omega)).trans (h.block k hk hn)⟩
theorem row_set {t:Nat} {cs:Array Value} (h:w.heap[G]?=some (.cells cs t (0,0))):(w.setCell ⟨G,i,none⟩ u).heap[G]?=some (.cells (cs.setIfInBounds i u) t (0,0)):=zag h u
def subackP (z:Nat->Int) (n:Nat) (r:Rs) (p:Pk) (c:Cn):Rs×Pk×Cn := ((rRest z n (rNum z n r).2).2,{ p with id:=(rNum z n r).1,codes:=⟨none,(rRest z n (rNum z n r).2).1.1,0⟩ },{ c with cs:=(rRest z n (rNum z n r).2).1.2 })
theorem zdl :(rRest z n r).1.1<=n:=by
 unfold rRest;split;· exact Nat.zero_le _
 · exact Nat.sub_le _ _
theorem suback_any (h:Cs w0 w rb g n cp pb z r p c) :
 Calls Tryz.prog 264 #[.agg #[.pointer (some ⟨rb,0,none⟩),.int .i64 n],.pointer (some ⟨pb,0,none⟩)] w fun e w'=>e = .returned (.tuple #[])/\Done w0 w' rb g n cp pb z (subackP z n r p c):=by
 have LW:=Hi h.size;have LR:Hid (rb<w0.heap.size/\pb<w0.heap.size):=⟨h.lr,h.lp⟩;have NF:Hid (n<=1000000):=by have:=h.rd.rb.few;show n<=1000000;omega
 obtain ⟨Y,hY⟩:∃ Y,Y=subackP z n r p c:=⟨_,rfl⟩;rw [<-hY];obtain ⟨t,ht⟩:∃ t,t=rNum z n r:=⟨_,rfl⟩;obtain ⟨s,hs⟩:∃ s,s=rRest z n t.2:=⟨_,rfl⟩;have HS:Hid (Y=(s.2,{ p with id:=t.1,codes:=⟨none,s.1.1,0⟩ },{ c with cs:=s.1.2 })):=by show _=_;rw [hY,subackP,hs,ht]
 have SN:Hid (s.1.1<=n):=by show s.1.1<=n;rw [hs];exact zdl
 have H1:=Hi ht;have H2:=Hi hs;clear hY ht hs;obtain ⟨t,r1⟩:=t;obtain ⟨⟨sn,sz⟩,r2⟩:=s;simp only at H2 HS SN;have X0:Hid (Cs w0 (w.alloc (.cells #[.pointer (some ⟨rb,0,none⟩),.int .i64 n] 244)) rb g n cp pb z r p c):=h.below ((Below.refl _ _).alloc (Nat.le_refl _) _);have BX0:Hid ((w.alloc (.cells #[.pointer (some ⟨rb,0,none⟩),.int .i64 n] 244)).cell? ⟨w.heap.size,0,none⟩=some (.pointer (some ⟨rb,0,none⟩))):=by show _=_;simp [go_sem]
 clear h;obtain ⟨i0,hi,hz0,hz1,hz2⟩:=info_parts Tryz.info3;go_enter Tryz.func264,Tryz.ntmps264;have bx:=BX0.out;go_wp2_with fail;go_must (go_at_call 266);clear bx;refine (zaU X0.out.rd).mono ?_;rw [<-H1.out];rintro e v1 ⟨rfl,hr,hg⟩;have X1:=Hi (X0.out.read hr hg);have BX1:Hid (v1.cell? ⟨w.heap.size,0,none⟩=some (.pointer (some ⟨rb,0,none⟩))):=hg.cell BX0.out (by have:=LR.out;have:=LW.out;simp;omega);clear hr hg;have e21:=X1.out.cell 21 (.int .i64 p.id) rfl;have z21:=X1.out.frozen 21;obtain ⟨v2,hW⟩:∃ W,W=v1.setCell ⟨pb,21,none⟩ (.int .i64 t):=⟨_,rfl⟩;have X2:=(show Hid _ from X1.out.setS 21 (.int .i64 t) ({ p with id:=t }) rfl rfl rfl rfl rfl rfl rfl);rw [<-hW] at X2;have BX2:Hid (v2.cell? ⟨w.heap.size,0,none⟩=some (.pointer (some ⟨rb,0,none⟩))):=by show _=_;rw [hW];exact bx_set BX1.out (by have:=LR.out;have:=LW.out;omega)
 go_upto_region 2 with fail;rw [<-hW];clear hW e21 z21;have bx:=BX2.out;go_wp2_with fail;go_must (go_at_call 292);clear bx;refine (zdv X2.out.rd).mono ?_;rw [<-H2.out];rintro e v3 ⟨⟨s3,rfl,hs⟩,hr,hg⟩;have X3:=Hi (X2.out.read hr hg);have BX3:Hid (v3.cell? ⟨w.heap.size,0,none⟩=some (.pointer (some ⟨rb,0,none⟩))):=hg.cell BX2.out (by have:=LR.out;have:=LW.out;simp;omega);have NS3:=(show Hid _ from hs);clear hs;clear hr hg;obtain ⟨sa,sl,sc⟩:=s3;have hsl:sl=sn:=NS3.out.1;subst hsl;have fsn:sl<=1000000:=by have:=SN.out;have:=NF.out;omega
 go_wp2_with (refine wpList_make_full _ rfl (.tmp 18) (.tmp 18) 26 rfl v3.heap.size 3 i0 (.int .i64 0) 1 Tryz.underlying26 hi hz0 hz1 .i64 .i64 _ _ sl rfl rfl rfl rfl ?c1 ?c2 (Nat.le_refl _) ?_);case c1=>rw [hz2];omega
 case c2=>unfold maxLen;omega
 intro w1 hown hgr;have GP:Hid (v3.grownBy w1 (some pb)):=⟨hgr.os,hgr.tape,hgr.output,hgr.size,fun q hq _=>hgr.block q hq (by simp)⟩;have lp:pb<v3.heap.size:=lt_of_block X3.out.pk;have PB:Hid (w1.heap[pb]?=some (.cells (pkCells ({ p with id:=t })) 29 (0,0))):=(hgr.block pb lp (by simp)).trans X3.out.pk;have ROW:Hid (∃ cs,w1.heap[v3.heap.size]?=some (.cells cs 3 (0,0))/\cs.size=sl/\∀ j,j<sl->cs[j]?=some (.int .i64 0)):=by
  rcases hown.2 with ⟨e,_⟩|⟨gg,cap,cur,e,_,hb,_,_,hsz,htk⟩;· cases e
  · cases e
    simp only [Nat.mul_one] at hsz htk;refine ⟨cur,hb,hsz,fun j hj=>?_⟩;rw [toList_madeCells_one] at htk;rw [<-hsz,<-Array.length_toList,List.take_length] at htk;rw [<-Array.getElem?_toList,htk];simp [hj,hsz]
 clear hown hgr lp;have e23:w1.cell? ⟨pb,23,none⟩=some (.slice p.codes.a p.codes.n p.codes.c):=by have q:=PB.out;simp [World.cell?,q,pkCells]
 have z23:w1.frozen? ⟨pb,23,none⟩=false:=by have q:=PB.out;simp [World.frozen?,q]
 obtain ⟨w2,hW⟩:∃ W,W=w1.setCell ⟨pb,23,none⟩ (.slice (some ⟨v3.heap.size,0,none⟩) sl sl):=⟨_,rfl⟩;have GP2:Hid (v3.grownBy w2 (some pb)):=by show World.grownBy _ _ _;rw [hW];exact gb_set GP.out _ _
 have PB2:Hid (w2.heap[pb]?=some (.cells (pkCells ({ p with id:=t,codes:=⟨some ⟨v3.heap.size,0,none⟩,sl,sl⟩ })) 29 (0,0))):=by show _=_;rw [hW];exact zag PB.out _
 have ROW2:Hid (∃ cs,w2.heap[v3.heap.size]?=some (.cells cs 3 (0,0))/\cs.size=sl/\∀ j,j<sl->cs[j]?=some (.int .i64 0)):=by have lp:pb<v3.heap.size:=lt_of_block X3.out.pk;obtain ⟨cs,h1,h2,h3⟩:=ROW.out;refine ⟨cs,?_,h2,h3⟩;rw [hW];exact (Below.heap_setCell w1 _ _ v3.heap.size (by show v3.heap.size≠pb;omega)).trans h1
 go_upto_region 4 with fail;rw [<-hW];clear hW e23 z23 GP PB ROW;go_wp2_with fail;go_loopg [24] sl (fun gg s24 wx=>∃ j:Nat,s24 = .int .i64 j/\j+gg=sl/\Hid (v3.grownBy wx (some pb))/\Hid (wx.heap[pb]?=some (.cells (pkCells ({ p with id:=t,codes:=⟨some ⟨v3.heap.size,0,none⟩,sl,sl⟩ })) 29 (0,0)))/\Hid (∃ cs,wx.heap[v3.heap.size]?=some (.cells cs 3 (0,0))/\cs.size=sl/\(∀ i,i<j->cs[i]?=some (.int .i64 (sz i)))));case atStart=>exact ⟨0,rfl,by omega,GP2.out,PB2.out,by obtain ⟨cs,h1,h2,h3⟩:=ROW2.out;exact ⟨cs,h1,h2,fun i hi=>by omega⟩⟩
 case round =>
  obtain ⟨j,rfl,hjg,G1,P1,R1⟩:=hrel;by_cases hj:j<sl
  · obtain ⟨b,off,e,hc⟩:∃ b off,sa=some ⟨b,off,none⟩/\∀ i,i<sl->v3.cell? ⟨b,off+i,none⟩=some (.int .u8 (sz i)):=by
      rcases NS3.out.2.1.2.2 with q | q;· simp only at q;omega
      · exact q
    subst e;have bz:=NS3.out.2.1.2.1 j;have bp:b≠pb:=by have q:=NS3.out.2.2.1 b off rfl;have q2:=X2.out.lp;have q3:=X2.out.size;omega
    have cb:wr.cell? ⟨b,off+j,none⟩=some (.int .u8 (sz j)):=G1.out.cell (hc j hj) (by simpa using bp);have c23:wr.cell? ⟨pb,23,none⟩=some (.slice (some ⟨v3.heap.size,0,none⟩) sl sl):=by have q:=P1.out;simp [World.cell?,q,pkCells]
    obtain ⟨cs,hrow,hcs,hpre⟩:=R1.out;have RW:Hid (wr.heap[v3.heap.size]?=some (.cells cs 3 (0,0))/\cs.size=sl/\∀ i,i<j->cs[i]?=some (.int .i64 (sz i))):=⟨hrow,hcs,hpre⟩;obtain ⟨old,hold⟩:∃ old,wr.cell? ⟨v3.heap.size,j,none⟩=some old:=⟨cs[j]'(by omega),by simp [World.cell?,hrow,hcs,hj]⟩;have fz:wr.frozen? ⟨v3.heap.size,j,none⟩=false:=by simp [World.frozen?,hrow]
    clear hc hrow hcs hpre R1;obtain ⟨gg,hgg⟩:∃ gg,gk=gg+1:=⟨gk-1,by omega⟩;have HJ:Hid (j+1+gg=sl):=by show _=_;omega
    go_wp2;go_roundg gg;case measure=>omega
    case rel =>
     refine ⟨j+1,by simp,HJ.out,gb_fresh G1.out (Nat.le_refl _),?_,?_⟩
     · show _=_
       have lp:pb<v3.heap.size:=lt_of_block X3.out.pk;exact (Below.heap_setCell wr _ _ pb (by show pb≠v3.heap.size;omega)).trans P1.out
     · refine ⟨_,row_set RW.out.1,by simp [RW.out.2.1],fun i hi=>?_⟩
       by_cases hij:i=j;· subst hij;simp [RW.out.2.1,hj]
       · rw [Array.getElem?_setIfInBounds_ne (by omega)];exact RW.out.2.2 i (by omega)
  · have hjl:j=sl:=by omega
    go_wp2;go_end0;rw [HS.out];refine ⟨rfl,({ p with id:=t,codes:=⟨some ⟨v3.heap.size,0,none⟩,sl,sl⟩ }),X3.out.extend G1.out _ _ P1.out (fun hk=>?_) ?_ ?_,p.wP,p.pass,p.mP,p.asks,⟨some ⟨v3.heap.size,0,none⟩,sl,sl⟩,p.filters,rfl,rfl,rfl,rfl,rfl,rfl,rfl⟩
    · have q:=In.keep X3.out.inn X3.out.nx hk
      refine ⟨q.wP,q.pass,q.mP,q.asks,⟨Nat.le_refl _,.inr ⟨_,0,rfl,fun i hi=>?_⟩⟩,q.filters⟩;obtain ⟨cs,hrow,hcs,hpre⟩:=R1.out;have:=hpre i (by simp only at hi;omega);simp [World.cell?,hrow,this]
    · have q:=X3.out.nx
      exact ⟨q.wP,q.pass,q.mP,q.asks,fun b off e=>by cases e;exact X3.out.size,q.filters⟩
    · have o:=X3.out.ow.grown G1.out X3.out.lp
      obtain ⟨cs,hrow,hcs,hpre⟩:=R1.out;refine ⟨o.wP,o.pass,o.mP,o.asks,⟨cs.toList,by simp [hcs],.inr ⟨v3.heap.size,sl,cs,rfl,X3.out.size,hrow,Nat.le_refl _,?_,by simp [hcs],by rw [Nat.mul_one];exact List.take_of_length_le (by simp [hcs])⟩⟩,o.filters,X3.out.ow.put (s:=⟨some ⟨v3.heap.size,0,none⟩,sl,sl⟩) (fun k e=>by cases e;exact Nat.le_refl _) 4 _ rfl⟩;unfold maxLen;omega
end
set_option maxHeartbeats 1000000
theorem zbK {P:Program} (w:World) (base:Nat) (t ty e:TypeId) (i:TypeInfo) (z:Value) (size bytes:Nat) (ht:P.underlying t=some (.slice e)) (hi:P.info? e=some i) (hz:i.zero=some z)
 (hsize:i.size=size) (hby:i.bytes=bytes) (hzs:z.cells.size=size) (hsz:0<size) (v:Value) (n:Nat) (xs:List Value) (hown:w.ownsRow base e size v n xs) (a:Addr) (m c:Nat) (news:List Value) (hm:0<m) (hl:news.length=m*size) (hnews:∀ j u,news[j]?=some u->w.cell? (a.add j)=some u) (h1:∀ u ∈ news,u.oneCell'=true)
 (h63:n+m<=maxLen) (hbytes:(n+m)*bytes<=140737488355328) (hbase:base<=w.heap.size) :
 ∃ v' w',(Builtin.append_ #[t,t] ty #[v,.slice (some a) m c]).run P w = .ok v' w'/\w'.ownsRow base e size v' (n+m) (xs++news)/\w.grownBy w' v.ownBlock/\v'≠.slice none 0 0/\(v'.ownBlock=v.ownBlock\/v'.ownBlock=some w.heap.size):=by
 obtain ⟨v',w',hr,h2,h3,h4⟩:=run_append_own (P:=P) w base t ty e i z size bytes ht hi hz hsize hby hzs hsz v n xs hown a m c news hl hnews h1 h63 hbytes hbase;refine ⟨v',w',hr,h2,h3,fun q=>by have:=(h4.1 q).2;omega,?_⟩;subst hsize hby;have hsm:n+m<=9223372036854775807:=by simp only [maxLen] at h63;omega
 rcases hown.2 with ⟨rfl,rfl⟩|⟨g,cap,cur,rfl,_,hg,hnc,_,hcs,_⟩
 · have q:=run_append_nil (P:=P) w t ty e i z ht hi hz a m c news hl hnews hm (by omega) (by have hb:=hbytes;simp only [Nat.zero_add] at hb;omega)
   rw [q] at hr;cases hr;exact .inr rfl
 · by_cases hroom:n+m<=cap
   · have q:=run_append_room (P:=P) w t ty e i ht hi g n cap cur hg a m c news hl hnews h1 hroom (by rw [hl,hcs,<-Nat.add_mul];exact Nat.mul_le_mul_right _ hroom)
     rw [q] at hr;cases hr;exact .inl rfl
   · have q:=run_append_grow (P:=P) w t ty e i z ht hi hz ⟨g,0,none⟩ n cap xs hown.1 (hown.cells (g:=g) rfl) a m c news hl hnews (by omega) (by omega) (growslice_fits (by omega) hbytes)
     rw [q] at hr;cases hr;exact .inr rfl
theorem zbs {P:Program} {w:World} {ops:Array Oper} {o:Oper} {a:Act} {K:Act->World->Prop} {Q:Exit->Act->World->Prop} {E:Prop} (hgd:o.guard=none) (s x:Operand) (t:TypeId)
 (ho:o.op = .call { callee:=.builtin .append,args:=#[s,x],argTypes:=#[t,t] })
 (base:Nat) (e:TypeId) (i:TypeInfo) (z:Value) (size bytes:Nat) (ht:P.underlying t=some (.slice e)) (hi:P.info? e=some i) (hz:i.zero=some z) (hsize:i.size=size) (hby:i.bytes=bytes) (hzs:z.cells.size=size) (hsz:0<size) (v:Value) (n:Nat) (xs:List Value) (hs:a.eval s=v) (hown:w.ownsRow base e size v n xs)
 (ad:Addr) (m c:Nat) (news:List Value) (hx:a.eval x = .slice (some ad) m c) (hm:0<m) (hl:news.length=m*size) (hnews:∀ j u,news[j]?=some u->w.cell? (ad.add j)=some u) (h1:∀ u ∈ news,u.oneCell'=true)
 (h63:n+m<=maxLen) (hbytes:(n+m)*bytes<=140737488355328) (hbase:base<=w.heap.size) (h:∀ v' w',w'.ownsRow base e size v' (n+m) (xs++news)->w.grownBy w' v.ownBlock->v'≠.slice none 0 0->(v'.ownBlock=v.ownBlock\/v'.ownBlock=some w.heap.size)->K (a.put o.dst v') w') :
 if Region.wanted o (yielded ops a.tmps)=true then Oper.wp P o a w K Q else E:=by
 have hw:Region.wanted o (yielded ops a.tmps)=true:=by simp [Region.wanted,hgd]
 rw [if_pos hw];obtain ⟨v',w',hr,h2,h3,h4,h5⟩:=zbK (P:=P) w base t o.type e i z size bytes ht hi hz hsize hby hzs hsz v n xs hown ad m c news hm hl hnews h1 h63 hbytes hbase;unfold Oper.wp;simp [execOp,ho,resolve,invoke,builtin,hs,hx,hr,Result.andThen];exact h v' w' h2 h3 h4 h5
def more (n:Nat) (r:Rs):Bool:=decide (r.q=0) && decide (r.at0<n)
theorem left_dead (rb n:Nat) (bv:Value) (at0 p0 q0:Int) (w:World) (h:RdAt w rb bv at0 p0 q0) (hq:¬ q0=0) :
 Calls Tryz.prog 293 #[.agg #[.pointer (some ⟨rb,0,none⟩),.int .i64 n]] w fun e w'=>e = .returned (.bool false)/\Below w.heap.size w w':=by
 have R0:Hid (RdAt (w.alloc (.cells #[.pointer (some ⟨rb,0,none⟩),.int .i64 n] 244)).drew rb bv at0 p0 q0):=h.kept ((Below.refl _ _).alloc (Nat.le_refl _) _).drew;have HQ:=Hi hq;have BB:Hid (∀ w1,w1=(((w.alloc (.cells #[.pointer (some ⟨rb,0,none⟩),.int .i64 n] 244)).drew.alloc (.cells #[.int .i64 p0,.int .i64 q0] 134)).drew)->Below w.heap.size w w1):=fun w1 e=>by rw [e];exact (((((Below.refl _ _).alloc (Nat.le_refl _) _).drew).alloc (by simp) _).drew)
 clear h hq;go_enter Tryz.func293,Tryz.ntmps293;go_wp2;first | go_region_with (go_at_call 268;refine (zdE rb bv at0 p0 q0 _ R0.out HQ.out).mono ?_;rintro e w1 ⟨rfl,hee⟩;have B1:=(show Hid _ from BB.out _ hee);clear hee) | fail
 all_goals (go_wp2;go_ret;exact ⟨rfl,B1.out⟩)
theorem left_fine (rb n at0:Nat) (bv:Value) (p0:Int) (w:World) (h:RdAt w rb bv at0 p0 0) :
 Calls Tryz.prog 293 #[.agg #[.pointer (some ⟨rb,0,none⟩),.int .i64 n]] w fun e w'=>e = .returned (.bool (decide (at0<n)))/\Below w.heap.size w w':=by
 have R0:Hid (RdAt (w.alloc (.cells #[.pointer (some ⟨rb,0,none⟩),.int .i64 n] 244)) rb bv at0 p0 0):=h.kept ((Below.refl _ _).alloc (Nat.le_refl _) _);have BB:Hid (Below w.heap.size w (w.alloc (.cells #[.pointer (some ⟨rb,0,none⟩),.int .i64 n] 244))):=(Below.refl _ _).alloc (Nat.le_refl _) _;clear h;go_enter Tryz.func293,Tryz.ntmps293;go_wp2;go_quiet (first | (go_at_call 268;exact Calls.quiet_of_same (zdA rb bv at0 p0 _ R0.out))|(go_at_call 288;exact Calls.quiet_of_same (at_any rb bv at0 p0 0 _ R0.out)));go_wp2;go_ret;exact ⟨by simp,BB.out.os,BB.out.tape,BB.out.output,BB.out.size,BB.out.block⟩
theorem zeC {w:World} {rb g n cp:Nat} {z:Nat->Int} {r:Rs} (h:Rdr w rb g n cp z r) :
 Calls Tryz.prog 293 #[.agg #[.pointer (some ⟨rb,0,none⟩),.int .i64 n]] w fun e w'=>e = .returned (.bool (more n r))/\Below w.heap.size w w':=by
 unfold more;by_cases hq:r.q≠0
 · rw [decide_eq_false hq,Bool.false_and]
   exact left_dead rb n _ _ _ _ w h.rd hq
 · have hR:=h.rd
   rw [alive hq] at hR;rw [decide_eq_true (alive hq),Bool.true_and];exact left_fine rb n _ _ _ w hR
structure Co (w0 w:World) (rb g n cp pb:Nat) (z:Nat->Int) (r:Rs) (p:Pk):Prop where
 rd:Rdr w rb g n cp z r
 pk:w.heap[pb]?=some (.cells (pkCells p) 29 (0,0))
 lr:rb<w0.heap.size
 lp:pb<w0.heap.size
 n1:pb≠rb
 n2:pb≠g
 os:w.os=w0.os
 tape:w.tape=w0.tape
 output:w.output=w0.output
 size:w0.heap.size<=w.heap.size
 block:∀ k,k<w0.heap.size->k≠rb->k≠pb->w.heap[k]?=w0.heap[k]?
section
variable {w0 w w':World} {rb g n cp pb:Nat} {z:Nat->Int} {r r':Rs} {p:Pk} {c:Cn}
theorem Cs.co (h:Cs w0 w rb g n cp pb z r p c):Co w0 w rb g n cp pb z r p:=⟨h.rd,h.pk,h.lr,h.lp,h.n1,h.n2,h.os,h.tape,h.output,h.size,h.block⟩
theorem Co.cs (h:Co w0 w rb g n cp pb z r p) (hi:In w p c) (hn:NxAll w0.heap.size p) (how:Ows w0.heap.size w p):Cs w0 w rb g n cp pb z r p c:=⟨h.rd,h.pk,h.lr,h.lp,h.n1,h.n2,hi,hn,h.os,h.tape,h.output,h.size,h.block,how⟩
theorem Co.read (h:Co w0 w rb g n cp pb z r p) (hr:Rdr w' rb g n cp z r') (hg:w.grownBy w' (some rb)):Co w0 w' rb g n cp pb z r' p where
 rd:=hr
 pk:=(hg.block pb (lt_of_block h.pk) (by simpa using h.n1)).trans h.pk
 lr:=h.lr
 lp:=h.lp
 n1:=h.n1
 n2:=h.n2
 os:=hg.os.trans h.os
 tape:=hg.tape.trans h.tape
 output:=hg.output.trans h.output
 size:=Nat.le_trans h.size hg.size
 block:=fun k hk h1 h2=>(hg.block k (Nat.lt_of_lt_of_le hk h.size) (by simpa using h1)).trans (h.block k hk h1 h2)
theorem Co.set (h:Co w0 w rb g n cp pb z r p) (i:Nat) (v:Value) (p':Pk) (hp:(pkCells p).setIfInBounds i v=pkCells p'):Co w0 (w.setCell ⟨pb,i,none⟩ v) rb g n cp pb z r p' where
 rd:=h.rd.other h.n1 h.n2
 pk:=by rw [<-hp];exact zag h.pk v
 lr:=h.lr
 lp:=h.lp
 n1:=h.n1
 n2:=h.n2
 os:=h.os
 tape:=h.tape
 output:=h.output
 size:=by
  have:(w.setCell ⟨pb,i,none⟩ v).heap.size=w.heap.size:=by simp [World.setCell]
  rw [this];exact h.size
 block:=fun k hk h1 h2=>(Below.heap_setCell w _ v k (by show k≠pb;exact h2)).trans (h.block k hk h1 h2)
theorem Co.grow {B:Nat} {b:Option Nat} (h:Co w0 w rb g n cp pb z r p) (hg:w.grownBy w' b) (hb:∀ x,b=some x->B<=x) (hB:w0.heap.size<=B) (hgB:0<n->g<B):Co w0 w' rb g n cp pb z r p where
 rd:=by have lr:=h.lr;refine ⟨(hg.block rb (lt_of_block h.rd.rd) (fun e=>by have:=hb _ e.symm;omega)).trans h.rd.rd,⟨⟨h.rd.rb.own.1,fun j hj=>?_⟩,h.rd.rb.le,h.rd.rb.few,h.rd.rb.ne⟩,h.rd.le⟩;exact hg.cell (h.rd.rb.own.2 j hj) (fun e=>by have:=hb _ e.symm;have:=hgB (by omega);simp at *;omega)
 pk:=(hg.block pb (lt_of_block h.pk) (fun e=>by have:=hb _ e.symm;have:=h.lp;omega)).trans h.pk
 lr:=h.lr
 lp:=h.lp
 n1:=h.n1
 n2:=h.n2
 os:=hg.os.trans h.os
 tape:=hg.tape.trans h.tape
 output:=hg.output.trans h.output
 size:=Nat.le_trans h.size hg.size
 block:=fun k hk h1 h2=>(hg.block k (Nat.lt_of_lt_of_le hk h.size) (fun e=>by have:=hb _ e.symm;omega)).trans (h.block k hk h1 h2)
theorem Co.cell (h:Co w0 w rb g n cp pb z r p) (k:Nat) (v:Value) (hk:(pkCells p)[k]?=some v):w.cell? ⟨pb,k,none⟩=some v:=by simp [World.cell?,h.pk,hk]
theorem Co.frozen (h:Co w0 w rb g n cp pb z r p) (k:Nat):w.frozen? ⟨pb,k,none⟩=false:=by simp [World.frozen?,h.pk]
theorem Keep.trans {B:Nat} {w1 w2 w3:World} (h:Keep B w1 w2) (h':Keep B w2 w3):Keep B w1 w3:=fun a v ha hb=>h' a v (h a v ha hb) hb
theorem Keep.grow {D B:Nat} {w1 w2 w3:World} {b:Option Nat} (h:Keep D w1 w2) (hg:w2.grownBy w3 b) (hb:∀ x,b=some x->B<=x) (hB:w1.heap.size<=B):Keep D w1 w3:=fun a v ha hd => hg.cell (h a v ha hd) (fun e=>by have:=hb _ e.symm;have:=World.block_lt_of_cell? _ _ ha;omega)
end
theorem zc3 {w w':World} {base e size m:Nat} {v:Value} {xs:List Value} {b:Option Nat} (h:w.ownsRow base e size v m xs) (hg:w.grownBy w' b) (hb:∀ x,b=some x->x<base):w'.ownsRow base e size v m xs:=by
 refine ⟨h.1,?_⟩;rcases h.2 with hn | ⟨gg,cap,cur,rfl,h1,h2,rest⟩;· exact .inl hn
 · exact .inr ⟨gg,cap,cur,rfl,h1,(hg.block gg (lt_of_block h2) (fun e=>by have:=hb _ e.symm;omega)).trans h2,rest⟩
theorem ze3 {w:World} {pb i:Nat} {v:Value}:w.grownBy (w.setCell ⟨pb,i,none⟩ v) (some pb):=gb_set (zah _ _) _ _
theorem own_lt {w:World} {base e size m:Nat} {v:Value} {xs:List Value} (h:w.ownsRow base e size v m xs):∀ x,v.ownBlock=some x->base<=x:=by
 rcases h.2 with ⟨rfl,_⟩|⟨gg,cap,cur,rfl,h1,_⟩;· intro x e;cases e
 · intro x e;cases e;exact h1
theorem zbU {w:World} {base e size m:Nat} {v:Value} {xs:List Value} (h:w.ownsRow base e size v m xs) (hn:v≠.slice none 0 0):∃ s:Sl,v = .slice s.a s.n s.c/\s.n=m/\Nx base s:=by
 rcases h.2 with ⟨e,_⟩|⟨gg,cap,cur,rfl,h1,_⟩;· exact absurd e hn
 · exact ⟨⟨some ⟨gg,0,none⟩,m,cap⟩,rfl,rfl,fun b off e=>by cases e;exact h1⟩
end Go.Proofs.YtceigllifjgalaaGreatDoor
