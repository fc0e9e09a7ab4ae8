import Derived.Test.YtpldoeeahhaimaaGreatDoorFde
namespace Go.Proofs.YtpldoeeahhaimaaGreatDoor
open Go Go.RowKit
open Pkt (Pk Cn Sl In By Is Ss As pkCells)
set_option linter.unusedSimpArgs false
set_option linter.unusedVariables false
set_option maxRecDepth 100000
set_option maxHeartbeats 4000000
theorem connect_fine {w0 w:World} {rb g n cp pb:Nat} {z:Nat→Int} {r:Rs} {p:Pk} {c:Cn} (h:Cs w0 w rb g n cp pb z r p c) (hN:¬ ((rText z n r).2.q=0∧isM (rText z n r).1=false)) (hq:(rText z n r).2.q=0) :
    Calls Tryz.prog 93 #[.agg #[.pointer (some ⟨rb,0,none⟩),.int .i64 n],.pointer (some ⟨pb,0,none⟩)] w fun e w'=>OutIs w0 w' e rb g n cp pb z (connectP z n r p c):=by
  have LW:Hid (w0.heap.size≤w.heap.size):=h.size
  have LR:Hid (rb<w0.heap.size∧pb<w0.heap.size):=⟨h.lr,h.lp⟩
  obtain ⟨R,hR⟩:∃ R,R=connectP z n r p c:=⟨_,rfl⟩
  rw [← hR]
  have HR:Hid (R=connectP z n r p c):=hR
  clear hR
  obtain ⟨t,ht⟩:∃ t,t=rText z n r:=⟨_,rfl⟩
  rw [← ht] at hN hq
  have H1:Hid (t=rText z n r):=ht
  obtain ⟨l,hl⟩:∃ y,y=rByte z n t.2:=⟨_,rfl⟩
  obtain ⟨m,hm⟩:∃ y,y=rByte z n l.2:=⟨_,rfl⟩
  obtain ⟨k,hk⟩:∃ y,y=rNum z n m.2:=⟨_,rfl⟩
  obtain ⟨i,hi⟩:∃ y,y=rText z n k.2:=⟨_,rfl⟩
  obtain ⟨A,hA⟩:∃ y,mk m.1 128=y:=⟨_,rfl⟩
  obtain ⟨B,hB⟩:∃ y,mk m.1 64=y:=⟨_,rfl⟩
  obtain ⟨C,hC⟩:∃ y,mk m.1 32=y:=⟨_,rfl⟩
  obtain ⟨E,hE⟩:∃ y,mk m.1 4=y:=⟨_,rfl⟩
  obtain ⟨F,hF⟩:∃ y,mk m.1 2=y:=⟨_,rfl⟩
  obtain ⟨D,hD⟩:∃ y,bits .and .u8 m.1 24 / 8=y:=⟨_,rfl⟩
  obtain ⟨x,hx⟩:∃ y,y=cWill z n E i.2 p.wT (p.wP.n,c.wz):=⟨_,rfl⟩
  obtain ⟨u,hu⟩:∃ y,y=cUser z n A x.2 p.user:=⟨_,rfl⟩
  obtain ⟨s,hs⟩:∃ y,y=cPass z n B u.2 (p.pass.n,c.pz):=⟨_,rfl⟩
  obtain ⟨r9,hr9⟩:∃ y,y=rEnd n s.2:=⟨_,rfl⟩
  have HS:Hid (R=if badMarks m.1 then .error ((l.2.at0:Int),34) else if r9.q≠0 then .error (r9.p,r9.q) else .ok (r9,{ p with level:=l.1,hasUser:=A,hasPass:=B,wR:=C,wQ:=D,hasWill:=E,clean:=F,keep:=k.1,client:=i.1,wT:=x.1.1,wP:=⟨none,x.1.2.1,0⟩,user:=u.1,pass:=⟨none,s.1.1,0⟩ },{ c with wz:=x.1.2.2,pz:=s.1.2 })):=by
    show _=_
    rw [HR.out,connectP,← ht,if_neg hN,← hl,← hm,cMid,← hk,← hi,hE,← hx,hA,← hu,hB,← hs,← hr9,cEnd,hA,hB,hC,hD,hE,hF]
  have H2:Hid (l=rByte z n t.2):=hl
  have H3:Hid (m=rByte z n l.2):=hm
  have H4:Hid (k=rNum z n m.2):=hk
  have H5:Hid (i=rText z n k.2):=hi
  have H6:Hid (x=cWill z n E i.2 p.wT (p.wP.n,c.wz)):=hx
  have H7:Hid (u=cUser z n A x.2 p.user):=hu
  have H8:Hid (s=cPass z n B u.2 (p.pass.n,c.pz)):=hs
  have H9:Hid (r9=rEnd n s.2):=hr9
  have HM:Hid (mk m.1 128=A∧mk m.1 64=B∧mk m.1 32=C∧bits .and .u8 m.1 24 / 8=D∧mk m.1 4=E∧mk m.1 2=F):=⟨hA,hB,hC,hD,hE,hF⟩
  clear ht hl hm hk hi hx hu hs hr9 hA hB hC hD hE hF HR
  obtain ⟨t,r1⟩:=t
  obtain ⟨l,r2⟩:=l
  obtain ⟨m,r3⟩:=m
  obtain ⟨k,r4⟩:=k
  obtain ⟨i,r5⟩:=i
  obtain ⟨⟨xt,xn,xz⟩,r6⟩:=x
  obtain ⟨us,r7⟩:=u
  obtain ⟨⟨sn,sz⟩,r8⟩:=s
  simp only at H2 H3 H4 H5 H6 H7 H8 H9 HS HM hN
  simp only at hq
  have HQ:Hid (r1.q=0):=hq
  have ho:(t.toList==[77,81,84,84])=true:=by
    cases hc:isM t with
    | true=>exact hc
    | false=>exact absurd ⟨hq,hc⟩ hN
  clear hN hq
  have X0:Hid (Cs w0 (w.alloc (.cells #[.pointer (some ⟨rb,0,none⟩),.int .i64 n] 129)) rb g n cp pb z r p c):=h.below ((Below.refl _ _).alloc (Nat.le_refl _) _)
  have BX0:Hid ((w.alloc (.cells #[.pointer (some ⟨rb,0,none⟩),.int .i64 n] 129)).cell? ⟨w.heap.size,0,none⟩=some (.pointer (some ⟨rb,0,none⟩))):=by show _=_;simp [go_sem]
  clear h
  go_enter Tryz.func93,Tryz.ntmps93
  have bx:=BX0.out
  go_wp2_with (first | (go_at_call 122;refine (at_any rb _ _ _ _ _ X0.out.rd.rd).mono ?_;rintro e w' ⟨rfl,hee⟩;obtain rfl:=hee.symm;clear hee) | fail)
  go_must (go_at_call 123)
  clear bx
  refine (text_any X0.out.rd).mono ?_
  rw [← H1.out]
  rintro e v1 ⟨rfl,hr,hg⟩
  have X1:Hid (Cs w0 v1 rb g n cp pb z r1 p c):=X0.out.read hr hg
  have BX1:Hid (v1.cell? ⟨w.heap.size,0,none⟩=some (.pointer (some ⟨rb,0,none⟩))):=hg.cell BX0.out (by have:=LR.out;have:=LW.out;simp;omega)
  clear hr hg
  have bx:=BX1.out
  go_wp2_with fail
  go_must (go_at_call 101)
  clear bx
  refine (err_nil rb _ _ _ _ (by have h:=X1.out.rd.rd;rw [HQ.out] at h;exact h)).mono ?_
  rintro e w2 ⟨rfl,hee⟩
  obtain rfl:=hee.symm
  clear hee
  go_upto_region 5 with fail
  clear ho
  have bx:=BX1.out
  go_wp2_with fail
  go_must (go_at_call 65)
  clear bx
  refine (byte_any X1.out.rd).mono ?_
  rw [← H2.out]
  rintro e v2 ⟨rfl,hr,hg⟩
  have X2:Hid (Cs w0 v2 rb g n cp pb z r2 (p) (c)):=X1.out.read hr hg
  have BX2:Hid (v2.cell? ⟨w.heap.size,0,none⟩=some (.pointer (some ⟨rb,0,none⟩))):=hg.cell BX1.out (by have:=LR.out;have:=LW.out;simp;omega)
  clear hr hg
  have bl:0≤l∧l≤255:=by have h:=rByte_bd (z:=z) (n:=n) X1.out.rd;rw [← H2.out] at h;exact h
  have e1:=X2.out.cell 1 (.int .i64 p.level) rfl
  have z1:=X2.out.frozen 1
  obtain ⟨v3,hW⟩:∃ W,W=v2.setCell ⟨pb,1,none⟩ (.int .i64 l):=⟨_,rfl⟩
  have X3:=(show Hid _ from X2.out.setS 1 (.int .i64 l) ({ p with level:=l }) rfl rfl rfl rfl rfl rfl rfl)
  rw [← hW] at X3
  have BX3:Hid (v3.cell? ⟨w.heap.size,0,none⟩=some (.pointer (some ⟨rb,0,none⟩))):=by show _=_;rw [hW];exact bx_set BX2.out (by have:=LR.out;have:=LW.out;omega)
  go_upto_region 6 with fail
  rw [← hW]
  clear hW e1 z1
  clear bl
  have bm:0≤m∧m≤255:=by have h:=rByte_bd (z:=z) (n:=n) X3.out.rd;rw [← H3.out] at h;exact h
  have BM:Hid (0≤m∧m≤255):=bm
  clear bm
  have bx:=BX3.out
  go_wp2_with (first | (go_at_call 122;refine (at_any rb _ _ _ _ _ X3.out.rd.rd).mono ?_;rintro e w' ⟨rfl,hee⟩;obtain rfl:=hee.symm;clear hee) | fail)
  go_must (go_at_call 65)
  clear bx
  refine (byte_any X3.out.rd).mono ?_
  rw [← H3.out]
  rintro e v4 ⟨rfl,hr,hg⟩
  have X4:Hid (Cs w0 v4 rb g n cp pb z r3 ({ p with level:=l }) (c)):=X3.out.read hr hg
  have BX4:Hid (v4.cell? ⟨w.heap.size,0,none⟩=some (.pointer (some ⟨rb,0,none⟩))):=hg.cell BX3.out (by have:=LR.out;have:=LW.out;simp;omega)
  clear hr hg
  obtain ⟨a1,h1⟩:∃ y,(bits .and .u8 m 1 != 0)=y:=⟨_,rfl⟩
  obtain ⟨a2,h2⟩:∃ y,(bits .and .u8 m 24==24)=y:=⟨_,rfl⟩
  have HB:Hid (badMarks m=(a1 || a2)):=by show _=_;rw [badMarks,mk,h1,h2]
  cases a1 with
  | true =>
    have HE:Hid (R = .error ((r2.at0:Int),34)):=by show _=_;rw [HS.out,if_pos (show badMarks m=true from HB.out.trans rfl)]
    go_wp2_with fail
    go_must (go_at_call 63)
    refine (fault_any _ _ _).mono ?_
    rintro e w2 ⟨⟨gg,rfl,hgg⟩,hb⟩
    have Z:Hid (w2.heap[gg]?=some (.cells #[.int .i64 ((r2.at0:Int):Int),.int .i64 34] 81 (0,0))∧Fr2 w0 w2 rb pb):=⟨hgg,X4.out.fr.below hb⟩
    clear hgg hb
    go_wp2
    go_ret
    rw [HE.out]
    exact ⟨⟨gg,rfl,Z.out.1⟩,Z.out.2⟩
  | false =>
  cases a2 with
  | true =>
    have HE:Hid (R = .error ((r2.at0:Int),34)):=by show _=_;rw [HS.out,if_pos (show badMarks m=true from HB.out.trans rfl)]
    go_wp2_with fail
    go_must (go_at_call 63)
    refine (fault_any _ _ _).mono ?_
    rintro e w2 ⟨⟨gg,rfl,hgg⟩,hb⟩
    have Z:Hid (w2.heap[gg]?=some (.cells #[.int .i64 ((r2.at0:Int):Int),.int .i64 34] 81 (0,0))∧Fr2 w0 w2 rb pb):=⟨hgg,X4.out.fr.below hb⟩
    clear hgg hb
    go_wp2
    go_ret
    rw [HE.out]
    exact ⟨⟨gg,rfl,Z.out.1⟩,Z.out.2⟩
  | false =>
  have HE:Hid (R=if r9.q≠0 then .error (r9.p,r9.q) else .ok (r9,{ p with level:=l,hasUser:=A,hasPass:=B,wR:=C,wQ:=D,hasWill:=E,clean:=F,keep:=k,client:=i,wT:=xt,wP:=⟨none,xn,0⟩,user:=us,pass:=⟨none,sn,0⟩ },{ c with wz:=xz,pz:=sz })):=by show _=_;rw [HS.out,if_neg (by rw [HB.out];decide)]
  clear HS HB
  go_upto_region 10 with fail
  clear h1 h2
  go_wp2_with fail
  go_must (go_at_call 124)
  refine (marks_any m BM.out X4.out).mono ?_
  have EM:marksP ({ p with level:=l }) m = { p with level:=l,hasUser:=A,hasPass:=B,wR:=C,wQ:=D,hasWill:=E,clean:=F }:=by obtain ⟨a,b,cc,d,ee,f⟩:=HM.out;rw [marksP,a,b,cc,d,ee,f]
  rw [EM]
  clear EM
  rintro e v5 ⟨rfl,hr,hg⟩
  have X5:Hid (Cs w0 v5 rb g n cp pb z r3 ({ p with level:=l,hasUser:=A,hasPass:=B,wR:=C,wQ:=D,hasWill:=E,clean:=F }) (c)):=hr
  have BX5:Hid (v5.cell? ⟨w.heap.size,0,none⟩=some (.pointer (some ⟨rb,0,none⟩))):=hg.cell BX4.out (by have:=LR.out;have:=LW.out;simp;omega)
  clear hr hg HM BM
  have bx:=BX5.out
  go_wp2_with fail
  go_must (go_at_call 99)
  clear bx
  refine (number_any X5.out.rd).mono ?_
  rw [← H4.out]
  rintro e v6 ⟨rfl,hr,hg⟩
  have X6:Hid (Cs w0 v6 rb g n cp pb z r4 ({ p with level:=l,hasUser:=A,hasPass:=B,wR:=C,wQ:=D,hasWill:=E,clean:=F }) (c)):=X5.out.read hr hg
  have BX6:Hid (v6.cell? ⟨w.heap.size,0,none⟩=some (.pointer (some ⟨rb,0,none⟩))):=hg.cell BX5.out (by have:=LR.out;have:=LW.out;simp;omega)
  clear hr hg
  have e3:=X6.out.cell 3 (.int .i64 p.keep) rfl
  have z3:=X6.out.frozen 3
  obtain ⟨v7,hW⟩:∃ W,W=v6.setCell ⟨pb,3,none⟩ (.int .i64 k):=⟨_,rfl⟩
  have X7:=(show Hid _ from X6.out.setS 3 (.int .i64 k) ({ p with level:=l,hasUser:=A,hasPass:=B,wR:=C,wQ:=D,hasWill:=E,clean:=F,keep:=k }) rfl rfl rfl rfl rfl rfl rfl)
  rw [← hW] at X7
  have BX7:Hid (v7.cell? ⟨w.heap.size,0,none⟩=some (.pointer (some ⟨rb,0,none⟩))):=by show _=_;rw [hW];exact bx_set BX6.out (by have:=LR.out;have:=LW.out;omega)
  go_upto_region 12 with fail
  rw [← hW]
  clear hW e3 z3
  have bx:=BX7.out
  go_wp2_with fail
  go_must (go_at_call 123)
  clear bx
  refine (text_any X7.out.rd).mono ?_
  rw [← H5.out]
  rintro e v8 ⟨rfl,hr,hg⟩
  have X8:Hid (Cs w0 v8 rb g n cp pb z r5 ({ p with level:=l,hasUser:=A,hasPass:=B,wR:=C,wQ:=D,hasWill:=E,clean:=F,keep:=k }) (c)):=X7.out.read hr hg
  have BX8:Hid (v8.cell? ⟨w.heap.size,0,none⟩=some (.pointer (some ⟨rb,0,none⟩))):=hg.cell BX7.out (by have:=LR.out;have:=LW.out;simp;omega)
  clear hr hg
  have e4:=X8.out.cell 4 (.string p.client) rfl
  have z4:=X8.out.frozen 4
  obtain ⟨v9,hW⟩:∃ W,W=v8.setCell ⟨pb,4,none⟩ (.string i):=⟨_,rfl⟩
  have X9:=(show Hid _ from X8.out.setS 4 (.string i) ({ p with level:=l,hasUser:=A,hasPass:=B,wR:=C,wQ:=D,hasWill:=E,clean:=F,keep:=k,client:=i }) rfl rfl rfl rfl rfl rfl rfl)
  rw [← hW] at X9
  have BX9:Hid (v9.cell? ⟨w.heap.size,0,none⟩=some (.pointer (some ⟨rb,0,none⟩))):=by show _=_;rw [hW];exact bx_set BX8.out (by have:=LR.out;have:=LW.out;omega)
  go_upto_region 13 with fail
  rw [← hW]
  clear hW e4 z4
  have e5:=X9.out.cell 5 (.bool E) rfl
  cases E with
  | true =>
    have eq6:=H6.out.trans (if_pos rfl)
    obtain ⟨ra,hra⟩:∃ y,y=(rText z n r5).2:=⟨_,rfl⟩
    have HT:Hid ((xt,ra)=rText z n r5):=by have a0:xt=(rText z n r5).1:=congrArg (fun y=>y.1.1) eq6;show _=_;rw [hra,a0]
    have HD:Hid (((xn,xz),r6)=rData z n ra):=by
      show _=_
      have a:(xn,xz)=(rData z n (rText z n r5).2).1:=congrArg (fun y=>y.1.2) eq6
      have b:r6=(rData z n (rText z n r5).2).2:=congrArg Prod.snd eq6
      rw [hra,a,b]
    clear eq6 hra
    go_upto_region 14 with fail
    clear e5
    have bx:=BX9.out
    go_wp2_with fail
    go_must (go_at_call 123)
    clear bx
    refine (text_any X9.out.rd).mono ?_
    rw [← HT.out]
    rintro e v10 ⟨rfl,hr,hg⟩
    have X10:Hid (Cs w0 v10 rb g n cp pb z ra ({ p with level:=l,hasUser:=A,hasPass:=B,wR:=C,wQ:=D,hasWill:=true,clean:=F,keep:=k,client:=i }) (c)):=X9.out.read hr hg
    have BX10:Hid (v10.cell? ⟨w.heap.size,0,none⟩=some (.pointer (some ⟨rb,0,none⟩))):=hg.cell BX9.out (by have:=LR.out;have:=LW.out;simp;omega)
    clear hr hg
    have e6:=X10.out.cell 6 (.string p.wT) rfl
    have z6:=X10.out.frozen 6
    obtain ⟨v11,hW⟩:∃ W,W=v10.setCell ⟨pb,6,none⟩ (.string xt):=⟨_,rfl⟩
    have X11:=(show Hid _ from X10.out.setS 6 (.string xt) ({ p with level:=l,hasUser:=A,hasPass:=B,wR:=C,wQ:=D,hasWill:=true,clean:=F,keep:=k,client:=i,wT:=xt }) rfl rfl rfl rfl rfl rfl rfl)
    rw [← hW] at X11
    have BX11:Hid (v11.cell? ⟨w.heap.size,0,none⟩=some (.pointer (some ⟨rb,0,none⟩))):=by show _=_;rw [hW];exact bx_set BX10.out (by have:=LR.out;have:=LW.out;omega)
    go_upto_region 15 with fail
    rw [← hW]
    clear hW e6 z6
    have bx:=BX11.out
    go_wp2_with fail
    go_must (go_at_call 125)
    clear bx
    refine (data_any X11.out.rd).mono ?_
    rw [← HD.out]
    rintro e v12 ⟨⟨s12,rfl,hs⟩,hr,hg⟩
    have X12:Hid (Cs w0 v12 rb g n cp pb z r6 ({ p with level:=l,hasUser:=A,hasPass:=B,wR:=C,wQ:=D,hasWill:=true,clean:=F,keep:=k,client:=i,wT:=xt }) (c)):=X11.out.read hr hg
    have BX12:Hid (v12.cell? ⟨w.heap.size,0,none⟩=some (.pointer (some ⟨rb,0,none⟩))):=hg.cell BX11.out (by have:=LR.out;have:=LW.out;simp;omega)
    have NS12:=(show Hid _ from hs)
    clear hs
    clear hr hg
    have e7:=X12.out.cell 7 (.slice p.wP.a p.wP.n p.wP.c) rfl
    have z7:=X12.out.frozen 7
    obtain ⟨v13,hW⟩:∃ W,W=v12.setCell ⟨pb,7,none⟩ (.slice s12.a s12.n s12.c):=⟨_,rfl⟩
    have X13:Hid (Cs w0 v13 rb g n cp pb z r6 ({ p with level:=l,hasUser:=A,hasPass:=B,wR:=C,wQ:=D,hasWill:=true,clean:=F,keep:=k,client:=i,wT:=xt,wP:=s12 }) ({ c with wz:=xz })):=by
      have NX:Nx w0.heap.size s12:=fun b off e=>Nat.le_trans X11.out.size (NS12.out.2.2 b off e)
      have x:=X12.out.nx
      show Cs _ _ _ _ _ _ _ _ _ _ _
      rw [hW]
      refine X12.out.set 7 (.slice s12.a s12.n s12.c) ({ p with level:=l,hasUser:=A,hasPass:=B,wR:=C,wQ:=D,hasWill:=true,clean:=F,keep:=k,client:=i,wT:=xt,wP:=s12 }) ({ c with wz:=xz }) rfl (fun hk=>?_) ⟨NX,x.pass,x.mP,x.asks,x.codes,x.filters⟩
      have q:=In.keep X12.out.inn x hk
      have Q:By (v12.setCell ⟨pb,7,none⟩ (.slice s12.a s12.n s12.c)) s12 xz:=By.keep NS12.out.2.1 NX hk
      exact ⟨Q,q.pass,q.mP,q.asks,q.codes,q.filters⟩
    have BX13:Hid (v13.cell? ⟨w.heap.size,0,none⟩=some (.pointer (some ⟨rb,0,none⟩))):=by show _=_;rw [hW];exact bx_set BX12.out (by have:=LR.out;have:=LW.out;omega)
    go_upto_region 16 with fail
    rw [← hW]
    clear hW e7 z7
    have e10:=X13.out.cell 10 (.bool A) rfl
    cases A with
    | true =>
      have HU:=(show Hid _ from H7.out.trans (if_pos rfl))
      go_upto_region 17 with fail
      clear e10
      have bx:=BX13.out
      go_wp2_with fail
      go_must (go_at_call 123)
      clear bx
      refine (text_any X13.out.rd).mono ?_
      rw [← HU.out]
      rintro e v14 ⟨rfl,hr,hg⟩
      have X14:Hid (Cs w0 v14 rb g n cp pb z r7 ({ p with level:=l,hasUser:=true,hasPass:=B,wR:=C,wQ:=D,hasWill:=true,clean:=F,keep:=k,client:=i,wT:=xt,wP:=s12 }) ({ c with wz:=xz })):=X13.out.read hr hg
      have BX14:Hid (v14.cell? ⟨w.heap.size,0,none⟩=some (.pointer (some ⟨rb,0,none⟩))):=hg.cell BX13.out (by have:=LR.out;have:=LW.out;simp;omega)
      clear hr hg
      have e11:=X14.out.cell 11 (.string p.user) rfl
      have z11:=X14.out.frozen 11
      obtain ⟨v15,hW⟩:∃ W,W=v14.setCell ⟨pb,11,none⟩ (.string us):=⟨_,rfl⟩
      have X15:=(show Hid _ from X14.out.setS 11 (.string us) ({ p with level:=l,hasUser:=true,hasPass:=B,wR:=C,wQ:=D,hasWill:=true,clean:=F,keep:=k,client:=i,wT:=xt,wP:=s12,user:=us }) rfl rfl rfl rfl rfl rfl rfl)
      rw [← hW] at X15
      have BX15:Hid (v15.cell? ⟨w.heap.size,0,none⟩=some (.pointer (some ⟨rb,0,none⟩))):=by show _=_;rw [hW];exact bx_set BX14.out (by have:=LR.out;have:=LW.out;omega)
      go_upto_region 18 with fail
      rw [← hW]
      clear hW e11 z11
      have e12:=X15.out.cell 12 (.bool B) rfl
      cases B with
      | true =>
        have HP:=(show Hid _ from H8.out.trans (if_pos rfl))
        go_upto_region 19 with fail
        clear e12
        have bx:=BX15.out
        go_wp2_with fail
        go_must (go_at_call 125)
        clear bx
        refine (data_any X15.out.rd).mono ?_
        rw [← HP.out]
        rintro e v16 ⟨⟨s16,rfl,hs⟩,hr,hg⟩
        have X16:Hid (Cs w0 v16 rb g n cp pb z r8 ({ p with level:=l,hasUser:=true,hasPass:=true,wR:=C,wQ:=D,hasWill:=true,clean:=F,keep:=k,client:=i,wT:=xt,wP:=s12,user:=us }) ({ c with wz:=xz })):=X15.out.read hr hg
        have BX16:Hid (v16.cell? ⟨w.heap.size,0,none⟩=some (.pointer (some ⟨rb,0,none⟩))):=hg.cell BX15.out (by have:=LR.out;have:=LW.out;simp;omega)
        have NS16:=(show Hid _ from hs)
        clear hs
        clear hr hg
        have e13:=X16.out.cell 13 (.slice p.pass.a p.pass.n p.pass.c) rfl
        have z13:=X16.out.frozen 13
        obtain ⟨v17,hW⟩:∃ W,W=v16.setCell ⟨pb,13,none⟩ (.slice s16.a s16.n s16.c):=⟨_,rfl⟩
        have X17:Hid (Cs w0 v17 rb g n cp pb z r8 ({ p with level:=l,hasUser:=true,hasPass:=true,wR:=C,wQ:=D,hasWill:=true,clean:=F,keep:=k,client:=i,wT:=xt,wP:=s12,user:=us,pass:=s16 }) ({ c with wz:=xz,pz:=sz })):=by
          have NX:Nx w0.heap.size s16:=fun b off e=>Nat.le_trans X15.out.size (NS16.out.2.2 b off e)
          have x:=X16.out.nx
          show Cs _ _ _ _ _ _ _ _ _ _ _
          rw [hW]
          refine X16.out.set 13 (.slice s16.a s16.n s16.c) ({ p with level:=l,hasUser:=true,hasPass:=true,wR:=C,wQ:=D,hasWill:=true,clean:=F,keep:=k,client:=i,wT:=xt,wP:=s12,user:=us,pass:=s16 }) ({ c with wz:=xz,pz:=sz }) rfl (fun hk=>?_) ⟨x.wP,NX,x.mP,x.asks,x.codes,x.filters⟩
          have q:=In.keep X16.out.inn x hk
          have Q:By (v16.setCell ⟨pb,13,none⟩ (.slice s16.a s16.n s16.c)) s16 sz:=By.keep NS16.out.2.1 NX hk
          exact ⟨q.wP,Q,q.mP,q.asks,q.codes,q.filters⟩
        have BX17:Hid (v17.cell? ⟨w.heap.size,0,none⟩=some (.pointer (some ⟨rb,0,none⟩))):=by show _=_;rw [hW];exact bx_set BX16.out (by have:=LR.out;have:=LW.out;omega)
        go_upto_region 20 with fail
        rw [← hW]
        clear hW e13 z13
        have bx:=BX17.out
        go_wp2_with fail
        go_must (go_at_call 100)
        clear bx
        refine (end_any X17.out.rd).mono ?_
        rw [← H9.out]
        rintro e v18 ⟨rfl,hr,hg⟩
        have X18:Hid (Cs w0 v18 rb g n cp pb z r9 ({ p with level:=l,hasUser:=true,hasPass:=true,wR:=C,wQ:=D,hasWill:=true,clean:=F,keep:=k,client:=i,wT:=xt,wP:=s12,user:=us,pass:=s16 }) ({ c with wz:=xz,pz:=sz })):=X17.out.read hr hg
        have BX18:Hid (v18.cell? ⟨w.heap.size,0,none⟩=some (.pointer (some ⟨rb,0,none⟩))):=hg.cell BX17.out (by have:=LR.out;have:=LW.out;simp;omega)
        clear hr hg
        have bx:=BX18.out
        go_wp2_with fail
        go_must (go_at_call 101)
        clear bx
        have EE:R=if r9.q≠0 then .error (r9.p,r9.q) else .ok (r9,{ p with level:=l,hasUser:=true,hasPass:=true,wR:=C,wQ:=D,hasWill:=true,clean:=F,keep:=k,client:=i,wT:=xt,wP:=⟨none,xn,0⟩,user:=us,pass:=⟨none,sn,0⟩ },{ c with wz:=xz,pz:=sz }):=HE.out
        have T:=err_out X18.out ({ p with level:=l,hasUser:=true,hasPass:=true,wR:=C,wQ:=D,hasWill:=true,clean:=F,keep:=k,client:=i,wT:=xt,wP:=⟨none,xn,0⟩,user:=us,pass:=⟨none,sn,0⟩ }) ⟨s12,s16,p.mP,p.asks,p.codes,p.filters,rfl,NS12.out.1,NS16.out.1,rfl,rfl,rfl,rfl⟩
        rw [← EE] at T
        refine T.mono ?_
        rintro e w6 hO
        obtain ⟨v,rfl⟩:=hO.ret
        have HO:=(show Hid _ from hO)
        clear hO T EE
        go_wp2
        go_ret
        exact HO.out
      | false =>
        have eq8:=H8.out.trans (if_neg (by decide))
        simp only [Prod.mk.injEq] at eq8
        obtain ⟨⟨rfl,rfl⟩,rfl⟩:=eq8
        go_upto_region 20 with fail
        clear e12
        have bx:=BX15.out
        go_wp2_with fail
        go_must (go_at_call 100)
        clear bx
        refine (end_any X15.out.rd).mono ?_
        rw [← H9.out]
        rintro e v16 ⟨rfl,hr,hg⟩
        have X16:Hid (Cs w0 v16 rb g n cp pb z r9 ({ p with level:=l,hasUser:=true,hasPass:=false,wR:=C,wQ:=D,hasWill:=true,clean:=F,keep:=k,client:=i,wT:=xt,wP:=s12,user:=us }) ({ c with wz:=xz })):=X15.out.read hr hg
        have BX16:Hid (v16.cell? ⟨w.heap.size,0,none⟩=some (.pointer (some ⟨rb,0,none⟩))):=hg.cell BX15.out (by have:=LR.out;have:=LW.out;simp;omega)
        clear hr hg
        have bx:=BX16.out
        go_wp2_with fail
        go_must (go_at_call 101)
        clear bx
        have EE:R=if r9.q≠0 then .error (r9.p,r9.q) else .ok (r9,{ p with level:=l,hasUser:=true,hasPass:=false,wR:=C,wQ:=D,hasWill:=true,clean:=F,keep:=k,client:=i,wT:=xt,wP:=⟨none,xn,0⟩,user:=us,pass:=⟨none,p.pass.n,0⟩ },{ c with wz:=xz }):=HE.out
        have T:=err_out X16.out ({ p with level:=l,hasUser:=true,hasPass:=false,wR:=C,wQ:=D,hasWill:=true,clean:=F,keep:=k,client:=i,wT:=xt,wP:=⟨none,xn,0⟩,user:=us,pass:=⟨none,p.pass.n,0⟩ }) ⟨s12,p.pass,p.mP,p.asks,p.codes,p.filters,rfl,NS12.out.1,rfl,rfl,rfl,rfl,rfl⟩
        rw [← EE] at T
        refine T.mono ?_
        rintro e w6 hO
        obtain ⟨v,rfl⟩:=hO.ret
        have HO:=(show Hid _ from hO)
        clear hO T EE
        go_wp2
        go_ret
        exact HO.out
    | false =>
      have eq7:=H7.out.trans (if_neg (by decide))
      simp only [Prod.mk.injEq] at eq7
      obtain ⟨rfl,rfl⟩:=eq7
      go_upto_region 18 with fail
      clear e10
      have e12:=X13.out.cell 12 (.bool B) rfl
      cases B with
      | true =>
        have HP:=(show Hid _ from H8.out.trans (if_pos rfl))
        go_upto_region 19 with fail
        clear e12
        have bx:=BX13.out
        go_wp2_with fail
        go_must (go_at_call 125)
        clear bx
        refine (data_any X13.out.rd).mono ?_
        rw [← HP.out]
        rintro e v14 ⟨⟨s14,rfl,hs⟩,hr,hg⟩
        have X14:Hid (Cs w0 v14 rb g n cp pb z r8 ({ p with level:=l,hasUser:=false,hasPass:=true,wR:=C,wQ:=D,hasWill:=true,clean:=F,keep:=k,client:=i,wT:=xt,wP:=s12 }) ({ c with wz:=xz })):=X13.out.read hr hg
        have BX14:Hid (v14.cell? ⟨w.heap.size,0,none⟩=some (.pointer (some ⟨rb,0,none⟩))):=hg.cell BX13.out (by have:=LR.out;have:=LW.out;simp;omega)
        have NS14:=(show Hid _ from hs)
        clear hs
        clear hr hg
        have e13:=X14.out.cell 13 (.slice p.pass.a p.pass.n p.pass.c) rfl
        have z13:=X14.out.frozen 13
        obtain ⟨v15,hW⟩:∃ W,W=v14.setCell ⟨pb,13,none⟩ (.slice s14.a s14.n s14.c):=⟨_,rfl⟩
        have X15:Hid (Cs w0 v15 rb g n cp pb z r8 ({ p with level:=l,hasUser:=false,hasPass:=true,wR:=C,wQ:=D,hasWill:=true,clean:=F,keep:=k,client:=i,wT:=xt,wP:=s12,pass:=s14 }) ({ c with wz:=xz,pz:=sz })):=by
          have NX:Nx w0.heap.size s14:=fun b off e=>Nat.le_trans X13.out.size (NS14.out.2.2 b off e)
          have x:=X14.out.nx
          show Cs _ _ _ _ _ _ _ _ _ _ _
          rw [hW]
          refine X14.out.set 13 (.slice s14.a s14.n s14.c) ({ p with level:=l,hasUser:=false,hasPass:=true,wR:=C,wQ:=D,hasWill:=true,clean:=F,keep:=k,client:=i,wT:=xt,wP:=s12,pass:=s14 }) ({ c with wz:=xz,pz:=sz }) rfl (fun hk=>?_) ⟨x.wP,NX,x.mP,x.asks,x.codes,x.filters⟩
          have q:=In.keep X14.out.inn x hk
          have Q:By (v14.setCell ⟨pb,13,none⟩ (.slice s14.a s14.n s14.c)) s14 sz:=By.keep NS14.out.2.1 NX hk
          exact ⟨q.wP,Q,q.mP,q.asks,q.codes,q.filters⟩
        have BX15:Hid (v15.cell? ⟨w.heap.size,0,none⟩=some (.pointer (some ⟨rb,0,none⟩))):=by show _=_;rw [hW];exact bx_set BX14.out (by have:=LR.out;have:=LW.out;omega)
        go_upto_region 20 with fail
        rw [← hW]
        clear hW e13 z13
        have bx:=BX15.out
        go_wp2_with fail
        go_must (go_at_call 100)
        clear bx
        refine (end_any X15.out.rd).mono ?_
        rw [← H9.out]
        rintro e v16 ⟨rfl,hr,hg⟩
        have X16:Hid (Cs w0 v16 rb g n cp pb z r9 ({ p with level:=l,hasUser:=false,hasPass:=true,wR:=C,wQ:=D,hasWill:=true,clean:=F,keep:=k,client:=i,wT:=xt,wP:=s12,pass:=s14 }) ({ c with wz:=xz,pz:=sz })):=X15.out.read hr hg
        have BX16:Hid (v16.cell? ⟨w.heap.size,0,none⟩=some (.pointer (some ⟨rb,0,none⟩))):=hg.cell BX15.out (by have:=LR.out;have:=LW.out;simp;omega)
        clear hr hg
        have bx:=BX16.out
        go_wp2_with fail
        go_must (go_at_call 101)
        clear bx
        have EE:R=if r9.q≠0 then .error (r9.p,r9.q) else .ok (r9,{ p with level:=l,hasUser:=false,hasPass:=true,wR:=C,wQ:=D,hasWill:=true,clean:=F,keep:=k,client:=i,wT:=xt,wP:=⟨none,xn,0⟩,user:=p.user,pass:=⟨none,sn,0⟩ },{ c with wz:=xz,pz:=sz }):=HE.out
        have T:=err_out X16.out ({ p with level:=l,hasUser:=false,hasPass:=true,wR:=C,wQ:=D,hasWill:=true,clean:=F,keep:=k,client:=i,wT:=xt,wP:=⟨none,xn,0⟩,user:=p.user,pass:=⟨none,sn,0⟩ }) ⟨s12,s14,p.mP,p.asks,p.codes,p.filters,rfl,NS12.out.1,NS14.out.1,rfl,rfl,rfl,rfl⟩
        rw [← EE] at T
        refine T.mono ?_
        rintro e w6 hO
        obtain ⟨v,rfl⟩:=hO.ret
        have HO:=(show Hid _ from hO)
        clear hO T EE
        go_wp2
        go_ret
        exact HO.out
      | false =>
        have eq8:=H8.out.trans (if_neg (by decide))
        simp only [Prod.mk.injEq] at eq8
        obtain ⟨⟨rfl,rfl⟩,rfl⟩:=eq8
        go_upto_region 20 with fail
        clear e12
        have bx:=BX13.out
        go_wp2_with fail
        go_must (go_at_call 100)
        clear bx
        refine (end_any X13.out.rd).mono ?_
        rw [← H9.out]
        rintro e v14 ⟨rfl,hr,hg⟩
        have X14:Hid (Cs w0 v14 rb g n cp pb z r9 ({ p with level:=l,hasUser:=false,hasPass:=false,wR:=C,wQ:=D,hasWill:=true,clean:=F,keep:=k,client:=i,wT:=xt,wP:=s12 }) ({ c with wz:=xz })):=X13.out.read hr hg
        have BX14:Hid (v14.cell? ⟨w.heap.size,0,none⟩=some (.pointer (some ⟨rb,0,none⟩))):=hg.cell BX13.out (by have:=LR.out;have:=LW.out;simp;omega)
        clear hr hg
        have bx:=BX14.out
        go_wp2_with fail
        go_must (go_at_call 101)
        clear bx
        have EE:R=if r9.q≠0 then .error (r9.p,r9.q) else .ok (r9,{ p with level:=l,hasUser:=false,hasPass:=false,wR:=C,wQ:=D,hasWill:=true,clean:=F,keep:=k,client:=i,wT:=xt,wP:=⟨none,xn,0⟩,user:=p.user,pass:=⟨none,p.pass.n,0⟩ },{ c with wz:=xz }):=HE.out
        have T:=err_out X14.out ({ p with level:=l,hasUser:=false,hasPass:=false,wR:=C,wQ:=D,hasWill:=true,clean:=F,keep:=k,client:=i,wT:=xt,wP:=⟨none,xn,0⟩,user:=p.user,pass:=⟨none,p.pass.n,0⟩ }) ⟨s12,p.pass,p.mP,p.asks,p.codes,p.filters,rfl,NS12.out.1,rfl,rfl,rfl,rfl,rfl⟩
        rw [← EE] at T
        refine T.mono ?_
        rintro e w6 hO
        obtain ⟨v,rfl⟩:=hO.ret
        have HO:=(show Hid _ from hO)
        clear hO T EE
        go_wp2
        go_ret
        exact HO.out
  | false =>
    have eq6:=H6.out.trans (if_neg (by decide))
    simp only [Prod.mk.injEq] at eq6
    obtain ⟨⟨rfl,rfl,rfl⟩,rfl⟩:=eq6
    go_upto_region 16 with fail
    clear e5
    have e10:=X9.out.cell 10 (.bool A) rfl
    cases A with
    | true =>
      have HU:=(show Hid _ from H7.out.trans (if_pos rfl))
      go_upto_region 17 with fail
      clear e10
      have bx:=BX9.out
      go_wp2_with fail
      go_must (go_at_call 123)
      clear bx
      refine (text_any X9.out.rd).mono ?_
      rw [← HU.out]
      rintro e v10 ⟨rfl,hr,hg⟩
      have X10:Hid (Cs w0 v10 rb g n cp pb z r7 ({ p with level:=l,hasUser:=true,hasPass:=B,wR:=C,wQ:=D,hasWill:=false,clean:=F,keep:=k,client:=i }) (c)):=X9.out.read hr hg
      have BX10:Hid (v10.cell? ⟨w.heap.size,0,none⟩=some (.pointer (some ⟨rb,0,none⟩))):=hg.cell BX9.out (by have:=LR.out;have:=LW.out;simp;omega)
      clear hr hg
      have e11:=X10.out.cell 11 (.string p.user) rfl
      have z11:=X10.out.frozen 11
      obtain ⟨v11,hW⟩:∃ W,W=v10.setCell ⟨pb,11,none⟩ (.string us):=⟨_,rfl⟩
      have X11:=(show Hid _ from X10.out.setS 11 (.string us) ({ p with level:=l,hasUser:=true,hasPass:=B,wR:=C,wQ:=D,hasWill:=false,clean:=F,keep:=k,client:=i,user:=us }) rfl rfl rfl rfl rfl rfl rfl)
      rw [← hW] at X11
      have BX11:Hid (v11.cell? ⟨w.heap.size,0,none⟩=some (.pointer (some ⟨rb,0,none⟩))):=by show _=_;rw [hW];exact bx_set BX10.out (by have:=LR.out;have:=LW.out;omega)
      go_upto_region 18 with fail
      rw [← hW]
      clear hW e11 z11
      have e12:=X11.out.cell 12 (.bool B) rfl
      cases B with
      | true =>
        have HP:=(show Hid _ from H8.out.trans (if_pos rfl))
        go_upto_region 19 with fail
        clear e12
        have bx:=BX11.out
        go_wp2_with fail
        go_must (go_at_call 125)
        clear bx
        refine (data_any X11.out.rd).mono ?_
        rw [← HP.out]
        rintro e v12 ⟨⟨s12,rfl,hs⟩,hr,hg⟩
        have X12:Hid (Cs w0 v12 rb g n cp pb z r8 ({ p with level:=l,hasUser:=true,hasPass:=true,wR:=C,wQ:=D,hasWill:=false,clean:=F,keep:=k,client:=i,user:=us }) (c)):=X11.out.read hr hg
        have BX12:Hid (v12.cell? ⟨w.heap.size,0,none⟩=some (.pointer (some ⟨rb,0,none⟩))):=hg.cell BX11.out (by have:=LR.out;have:=LW.out;simp;omega)
        have NS12:=(show Hid _ from hs)
        clear hs
        clear hr hg
        have e13:=X12.out.cell 13 (.slice p.pass.a p.pass.n p.pass.c) rfl
        have z13:=X12.out.frozen 13
        obtain ⟨v13,hW⟩:∃ W,W=v12.setCell ⟨pb,13,none⟩ (.slice s12.a s12.n s12.c):=⟨_,rfl⟩
        have X13:Hid (Cs w0 v13 rb g n cp pb z r8 ({ p with level:=l,hasUser:=true,hasPass:=true,wR:=C,wQ:=D,hasWill:=false,clean:=F,keep:=k,client:=i,user:=us,pass:=s12 }) ({ c with pz:=sz })):=by
          have NX:Nx w0.heap.size s12:=fun b off e=>Nat.le_trans X11.out.size (NS12.out.2.2 b off e)
          have x:=X12.out.nx
          show Cs _ _ _ _ _ _ _ _ _ _ _
          rw [hW]
          refine X12.out.set 13 (.slice s12.a s12.n s12.c) ({ p with level:=l,hasUser:=true,hasPass:=true,wR:=C,wQ:=D,hasWill:=false,clean:=F,keep:=k,client:=i,user:=us,pass:=s12 }) ({ c with pz:=sz }) rfl (fun hk=>?_) ⟨x.wP,NX,x.mP,x.asks,x.codes,x.filters⟩
          have q:=In.keep X12.out.inn x hk
          have Q:By (v12.setCell ⟨pb,13,none⟩ (.slice s12.a s12.n s12.c)) s12 sz:=By.keep NS12.out.2.1 NX hk
          exact ⟨q.wP,Q,q.mP,q.asks,q.codes,q.filters⟩
        have BX13:Hid (v13.cell? ⟨w.heap.size,0,none⟩=some (.pointer (some ⟨rb,0,none⟩))):=by show _=_;rw [hW];exact bx_set BX12.out (by have:=LR.out;have:=LW.out;omega)
        go_upto_region 20 with fail
        rw [← hW]
        clear hW e13 z13
        have bx:=BX13.out
        go_wp2_with fail
        go_must (go_at_call 100)
        clear bx
        refine (end_any X13.out.rd).mono ?_
        rw [← H9.out]
        rintro e v14 ⟨rfl,hr,hg⟩
        have X14:Hid (Cs w0 v14 rb g n cp pb z r9 ({ p with level:=l,hasUser:=true,hasPass:=true,wR:=C,wQ:=D,hasWill:=false,clean:=F,keep:=k,client:=i,user:=us,pass:=s12 }) ({ c with pz:=sz })):=X13.out.read hr hg
        have BX14:Hid (v14.cell? ⟨w.heap.size,0,none⟩=some (.pointer (some ⟨rb,0,none⟩))):=hg.cell BX13.out (by have:=LR.out;have:=LW.out;simp;omega)
        clear hr hg
        have bx:=BX14.out
        go_wp2_with fail
        go_must (go_at_call 101)
        clear bx
        have EE:R=if r9.q≠0 then .error (r9.p,r9.q) else .ok (r9,{ p with level:=l,hasUser:=true,hasPass:=true,wR:=C,wQ:=D,hasWill:=false,clean:=F,keep:=k,client:=i,wT:=p.wT,wP:=⟨none,p.wP.n,0⟩,user:=us,pass:=⟨none,sn,0⟩ },{ c with pz:=sz }):=HE.out
        have T:=err_out X14.out ({ p with level:=l,hasUser:=true,hasPass:=true,wR:=C,wQ:=D,hasWill:=false,clean:=F,keep:=k,client:=i,wT:=p.wT,wP:=⟨none,p.wP.n,0⟩,user:=us,pass:=⟨none,sn,0⟩ }) ⟨p.wP,s12,p.mP,p.asks,p.codes,p.filters,rfl,rfl,NS12.out.1,rfl,rfl,rfl,rfl⟩
        rw [← EE] at T
        refine T.mono ?_
        rintro e w6 hO
        obtain ⟨v,rfl⟩:=hO.ret
        have HO:=(show Hid _ from hO)
        clear hO T EE
        go_wp2
        go_ret
        exact HO.out
      | false =>
        have eq8:=H8.out.trans (if_neg (by decide))
        simp only [Prod.mk.injEq] at eq8
        obtain ⟨⟨rfl,rfl⟩,rfl⟩:=eq8
        go_upto_region 20 with fail
        clear e12
        have bx:=BX11.out
        go_wp2_with fail
        go_must (go_at_call 100)
        clear bx
        refine (end_any X11.out.rd).mono ?_
        rw [← H9.out]
        rintro e v12 ⟨rfl,hr,hg⟩
        have X12:Hid (Cs w0 v12 rb g n cp pb z r9 ({ p with level:=l,hasUser:=true,hasPass:=false,wR:=C,wQ:=D,hasWill:=false,clean:=F,keep:=k,client:=i,user:=us }) (c)):=X11.out.read hr hg
        have BX12:Hid (v12.cell? ⟨w.heap.size,0,none⟩=some (.pointer (some ⟨rb,0,none⟩))):=hg.cell BX11.out (by have:=LR.out;have:=LW.out;simp;omega)
        clear hr hg
        have bx:=BX12.out
        go_wp2_with fail
        go_must (go_at_call 101)
        clear bx
        have EE:R=if r9.q≠0 then .error (r9.p,r9.q) else .ok (r9,{ p with level:=l,hasUser:=true,hasPass:=false,wR:=C,wQ:=D,hasWill:=false,clean:=F,keep:=k,client:=i,wT:=p.wT,wP:=⟨none,p.wP.n,0⟩,user:=us,pass:=⟨none,p.pass.n,0⟩ },c):=HE.out
        have T:=err_out X12.out ({ p with level:=l,hasUser:=true,hasPass:=false,wR:=C,wQ:=D,hasWill:=false,clean:=F,keep:=k,client:=i,wT:=p.wT,wP:=⟨none,p.wP.n,0⟩,user:=us,pass:=⟨none,p.pass.n,0⟩ }) ⟨p.wP,p.pass,p.mP,p.asks,p.codes,p.filters,rfl,rfl,rfl,rfl,rfl,rfl,rfl⟩
        rw [← EE] at T
        refine T.mono ?_
        rintro e w6 hO
        obtain ⟨v,rfl⟩:=hO.ret
        have HO:=(show Hid _ from hO)
        clear hO T EE
        go_wp2
        go_ret
        exact HO.out
    | false =>
      have eq7:=H7.out.trans (if_neg (by decide))
      simp only [Prod.mk.injEq] at eq7
      obtain ⟨rfl,rfl⟩:=eq7
      go_upto_region 18 with fail
      clear e10
      have e12:=X9.out.cell 12 (.bool B) rfl
      cases B with
      | true =>
        have HP:=(show Hid _ from H8.out.trans (if_pos rfl))
        go_upto_region 19 with fail
        clear e12
        have bx:=BX9.out
        go_wp2_with fail
        go_must (go_at_call 125)
        clear bx
        refine (data_any X9.out.rd).mono ?_
        rw [← HP.out]
        rintro e v10 ⟨⟨s10,rfl,hs⟩,hr,hg⟩
        have X10:Hid (Cs w0 v10 rb g n cp pb z r8 ({ p with level:=l,hasUser:=false,hasPass:=true,wR:=C,wQ:=D,hasWill:=false,clean:=F,keep:=k,client:=i }) (c)):=X9.out.read hr hg
        have BX10:Hid (v10.cell? ⟨w.heap.size,0,none⟩=some (.pointer (some ⟨rb,0,none⟩))):=hg.cell BX9.out (by have:=LR.out;have:=LW.out;simp;omega)
        have NS10:=(show Hid _ from hs)
        clear hs
        clear hr hg
        have e13:=X10.out.cell 13 (.slice p.pass.a p.pass.n p.pass.c) rfl
        have z13:=X10.out.frozen 13
        obtain ⟨v11,hW⟩:∃ W,W=v10.setCell ⟨pb,13,none⟩ (.slice s10.a s10.n s10.c):=⟨_,rfl⟩
        have X11:Hid (Cs w0 v11 rb g n cp pb z r8 ({ p with level:=l,hasUser:=false,hasPass:=true,wR:=C,wQ:=D,hasWill:=false,clean:=F,keep:=k,client:=i,pass:=s10 }) ({ c with pz:=sz })):=by
          have NX:Nx w0.heap.size s10:=fun b off e=>Nat.le_trans X9.out.size (NS10.out.2.2 b off e)
          have x:=X10.out.nx
          show Cs _ _ _ _ _ _ _ _ _ _ _
          rw [hW]
          refine X10.out.set 13 (.slice s10.a s10.n s10.c) ({ p with level:=l,hasUser:=false,hasPass:=true,wR:=C,wQ:=D,hasWill:=false,clean:=F,keep:=k,client:=i,pass:=s10 }) ({ c with pz:=sz }) rfl (fun hk=>?_) ⟨x.wP,NX,x.mP,x.asks,x.codes,x.filters⟩
          have q:=In.keep X10.out.inn x hk
          have Q:By (v10.setCell ⟨pb,13,none⟩ (.slice s10.a s10.n s10.c)) s10 sz:=By.keep NS10.out.2.1 NX hk
          exact ⟨q.wP,Q,q.mP,q.asks,q.codes,q.filters⟩
        have BX11:Hid (v11.cell? ⟨w.heap.size,0,none⟩=some (.pointer (some ⟨rb,0,none⟩))):=by show _=_;rw [hW];exact bx_set BX10.out (by have:=LR.out;have:=LW.out;omega)
        go_upto_region 20 with fail
        rw [← hW]
        clear hW e13 z13
        have bx:=BX11.out
        go_wp2_with fail
        go_must (go_at_call 100)
        clear bx
        refine (end_any X11.out.rd).mono ?_
        rw [← H9.out]
        rintro e v12 ⟨rfl,hr,hg⟩
        have X12:Hid (Cs w0 v12 rb g n cp pb z r9 ({ p with level:=l,hasUser:=false,hasPass:=true,wR:=C,wQ:=D,hasWill:=false,clean:=F,keep:=k,client:=i,pass:=s10 }) ({ c with pz:=sz })):=X11.out.read hr hg
        have BX12:Hid (v12.cell? ⟨w.heap.size,0,none⟩=some (.pointer (some ⟨rb,0,none⟩))):=hg.cell BX11.out (by have:=LR.out;have:=LW.out;simp;omega)
        clear hr hg
        have bx:=BX12.out
        go_wp2_with fail
        go_must (go_at_call 101)
        clear bx
        have EE:R=if r9.q≠0 then .error (r9.p,r9.q) else .ok (r9,{ p with level:=l,hasUser:=false,hasPass:=true,wR:=C,wQ:=D,hasWill:=false,clean:=F,keep:=k,client:=i,wT:=p.wT,wP:=⟨none,p.wP.n,0⟩,user:=p.user,pass:=⟨none,sn,0⟩ },{ c with pz:=sz }):=HE.out
        have T:=err_out X12.out ({ p with level:=l,hasUser:=false,hasPass:=true,wR:=C,wQ:=D,hasWill:=false,clean:=F,keep:=k,client:=i,wT:=p.wT,wP:=⟨none,p.wP.n,0⟩,user:=p.user,pass:=⟨none,sn,0⟩ }) ⟨p.wP,s10,p.mP,p.asks,p.codes,p.filters,rfl,rfl,NS10.out.1,rfl,rfl,rfl,rfl⟩
        rw [← EE] at T
        refine T.mono ?_
        rintro e w6 hO
        obtain ⟨v,rfl⟩:=hO.ret
        have HO:=(show Hid _ from hO)
        clear hO T EE
        go_wp2
        go_ret
        exact HO.out
      | false =>
        have eq8:=H8.out.trans (if_neg (by decide))
        simp only [Prod.mk.injEq] at eq8
        obtain ⟨⟨rfl,rfl⟩,rfl⟩:=eq8
        go_upto_region 20 with fail
        clear e12
        have bx:=BX9.out
        go_wp2_with fail
        go_must (go_at_call 100)
        clear bx
        refine (end_any X9.out.rd).mono ?_
        rw [← H9.out]
        rintro e v10 ⟨rfl,hr,hg⟩
        have X10:Hid (Cs w0 v10 rb g n cp pb z r9 ({ p with level:=l,hasUser:=false,hasPass:=false,wR:=C,wQ:=D,hasWill:=false,clean:=F,keep:=k,client:=i }) (c)):=X9.out.read hr hg
        have BX10:Hid (v10.cell? ⟨w.heap.size,0,none⟩=some (.pointer (some ⟨rb,0,none⟩))):=hg.cell BX9.out (by have:=LR.out;have:=LW.out;simp;omega)
        clear hr hg
        have bx:=BX10.out
        go_wp2_with fail
        go_must (go_at_call 101)
        clear bx
        have EE:R=if r9.q≠0 then .error (r9.p,r9.q) else .ok (r9,{ p with level:=l,hasUser:=false,hasPass:=false,wR:=C,wQ:=D,hasWill:=false,clean:=F,keep:=k,client:=i,wT:=p.wT,wP:=⟨none,p.wP.n,0⟩,user:=p.user,pass:=⟨none,p.pass.n,0⟩ },c):=HE.out
        have T:=err_out X10.out ({ p with level:=l,hasUser:=false,hasPass:=false,wR:=C,wQ:=D,hasWill:=false,clean:=F,keep:=k,client:=i,wT:=p.wT,wP:=⟨none,p.wP.n,0⟩,user:=p.user,pass:=⟨none,p.pass.n,0⟩ }) ⟨p.wP,p.pass,p.mP,p.asks,p.codes,p.filters,rfl,rfl,rfl,rfl,rfl,rfl,rfl⟩
        rw [← EE] at T
        refine T.mono ?_
        rintro e w6 hO
        obtain ⟨v,rfl⟩:=hO.ret
        have HO:=(show Hid _ from hO)
        clear hO T EE
        go_wp2
        go_ret
        exact HO.out
theorem connect_any {w0 w:World} {rb g n cp pb:Nat} {z:Nat→Int} {r:Rs} {p:Pk} {c:Cn} (h:Cs w0 w rb g n cp pb z r p c) :
    Calls Tryz.prog 93 #[.agg #[.pointer (some ⟨rb,0,none⟩),.int .i64 n],.pointer (some ⟨pb,0,none⟩)] w fun e w'=>OutIs w0 w' e rb g n cp pb z (connectP z n r p c):=by
  by_cases hN:(rText z n r).2.q=0∧isM (rText z n r).1=false
  · exact connect_odd h hN
  by_cases hq:(rText z n r).2.q=0
  · exact connect_fine h hN hq
  · exact connect_dead h hN hq
theorem Tryz.info3:(Tryz.prog.info? 3).map (fun i=>(i.zero,i.size,i.bytes))=some (some (.int .i64 0),1,8):=by kernel_rfl
theorem Cs.extend {w0 v wx:World} {rb g n cp pb:Nat} {z:Nat→Int} {r:Rs} {p:Pk} {c:Cn} (h:Cs w0 v rb g n cp pb z r p c) (hg:v.grownBy wx (some pb)) (p':Pk) (c':Cn) (hp:wx.heap[pb]?=some (.cells (pkCells p') 39 (0,0)))
    (hin:Keep w0.heap.size v wx→In wx p' c') (hnx:NxAll w0.heap.size p'):Cs w0 wx rb g n cp pb z r p' c' where
  rd:=by
    refine ⟨h.rd.rd.grown hg (Ne.symm h.n1),⟨⟨h.rd.rb.own.1,fun j hj=>?_⟩,h.rd.rb.le,h.rd.rb.few,h.rd.rb.ne⟩,h.rd.le⟩
    exact hg.cell (h.rd.rb.own.2 j hj) (by simpa using Ne.symm h.n2)
  pk:=hp
  lr:=h.lr
  lp:=h.lp
  n1:=h.n1
  n2:=h.n2
  inn:=hin fun a u ha hb=>hg.cell ha (by have:=h.lp;simp;omega)
  nx:=hnx
  os:=hg.os.trans h.os
  tape:=hg.tape.trans h.tape
  output:=hg.output.trans h.output
  size:=Nat.le_trans h.size hg.size
  block:=fun k hk h1 h2=>(hg.block k (Nat.lt_of_lt_of_le hk h.size) (by simpa using h2)).trans (h.block k hk h1 h2)
theorem gb_fresh {v w1:World} {pb G i:Nat} {u:Value} (h:v.grownBy w1 (some pb)) (hG:v.heap.size≤G):v.grownBy (w1.setCell ⟨G,i,none⟩ u) (some pb) :=
  ⟨h.os, h.tape, h.output, by have : (w1.setCell ⟨G, i, none⟩ u).heap.size = w1.heap.size := by simp [World.setCell]
                              rw [this];exact h.size,fun k hk hn=>(Below.heap_setCell w1 _ u k (by show k≠G;omega)).trans (h.block k hk hn)⟩
theorem row_set {w:World} {G i t:Nat} {cs:Array Value} {u:Value} (h:w.heap[G]?=some (.cells cs t (0,0))):(w.setCell ⟨G,i,none⟩ u).heap[G]?=some (.cells (cs.setIfInBounds i u) t (0,0)):=heap_set h u
def subackP (z:Nat→Int) (n:Nat) (r:Rs) (p:Pk) (c:Cn):Rs×Pk×Cn :=
 ((rRest z n (rNum z n r).2).2,{ p with id:=(rNum z n r).1,codes:=⟨none,(rRest z n (rNum z n r).2).1.1,0⟩ },{ c with cs:=(rRest z n (rNum z n r).2).1.2 })
theorem rRest_le {z:Nat→Int} {n:Nat} {r:Rs}:(rRest z n r).1.1≤n:=by
 unfold rRest
 split
 · exact Nat.zero_le _
 · exact Nat.sub_le _ _
theorem suback_any {w0 w:World} {rb g n cp pb:Nat} {z:Nat→Int} {r:Rs} {p:Pk} {c:Cn} (h:Cs w0 w rb g n cp pb z r p c) :
    Calls Tryz.prog 97 #[.agg #[.pointer (some ⟨rb,0,none⟩),.int .i64 n],.pointer (some ⟨pb,0,none⟩)] w fun e w'=>e = .returned (.tuple #[])∧Done w0 w' rb g n cp pb z (subackP z n r p c):=by
  have LW:Hid (w0.heap.size≤w.heap.size):=h.size
  have LR:Hid (rb<w0.heap.size∧pb<w0.heap.size):=⟨h.lr,h.lp⟩
  have NF:Hid (n≤1000000):=by have:=h.rd.rb.few;show n≤1000000;omega
  obtain ⟨Y,hY⟩:∃ Y,Y=subackP z n r p c:=⟨_,rfl⟩
  rw [← hY]
  obtain ⟨t,ht⟩:∃ t,t=rNum z n r:=⟨_,rfl⟩
  obtain ⟨s,hs⟩:∃ s,s=rRest z n t.2:=⟨_,rfl⟩
  have HS:Hid (Y=(s.2,{ p with id:=t.1,codes:=⟨none,s.1.1,0⟩ },{ c with cs:=s.1.2 })):=by
    show _=_
    rw [hY,subackP,hs,ht]
  have SN:Hid (s.1.1≤n):=by show s.1.1≤n;rw [hs];exact rRest_le
  have H1:Hid (t=rNum z n r):=ht
  have H2:Hid (s=rRest z n t.2):=hs
  clear hY ht hs
  obtain ⟨t,r1⟩:=t
  obtain ⟨⟨sn,sz⟩,r2⟩:=s
  simp only at H2 HS SN
  have X0:Hid (Cs w0 (w.alloc (.cells #[.pointer (some ⟨rb,0,none⟩),.int .i64 n] 129)) rb g n cp pb z r p c):=h.below ((Below.refl _ _).alloc (Nat.le_refl _) _)
  have BX0:Hid ((w.alloc (.cells #[.pointer (some ⟨rb,0,none⟩),.int .i64 n] 129)).cell? ⟨w.heap.size,0,none⟩=some (.pointer (some ⟨rb,0,none⟩))):=by show _=_;simp [go_sem]
  clear h
  obtain ⟨i0,hi,hz0,hz1,hz2⟩:=info_parts Tryz.info3
  go_enter Tryz.func97,Tryz.ntmps97
  have bx:=BX0.out
  go_wp2_with fail
  go_must (go_at_call 99)
  clear bx
  refine (number_any X0.out.rd).mono ?_
  rw [← H1.out]
  rintro e v1 ⟨rfl,hr,hg⟩
  have X1:Hid (Cs w0 v1 rb g n cp pb z r1 (p) (c)):=X0.out.read hr hg
  have BX1:Hid (v1.cell? ⟨w.heap.size,0,none⟩=some (.pointer (some ⟨rb,0,none⟩))):=hg.cell BX0.out (by have:=LR.out;have:=LW.out;simp;omega)
  clear hr hg
  have e21:=X1.out.cell 21 (.int .i64 p.id) rfl
  have z21:=X1.out.frozen 21
  obtain ⟨v2,hW⟩:∃ W,W=v1.setCell ⟨pb,21,none⟩ (.int .i64 t):=⟨_,rfl⟩
  have X2:=(show Hid _ from X1.out.setS 21 (.int .i64 t) ({ p with id:=t }) rfl rfl rfl rfl rfl rfl rfl)
  rw [← hW] at X2
  have BX2:Hid (v2.cell? ⟨w.heap.size,0,none⟩=some (.pointer (some ⟨rb,0,none⟩))):=by show _=_;rw [hW];exact bx_set BX1.out (by have:=LR.out;have:=LW.out;omega)
  go_upto_region 2 with fail
  rw [← hW]
  clear hW e21 z21
  have bx:=BX2.out
  go_wp2_with fail
  go_must (go_at_call 126)
  clear bx
  refine (rest_any X2.out.rd).mono ?_
  rw [← H2.out]
  rintro e v3 ⟨⟨s3,rfl,hs⟩,hr,hg⟩
  have X3:Hid (Cs w0 v3 rb g n cp pb z r2 ({ p with id:=t }) (c)):=X2.out.read hr hg
  have BX3:Hid (v3.cell? ⟨w.heap.size,0,none⟩=some (.pointer (some ⟨rb,0,none⟩))):=hg.cell BX2.out (by have:=LR.out;have:=LW.out;simp;omega)
  have NS3:=(show Hid _ from hs)
  clear hs
  clear hr hg
  obtain ⟨sa,sl,sc⟩:=s3
  have hsl:sl=sn:=NS3.out.1
  subst hsl
  have fsn:sl≤1000000:=by have:=SN.out;have:=NF.out;omega
  go_wp2_with (refine wpList_make_full _ rfl (.tmp 18) (.tmp 18) 36 rfl v3.heap.size 3 i0 (.int .i64 0) 1 Tryz.underlying36 hi hz0 hz1 .i64 .i64 _ _ sl rfl rfl rfl rfl ?c1 ?c2 (Nat.le_refl _) ?_)
  case c1=>rw [hz2];omega
  case c2=>unfold maxLen;omega
  intro w1 hown hgr
  have GP:Hid (v3.grownBy w1 (some pb)):=⟨hgr.os,hgr.tape,hgr.output,hgr.size,fun q hq _=>hgr.block q hq (by simp)⟩
  have lp:pb<v3.heap.size:=lt_of_block X3.out.pk
  have PB:Hid (w1.heap[pb]?=some (.cells (pkCells ({ p with id:=t })) 39 (0,0))):=(hgr.block pb lp (by simp)).trans X3.out.pk
  have ROW:Hid (∃ cs,w1.heap[v3.heap.size]?=some (.cells cs 3 (0,0))∧cs.size=sl∧∀ j,j<sl→cs[j]?=some (.int .i64 0)):=by
    rcases hown.2 with ⟨e,_⟩|⟨gg,cap,cur,e,_,hb,_,_,hsz,htk⟩
    · cases e
    · cases e
      simp only [Nat.mul_one] at hsz htk
      refine ⟨cur,hb,hsz,fun j hj=>?_⟩
      rw [toList_madeCells_one] at htk
      rw [← hsz,← Array.length_toList,List.take_length] at htk
      rw [← Array.getElem?_toList,htk]
      simp [hj,hsz]
  clear hown hgr lp
  have e23:w1.cell? ⟨pb,23,none⟩=some (.slice p.codes.a p.codes.n p.codes.c):=by have q:=PB.out;simp [World.cell?,q,pkCells]
  have z23:w1.frozen? ⟨pb,23,none⟩=false:=by have q:=PB.out;simp [World.frozen?,q]
  obtain ⟨w2,hW⟩:∃ W,W=w1.setCell ⟨pb,23,none⟩ (.slice (some ⟨v3.heap.size,0,none⟩) sl sl):=⟨_,rfl⟩
  have GP2:Hid (v3.grownBy w2 (some pb)):=by show World.grownBy _ _ _;rw [hW];exact gb_set GP.out _ _
  have PB2:Hid (w2.heap[pb]?=some (.cells (pkCells ({ p with id:=t,codes:=⟨some ⟨v3.heap.size,0,none⟩,sl,sl⟩ })) 39 (0,0))):=by show _=_;rw [hW];exact heap_set PB.out _
  have ROW2:Hid (∃ cs,w2.heap[v3.heap.size]?=some (.cells cs 3 (0,0))∧cs.size=sl∧∀ j,j<sl→cs[j]?=some (.int .i64 0)):=by
    have lp:pb<v3.heap.size:=lt_of_block X3.out.pk
    obtain ⟨cs,h1,h2,h3⟩:=ROW.out
    refine ⟨cs,?_,h2,h3⟩
    rw [hW]
    exact (Below.heap_setCell w1 _ _ v3.heap.size (by show v3.heap.size≠pb;omega)).trans h1
  go_upto_region 4 with fail
  rw [← hW]
  clear hW e23 z23 GP PB ROW
  go_wp2_with fail
  go_loopg [24] sl (fun gg s24 wx=>∃ j:Nat,s24 = .int .i64 j∧j+gg=sl∧Hid (v3.grownBy wx (some pb))∧Hid (wx.heap[pb]?=some (.cells (pkCells ({ p with id:=t,codes:=⟨some ⟨v3.heap.size,0,none⟩,sl,sl⟩ })) 39 (0,0)))∧Hid (∃ cs,wx.heap[v3.heap.size]?=some (.cells cs 3 (0,0))∧cs.size=sl∧(∀ i,i<j→cs[i]?=some (.int .i64 (sz i)))))
  case atStart=>exact ⟨0,rfl,by omega,GP2.out,PB2.out,by obtain ⟨cs,h1,h2,h3⟩:=ROW2.out;exact ⟨cs,h1,h2,fun i hi=>by omega⟩⟩
  case round =>
    obtain ⟨j,rfl,hjg,G1,P1,R1⟩:=hrel
    by_cases hj:j<sl
    · obtain ⟨b,off,e,hc⟩:∃ b off,sa=some ⟨b,off,none⟩∧∀ i,i<sl→v3.cell? ⟨b,off+i,none⟩=some (.int .u8 (sz i)):=by
        rcases NS3.out.2.1.2.2 with q | q
        · simp only at q;omega
        · exact q
      subst e
      have bz:=NS3.out.2.1.2.1 j
      have bp:b≠pb:=by have q:=NS3.out.2.2 b off rfl;have q2:=X2.out.lp;have q3:=X2.out.size;omega
      have cb:wr.cell? ⟨b,off+j,none⟩=some (.int .u8 (sz j)):=G1.out.cell (hc j hj) (by simpa using bp)
      have c23:wr.cell? ⟨pb,23,none⟩=some (.slice (some ⟨v3.heap.size,0,none⟩) sl sl):=by have q:=P1.out;simp [World.cell?,q,pkCells]
      obtain ⟨cs,hrow,hcs,hpre⟩:=R1.out
      have RW:Hid (wr.heap[v3.heap.size]?=some (.cells cs 3 (0,0))∧cs.size=sl∧∀ i,i<j→cs[i]?=some (.int .i64 (sz i))):=⟨hrow,hcs,hpre⟩
      obtain ⟨old,hold⟩:∃ old,wr.cell? ⟨v3.heap.size,j,none⟩=some old:=⟨cs[j]'(by omega),by simp [World.cell?,hrow,hcs,hj]⟩
      have fz:wr.frozen? ⟨v3.heap.size,j,none⟩=false:=by simp [World.frozen?,hrow]
      clear hc hrow hcs hpre R1
      obtain ⟨gg,hgg⟩:∃ gg,gk=gg+1:=⟨gk-1,by omega⟩
      have HJ:Hid (j+1+gg=sl):=by show _=_;omega
      go_wp2
      go_roundg gg
      case measure=>omega
      case rel =>
        refine ⟨j+1,by simp,HJ.out,gb_fresh G1.out (Nat.le_refl _),?_,?_⟩
        · show _=_
          have lp:pb<v3.heap.size:=lt_of_block X3.out.pk
          exact (Below.heap_setCell wr _ _ pb (by show pb≠v3.heap.size;omega)).trans P1.out
        · refine ⟨_,row_set RW.out.1,by simp [RW.out.2.1],fun i hi=>?_⟩
          by_cases hij:i=j
          · subst hij;simp [RW.out.2.1,hj]
          · rw [Array.getElem?_setIfInBounds_ne (by omega)];exact RW.out.2.2 i (by omega)
    · have hjl:j=sl:=by omega
      go_wp2
      go_end0
      rw [HS.out]
      refine ⟨rfl,({ p with id:=t,codes:=⟨some ⟨v3.heap.size,0,none⟩,sl,sl⟩ }),X3.out.extend G1.out _ _ P1.out (fun hk=>?_) ?_,p.wP,p.pass,p.mP,p.asks,⟨some ⟨v3.heap.size,0,none⟩,sl,sl⟩,p.filters,rfl,rfl,rfl,rfl,rfl,rfl,rfl⟩
      · have q:=In.keep X3.out.inn X3.out.nx hk
        refine ⟨q.wP,q.pass,q.mP,q.asks,⟨Nat.le_refl _,.inr ⟨_,0,rfl,fun i hi=>?_⟩⟩,q.filters⟩
        obtain ⟨cs,hrow,hcs,hpre⟩:=R1.out
        have:=hpre i (by simp only at hi;omega)
        simp [World.cell?,hrow,this]
      · have q:=X3.out.nx
        exact ⟨q.wP,q.pass,q.mP,q.asks,fun b off e=>by cases e;exact X3.out.size,q.filters⟩
end Go.Proofs.YtpldoeeahhaimaaGreatDoor
