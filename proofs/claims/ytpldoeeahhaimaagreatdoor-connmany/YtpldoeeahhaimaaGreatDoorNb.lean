import Derived.Test.YtpldoeeahhaimaaGreatDoorEic
namespace Go.Proofs.YtpldoeeahhaimaaGreatDoor.Dr
open Go Go.RowKit
open Pkt (Pk Cn Sl In By Is Ss As pkCells Small ck TT)
open Co (inC inA ansP kpC cnC KL CnAt onP bdP PkM TookIs lateP wpList_load41 in_info in_one zero_in)
set_option linter.all false
set_option maxRecDepth 100000
set_option maxHeartbeats 4000000
section
variable {w W:World} {pb cb rb:Nat} {S1 S2:Nat->Prop} {most pat:Int} {n m:Nat} {s:CS}
theorem plays_two (h:PP w W pb cb rb S1 S2 most pat n m s s) (d:Sl) (zb:Nat->Int) (what:Int) (q:Pk) (code err:Int) (hn:n+d.n<=300000) (hm:m<=100000) (hd:By w d zb) (hq:PkR w q) :
 Calls Tryz.prog 8 #[.pointer (some ⟨pb,0,none⟩),.agg (opC 2 d what q code err)] W fun e W'=>e = .returned (.bool true)/\PPd w W W' pb cb rb S1 S2 most pat (n+d.n) (m+2):=by
 obtain ⟨P,hP⟩:∃ P,P=opC 2 d what q code err:=⟨_,rfl⟩;rw [<-hP];obtain ⟨W1,hW1⟩:∃ W1,W1=W.alloc (.cells P 44):=⟨_,rfl⟩;have b1:Below W.heap.size W W1:=by rw [hW1];exact (Below.refl _ _).alloc (Nat.le_refl _) _
 have a1:W1.heap[W.heap.size]?=some (.cells (opC 2 d what q code err) 44 (0,0)):=by rw [hW1,<-hP];exact heap_alloc_new _ _
 have B1:=hidi b1;have A1:=hidi a1;have H1:=hidi (h.below b1);have HN:=hidi (And.intro hn hm);have HD:=hidi hd;have HQ:=hidi hq;have H0:=hidi h;have i0:=dcell a1 0 (.int .i64 2) rfl;have HW1:=hidi hW1;clear hP h hn hm hd hq b1 a1 hW1;go_enter Tryz.func8,Tryz.ntmps8;go_upto_region 1 with fail;rw [<-HW1.out];clear HW1;have c0:=H1.out.c0;have KN:=hidi (knext H1.out.k H1.out.f1 (by have:=HN.out;omega));have SM:=hidi (nextA_small (most:=most) H1.out.f1 (by have:=HN.out;omega));have WF:=hidi (nextS_wf (most:=most) H1.out.f1);obtain ⟨A,hA⟩:∃ A,nextA most s=A:=⟨_,rfl⟩;have HA:=hidi hA;rw [hA] at KN SM;clear hA;obtain ⟨aw,ac,ae,ab,ap,acn⟩:=A;go_wp2_with fail;go_must (go_at_call 13);refine KN.out.mono ?_;rintro e V2 ⟨⟨q1,rfl,hin,hal,hap⟩,hk,hc⟩;have H2:=hidi (H1.out.one hc hk WF.out (Nat.le_refl _) (Nat.le_refl _));have C1:=hidi hc;have I1:=hidi hin;have L1:=hidi hal;have P1:=hidi hap;clear hk hc hin hal hap KN c0;obtain ⟨V3,hV3⟩:∃ V3,V3=V2.alloc (.cells (inC aw q1 ac ae) 42):=⟨_,rfl⟩;have bv3:Below V2.heap.size V2 V3:=by rw [hV3];exact (Below.refl _ _).alloc (Nat.le_refl _) _
 have R3:=hidi (show V3.heap[V2.heap.size]?=some (.cells (inC aw q1 ac ae) 42 (0,0)) from by rw [hV3];exact heap_alloc_new _ _);have B3:=hidi bv3;have HV3:=hidi hV3;clear hV3 bv3;go_upto_region 9 with (refine wpList_store_row rfl 42 (.tmp 6) (.tmp 44) rfl V2.heap.size (inC aw q1 ac ae) rfl rfl 42 (inC 0 (blank 0) 0 0) (heap_alloc_new _ _) in_info rfl (in_one _ _ _ _) ?_;rw [World.setRow_alloc_new]);rw [<-HV3.out];clear HV3;have H3:=hidi (H2.out.below B3.out);have c1:=H3.out.c1;have KN:=hidi (dnext H3.out.d H3.out.f2 (by have:=HN.out;omega) H3.out.r.bel.size);rw [HA.out] at KN;go_wp2_with fail;go_must (go_at_call 16);refine KN.out.mono ?_;rintro e V4 ⟨⟨q2,rfl,hin,hal,hap⟩,hk,hc⟩;have H4:=hidi (H3.out.two hc hk WF.out (Nat.le_refl _));have C2:=hidi hc;have R4:=hidi ((hc.block V2.heap.size (Array.getElem?_eq_some_iff.1 R3.out).1 (fun hT=>by have:=(H2.out.r.b2 _ hT).2;omega)).trans R3.out);have I1':=hidi (in_ch (I1.out.below B3.out) hc (fun g hg=>P1.out g (by have:=(H1.out.r.b2 g hg).2;omega)));have I2:=hidi hin;have L2:=hidi hal;clear hk hc hin hal hap KN c1;obtain ⟨V5,hV5⟩:∃ V5,V5=V4.alloc (.cells (inC aw q2 ac ae) 42):=⟨_,rfl⟩;have bv5:Below V4.heap.size V4 V5:=by rw [hV5];exact (Below.refl _ _).alloc (Nat.le_refl _) _
 have R5:=hidi (show V5.heap[V4.heap.size]?=some (.cells (inC aw q2 ac ae) 42 (0,0)) from by rw [hV5];exact heap_alloc_new _ _);have R4':=hidi (Co.later_at R4.out bv5);have B5:=hidi bv5;have SI:=hidi (sin_any aw q1 q2 ap acn ac ae V5 (I1'.out.below bv5) (I2.out.below bv5) L1.out L2.out SM.out);have HV5:=hidi hV5;clear hV5 bv5;go_upto_region 10 with (refine wpList_store_row rfl 42 (.tmp 8) (.tmp 52) rfl V4.heap.size (inC aw q2 ac ae) rfl rfl 42 (inC 0 (blank 0) 0 0) (heap_alloc_new _ _) in_info rfl (in_one _ _ _ _) ?_;rw [World.setRow_alloc_new]);rw [<-HV5.out];clear HV5;go_wp2_with (first | (refine wpList_load41 (by kernel_rfl) (.tmp 6) rfl V2.heap.size rfl (inC aw q1 ac ae) (0,0) R4'.out rfl ?_)|(refine wpList_load41 (by kernel_rfl) (.tmp 8) rfl V4.heap.size rfl (inC aw q2 ac ae) (0,0) R5.out rfl ?_));go_must (go_at_call 17);refine SI.out.mono ?_;rintro e V6 ⟨rfl,hb⟩;have B6:=hidi hb;clear hb SI;go_wp2_with fail;go_ret;exact ⟨rfl,(PPd.mk B1.out C1.out B3.out C2.out (Co.bel_on B5.out B6.out) H4.out).mono (by omega) (by omega)⟩
end
section
variable {w W:World} {pb cb rb:Nat} {S1 S2:Nat->Prop} {most pat:Int} {n m:Nat} {s:CS}
theorem plays_one (h:PP w W pb cb rb S1 S2 most pat n m s s) (d:Sl) (zb:Nat->Int) (what:Int) (q:Pk) (code err:Int) (hn:n+d.n<=300000) (hm:m<=100000) (hd:By w d zb) (hq:PkR w q) :
 Calls Tryz.prog 8 #[.pointer (some ⟨pb,0,none⟩),.agg (opC 1 d what q code err)] W fun e W'=>e = .returned (.bool true)/\PPd w W W' pb cb rb S1 S2 most pat (n+d.n) (m+2):=by
 obtain ⟨P,hP⟩:∃ P,P=opC 1 d what q code err:=⟨_,rfl⟩;rw [<-hP];obtain ⟨W1,hW1⟩:∃ W1,W1=W.alloc (.cells P 44):=⟨_,rfl⟩;have b1:Below W.heap.size W W1:=by rw [hW1];exact (Below.refl _ _).alloc (Nat.le_refl _) _
 have a1:W1.heap[W.heap.size]?=some (.cells (opC 1 d what q code err) 44 (0,0)):=by rw [hW1,<-hP];exact heap_alloc_new _ _
 have B1:=hidi b1;have A1:=hidi a1;have H1:=hidi (h.below b1);have HN:=hidi (And.intro hn hm);have HD:=hidi hd;have HQ:=hidi hq;have H0:=hidi h;have i0:=dcell a1 0 (.int .i64 1) rfl;have HW1:=hidi hW1;clear hP h hn hm hd hq b1 a1 hW1;go_enter Tryz.func8,Tryz.ntmps8;go_upto_region 1 with fail;rw [<-HW1.out];clear HW1;have i1:=dcell A1.out 1 (.slice d.a d.n d.c) rfl;have BYD:=hidi (HD.out.below H1.out.r.bel);go_wp2_with (at_builtin;refine wpList_push_any rfl (.const (.slice none 0 0)) (.tmp 15) rfl W1.heap.size 0 (.slice none 0 0) [] rfl (World.ownsRow_nil _ _ _ _) d zb rfl BYD.out (by omega) (by have:=HN.out;omega) (Nat.le_refl _) ?_);intro v' V1 ho hg hw;have HO:=hidi (show V1.ownsRow W1.heap.size 5 1 v' d.n (cellsOf zb d.n) from by simpa using ho);have BV:=hidi (show Below W1.heap.size W1 V1 from (Below.refl W1.heap.size W1).grown hg (Nat.le_refl _) (fun q hq=>by cases hq));obtain ⟨ba,bc,hvv⟩:=own_slice HO.out;subst hvv;have BB:=hidi (by_own HO.out HD.out.2.1);have LB:=hidi (show ∀ b off,ba=some ⟨b,off,none⟩->W1.heap.size<=b from fun b off e=>by
  rcases HO.out.2 with ⟨e1,_⟩|⟨g,cap,cur,e1,hb2,_⟩;· injection e1 with e2 e3 e4;rw [e2] at e;cases e
  · injection e1 with e2 e3 e4;rw [e2] at e;cases e;exact hb2)
 have HV1:=hidi (H1.out.below BV.out);have c0:=HV1.out.c0;have KP:=hidi (kpush HV1.out.k (by have:=HN.out;omega) ⟨ba,d.n,bc⟩ zb BB.out (by have:=HN.out;show d.n<=400000;omega));clear ho hg hw i1;go_upto_region 4 with fail;go_wp2_with fail;go_must (go_at_call 9);refine KP.out.mono ?_;rintro e V2 ⟨rfl,hk,hc⟩;have WF:=hidi (pushS_wf H1.out.f1 d.n zb HD.out.2.1);have H2:=hidi (HV1.out.one hc hk WF.out (by omega) (Nat.le_refl _));have C1:=hidi hc;have A2:=hidi ((hc.block W.heap.size (Nat.lt_of_lt_of_le (Array.getElem?_eq_some_iff.1 A1.out).1 BV.out.size) (fun hT=>by have:=(H0.out.r.b1 _ hT).2;omega)).trans (Co.later_at A1.out BV.out));have BB2:=hidi (By.ch BB.out hc (fun b off e hT=>by have h1:=LB.out b off e;have h2:=(H0.out.r.b1 _ hT).2;have h3:=B1.out.size;omega));clear hk hc KP c0;have H2d:=hidi (H2.out.below (drew_bel V2));have DP:=hidi (show Calls Tryz.prog 10 #[.pointer (some ⟨rb,0,none⟩),.slice d.a d.n d.c] V2.drew fun e w'=>∃ x,e = .returned x/\(x = .tuple #[]/\Hid (DS w w' (gr S2 V2.drew w') rb most pat m (pushS s d.n zb))/\Hid (Ch S2 V2.drew w')) from (dpush H2d.out.d H2d.out.f2 (by have:=HN.out;omega) H2d.out.r.bel.size d zb (HD.out.below H2d.out.r.bel) (by have:=HN.out;omega)).mono fun e w' hh=>⟨_,hh.1,rfl,hh.2.1,hh.2.2⟩);have d0:=H2.out.c1;have d1:=dcell A2.out 1 (.slice d.a d.n d.c) rfl;go_upto_region 5 with fail;refine wp_region_held_drew (S:=fun w'=>w'.cell? ⟨pb,1,none⟩=some (.pointer (some ⟨rb,0,none⟩))/\w'.cell? ⟨W.heap.size,1,none⟩=some (.slice d.a d.n d.c)) (by kernel_rfl) ⟨d0,d1⟩ (fun hHeld=>?_);refine tkz 0 ⟨some 23,.move (.tmp 0),25,"exact.go:52",#[],none⟩ (.pointer (some ⟨pb,0,none⟩)) (fun wq _=>pureVal_run (by kernel_rfl) wq) hHeld ?_;simp only [Act.put,zz1,zz2,zz3];refine tkz 1 ⟨some 24,.nilCheck (.tmp 23),0,"exact.go:52",#[⟨0,.data⟩],none⟩ (.pointer (some ⟨pb,0,none⟩)) (by intro wq hSw;clear hSw hHeld;go_simp) hHeld ?_;simp only [Act.put,zz1,zz2,zz3];refine tkz 2 ⟨some 25,.fieldAddr 30 (.tmp 24) 1,0,"exact.go:52",#[⟨1,.data⟩],none⟩ (.pointer (some ⟨pb,1,none⟩)) (by intro wq hSw;clear hSw hHeld;go_simp) hHeld ?_;simp only [Act.put,zz1,zz2,zz3];refine tkz 3 ⟨some 26,.load 28 (.tmp 25),28,"exact.go:52",#[⟨2,.data⟩],none⟩ (.pointer (some ⟨rb,0,none⟩)) (by intro wq hSw;obtain ⟨s0,s1⟩:=hSw;clear hHeld;go_simp) hHeld ?_;simp only [Act.put,zz1,zz2,zz3];refine tkz 4 ⟨some 27,.fieldAddr 44 (.tmp 3) 1,0,"exact.go:52",#[],none⟩ (.pointer (some ⟨W.heap.size,1,none⟩)) (by intro wq hSw;clear hSw hHeld;go_simp) hHeld ?_;simp only [Act.put,zz1,zz2,zz3];refine tkz 5 ⟨some 28,.load 32 (.tmp 27),32,"exact.go:52",#[⟨4,.data⟩],none⟩ (.slice d.a d.n d.c) (by intro wq hSw;obtain ⟨s0,s1⟩:=hSw;clear hHeld;go_simp) hHeld ?_;simp only [Act.put,zz1,zz2,zz3];refine wpAnyH_ready (rs:=[6]) (by kernel_rfl) (by simp) ?_;refine AllReadyH.cons (o:=⟨some 29,.call ⟨.value (.func 10),#[.tmp 26,.tmp 28],#[28,32]⟩,0,"exact.go:52",#[⟨3,.data⟩,⟨5,.data⟩],none⟩) (by rfl) (fun K hK=>?_) AllReadyH.nil;refine held_call (by kernel_rfl) 10 #[.pointer (some ⟨rb,0,none⟩),.slice d.a d.n d.c] (by clear hHeld hK;go_simp) (R:=fun x w'=>x = .tuple #[]/\Hid (DS w w' (gr S2 V2.drew w') rb most pat m (pushS s d.n zb))/\Hid (Ch S2 V2.drew w')) DP.out ?_;rintro _ V3 ⟨rfl,hk,hc⟩;have H3:=hidi (H2d.out.two hc.out hk.out WF.out (Nat.le_refl _));have A3:=hidi ((hc.out.block W.heap.size (Array.getElem?_eq_some_iff.1 (show V2.drew.heap[W.heap.size]?=_ from A2.out)).1 (fun hT=>by have:=(H0.out.r.b2 _ hT).2;omega)).trans (show V2.drew.heap[W.heap.size]?=_ from A2.out));refine hK.out _ _ ⟨H3.out.c1,dcell A3.out 1 (.slice d.a d.n d.c) rfl⟩ (fun hHeld=>?_);clear hK K hHeld;(try simp only [Act.put,zz1,zz2,zz3]);refine wpAnyH_done (by kernel_rfl) ?_ _;have BB3:=hidi (By.ch (By.below BB2.out (drew_bel V2)) hc.out (fun b off e hT=>by have h1:=LB.out b off e;have h2:=(H0.out.r.b2 _ hT).2;have h3:=B1.out.size;omega));have cv1:=Pkt.conv_any ⟨ba,d.n,bc⟩ zb V3 BB3.out;have cv2:=Pkt.conv_any d zb V3 (HD.out.below H3.out.r.bel);have i1:=dcell A3.out 1 (.slice d.a d.n d.c) rfl;clear d0 d1;go_wp2_with fail;go_ret;refine ⟨by simp,(PPd.mk (Co.bel_on B1.out BV.out) C1.out (drew_bel V2) hc.out (Below.refl _ _) H3.out).mono (by omega) (by omega)⟩
end
theorem load39_mid {a:Act} {o:Oper} {w:World} (x:Operand) (ho:o.op = .load 39 x) (g k:Nat) (hx:a.eval x = .pointer (some ⟨g,k,none⟩)) (q:Pk) (hc:w.rangeAt g k (pkCells q).toList):Sem.run Tryz.prog (execOp a.eval o) w = .ok (.value (.agg (pkCells q))) w:=by unfold execOp;simp only [ho,hx,Instr.loadAt,Instr.sureAddr,Sem.run_bind,Sem.run_pure,Result.andThen_ok,run_loadVar_mid w g k 39 (pkCells q).toList _ hc Tryz.underlying39 rfl (by kernel_rfl)]
theorem load42_mid {a:Act} {o:Oper} {w:World} (x:Operand) (ho:o.op = .load 42 x) (g k:Nat) (hx:a.eval x = .pointer (some ⟨g,k,none⟩)) (what:Int) (q:Pk) (code err:Int) (hc:w.rangeAt g k (inC what q code err).toList):Sem.run Tryz.prog (execOp a.eval o) w = .ok (.value (.agg (inC what q code err))) w:=by unfold execOp;simp only [ho,hx,Instr.loadAt,Instr.sureAddr,Sem.run_bind,Sem.run_pure,Result.andThen_ok,run_loadVar_mid w g k 42 (inC what q code err).toList _ hc Tryz.underlying42 rfl (by kernel_rfl)]
theorem built_all (what:Int) (q:Pk) (code err:Int):Tryz.prog.built 42 [(0,.int .i64 what),(1,.agg (pkCells q)),(2,.int .i64 code),(3,.int .i64 err)]=some (inC what q code err):=by kernel_rfl
theorem build42_at {a:Act} {o:Oper} {w:World} (x0 x1 x2 x3:Operand) (ho:o.op = .build 42 #[(0,x0),(1,x1),(2,x2),(3,x3)]) (what:Int) (q:Pk) (code err:Int) (h0:a.eval x0 = .int .i64 what) (h1:a.eval x1 = .agg (pkCells q)) (h2:a.eval x2 = .int .i64 code) (h3:a.eval x3 = .int .i64 err):Sem.run Tryz.prog (execOp a.eval o) w = .ok (.value (.agg (inC what q code err))) w:=by have hb:=run_build (P:=Tryz.prog) w 42 #[(0,.int .i64 what),(1,.agg (pkCells q)),(2,.int .i64 code),(3,.int .i64 err)] _ (built_all what q code err);unfold execOp;simp only [ho,List.map_toArray,List.map_cons,List.map_nil,h0,h1,h2,h3,Sem.run_bind,hb,Result.andThen_ok,Sem.run_pure]
section
variable {w W:World} {pb cb rb:Nat} {S1 S2:Nat->Prop} {most pat:Int} {n m:Nat} {s:CS}
theorem plays_six (h:PP w W pb cb rb S1 S2 most pat n m s s) (d:Sl) (zb:Nat->Int) (what:Int) (q:Pk) (code err:Int) (hn:n+d.n<=300000) (hm:m<=100000) (hd:By w d zb) (hq:PkR w q) :
 Calls Tryz.prog 8 #[.pointer (some ⟨pb,0,none⟩),.agg (opC 6 d what q code err)] W fun e W'=>e = .returned (.bool true)/\PPd w W W' pb cb rb S1 S2 most pat (n+d.n) (m+2):=by
 obtain ⟨P,hP⟩:∃ P,P=opC 6 d what q code err:=⟨_,rfl⟩;rw [<-hP];obtain ⟨W1,hW1⟩:∃ W1,W1=W.alloc (.cells P 44):=⟨_,rfl⟩;have b1:Below W.heap.size W W1:=by rw [hW1];exact (Below.refl _ _).alloc (Nat.le_refl _) _
 have a1:W1.heap[W.heap.size]?=some (.cells (opC 6 d what q code err) 44 (0,0)):=by rw [hW1,<-hP];exact heap_alloc_new _ _
 have B1:=hidi b1;have A1:=hidi a1;have H1:=hidi (h.below b1);have HN:=hidi (And.intro hn hm);have HD:=hidi hd;have HQ:=hidi hq;have H0:=hidi h;have i0:=dcell a1 0 (.int .i64 6) rfl;have HW1:=hidi hW1;clear hP h hn hm hd hq b1 a1 hW1;go_enter Tryz.func8,Tryz.ntmps8;go_upto_region 1 with fail;rw [<-HW1.out];clear HW1;have H1d:=hidi (H1.out.below (drew_bel W1));have CP:=hidi (show Calls Tryz.prog 22 #[.agg (pkCells q)] W1.drew fun e w'=>∃ x,e = .returned x/\∃ q',x = .agg (pkCells q')/\Hid (q'.kind=q.kind/\q'.keep=q.keep)/\Hid (Below W1.drew.heap.size W1.drew w') from (dcopy_any q W1.drew (HQ.out.below H1d.out.r.bel)).mono fun e w' hh=>by obtain ⟨q',e1,e2,e3,e4⟩:=hh;exact ⟨_,e1,q',rfl,⟨e2,e3⟩,e4⟩);have d0:=H1.out.c0;have d1:=A1.out;have HA:=hidi (show W1.heap[W.heap.size]?=some (.cells (opC 6 d what q code err) 44 (0,0)) from d1);go_upto_region 17 with fail;refine wp_region_held_drew (S:=fun w'=>w'.cell? ⟨pb,0,none⟩=some (.pointer (some ⟨cb,0,none⟩))/\w'.heap[W.heap.size]?=some (.cells (opC 6 d what q code err) 44 (0,0))) (by kernel_rfl) ⟨d0,d1⟩ (fun hHeld=>?_);clear d1;refine tkz 0 ⟨some 89,.move (.tmp 0),25,"exact.go:64",#[],none⟩ (.pointer (some ⟨pb,0,none⟩)) (fun wq _=>pureVal_run (by kernel_rfl) wq) hHeld ?_;simp only [Act.put,zz1,zz2,zz3];refine tkz 1 ⟨some 90,.nilCheck (.tmp 89),0,"exact.go:64",#[⟨0,.data⟩],none⟩ (.pointer (some ⟨pb,0,none⟩)) (by intro wq hSw;clear hSw hHeld;go_simp) hHeld ?_;simp only [Act.put,zz1,zz2,zz3];refine tkz 2 ⟨some 91,.fieldAddr 30 (.tmp 90) 0,0,"exact.go:64",#[⟨1,.data⟩],none⟩ (.pointer (some ⟨pb,0,none⟩)) (by intro wq hSw;clear hSw hHeld;go_simp) hHeld ?_;simp only [Act.put,zz1,zz2,zz3];refine tkz 3 ⟨some 92,.load 27 (.tmp 91),27,"exact.go:64",#[⟨2,.data⟩],none⟩ (.pointer (some ⟨cb,0,none⟩)) (by intro wq hSw;have hk:=hSw.1;clear hSw hHeld;go_simp) hHeld ?_;simp only [Act.put,zz1,zz2,zz3];refine tkz 4 ⟨some 93,.fieldAddr 44 (.tmp 3) 2,0,"exact.go:64",#[],none⟩ (.pointer (some ⟨W.heap.size,2,none⟩)) (by intro wq hSw;clear hSw hHeld;go_simp) hHeld ?_;simp only [Act.put,zz1,zz2,zz3];refine tkz 5 ⟨some 94,.fieldAddr 42 (.tmp 93) 0,0,"exact.go:64",#[⟨4,.data⟩],none⟩ (.pointer (some ⟨W.heap.size,2,none⟩)) (by intro wq hSw;clear hSw hHeld;go_simp) hHeld ?_;simp only [Act.put,zz1,zz2,zz3];refine tkz 6 ⟨some 95,.load 3 (.tmp 94),3,"exact.go:64",#[⟨5,.data⟩],none⟩ (.int .i64 what) (by intro wq hSw;have hk:=dcell hSw.2 2 (.int .i64 what) rfl;clear hSw hHeld;go_simp) hHeld ?_;simp only [Act.put,zz1,zz2,zz3];refine tkz 7 ⟨some 96,.fieldAddr 44 (.tmp 3) 2,0,"exact.go:64",#[],none⟩ (.pointer (some ⟨W.heap.size,2,none⟩)) (by intro wq hSw;clear hSw hHeld;go_simp) hHeld ?_;simp only [Act.put,zz1,zz2,zz3];refine tkz 8 ⟨some 97,.fieldAddr 42 (.tmp 96) 1,0,"exact.go:64",#[⟨7,.data⟩],none⟩ (.pointer (some ⟨W.heap.size,3,none⟩)) (by intro wq hSw;clear hSw hHeld;go_simp) hHeld ?_;simp only [Act.put,zz1,zz2,zz3];refine tkz 9 ⟨some 98,.load 39 (.tmp 97),39,"exact.go:64",#[⟨8,.data⟩],none⟩ (.agg (pkCells q)) (by intro wq hSw;exact load39_mid (.tmp 97) rfl (W.heap.size) 3 rfl q (range_op hSw.2).1) hHeld ?_;simp only [Act.put,zz1,zz2,zz3];refine tkz 11 ⟨some 100,.fieldAddr 44 (.tmp 3) 2,0,"exact.go:64",#[],none⟩ (.pointer (some ⟨W.heap.size,2,none⟩)) (by intro wq hSw;clear hSw hHeld;go_simp) hHeld ?_;simp only [Act.put,zz1,zz2,zz3];refine tkz 12 ⟨some 101,.fieldAddr 42 (.tmp 100) 2,0,"exact.go:64",#[⟨11,.data⟩],none⟩ (.pointer (some ⟨W.heap.size,28,none⟩)) (by intro wq hSw;clear hSw hHeld;go_simp) hHeld ?_;simp only [Act.put,zz1,zz2,zz3];refine tkz 13 ⟨some 102,.load 3 (.tmp 101),3,"exact.go:64",#[⟨12,.data⟩],none⟩ (.int .i64 code) (by intro wq hSw;have hk:=dcell hSw.2 28 (.int .i64 code) rfl;clear hSw hHeld;go_simp) hHeld ?_;simp only [Act.put,zz1,zz2,zz3];refine tkz 14 ⟨some 103,.fieldAddr 44 (.tmp 3) 2,0,"exact.go:64",#[],none⟩ (.pointer (some ⟨W.heap.size,2,none⟩)) (by intro wq hSw;clear hSw hHeld;go_simp) hHeld ?_;simp only [Act.put,zz1,zz2,zz3];refine tkz 15 ⟨some 104,.fieldAddr 42 (.tmp 103) 3,0,"exact.go:64",#[⟨14,.data⟩],none⟩ (.pointer (some ⟨W.heap.size,29,none⟩)) (by intro wq hSw;clear hSw hHeld;go_simp) hHeld ?_;simp only [Act.put,zz1,zz2,zz3];refine tkz 16 ⟨some 105,.load 40 (.tmp 104),40,"exact.go:64",#[⟨15,.data⟩],none⟩ (.int .i64 err) (by intro wq hSw;have hk:=dcell hSw.2 29 (.int .i64 err) rfl;clear hSw hHeld;go_simp) hHeld ?_;simp only [Act.put,zz1,zz2,zz3];refine wpAnyH_ready (rs:=[10]) (by kernel_rfl) (by simp) ?_;refine AllReadyH.cons (o:=⟨some 99,.call ⟨.value (.func 22),#[.tmp 98],#[39]⟩,39,"exact.go:64",#[⟨9,.data⟩],none⟩) (by rfl) (fun K hK=>?_) AllReadyH.nil;refine held_call (by kernel_rfl) 22 #[.agg (pkCells q)] (by clear hHeld hK;go_simp) (R:=fun x w'=>∃ q',x = .agg (pkCells q')/\Hid (q'.kind=q.kind/\q'.keep=q.keep)/\Hid (Below W1.drew.heap.size W1.drew w')) CP.out ?_;rintro _ V2 ⟨q2,rfl,hq2,hb2⟩;have H2:=hidi (H1d.out.below hb2.out);have A2:=hidi (Co.later_at (show W1.drew.heap[W.heap.size]?=some (.cells (opC 6 d what q code err) 44 (0,0)) from HA.out) hb2.out);refine hK.out _ _ ⟨H2.out.c0,A2.out⟩ (fun hHeld=>?_);clear hK K;(try simp only [Act.put,zz1,zz2,zz3]);refine tkz 17 ⟨some 106,.build 42 #[(0,.tmp 95),(1,.tmp 99),(2,.tmp 102),(3,.tmp 105)],42,"exact.go:64",#[⟨6,.data⟩,⟨10,.data⟩,⟨13,.data⟩,⟨16,.data⟩],none⟩ (.agg (inC what q2 code err)) (fun wq _=>build42_at (.tmp 95) (.tmp 99) (.tmp 102) (.tmp 105) rfl what q2 code err rfl rfl rfl rfl) hHeld ?_;simp only [Act.put,zz1,zz2,zz3];have KT:=hidi (show Calls Tryz.prog 21 #[.pointer (some ⟨cb,0,none⟩),.agg (inC what q2 code err)] V2 fun e w'=>∃ x,e = .returned x/\(x = .tuple #[]/\Hid (KS w w' (gr S1 V2 w') cb most pat n m (tookS what q.kind q.keep s))/\Hid (Ch S1 V2 w')) from (ktook H2.out.k H2.out.f1 (fun k hk=>(H2.out.r.b1 k hk).1) what q2 code err).mono fun e w' hh=>⟨_,hh.1,rfl,by rw [<-hq2.out.1,<-hq2.out.2];exact hh.2.1,hh.2.2⟩);refine wpAnyH_ready (rs:=[18]) (by kernel_rfl) (by simp) ?_;refine AllReadyH.cons (o:=⟨some 107,.call ⟨.value (.func 21),#[.tmp 92,.tmp 106],#[27,42]⟩,0,"exact.go:64",#[⟨3,.data⟩,⟨17,.data⟩,⟨10,.chain⟩],none⟩) (by rfl) (fun K hK=>?_) AllReadyH.nil;refine held_call (by kernel_rfl) 21 #[.pointer (some ⟨cb,0,none⟩),.agg (inC what q2 code err)] (by clear hHeld hK;go_simp) (R:=fun x w'=>x = .tuple #[]/\Hid (KS w w' (gr S1 V2 w') cb most pat n m (tookS what q.kind q.keep s))/\Hid (Ch S1 V2 w')) KT.out ?_;rintro _ V3 ⟨rfl,hk3,hc3⟩;have WF:=hidi (tookS_wf H1.out.f1 what q.kind q.keep);have H3:=hidi (H2.out.one hc3.out hk3.out WF.out (Nat.le_refl _) (Nat.le_refl _));have A3:=hidi ((hc3.out.block W.heap.size (Array.getElem?_eq_some_iff.1 A2.out).1 (fun hT=>by have:=(H0.out.r.b1 _ hT).2;omega)).trans A2.out);refine hK.out _ _ ⟨H3.out.c0,A3.out⟩ (fun hHeld=>?_);clear hK K hHeld;(try simp only [Act.put,zz1,zz2,zz3]);refine wpAnyH_done (by kernel_rfl) ?_ _;have H3d:=hidi (H3.out.below (drew_bel V3));have DT:=hidi (show Calls Tryz.prog 23 #[.pointer (some ⟨rb,0,none⟩),.agg (inC what q code err)] V3.drew fun e w'=>∃ x,e = .returned x/\(x = .tuple #[]/\Hid (DS w w' (gr S2 V3.drew w') rb most pat m (tookS what q.kind q.keep s))/\Hid (Ch S2 V3.drew w')) from (dtook H3d.out.d H3d.out.f2 what q code err).mono fun e w' hh=>⟨_,hh.1,rfl,hh.2.1,hh.2.2⟩);have e0:=H3.out.c1;have e1:=A3.out;clear d0;go_upto_region 18 with fail;refine wp_region_held_drew (S:=fun w'=>w'.cell? ⟨pb,1,none⟩=some (.pointer (some ⟨rb,0,none⟩))/\w'.heap[W.heap.size]?=some (.cells (opC 6 d what q code err) 44 (0,0))) (by kernel_rfl) ⟨e0,e1⟩ (fun hHeld=>?_);clear e1;refine tkz 0 ⟨some 108,.move (.tmp 0),25,"exact.go:65",#[],none⟩ (.pointer (some ⟨pb,0,none⟩)) (fun wq _=>pureVal_run (by kernel_rfl) wq) hHeld ?_;simp only [Act.put,zz1,zz2,zz3];refine tkz 1 ⟨some 109,.nilCheck (.tmp 108),0,"exact.go:65",#[⟨0,.data⟩],none⟩ (.pointer (some ⟨pb,0,none⟩)) (by intro wq hSw;clear hSw hHeld;go_simp) hHeld ?_;simp only [Act.put,zz1,zz2,zz3];refine tkz 2 ⟨some 110,.fieldAddr 30 (.tmp 109) 1,0,"exact.go:65",#[⟨1,.data⟩],none⟩ (.pointer (some ⟨pb,1,none⟩)) (by intro wq hSw;clear hSw hHeld;go_simp) hHeld ?_;simp only [Act.put,zz1,zz2,zz3];refine tkz 3 ⟨some 111,.load 28 (.tmp 110),28,"exact.go:65",#[⟨2,.data⟩],none⟩ (.pointer (some ⟨rb,0,none⟩)) (by intro wq hSw;have hk:=hSw.1;clear hSw hHeld;go_simp) hHeld ?_;simp only [Act.put,zz1,zz2,zz3];refine tkz 4 ⟨some 112,.fieldAddr 44 (.tmp 3) 2,0,"exact.go:65",#[],none⟩ (.pointer (some ⟨W.heap.size,2,none⟩)) (by intro wq hSw;clear hSw hHeld;go_simp) hHeld ?_;simp only [Act.put,zz1,zz2,zz3];refine tkz 5 ⟨some 113,.load 42 (.tmp 112),42,"exact.go:65",#[⟨4,.data⟩],none⟩ (.agg (inC what q code err)) (by intro wq hSw;exact load42_mid (.tmp 112) rfl (W.heap.size) 2 rfl what q code err (range_op hSw.2).2) hHeld ?_;simp only [Act.put,zz1,zz2,zz3];refine wpAnyH_ready (rs:=[6]) (by kernel_rfl) (by simp) ?_;refine AllReadyH.cons (o:=⟨some 114,.call ⟨.value (.func 23),#[.tmp 111,.tmp 113],#[28,42]⟩,0,"exact.go:65",#[⟨3,.data⟩,⟨5,.data⟩],none⟩) (by rfl) (fun K hK=>?_) AllReadyH.nil;refine held_call (by kernel_rfl) 23 #[.pointer (some ⟨rb,0,none⟩),.agg (inC what q code err)] (by clear hHeld hK;go_simp) (R:=fun x w'=>x = .tuple #[]/\Hid (DS w w' (gr S2 V3.drew w') rb most pat m (tookS what q.kind q.keep s))/\Hid (Ch S2 V3.drew w')) DT.out ?_;rintro _ V4 ⟨rfl,hk4,hc4⟩;have H4:=hidi (H3d.out.two hc4.out hk4.out WF.out (Nat.le_refl _));have A4:=hidi ((hc4.out.block W.heap.size (Array.getElem?_eq_some_iff.1 (show V3.drew.heap[W.heap.size]?=some (.cells (opC 6 d what q code err) 44 (0,0)) from A3.out)).1 (fun hT=>by have:=(H0.out.r.b2 _ hT).2;omega)).trans (show V3.drew.heap[W.heap.size]?=some (.cells (opC 6 d what q code err) 44 (0,0)) from A3.out));refine hK.out _ _ ⟨H4.out.c1,A4.out⟩ (fun hHeld=>?_);clear hK K hHeld;(try simp only [Act.put,zz1,zz2,zz3]);refine wpAnyH_done (by kernel_rfl) ?_ _;clear e0;have OC1:=hidi (show Calls Tryz.prog 12 #[.pointer (some ⟨cb,0,none⟩)] V4.drew fun e w'=>∃ x,e = .returned x/\(x = .bool (overA (tookS what q.kind q.keep s))/\Hid (w'=V4.drew)) from (kover (H4.out.below (drew_bel V4)).k H4.out.f1).mono fun e w' hh=>⟨_,hh.1,rfl,hh.2⟩);have OC2:=hidi (show Calls Tryz.prog 24 #[.pointer (some ⟨rb,0,none⟩)] V4.drew fun e w'=>∃ x,e = .returned x/\(x = .bool (overA (tookS what q.kind q.keep s))/\Hid (w'=V4.drew)) from (dover (H4.out.below (drew_bel V4)).d H4.out.f2).mono fun e w' hh=>⟨_,hh.1,rfl,hh.2⟩);have d0:=H4.out.c0;have d1:=H4.out.c1;obtain ⟨ov,hov⟩:∃ ov,overA (tookS what q.kind q.keep s)=ov:=⟨_,rfl⟩;rw [hov] at OC1 OC2;clear hov;go_upto_region 19 with fail;refine wp_region_held_drew (S:=fun w'=>w'.cell? ⟨pb,0,none⟩=some (.pointer (some ⟨cb,0,none⟩))/\w'.cell? ⟨pb,1,none⟩=some (.pointer (some ⟨rb,0,none⟩))) (by kernel_rfl) ⟨d0,d1⟩ (fun hHeld=>?_);refine tkz 0 ⟨some 115,.move (.tmp 0),25,"exact.go:67",#[],none⟩ (.pointer (some ⟨pb,0,none⟩)) (fun wq _=>pureVal_run (by kernel_rfl) wq) hHeld ?_;simp only [Act.put,zz1,zz2,zz3];refine tkz 1 ⟨some 116,.nilCheck (.tmp 115),0,"exact.go:67",#[⟨0,.data⟩],none⟩ (.pointer (some ⟨pb,0,none⟩)) (by intro wq hSw;clear hSw hHeld;go_simp) hHeld ?_;simp only [Act.put,zz1,zz2,zz3];refine tkz 2 ⟨some 117,.fieldAddr 30 (.tmp 116) 0,0,"exact.go:67",#[⟨1,.data⟩],none⟩ (.pointer (some ⟨pb,0,none⟩)) (by intro wq hSw;clear hSw hHeld;go_simp) hHeld ?_;simp only [Act.put,zz1,zz2,zz3];refine tkz 3 ⟨some 118,.load 27 (.tmp 117),27,"exact.go:67",#[⟨2,.data⟩],none⟩ (.pointer (some ⟨cb,0,none⟩)) (by intro wq hSw;obtain ⟨s0,s1⟩:=hSw;clear hHeld;go_simp) hHeld ?_;simp only [Act.put,zz1,zz2,zz3];refine tkz 5 ⟨some 120,.move (.tmp 0),25,"exact.go:67",#[],none⟩ (.pointer (some ⟨pb,0,none⟩)) (fun wq _=>pureVal_run (by kernel_rfl) wq) hHeld ?_;simp only [Act.put,zz1,zz2,zz3];refine tkz 6 ⟨some 121,.nilCheck (.tmp 120),0,"exact.go:67",#[⟨5,.data⟩],none⟩ (.pointer (some ⟨pb,0,none⟩)) (by intro wq hSw;clear hSw hHeld;go_simp) hHeld ?_;simp only [Act.put,zz1,zz2,zz3];refine tkz 7 ⟨some 122,.fieldAddr 30 (.tmp 121) 1,0,"exact.go:67",#[⟨6,.data⟩],none⟩ (.pointer (some ⟨pb,1,none⟩)) (by intro wq hSw;clear hSw hHeld;go_simp) hHeld ?_;simp only [Act.put,zz1,zz2,zz3];refine tkz 8 ⟨some 123,.load 28 (.tmp 122),28,"exact.go:67",#[⟨7,.data⟩],none⟩ (.pointer (some ⟨rb,0,none⟩)) (by intro wq hSw;obtain ⟨s0,s1⟩:=hSw;clear hHeld;go_simp) hHeld ?_;simp only [Act.put,zz1,zz2,zz3];refine wpAnyH_ready (rs:=[4]) (by kernel_rfl) (by simp) ?_;refine AllReadyH.cons (o:=⟨some 119,.call ⟨.value (.func 12),#[.tmp 118],#[27]⟩,4,"exact.go:67",#[⟨3,.data⟩],none⟩) (by rfl) (fun K hK=>?_) AllReadyH.nil;refine held_call (by kernel_rfl) 12 #[.pointer (some ⟨cb,0,none⟩)] (by clear hHeld hK;go_simp) (R:=fun x w'=>x = .bool ov/\Hid (w'=V4.drew)) OC1.out ?_;rintro _ v1 ⟨rfl,hv1⟩;have hv2:=hv1.out.symm;subst hv2;refine hK.out _ _ ⟨d0,d1⟩ (fun hHeld=>?_);clear hK K hv1;(try simp only [Act.put,zz1,zz2,zz3]);refine wpAnyH_ready (rs:=[9]) (by kernel_rfl) (by simp) ?_;refine AllReadyH.cons (o:=⟨some 124,.call ⟨.value (.func 24),#[.tmp 123],#[28]⟩,4,"exact.go:67",#[⟨8,.data⟩,⟨4,.chain⟩],none⟩) (by rfl) (fun K hK=>?_) AllReadyH.nil;refine held_call (by kernel_rfl) 24 #[.pointer (some ⟨rb,0,none⟩)] (by clear hHeld hK;go_simp) (R:=fun x w'=>x = .bool ov/\Hid (w'=V4.drew)) OC2.out ?_;rintro _ v2 ⟨rfl,hv1⟩;have hv2:=hv1.out.symm;subst hv2;refine hK.out _ _ ⟨d0,d1⟩ (fun hHeld=>?_);clear hK K hv1;(try simp only [Act.put,zz1,zz2,zz3]);refine tkz 10 ⟨some 125,.binOp .eql 4 (.tmp 119) (.tmp 124) 4,4,"exact.go:67",#[⟨4,.data⟩,⟨9,.data⟩],none⟩ (.bool true) (by intro wq hSw;clear hSw hHeld;go_simp) hHeld ?_;simp only [Act.put,zz1,zz2,zz3];refine tkz 11 ⟨some 4,.assign (.tmp 125),4,"exact.go:67",#[⟨10,.data⟩,⟨9,.chain⟩,⟨0,.phase⟩,⟨1,.phase⟩,⟨2,.phase⟩,⟨3,.phase⟩,⟨4,.phase⟩,⟨5,.phase⟩,⟨6,.phase⟩,⟨7,.phase⟩,⟨8,.phase⟩,⟨9,.phase⟩,⟨10,.phase⟩],none⟩ (.bool true) (fun wq _=>pureVal_run (by kernel_rfl) wq) hHeld ?_;simp only [Act.put,zz1,zz2,zz3];clear hHeld;refine wpAnyH_done (by kernel_rfl) ?_ _;go_wp2_with fail;go_ret;exact ⟨rfl,(PPd.mk (Co.bel_on B1.out (Co.bel_on (drew_bel W1) hb2.out)) hc3.out (drew_bel V3) hc4.out (drew_bel V4) H4.out).mono (by omega) (by omega)⟩
end
open Co (inC inA ansP kpC cnC KL CnAt)
set_option maxHeartbeats 2000000
structure Opx where
 kind:Int
 d:Sl
 zb:Nat->Int
 what:Int
 q:Pk
 code:Int
 err:Int
def Opx.cs (o:Opx):Array Value:=opC o.kind o.d o.what o.q o.code o.err
structure Scr (w:World) (a:Option Addr) (len:Nat) (ops:Nat->Opx):Prop where
 at_:len=0\/∃ b off,a=some ⟨b,off,none⟩/\∀ i,i<len->w.rangeAt b (off+i*30) (ops i).cs.toList
 by_:∀ i,i<len->By w (ops i).d (ops i).zb
 pk:∀ i,i<len->PkR w (ops i).q
 dn:∀ i,i<len->(ops i).d.n<=140737488351232
 fit:len<=9223372036854775807
theorem range_later {w w':World} {b o:Nat} {cs:List Value} (h:w.rangeAt b o cs) (hb:Below w.heap.size w w'):w'.rangeAt b o cs:=fun j v hv=>cell_later hb (h j v hv)
section
variable {w W:World} {pb cb rb:Nat} {S1 S2:Nat->Prop} {most pat:Int} {n m:Nat} {s:CS}
theorem plays_any (h:PP w W pb cb rb S1 S2 most pat n m s s) (o:Opx) (hn:n+o.d.n<=300000) (hm:m<=100000) (hd:By w o.d o.zb) (hq:PkR w o.q) :
 Calls Tryz.prog 8 #[.pointer (some ⟨pb,0,none⟩),.agg o.cs] W fun e W'=>e = .returned (.bool true)/\PPd w W W' pb cb rb S1 S2 most pat (n+o.d.n) (m+2):=by
 obtain ⟨kind,d,zb,what,q,code,err⟩:=o;show Calls Tryz.prog 8 #[.pointer (some ⟨pb,0,none⟩),.agg (opC kind d what q code err)] W fun e W'=>e = .returned (.bool true)/\PPd w W W' pb cb rb S1 S2 most pat (n+d.n) (m+2);by_cases k1:kind=1;· subst k1;exact plays_one h d zb what q code err hn hm hd hq
 by_cases k2:kind=2;· subst k2;exact plays_two h d zb what q code err hn hm hd hq
 by_cases k3:kind=3;· subst k3;exact plays_three h d zb what q code err hn hm hd hq
 by_cases k4:kind=4;· subst k4;exact plays_four h d zb what q code err hn hm hd hq
 by_cases k6:kind=6;· subst k6;exact plays_six h d zb what q code err hn hm hd hq
 exact plays_other h d zb what q code err kind k1 k2 k3 k4 k6 hn hm hd hq
end
def sumD (ops:Nat->Opx):Nat->Nat | 0=>0 | i+1=>sumD ops i+(ops i).d.n
theorem sumD_mono (ops:Nat->Opx):∀ {i j:Nat},i<=j->sumD ops i<=sumD ops j:=by
 intro i j h;induction j with
 | zero => have : i = 0 := by omega
           subst this;exact Nat.le_refl _
 | succ j ih =>
  by_cases e:i=j+1;· subst e;exact Nat.le_refl _
  · have:=ih (by omega)
    show sumD ops i<=sumD ops j+(ops j).d.n;omega
def SmIs (w w':World) (e:Ending) (len:Nat) (ops:Nat->Opx):Prop:=∃ r,e = .returned (.bool r)/\w'=w/\(r=true->len<=300/\sumD ops len<=65536)
theorem small_any {w:World} {a:Option Addr} {len cap:Nat} {ops:Nat->Opx} (h:Scr w a len ops) :
 Calls Tryz.prog 6 #[.slice a len cap] w fun e w'=>SmIs w w' e len ops:=by
 have HS:=hidi h;have HL:=hidi h.fit;clear h;go_enter Tryz.func6,Tryz.ntmps6;go_wp2_with fail;go_loopg [3,4] len (fun gk s3 s4 wx=>∃ i sm:Nat,i+gk=len/\s3 = .int .i64 sm/\s4 = .int .i64 i/\Hid (wx=w)/\Hid (sm=sumD ops i/\sm<=140737488416768));case atStart=>exact ⟨0,0,by omega,rfl,rfl,rfl,rfl,by omega⟩
 case round =>
  obtain ⟨i,sm,hik,rfl,rfl,hwx,HM⟩:=hrel;have hwx2:=hwx.out;subst hwx2;have li:(i:Int)<=9223372036854775807:=by have:=HL.out;omega
  have ls:(sm:Int)<=140737488416768:=by have:=HM.out;omega
  by_cases hin:i<len
  · have hlt:(i:Int)<(len:Int):=by omega
    by_cases hs:sm<=65536
    · have hsI:(sm:Int)<=65536:=by omega
      obtain ⟨b,off,ha,hr⟩:=HS.out.at_.resolve_left (by omega);have c1:=hr i hin 1 (.slice (ops i).d.a (ops i).d.n (ops i).d.c) (by rfl);have dn:=HS.out.dn i hin;subst ha;obtain ⟨D,hD⟩:∃ D,(ops i).d=D:=⟨_,rfl⟩;rw [hD] at c1 dn;have HD:=hidi hD;have wsum:IntKind.i64.wrap ((sm:Int)+(D.n:Int))=((sm+D.n:Nat):Int):=by rw [IntKind.wrap_i64];omega
      have wi:IntKind.i64.wrap ((i:Int)+1)=((i+1:Nat):Int):=by rw [IntKind.wrap_i64];have:=HL.out;omega
      have i0:(0:Int)<=(i:Int):=by omega
      clear hD;go_wp2_with fail;go_roundg (len-(i+1));case measure=>omega
      case rel=>exact ⟨i+1,sm+D.n,by omega,by first | rfl | simp,by first | rfl | simp,rfl,by show sm+D.n=sumD ops i+(ops i).d.n;rw [HD.out,HM.out.1],by omega⟩
    · have hsI:¬ (sm:Int)<=65536:=by omega
      have q1:decide ((sm:Int)<=65536)=false:=decide_eq_false hsI;by_cases hl:(len:Int)<=300
      · have q2:decide ((len:Int)<=300)=true:=decide_eq_true hl
        go_wp2_with fail;go_ret;exact ⟨false,rfl,rfl,fun e=>by cases e⟩
      · have q2:decide ((len:Int)<=300)=false:=decide_eq_false hl
        go_wp2_with fail;go_ret;exact ⟨false,rfl,rfl,fun e=>by cases e⟩
  · have e:i=len:=by omega
    subst e;have hlt:¬ (i:Int)<(i:Int):=by omega
    by_cases hl:(i:Int)<=300
    · have q2:decide ((i:Int)<=300)=true:=decide_eq_true hl
      by_cases hs:(sm:Int)<=65536
      · have q1:decide ((sm:Int)<=65536)=true:=decide_eq_true hs
        go_wp2_with fail;go_ret;exact ⟨true,rfl,rfl,fun _=>⟨by omega,by have:=HM.out.1;omega⟩⟩
      · have q1:decide ((sm:Int)<=65536)=false:=decide_eq_false hs
        go_wp2_with fail;go_ret;exact ⟨false,rfl,rfl,fun e=>by cases e⟩
    · have q2:decide ((i:Int)<=300)=false:=decide_eq_false hl
      go_wp2_with fail;go_ret;exact ⟨false,rfl,rfl,fun e=>by cases e⟩
theorem begin_any (most pat:Int) {w W:World} (hg:Gw w) (hb:Below w.heap.size w W):Calls Tryz.prog 7 #[.int .i64 most,.int .i64 pat] W fun e W'=>∃ pb cb rb S1 S2,e = .returned (.pointer (some ⟨pb,0,none⟩))/\PP w W' pb cb rb S1 S2 most pat 0 0 (.live 0 0 0 (fun _=>0) 0) (.live 0 0 0 (fun _=>0) 0)/\Below W.heap.size W W'/\W.heap.size<=pb/\pb<W'.heap.size/\∀ k,(S1 k\/S2 k)->W.heap.size<=k:=by
 have KN:=hidi (Co.kl_new most pat (fun _=>0) hg hb);have HB:=hidi hb;clear hg hb;go_enter Tryz.func7,Tryz.ntmps7;go_wp2_with fail;go_must (go_at_call 11);refine KN.out.mono ?_;rintro e V1 ⟨rfl,hk,hb1⟩;have K1:=hidi hk;have B1:=hidi hb1;have DN:=hidi (dcnew_any most pat V1);clear KN hk hb1;go_wp2_with fail;go_must (go_at_call 15);refine DN.out.mono ?_;rintro e V2 ⟨rfl,hv2⟩;obtain ⟨F,hF⟩:∃ F,F=V1.alloc (.cells (dfC most (.slice none 0 0) 0 0 0) 85):=⟨_,rfl⟩;rw [<-hF] at hv2;have bF:Below V1.heap.size V1 F:=by rw [hF];exact (Below.refl _ _).alloc (Nat.le_refl _) _
 have b2:Below F.heap.size F V2:=by rw [hv2];exact (Below.refl _ _).alloc (Nat.le_refl _) _
 have sF:F.heap.size=V1.heap.size+1:=by rw [hF];simp
 have s2:V2.heap.size=V1.heap.size+2:=by rw [hv2];simp;omega
 have f1:DfAt V2 V1.heap.size most (.slice none 0 0) 0 0 0:=by unfold DfAt;exact (b2.block _ (by omega)).trans (by rw [hF];exact heap_alloc_new _ _)
 have d1:DcAt V2 (V1.heap.size+1) V1.heap.size (clampM most) 0 (max pat 0) 0 0:=by unfold DcAt;rw [<-sF,hv2];exact heap_alloc_new F _
 obtain ⟨V3,hV3⟩:∃ V3,V3=V2.alloc (.cells #[.pointer (some ⟨W.heap.size+1,0,none⟩),.pointer (some ⟨V1.heap.size+1,0,none⟩)] 30):=⟨_,rfl⟩;have b3:Below V2.heap.size V2 V3:=by rw [hV3];exact (Below.refl _ _).alloc (Nat.le_refl _) _
 have b13:Below V1.heap.size V1 V3:=Co.bel_on (Co.bel_on bF b2) b3;have k3:=K1.out.below b13;have lt:=kl_lt k3;have lt1:=kl_lt K1.out;have f3:=f1.keep (b3.block _ f1.lt);have d3:=dc_keep d1 (b3.block _ d1.lt);have sW:=B1.out.size;have s3:V3.heap.size=V2.heap.size+1:=by rw [hV3];simp
 have pr:V3.heap[V2.heap.size]?=some (.cells #[.pointer (some ⟨W.heap.size+1,0,none⟩),.pointer (some ⟨V1.heap.size+1,0,none⟩)] 30 (0,0)):=by rw [hV3];exact heap_alloc_new _ _
 have hbw:=HB.out.size;have R:=hidi (show PP w V3 V2.heap.size (W.heap.size+1) (V1.heap.size+1) (fun k=>k=W.heap.size+1\/k=W.heap.size) (fun k=>k=V1.heap.size+1\/k=V1.heap.size) most pat 0 0 (.live 0 0 0 (fun _=>0) 0) (.live 0 0 0 (fun _=>0) 0) from by
  refine ⟨⟨pr,?_,?_,?_,?_,?_,Co.bel_on (Co.bel_on HB.out B1.out) b13⟩,?_,?_,?_,?_⟩
  · rintro (e | e)
    · have:=lt1.1;omega
    · have:=lt1.2.1;omega
  · rintro (e | e) <;> omega
  ·
   rintro k (e | e) (e2 | e2);· have:=lt1.1;omega
   · have:=lt1.1;omega
   · have:=lt1.2.1;omega
   · have:=lt1.2.1;omega
  · rintro k (e | e)
    · have:=lt.1;omega
    · have:=lt.2.1;omega
  · rintro k (e | e) <;> omega
  · exact ⟨W.heap.size,none,0,k3,by omega,.inl rfl,.inr rfl,fun k e=>by cases e⟩
  · exact ⟨V1.heap.size,.slice none 0 0,0,d3,f3,World.ownsRow_nil _ _ _ _,.inl rfl,.inr rfl,fun k e=>by cases e⟩
  · exact ⟨.inl rfl,⟨by omega,by omega⟩,⟨by omega,by omega⟩,fun _=>⟨Int.le_refl 0,(by decide:(0:Int)<=255)⟩,Nat.le_refl _⟩
  · exact ⟨.inl rfl,⟨by omega,by omega⟩,⟨by omega,by omega⟩,fun _=>⟨Int.le_refl 0,(by decide:(0:Int)<=255)⟩,Nat.le_refl _⟩)
 have BB:=hidi (show Below W.heap.size W V3 from Co.bel_on B1.out b13);have ZZ:=hidi (show W.heap.size<=V2.heap.size/\V2.heap.size<V3.heap.size/\W.heap.size<=V1.heap.size from ⟨by omega,by omega,by omega⟩);have HV3:=hidi hV3;clear bF b2 sF s2 f1 d1 b3 b13 k3 lt lt1 f3 d3 sW s3 pr hbw hV3 hv2 hF DN;go_wp2_with fail;go_ret;refine ⟨V2.heap.size,W.heap.size+1,V1.heap.size+1,(fun k=>k=W.heap.size+1\/k=W.heap.size),(fun k=>k=V1.heap.size+1\/k=V1.heap.size),rfl,?_,?_,ZZ.out.1,?_,?_⟩;· rw [<-HV3.out];exact R.out
 · rw [<-HV3.out];exact BB.out
 · rw [<-HV3.out];exact ZZ.out.2.1
 · have:=ZZ.out
   rintro k ((e | e)|(e | e)) <;> omega
theorem wpList_load44 {ops:Array Oper} {Q:Exit->Act->World->Prop} {a:Act} {w:World} {o:Oper} {rest:List Oper} (hg:o.guard=none) (x:Operand) (ho:o.op = .load 44 x) (g k:Nat) (hx:a.eval x = .pointer (some ⟨g,k,none⟩)) (p:Opx) (hc:w.rangeAt g k p.cs.toList) (h:wpList Tryz.prog ops Q rest (a.put o.dst (.agg p.cs)) w):wpList Tryz.prog ops Q (o::rest) a w := wpList_load_mid hg 44 x ho g k hx p.cs.toList _ hc Tryz.underlying44 rfl (by kernel_rfl) h
structure Prs (w W:World) (c:Nat) (P C R:Nat->Nat) (F1 F2:Nat->Nat->Prop) (St:Nat->CS) (most pat:Int) (n m:Nat):Prop where
 pp:∀ i,i<c->PP w W (P i) (C i) (R i) (F1 i) (F2 i) most pat n m (St i) (St i)
 dj:∀ i j,i<c->j<c->i≠j->∀ k,(F1 i k\/F2 i k)->¬ (F1 j k\/F2 j k)
 np:∀ i j,i<c->j<c->∀ k,(F1 i k\/F2 i k)->k≠P j
 lo:∀ i,i<c->w.heap.size<=P i
section
variable {w W W':World} {c:Nat} {P C R:Nat->Nat} {F1 F2:Nat->Nat->Prop} {St:Nat->CS} {most pat:Int} {n m n' m':Nat}
theorem Prs.nil:Prs w W 0 P C R F1 F2 St most pat n m:=⟨fun _ h=>by omega,fun _ _ h=>by omega,fun _ _ h=>by omega,fun _ h=>by omega⟩
theorem Prs.lt (h:Prs w W c P C R F1 F2 St most pat n m) {i k:Nat} (hi:i<c) (hk:F1 i k\/F2 i k):w.heap.size<=k/\k<W.heap.size := hk.elim ((h.pp i hi).r.b1 k) ((h.pp i hi).r.b2 k)
theorem Prs.plt (h:Prs w W c P C R F1 F2 St most pat n m) {i:Nat} (hi:i<c):P i<W.heap.size:=(h.pp i hi).r.plt
theorem Prs.keep {T:Nat->Prop} (h:Prs w W c P C R F1 F2 St most pat n m) (hc:Ch T W W') (hT:∀ k,T k->w.heap.size<=k) (hd:∀ i,i<c->∀ k,(F1 i k\/F2 i k\/k=P i)->¬ T k) :
 Prs w W' c P C R F1 F2 St most pat n m where
 pp:=fun i hi=>(h.pp i hi).keep hc (hd i hi (P i) (.inr (.inr rfl))) hT (fun k q=>hd i hi k (.inl q)) (fun k q=>hd i hi k (.inr (.inl q)))
 dj:=h.dj
 np:=h.np
 lo:=h.lo
theorem Prs.below (h:Prs w W c P C R F1 F2 St most pat n m) (hb:Below W.heap.size W W'):Prs w W' c P C R F1 F2 St most pat n m := h.keep (T:=fun _=>False) (Below.ch hb) (fun _ q=>q.elim) (fun _ _ _ _ q=>q)
theorem Prs.mono (h:Prs w W c P C R F1 F2 St most pat n m) (hn:n<=n') (hm:m<=m'):Prs w W c P C R F1 F2 St most pat n' m' := ⟨fun i hi=>(h.pp i hi).mono hn hm,h.dj,h.np,h.lo⟩
theorem Prs.step (h:Prs w W c P C R F1 F2 St most pat n m) {i:Nat} (hi:i<c) (hd:PPd w W W' (P i) (C i) (R i) (F1 i) (F2 i) most pat n' m') (hn:n<=n') (hm:m<=m') :
 ∃ G1 G2 S',Prs w W' c P C R G1 G2 S' most pat n' m'/\∀ j,j<c->∀ k,(G1 j k\/G2 j k)->(F1 j k\/F2 j k)\/W.heap.size<=k:=by
 obtain ⟨T1,T2,s,hp,hc,hs⟩:=hd;refine ⟨fun j=>if j=i then T1 else F1 j,fun j=>if j=i then T2 else F2 j,fun j=>if j=i then s else St j,⟨?_,?_,?_,h.lo⟩,?_⟩
 · intro j hj
   by_cases e:j=i
   · subst e
     simpa using hp
   · simp only [if_neg e]
     refine ((h.pp j hj).keep hc (fun q=>h.np i j hi hj _ q rfl) (fun k q=>(h.lt hi q).1) (fun k q q2=>h.dj j i hj hi e k (.inl q) q2) (fun k q q2=>h.dj j i hj hi e k (.inr q) q2)).mono hn hm
 · intro a b ha hb hab k
   by_cases e:a=i
   · subst e
     simp only [if_pos,if_neg (Ne.symm hab)];intro q q2;rcases hs k q with q3 | q3;· exact h.dj a b ha hb hab k q3 q2
     · have:=(h.lt hb q2).2
       omega
   · by_cases e2:b=i
     · subst e2
       simp only [if_pos,if_neg e];intro q q2;rcases hs k q2 with q3 | q3;· exact h.dj a b ha hb hab k q q3
       · have:=(h.lt ha q).2
         omega
     · simp only [if_neg e,if_neg e2]
       exact h.dj a b ha hb hab k
 · intro a b ha hb k
   by_cases e:a=i
   · subst e
     simp only [if_pos];intro q;rcases hs k q with q3 | q3;· exact h.np a b ha hb k q3
     · have:=h.plt hb
       omega
   · simp only [if_neg e]
     exact h.np a b ha hb k
 · intro j hj k
   by_cases e:j=i
   · subst e
     simp only [if_pos];exact hs k
   · simp only [if_neg e]
     exact .inl
theorem Prs.push (h:Prs w W c P C R F1 F2 St most pat n m) (hb:Below W.heap.size W W') {pb cb rb:Nat} {S1 S2:Nat->Prop} {s:CS} (hp:PP w W' pb cb rb S1 S2 most pat n m s s) (hl:W.heap.size<=pb) (hS:∀ k,(S1 k\/S2 k)->W.heap.size<=k) (hw:w.heap.size<=W.heap.size) :
 ∃ P' C' R' G1 G2 S',Prs w W' (c+1) P' C' R' G1 G2 S' most pat n m/\(∀ j,j<c->P' j=P j)/\P' c=pb/\(∀ j,j<c->∀ k,(G1 j k\/G2 j k)->(F1 j k\/F2 j k))/\∀ k,(G1 c k\/G2 c k)->W.heap.size<=k:=by
 have h':=h.below hb;refine ⟨fun j=>if j<c then P j else pb,fun j=>if j<c then C j else cb,fun j=>if j<c then R j else rb,fun j=>if j<c then F1 j else S1,fun j=>if j<c then F2 j else S2,fun j=>if j<c then St j else s,⟨?_,?_,?_,?_⟩,?_,?_,?_,?_⟩
 · intro j hj
   by_cases e:j<c
   · simp only [if_pos e]
     exact h'.pp j e
   · simp only [if_neg e]
     exact hp
 · intro a b ha hb2 hab k
   by_cases e:a<c
   · by_cases e2:b<c
     · simp only [if_pos e,if_pos e2]
       exact h.dj a b e e2 hab k
     · simp only [if_pos e,if_neg e2]
       intro q q2;have:=(h.lt e q).2;have:=hS k q2;omega
   · by_cases e2:b<c
     · simp only [if_neg e,if_pos e2]
       intro q q2;have:=(h.lt e2 q2).2;have:=hS k q;omega
     · omega
 · intro a b ha hb2 k
   by_cases e:a<c
   · by_cases e2:b<c
     · simp only [if_pos e,if_pos e2]
       exact h.np a b e e2 k
     · simp only [if_pos e,if_neg e2]
       intro q;have:=(h.lt e q).2;omega
   · by_cases e2:b<c
     · simp only [if_neg e,if_pos e2]
       intro q;have:=h.plt e2;have:=hS k q;omega
     · simp only [if_neg e,if_neg e2]
       intro q e3;subst e3;exact q.elim hp.r.np1 hp.r.np2
 · intro j hj
   by_cases e:j<c
   · simp only [if_pos e]
     exact h.lo j e
   · simp only [if_neg e]
     omega
 · intro j hj
   simp only [if_pos hj]
 · simp
 · intro j hj k
   simp only [if_pos hj];exact id
 · intro k
   simp only [Nat.lt_irrefl,if_false];exact hS k
end
open Co (inC inA ansP kpC cnC KL CnAt own_ch)
def ptrs (P:Nat->Nat) (c:Nat):List Value:=(List.range c).map fun j=>.pointer (some ⟨P j,0,none⟩)
structure LsL (w W:World) (v:Value) (c:Nat) (P:Nat->Nat) (F1 F2:Nat->Nat->Prop):Prop where
 row:W.ownsRow w.heap.size 25 1 v c (ptrs P c)
 no:∀ k,v.ownBlock=some k->∀ j,j<c->¬ (F1 j k\/F2 j k)/\k≠P j
section
variable {w W W':World} {v:Value} {c:Nat} {P C R:Nat->Nat} {F1 F2 G1 G2:Nat->Nat->Prop} {St:Nat->CS} {most pat:Int} {n m n' m':Nat}
theorem LsL.lt (h:LsL w W v c P F1 F2) {k:Nat} (hk:v.ownBlock=some k):w.heap.size<=k/\k<W.heap.size:=h.row.lt k hk
theorem LsL.keep {T:Nat->Prop} (h:LsL w W v c P F1 F2) (hc:Ch T W W') (hT:∀ k,v.ownBlock=some k->¬ T k):LsL w W' v c P F1 F2:=⟨own_ch h.row hc hT,h.no⟩
theorem LsL.below (h:LsL w W v c P F1 F2) (hb:Below W.heap.size W W'):LsL w W' v c P F1 F2:=h.keep (T:=fun _=>False) (Below.ch hb) (fun _ _ q=>q)
theorem LsL.step {i:Nat} (h:LsL w W v c P F1 F2) (hi:i<c) (hc:Ch (fun k=>F1 i k\/F2 i k) W W') (hG:∀ j,j<c->∀ k,(G1 j k\/G2 j k)->(F1 j k\/F2 j k)\/W.heap.size<=k):LsL w W' v c P G1 G2:=by
 refine ⟨own_ch h.row hc (fun k hk=>(h.no k hk i hi).1),fun k hk j hj=>⟨fun q=>?_,(h.no k hk j hj).2⟩⟩;rcases hG j hj k q with q | q;· exact (h.no k hk j hj).1 q
 · have:=(h.lt hk).2
   omega
theorem ptrs_get (P:Nat->Nat) {c i:Nat} (hi:i<c):(ptrs P c)[i]?=some (.pointer (some ⟨P i,0,none⟩)):=by simp [ptrs,List.getElem?_map,List.getElem?_range hi]
theorem LsL.cell (h:LsL w W v c P F1 F2) (hc:0<c):∃ g cap,v = .slice (some ⟨g,0,none⟩) c cap/\(∀ i,i<c->W.cell? ⟨g,i,none⟩=some (.pointer (some ⟨P i,0,none⟩))):=by
 rcases h.row.2 with ⟨_,e⟩|⟨g,cap,cur,e,_,hg,hn,_,hs,ht⟩;· omega
 · refine ⟨g,cap,e,fun i hi=>?_⟩;refine dcell hg i _ ?_;have:=ptrs_get P hi;rw [<-ht] at this;rw [List.getElem?_take] at this;simp only [Nat.mul_one] at this;rw [if_pos hi] at this;simpa using this
theorem ptrs_push (P P':Nat->Nat) {c pb:Nat} (h1:∀ j,j<c->P' j=P j) (h2:P' c=pb):ptrs P c++[.pointer (some ⟨pb,0,none⟩)]=ptrs P' (c+1):=by unfold ptrs;rw [List.range_succ,List.map_append,<-h2];congr 1;refine List.map_congr_left (fun j hj=>?_);rw [h1 j (List.mem_range.1 hj)]
theorem prs_push (h:Prs w W c P C R F1 F2 St most pat n m) (hl:LsL w W v c P F1 F2) {V1 V3:World} {v2:Value} (hb:Below W.heap.size W V1) {pb cb rb:Nat} {S1 S2:Nat->Prop} {s:CS} (hp:PP w V1 pb cb rb S1 S2 most pat n m s s) (hpb:W.heap.size<=pb) (hS:∀ k,(S1 k\/S2 k)->W.heap.size<=k) (hw:Below w.heap.size w W)
 (ho:V3.ownsRow w.heap.size 25 1 v2 (c+1) (ptrs P c++[.pointer (some ⟨pb,0,none⟩)])) (hg:(V1.alloc (.cells #[.pointer (some ⟨pb,0,none⟩)] 25)).grownBy V3 v.ownBlock) (he:v2.ownBlock=v.ownBlock\/v2.ownBlock=some (V1.alloc (.cells #[.pointer (some ⟨pb,0,none⟩)] 25)).heap.size) :
 ∃ P' C' R' G1 G2 S',Prs w V3 (c+1) P' C' R' G1 G2 S' most pat n m/\LsL w V3 v2 (c+1) P' G1 G2:=by
 obtain ⟨P',C',R',G1,G2,S',hP,e1,e2,e3,e4⟩:=h.push hb hp hpb hS hw.size;have hal:Below V1.heap.size V1 (V1.alloc (.cells #[.pointer (some ⟨pb,0,none⟩)] 25)):=(Below.refl _ _).alloc (Nat.le_refl _) _;have hP2:=hP.below hal;have hsz:(V1.alloc (.cells #[.pointer (some ⟨pb,0,none⟩)] 25)).heap.size=V1.heap.size+1:=by simp
 have hno:∀ k,v.ownBlock=some k->∀ j,j<c+1->¬ (G1 j k\/G2 j k)/\k≠P' j:=by
  intro k hk j hj;have hlt:=(hl.lt hk).2;by_cases e:j<c;· exact ⟨fun q=>(hl.no k hk j e).1 (e3 j e k q),by rw [e1 j e];exact (hl.no k hk j e).2⟩
  · obtain rfl:j=c:=by omega
    exact ⟨fun q=>by have:=e4 k q;omega,by omega⟩
 have hch:Ch (fun k=>v.ownBlock=some k) (V1.alloc (.cells #[.pointer (some ⟨pb,0,none⟩)] 25)) V3:=(ch_grown hg).mono (fun _ _ q=>q);refine ⟨P',C',R',G1,G2,S',hP2.keep hch (fun k q=>(hl.lt q).1) ?_,⟨?_,?_⟩⟩
 · intro i hi k q q2
   rcases q with q | q | q;· exact (hno k q2 i hi).1 (.inl q)
   · exact (hno k q2 i hi).1 (.inr q)
   · exact (hno k q2 i hi).2 q
 · rw [<-ptrs_push P P' e1 e2]
   exact ho
 · intro k hk j hj
   rcases he with q | q;· exact hno k (q ▸ hk) j hj
   · have hk2:k=(V1.alloc (.cells #[.pointer (some ⟨pb,0,none⟩)] 25)).heap.size:=by rw [q] at hk;exact (Option.some.inj hk).symm
     refine ⟨fun q2=>?_,?_⟩
     · have:=(hP.lt hj q2).2
       omega
     · have:=hP.plt hj
       omega
end
end Go.Proofs.YtpldoeeahhaimaaGreatDoor.Dr
