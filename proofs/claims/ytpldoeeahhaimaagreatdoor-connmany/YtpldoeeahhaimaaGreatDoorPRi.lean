import Derived.Test.YtpldoeeahhaimaaGreatDoorPRfA
namespace Go.Proofs.YtpldoeeahhaimaaGreatDoor.Pkt
open Go Go.RowKit Go.Sort
set_option linter.all false
theorem isEmpty_dec (t:ByteArray):t.toList.isEmpty=decide (t.size=0):=by
 have h:=isEmpty_size t;by_cases h0:t.size=0;· rw [h0] at h;rw [decide_eq_true h0];revert h;cases t.toList.isEmpty <;> simp
 · rw [decide_eq_false h0];revert h;cases t.toList.isEmpty <;> simp [h0]
theorem zmsg_iff (t:ByteArray) (n:Nat) (q:Int) (r:Bool):zmsg t n q r=true↔t.size=0/\q=0/\r=false/\n=0:=by
 simp only [zmsg,Bool.and_eq_true,decide_eq_true_eq,Bool.not_eq_true'];constructor;· rintro ⟨⟨⟨a,b⟩,c⟩,d⟩;exact ⟨a,c,d,b⟩
 · rintro ⟨a,c,d,b⟩;exact ⟨⟨⟨a,b⟩,c⟩,d⟩
theorem forB_own (p:Pk):forB p=false↔Own p:=by
 have hA:fA p=false↔(p.kind≠1->p.level=0/\p.clean=false/\p.keep=0/\p.client.size=0/\p.hasWill=false/\p.hasUser=false/\p.hasPass=false):=by
  unfold fA;rw [isEmpty_dec];by_cases h:p.kind=1;· simp [h]
  ·
   simp [h];constructor;· rintro ⟨⟨⟨⟨⟨⟨a,b⟩,c⟩,d⟩,e⟩,f⟩,g⟩;exact ⟨a,b,c,d,e,f,g⟩
   · rintro ⟨a,b,c,d,e,f,g⟩;exact ⟨⟨⟨⟨⟨⟨a,b⟩,c⟩,d⟩,e⟩,f⟩,g⟩
 have hB:fB p=false↔((¬ (p.kind=1/\p.hasWill=true)->zmsg p.wT p.wP.n p.wQ p.wR=true)/\(¬ (p.kind=1/\p.hasUser=true)->p.user.size=0)/\(¬ (p.kind=1/\p.hasPass=true)->p.pass.n=0)):=by unfold fB;rw [isEmpty_dec];cases zmsg p.wT p.wP.n p.wQ p.wR <;> cases p.hasWill <;> cases p.hasUser <;> cases p.hasPass <;> by_cases h:p.kind=1 <;> by_cases hu:p.user.size=0 <;> by_cases hp:p.pass.n=0 <;> simp [h,hu,hp] <;> omega
 have hC:fC p=false↔(p.kind≠2->p.present=false/\p.code=0):=by
  unfold fC;by_cases h:p.kind=2;· simp [h]
  · simp [h]
 have hD:fD p=false↔(p.kind≠3->p.dup=false/\zmsg p.mT p.mP.n p.mQ p.mR=true):=by
  unfold fD;by_cases h:p.kind=3;· simp [h]
  · simp [h]
 have hE:fE p=false↔((hasID p=false->p.id=0)/\(p.kind≠8->p.asks.n=0)/\(p.kind≠9->p.codes.n=0)/\(p.kind≠10->p.filters.n=0)):=by unfold fE;cases hasID p <;> by_cases h8:p.kind=8 <;> by_cases h9:p.kind=9 <;> by_cases h10:p.kind=10 <;> by_cases a:p.id=0 <;> by_cases b:p.asks.n=0 <;> by_cases c:p.codes.n=0 <;> by_cases d:p.filters.n=0 <;> simp [h8,h9,h10,a,b,c,d] <;> omega
 have e:forB p=false↔(fA p=false/\fB p=false/\fC p=false/\fD p=false/\fE p=false):=by
  unfold forB;simp only [Bool.or_eq_false_iff];constructor;· rintro ⟨⟨⟨⟨a,b⟩,c⟩,d⟩,e⟩;exact ⟨a,b,c,d,e⟩
  · rintro ⟨a,b,c,d,e⟩;exact ⟨⟨⟨⟨a,b⟩,c⟩,d⟩,e⟩
 rw [e,hA,hB,hC,hD,hE];constructor
 · rintro ⟨a,⟨b1,b2,b3⟩,c,d,e1,e2,e3,e4⟩
   exact { level:=fun h=>(a h).1,clean:=fun h=>(a h).2.1,keep:=fun h=>(a h).2.2.1,client:=fun h=>(a h).2.2.2.1,hasWill:=fun h=>(a h).2.2.2.2.1,will:=fun h=>(zmsg_iff _ _ _ _).1 (b1 h),hasUser:=fun h=>(a h).2.2.2.2.2.1,user:=b2,hasPass:=fun h=>(a h).2.2.2.2.2.2,pass:=b3,present:=fun h=>(c h).1,code:=fun h=>(c h).2,dup:=fun h=>(d h).1,msg:=fun h=>(zmsg_iff _ _ _ _).1 (d h).2,id:=e1,asks:=e2,codes:=e3,filters:=e4 }
 · intro h
   exact ⟨fun k=>⟨h.level k,h.clean k,h.keep k,h.client k,h.hasWill k,h.hasUser k,h.hasPass k⟩,⟨fun k=>(zmsg_iff _ _ _ _).2 (h.will k),h.user,h.pass⟩,fun k=>⟨h.present k,h.code k⟩,fun k=>⟨h.dup k,(zmsg_iff _ _ _ _).2 (h.msg k)⟩,h.id,h.asks,h.codes,h.filters⟩
theorem bad1_for (p:Pk) (h1:1<=p.kind) (h2:p.kind<=14):bad1 p=(forB p || !bnd p):=by
 unfold bad1;congr 1;have h:=own_is p h1 h2;have g:=forB_own p;cases hf:forB p;· have:=h.2 (g.1 hf);simp [this]
 ·
  have:¬ gv p &&& (18446744073709551615-fl p)=0:=fun hh=>by have:=g.2 (h.1 hh);rw [hf] at this;cases this
  simpa using this
set_option maxRecDepth 100000
set_option maxHeartbeats 4000000
theorem within_any (k m:Int) (w:World):Calls Tryz.prog 81 #[.int .i64 k,.int .i64 m] w fun e w'=>e = .returned (.bool (decide (0<=k) && decide (k<=m)))/\w'=w:=by
 by_cases h1:0<=k;·
  by_cases h2:k<=m;·
   have e:(decide (0<=k) && decide (k<=m))=true:=by simp [h1,h2]
   rw [e];clear e;go_enter Tryz.func81,Tryz.ntmps81;go_wp2;go_ret;exact ⟨rfl,rfl⟩
  ·
   have e:(decide (0<=k) && decide (k<=m))=false:=by simp [h1,h2]
   rw [e];clear e;go_enter Tryz.func81,Tryz.ntmps81;go_wp2;go_ret;exact ⟨rfl,rfl⟩
 ·
  have e:(decide (0<=k) && decide (k<=m))=false:=by simp [h1]
  rw [e];clear e;go_enter Tryz.func81,Tryz.ntmps81;go_wp2;go_ret;exact ⟨rfl,rfl⟩
def qA (p:Pk):Bool:=(p.kind==1 && p.hasWill && !isQ p.wQ) || (p.kind==3 && !isQ p.mQ)
def rqls (p:Pk) (c:Cn):Bool:=!qA p && allN p.asks.n (fun i=>isQ (c.aq i)) && allN p.codes.n (fun i=>isC (c.cs i))
theorem within_q (q:Int) (w:World):Calls Tryz.prog 81 #[.int .i64 q,.int .i64 2] w fun e w'=>e = .returned (.bool (isQ q))/\w'=w:=within_any q 2 w
theorem rqualities_any (p:Pk) (c:Cn) (w:World) (hin:In w p c) (ha:p.asks.n<=1000000) (hd:p.codes.n<=1000000):Calls Tryz.prog 85 #[p.v] w fun e w'=>e = .returned (.bool (rqls p c))/\Below w.heap.size w w':=by
 obtain ⟨x,hx⟩:∃ x,x=rqls p c:=⟨_,rfl⟩;rw [<-hx];have HX:Hid (x=rqls p c):=hx;clear hx;obtain ⟨P,hP⟩:∃ P,P=pkCells p:=⟨_,rfl⟩;obtain ⟨W,hW⟩:∃ W,W=w.alloc (.cells P 39):=⟨_,rfl⟩;have b0:Hid (Below w.heap.size w W):=box_below hW;have FA:Hid (∀ k v,(pkCells p)[k]?=some v->W.cell? ⟨w.heap.size,k,none⟩=some v):=fun k v h=>by rw [hW];exact box_cell w P 39 k v (by rw [hP];exact h)
 rw [show p.v = .agg P by rw [hP];rfl];clear hP;have HA:Hid (As W p.asks c.af c.aq):=hin.asks.below b0.out;have HS:Hid (Is W p.codes c.cs):=hin.codes.below b0.out;have LA:Hid (p.asks.n<=1000000):=ha;have LC:Hid (p.codes.n<=1000000):=hd;clear hin ha hd;obtain ⟨b1,h1⟩:∃ b,(p.kind==1)=b:=⟨_,rfl⟩;obtain ⟨b3,h3⟩:∃ b,(p.kind==3)=b:=⟨_,rfl⟩;go_enter Tryz.func85,Tryz.ntmps85;go_upto_region 1 with fail;rw [<-hW];clear hW;go_cut [30] from 5 (fun s30 wx=>s30 = .bool (qA p)/\Hid (wx=W));case first =>
  have c0:=FA.out 0 (.int .i64 p.kind) rfl;have c5:=FA.out 5 (.bool p.hasWill) rfl;have c8:=FA.out 8 (.int .i64 p.wQ) rfl;have c19:=FA.out 19 (.int .i64 p.mQ) rfl;cases b1;case false =>
   cases b3;case false => go_wp2_with fail;go_meet;case rel=>exact ⟨by simp [qA,h1,h3],rfl⟩
   cases hmq:isQ p.mQ;case false => go_wp2_with (go_at_call 81;refine (within_q p.mQ _).mono ?_;rintro e w' ⟨rfl,hee⟩;obtain rfl:=hee.symm;clear hee;rw [hmq]);go_meet;case rel=>exact ⟨by simp [qA,h1,h3,hmq],rfl⟩
   go_wp2_with (go_at_call 81;refine (within_q p.mQ _).mono ?_;rintro e w' ⟨rfl,hee⟩;obtain rfl:=hee.symm;clear hee;rw [hmq]);go_meet;case rel=>exact ⟨by simp [qA,h1,h3,hmq],rfl⟩
  cases hw:p.hasWill;case false =>
   rw [hw] at c5;cases b3;case false => go_wp2_with fail;go_meet;case rel=>exact ⟨by simp [qA,h1,hw,h3],rfl⟩
   cases hmq:isQ p.mQ;case false => go_wp2_with (go_at_call 81;refine (within_q p.mQ _).mono ?_;rintro e w' ⟨rfl,hee⟩;obtain rfl:=hee.symm;clear hee;rw [hmq]);go_meet;case rel=>exact ⟨by simp [qA,h1,hw,h3,hmq],rfl⟩
   go_wp2_with (go_at_call 81;refine (within_q p.mQ _).mono ?_;rintro e w' ⟨rfl,hee⟩;obtain rfl:=hee.symm;clear hee;rw [hmq]);go_meet;case rel=>exact ⟨by simp [qA,h1,hw,h3,hmq],rfl⟩
  rw [hw] at c5;cases hwq:isQ p.wQ;case false => go_wp2_with (go_at_call 81;refine (within_q p.wQ _).mono ?_;rintro e w' ⟨rfl,hee⟩;obtain rfl:=hee.symm;clear hee;rw [hwq]);go_meet;case rel=>exact ⟨by simp [qA,h1,hw,hwq],rfl⟩
  cases b3;case false => go_wp2_with (go_at_call 81;refine (within_q p.wQ _).mono ?_;rintro e w' ⟨rfl,hee⟩;obtain rfl:=hee.symm;clear hee;rw [hwq]);go_meet;case rel=>exact ⟨by simp [qA,h1,hw,hwq,h3],rfl⟩
  cases hmq:isQ p.mQ;case false => go_wp2_with (go_at_call 81;refine (within_q _ _).mono ?_;rintro e w' ⟨rfl,hee⟩;obtain rfl:=hee.symm;clear hee;first | rw [hwq] | rw [hmq]);go_meet;case rel=>exact ⟨by simp [qA,h1,hw,hwq,h3,hmq],rfl⟩
  go_wp2_with (go_at_call 81;refine (within_q _ _).mono ?_;rintro e w' ⟨rfl,hee⟩;obtain rfl:=hee.symm;clear hee;first | rw [hwq] | rw [hmq]);go_meet;case rel=>exact ⟨by simp [qA,h1,hw,hwq,h3,hmq],rfl⟩
 case rest =>
 obtain ⟨rfl,hw1⟩:=hcut;obtain rfl:=hw1.out.symm;clear hw1 h1 h3;cases tA:qA p;case true => go_wp2;go_ret;exact ⟨by rw [HX.out,rqls,tA];rfl,b0.out⟩
 have HQ:Hid (qA p=false):=tA;clear tA;have c22:=FA.out 22 (.slice p.asks.a p.asks.n p.asks.c) rfl;have c23:=FA.out 23 (.slice p.codes.a p.codes.n p.codes.c) rfl;go_wp2_with fail;go_loopg [3] p.asks.n (fun g s3 wx=>wx=W/\∃ k:Nat,s3 = .int .i64 k/\k+g=p.asks.n/\Hid (∀ j,j<k->isQ (c.aq j)=true));case atStart=>exact ⟨rfl,0,rfl,by omega,fun j hj=>absurd hj (Nat.not_lt_zero _)⟩
 case round =>
  obtain ⟨hw0,k,rfl,hkg,HD⟩:=hrel;obtain rfl:=hw0.symm;clear hw0;by_cases hk:k<p.asks.n;·
   have hk':(k:Int)<p.asks.n:=by omega
   obtain ⟨b,off,he,hc⟩:∃ b off,p.asks.a=some ⟨b,off,none⟩/\∀ i,i<p.asks.n->(W.cell? ⟨b,off+i*2,none⟩=some (.string (c.af i))/\W.cell? ⟨b,off+i*2+1,none⟩=some (.int .i64 (c.aq i))):=by
    rcases HA.out.2 with h | h;· omega
    · exact h
   have hac:p.asks.n<=p.asks.c:=HA.out.1;rw [he] at c22;have d1:=(hc k hk).2;have hw:IntKind.i64.wrap ((k:Int)+1)=(k:Int)+1:=by rw [IntKind.wrap_i64];have:=LA.out;omega
   clear hc he;cases hq:isQ (c.aq k);case false =>
    have HR:Hid (x=false):=by show _=_;rw [HX.out,rqls,allN_false k hk hq];simp
    go_wp2_with (go_at_call 81;refine (within_q _ _).mono ?_;rintro e w' ⟨rfl,hee⟩;obtain rfl:=hee.symm;clear hee;rw [hq]);go_ret;exact ⟨by rw [HR.out];rfl,b0.out⟩
   have HN:Hid (∀ j,j<k+1->isQ (c.aq j)=true):=fun j hj=>by
    rcases Nat.lt_or_ge j k with h | h;· exact HD.out j h
    · obtain rfl:j=k:=by omega
      exact hq
   go_wp2_with (go_at_call 81;refine (within_q _ _).mono ?_;rintro e w' ⟨rfl,hee⟩;obtain rfl:=hee.symm;clear hee;rw [hq]);go_roundg (p.asks.n-(k+1));case measure=>omega
   case rel=>exact ⟨rfl,k+1,by first | rfl | simp,by omega,HN⟩
  ·
   obtain rfl:k=p.asks.n:=by omega
   have hk':¬ (p.asks.n:Int)<p.asks.n:=by omega
   have AL:Hid (allN p.asks.n (fun i=>isQ (c.aq i))=true):=(allN_iff _ _).2 HD.out;go_wp2_with fail;clear hk';go_loopg [4] p.codes.n (fun g s4 wx=>wx=W/\∃ k:Nat,s4 = .int .i64 k/\k+g=p.codes.n/\Hid (∀ j,j<k->isC (c.cs j)=true));case atStart=>exact ⟨rfl,0,rfl,by omega,fun j hj=>absurd hj (Nat.not_lt_zero _)⟩
   case round =>
    obtain ⟨hw0,j,rfl,hjg,HC⟩:=hrel;obtain rfl:=hw0.symm;clear hw0;by_cases hj:j<p.codes.n;·
     have hj':(j:Int)<p.codes.n:=by omega
     obtain ⟨b,off,he,hc⟩:∃ b off,p.codes.a=some ⟨b,off,none⟩/\∀ i,i<p.codes.n->W.cell? ⟨b,off+i,none⟩=some (.int .i64 (c.cs i)):=by
      rcases HS.out.2 with h | h;· omega
      · exact h
     have hac:p.codes.n<=p.codes.c:=HS.out.1;rw [he] at c23;have d1:=hc j hj;have hw:IntKind.i64.wrap ((j:Int)+1)=(j:Int)+1:=by rw [IntKind.wrap_i64];have:=LC.out;omega
     clear hc he;cases hq:isQ (c.cs j);case false =>
      by_cases h128:c.cs j=128;·
       have h128':(c.cs j != 128)=false:=by simp [h128]
       have HN:Hid (∀ i,i<j+1->isC (c.cs i)=true):=fun i hi=>by
        rcases Nat.lt_or_ge i j with h | h;· exact HC.out i h
        · obtain rfl:i=j:=by omega
          simp [isC,h128]
       clear h128;go_wp2_with (go_at_call 81;refine (within_q _ _).mono ?_;rintro e w' ⟨rfl,hee⟩;obtain rfl:=hee.symm;clear hee;rw [hq]);go_roundg (p.codes.n-(j+1));case measure=>omega
       case rel=>exact ⟨rfl,j+1,by first | rfl | simp,by omega,HN⟩
      · have h128':(c.cs j != 128)=true:=by simp [h128]
        have HR:Hid (x=false):=by show _=_;rw [HX.out,rqls,allN_false (f:=fun i=>isC (c.cs i)) j hj (by simp [isC,hq,h128])];simp
        clear h128;go_wp2_with (go_at_call 81;refine (within_q _ _).mono ?_;rintro e w' ⟨rfl,hee⟩;obtain rfl:=hee.symm;clear hee;rw [hq]);go_ret;exact ⟨by rw [HR.out];rfl,b0.out⟩
     have HN:Hid (∀ i,i<j+1->isC (c.cs i)=true):=fun i hi=>by
      rcases Nat.lt_or_ge i j with h | h;· exact HC.out i h
      · obtain rfl:i=j:=by omega
        simp [isC,hq]
     go_wp2_with (go_at_call 81;refine (within_q _ _).mono ?_;rintro e w' ⟨rfl,hee⟩;obtain rfl:=hee.symm;clear hee;rw [hq]);go_roundg (p.codes.n-(j+1));case measure=>omega
     case rel=>exact ⟨rfl,j+1,by first | rfl | simp,by omega,HN⟩
    ·
     obtain rfl:j=p.codes.n:=by omega
     have hj':¬ (p.codes.n:Int)<p.codes.n:=by omega
     have CL:Hid (allN p.codes.n (fun i=>isC (c.cs i))=true):=(allN_iff _ _).2 HC.out;have HR:Hid (x=true):=by show _=_;rw [HX.out,rqls,HQ.out,AL.out,CL.out];rfl
     go_wp2;go_ret;exact ⟨by rw [HR.out];rfl,b0.out⟩
def rb (p:Pk) (c:Cn):Nat := if p.kind=1 then szc p else if p.kind=2 then 2 else if p.kind=3 then 2+p.mT.size+p.mP.n else if p.kind=8 then sumN (fun i=>3+(c.af i).size) p.asks.n else if p.kind=9 then p.codes.n else if p.kind=10 then sumN (fun i=>2+(c.fs i).size) p.filters.n else 0
def rsz (p:Pk) (c:Cn):Nat:=rb p c+nid p
theorem sumN_step (f:Nat->Nat) (n k:Nat) (h:k<n):sumN f k+f k<=sumN f n:=by
 induction n with
 | zero=>omega;| succ n ih =>
  by_cases e:k=n;· subst e;exact Nat.le_refl _
  · have:=ih (by omega)
    show sumN f k+f k<=sumN f n+f n;omega
theorem rbytes_any (p:Pk) (c:Cn) (w:World) (hin:In w p c) (hs:Small p c):Calls Tryz.prog 87 #[p.v] w fun e w'=>e = .returned (.int .i64 (rsz p c))/\Below w.heap.size w w':=by
 obtain ⟨x,hx⟩:∃ x:Int,x=(rsz p c:Nat):=⟨_,rfl⟩;rw [<-hx];have HX:Hid (x=(rsz p c:Nat)):=hx;clear hx;obtain ⟨P,hP⟩:∃ P,P=pkCells p:=⟨_,rfl⟩;obtain ⟨W,hW⟩:∃ W,W=w.alloc (.cells P 39):=⟨_,rfl⟩;have b0:Hid (Below w.heap.size w W):=box_below hW;have g0:Hid (W.heap[w.heap.size]?=some (.cells P 39)):=by show _=_;rw [hW];exact heap_alloc_new w _
 have SP:Hid (P.size=25):=by show _=_;rw [hP];rfl
 have FA:Hid (∀ k v,(pkCells p)[k]?=some v->W.cell? ⟨w.heap.size,k,none⟩=some v):=fun k v h=>by rw [hW];exact box_cell w P 39 k v (by rw [hP];exact h)
 have NU:Hid (∀ w',Calls Tryz.prog 86 #[.agg P] w' fun e w''=>e = .returned (.bool (hasID p))/\Below w'.heap.size w' w''):=fun w'=>by rw [hP];exact numbered_any p w'
 rw [show p.v = .agg P by rw [hP];rfl];clear hP;have HA:Hid (As W p.asks c.af c.aq):=hin.asks.below b0.out;have HS:Hid (Ss W p.filters c.fs):=hin.filters.below b0.out;have SM:Hid (Small p c):=hs;clear hin hs;go_enter Tryz.func87,Tryz.ntmps87;go_upto_region 2 with fail;rw [<-hW];clear hW;have c0:=FA.out 0 (.int .i64 p.kind) rfl;obtain ⟨bi,hi⟩:∃ b,hasID p=b:=⟨_,rfl⟩;have HI:Hid (hasID p=bi):=hi;have NU2:Hid (Calls Tryz.prog 86 #[.agg P] W fun e w''=>e = .returned (.bool bi)/\Below W.heap.size W w''):=by have:=NU.out W;rw [HI.out] at this;exact this
 clear hi;by_cases k1:p.kind=1;·
  have e1:(p.kind==1)=true:=by rw [k1];rfl
  have c4:=FA.out 4 (.string p.client) rfl;have c5:=FA.out 5 (.bool p.hasWill) rfl;have c6:=FA.out 6 (.string p.wT) rfl;have c7:=FA.out 7 (.slice p.wP.a p.wP.n p.wP.c) rfl;have c10:=FA.out 10 (.bool p.hasUser) rfl;have c11:=FA.out 11 (.string p.user) rfl;have c12:=FA.out 12 (.bool p.hasPass) rfl;have c13:=FA.out 13 (.slice p.pass.a p.pass.n p.pass.c) rfl;cases hw:p.hasWill;case true =>
   rw [hw] at c5;cases hu:p.hasUser;case true =>
    rw [hu] at c10;cases hp:p.hasPass;case true =>
     rw [hp] at c12;have hS:=SM.out;have s1:=hS.cl;have s2:=hS.us;have s3:=hS.wt;have s4:=hS.mt;have s5:=hS.wp;have s6:=hS.ps;have s7:=hS.mp;have s8:=hS.cn;have v0:IntKind.i64.wrap ((12:Int)+(p.client.size:Int))=(12:Int)+(p.client.size:Int):=by rw [IntKind.wrap_i64];omega
     have v1:IntKind.i64.wrap ((12:Int)+(p.client.size:Int)+(2:Int))=(12:Int)+(p.client.size:Int)+(2:Int):=by rw [IntKind.wrap_i64];omega
     have v2:IntKind.i64.wrap ((12:Int)+(p.client.size:Int)+(2:Int)+(p.wT.size:Int))=(12:Int)+(p.client.size:Int)+(2:Int)+(p.wT.size:Int):=by rw [IntKind.wrap_i64];omega
     have v3:IntKind.i64.wrap ((12:Int)+(p.client.size:Int)+(2:Int)+(p.wT.size:Int)+(2:Int))=(12:Int)+(p.client.size:Int)+(2:Int)+(p.wT.size:Int)+(2:Int):=by rw [IntKind.wrap_i64];omega
     have v4:IntKind.i64.wrap ((12:Int)+(p.client.size:Int)+(2:Int)+(p.wT.size:Int)+(2:Int)+(p.wP.n:Int))=(12:Int)+(p.client.size:Int)+(2:Int)+(p.wT.size:Int)+(2:Int)+(p.wP.n:Int):=by rw [IntKind.wrap_i64];omega
     have v5:IntKind.i64.wrap ((12:Int)+(p.client.size:Int)+(2:Int)+(p.wT.size:Int)+(2:Int)+(p.wP.n:Int)+(2:Int))=(12:Int)+(p.client.size:Int)+(2:Int)+(p.wT.size:Int)+(2:Int)+(p.wP.n:Int)+(2:Int):=by rw [IntKind.wrap_i64];omega
     have v6:IntKind.i64.wrap ((12:Int)+(p.client.size:Int)+(2:Int)+(p.wT.size:Int)+(2:Int)+(p.wP.n:Int)+(2:Int)+(p.user.size:Int))=(12:Int)+(p.client.size:Int)+(2:Int)+(p.wT.size:Int)+(2:Int)+(p.wP.n:Int)+(2:Int)+(p.user.size:Int):=by rw [IntKind.wrap_i64];omega
     have v7:IntKind.i64.wrap ((12:Int)+(p.client.size:Int)+(2:Int)+(p.wT.size:Int)+(2:Int)+(p.wP.n:Int)+(2:Int)+(p.user.size:Int)+(2:Int))=(12:Int)+(p.client.size:Int)+(2:Int)+(p.wT.size:Int)+(2:Int)+(p.wP.n:Int)+(2:Int)+(p.user.size:Int)+(2:Int):=by rw [IntKind.wrap_i64];omega
     have v8:IntKind.i64.wrap ((12:Int)+(p.client.size:Int)+(2:Int)+(p.wT.size:Int)+(2:Int)+(p.wP.n:Int)+(2:Int)+(p.user.size:Int)+(2:Int)+(p.pass.n:Int))=(12:Int)+(p.client.size:Int)+(2:Int)+(p.wT.size:Int)+(2:Int)+(p.wP.n:Int)+(2:Int)+(p.user.size:Int)+(2:Int)+(p.pass.n:Int):=by rw [IntKind.wrap_i64];omega
     clear hS s1 s2 s3 s4 s5 s6 s7 s8;have HV:Hid ((rb p c:Int)=(12:Int)+(p.client.size:Int)+(2:Int)+(p.wT.size:Int)+(2:Int)+(p.wP.n:Int)+(2:Int)+(p.user.size:Int)+(2:Int)+(p.pass.n:Int)):=by show _=_;rw [show rb p c=12+p.client.size+(4+p.wT.size+p.wP.n)+(2+p.user.size)+(2+p.pass.n) by simp [rb,szc,k1,hw,hu,hp]];push_cast;omega
     have HL:Hid (((12:Int)+(p.client.size:Int)+(2:Int)+(p.wT.size:Int)+(2:Int)+(p.wP.n:Int)+(2:Int)+(p.user.size:Int)+(2:Int)+(p.pass.n:Int):Int)<=300000000/\0<=((12:Int)+(p.client.size:Int)+(2:Int)+(p.wT.size:Int)+(2:Int)+(p.wP.n:Int)+(2:Int)+(p.user.size:Int)+(2:Int)+(p.pass.n:Int):Int)):=by have hS:=SM.out;have s1:=hS.cl;have s2:=hS.us;have s3:=hS.wt;have s4:=hS.mt;have s5:=hS.wp;have s6:=hS.ps;have s7:=hS.mp;have s8:=hS.cn;have s9:=hS.sa;have s10:=hS.sf;have hv:=HV.out;show _/\_;(try have hn:=HN.out);constructor <;> omega
     have hwl:IntKind.i64.wrap ((12:Int)+(p.client.size:Int)+(2:Int)+(p.wT.size:Int)+(2:Int)+(p.wP.n:Int)+(2:Int)+(p.user.size:Int)+(2:Int)+(p.pass.n:Int)+2)=(12:Int)+(p.client.size:Int)+(2:Int)+(p.wT.size:Int)+(2:Int)+(p.wP.n:Int)+(2:Int)+(p.user.size:Int)+(2:Int)+(p.pass.n:Int)+2:=by rw [IntKind.wrap_i64];have:=HL.out;omega
     go_wp2_with (first | (refine wpList_load_wanted rfl _ rfl w.heap.size rfl P (0,0) g0.out SP.out ?_) | fail);go_must (go_at_call 86);refine NU2.out.mono ?_;rintro e w1 ⟨rfl,hb⟩;have B1:Hid (Below w.heap.size w w1):=b0.out.trans (hb.mono b0.out.size);clear hb;cases bi
     · have HR:Hid (x=(12:Int)+(p.client.size:Int)+(2:Int)+(p.wT.size:Int)+(2:Int)+(p.wP.n:Int)+(2:Int)+(p.user.size:Int)+(2:Int)+(p.pass.n:Int)):=by have hv:=HV.out;show _=_;rw [HX.out,rsz,nid,HI.out,if_neg (by decide)];omega
       go_wp2;go_ret;exact ⟨by rw [HR.out];rfl,B1.out⟩
     · have HR:Hid (x=(12:Int)+(p.client.size:Int)+(2:Int)+(p.wT.size:Int)+(2:Int)+(p.wP.n:Int)+(2:Int)+(p.user.size:Int)+(2:Int)+(p.pass.n:Int)+2):=by have hv:=HV.out;show _=_;rw [HX.out,rsz,nid,HI.out,if_pos rfl];omega
       go_wp2;go_ret;exact ⟨by rw [HR.out];rfl,B1.out⟩
    case false =>
     rw [hp] at c12;have hS:=SM.out;have s1:=hS.cl;have s2:=hS.us;have s3:=hS.wt;have s4:=hS.mt;have s5:=hS.wp;have s6:=hS.ps;have s7:=hS.mp;have s8:=hS.cn;have v0:IntKind.i64.wrap ((12:Int)+(p.client.size:Int))=(12:Int)+(p.client.size:Int):=by rw [IntKind.wrap_i64];omega
     have v1:IntKind.i64.wrap ((12:Int)+(p.client.size:Int)+(2:Int))=(12:Int)+(p.client.size:Int)+(2:Int):=by rw [IntKind.wrap_i64];omega
     have v2:IntKind.i64.wrap ((12:Int)+(p.client.size:Int)+(2:Int)+(p.wT.size:Int))=(12:Int)+(p.client.size:Int)+(2:Int)+(p.wT.size:Int):=by rw [IntKind.wrap_i64];omega
     have v3:IntKind.i64.wrap ((12:Int)+(p.client.size:Int)+(2:Int)+(p.wT.size:Int)+(2:Int))=(12:Int)+(p.client.size:Int)+(2:Int)+(p.wT.size:Int)+(2:Int):=by rw [IntKind.wrap_i64];omega
     have v4:IntKind.i64.wrap ((12:Int)+(p.client.size:Int)+(2:Int)+(p.wT.size:Int)+(2:Int)+(p.wP.n:Int))=(12:Int)+(p.client.size:Int)+(2:Int)+(p.wT.size:Int)+(2:Int)+(p.wP.n:Int):=by rw [IntKind.wrap_i64];omega
     have v5:IntKind.i64.wrap ((12:Int)+(p.client.size:Int)+(2:Int)+(p.wT.size:Int)+(2:Int)+(p.wP.n:Int)+(2:Int))=(12:Int)+(p.client.size:Int)+(2:Int)+(p.wT.size:Int)+(2:Int)+(p.wP.n:Int)+(2:Int):=by rw [IntKind.wrap_i64];omega
     have v6:IntKind.i64.wrap ((12:Int)+(p.client.size:Int)+(2:Int)+(p.wT.size:Int)+(2:Int)+(p.wP.n:Int)+(2:Int)+(p.user.size:Int))=(12:Int)+(p.client.size:Int)+(2:Int)+(p.wT.size:Int)+(2:Int)+(p.wP.n:Int)+(2:Int)+(p.user.size:Int):=by rw [IntKind.wrap_i64];omega
     clear hS s1 s2 s3 s4 s5 s6 s7 s8;have HV:Hid ((rb p c:Int)=(12:Int)+(p.client.size:Int)+(2:Int)+(p.wT.size:Int)+(2:Int)+(p.wP.n:Int)+(2:Int)+(p.user.size:Int)):=by show _=_;rw [show rb p c=12+p.client.size+(4+p.wT.size+p.wP.n)+(2+p.user.size) by simp [rb,szc,k1,hw,hu,hp]];push_cast;omega
     have HL:Hid (((12:Int)+(p.client.size:Int)+(2:Int)+(p.wT.size:Int)+(2:Int)+(p.wP.n:Int)+(2:Int)+(p.user.size:Int):Int)<=300000000/\0<=((12:Int)+(p.client.size:Int)+(2:Int)+(p.wT.size:Int)+(2:Int)+(p.wP.n:Int)+(2:Int)+(p.user.size:Int):Int)):=by have hS:=SM.out;have s1:=hS.cl;have s2:=hS.us;have s3:=hS.wt;have s4:=hS.mt;have s5:=hS.wp;have s6:=hS.ps;have s7:=hS.mp;have s8:=hS.cn;have s9:=hS.sa;have s10:=hS.sf;have hv:=HV.out;show _/\_;(try have hn:=HN.out);constructor <;> omega
     have hwl:IntKind.i64.wrap ((12:Int)+(p.client.size:Int)+(2:Int)+(p.wT.size:Int)+(2:Int)+(p.wP.n:Int)+(2:Int)+(p.user.size:Int)+2)=(12:Int)+(p.client.size:Int)+(2:Int)+(p.wT.size:Int)+(2:Int)+(p.wP.n:Int)+(2:Int)+(p.user.size:Int)+2:=by rw [IntKind.wrap_i64];have:=HL.out;omega
     go_wp2_with (first | (refine wpList_load_wanted rfl _ rfl w.heap.size rfl P (0,0) g0.out SP.out ?_) | fail);go_must (go_at_call 86);refine NU2.out.mono ?_;rintro e w1 ⟨rfl,hb⟩;have B1:Hid (Below w.heap.size w w1):=b0.out.trans (hb.mono b0.out.size);clear hb;cases bi
     · have HR:Hid (x=(12:Int)+(p.client.size:Int)+(2:Int)+(p.wT.size:Int)+(2:Int)+(p.wP.n:Int)+(2:Int)+(p.user.size:Int)):=by have hv:=HV.out;show _=_;rw [HX.out,rsz,nid,HI.out,if_neg (by decide)];omega
       go_wp2;go_ret;exact ⟨by rw [HR.out];rfl,B1.out⟩
     · have HR:Hid (x=(12:Int)+(p.client.size:Int)+(2:Int)+(p.wT.size:Int)+(2:Int)+(p.wP.n:Int)+(2:Int)+(p.user.size:Int)+2):=by have hv:=HV.out;show _=_;rw [HX.out,rsz,nid,HI.out,if_pos rfl];omega
       go_wp2;go_ret;exact ⟨by rw [HR.out];rfl,B1.out⟩
   case false =>
    rw [hu] at c10;cases hp:p.hasPass;case true =>
     rw [hp] at c12;have hS:=SM.out;have s1:=hS.cl;have s2:=hS.us;have s3:=hS.wt;have s4:=hS.mt;have s5:=hS.wp;have s6:=hS.ps;have s7:=hS.mp;have s8:=hS.cn;have v0:IntKind.i64.wrap ((12:Int)+(p.client.size:Int))=(12:Int)+(p.client.size:Int):=by rw [IntKind.wrap_i64];omega
     have v1:IntKind.i64.wrap ((12:Int)+(p.client.size:Int)+(2:Int))=(12:Int)+(p.client.size:Int)+(2:Int):=by rw [IntKind.wrap_i64];omega
     have v2:IntKind.i64.wrap ((12:Int)+(p.client.size:Int)+(2:Int)+(p.wT.size:Int))=(12:Int)+(p.client.size:Int)+(2:Int)+(p.wT.size:Int):=by rw [IntKind.wrap_i64];omega
     have v3:IntKind.i64.wrap ((12:Int)+(p.client.size:Int)+(2:Int)+(p.wT.size:Int)+(2:Int))=(12:Int)+(p.client.size:Int)+(2:Int)+(p.wT.size:Int)+(2:Int):=by rw [IntKind.wrap_i64];omega
     have v4:IntKind.i64.wrap ((12:Int)+(p.client.size:Int)+(2:Int)+(p.wT.size:Int)+(2:Int)+(p.wP.n:Int))=(12:Int)+(p.client.size:Int)+(2:Int)+(p.wT.size:Int)+(2:Int)+(p.wP.n:Int):=by rw [IntKind.wrap_i64];omega
     have v5:IntKind.i64.wrap ((12:Int)+(p.client.size:Int)+(2:Int)+(p.wT.size:Int)+(2:Int)+(p.wP.n:Int)+(2:Int))=(12:Int)+(p.client.size:Int)+(2:Int)+(p.wT.size:Int)+(2:Int)+(p.wP.n:Int)+(2:Int):=by rw [IntKind.wrap_i64];omega
     have v6:IntKind.i64.wrap ((12:Int)+(p.client.size:Int)+(2:Int)+(p.wT.size:Int)+(2:Int)+(p.wP.n:Int)+(2:Int)+(p.pass.n:Int))=(12:Int)+(p.client.size:Int)+(2:Int)+(p.wT.size:Int)+(2:Int)+(p.wP.n:Int)+(2:Int)+(p.pass.n:Int):=by rw [IntKind.wrap_i64];omega
     clear hS s1 s2 s3 s4 s5 s6 s7 s8;have HV:Hid ((rb p c:Int)=(12:Int)+(p.client.size:Int)+(2:Int)+(p.wT.size:Int)+(2:Int)+(p.wP.n:Int)+(2:Int)+(p.pass.n:Int)):=by show _=_;rw [show rb p c=12+p.client.size+(4+p.wT.size+p.wP.n)+(2+p.pass.n) by simp [rb,szc,k1,hw,hu,hp]];push_cast;omega
     have HL:Hid (((12:Int)+(p.client.size:Int)+(2:Int)+(p.wT.size:Int)+(2:Int)+(p.wP.n:Int)+(2:Int)+(p.pass.n:Int):Int)<=300000000/\0<=((12:Int)+(p.client.size:Int)+(2:Int)+(p.wT.size:Int)+(2:Int)+(p.wP.n:Int)+(2:Int)+(p.pass.n:Int):Int)):=by have hS:=SM.out;have s1:=hS.cl;have s2:=hS.us;have s3:=hS.wt;have s4:=hS.mt;have s5:=hS.wp;have s6:=hS.ps;have s7:=hS.mp;have s8:=hS.cn;have s9:=hS.sa;have s10:=hS.sf;have hv:=HV.out;show _/\_;(try have hn:=HN.out);constructor <;> omega
     have hwl:IntKind.i64.wrap ((12:Int)+(p.client.size:Int)+(2:Int)+(p.wT.size:Int)+(2:Int)+(p.wP.n:Int)+(2:Int)+(p.pass.n:Int)+2)=(12:Int)+(p.client.size:Int)+(2:Int)+(p.wT.size:Int)+(2:Int)+(p.wP.n:Int)+(2:Int)+(p.pass.n:Int)+2:=by rw [IntKind.wrap_i64];have:=HL.out;omega
     go_wp2_with (first | (refine wpList_load_wanted rfl _ rfl w.heap.size rfl P (0,0) g0.out SP.out ?_) | fail);go_must (go_at_call 86);refine NU2.out.mono ?_;rintro e w1 ⟨rfl,hb⟩;have B1:Hid (Below w.heap.size w w1):=b0.out.trans (hb.mono b0.out.size);clear hb;cases bi
     · have HR:Hid (x=(12:Int)+(p.client.size:Int)+(2:Int)+(p.wT.size:Int)+(2:Int)+(p.wP.n:Int)+(2:Int)+(p.pass.n:Int)):=by have hv:=HV.out;show _=_;rw [HX.out,rsz,nid,HI.out,if_neg (by decide)];omega
       go_wp2;go_ret;exact ⟨by rw [HR.out];rfl,B1.out⟩
     · have HR:Hid (x=(12:Int)+(p.client.size:Int)+(2:Int)+(p.wT.size:Int)+(2:Int)+(p.wP.n:Int)+(2:Int)+(p.pass.n:Int)+2):=by have hv:=HV.out;show _=_;rw [HX.out,rsz,nid,HI.out,if_pos rfl];omega
       go_wp2;go_ret;exact ⟨by rw [HR.out];rfl,B1.out⟩
    case false =>
     rw [hp] at c12;have hS:=SM.out;have s1:=hS.cl;have s2:=hS.us;have s3:=hS.wt;have s4:=hS.mt;have s5:=hS.wp;have s6:=hS.ps;have s7:=hS.mp;have s8:=hS.cn;have v0:IntKind.i64.wrap ((12:Int)+(p.client.size:Int))=(12:Int)+(p.client.size:Int):=by rw [IntKind.wrap_i64];omega
     have v1:IntKind.i64.wrap ((12:Int)+(p.client.size:Int)+(2:Int))=(12:Int)+(p.client.size:Int)+(2:Int):=by rw [IntKind.wrap_i64];omega
     have v2:IntKind.i64.wrap ((12:Int)+(p.client.size:Int)+(2:Int)+(p.wT.size:Int))=(12:Int)+(p.client.size:Int)+(2:Int)+(p.wT.size:Int):=by rw [IntKind.wrap_i64];omega
     have v3:IntKind.i64.wrap ((12:Int)+(p.client.size:Int)+(2:Int)+(p.wT.size:Int)+(2:Int))=(12:Int)+(p.client.size:Int)+(2:Int)+(p.wT.size:Int)+(2:Int):=by rw [IntKind.wrap_i64];omega
     have v4:IntKind.i64.wrap ((12:Int)+(p.client.size:Int)+(2:Int)+(p.wT.size:Int)+(2:Int)+(p.wP.n:Int))=(12:Int)+(p.client.size:Int)+(2:Int)+(p.wT.size:Int)+(2:Int)+(p.wP.n:Int):=by rw [IntKind.wrap_i64];omega
     clear hS s1 s2 s3 s4 s5 s6 s7 s8;have HV:Hid ((rb p c:Int)=(12:Int)+(p.client.size:Int)+(2:Int)+(p.wT.size:Int)+(2:Int)+(p.wP.n:Int)):=by show _=_;rw [show rb p c=12+p.client.size+(4+p.wT.size+p.wP.n) by simp [rb,szc,k1,hw,hu,hp]];push_cast;omega
     have HL:Hid (((12:Int)+(p.client.size:Int)+(2:Int)+(p.wT.size:Int)+(2:Int)+(p.wP.n:Int):Int)<=300000000/\0<=((12:Int)+(p.client.size:Int)+(2:Int)+(p.wT.size:Int)+(2:Int)+(p.wP.n:Int):Int)):=by have hS:=SM.out;have s1:=hS.cl;have s2:=hS.us;have s3:=hS.wt;have s4:=hS.mt;have s5:=hS.wp;have s6:=hS.ps;have s7:=hS.mp;have s8:=hS.cn;have s9:=hS.sa;have s10:=hS.sf;have hv:=HV.out;show _/\_;(try have hn:=HN.out);constructor <;> omega
     have hwl:IntKind.i64.wrap ((12:Int)+(p.client.size:Int)+(2:Int)+(p.wT.size:Int)+(2:Int)+(p.wP.n:Int)+2)=(12:Int)+(p.client.size:Int)+(2:Int)+(p.wT.size:Int)+(2:Int)+(p.wP.n:Int)+2:=by rw [IntKind.wrap_i64];have:=HL.out;omega
     go_wp2_with (first | (refine wpList_load_wanted rfl _ rfl w.heap.size rfl P (0,0) g0.out SP.out ?_) | fail);go_must (go_at_call 86);refine NU2.out.mono ?_;rintro e w1 ⟨rfl,hb⟩;have B1:Hid (Below w.heap.size w w1):=b0.out.trans (hb.mono b0.out.size);clear hb;cases bi
     · have HR:Hid (x=(12:Int)+(p.client.size:Int)+(2:Int)+(p.wT.size:Int)+(2:Int)+(p.wP.n:Int)):=by have hv:=HV.out;show _=_;rw [HX.out,rsz,nid,HI.out,if_neg (by decide)];omega
       go_wp2;go_ret;exact ⟨by rw [HR.out];rfl,B1.out⟩
     · have HR:Hid (x=(12:Int)+(p.client.size:Int)+(2:Int)+(p.wT.size:Int)+(2:Int)+(p.wP.n:Int)+2):=by have hv:=HV.out;show _=_;rw [HX.out,rsz,nid,HI.out,if_pos rfl];omega
       go_wp2;go_ret;exact ⟨by rw [HR.out];rfl,B1.out⟩
  case false =>
   rw [hw] at c5;cases hu:p.hasUser;case true =>
    rw [hu] at c10;cases hp:p.hasPass;case true =>
     rw [hp] at c12;have hS:=SM.out;have s1:=hS.cl;have s2:=hS.us;have s3:=hS.wt;have s4:=hS.mt;have s5:=hS.wp;have s6:=hS.ps;have s7:=hS.mp;have s8:=hS.cn;have v0:IntKind.i64.wrap ((12:Int)+(p.client.size:Int))=(12:Int)+(p.client.size:Int):=by rw [IntKind.wrap_i64];omega
     have v1:IntKind.i64.wrap ((12:Int)+(p.client.size:Int)+(2:Int))=(12:Int)+(p.client.size:Int)+(2:Int):=by rw [IntKind.wrap_i64];omega
     have v2:IntKind.i64.wrap ((12:Int)+(p.client.size:Int)+(2:Int)+(p.user.size:Int))=(12:Int)+(p.client.size:Int)+(2:Int)+(p.user.size:Int):=by rw [IntKind.wrap_i64];omega
     have v3:IntKind.i64.wrap ((12:Int)+(p.client.size:Int)+(2:Int)+(p.user.size:Int)+(2:Int))=(12:Int)+(p.client.size:Int)+(2:Int)+(p.user.size:Int)+(2:Int):=by rw [IntKind.wrap_i64];omega
     have v4:IntKind.i64.wrap ((12:Int)+(p.client.size:Int)+(2:Int)+(p.user.size:Int)+(2:Int)+(p.pass.n:Int))=(12:Int)+(p.client.size:Int)+(2:Int)+(p.user.size:Int)+(2:Int)+(p.pass.n:Int):=by rw [IntKind.wrap_i64];omega
     clear hS s1 s2 s3 s4 s5 s6 s7 s8;have HV:Hid ((rb p c:Int)=(12:Int)+(p.client.size:Int)+(2:Int)+(p.user.size:Int)+(2:Int)+(p.pass.n:Int)):=by show _=_;rw [show rb p c=12+p.client.size+(2+p.user.size)+(2+p.pass.n) by simp [rb,szc,k1,hw,hu,hp]];push_cast;omega
     have HL:Hid (((12:Int)+(p.client.size:Int)+(2:Int)+(p.user.size:Int)+(2:Int)+(p.pass.n:Int):Int)<=300000000/\0<=((12:Int)+(p.client.size:Int)+(2:Int)+(p.user.size:Int)+(2:Int)+(p.pass.n:Int):Int)):=by have hS:=SM.out;have s1:=hS.cl;have s2:=hS.us;have s3:=hS.wt;have s4:=hS.mt;have s5:=hS.wp;have s6:=hS.ps;have s7:=hS.mp;have s8:=hS.cn;have s9:=hS.sa;have s10:=hS.sf;have hv:=HV.out;show _/\_;(try have hn:=HN.out);constructor <;> omega
     have hwl:IntKind.i64.wrap ((12:Int)+(p.client.size:Int)+(2:Int)+(p.user.size:Int)+(2:Int)+(p.pass.n:Int)+2)=(12:Int)+(p.client.size:Int)+(2:Int)+(p.user.size:Int)+(2:Int)+(p.pass.n:Int)+2:=by rw [IntKind.wrap_i64];have:=HL.out;omega
     go_wp2_with (first | (refine wpList_load_wanted rfl _ rfl w.heap.size rfl P (0,0) g0.out SP.out ?_) | fail);go_must (go_at_call 86);refine NU2.out.mono ?_;rintro e w1 ⟨rfl,hb⟩;have B1:Hid (Below w.heap.size w w1):=b0.out.trans (hb.mono b0.out.size);clear hb;cases bi
     · have HR:Hid (x=(12:Int)+(p.client.size:Int)+(2:Int)+(p.user.size:Int)+(2:Int)+(p.pass.n:Int)):=by have hv:=HV.out;show _=_;rw [HX.out,rsz,nid,HI.out,if_neg (by decide)];omega
       go_wp2;go_ret;exact ⟨by rw [HR.out];rfl,B1.out⟩
     · have HR:Hid (x=(12:Int)+(p.client.size:Int)+(2:Int)+(p.user.size:Int)+(2:Int)+(p.pass.n:Int)+2):=by have hv:=HV.out;show _=_;rw [HX.out,rsz,nid,HI.out,if_pos rfl];omega
       go_wp2;go_ret;exact ⟨by rw [HR.out];rfl,B1.out⟩
    case false =>
     rw [hp] at c12;have hS:=SM.out;have s1:=hS.cl;have s2:=hS.us;have s3:=hS.wt;have s4:=hS.mt;have s5:=hS.wp;have s6:=hS.ps;have s7:=hS.mp;have s8:=hS.cn;have v0:IntKind.i64.wrap ((12:Int)+(p.client.size:Int))=(12:Int)+(p.client.size:Int):=by rw [IntKind.wrap_i64];omega
     have v1:IntKind.i64.wrap ((12:Int)+(p.client.size:Int)+(2:Int))=(12:Int)+(p.client.size:Int)+(2:Int):=by rw [IntKind.wrap_i64];omega
     have v2:IntKind.i64.wrap ((12:Int)+(p.client.size:Int)+(2:Int)+(p.user.size:Int))=(12:Int)+(p.client.size:Int)+(2:Int)+(p.user.size:Int):=by rw [IntKind.wrap_i64];omega
     clear hS s1 s2 s3 s4 s5 s6 s7 s8;have HV:Hid ((rb p c:Int)=(12:Int)+(p.client.size:Int)+(2:Int)+(p.user.size:Int)):=by show _=_;rw [show rb p c=12+p.client.size+(2+p.user.size) by simp [rb,szc,k1,hw,hu,hp]];push_cast;omega
     have HL:Hid (((12:Int)+(p.client.size:Int)+(2:Int)+(p.user.size:Int):Int)<=300000000/\0<=((12:Int)+(p.client.size:Int)+(2:Int)+(p.user.size:Int):Int)):=by have hS:=SM.out;have s1:=hS.cl;have s2:=hS.us;have s3:=hS.wt;have s4:=hS.mt;have s5:=hS.wp;have s6:=hS.ps;have s7:=hS.mp;have s8:=hS.cn;have s9:=hS.sa;have s10:=hS.sf;have hv:=HV.out;show _/\_;(try have hn:=HN.out);constructor <;> omega
     have hwl:IntKind.i64.wrap ((12:Int)+(p.client.size:Int)+(2:Int)+(p.user.size:Int)+2)=(12:Int)+(p.client.size:Int)+(2:Int)+(p.user.size:Int)+2:=by rw [IntKind.wrap_i64];have:=HL.out;omega
     go_wp2_with (first | (refine wpList_load_wanted rfl _ rfl w.heap.size rfl P (0,0) g0.out SP.out ?_) | fail);go_must (go_at_call 86);refine NU2.out.mono ?_;rintro e w1 ⟨rfl,hb⟩;have B1:Hid (Below w.heap.size w w1):=b0.out.trans (hb.mono b0.out.size);clear hb;cases bi
     · have HR:Hid (x=(12:Int)+(p.client.size:Int)+(2:Int)+(p.user.size:Int)):=by have hv:=HV.out;show _=_;rw [HX.out,rsz,nid,HI.out,if_neg (by decide)];omega
       go_wp2;go_ret;exact ⟨by rw [HR.out];rfl,B1.out⟩
     · have HR:Hid (x=(12:Int)+(p.client.size:Int)+(2:Int)+(p.user.size:Int)+2):=by have hv:=HV.out;show _=_;rw [HX.out,rsz,nid,HI.out,if_pos rfl];omega
       go_wp2;go_ret;exact ⟨by rw [HR.out];rfl,B1.out⟩
   case false =>
    rw [hu] at c10;cases hp:p.hasPass;case true =>
     rw [hp] at c12;have hS:=SM.out;have s1:=hS.cl;have s2:=hS.us;have s3:=hS.wt;have s4:=hS.mt;have s5:=hS.wp;have s6:=hS.ps;have s7:=hS.mp;have s8:=hS.cn;have v0:IntKind.i64.wrap ((12:Int)+(p.client.size:Int))=(12:Int)+(p.client.size:Int):=by rw [IntKind.wrap_i64];omega
     have v1:IntKind.i64.wrap ((12:Int)+(p.client.size:Int)+(2:Int))=(12:Int)+(p.client.size:Int)+(2:Int):=by rw [IntKind.wrap_i64];omega
     have v2:IntKind.i64.wrap ((12:Int)+(p.client.size:Int)+(2:Int)+(p.pass.n:Int))=(12:Int)+(p.client.size:Int)+(2:Int)+(p.pass.n:Int):=by rw [IntKind.wrap_i64];omega
     clear hS s1 s2 s3 s4 s5 s6 s7 s8;have HV:Hid ((rb p c:Int)=(12:Int)+(p.client.size:Int)+(2:Int)+(p.pass.n:Int)):=by show _=_;rw [show rb p c=12+p.client.size+(2+p.pass.n) by simp [rb,szc,k1,hw,hu,hp]];push_cast;omega
     have HL:Hid (((12:Int)+(p.client.size:Int)+(2:Int)+(p.pass.n:Int):Int)<=300000000/\0<=((12:Int)+(p.client.size:Int)+(2:Int)+(p.pass.n:Int):Int)):=by have hS:=SM.out;have s1:=hS.cl;have s2:=hS.us;have s3:=hS.wt;have s4:=hS.mt;have s5:=hS.wp;have s6:=hS.ps;have s7:=hS.mp;have s8:=hS.cn;have s9:=hS.sa;have s10:=hS.sf;have hv:=HV.out;show _/\_;(try have hn:=HN.out);constructor <;> omega
     have hwl:IntKind.i64.wrap ((12:Int)+(p.client.size:Int)+(2:Int)+(p.pass.n:Int)+2)=(12:Int)+(p.client.size:Int)+(2:Int)+(p.pass.n:Int)+2:=by rw [IntKind.wrap_i64];have:=HL.out;omega
     go_wp2_with (first | (refine wpList_load_wanted rfl _ rfl w.heap.size rfl P (0,0) g0.out SP.out ?_) | fail);go_must (go_at_call 86);refine NU2.out.mono ?_;rintro e w1 ⟨rfl,hb⟩;have B1:Hid (Below w.heap.size w w1):=b0.out.trans (hb.mono b0.out.size);clear hb;cases bi
     · have HR:Hid (x=(12:Int)+(p.client.size:Int)+(2:Int)+(p.pass.n:Int)):=by have hv:=HV.out;show _=_;rw [HX.out,rsz,nid,HI.out,if_neg (by decide)];omega
       go_wp2;go_ret;exact ⟨by rw [HR.out];rfl,B1.out⟩
     · have HR:Hid (x=(12:Int)+(p.client.size:Int)+(2:Int)+(p.pass.n:Int)+2):=by have hv:=HV.out;show _=_;rw [HX.out,rsz,nid,HI.out,if_pos rfl];omega
       go_wp2;go_ret;exact ⟨by rw [HR.out];rfl,B1.out⟩
    case false =>
     rw [hp] at c12;have hS:=SM.out;have s1:=hS.cl;have s2:=hS.us;have s3:=hS.wt;have s4:=hS.mt;have s5:=hS.wp;have s6:=hS.ps;have s7:=hS.mp;have s8:=hS.cn;have v0:IntKind.i64.wrap ((12:Int)+(p.client.size:Int))=(12:Int)+(p.client.size:Int):=by rw [IntKind.wrap_i64];omega
     clear hS s1 s2 s3 s4 s5 s6 s7 s8;have HV:Hid ((rb p c:Int)=(12:Int)+(p.client.size:Int)):=by show _=_;rw [show rb p c=12+p.client.size by simp [rb,szc,k1,hw,hu,hp]];push_cast;omega
     have HL:Hid (((12:Int)+(p.client.size:Int):Int)<=300000000/\0<=((12:Int)+(p.client.size:Int):Int)):=by have hS:=SM.out;have s1:=hS.cl;have s2:=hS.us;have s3:=hS.wt;have s4:=hS.mt;have s5:=hS.wp;have s6:=hS.ps;have s7:=hS.mp;have s8:=hS.cn;have s9:=hS.sa;have s10:=hS.sf;have hv:=HV.out;show _/\_;(try have hn:=HN.out);constructor <;> omega
     have hwl:IntKind.i64.wrap ((12:Int)+(p.client.size:Int)+2)=(12:Int)+(p.client.size:Int)+2:=by rw [IntKind.wrap_i64];have:=HL.out;omega
     go_wp2_with (first | (refine wpList_load_wanted rfl _ rfl w.heap.size rfl P (0,0) g0.out SP.out ?_) | fail);go_must (go_at_call 86);refine NU2.out.mono ?_;rintro e w1 ⟨rfl,hb⟩;have B1:Hid (Below w.heap.size w w1):=b0.out.trans (hb.mono b0.out.size);clear hb;cases bi
     · have HR:Hid (x=(12:Int)+(p.client.size:Int)):=by have hv:=HV.out;show _=_;rw [HX.out,rsz,nid,HI.out,if_neg (by decide)];omega
       go_wp2;go_ret;exact ⟨by rw [HR.out];rfl,B1.out⟩
     · have HR:Hid (x=(12:Int)+(p.client.size:Int)+2):=by have hv:=HV.out;show _=_;rw [HX.out,rsz,nid,HI.out,if_pos rfl];omega
       go_wp2;go_ret;exact ⟨by rw [HR.out];rfl,B1.out⟩
 have e1:(p.kind==1)=false:=by simpa using k1
 by_cases k2:p.kind=2;·
  have e2:(p.kind==2)=true:=by rw [k2];rfl
  have HV:Hid ((rb p c:Int)=(2:Int)):=by show _=_;rw [show rb p c=2 by simp [rb,szc,k2]];(try rfl)
  have HL:Hid (((2:Int):Int)<=300000000/\0<=((2:Int):Int)):=by have hS:=SM.out;have s1:=hS.cl;have s2:=hS.us;have s3:=hS.wt;have s4:=hS.mt;have s5:=hS.wp;have s6:=hS.ps;have s7:=hS.mp;have s8:=hS.cn;have s9:=hS.sa;have s10:=hS.sf;have hv:=HV.out;show _/\_;(try have hn:=HN.out);constructor <;> omega
  have hwl:IntKind.i64.wrap ((2:Int)+2)=(2:Int)+2:=by rw [IntKind.wrap_i64];have:=HL.out;omega
  go_wp2_with (first | (refine wpList_load_wanted rfl _ rfl w.heap.size rfl P (0,0) g0.out SP.out ?_) | fail);go_must (go_at_call 86);refine NU2.out.mono ?_;rintro e w1 ⟨rfl,hb⟩;have B1:Hid (Below w.heap.size w w1):=b0.out.trans (hb.mono b0.out.size);clear hb;cases bi;·
   have HR:Hid (x=(2:Int)):=by have hv:=HV.out;show _=_;rw [HX.out,rsz,nid,HI.out,if_neg (by decide)];omega
   go_wp2;go_ret;exact ⟨by rw [HR.out];rfl,B1.out⟩
  ·
   have HR:Hid (x=(2:Int)+2):=by have hv:=HV.out;show _=_;rw [HX.out,rsz,nid,HI.out,if_pos rfl];omega
   go_wp2;go_ret;exact ⟨by rw [HR.out];rfl,B1.out⟩
 have e2:(p.kind==2)=false:=by simpa using k2
 by_cases k3:p.kind=3;·
  have e3:(p.kind==3)=true:=by rw [k3];rfl
  have c17:=FA.out 17 (.string p.mT) rfl;have c18:=FA.out 18 (.slice p.mP.a p.mP.n p.mP.c) rfl;have hS:=SM.out;have s1:=hS.cl;have s2:=hS.us;have s3:=hS.wt;have s4:=hS.mt;have s5:=hS.wp;have s6:=hS.ps;have s7:=hS.mp;have s8:=hS.cn;have v0:IntKind.i64.wrap ((2:Int)+(p.mT.size:Int))=(2:Int)+(p.mT.size:Int):=by rw [IntKind.wrap_i64];omega
  have v1:IntKind.i64.wrap ((2:Int)+(p.mT.size:Int)+(p.mP.n:Int))=(2:Int)+(p.mT.size:Int)+(p.mP.n:Int):=by rw [IntKind.wrap_i64];omega
  clear hS s1 s2 s3 s4 s5 s6 s7 s8;have HV:Hid ((rb p c:Int)=(2:Int)+(p.mT.size:Int)+(p.mP.n:Int)):=by show _=_;rw [show rb p c=2+p.mT.size+p.mP.n by simp [rb,szc,k3]];push_cast;omega
  have HL:Hid (((2:Int)+(p.mT.size:Int)+(p.mP.n:Int):Int)<=300000000/\0<=((2:Int)+(p.mT.size:Int)+(p.mP.n:Int):Int)):=by have hS:=SM.out;have s1:=hS.cl;have s2:=hS.us;have s3:=hS.wt;have s4:=hS.mt;have s5:=hS.wp;have s6:=hS.ps;have s7:=hS.mp;have s8:=hS.cn;have s9:=hS.sa;have s10:=hS.sf;have hv:=HV.out;show _/\_;(try have hn:=HN.out);constructor <;> omega
  have hwl:IntKind.i64.wrap ((2:Int)+(p.mT.size:Int)+(p.mP.n:Int)+2)=(2:Int)+(p.mT.size:Int)+(p.mP.n:Int)+2:=by rw [IntKind.wrap_i64];have:=HL.out;omega
  go_wp2_with (first | (refine wpList_load_wanted rfl _ rfl w.heap.size rfl P (0,0) g0.out SP.out ?_) | fail);go_must (go_at_call 86);refine NU2.out.mono ?_;rintro e w1 ⟨rfl,hb⟩;have B1:Hid (Below w.heap.size w w1):=b0.out.trans (hb.mono b0.out.size);clear hb;cases bi;·
   have HR:Hid (x=(2:Int)+(p.mT.size:Int)+(p.mP.n:Int)):=by have hv:=HV.out;show _=_;rw [HX.out,rsz,nid,HI.out,if_neg (by decide)];omega
   go_wp2;go_ret;exact ⟨by rw [HR.out];rfl,B1.out⟩
  ·
   have HR:Hid (x=(2:Int)+(p.mT.size:Int)+(p.mP.n:Int)+2):=by have hv:=HV.out;show _=_;rw [HX.out,rsz,nid,HI.out,if_pos rfl];omega
   go_wp2;go_ret;exact ⟨by rw [HR.out];rfl,B1.out⟩
 have e3:(p.kind==3)=false:=by simpa using k3
 by_cases k8:p.kind=8;·
  have e8:(p.kind==8)=true:=by rw [k8];rfl
  have c22:=FA.out 22 (.slice p.asks.a p.asks.n p.asks.c) rfl;go_wp2_with fail;go_loopg [3,4] p.asks.n (fun g s3 s4 wx=>wx=W/\∃ k N:Nat,s4 = .int .i64 k/\s3 = .int .i64 N/\k+g=p.asks.n/\Hid (N=sumN (fun i=>3+(c.af i).size) k));case atStart=>exact ⟨rfl,0,0,rfl,rfl,by omega,rfl⟩
  case round =>
   obtain ⟨hw0,k,N,rfl,rfl,hkg,HN⟩:=hrel;obtain rfl:=hw0.symm;clear hw0;by_cases hk:k<p.asks.n;·
    have hk':(k:Int)<p.asks.n:=by omega
    obtain ⟨b,off,he,hc⟩:∃ b off,p.asks.a=some ⟨b,off,none⟩/\∀ i,i<p.asks.n->(W.cell? ⟨b,off+i*2,none⟩=some (.string (c.af i))/\W.cell? ⟨b,off+i*2+1,none⟩=some (.int .i64 (c.aq i))):=by
     rcases HA.out.2 with h | h;· omega
     · exact h
    have hac:p.asks.n<=p.asks.c:=HA.out.1;rw [he] at c22;have d1:=(hc k hk).1;have hb:N+(3+(c.af k).size)<=100000000:=by have h1:=sumN_step (fun i=>3+(c.af i).size) p.asks.n k hk;have h2:=SM.out.sa;have h3:=HN.out;omega
    have hw1:IntKind.i64.wrap ((N:Int)+3)=(N:Int)+3:=by rw [IntKind.wrap_i64];omega
    have hw2:IntKind.i64.wrap ((N:Int)+3+(c.af k).size)=(N:Int)+3+(c.af k).size:=by rw [IntKind.wrap_i64];omega
    have hw3:IntKind.i64.wrap ((k:Int)+1)=(k:Int)+1:=by rw [IntKind.wrap_i64];have:=SM.out.an;omega
    have HN2:Hid (N+(3+(c.af k).size)=sumN (fun i=>3+(c.af i).size) (k+1)):=by show _=sumN (fun i=>3+(c.af i).size) k+(3+(c.af k).size);rw [HN.out]
    clear hc he hb;go_wp2;go_roundg (p.asks.n-(k+1));case measure=>omega
    case rel=>exact ⟨rfl,k+1,N+(3+(c.af k).size),by first | rfl | simp,by congr 1;push_cast;omega,by omega,HN2⟩
   ·
    obtain rfl:k=p.asks.n:=by omega
    have hk':¬ (p.asks.n:Int)<p.asks.n:=by omega
    have HV:Hid ((rb p c:Int)=(N:Int)):=by show _=_;rw [HN.out];simp [rb,k8]
    have HL:Hid (((N:Int):Int)<=300000000/\0<=((N:Int):Int)):=by have hS:=SM.out;have s1:=hS.cl;have s2:=hS.us;have s3:=hS.wt;have s4:=hS.mt;have s5:=hS.wp;have s6:=hS.ps;have s7:=hS.mp;have s8:=hS.cn;have s9:=hS.sa;have s10:=hS.sf;have hv:=HV.out;show _/\_;(try have hn:=HN.out);constructor <;> omega
    have hwl:IntKind.i64.wrap ((N:Int)+2)=(N:Int)+2:=by rw [IntKind.wrap_i64];have:=HL.out;omega
    go_wp2_with (first | (refine wpList_load_wanted rfl _ rfl w.heap.size rfl P (0,0) g0.out SP.out ?_) | fail);go_must (go_at_call 86);refine NU2.out.mono ?_;rintro e w1 ⟨rfl,hb⟩;have B1:Hid (Below w.heap.size w w1):=b0.out.trans (hb.mono b0.out.size);clear hb;cases bi
    · have HR:Hid (x=(N:Int)):=by have hv:=HV.out;show _=_;rw [HX.out,rsz,nid,HI.out,if_neg (by decide)];omega
      go_wp2;go_ret;exact ⟨by rw [HR.out];rfl,B1.out⟩
    · have HR:Hid (x=(N:Int)+2):=by have hv:=HV.out;show _=_;rw [HX.out,rsz,nid,HI.out,if_pos rfl];omega
      go_wp2;go_ret;exact ⟨by rw [HR.out];rfl,B1.out⟩
 have e8:(p.kind==8)=false:=by simpa using k8
 by_cases k9:p.kind=9;·
  have e9:(p.kind==9)=true:=by rw [k9];rfl
  have c23:=FA.out 23 (.slice p.codes.a p.codes.n p.codes.c) rfl;have HV:Hid ((rb p c:Int)=(p.codes.n:Int)):=by show _=_;rw [show rb p c=p.codes.n by simp [rb,szc,k9]];(try rfl)
  have HL:Hid (((p.codes.n:Int):Int)<=300000000/\0<=((p.codes.n:Int):Int)):=by have hS:=SM.out;have s1:=hS.cl;have s2:=hS.us;have s3:=hS.wt;have s4:=hS.mt;have s5:=hS.wp;have s6:=hS.ps;have s7:=hS.mp;have s8:=hS.cn;have s9:=hS.sa;have s10:=hS.sf;have hv:=HV.out;show _/\_;(try have hn:=HN.out);constructor <;> omega
  have hwl:IntKind.i64.wrap ((p.codes.n:Int)+2)=(p.codes.n:Int)+2:=by rw [IntKind.wrap_i64];have:=HL.out;omega
  go_wp2_with (first | (refine wpList_load_wanted rfl _ rfl w.heap.size rfl P (0,0) g0.out SP.out ?_) | fail);go_must (go_at_call 86);refine NU2.out.mono ?_;rintro e w1 ⟨rfl,hb⟩;have B1:Hid (Below w.heap.size w w1):=b0.out.trans (hb.mono b0.out.size);clear hb;cases bi;·
   have HR:Hid (x=(p.codes.n:Int)):=by have hv:=HV.out;show _=_;rw [HX.out,rsz,nid,HI.out,if_neg (by decide)];omega
   go_wp2;go_ret;exact ⟨by rw [HR.out];rfl,B1.out⟩
  ·
   have HR:Hid (x=(p.codes.n:Int)+2):=by have hv:=HV.out;show _=_;rw [HX.out,rsz,nid,HI.out,if_pos rfl];omega
   go_wp2;go_ret;exact ⟨by rw [HR.out];rfl,B1.out⟩
 have e9:(p.kind==9)=false:=by simpa using k9
 by_cases k10:p.kind=10;·
  have e10:(p.kind==10)=true:=by rw [k10];rfl
  have c24:=FA.out 24 (.slice p.filters.a p.filters.n p.filters.c) rfl;go_wp2_with fail;go_loopg [3,5] p.filters.n (fun g s3 s5 wx=>wx=W/\∃ k N:Nat,s5 = .int .i64 k/\s3 = .int .i64 N/\k+g=p.filters.n/\Hid (N=sumN (fun i=>2+(c.fs i).size) k));case atStart=>exact ⟨rfl,0,0,rfl,rfl,by omega,rfl⟩
  case round =>
   obtain ⟨hw0,k,N,rfl,rfl,hkg,HN⟩:=hrel;obtain rfl:=hw0.symm;clear hw0;by_cases hk:k<p.filters.n;·
    have hk':(k:Int)<p.filters.n:=by omega
    obtain ⟨b,off,he,hc⟩:∃ b off,p.filters.a=some ⟨b,off,none⟩/\∀ i,i<p.filters.n->W.cell? ⟨b,off+i,none⟩=some (.string (c.fs i)):=by
     rcases HS.out.2 with h | h;· omega
     · exact h
    have hac:p.filters.n<=p.filters.c:=HS.out.1;rw [he] at c24;have d1:=hc k hk;have hb:N+(2+(c.fs k).size)<=100000000:=by have h1:=sumN_step (fun i=>2+(c.fs i).size) p.filters.n k hk;have h2:=SM.out.sf;have h3:=HN.out;omega
    have hw1:IntKind.i64.wrap ((N:Int)+2)=(N:Int)+2:=by rw [IntKind.wrap_i64];omega
    have hw2:IntKind.i64.wrap ((N:Int)+2+(c.fs k).size)=(N:Int)+2+(c.fs k).size:=by rw [IntKind.wrap_i64];omega
    have hw3:IntKind.i64.wrap ((k:Int)+1)=(k:Int)+1:=by rw [IntKind.wrap_i64];have:=SM.out.fn;omega
    have HN2:Hid (N+(2+(c.fs k).size)=sumN (fun i=>2+(c.fs i).size) (k+1)):=by show _=sumN (fun i=>2+(c.fs i).size) k+(2+(c.fs k).size);rw [HN.out]
    clear hc he hb;go_wp2;go_roundg (p.filters.n-(k+1));case measure=>omega
    case rel=>exact ⟨rfl,k+1,N+(2+(c.fs k).size),by first | rfl | simp,by congr 1;push_cast;omega,by omega,HN2⟩
   ·
    obtain rfl:k=p.filters.n:=by omega
    have hk':¬ (p.filters.n:Int)<p.filters.n:=by omega
    have HV:Hid ((rb p c:Int)=(N:Int)):=by show _=_;rw [HN.out];simp [rb,k10]
    have HL:Hid (((N:Int):Int)<=300000000/\0<=((N:Int):Int)):=by have hS:=SM.out;have s1:=hS.cl;have s2:=hS.us;have s3:=hS.wt;have s4:=hS.mt;have s5:=hS.wp;have s6:=hS.ps;have s7:=hS.mp;have s8:=hS.cn;have s9:=hS.sa;have s10:=hS.sf;have hv:=HV.out;show _/\_;(try have hn:=HN.out);constructor <;> omega
    have hwl:IntKind.i64.wrap ((N:Int)+2)=(N:Int)+2:=by rw [IntKind.wrap_i64];have:=HL.out;omega
    go_wp2_with (first | (refine wpList_load_wanted rfl _ rfl w.heap.size rfl P (0,0) g0.out SP.out ?_) | fail);go_must (go_at_call 86);refine NU2.out.mono ?_;rintro e w1 ⟨rfl,hb⟩;have B1:Hid (Below w.heap.size w w1):=b0.out.trans (hb.mono b0.out.size);clear hb;cases bi
    · have HR:Hid (x=(N:Int)):=by have hv:=HV.out;show _=_;rw [HX.out,rsz,nid,HI.out,if_neg (by decide)];omega
      go_wp2;go_ret;exact ⟨by rw [HR.out];rfl,B1.out⟩
    · have HR:Hid (x=(N:Int)+2):=by have hv:=HV.out;show _=_;rw [HX.out,rsz,nid,HI.out,if_pos rfl];omega
      go_wp2;go_ret;exact ⟨by rw [HR.out];rfl,B1.out⟩
 have e10:(p.kind==10)=false:=by simpa using k10
 have HV:Hid ((rb p c:Int)=(0:Int)):=by show _=_;simp [rb,k1,k2,k3,k8,k9,k10]
 have HL:Hid (((0:Int):Int)<=300000000/\0<=((0:Int):Int)):=by have hS:=SM.out;have s1:=hS.cl;have s2:=hS.us;have s3:=hS.wt;have s4:=hS.mt;have s5:=hS.wp;have s6:=hS.ps;have s7:=hS.mp;have s8:=hS.cn;have s9:=hS.sa;have s10:=hS.sf;have hv:=HV.out;show _/\_;(try have hn:=HN.out);constructor <;> omega
 have hwl:IntKind.i64.wrap ((0:Int)+2)=(0:Int)+2:=by rw [IntKind.wrap_i64];have:=HL.out;omega
 go_wp2_with (first | (refine wpList_load_wanted rfl _ rfl w.heap.size rfl P (0,0) g0.out SP.out ?_) | fail);go_must (go_at_call 86);refine NU2.out.mono ?_;rintro e w1 ⟨rfl,hb⟩;have B1:Hid (Below w.heap.size w w1):=b0.out.trans (hb.mono b0.out.size);clear hb;cases bi;·
  have HR:Hid (x=(0:Int)):=by have hv:=HV.out;show _=_;rw [HX.out,rsz,nid,HI.out,if_neg (by decide)];omega
  go_wp2;go_ret;exact ⟨by rw [HR.out];rfl,B1.out⟩
 ·
  have HR:Hid (x=(0:Int)+2):=by have hv:=HV.out;show _=_;rw [HX.out,rsz,nid,HI.out,if_pos rfl];omega
  go_wp2;go_ret;exact ⟨by rw [HR.out];rfl,B1.out⟩
end Go.Proofs.YtpldoeeahhaimaaGreatDoor.Pkt
