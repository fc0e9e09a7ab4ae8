import Derived.Test.YtpldoeeahhaimaaGreatDoorPRi
namespace Go.Proofs.YtpldoeeahhaimaaGreatDoor.Pkt
open Go Go.RowKit Go.Sort
set_option linter.all false
theorem sumN_zero (f:Nat->Nat) {n:Nat} (h:n=0):sumN f n=0:=by subst h;rfl
theorem sz_rsz {p:Pk} {c:Cn} (h:Own p):sz p c=rsz p c:=by
 unfold sz rsz rb;by_cases k1:p.kind=1
 · have:nid p=0:=by simp [nid,hasID,k1]
   rw [if_pos k1,if_pos k1,this];rfl
 rw [if_neg k1,if_neg k1];by_cases k2:p.kind=2
 · have:nid p=0:=by simp [nid,hasID,k2]
   rw [if_pos k2,if_pos k2,this]
 rw [if_neg k2,if_neg k2];by_cases k3:p.kind=3;· rw [if_pos k3,if_pos k3];omega
 rw [if_neg k3,if_neg k3];by_cases k8:p.kind=8;· rw [if_pos k8,sumN_zero (fun i=>2+(c.fs i).size) (h.filters (by omega)),h.codes (by omega)];omega
 rw [if_neg k8,sumN_zero (fun i=>3+(c.af i).size) (h.asks k8)];by_cases k9:p.kind=9;· rw [if_pos k9,sumN_zero (fun i=>2+(c.fs i).size) (h.filters (by omega))];omega
 rw [if_neg k9,h.codes k9];by_cases k10:p.kind=10;· rw [if_pos k10];omega
 rw [if_neg k10,sumN_zero (fun i=>2+(c.fs i).size) (h.filters k10)];omega
theorem topb_ne (s:ByteArray):topb s = !(tcode s != 0):=by unfold topb;cases h:(tcode s==0) <;> simp_all
theorem tps_rtps {p:Pk} (h:Own p):tps TT p=rtps p:=by
 have h1:=h.hasWill;unfold tps rtps;show (!(p.hasWill && !topb p.wT) && (decide (p.kind≠3) || topb p.mT))=_;rw [topb_ne,topb_ne];by_cases k1:p.kind=1;· simp [k1]
 · rw [h1 k1]
   by_cases k3:p.kind=3 <;> simp [k1,k3]
theorem isQ_zero {q:Int} (h:q=0):isQ q=true:=by subst h;rfl
theorem qls_rqls {p:Pk} {c:Cn} (h:Own p):qls p c=rqls p c:=by
 unfold qls rqls;have e:(isQ p.wQ && isQ p.mQ) = !qA p:=by
  unfold qA;by_cases k1:p.kind=1;·
   have hm:isQ p.mQ=true:=isQ_zero (h.msg (by omega)).2.1;cases hw:p.hasWill
   · have hq:isQ p.wQ=true:=isQ_zero (h.will (by simp [hw])).2.1
     simp [k1,hw,hm,hq]
   · cases hq:isQ p.wQ <;> simp [k1,hw,hm,hq]
  ·
   have hq:isQ p.wQ=true:=isQ_zero (h.will (fun hh=>k1 hh.1)).2.1;by_cases k3:p.kind=3;· cases hm:isQ p.mQ <;> simp [k1,k3,hq,hm]
   · have hm:isQ p.mQ=true:=isQ_zero (h.msg k3).2.1
     simp [k1,k3,hq,hm]
 rw [e]
set_option maxRecDepth 100000
set_option maxHeartbeats 4000000
def rflts (p:Pk) (c:Cn):Bool:=allN p.asks.n (fun i=>rfc (c.af i)==0) && allN p.filters.n (fun i=>rfc (c.fs i)==0)
theorem rfilters_any (p:Pk) (c:Cn) (w:World) (hin:In w p c) (ha:p.asks.n<=1000000) (hd:p.filters.n<=1000000):Calls Tryz.prog 84 #[p.v] w fun e w'=>e = .returned (.bool (rflts p c))/\Below w.heap.size w w':=by
 obtain ⟨x,hx⟩:∃ x,x=rflts p c:=⟨_,rfl⟩;rw [<-hx];have HX:Hid (x=rflts p c):=hx;clear hx;obtain ⟨P,hP⟩:∃ P,P=pkCells p:=⟨_,rfl⟩;obtain ⟨W,hW⟩:∃ W,W=w.alloc (.cells P 39):=⟨_,rfl⟩;have b0:Hid (Below w.heap.size w W):=box_below hW;have FA:Hid (∀ k v,(pkCells p)[k]?=some v->W.cell? ⟨w.heap.size,k,none⟩=some v):=fun k v h=>by rw [hW];exact box_cell w P 39 k v (by rw [hP];exact h)
 rw [show p.v = .agg P by rw [hP];rfl];clear hP;have HA:Hid (As W p.asks c.af c.aq):=hin.asks.below b0.out;have HS:Hid (Ss W p.filters c.fs):=hin.filters.below b0.out;have LA:Hid (p.asks.n<=1000000):=ha;have LC:Hid (p.filters.n<=1000000):=hd;have R0:Hid (Below W.heap.size W W):=Below.refl _ _;have BW:Hid (∀ w',Below W.heap.size W w'->Below w.heap.size w w'):=fun w' hb=>b0.out.trans (hb.mono b0.out.size);clear hin ha hd;go_enter Tryz.func84,Tryz.ntmps84;go_upto_region 1 with fail;rw [<-hW];clear hW;go_wp2_with fail;go_loopg [3] p.asks.n (fun g s3 wx=>∃ k:Nat,s3 = .int .i64 k/\k+g=p.asks.n/\Hid (Below W.heap.size W wx)/\Hid (∀ j,j<k->(rfc (c.af j)==0)=true));case atStart=>exact ⟨0,rfl,by omega,R0,fun j hj=>absurd hj (Nat.not_lt_zero _)⟩
 case round =>
  obtain ⟨k,rfl,hkg,B,HD⟩:=hrel;have c22:=cell_later B.out (FA.out 22 (.slice p.asks.a p.asks.n p.asks.c) rfl);by_cases hk:k<p.asks.n;·
   have hk':(k:Int)<p.asks.n:=by omega
   obtain ⟨b,off,he,hc⟩:∃ b off,p.asks.a=some ⟨b,off,none⟩/\∀ i,i<p.asks.n->(W.cell? ⟨b,off+i*2,none⟩=some (.string (c.af i))/\W.cell? ⟨b,off+i*2+1,none⟩=some (.int .i64 (c.aq i))):=by
    rcases HA.out.2 with h | h;· omega
    · exact h
   have hac:p.asks.n<=p.asks.c:=HA.out.1;rw [he] at c22;have d1:=cell_later B.out (hc k hk).1;have hw:IntKind.i64.wrap ((k:Int)+1)=(k:Int)+1:=by rw [IntKind.wrap_i64];have:=LA.out;omega
   clear hc he;go_wp2_with fail;go_must (go_at_call 119);refine (rfilter_any (c.af k) _).mono ?_;rintro e w1 ⟨rfl,hb⟩;have B1:Hid (Below W.heap.size W w1):=B.out.trans (hb.mono B.out.size);clear hb c22 d1;cases hq:(rfc (c.af k)==0);case false =>
    have hq':(rfc (c.af k) != 0)=true:=by simpa using hq
    have HR:Hid (x=false):=by show _=_;rw [HX.out,rflts,allN_false (f:=fun i=>rfc (c.af i)==0) k hk hq];rfl
    clear hq;go_wp2;go_ret;exact ⟨by rw [HR.out];rfl,BW.out _ B1.out⟩
   have hq':(rfc (c.af k) != 0)=false:=by simpa using hq
   have HN:Hid (∀ j,j<k+1->(rfc (c.af j)==0)=true):=fun j hj=>by
    rcases Nat.lt_or_ge j k with h | h;· exact HD.out j h
    · obtain rfl:j=k:=by omega
      exact hq
   clear hq;go_wp2;go_roundg (p.asks.n-(k+1));case measure=>omega
   case rel=>exact ⟨k+1,by first | rfl | simp,by omega,B1,HN⟩
  ·
   obtain rfl:k=p.asks.n:=by omega
   have hk':¬ (p.asks.n:Int)<p.asks.n:=by omega
   have AL:Hid (allN p.asks.n (fun i=>rfc (c.af i)==0)=true):=(allN_iff _ _).2 HD.out;go_wp2_with fail;clear hk' c22;go_loopg [4] p.filters.n (fun g s4 wx=>∃ k:Nat,s4 = .int .i64 k/\k+g=p.filters.n/\Hid (Below W.heap.size W wx)/\Hid (∀ j,j<k->(rfc (c.fs j)==0)=true));case atStart=>exact ⟨0,rfl,by omega,B,fun j hj=>absurd hj (Nat.not_lt_zero _)⟩
   case round =>
    obtain ⟨j,rfl,hjg,C,HC⟩:=hrel;have c24:=cell_later C.out (FA.out 24 (.slice p.filters.a p.filters.n p.filters.c) rfl);by_cases hj:j<p.filters.n;·
     have hj':(j:Int)<p.filters.n:=by omega
     obtain ⟨b,off,he,hc⟩:∃ b off,p.filters.a=some ⟨b,off,none⟩/\∀ i,i<p.filters.n->W.cell? ⟨b,off+i,none⟩=some (.string (c.fs i)):=by
      rcases HS.out.2 with h | h;· omega
      · exact h
     have hac:p.filters.n<=p.filters.c:=HS.out.1;rw [he] at c24;have d1:=cell_later C.out (hc j hj);have hw:IntKind.i64.wrap ((j:Int)+1)=(j:Int)+1:=by rw [IntKind.wrap_i64];have:=LC.out;omega
     clear hc he;go_wp2_with fail;go_must (go_at_call 119);refine (rfilter_any (c.fs j) _).mono ?_;rintro e w1 ⟨rfl,hb⟩;have B1:Hid (Below W.heap.size W w1):=C.out.trans (hb.mono C.out.size);clear hb c24 d1;cases hq:(rfc (c.fs j)==0);case false =>
      have hq':(rfc (c.fs j) != 0)=true:=by simpa using hq
      have HR:Hid (x=false):=by show _=_;rw [HX.out,rflts,allN_false (f:=fun i=>rfc (c.fs i)==0) j hj hq];simp
      clear hq;go_wp2;go_ret;exact ⟨by rw [HR.out];rfl,BW.out _ B1.out⟩
     have hq':(rfc (c.fs j) != 0)=false:=by simpa using hq
     have HN:Hid (∀ i,i<j+1->(rfc (c.fs i)==0)=true):=fun i hi=>by
      rcases Nat.lt_or_ge i j with h | h;· exact HC.out i h
      · obtain rfl:i=j:=by omega
        exact hq
     clear hq;go_wp2;go_roundg (p.filters.n-(j+1));case measure=>omega
     case rel=>exact ⟨j+1,by first | rfl | simp,by omega,B1,HN⟩
    ·
     obtain rfl:j=p.filters.n:=by omega
     have hj':¬ (p.filters.n:Int)<p.filters.n:=by omega
     have CL:Hid (allN p.filters.n (fun i=>rfc (c.fs i)==0)=true):=(allN_iff _ _).2 HC.out;have HR:Hid (x=true):=by show _=_;rw [HX.out,rflts,AL.out,CL.out];rfl
     go_wp2;go_ret;exact ⟨by rw [HR.out];rfl,BW.out _ C.out⟩
theorem rfc_fcode (s:ByteArray):rfc s=fcode s:=rfl
def rbad1 (p:Pk):Bool:=forB p || !bnd p
def rbad6 (p:Pk):Bool:=hasID p && (decide (p.id<1) || decide (65535<p.id))
def rbad7 (p:Pk) (c:Cn):Bool:=decide (65535<p.wP.n) || decide (65535<p.pass.n) || decide (268435455<rsz p c)
def rbad8 (p:Pk):Bool:=(p.kind==8 && decide (p.asks.n=0)) || (p.kind==9 && decide (p.codes.n=0)) || (p.kind==10 && decide (p.filters.n=0))
def rck (p:Pk) (c:Cn):Nat := if !isK p.kind then 20 else if rbad1 p then 21 else if bad2 TT p then 22 else if !rtps p then 23 else if !rflts p c then 24 else if !rqls p c then 25 else if rbad6 p then 26 else if rbad7 p c then 27 else if rbad8 p then 28 else if bad9 p then 29 else 0
theorem rck_ck (p:Pk) (c:Cn):rck p c=ck TT p c:=by
 unfold rck ck rbad1;cases hk:isK p.kind;· rfl
 have hk':1<=p.kind/\p.kind<=14:=by simpa [isK] using hk
 rw [bad1_for p hk'.1 hk'.2];cases hf:forB p;·
  have ho:=(forB_own p).1 hf;have e8:bad8 p=rbad8 p:=by
   unfold bad8 rbad8;rw [fl_list p hk'.1 hk'.2,gv_list p];by_cases k8:p.kind=8
   · have h1:=ho.codes (by omega)
     have h2:=ho.filters (by omega);simp [k8,h1,h2]
   by_cases k9:p.kind=9
   · have h1:=ho.asks (by omega)
     have h2:=ho.filters (by omega);simp [k9,h1,h2]
   by_cases k10:p.kind=10
   · have h1:=ho.asks (by omega)
     have h2:=ho.codes (by omega);simp [k10,h1,h2]
   simp [k8,k9,k10]
  have e6:bad6 p=rbad6 p:=by unfold bad6 rbad6;rw [fl_id p hk'.1 hk'.2]
  have e7:bad7 p c=rbad7 p c:=by unfold bad7 rbad7;rw [sz_rsz ho]
  have e4:flts TT p c=rflts p c:=by
   unfold flts rflts;have ea:(fun i=>TT.flt (c.af i))=fun i=>rfc (c.af i)==0:=by funext i;rw [rfc_fcode];rfl
   have ef:(fun i=>TT.flt (c.fs i))=fun i=>rfc (c.fs i)==0:=by funext i;rw [rfc_fcode];rfl
   rw [ea,ef]
  rw [e8,e6,e7,e4,tps_rtps ho,qls_rqls ho]
 · rfl
theorem bnd_three (p:Pk):bnd p=((decide (0<=p.level) && decide (p.level<=255)) && (decide (0<=p.code) && decide (p.code<=255)) && (decide (0<=p.keep) && decide (p.keep<=65535))):=by simp only [bnd,Bool.and_assoc]
structure Rc (w:World) (p:Pk) (c:Cn) (v:Value):Prop where
 foreign:∀ w',Calls Tryz.prog 80 #[v] w' fun e w''=>e = .returned (.bool (forB p))/\Below w'.heap.size w' w''
 topics:∀ w',Calls Tryz.prog 83 #[v] w' fun e w''=>e = .returned (.bool (rtps p))/\Below w'.heap.size w' w''
 filters:∀ w',Below w.heap.size w w'->Calls Tryz.prog 84 #[v] w' fun e w''=>e = .returned (.bool (rflts p c))/\Below w'.heap.size w' w''
 quals:∀ w',Below w.heap.size w w'->Calls Tryz.prog 85 #[v] w' fun e w''=>e = .returned (.bool (rqls p c))/\Below w'.heap.size w' w''
 numbered:∀ w',Calls Tryz.prog 86 #[v] w' fun e w''=>e = .returned (.bool (hasID p))/\Below w'.heap.size w' w''
 bytes:∀ w',Below w.heap.size w w'->Calls Tryz.prog 87 #[v] w' fun e w''=>e = .returned (.int .i64 (rsz p c))/\Below w'.heap.size w' w''
theorem rc_of {w:World} {p:Pk} {c:Cn} (hin:In w p c) (hs:Small p c):Rc w p c p.v where
 foreign w':=foreign_any p w'
 topics w':=rtopics_any p w'
 filters w' hb:=rfilters_any p c w' (hin.below hb) hs.an hs.fn
 quals w' hb:=rqualities_any p c w' (hin.below hb) hs.an hs.cn
 numbered w':=numbered_any p w'
 bytes w' hb:=rbytes_any p c w' (hin.below hb) hs
set_option maxHeartbeats 8000000
theorem rcheck_one (p:Pk) (c:Cn) (w:World) (hin:In w p c) (hs:Small p c) (hbad:(!isK p.kind || rbad1 p || bad2 TT p || !rtps p || !rflts p c || !rqls p c)=true):Calls Tryz.prog 61 #[p.v] w fun e w'=>e = .returned (.int .i64 (rck p c))/\Below w.heap.size w w':=by
 have HC:Hid (Rc w p c p.v):=rc_of hin hs;clear hin hs;obtain ⟨x,hx⟩:∃ x,x=rck p c:=⟨_,rfl⟩;rw [<-hx];have E0:Hid (x=(if !isK p.kind then 20 else if rbad1 p then 21 else if bad2 TT p then 22 else if !rtps p then 23 else if !rflts p c then 24 else if !rqls p c then 25 else if rbad6 p then 26 else if rbad7 p c then 27 else if rbad8 p then 28 else if bad9 p then 29 else 0)):=hx;clear hx;obtain ⟨P,hP⟩:∃ P,P=pkCells p:=⟨_,rfl⟩;rw [show p.v = .agg P by rw [hP];rfl] at HC ⊢;have HP:Hid (P=pkCells p):=hP;have hsz:Hid (P.size=25):=by show _=_;rw [hP];rfl
 clear hP;obtain ⟨W,hW⟩:∃ W,W=w.alloc (.cells P 39):=⟨_,rfl⟩;have b0:Hid (Below w.heap.size w W):=box_below hW;have g0:Hid (W.heap[w.heap.size]?=some (.cells P 39)):=by show _=_;rw [hW];exact heap_alloc_new w _
 have FA:Hid (∀ k v,(pkCells p)[k]?=some v->∀ w',Below W.heap.size W w'->w'.cell? ⟨w.heap.size,k,none⟩=some v):=fun k v h w' hb=>cell_later hb (by rw [hW];exact box_cell w P 39 k v (by rw [HP.out];exact h));have GA:Hid (∀ w',Below W.heap.size W w'->w'.heap[w.heap.size]?=some (.cells P 39)):=fun w' hb=>(hb.block _ (block_lt g0.out)).trans g0.out;have BW:Hid (∀ w',Below W.heap.size W w'->Below w.heap.size w w'):=fun w' hb=>b0.out.trans (hb.mono b0.out.size);have R0:Hid (Below W.heap.size W W):=Below.refl _ _;have HBAD:Hid ((!isK p.kind || rbad1 p || bad2 TT p || !rtps p || !rflts p c || !rqls p c)=true):=hbad;clear hbad;go_enter Tryz.func61,Tryz.ntmps61;go_upto_region 1 with fail;rw [<-hW];clear hW;go_cut [3] from 3 (fun sx wx=>sx = .bool (!isK p.kind)/\Hid (Below W.heap.size W wx));case first =>
  have c0:=FA.out 0 (.int .i64 p.kind) rfl W R0.out;by_cases i1:p.kind<1;·
   have HV:Hid ((!isK p.kind)=true):=by show _=_;simp only [isK,Bool.not_eq_true',Bool.and_eq_false_iff,decide_eq_false_iff_not];omega
   go_wp2_with fail;go_meet;case rel=>exact ⟨by rw [HV.out],R0⟩
  by_cases i2:14<p.kind;·
   have HV:Hid ((!isK p.kind)=true):=by show _=_;simp only [isK,Bool.not_eq_true',Bool.and_eq_false_iff,decide_eq_false_iff_not];omega
   go_wp2_with fail;go_meet;case rel=>exact ⟨by rw [HV.out],R0⟩
  have HV:Hid ((!isK p.kind)=false):=by show _=_;simp only [isK,Bool.not_eq_false',Bool.and_eq_true,decide_eq_true_eq];omega
  go_wp2_with fail;go_meet;case rel=>exact ⟨by rw [HV.out],R0⟩
 case rest =>
 obtain ⟨rfl,B1⟩:=hcut;cases hb0:(!isK p.kind);case true => go_wp2;go_ret;exact ⟨by rw [E0.out,hb0];rfl,BW.out _ B1.out⟩
 have E1:Hid (x=(if rbad1 p then 21 else if bad2 TT p then 22 else if !rtps p then 23 else if !rflts p c then 24 else if !rqls p c then 25 else if rbad6 p then 26 else if rbad7 p c then 27 else if rbad8 p then 28 else if bad9 p then 29 else 0)):=by show _=_;rw [E0.out,hb0];rfl
 have G0:Hid ((!isK p.kind)=false):=hb0;clear hb0 E0;go_upto_region 3 with fail;go_cut [12] from 3 (fun sx wx=>sx = .bool (rbad1 p)/\Hid (Below W.heap.size W wx));case first =>
  have HV:Hid (rbad1 p=(forB p || !((decide (0<=p.level) && decide (p.level<=255)) && (decide (0<=p.code) && decide (p.code<=255)) && (decide (0<=p.keep) && decide (p.keep<=65535))))):=by show _=_;rw [rbad1,bnd_three]
  obtain ⟨y0,q0⟩:∃ b,forB p=b:=⟨_,rfl⟩;obtain ⟨y1,q1⟩:∃ b,(decide (0<=p.level) && decide (p.level<=255))=b:=⟨_,rfl⟩;obtain ⟨y2,q2⟩:∃ b,(decide (0<=p.code) && decide (p.code<=255))=b:=⟨_,rfl⟩;obtain ⟨y3,q3⟩:∃ b,(decide (0<=p.keep) && decide (p.keep<=65535))=b:=⟨_,rfl⟩;rw [q0,q1,q2,q3] at HV;cases y0;case true => go_wp2_with (first | (refine wpList_load_wanted rfl _ rfl w.heap.size rfl _ (0,0) (GA.out _ B1.out) hsz.out ?_)|(go_at_call 80;refine (HC.out.foreign _).mono ?_;rintro e w1 ⟨rfl,hb⟩;have D1:Hid (Below W.heap.size W w1):=B1.out.trans (hb.mono B1.out.size);clear hb;rw [q0];have c1:=FA.out 1 (.int .i64 p.level) rfl w1 D1.out;have c15:=FA.out 15 (.int .i64 p.code) rfl w1 D1.out;have c3:=FA.out 3 (.int .i64 p.keep) rfl w1 D1.out)|(go_at_call 81;refine (within_any _ _ _).mono ?_;rintro e w' ⟨rfl,hee⟩;obtain rfl:=hee.symm;clear hee;first | rw [q1] | rw [q2] | rw [q3]));go_meet;case rel=>exact ⟨by rw [HV.out];rfl,D1⟩
  cases y1;case false => go_wp2_with (first | (refine wpList_load_wanted rfl _ rfl w.heap.size rfl _ (0,0) (GA.out _ B1.out) hsz.out ?_)|(go_at_call 80;refine (HC.out.foreign _).mono ?_;rintro e w1 ⟨rfl,hb⟩;have D1:Hid (Below W.heap.size W w1):=B1.out.trans (hb.mono B1.out.size);clear hb;rw [q0];have c1:=FA.out 1 (.int .i64 p.level) rfl w1 D1.out;have c15:=FA.out 15 (.int .i64 p.code) rfl w1 D1.out;have c3:=FA.out 3 (.int .i64 p.keep) rfl w1 D1.out)|(go_at_call 81;refine (within_any _ _ _).mono ?_;rintro e w' ⟨rfl,hee⟩;obtain rfl:=hee.symm;clear hee;first | rw [q1] | rw [q2] | rw [q3]));go_meet;case rel=>exact ⟨by rw [HV.out];rfl,D1⟩
  cases y2;case false => go_wp2_with (first | (refine wpList_load_wanted rfl _ rfl w.heap.size rfl _ (0,0) (GA.out _ B1.out) hsz.out ?_)|(go_at_call 80;refine (HC.out.foreign _).mono ?_;rintro e w1 ⟨rfl,hb⟩;have D1:Hid (Below W.heap.size W w1):=B1.out.trans (hb.mono B1.out.size);clear hb;rw [q0];have c1:=FA.out 1 (.int .i64 p.level) rfl w1 D1.out;have c15:=FA.out 15 (.int .i64 p.code) rfl w1 D1.out;have c3:=FA.out 3 (.int .i64 p.keep) rfl w1 D1.out)|(go_at_call 81;refine (within_any _ _ _).mono ?_;rintro e w' ⟨rfl,hee⟩;obtain rfl:=hee.symm;clear hee;first | rw [q1] | rw [q2] | rw [q3]));go_meet;case rel=>exact ⟨by rw [HV.out];rfl,D1⟩
  cases y3;case false => go_wp2_with (first | (refine wpList_load_wanted rfl _ rfl w.heap.size rfl _ (0,0) (GA.out _ B1.out) hsz.out ?_)|(go_at_call 80;refine (HC.out.foreign _).mono ?_;rintro e w1 ⟨rfl,hb⟩;have D1:Hid (Below W.heap.size W w1):=B1.out.trans (hb.mono B1.out.size);clear hb;rw [q0];have c1:=FA.out 1 (.int .i64 p.level) rfl w1 D1.out;have c15:=FA.out 15 (.int .i64 p.code) rfl w1 D1.out;have c3:=FA.out 3 (.int .i64 p.keep) rfl w1 D1.out)|(go_at_call 81;refine (within_any _ _ _).mono ?_;rintro e w' ⟨rfl,hee⟩;obtain rfl:=hee.symm;clear hee;first | rw [q1] | rw [q2] | rw [q3]));go_meet;case rel=>exact ⟨by rw [HV.out];rfl,D1⟩
  go_wp2_with (first | (refine wpList_load_wanted rfl _ rfl w.heap.size rfl _ (0,0) (GA.out _ B1.out) hsz.out ?_)|(go_at_call 80;refine (HC.out.foreign _).mono ?_;rintro e w1 ⟨rfl,hb⟩;have D1:Hid (Below W.heap.size W w1):=B1.out.trans (hb.mono B1.out.size);clear hb;rw [q0];have c1:=FA.out 1 (.int .i64 p.level) rfl w1 D1.out;have c15:=FA.out 15 (.int .i64 p.code) rfl w1 D1.out;have c3:=FA.out 3 (.int .i64 p.keep) rfl w1 D1.out)|(go_at_call 81;refine (within_any _ _ _).mono ?_;rintro e w' ⟨rfl,hee⟩;obtain rfl:=hee.symm;clear hee;first | rw [q1] | rw [q2] | rw [q3]));go_meet;case rel=>exact ⟨by rw [HV.out];rfl,D1⟩
 case rest =>
 obtain ⟨rfl,B2⟩:=hcut;cases hb1:(rbad1 p);case true => go_wp2;go_ret;exact ⟨by rw [E1.out,hb1];rfl,BW.out _ B2.out⟩
 have E2:Hid (x=(if bad2 TT p then 22 else if !rtps p then 23 else if !rflts p c then 24 else if !rqls p c then 25 else if rbad6 p then 26 else if rbad7 p c then 27 else if rbad8 p then 28 else if bad9 p then 29 else 0)):=by show _=_;rw [E1.out,hb1];rfl
 have G1:Hid ((rbad1 p)=false):=hb1;clear hb1 E1;go_upto_region 5 with fail;go_cut [33] from 3 (fun sx wx=>sx = .bool (bad2 TT p)/\Hid (Below W.heap.size W wx));case first =>
  have c4:=FA.out 4 (.string p.client) rfl wc B2.out;have c11:=FA.out 11 (.string p.user) rfl wc B2.out;have HV:Hid (bad2 TT p=(!txt p.client || !txt p.user)):=rfl;obtain ⟨y0,q0⟩:∃ b,txt p.client=b:=⟨_,rfl⟩;obtain ⟨y1,q1⟩:∃ b,txt p.user=b:=⟨_,rfl⟩;rw [q0,q1] at HV;cases y0;case false => go_wp2_with (go_at_call 82;refine (rtext_any _ _).mono ?_;rintro e w' ⟨rfl,hee⟩;obtain rfl:=hee.symm;clear hee;first | rw [q0] | rw [q1]);go_meet;case rel=>exact ⟨by rw [HV.out];rfl,B2⟩
  cases y1;case false => go_wp2_with (go_at_call 82;refine (rtext_any _ _).mono ?_;rintro e w' ⟨rfl,hee⟩;obtain rfl:=hee.symm;clear hee;first | rw [q0] | rw [q1]);go_meet;case rel=>exact ⟨by rw [HV.out];rfl,B2⟩
  go_wp2_with (go_at_call 82;refine (rtext_any _ _).mono ?_;rintro e w' ⟨rfl,hee⟩;obtain rfl:=hee.symm;clear hee;first | rw [q0] | rw [q1]);go_meet;case rel=>exact ⟨by rw [HV.out];rfl,B2⟩
 case rest =>
 obtain ⟨rfl,B3⟩:=hcut;cases hb2:(bad2 TT p);case true => go_wp2;go_ret;exact ⟨by rw [E2.out,hb2];rfl,BW.out _ B3.out⟩
 have E3:Hid (x=(if !rtps p then 23 else if !rflts p c then 24 else if !rqls p c then 25 else if rbad6 p then 26 else if rbad7 p c then 27 else if rbad8 p then 28 else if bad9 p then 29 else 0)):=by show _=_;rw [E2.out,hb2];rfl
 have G2:Hid ((bad2 TT p)=false):=hb2;clear hb2 E2;go_upto_region 7 with fail;go_cut [44] from 3 (fun sx wx=>sx = .bool (!rtps p)/\Hid (Below W.heap.size W wx));case first => go_wp2_with (first | (refine wpList_load_wanted rfl _ rfl w.heap.size rfl _ (0,0) (GA.out _ B3.out) hsz.out ?_)|(go_at_call 83;refine (HC.out.topics _).mono ?_;rintro e w1 ⟨rfl,hb⟩;have D1:Hid (Below W.heap.size W w1):=B3.out.trans (hb.mono B3.out.size);clear hb));go_meet;case rel=>exact ⟨rfl,D1⟩
 case rest =>
 obtain ⟨rfl,B4⟩:=hcut;cases hb3:(!rtps p);case true => go_wp2;go_ret;exact ⟨by rw [E3.out,hb3];rfl,BW.out _ B4.out⟩
 have E4:Hid (x=(if !rflts p c then 24 else if !rqls p c then 25 else if rbad6 p then 26 else if rbad7 p c then 27 else if rbad8 p then 28 else if bad9 p then 29 else 0)):=by show _=_;rw [E3.out,hb3];rfl
 have G3:Hid ((!rtps p)=false):=hb3;clear hb3 E3;go_upto_region 9 with fail;go_cut [48] from 3 (fun sx wx=>sx = .bool (!rflts p c)/\Hid (Below W.heap.size W wx));case first => go_wp2_with (first | (refine wpList_load_wanted rfl _ rfl w.heap.size rfl _ (0,0) (GA.out _ B4.out) hsz.out ?_)|(go_at_call 84;refine (HC.out.filters _ (BW.out _ B4.out)).mono ?_;rintro e w1 ⟨rfl,hb⟩;have D1:Hid (Below W.heap.size W w1):=B4.out.trans (hb.mono B4.out.size);clear hb));go_meet;case rel=>exact ⟨rfl,D1⟩
 case rest =>
 obtain ⟨rfl,B5⟩:=hcut;cases hb4:(!rflts p c);case true => go_wp2;go_ret;exact ⟨by rw [E4.out,hb4];rfl,BW.out _ B5.out⟩
 have E5:Hid (x=(if !rqls p c then 25 else if rbad6 p then 26 else if rbad7 p c then 27 else if rbad8 p then 28 else if bad9 p then 29 else 0)):=by show _=_;rw [E4.out,hb4];rfl
 have G4:Hid ((!rflts p c)=false):=hb4;clear hb4 E4;go_upto_region 11 with fail;go_cut [52] from 3 (fun sx wx=>sx = .bool (!rqls p c)/\Hid (Below W.heap.size W wx));case first => go_wp2_with (first | (refine wpList_load_wanted rfl _ rfl w.heap.size rfl _ (0,0) (GA.out _ B5.out) hsz.out ?_)|(go_at_call 85;refine (HC.out.quals _ (BW.out _ B5.out)).mono ?_;rintro e w1 ⟨rfl,hb⟩;have D1:Hid (Below W.heap.size W w1):=B5.out.trans (hb.mono B5.out.size);clear hb));go_meet;case rel=>exact ⟨rfl,D1⟩
 case rest =>
 obtain ⟨rfl,B6⟩:=hcut;cases hb5:(!rqls p c);case true => go_wp2;go_ret;exact ⟨by rw [E5.out,hb5];rfl,BW.out _ B6.out⟩
 have E6:Hid (x=(if rbad6 p then 26 else if rbad7 p c then 27 else if rbad8 p then 28 else if bad9 p then 29 else 0)):=by show _=_;rw [E5.out,hb5];rfl
 have G5:Hid ((!rqls p c)=false):=hb5;clear hb5 E5;exact absurd HBAD.out (by rw [G0.out,G1.out,G2.out,G3.out,G4.out,G5.out];decide)
end Go.Proofs.YtpldoeeahhaimaaGreatDoor.Pkt
