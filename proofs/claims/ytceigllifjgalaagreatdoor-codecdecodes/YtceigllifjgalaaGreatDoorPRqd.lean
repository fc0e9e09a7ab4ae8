import Derived.Test.YtceigllifjgalaaGreatDoorPRqb
namespace Go.Proofs.YtceigllifjgalaaGreatDoor.Pkt
open Go Go.RowKit Go.Sort
set_option linter.unusedSimpArgs false
set_option linter.unusedVariables false
set_option maxRecDepth 100000
set_option maxHeartbeats 8000000
theorem rcheck_three (p:Pk) (c:Cn) (w:World) (hin:In w p c) (hs:Small p c) (h0:(!isK p.kind)=false) (h1:rbad1 p=false) (h2:bad2 TT p=false) (h3:(!rtps p)=false) (h4:(!rflts p c)=false) (h5:(!rqls p c)=false) (h6:rbad6 p=false) (h7:rbad7 p c=false):Calls Tryz.prog 93 #[p.v] w fun e w'=>e = .returned (.int .i64 (rck p c))/\Below w.heap.size w w':=by
 have HC:=Hi (rc_of hin hs);clear hin hs;obtain ⟨x,hx⟩:∃ x,x=rck p c:=⟨_,rfl⟩;rw [<-hx];have E8:Hid (x=(if rbad8 p then 28 else if bad9 p then 29 else 0)):=by show _=_;rw [hx,rck,h0,h1,h2,h3,h4,h5,h6,h7];rfl
 clear hx;have Q0:Hid (forB p=false/\(decide (0<=p.level) && decide (p.level<=255))=true/\(decide (0<=p.code) && decide (p.code<=255))=true/\(decide (0<=p.keep) && decide (p.keep<=65535))=true):=by have hh:=h1;rw [rbad1,zcD,Bool.or_eq_false_iff,Bool.not_eq_false',Bool.and_eq_true,Bool.and_eq_true] at hh;exact ⟨hh.1,hh.2.1.1,hh.2.1.2,hh.2.2⟩
 have Q1:Hid (txt p.client=true/\txt p.user=true):=by have hh:(!txt p.client || !txt p.user)=false:=h2;rw [Bool.or_eq_false_iff,Bool.not_eq_false',Bool.not_eq_false'] at hh;exact hh
 have Q2:Hid (rtps p=true/\rflts p c=true/\rqls p c=true):=⟨by simpa using h3,by simpa using h4,by simpa using h5⟩;have QK:Hid (¬ p.kind<1/\¬ 14<p.kind):=by have hh:=h0;simp only [isK,Bool.not_eq_false',Bool.and_eq_true,decide_eq_true_eq] at hh;exact ⟨by omega,by omega⟩
 have Q6:Hid (hasID p=true->¬ p.id<1/\¬ 65535<p.id):=fun hq=>by have hh:=h6;rw [rbad6,hq] at hh;simp only [Bool.true_and,Bool.or_eq_false_iff,decide_eq_false_iff_not] at hh;exact hh
 have Q7:Hid (¬ (65535:Int)<p.wP.n/\¬ (65535:Int)<p.pass.n/\¬ (268435455:Int)<rsz p c):=by have hh:=h7;simp only [rbad7,Bool.or_eq_false_iff,decide_eq_false_iff_not] at hh;exact ⟨by omega,by omega,by omega⟩
 clear h0 h1 h2 h3 h4 h5 h6 h7;obtain ⟨P,hP⟩:∃ P,P=pkCells p:=⟨_,rfl⟩;rw [show p.v = .agg P by rw [hP];rfl] at HC ⊢;have HP:=Hi hP;have hsz:Hid (P.size=25):=by show _=_;rw [hP];rfl
 clear hP;obtain ⟨W,hW⟩:∃ W,W=w.alloc (.cells P 29):=⟨_,rfl⟩;have b0:=Hi (zat hW);have g0:Hid (W.heap[w.heap.size]?=some (.cells P 29)):=by show _=_;rw [hW];exact heap_alloc_new w _
 have FA:Hid (∀ k v,(pkCells p)[k]?=some v->∀ w',Below W.heap.size W w'->w'.cell? ⟨w.heap.size,k,none⟩=some v):=fun k v h w' hb=>cell_later hb (by rw [hW];exact za2 w P 29 k v (by rw [HP.out];exact h));have GA:Hid (∀ w',Below W.heap.size W w'->w'.heap[w.heap.size]?=some (.cells P 29)):=fun w' hb=>(hb.block _ (zb2 g0.out)).trans g0.out;have BW:Hid (∀ w',Below W.heap.size W w'->Below w.heap.size w w'):=fun w' hb=>b0.out.trans (hb.mono b0.out.size);have R0:Hid (Below W.heap.size W W):=Below.refl _ _;go_enter Tryz.func93,Tryz.ntmps93;go_upto_region 1 with fail;rw [<-hW];clear hW;have D:=R0;have c0:=FA.out 0 (.int .i64 p.kind) rfl W R0.out;have i1:=QK.out.1;have i2:=QK.out.2;have q0:=Q0.out.1;have q1:=Q0.out.2.1;have q2:=Q0.out.2.2.1;have q3:=Q0.out.2.2.2;go_upto_region 3 with fail;clear c0 i1 i2;go_upto_region 5 with (first | (refine za0 rfl _ rfl w.heap.size rfl _ (0,0) (GA.out _ D.out) hsz.out ?_)|(go_at_call 145;refine (HC.out.foreign _).mono ?_;rintro e w1 ⟨rfl,hb⟩;have D1:Hid (Below W.heap.size W w1):=D.out.trans (hb.mono D.out.size);clear hb;rw [q0];have c1:=FA.out 1 (.int .i64 p.level) rfl w1 D1.out;have c15:=FA.out 15 (.int .i64 p.code) rfl w1 D1.out;have c3:=FA.out 3 (.int .i64 p.keep) rfl w1 D1.out;have c4:=FA.out 4 (.string p.client) rfl w1 D1.out;have c11:=FA.out 11 (.string p.user) rfl w1 D1.out)|(go_at_call 146;refine (zam _ _ _).mono ?_;rintro e w' ⟨rfl,hee⟩;obtain rfl:=hee.symm;clear hee;first | rw [q1] | rw [q2] | rw [q3]));clear q0 q1 q2 q3 c1 c15 c3 D;have q0:=Q1.out.1;have q1:=Q1.out.2;go_upto_region 7 with (go_at_call 147;refine (zaL _ _).mono ?_;rintro e w' ⟨rfl,hee⟩;obtain rfl:=hee.symm;clear hee;first | rw [q0] | rw [q1]);clear q0 q1 c4 c11;have q0:=Q2.out.1;go_upto_region 9 with (first | (refine za0 rfl _ rfl w.heap.size rfl _ (0,0) (GA.out _ D1.out) hsz.out ?_)|(go_at_call 148;refine (HC.out.topics _).mono ?_;rintro e w2 ⟨rfl,hb⟩;have D2:Hid (Below W.heap.size W w2):=D1.out.trans (hb.mono D1.out.size);clear hb;rw [q0]));clear q0 D1;have q0:=Q2.out.2.1;go_upto_region 11 with (first | (refine za0 rfl _ rfl w.heap.size rfl _ (0,0) (GA.out _ D2.out) hsz.out ?_)|(go_at_call 149;refine (HC.out.filters _ (BW.out _ D2.out)).mono ?_;rintro e w3 ⟨rfl,hb⟩;have D3:Hid (Below W.heap.size W w3):=D2.out.trans (hb.mono D2.out.size);clear hb;rw [q0]));clear q0 D2;have q0:=Q2.out.2.2;go_upto_region 13 with (first | (refine za0 rfl _ rfl w.heap.size rfl _ (0,0) (GA.out _ D3.out) hsz.out ?_)|(go_at_call 150;refine (HC.out.quals _ (BW.out _ D3.out)).mono ?_;rintro e wc ⟨rfl,hb⟩;have B6:Hid (Below W.heap.size W wc):=D3.out.trans (hb.mono D3.out.size);clear hb;rw [q0]));clear q0 D3;go_cut [56] from 3 (fun sx wx=>sx = .bool false/\Hid (Below W.heap.size W wx));case first =>
  obtain ⟨y0,q0⟩:∃ b,hasID p=b:=⟨_,rfl⟩;cases y0;case false => go_wp2_with (first | (refine za0 rfl _ rfl w.heap.size rfl _ (0,0) (GA.out _ B6.out) hsz.out ?_)|(go_at_call 151;refine (HC.out.numbered _).mono ?_;rintro e w1 ⟨rfl,hb⟩;have D1:Hid (Below W.heap.size W w1):=B6.out.trans (hb.mono B6.out.size);clear hb;rw [q0];have c21:=FA.out 21 (.int .i64 p.id) rfl w1 D1.out));go_meet;case rel=>exact ⟨rfl,D1⟩
  have i1:¬ p.id<1:=by have:=Q6.out q0;omega
  have i2:¬ 65535<p.id:=by have:=Q6.out q0;omega
  have HI:Hid ((decide (p.id<1) || decide (65535<p.id))=false):=by show _=_;rw [decide_eq_false i1,decide_eq_false i2];rfl
  go_wp2_with (first | (refine za0 rfl _ rfl w.heap.size rfl _ (0,0) (GA.out _ B6.out) hsz.out ?_)|(go_at_call 151;refine (HC.out.numbered _).mono ?_;rintro e w1 ⟨rfl,hb⟩;have D1:Hid (Below W.heap.size W w1):=B6.out.trans (hb.mono B6.out.size);clear hb;rw [q0];have c21:=FA.out 21 (.int .i64 p.id) rfl w1 D1.out));go_meet;case rel=>exact ⟨by first | rfl | (rw [HI.out]),D1⟩
 case rest =>
 obtain ⟨rfl,B7⟩:=hcut;go_upto_region 15 with fail;have c7:=FA.out 7 (.slice p.wP.a p.wP.n p.wP.c) rfl wc B7.out;have c13:=FA.out 13 (.slice p.pass.a p.pass.n p.pass.c) rfl wc B7.out;have l1:¬ (65535:Int)<p.wP.n:=by have:=Q7.out;omega
 have l2:¬ (65535:Int)<p.pass.n:=by have:=Q7.out;omega
 have l3:¬ (268435455:Int)<rsz p c:=by have:=Q7.out;omega
 have HI3:=Hi (decide_eq_false l3);clear l3;go_cut [69] from 3 (fun sx wx=>sx = .bool false/\Hid (Below W.heap.size W wx));case first => go_wp2_with (first | (refine za0 rfl _ rfl w.heap.size rfl _ (0,0) (GA.out _ B7.out) hsz.out ?_)|(go_at_call 152;refine (HC.out.bytes _ (BW.out _ B7.out)).mono ?_;rintro e w1 ⟨rfl,hb⟩;have D1:Hid (Below W.heap.size W w1):=B7.out.trans (hb.mono B7.out.size);clear hb));go_meet;case rel=>exact ⟨by first | rfl | (rw [HI3.out]),D1⟩
 case rest =>
 obtain ⟨rfl,B8⟩:=hcut;clear l1 l2 c7 c13;go_upto_region 17 with fail;go_cut [86] from 3 (fun sx wx=>sx = .bool (rbad8 p)/\Hid (Below W.heap.size W wx));case first =>
  have c0:=FA.out 0 (.int .i64 p.kind) rfl wc B8.out;have c22:=FA.out 22 (.slice p.asks.a p.asks.n p.asks.c) rfl wc B8.out;have c23:=FA.out 23 (.slice p.codes.a p.codes.n p.codes.c) rfl wc B8.out;have c24:=FA.out 24 (.slice p.filters.a p.filters.n p.filters.c) rfl wc B8.out;have HV:Hid (rbad8 p=((p.kind==8 && ((p.asks.n:Int)==0)) || (p.kind==9 && ((p.codes.n:Int)==0)) || (p.kind==10 && ((p.filters.n:Int)==0)))):=by
   have d0:((p.asks.n:Int)==0)=decide (p.asks.n=0):=by by_cases h:p.asks.n=0 <;> simp [h]
   have d1:((p.codes.n:Int)==0)=decide (p.codes.n=0):=by by_cases h:p.codes.n=0 <;> simp [h]
   have d2:((p.filters.n:Int)==0)=decide (p.filters.n=0):=by by_cases h:p.filters.n=0 <;> simp [h]
   show _=_;rw [d0,d1,d2];rfl
  obtain ⟨z0,t0⟩:∃ b,((p.asks.n:Int)==0)=b:=⟨_,rfl⟩;obtain ⟨z1,t1⟩:∃ b,((p.codes.n:Int)==0)=b:=⟨_,rfl⟩;obtain ⟨z2,t2⟩:∃ b,((p.filters.n:Int)==0)=b:=⟨_,rfl⟩;rw [t0,t1,t2] at HV;by_cases k8:p.kind=8;·
   have q0:(p.kind==8)=true:=by simp [k8]
   have q1:(p.kind==9)=false:=by simp [k8]
   have q2:(p.kind==10)=false:=by simp [k8]
   rw [q0,q1,q2] at HV;clear k8;cases z0;case true => go_wp2_with fail;go_meet;case rel=>exact ⟨by rw [HV.out];rfl,B8⟩
   go_wp2_with fail;go_meet;case rel=>exact ⟨by rw [HV.out];rfl,B8⟩
  by_cases k9:p.kind=9;·
   have q0:(p.kind==8)=false:=by simp [k9]
   have q1:(p.kind==9)=true:=by simp [k9]
   have q2:(p.kind==10)=false:=by simp [k9]
   rw [q0,q1,q2] at HV;clear k8 k9;cases z1;case true => go_wp2_with fail;go_meet;case rel=>exact ⟨by rw [HV.out];rfl,B8⟩
   go_wp2_with fail;go_meet;case rel=>exact ⟨by rw [HV.out];rfl,B8⟩
  by_cases k10:p.kind=10;·
   have q0:(p.kind==8)=false:=by simp [k10]
   have q1:(p.kind==9)=false:=by simp [k10]
   have q2:(p.kind==10)=true:=by simp [k10]
   rw [q0,q1,q2] at HV;clear k8 k9 k10;cases z2;case true => go_wp2_with fail;go_meet;case rel=>exact ⟨by rw [HV.out];rfl,B8⟩
   go_wp2_with fail;go_meet;case rel=>exact ⟨by rw [HV.out];rfl,B8⟩
  have q0:(p.kind==8)=false:=by simp [k8]
  have q1:(p.kind==9)=false:=by simp [k9]
  have q2:(p.kind==10)=false:=by simp [k10]
  rw [q0,q1,q2] at HV;clear k8 k9 k10;go_wp2_with fail;go_meet;case rel=>exact ⟨by rw [HV.out];rfl,B8⟩
 case rest =>
 obtain ⟨rfl,B9⟩:=hcut;cases hb8:(rbad8 p);case true => go_wp2;go_ret;exact ⟨by rw [E8.out,hb8];rfl,BW.out _ B9.out⟩
 have E9:Hid (x=(if bad9 p then 29 else 0)):=by show _=_;rw [E8.out,hb8];rfl
 clear hb8 E8;go_upto_region 19 with fail;go_cut [118] from 3 (fun sx wx=>sx = .bool (bad9 p)/\Hid (Below W.heap.size W wx));case first =>
  have c12:=FA.out 12 (.bool p.hasPass) rfl wc B9.out;have c10:=FA.out 10 (.bool p.hasUser) rfl wc B9.out;have c16:=FA.out 16 (.bool p.dup) rfl wc B9.out;have c19:=FA.out 19 (.int .i64 p.mQ) rfl wc B9.out;have c14:=FA.out 14 (.bool p.present) rfl wc B9.out;have c15:=FA.out 15 (.int .i64 p.code) rfl wc B9.out;have HV:Hid (bad9 p=((p.hasPass && !p.hasUser) || (p.dup && (p.mQ==0)) || (p.present && (p.code != 0)))):=by
   have d1:(p.mQ==0)=decide (p.mQ=0):=by by_cases h:p.mQ=0 <;> simp [h]
   have d2:(p.code != 0)=decide (p.code≠0):=by by_cases h:p.code=0 <;> simp [h]
   show _=_;rw [d1,d2];rfl
  obtain ⟨y0,q0⟩:∃ b,p.hasPass=b:=⟨_,rfl⟩;obtain ⟨y1,q1⟩:∃ b,p.hasUser=b:=⟨_,rfl⟩;obtain ⟨y2,q2⟩:∃ b,p.dup=b:=⟨_,rfl⟩;obtain ⟨y3,q3⟩:∃ b,(p.mQ==0)=b:=⟨_,rfl⟩;obtain ⟨y4,q4⟩:∃ b,p.present=b:=⟨_,rfl⟩;obtain ⟨y5,q5⟩:∃ b,(p.code != 0)=b:=⟨_,rfl⟩;rw [q0,q1,q2,q3,q4,q5] at HV;rw [q0] at c12;rw [q1] at c10;rw [q2] at c16;rw [q4] at c14;clear q0 q1 q2 q4;cases y0;case false =>
   cases y2;case false =>
    cases y4;case false => go_wp2_with fail;go_meet;case rel=>exact ⟨by rw [HV.out];rfl,B9⟩
    cases y5;case false => go_wp2_with fail;go_meet;case rel=>exact ⟨by rw [HV.out];rfl,B9⟩
    go_wp2_with fail;go_meet;case rel=>exact ⟨by rw [HV.out];rfl,B9⟩
   cases y3;case true => go_wp2_with fail;go_meet;case rel=>exact ⟨by rw [HV.out];rfl,B9⟩
   cases y4;case false => go_wp2_with fail;go_meet;case rel=>exact ⟨by rw [HV.out];rfl,B9⟩
   cases y5;case false => go_wp2_with fail;go_meet;case rel=>exact ⟨by rw [HV.out];rfl,B9⟩
   go_wp2_with fail;go_meet;case rel=>exact ⟨by rw [HV.out];rfl,B9⟩
  cases y1;case false => go_wp2_with fail;go_meet;case rel=>exact ⟨by rw [HV.out];rfl,B9⟩
  cases y2;case false =>
   cases y4;case false => go_wp2_with fail;go_meet;case rel=>exact ⟨by rw [HV.out];rfl,B9⟩
   cases y5;case false => go_wp2_with fail;go_meet;case rel=>exact ⟨by rw [HV.out];rfl,B9⟩
   go_wp2_with fail;go_meet;case rel=>exact ⟨by rw [HV.out];rfl,B9⟩
  cases y3;case true => go_wp2_with fail;go_meet;case rel=>exact ⟨by rw [HV.out];rfl,B9⟩
  cases y4;case false => go_wp2_with fail;go_meet;case rel=>exact ⟨by rw [HV.out];rfl,B9⟩
  cases y5;case false => go_wp2_with fail;go_meet;case rel=>exact ⟨by rw [HV.out];rfl,B9⟩
  go_wp2_with fail;go_meet;case rel=>exact ⟨by rw [HV.out];rfl,B9⟩
 case rest =>
 obtain ⟨rfl,B10⟩:=hcut;cases hb9:(bad9 p);case true => go_wp2;go_ret;exact ⟨by rw [E9.out,hb9];rfl,BW.out _ B10.out⟩
 have E10:Hid (x=(0)):=by show _=_;rw [E9.out,hb9];rfl
 clear hb9 E9;go_wp2;go_ret;exact ⟨by rw [E10.out];rfl,BW.out _ B10.out⟩
end Go.Proofs.YtceigllifjgalaaGreatDoor.Pkt
