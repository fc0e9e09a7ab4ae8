import Derived.Test.YtpldoeeahhaimaaGreatDoorPRe
namespace Go.Proofs.YtpldoeeahhaimaaGreatDoor.Pkt
open Go Go.RowKit Go.Sort
set_option linter.all false
set_option maxRecDepth 100000
set_option maxHeartbeats 8000000
def fA (p:Pk):Bool:=!(p.kind==1) && (p.level != 0 || p.clean || p.keep != 0 || !p.client.toList.isEmpty || p.hasWill || p.hasUser || p.hasPass)
def fB (p:Pk):Bool:=(!(p.kind==1 && p.hasWill) && !zmsg p.wT p.wP.n p.wQ p.wR) || (!(p.kind==1 && p.hasUser) && !p.user.toList.isEmpty) || (!(p.kind==1 && p.hasPass) && decide (0<p.pass.n))
def fC (p:Pk):Bool:=p.kind != 2 && (p.present || p.code != 0)
def fD (p:Pk):Bool:=p.kind != 3 && (p.dup || !zmsg p.mT p.mP.n p.mQ p.mR)
def fE (p:Pk):Bool:=(!hasID p && p.id != 0) || (p.kind != 8 && decide (0<p.asks.n)) || (p.kind != 9 && decide (0<p.codes.n)) || (p.kind != 10 && decide (0<p.filters.n))
def forB (p:Pk):Bool:=fA p || fB p || fC p || fD p || fE p
theorem foreign_any (p:Pk) (w:World):Calls Tryz.prog 80 #[p.v] w fun e w'=>e = .returned (.bool (forB p))/\Below w.heap.size w w':=by
 obtain ⟨x,hx⟩:∃ x,x=forB p:=⟨_,rfl⟩;rw [<-hx];have HX:Hid (x=forB p):=hx;clear hx;obtain ⟨P,hP⟩:∃ P,P=pkCells p:=⟨_,rfl⟩;rw [show p.v = .agg P by rw [hP];rfl];have HP:Hid (P=pkCells p):=hP;have SP:Hid (P.size=25):=by show _=_;rw [hP];rfl
 clear hP;obtain ⟨W,hW⟩:∃ W,W=w.alloc (.cells P 39):=⟨_,rfl⟩;have b0:Hid (Below w.heap.size w W):=box_below hW;have g0:Hid (W.heap[w.heap.size]?=some (.cells P 39)):=by show _=_;rw [hW];exact heap_alloc_new w _
 have FA:Hid (∀ k v,(pkCells p)[k]?=some v->∀ w',Below W.heap.size W w'->w'.cell? ⟨w.heap.size,k,none⟩=some v):=fun k v h w' hb=>cell_later hb (by rw [hW];exact box_cell w P 39 k v (by rw [HP.out];exact h));have BW:Hid (∀ w',Below W.heap.size W w'->Below w.heap.size w w'):=fun w' hb=>b0.out.trans (hb.mono b0.out.size);have R0:Hid (Below W.heap.size W W):=Below.refl _ _;go_enter Tryz.func80,Tryz.ntmps80;go_upto_region 1 with fail;rw [<-hW];clear hW;have c0:=FA.out 0 (.int .i64 p.kind) rfl W R0.out;obtain ⟨b1,h1⟩:∃ b,(p.kind==1)=b:=⟨_,rfl⟩;go_upto_region 2 with fail;clear c0;go_cut [39] from 7 (fun s39 wx=>s39 = .bool (fA p)/\Hid (wx=W));case first =>
  have c1:=FA.out 1 (.int .i64 p.level) rfl W R0.out;have c2:=FA.out 2 (.bool p.clean) rfl W R0.out;have c3:=FA.out 3 (.int .i64 p.keep) rfl W R0.out;have c4:=FA.out 4 (.string p.client) rfl W R0.out;have c5:=FA.out 5 (.bool p.hasWill) rfl W R0.out;have c10:=FA.out 10 (.bool p.hasUser) rfl W R0.out;have c12:=FA.out 12 (.bool p.hasPass) rfl W R0.out;cases b1;case true => go_wp2_with fail;go_meet;case rel=>exact ⟨by simp [fA,h1],rfl⟩
  cases q0:(p.level != 0);case true => go_wp2_with fail;go_meet;case rel=>exact ⟨by simp [fA,h1,q0],rfl⟩
  cases q1:p.clean;case true => rw [q1] at c2;go_wp2_with fail;go_meet;case rel=>exact ⟨by simp [fA,h1,q0,q1],rfl⟩
  rw [q1] at c2;cases q2:(p.keep != 0);case true => go_wp2_with fail;go_meet;case rel=>exact ⟨by simp [fA,h1,q0,q1,q2],rfl⟩
  cases q3:p.client.toList.isEmpty;case false => go_wp2_with fail;go_meet;case rel=>exact ⟨by simp [fA,h1,q0,q1,q2,q3],rfl⟩
  cases q4:p.hasWill;case true => rw [q4] at c5;go_wp2_with fail;go_meet;case rel=>exact ⟨by simp [fA,h1,q0,q1,q2,q3,q4],rfl⟩
  rw [q4] at c5;cases q5:p.hasUser;case true => rw [q5] at c10;go_wp2_with fail;go_meet;case rel=>exact ⟨by simp [fA,h1,q0,q1,q2,q3,q4,q5],rfl⟩
  rw [q5] at c10;cases q6:p.hasPass;case true => rw [q6] at c12;go_wp2_with fail;go_meet;case rel=>exact ⟨by simp [fA,h1,q0,q1,q2,q3,q4,q5,q6],rfl⟩
  rw [q6] at c12;go_wp2_with fail;go_meet;case rel=>exact ⟨by simp [fA,h1,q0,q1,q2,q3,q4,q5,q6],rfl⟩
 case rest =>
 obtain ⟨rfl,hw1⟩:=hcut;obtain rfl:=hw1.out.symm;clear hw1;cases tfA:fA p;case true => go_wp2;go_ret;exact ⟨by rw [HX.out,forB,tfA];rfl,BW.out _ R0.out⟩
 have HfA:Hid (fA p=false):=tfA;clear tfA;go_upto_region 4 with fail;go_cut [78] from 40 (fun s78 wx=>s78 = .bool (fB p)/\Hid (Below W.heap.size W wx));case first =>
  have c5:=FA.out 5 (.bool p.hasWill) rfl W R0.out;have c6:=FA.out 6 (.string p.wT) rfl W R0.out;have c7:=FA.out 7 (.slice p.wP.a p.wP.n p.wP.c) rfl W R0.out;have c8:=FA.out 8 (.int .i64 p.wQ) rfl W R0.out;have c9:=FA.out 9 (.bool p.wR) rfl W R0.out;have c10:=FA.out 10 (.bool p.hasUser) rfl W R0.out;have c11:=FA.out 11 (.string p.user) rfl W R0.out;have c12:=FA.out 12 (.bool p.hasPass) rfl W R0.out;have c13:=FA.out 13 (.slice p.pass.a p.pass.n p.pass.c) rfl W R0.out;cases b1;case false =>
   cases hz:zmsg p.wT p.wP.n p.wQ p.wR;case false => go_wp2_with (go_at_call 116;refine (zero_any _ _ _ _ _ _ _).mono ?_;rintro e w1 ⟨rfl,hb⟩;have B1:Hid (Below W.heap.size W w1):=hb;have d10:=FA.out 10 (.bool p.hasUser) rfl w1 hb;have d11:=FA.out 11 (.string p.user) rfl w1 hb;have d12:=FA.out 12 (.bool p.hasPass) rfl w1 hb;have d13:=FA.out 13 (.slice p.pass.a p.pass.n p.pass.c) rfl w1 hb;clear hb;rw [hz]);go_meet;case rel=>exact ⟨by simp [fB,h1,hz],B1⟩
   cases he:p.user.toList.isEmpty;case false => go_wp2_with (go_at_call 116;refine (zero_any _ _ _ _ _ _ _).mono ?_;rintro e w1 ⟨rfl,hb⟩;have B1:Hid (Below W.heap.size W w1):=hb;have d10:=FA.out 10 (.bool p.hasUser) rfl w1 hb;have d11:=FA.out 11 (.string p.user) rfl w1 hb;have d12:=FA.out 12 (.bool p.hasPass) rfl w1 hb;have d13:=FA.out 13 (.slice p.pass.a p.pass.n p.pass.c) rfl w1 hb;clear hb;rw [hz]);go_meet;case rel=>exact ⟨by simp [fB,h1,hz,he],B1⟩
   by_cases hn:0<p.pass.n
   · have hn':(0:Int)<p.pass.n:=by omega
     go_wp2_with (go_at_call 116;refine (zero_any _ _ _ _ _ _ _).mono ?_;rintro e w1 ⟨rfl,hb⟩;have B1:Hid (Below W.heap.size W w1):=hb;have d10:=FA.out 10 (.bool p.hasUser) rfl w1 hb;have d11:=FA.out 11 (.string p.user) rfl w1 hb;have d12:=FA.out 12 (.bool p.hasPass) rfl w1 hb;have d13:=FA.out 13 (.slice p.pass.a p.pass.n p.pass.c) rfl w1 hb;clear hb;rw [hz]);go_meet;case rel=>exact ⟨by simp [fB,h1,hz,he,hn],B1⟩
   · have hn':¬ (0:Int)<p.pass.n:=by omega
     go_wp2_with (go_at_call 116;refine (zero_any _ _ _ _ _ _ _).mono ?_;rintro e w1 ⟨rfl,hb⟩;have B1:Hid (Below W.heap.size W w1):=hb;have d10:=FA.out 10 (.bool p.hasUser) rfl w1 hb;have d11:=FA.out 11 (.string p.user) rfl w1 hb;have d12:=FA.out 12 (.bool p.hasPass) rfl w1 hb;have d13:=FA.out 13 (.slice p.pass.a p.pass.n p.pass.c) rfl w1 hb;clear hb;rw [hz]);go_meet;case rel=>exact ⟨by simp [fB,h1,hz,he,hn],B1⟩
  cases hw:p.hasWill;case true =>
   rw [hw] at c5;cases hu:p.hasUser;case true =>
    rw [hu] at c10;cases hp:p.hasPass;case true => rw [hp] at c12;go_wp2_with fail;go_meet;case rel=>exact ⟨by simp [fB,h1,hw,hu,hp],R0⟩
    rw [hp] at c12;by_cases hn:0<p.pass.n
    · have hn':(0:Int)<p.pass.n:=by omega
      go_wp2_with fail;go_meet;case rel=>exact ⟨by simp [fB,h1,hw,hu,hp,hn],R0⟩
    · have hn':¬ (0:Int)<p.pass.n:=by omega
      go_wp2_with fail;go_meet;case rel=>exact ⟨by simp [fB,h1,hw,hu,hp,hn],R0⟩
   rw [hu] at c10;cases he:p.user.toList.isEmpty;case false => go_wp2_with fail;go_meet;case rel=>exact ⟨by simp [fB,h1,hw,hu,he],R0⟩
   cases hp:p.hasPass;case true => rw [hp] at c12;go_wp2_with fail;go_meet;case rel=>exact ⟨by simp [fB,h1,hw,hu,he,hp],R0⟩
   rw [hp] at c12;by_cases hn:0<p.pass.n
   · have hn':(0:Int)<p.pass.n:=by omega
     go_wp2_with fail;go_meet;case rel=>exact ⟨by simp [fB,h1,hw,hu,he,hp,hn],R0⟩
   · have hn':¬ (0:Int)<p.pass.n:=by omega
     go_wp2_with fail;go_meet;case rel=>exact ⟨by simp [fB,h1,hw,hu,he,hp,hn],R0⟩
  rw [hw] at c5;cases hz:zmsg p.wT p.wP.n p.wQ p.wR;case false => go_wp2_with (go_at_call 116;refine (zero_any _ _ _ _ _ _ _).mono ?_;rintro e w1 ⟨rfl,hb⟩;have B1:Hid (Below W.heap.size W w1):=hb;have d10:=FA.out 10 (.bool p.hasUser) rfl w1 hb;have d11:=FA.out 11 (.string p.user) rfl w1 hb;have d12:=FA.out 12 (.bool p.hasPass) rfl w1 hb;have d13:=FA.out 13 (.slice p.pass.a p.pass.n p.pass.c) rfl w1 hb;clear hb;rw [hz]);go_meet;case rel=>exact ⟨by simp [fB,h1,hw,hz],B1⟩
  cases hu:p.hasUser;case true =>
   rw [hu] at c10;cases hp:p.hasPass;case true => rw [hp] at c12;go_wp2_with (go_at_call 116;refine (zero_any _ _ _ _ _ _ _).mono ?_;rintro e w1 ⟨rfl,hb⟩;have B1:Hid (Below W.heap.size W w1):=hb;have d10:=FA.out 10 (.bool p.hasUser) rfl w1 hb;have d11:=FA.out 11 (.string p.user) rfl w1 hb;have d12:=FA.out 12 (.bool p.hasPass) rfl w1 hb;have d13:=FA.out 13 (.slice p.pass.a p.pass.n p.pass.c) rfl w1 hb;clear hb;rw [hz];rw [hu] at d10;rw [hp] at d12);go_meet;case rel=>exact ⟨by simp [fB,h1,hw,hz,hu,hp],B1⟩
   rw [hp] at c12;by_cases hn:0<p.pass.n
   · have hn':(0:Int)<p.pass.n:=by omega
     go_wp2_with (go_at_call 116;refine (zero_any _ _ _ _ _ _ _).mono ?_;rintro e w1 ⟨rfl,hb⟩;have B1:Hid (Below W.heap.size W w1):=hb;have d10:=FA.out 10 (.bool p.hasUser) rfl w1 hb;have d11:=FA.out 11 (.string p.user) rfl w1 hb;have d12:=FA.out 12 (.bool p.hasPass) rfl w1 hb;have d13:=FA.out 13 (.slice p.pass.a p.pass.n p.pass.c) rfl w1 hb;clear hb;rw [hz];rw [hu] at d10;rw [hp] at d12);go_meet;case rel=>exact ⟨by simp [fB,h1,hw,hz,hu,hp,hn],B1⟩
   · have hn':¬ (0:Int)<p.pass.n:=by omega
     go_wp2_with (go_at_call 116;refine (zero_any _ _ _ _ _ _ _).mono ?_;rintro e w1 ⟨rfl,hb⟩;have B1:Hid (Below W.heap.size W w1):=hb;have d10:=FA.out 10 (.bool p.hasUser) rfl w1 hb;have d11:=FA.out 11 (.string p.user) rfl w1 hb;have d12:=FA.out 12 (.bool p.hasPass) rfl w1 hb;have d13:=FA.out 13 (.slice p.pass.a p.pass.n p.pass.c) rfl w1 hb;clear hb;rw [hz];rw [hu] at d10;rw [hp] at d12);go_meet;case rel=>exact ⟨by simp [fB,h1,hw,hz,hu,hp,hn],B1⟩
  rw [hu] at c10;cases he:p.user.toList.isEmpty;case false => go_wp2_with (go_at_call 116;refine (zero_any _ _ _ _ _ _ _).mono ?_;rintro e w1 ⟨rfl,hb⟩;have B1:Hid (Below W.heap.size W w1):=hb;have d10:=FA.out 10 (.bool p.hasUser) rfl w1 hb;have d11:=FA.out 11 (.string p.user) rfl w1 hb;have d12:=FA.out 12 (.bool p.hasPass) rfl w1 hb;have d13:=FA.out 13 (.slice p.pass.a p.pass.n p.pass.c) rfl w1 hb;clear hb;rw [hz];rw [hu] at d10);go_meet;case rel=>exact ⟨by simp [fB,h1,hw,hz,hu,he],B1⟩
  cases hp:p.hasPass;case true => rw [hp] at c12;go_wp2_with (go_at_call 116;refine (zero_any _ _ _ _ _ _ _).mono ?_;rintro e w1 ⟨rfl,hb⟩;have B1:Hid (Below W.heap.size W w1):=hb;have d10:=FA.out 10 (.bool p.hasUser) rfl w1 hb;have d11:=FA.out 11 (.string p.user) rfl w1 hb;have d12:=FA.out 12 (.bool p.hasPass) rfl w1 hb;have d13:=FA.out 13 (.slice p.pass.a p.pass.n p.pass.c) rfl w1 hb;clear hb;rw [hz];rw [hu] at d10;rw [hp] at d12);go_meet;case rel=>exact ⟨by simp [fB,h1,hw,hz,hu,he,hp],B1⟩
  rw [hp] at c12;by_cases hn:0<p.pass.n;·
   have hn':(0:Int)<p.pass.n:=by omega
   go_wp2_with (go_at_call 116;refine (zero_any _ _ _ _ _ _ _).mono ?_;rintro e w1 ⟨rfl,hb⟩;have B1:Hid (Below W.heap.size W w1):=hb;have d10:=FA.out 10 (.bool p.hasUser) rfl w1 hb;have d11:=FA.out 11 (.string p.user) rfl w1 hb;have d12:=FA.out 12 (.bool p.hasPass) rfl w1 hb;have d13:=FA.out 13 (.slice p.pass.a p.pass.n p.pass.c) rfl w1 hb;clear hb;rw [hz];rw [hu] at d10;rw [hp] at d12);go_meet;case rel=>exact ⟨by simp [fB,h1,hw,hz,hu,he,hp,hn],B1⟩
  ·
   have hn':¬ (0:Int)<p.pass.n:=by omega
   go_wp2_with (go_at_call 116;refine (zero_any _ _ _ _ _ _ _).mono ?_;rintro e w1 ⟨rfl,hb⟩;have B1:Hid (Below W.heap.size W w1):=hb;have d10:=FA.out 10 (.bool p.hasUser) rfl w1 hb;have d11:=FA.out 11 (.string p.user) rfl w1 hb;have d12:=FA.out 12 (.bool p.hasPass) rfl w1 hb;have d13:=FA.out 13 (.slice p.pass.a p.pass.n p.pass.c) rfl w1 hb;clear hb;rw [hz];rw [hu] at d10;rw [hp] at d12);go_meet;case rel=>exact ⟨by simp [fB,h1,hw,hz,hu,he,hp,hn],B1⟩
 case rest =>
 obtain ⟨rfl,R1⟩:=hcut;cases tfB:fB p;case true => go_wp2;go_ret;exact ⟨by rw [HX.out,forB,HfA.out,tfB];rfl,BW.out _ R1.out⟩
 have HfB:Hid (fB p=false):=tfB;clear tfB;obtain ⟨W2,hW2⟩:∃ W2,W2=wc:=⟨_,rfl⟩;subst hW2;obtain ⟨b2,h2⟩:∃ b,(p.kind != 2)=b:=⟨_,rfl⟩;go_upto_region 6 with fail;go_cut [90] from 79 (fun s90 wx=>s90 = .bool (fC p)/\Hid (wx=W2));case first =>
  have c0:=FA.out 0 (.int .i64 p.kind) rfl W2 R1.out;have c14:=FA.out 14 (.bool p.present) rfl W2 R1.out;have c15:=FA.out 15 (.int .i64 p.code) rfl W2 R1.out;cases b2;case false => go_wp2_with fail;go_meet;case rel=>exact ⟨by simp [fC,h2],rfl⟩
  cases hp:p.present;case true => rw [hp] at c14;go_wp2_with fail;go_meet;case rel=>exact ⟨by simp [fC,h2,hp],rfl⟩
  rw [hp] at c14;cases hc:(p.code != 0);case true => go_wp2_with fail;go_meet;case rel=>exact ⟨by simp [fC,h2,hp,hc],rfl⟩
  go_wp2_with fail;go_meet;case rel=>exact ⟨by simp [fC,h2,hp,hc],rfl⟩
 case rest =>
 obtain ⟨rfl,hw1⟩:=hcut;obtain rfl:=hw1.out.symm;clear hw1 h2;cases tfC:fC p;case true => go_wp2;go_ret;exact ⟨by rw [HX.out,forB,HfA.out,HfB.out,tfC];rfl,BW.out _ R1.out⟩
 have HfC:Hid (fC p=false):=tfC;clear tfC;obtain ⟨b3,h3⟩:∃ b,(p.kind != 3)=b:=⟨_,rfl⟩;go_upto_region 8 with fail;go_cut [103] from 91 (fun s103 wx=>s103 = .bool (fD p)/\Hid (Below W.heap.size W wx));case first =>
  have c0:=FA.out 0 (.int .i64 p.kind) rfl W2 R1.out;have c16:=FA.out 16 (.bool p.dup) rfl W2 R1.out;have c17:=FA.out 17 (.string p.mT) rfl W2 R1.out;have c18:=FA.out 18 (.slice p.mP.a p.mP.n p.mP.c) rfl W2 R1.out;have c19:=FA.out 19 (.int .i64 p.mQ) rfl W2 R1.out;have c20:=FA.out 20 (.bool p.mR) rfl W2 R1.out;cases b3;case false => go_wp2_with fail;go_meet;case rel=>exact ⟨by simp [fD,h3],R1⟩
  cases hd:p.dup;case true => rw [hd] at c16;go_wp2_with fail;go_meet;case rel=>exact ⟨by simp [fD,h3,hd],R1⟩
  rw [hd] at c16;cases hz:zmsg p.mT p.mP.n p.mQ p.mR;case false => go_wp2_with (go_at_call 116;refine (zero_any _ _ _ _ _ _ _).mono ?_;rintro e w1 ⟨rfl,hb⟩;have B1:Hid (Below W.heap.size W w1):=R1.out.trans (hb.mono R1.out.size);clear hb;rw [hz]);go_meet;case rel=>exact ⟨by simp [fD,h3,hd,hz],B1⟩
  go_wp2_with (go_at_call 116;refine (zero_any _ _ _ _ _ _ _).mono ?_;rintro e w1 ⟨rfl,hb⟩;have B1:Hid (Below W.heap.size W w1):=R1.out.trans (hb.mono R1.out.size);clear hb;rw [hz]);go_meet;case rel=>exact ⟨by simp [fD,h3,hd,hz],B1⟩
 case rest =>
 obtain ⟨rfl,R2⟩:=hcut;clear h3;obtain ⟨W3,hW3⟩:∃ W3,W3=wc:=⟨_,rfl⟩;subst hW3;cases tfD:fD p;case true => go_wp2;go_ret;exact ⟨by rw [HX.out,forB,HfA.out,HfB.out,HfC.out,tfD];rfl,BW.out _ R2.out⟩
 have HfD:Hid (fD p=false):=tfD;clear tfD;have g3:Hid (W3.heap[w.heap.size]?=some (.cells P 39)):=(R2.out.block _ (block_lt g0.out)).trans g0.out;have HE:Hid (x=fE p):=by show _=_;rw [HX.out,forB,HfA.out,HfB.out,HfC.out,HfD.out];simp
 obtain ⟨bi,hi⟩:∃ b,hasID p=b:=⟨_,rfl⟩;have HI:Hid (hasID p=bi):=hi;go_wp2_with (first | (refine wpList_load_wanted rfl _ rfl w.heap.size rfl P (0,0) g3.out SP.out ?_) | fail);go_must (go_at_call 86);refine (show Calls Tryz.prog 86 #[.agg P] W3 fun e w'=>e = .returned (.bool bi)/\Below W3.heap.size W3 w' from by rw [HP.out,<-HI.out];exact numbered_any p W3).mono ?_;rintro e w4 ⟨rfl,hb⟩;have R4:Hid (Below W.heap.size W w4):=R2.out.trans (hb.mono R2.out.size);clear hb g3;have c0:=FA.out 0 (.int .i64 p.kind) rfl w4 R4.out;have c21:=FA.out 21 (.int .i64 p.id) rfl w4 R4.out;have c22:=FA.out 22 (.slice p.asks.a p.asks.n p.asks.c) rfl w4 R4.out;have c23:=FA.out 23 (.slice p.codes.a p.codes.n p.codes.c) rfl w4 R4.out;have c24:=FA.out 24 (.slice p.filters.a p.filters.n p.filters.c) rfl w4 R4.out;cases bi;case false =>
  cases hj:(p.id != 0);case true => go_wp2;go_ret;exact ⟨by rw [HE.out];simp [fE,hi,hj],BW.out _ R4.out⟩
  cases e8:(p.kind != 8);case true =>
   by_cases n8:0<p.asks.n
   · have n8':(0:Int)<p.asks.n:=by omega
     go_wp2;go_ret;exact ⟨by rw [HE.out];simp [fE,hi,hj,e8,n8],BW.out _ R4.out⟩
   have n8':¬ (0:Int)<p.asks.n:=by omega
   cases e9:(p.kind != 9);case true =>
    by_cases n9:0<p.codes.n
    · have n9':(0:Int)<p.codes.n:=by omega
      go_wp2;go_ret;exact ⟨by rw [HE.out];simp [fE,hi,hj,e8,n8,e9,n9],BW.out _ R4.out⟩
    have n9':¬ (0:Int)<p.codes.n:=by omega
    cases e10:(p.kind != 10);case true =>
     by_cases n10:0<p.filters.n
     · have n10':(0:Int)<p.filters.n:=by omega
       go_wp2;go_ret;exact ⟨by rw [HE.out];simp [fE,hi,hj,e8,n8,e9,n9,e10,n10],BW.out _ R4.out⟩
     have n10':¬ (0:Int)<p.filters.n:=by omega
     go_wp2;go_ret;exact ⟨by rw [HE.out];simp [fE,hi,hj,e8,n8,e9,n9,e10,n10],BW.out _ R4.out⟩
    case false => go_wp2;go_ret;exact ⟨by rw [HE.out];simp [fE,hi,hj,e8,n8,e9,n9,e10],BW.out _ R4.out⟩
   case false =>
    cases e10:(p.kind != 10);case true =>
     by_cases n10:0<p.filters.n
     · have n10':(0:Int)<p.filters.n:=by omega
       go_wp2;go_ret;exact ⟨by rw [HE.out];simp [fE,hi,hj,e8,n8,e9,e10,n10],BW.out _ R4.out⟩
     have n10':¬ (0:Int)<p.filters.n:=by omega
     go_wp2;go_ret;exact ⟨by rw [HE.out];simp [fE,hi,hj,e8,n8,e9,e10,n10],BW.out _ R4.out⟩
    case false => go_wp2;go_ret;exact ⟨by rw [HE.out];simp [fE,hi,hj,e8,n8,e9,e10],BW.out _ R4.out⟩
  case false =>
   cases e9:(p.kind != 9);case true =>
    by_cases n9:0<p.codes.n
    · have n9':(0:Int)<p.codes.n:=by omega
      go_wp2;go_ret;exact ⟨by rw [HE.out];simp [fE,hi,hj,e8,e9,n9],BW.out _ R4.out⟩
    have n9':¬ (0:Int)<p.codes.n:=by omega
    cases e10:(p.kind != 10);case true =>
     by_cases n10:0<p.filters.n
     · have n10':(0:Int)<p.filters.n:=by omega
       go_wp2;go_ret;exact ⟨by rw [HE.out];simp [fE,hi,hj,e8,e9,n9,e10,n10],BW.out _ R4.out⟩
     have n10':¬ (0:Int)<p.filters.n:=by omega
     go_wp2;go_ret;exact ⟨by rw [HE.out];simp [fE,hi,hj,e8,e9,n9,e10,n10],BW.out _ R4.out⟩
    case false => go_wp2;go_ret;exact ⟨by rw [HE.out];simp [fE,hi,hj,e8,e9,n9,e10],BW.out _ R4.out⟩
   case false =>
    cases e10:(p.kind != 10);case true =>
     by_cases n10:0<p.filters.n
     · have n10':(0:Int)<p.filters.n:=by omega
       go_wp2;go_ret;exact ⟨by rw [HE.out];simp [fE,hi,hj,e8,e9,e10,n10],BW.out _ R4.out⟩
     have n10':¬ (0:Int)<p.filters.n:=by omega
     go_wp2;go_ret;exact ⟨by rw [HE.out];simp [fE,hi,hj,e8,e9,e10,n10],BW.out _ R4.out⟩
    case false => go_wp2;go_ret;exact ⟨by rw [HE.out];simp [fE,hi,hj,e8,e9,e10],BW.out _ R4.out⟩
 cases e8:(p.kind != 8);case true =>
  by_cases n8:0<p.asks.n;·
   have n8':(0:Int)<p.asks.n:=by omega
   go_wp2;go_ret;exact ⟨by rw [HE.out];simp [fE,hi,e8,n8],BW.out _ R4.out⟩
  have n8':¬ (0:Int)<p.asks.n:=by omega
  cases e9:(p.kind != 9);case true =>
   by_cases n9:0<p.codes.n
   · have n9':(0:Int)<p.codes.n:=by omega
     go_wp2;go_ret;exact ⟨by rw [HE.out];simp [fE,hi,e8,n8,e9,n9],BW.out _ R4.out⟩
   have n9':¬ (0:Int)<p.codes.n:=by omega
   cases e10:(p.kind != 10);case true =>
    by_cases n10:0<p.filters.n
    · have n10':(0:Int)<p.filters.n:=by omega
      go_wp2;go_ret;exact ⟨by rw [HE.out];simp [fE,hi,e8,n8,e9,n9,e10,n10],BW.out _ R4.out⟩
    have n10':¬ (0:Int)<p.filters.n:=by omega
    go_wp2;go_ret;exact ⟨by rw [HE.out];simp [fE,hi,e8,n8,e9,n9,e10,n10],BW.out _ R4.out⟩
   case false => go_wp2;go_ret;exact ⟨by rw [HE.out];simp [fE,hi,e8,n8,e9,n9,e10],BW.out _ R4.out⟩
  case false =>
   cases e10:(p.kind != 10);case true =>
    by_cases n10:0<p.filters.n
    · have n10':(0:Int)<p.filters.n:=by omega
      go_wp2;go_ret;exact ⟨by rw [HE.out];simp [fE,hi,e8,n8,e9,e10,n10],BW.out _ R4.out⟩
    have n10':¬ (0:Int)<p.filters.n:=by omega
    go_wp2;go_ret;exact ⟨by rw [HE.out];simp [fE,hi,e8,n8,e9,e10,n10],BW.out _ R4.out⟩
   case false => go_wp2;go_ret;exact ⟨by rw [HE.out];simp [fE,hi,e8,n8,e9,e10],BW.out _ R4.out⟩
 case false =>
  cases e9:(p.kind != 9);case true =>
   by_cases n9:0<p.codes.n
   · have n9':(0:Int)<p.codes.n:=by omega
     go_wp2;go_ret;exact ⟨by rw [HE.out];simp [fE,hi,e8,e9,n9],BW.out _ R4.out⟩
   have n9':¬ (0:Int)<p.codes.n:=by omega
   cases e10:(p.kind != 10);case true =>
    by_cases n10:0<p.filters.n
    · have n10':(0:Int)<p.filters.n:=by omega
      go_wp2;go_ret;exact ⟨by rw [HE.out];simp [fE,hi,e8,e9,n9,e10,n10],BW.out _ R4.out⟩
    have n10':¬ (0:Int)<p.filters.n:=by omega
    go_wp2;go_ret;exact ⟨by rw [HE.out];simp [fE,hi,e8,e9,n9,e10,n10],BW.out _ R4.out⟩
   case false => go_wp2;go_ret;exact ⟨by rw [HE.out];simp [fE,hi,e8,e9,n9,e10],BW.out _ R4.out⟩
  case false =>
   cases e10:(p.kind != 10);case true =>
    by_cases n10:0<p.filters.n
    · have n10':(0:Int)<p.filters.n:=by omega
      go_wp2;go_ret;exact ⟨by rw [HE.out];simp [fE,hi,e8,e9,e10,n10],BW.out _ R4.out⟩
    have n10':¬ (0:Int)<p.filters.n:=by omega
    go_wp2;go_ret;exact ⟨by rw [HE.out];simp [fE,hi,e8,e9,e10,n10],BW.out _ R4.out⟩
   case false => go_wp2;go_ret;exact ⟨by rw [HE.out];simp [fE,hi,e8,e9,e10],BW.out _ R4.out⟩
end Go.Proofs.YtpldoeeahhaimaaGreatDoor.Pkt
