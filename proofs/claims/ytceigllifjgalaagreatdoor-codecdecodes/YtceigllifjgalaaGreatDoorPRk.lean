import Derived.Test.YtceigllifjgalaaGreatDoorPWj
namespace Go.Proofs.YtceigllifjgalaaGreatDoor.Pkt
open Go Go.RowKit Go.Sort
set_option linter.unusedSimpArgs false
set_option linter.unusedVariables false
set_option maxRecDepth 100000
set_option maxHeartbeats 1000000
variable {w:World}
theorem size_one (p:Pk) (c:Cn) (h:Small p c) (hin:In w p c) (hk:p.kind=1) (HK:Hid (KindsAt w)):Calls Tryz.prog 238 #[p.v] w fun e w'=>e = .returned (.int .i64 (sz p c))/\Below w.heap.size w w':=by
 have HF:Hid (∀ w',Below w.heap.size w w'->Calls Tryz.prog 232 #[p.v] w' fun e w''=>e = .returned (.int .i64 (fl p))/\Below w'.heap.size w' w''):=fun w' hb=>zaS p w' (HK.out.below hb) (by omega) (by omega);have HC:Hid (∀ w',Calls Tryz.prog 276 #[p.v] w' fun e w''=>e = .returned (.int .i64 (szc p))/\Below w'.heap.size w' w''):=fun w'=>zan p c h w';have hz:bits .and .i64 (fl p:Int) 16384=((fl p &&& 16384:Nat):Int):=zb5 _ _ (by have:=fl_lt p;omega) (by decide);have hi:=fl_id p (by omega) (by omega);rw [show hasID p=false by simp [hasID,hk]] at hi;have hz2:(bits .and .i64 (fl p:Int) 16384 != 0)=false:=by rw [hz];simpa using hi
 rw [show sz p c=szc p by simp [sz,hk]];clear h hz hi hin;obtain ⟨kind,level,clean,keep,client,hasWill,wT,wP,wQ,wR,hasUser,user,hasPass,pass,present,code,dup,mT,mP,mQ,mR,id,asks,codes,filters⟩:=p;obtain ⟨wPa,wPn,wPc⟩:=wP;obtain ⟨pa,pn,pc⟩:=pass;obtain ⟨ma,mn,mc⟩:=mP;obtain ⟨aa,an,ac⟩:=asks;obtain ⟨ca,cn,cc⟩:=codes;obtain ⟨fa,fn,fc⟩:=filters;simp only at hk;subst hk;simp only [Pk.v,Sl.v] at HF HC ⊢;go_enter Tryz.func238,Tryz.ntmps238;go_wp2_with (refine wpList_load_row rfl 29 _ rfl w.heap.size rfl 29 _ (0,0) _ (heap_alloc_new w _) Tryz.underlying29 rfl (by kernel_rfl) ?_);go_must (go_at_call 232);have b0:Below w.heap.size w (w.alloc (Obj.cells #[.int .i64 1,.int .i64 level,.bool clean,.int .i64 keep,.string client,.bool hasWill,.string wT,.slice wPa wPn wPc,.int .i64 wQ,.bool wR,.bool hasUser,.string user,.bool hasPass,.slice pa pn pc,.bool present,.int .i64 code,.bool dup,.string mT,.slice ma mn mc,.int .i64 mQ,.bool mR,.int .i64 id,.slice aa an ac,.slice ca cn cc,.slice fa fn fc] 29)):=(Below.refl _ _).alloc (Nat.le_refl _) _;refine (HF.out _ b0).mono ?_;rintro e w1 ⟨rfl,hb1⟩;have G1:Hid (w1.heap[w.heap.size]?=some (.cells #[.int .i64 1,.int .i64 level,.bool clean,.int .i64 keep,.string client,.bool hasWill,.string wT,.slice wPa wPn wPc,.int .i64 wQ,.bool wR,.bool hasUser,.string user,.bool hasPass,.slice pa pn pc,.bool present,.int .i64 code,.bool dup,.string mT,.slice ma mn mc,.int .i64 mQ,.bool mR,.int .i64 id,.slice aa an ac,.slice ca cn cc,.slice fa fn fc] 29)):=(hb1.block _ (by show w.heap.size<(w.heap.push _).size;simp)).trans (heap_alloc_new w _);have q0:=cell_later hb1 (za2 w _ _ 0 _ rfl);have q17:=cell_later hb1 (za2 w _ _ 17 _ rfl);have q18:=cell_later hb1 (za2 w _ _ 18 _ rfl);have q22:=cell_later hb1 (za2 w _ _ 22 _ rfl);have q23:=cell_later hb1 (za2 w _ _ 23 _ rfl);have q24:=cell_later hb1 (za2 w _ _ 24 _ rfl);have B1:=Hi (b0.trans (hb1.mono b0.size));clear hb1 b0;go_wp2_with (refine wpList_load_row rfl 29 _ rfl w.heap.size rfl 29 _ (0,0) _ G1.out Tryz.underlying29 rfl (by kernel_rfl) ?_);go_must (go_at_call 276);refine (HC.out _).mono ?_;rintro e w2 ⟨rfl,hb2⟩;have B2:=Hi (B1.out.trans (hb2.mono B1.out.size));clear hb2;go_wp2;go_ret;exact ⟨rfl,B2.out⟩
theorem size_two (p:Pk) (c:Cn) (h:Small p c) (hin:In w p c) (hk:p.kind=2) (HK:Hid (KindsAt w)):Calls Tryz.prog 238 #[p.v] w fun e w'=>e = .returned (.int .i64 (sz p c))/\Below w.heap.size w w':=by
 have HF:Hid (∀ w',Below w.heap.size w w'->Calls Tryz.prog 232 #[p.v] w' fun e w''=>e = .returned (.int .i64 (fl p))/\Below w'.heap.size w' w''):=fun w' hb=>zaS p w' (HK.out.below hb) (by omega) (by omega);have HC:Hid (∀ w',Calls Tryz.prog 276 #[p.v] w' fun e w''=>e = .returned (.int .i64 (szc p))/\Below w'.heap.size w' w''):=fun w'=>zan p c h w';have hz:bits .and .i64 (fl p:Int) 16384=((fl p &&& 16384:Nat):Int):=zb5 _ _ (by have:=fl_lt p;omega) (by decide);have hi:=fl_id p (by omega) (by omega);rw [show hasID p=false by simp [hasID,hk]] at hi;have hz2:(bits .and .i64 (fl p:Int) 16384 != 0)=false:=by rw [hz];simpa using hi
 rw [show sz p c=2 by simp [sz,hk]];clear h hz hi hin;obtain ⟨kind,level,clean,keep,client,hasWill,wT,wP,wQ,wR,hasUser,user,hasPass,pass,present,code,dup,mT,mP,mQ,mR,id,asks,codes,filters⟩:=p;obtain ⟨wPa,wPn,wPc⟩:=wP;obtain ⟨pa,pn,pc⟩:=pass;obtain ⟨ma,mn,mc⟩:=mP;obtain ⟨aa,an,ac⟩:=asks;obtain ⟨ca,cn,cc⟩:=codes;obtain ⟨fa,fn,fc⟩:=filters;simp only at hk;subst hk;simp only [Pk.v,Sl.v] at HF HC ⊢;go_enter Tryz.func238,Tryz.ntmps238;go_wp2_with (refine wpList_load_row rfl 29 _ rfl w.heap.size rfl 29 _ (0,0) _ (heap_alloc_new w _) Tryz.underlying29 rfl (by kernel_rfl) ?_);go_must (go_at_call 232);have b0:Below w.heap.size w (w.alloc (Obj.cells #[.int .i64 2,.int .i64 level,.bool clean,.int .i64 keep,.string client,.bool hasWill,.string wT,.slice wPa wPn wPc,.int .i64 wQ,.bool wR,.bool hasUser,.string user,.bool hasPass,.slice pa pn pc,.bool present,.int .i64 code,.bool dup,.string mT,.slice ma mn mc,.int .i64 mQ,.bool mR,.int .i64 id,.slice aa an ac,.slice ca cn cc,.slice fa fn fc] 29)):=(Below.refl _ _).alloc (Nat.le_refl _) _;refine (HF.out _ b0).mono ?_;rintro e w1 ⟨rfl,hb1⟩;have G1:Hid (w1.heap[w.heap.size]?=some (.cells #[.int .i64 2,.int .i64 level,.bool clean,.int .i64 keep,.string client,.bool hasWill,.string wT,.slice wPa wPn wPc,.int .i64 wQ,.bool wR,.bool hasUser,.string user,.bool hasPass,.slice pa pn pc,.bool present,.int .i64 code,.bool dup,.string mT,.slice ma mn mc,.int .i64 mQ,.bool mR,.int .i64 id,.slice aa an ac,.slice ca cn cc,.slice fa fn fc] 29)):=(hb1.block _ (by show w.heap.size<(w.heap.push _).size;simp)).trans (heap_alloc_new w _);have q0:=cell_later hb1 (za2 w _ _ 0 _ rfl);have q17:=cell_later hb1 (za2 w _ _ 17 _ rfl);have q18:=cell_later hb1 (za2 w _ _ 18 _ rfl);have q22:=cell_later hb1 (za2 w _ _ 22 _ rfl);have q23:=cell_later hb1 (za2 w _ _ 23 _ rfl);have q24:=cell_later hb1 (za2 w _ _ 24 _ rfl);have B1:=Hi (b0.trans (hb1.mono b0.size));clear hb1 b0;go_wp2;go_ret;exact ⟨rfl,B1.out⟩
theorem size_three_id (p:Pk) (c:Cn) (h:Small p c) (hin:In w p c) (hk:p.kind=3) (hid:hasID p=true) (HK:Hid (KindsAt w)):Calls Tryz.prog 238 #[p.v] w fun e w'=>e = .returned (.int .i64 (sz p c))/\Below w.heap.size w w':=by
 have HF:Hid (∀ w',Below w.heap.size w w'->Calls Tryz.prog 232 #[p.v] w' fun e w''=>e = .returned (.int .i64 (fl p))/\Below w'.heap.size w' w''):=fun w' hb=>zaS p w' (HK.out.below hb) (by omega) (by omega);have HC:Hid (∀ w',Calls Tryz.prog 276 #[p.v] w' fun e w''=>e = .returned (.int .i64 (szc p))/\Below w'.heap.size w' w''):=fun w'=>zan p c h w';have hz:bits .and .i64 (fl p:Int) 16384=((fl p &&& 16384:Nat):Int):=zb5 _ _ (by have:=fl_lt p;omega) (by decide);have hi:=fl_id p (by omega) (by omega);rw [hid] at hi;have hz2:(bits .and .i64 (fl p:Int) 16384 != 0)=true:=by rw [hz];simpa using hi
 have HS:Hid ((((2:Int)+2+p.mT.size+p.mP.n))=(sz p c:Int)):=by show _=_;simp [sz,hk,nid,hid]
 have h4:=h.mt;have h7:=h.mp;clear h hz hi hin hid;obtain ⟨kind,level,clean,keep,client,hasWill,wT,wP,wQ,wR,hasUser,user,hasPass,pass,present,code,dup,mT,mP,mQ,mR,id,asks,codes,filters⟩:=p;obtain ⟨wPa,wPn,wPc⟩:=wP;obtain ⟨pa,pn,pc⟩:=pass;obtain ⟨ma,mn,mc⟩:=mP;obtain ⟨aa,an,ac⟩:=asks;obtain ⟨ca,cn,cc⟩:=codes;obtain ⟨fa,fn,fc⟩:=filters;simp only at hk h4 h7;subst hk;simp only [Pk.v,Sl.v] at HF HC ⊢;simp only at HS;go_enter Tryz.func238,Tryz.ntmps238;go_wp2_with (refine wpList_load_row rfl 29 _ rfl w.heap.size rfl 29 _ (0,0) _ (heap_alloc_new w _) Tryz.underlying29 rfl (by kernel_rfl) ?_);go_must (go_at_call 232);have b0:Below w.heap.size w (w.alloc (Obj.cells #[.int .i64 3,.int .i64 level,.bool clean,.int .i64 keep,.string client,.bool hasWill,.string wT,.slice wPa wPn wPc,.int .i64 wQ,.bool wR,.bool hasUser,.string user,.bool hasPass,.slice pa pn pc,.bool present,.int .i64 code,.bool dup,.string mT,.slice ma mn mc,.int .i64 mQ,.bool mR,.int .i64 id,.slice aa an ac,.slice ca cn cc,.slice fa fn fc] 29)):=(Below.refl _ _).alloc (Nat.le_refl _) _;refine (HF.out _ b0).mono ?_;rintro e w1 ⟨rfl,hb1⟩;have G1:Hid (w1.heap[w.heap.size]?=some (.cells #[.int .i64 3,.int .i64 level,.bool clean,.int .i64 keep,.string client,.bool hasWill,.string wT,.slice wPa wPn wPc,.int .i64 wQ,.bool wR,.bool hasUser,.string user,.bool hasPass,.slice pa pn pc,.bool present,.int .i64 code,.bool dup,.string mT,.slice ma mn mc,.int .i64 mQ,.bool mR,.int .i64 id,.slice aa an ac,.slice ca cn cc,.slice fa fn fc] 29)):=(hb1.block _ (by show w.heap.size<(w.heap.push _).size;simp)).trans (heap_alloc_new w _);have q0:=cell_later hb1 (za2 w _ _ 0 _ rfl);have q17:=cell_later hb1 (za2 w _ _ 17 _ rfl);have q18:=cell_later hb1 (za2 w _ _ 18 _ rfl);have q22:=cell_later hb1 (za2 w _ _ 22 _ rfl);have q23:=cell_later hb1 (za2 w _ _ 23 _ rfl);have q24:=cell_later hb1 (za2 w _ _ 24 _ rfl);have B1:=Hi (b0.trans (hb1.mono b0.size));clear hb1 b0;go_wp2;go_ret;refine ⟨congrArg (fun x=>Ending.returned (Value.int .i64 x)) ?_,B1.out⟩;rw [<-HS.out];first | rfl | (simp;done)|(simp;omega)
theorem size_three (p:Pk) (c:Cn) (h:Small p c) (hin:In w p c) (hk:p.kind=3) (hid:hasID p=false) (HK:Hid (KindsAt w)):Calls Tryz.prog 238 #[p.v] w fun e w'=>e = .returned (.int .i64 (sz p c))/\Below w.heap.size w w':=by
 have HF:Hid (∀ w',Below w.heap.size w w'->Calls Tryz.prog 232 #[p.v] w' fun e w''=>e = .returned (.int .i64 (fl p))/\Below w'.heap.size w' w''):=fun w' hb=>zaS p w' (HK.out.below hb) (by omega) (by omega);have HC:Hid (∀ w',Calls Tryz.prog 276 #[p.v] w' fun e w''=>e = .returned (.int .i64 (szc p))/\Below w'.heap.size w' w''):=fun w'=>zan p c h w';have hz:bits .and .i64 (fl p:Int) 16384=((fl p &&& 16384:Nat):Int):=zb5 _ _ (by have:=fl_lt p;omega) (by decide);have hi:=fl_id p (by omega) (by omega);rw [hid] at hi;have hz2:(bits .and .i64 (fl p:Int) 16384 != 0)=false:=by rw [hz];simpa using hi
 have HS:Hid ((((0:Int)+2+p.mT.size+p.mP.n))=(sz p c:Int)):=by show _=_;simp [sz,hk,nid,hid]
 have h4:=h.mt;have h7:=h.mp;clear h hz hi hin hid;obtain ⟨kind,level,clean,keep,client,hasWill,wT,wP,wQ,wR,hasUser,user,hasPass,pass,present,code,dup,mT,mP,mQ,mR,id,asks,codes,filters⟩:=p;obtain ⟨wPa,wPn,wPc⟩:=wP;obtain ⟨pa,pn,pc⟩:=pass;obtain ⟨ma,mn,mc⟩:=mP;obtain ⟨aa,an,ac⟩:=asks;obtain ⟨ca,cn,cc⟩:=codes;obtain ⟨fa,fn,fc⟩:=filters;simp only at hk h4 h7;subst hk;simp only [Pk.v,Sl.v] at HF HC ⊢;simp only at HS;go_enter Tryz.func238,Tryz.ntmps238;go_wp2_with (refine wpList_load_row rfl 29 _ rfl w.heap.size rfl 29 _ (0,0) _ (heap_alloc_new w _) Tryz.underlying29 rfl (by kernel_rfl) ?_);go_must (go_at_call 232);have b0:Below w.heap.size w (w.alloc (Obj.cells #[.int .i64 3,.int .i64 level,.bool clean,.int .i64 keep,.string client,.bool hasWill,.string wT,.slice wPa wPn wPc,.int .i64 wQ,.bool wR,.bool hasUser,.string user,.bool hasPass,.slice pa pn pc,.bool present,.int .i64 code,.bool dup,.string mT,.slice ma mn mc,.int .i64 mQ,.bool mR,.int .i64 id,.slice aa an ac,.slice ca cn cc,.slice fa fn fc] 29)):=(Below.refl _ _).alloc (Nat.le_refl _) _;refine (HF.out _ b0).mono ?_;rintro e w1 ⟨rfl,hb1⟩;have G1:Hid (w1.heap[w.heap.size]?=some (.cells #[.int .i64 3,.int .i64 level,.bool clean,.int .i64 keep,.string client,.bool hasWill,.string wT,.slice wPa wPn wPc,.int .i64 wQ,.bool wR,.bool hasUser,.string user,.bool hasPass,.slice pa pn pc,.bool present,.int .i64 code,.bool dup,.string mT,.slice ma mn mc,.int .i64 mQ,.bool mR,.int .i64 id,.slice aa an ac,.slice ca cn cc,.slice fa fn fc] 29)):=(hb1.block _ (by show w.heap.size<(w.heap.push _).size;simp)).trans (heap_alloc_new w _);have q0:=cell_later hb1 (za2 w _ _ 0 _ rfl);have q17:=cell_later hb1 (za2 w _ _ 17 _ rfl);have q18:=cell_later hb1 (za2 w _ _ 18 _ rfl);have q22:=cell_later hb1 (za2 w _ _ 22 _ rfl);have q23:=cell_later hb1 (za2 w _ _ 23 _ rfl);have q24:=cell_later hb1 (za2 w _ _ 24 _ rfl);have B1:=Hi (b0.trans (hb1.mono b0.size));clear hb1 b0;go_wp2;go_ret;refine ⟨congrArg (fun x=>Ending.returned (Value.int .i64 x)) ?_,B1.out⟩;rw [<-HS.out];first | rfl | (simp;done)|(simp;omega)
theorem size_more_id (p:Pk) (c:Cn) (h:Small p c) (hin:In w p c) (hk:4<=p.kind) (hk2:p.kind<=14) (hid:hasID p=true) (HK:Hid (KindsAt w)):Calls Tryz.prog 238 #[p.v] w fun e w'=>e = .returned (.int .i64 (sz p c))/\Below w.heap.size w w':=by
 have HF:Hid (∀ w',Below w.heap.size w w'->Calls Tryz.prog 232 #[p.v] w' fun e w''=>e = .returned (.int .i64 (fl p))/\Below w'.heap.size w' w''):=fun w' hb=>zaS p w' (HK.out.below hb) (by omega) (by omega);have HC:Hid (∀ w',Calls Tryz.prog 276 #[p.v] w' fun e w''=>e = .returned (.int .i64 (szc p))/\Below w'.heap.size w' w''):=fun w'=>zan p c h w';have hz:bits .and .i64 (fl p:Int) 16384=((fl p &&& 16384:Nat):Int):=zb5 _ _ (by have:=fl_lt p;omega) (by decide);have hi:=fl_id p (by omega) (by omega);rw [hid] at hi;have hz2:(bits .and .i64 (fl p:Int) 16384 != 0)=true:=by rw [hz];simpa using hi
 have HS:Hid (((2:Nat)+sumN (fun i=>3+(c.af i).size) p.asks.n+sumN (fun i=>2+(c.fs i).size) p.filters.n+p.codes.n)=sz p c):=by
  show _=_;have k1:¬ p.kind=1:=by omega
  have k2:¬ p.kind=2:=by omega
  have k3:¬ p.kind=3:=by omega
  simp [sz,k1,k2,k3,nid,hid]
 have HA:=Hi hin.asks;have HT:=Hi hin.filters;have s1:=h.an;have s2:=h.fn;have s3:=h.cn;have s4:=h.sa;have s5:=h.sf;clear h hz hi hin hid;obtain ⟨kind,level,clean,keep,client,hasWill,wT,wP,wQ,wR,hasUser,user,hasPass,pass,present,code,dup,mT,mP,mQ,mR,id,asks,codes,filters⟩:=p;obtain ⟨wPa,wPn,wPc⟩:=wP;obtain ⟨pa,pn,pc⟩:=pass;obtain ⟨ma,mn,mc⟩:=mP;obtain ⟨aa,an,ac⟩:=asks;obtain ⟨ca,cn,cc⟩:=codes;obtain ⟨fa,fn,fc⟩:=filters;simp only at hk hk2 s1 s2 s3 s4 s5;simp only [Pk.v,Sl.v] at HF HC ⊢;simp only at HS;have k1:(kind==1)=false:=by simp;omega
 have k2:(kind==2)=false:=by simp;omega
 have k3:(kind==3)=false:=by simp;omega
 have S4:=Hi s4;have S5:=Hi s5;have S6:=Hi s3;clear s4 s5 s3;go_enter Tryz.func238,Tryz.ntmps238;go_wp2_with (refine wpList_load_row rfl 29 _ rfl w.heap.size rfl 29 _ (0,0) _ (heap_alloc_new w _) Tryz.underlying29 rfl (by kernel_rfl) ?_);go_must (go_at_call 232);have b0:Below w.heap.size w (w.alloc (Obj.cells #[.int .i64 kind,.int .i64 level,.bool clean,.int .i64 keep,.string client,.bool hasWill,.string wT,.slice wPa wPn wPc,.int .i64 wQ,.bool wR,.bool hasUser,.string user,.bool hasPass,.slice pa pn pc,.bool present,.int .i64 code,.bool dup,.string mT,.slice ma mn mc,.int .i64 mQ,.bool mR,.int .i64 id,.slice aa an ac,.slice ca cn cc,.slice fa fn fc] 29)):=(Below.refl _ _).alloc (Nat.le_refl _) _;refine (HF.out _ b0).mono ?_;rintro e w1 ⟨rfl,hb1⟩;have G1:Hid (w1.heap[w.heap.size]?=some (.cells #[.int .i64 kind,.int .i64 level,.bool clean,.int .i64 keep,.string client,.bool hasWill,.string wT,.slice wPa wPn wPc,.int .i64 wQ,.bool wR,.bool hasUser,.string user,.bool hasPass,.slice pa pn pc,.bool present,.int .i64 code,.bool dup,.string mT,.slice ma mn mc,.int .i64 mQ,.bool mR,.int .i64 id,.slice aa an ac,.slice ca cn cc,.slice fa fn fc] 29)):=(hb1.block _ (by show w.heap.size<(w.heap.push _).size;simp)).trans (heap_alloc_new w _);have q0:=cell_later hb1 (za2 w _ _ 0 _ rfl);have q17:=cell_later hb1 (za2 w _ _ 17 _ rfl);have q18:=cell_later hb1 (za2 w _ _ 18 _ rfl);have q22:=cell_later hb1 (za2 w _ _ 22 _ rfl);have q23:=cell_later hb1 (za2 w _ _ 23 _ rfl);have q24:=cell_later hb1 (za2 w _ _ 24 _ rfl);have B1:=Hi (b0.trans (hb1.mono b0.size));clear hb1 b0;go_wp2_with fail;obtain ⟨wz,hwz⟩:∃ wz,wz=w1:=⟨_,rfl⟩;have Q23:=Hi q23;have Q24:=Hi q24;rw [<-hwz] at B1 Q23 Q24 ⊢;clear hwz q0 q17 q18 q22 q23 q24 G1 HF HC;go_loopg [3,37] an (fun g s3 s37 wx=>∃ k N:Nat,s37 = .int .i64 k/\s3 = .int .i64 N/\k+g=an/\Hid (N=2+sumN (fun i=>3+(c.af i).size) k)/\Hid (Below w.heap.size w wx)/\Hid (wx.cell? ⟨w.heap.size,23,none⟩=some (.slice ca cn cc))/\Hid (wx.cell? ⟨w.heap.size,24,none⟩=some (.slice fa fn fc)));case atStart=>exact ⟨0,2,rfl,rfl,by omega,rfl,B1,Q23,Q24⟩
 case round =>
  obtain ⟨k,M,rfl,rfl,hkg,HN,B,X3,X4⟩:=hrel;by_cases hk:k<an;·
   obtain ⟨b,off,he,hc⟩:∃ b off,aa=some ⟨b,off,none⟩/\∀ i,i<an->(w.cell? ⟨b,off+i*2,none⟩=some (.string (c.af i))/\w.cell? ⟨b,off+i*2+1,none⟩=some (.int .i64 (c.aq i))):=by
    rcases HA.out.2 with h | h;· simp only at h;omega
    · exact h
   subst he;have hac:an<=ac:=HA.out.1;have c0:=cell_later B.out (hc k hk).1;have c1:=cell_later B.out (hc k hk).2;have hk':(k:Int)<an:=by omega
   have bb:Below wr.heap.size wr (wr.alloc (Obj.cells #[Value.string (c.af k),Value.int IntKind.i64 (c.aq k)] 98)):=(Below.refl _ _).alloc (Nat.le_refl _) _;have B2:=Hi (B.out.trans (bb.mono B.out.size));have Y3:=Hi (cell_later bb X3.out);have Y4:=Hi (cell_later bb X4.out);have hle:=zdw (fun i=>3+(c.af i).size) (k+1) an (by omega);have hM:M+(3+(c.af k).size)<=100000002:=by have h1:=HN.out;have h2:=S4.out;simp only [sumN] at hle;omega
   have HM2:Hid (M+(3+(c.af k).size)=2+sumN (fun i=>3+(c.af i).size) (k+1)):=by have h1:=HN.out;show _=_;simp only [sumN];omega
   obtain ⟨g,hg⟩:∃ g,gk=g+1:=⟨gk-1,by omega⟩;clear hc bb hle;go_wp2;go_roundg g;case measure=>omega
   case rel => refine ⟨k+1,M+(3+(c.af k).size),by first | rfl | simp,?_,by omega,HM2,B2,Y3,Y4⟩;refine congrArg (Value.int .i64) ?_;first | rfl | (simp;done)|(simp;omega)
  ·
   obtain rfl:k=an:=by omega
   have hk':¬ (k:Int)<k:=by omega
   have hx:=X4.out;go_wp2_with fail;obtain ⟨wz,hwz⟩:∃ wz,wz=wr:=⟨_,rfl⟩;rw [<-hwz] at B X3 ⊢;clear hwz hx X4;go_loopg [3,52] fn (fun g s3 s51 wx=>∃ j L:Nat,s51 = .int .i64 j/\s3 = .int .i64 L/\j+g=fn/\Hid (L=M+sumN (fun i=>2+(c.fs i).size) j)/\Hid (Below w.heap.size w wx)/\Hid (wx.cell? ⟨w.heap.size,23,none⟩=some (.slice ca cn cc)));case atStart=>exact ⟨0,M,rfl,rfl,by omega,rfl,B,X3⟩
   case round =>
    obtain ⟨j,L,rfl,rfl,hjg,HL,B,X3⟩:=hrel;by_cases hj:j<fn;·
     obtain ⟨b,off,he,hc⟩:∃ b off,fa=some ⟨b,off,none⟩/\∀ i,i<fn->w.cell? ⟨b,off+i,none⟩=some (.string (c.fs i)):=by
      rcases HT.out.2 with h | h;· simp only at h;omega
      · exact h
     subst he;have hac:fn<=fc:=HT.out.1;have c0:=cell_later B.out (hc j hj);have hj':(j:Int)<fn:=by omega
     have hle:=zdw (fun i=>2+(c.fs i).size) (j+1) fn (by omega);have hL:L+(2+(c.fs j).size)<=200000002:=by have h1:=HL.out;have h2:=S5.out;have h3:=HN.out;have h4:=S4.out;simp only [sumN] at hle;omega
     have HL2:Hid (L+(2+(c.fs j).size)=M+sumN (fun i=>2+(c.fs i).size) (j+1)):=by have h1:=HL.out;show _=_;simp only [sumN];omega
     obtain ⟨g,hg⟩:∃ g,gk=g+1:=⟨gk-1,by omega⟩;clear hc hle;go_wp2;go_roundg g;case measure=>omega
     case rel => refine ⟨j+1,L+(2+(c.fs j).size),by first | rfl | simp,?_,by omega,HL2,B,X3⟩;refine congrArg (Value.int .i64) ?_;first | rfl | (simp;done)|(simp;omega)
    ·
     obtain rfl:j=fn:=by omega
     have hj':¬ (j:Int)<j:=by omega
     have hx:=X3.out;have hL:L<=200000002:=by have h1:=HL.out;have h2:=S5.out;have h3:=HN.out;have h4:=S4.out;omega
     have hc:cn<=1000000:=S6.out;have HZ:Hid (L+cn=2+sumN (fun i=>3+(c.af i).size) k+sumN (fun i=>2+(c.fs i).size) j+cn):=by show _=_;rw [HL.out,HN.out]
     go_wp2;go_ret;refine ⟨congrArg (fun x=>Ending.returned (Value.int .i64 x)) ?_,B.out⟩;rw [<-HS.out,<-HZ.out];first | rfl | (simp;done)|(simp;omega)
theorem size_more (p:Pk) (c:Cn) (h:Small p c) (hin:In w p c) (hk:4<=p.kind) (hk2:p.kind<=14) (hid:hasID p=false) (HK:Hid (KindsAt w)):Calls Tryz.prog 238 #[p.v] w fun e w'=>e = .returned (.int .i64 (sz p c))/\Below w.heap.size w w':=by
 have HF:Hid (∀ w',Below w.heap.size w w'->Calls Tryz.prog 232 #[p.v] w' fun e w''=>e = .returned (.int .i64 (fl p))/\Below w'.heap.size w' w''):=fun w' hb=>zaS p w' (HK.out.below hb) (by omega) (by omega);have HC:Hid (∀ w',Calls Tryz.prog 276 #[p.v] w' fun e w''=>e = .returned (.int .i64 (szc p))/\Below w'.heap.size w' w''):=fun w'=>zan p c h w';have hz:bits .and .i64 (fl p:Int) 16384=((fl p &&& 16384:Nat):Int):=zb5 _ _ (by have:=fl_lt p;omega) (by decide);have hi:=fl_id p (by omega) (by omega);rw [hid] at hi;have hz2:(bits .and .i64 (fl p:Int) 16384 != 0)=false:=by rw [hz];simpa using hi
 have HS:Hid (((0:Nat)+sumN (fun i=>3+(c.af i).size) p.asks.n+sumN (fun i=>2+(c.fs i).size) p.filters.n+p.codes.n)=sz p c):=by
  show _=_;have k1:¬ p.kind=1:=by omega
  have k2:¬ p.kind=2:=by omega
  have k3:¬ p.kind=3:=by omega
  simp [sz,k1,k2,k3,nid,hid]
 have HA:=Hi hin.asks;have HT:=Hi hin.filters;have s1:=h.an;have s2:=h.fn;have s3:=h.cn;have s4:=h.sa;have s5:=h.sf;clear h hz hi hin hid;obtain ⟨kind,level,clean,keep,client,hasWill,wT,wP,wQ,wR,hasUser,user,hasPass,pass,present,code,dup,mT,mP,mQ,mR,id,asks,codes,filters⟩:=p;obtain ⟨wPa,wPn,wPc⟩:=wP;obtain ⟨pa,pn,pc⟩:=pass;obtain ⟨ma,mn,mc⟩:=mP;obtain ⟨aa,an,ac⟩:=asks;obtain ⟨ca,cn,cc⟩:=codes;obtain ⟨fa,fn,fc⟩:=filters;simp only at hk hk2 s1 s2 s3 s4 s5;simp only [Pk.v,Sl.v] at HF HC ⊢;simp only at HS;have k1:(kind==1)=false:=by simp;omega
 have k2:(kind==2)=false:=by simp;omega
 have k3:(kind==3)=false:=by simp;omega
 have S4:=Hi s4;have S5:=Hi s5;have S6:=Hi s3;clear s4 s5 s3;go_enter Tryz.func238,Tryz.ntmps238;go_wp2_with (refine wpList_load_row rfl 29 _ rfl w.heap.size rfl 29 _ (0,0) _ (heap_alloc_new w _) Tryz.underlying29 rfl (by kernel_rfl) ?_);go_must (go_at_call 232);have b0:Below w.heap.size w (w.alloc (Obj.cells #[.int .i64 kind,.int .i64 level,.bool clean,.int .i64 keep,.string client,.bool hasWill,.string wT,.slice wPa wPn wPc,.int .i64 wQ,.bool wR,.bool hasUser,.string user,.bool hasPass,.slice pa pn pc,.bool present,.int .i64 code,.bool dup,.string mT,.slice ma mn mc,.int .i64 mQ,.bool mR,.int .i64 id,.slice aa an ac,.slice ca cn cc,.slice fa fn fc] 29)):=(Below.refl _ _).alloc (Nat.le_refl _) _;refine (HF.out _ b0).mono ?_;rintro e w1 ⟨rfl,hb1⟩;have G1:Hid (w1.heap[w.heap.size]?=some (.cells #[.int .i64 kind,.int .i64 level,.bool clean,.int .i64 keep,.string client,.bool hasWill,.string wT,.slice wPa wPn wPc,.int .i64 wQ,.bool wR,.bool hasUser,.string user,.bool hasPass,.slice pa pn pc,.bool present,.int .i64 code,.bool dup,.string mT,.slice ma mn mc,.int .i64 mQ,.bool mR,.int .i64 id,.slice aa an ac,.slice ca cn cc,.slice fa fn fc] 29)):=(hb1.block _ (by show w.heap.size<(w.heap.push _).size;simp)).trans (heap_alloc_new w _);have q0:=cell_later hb1 (za2 w _ _ 0 _ rfl);have q17:=cell_later hb1 (za2 w _ _ 17 _ rfl);have q18:=cell_later hb1 (za2 w _ _ 18 _ rfl);have q22:=cell_later hb1 (za2 w _ _ 22 _ rfl);have q23:=cell_later hb1 (za2 w _ _ 23 _ rfl);have q24:=cell_later hb1 (za2 w _ _ 24 _ rfl);have B1:=Hi (b0.trans (hb1.mono b0.size));clear hb1 b0;go_wp2_with fail;obtain ⟨wz,hwz⟩:∃ wz,wz=w1:=⟨_,rfl⟩;have Q23:=Hi q23;have Q24:=Hi q24;rw [<-hwz] at B1 Q23 Q24 ⊢;clear hwz q0 q17 q18 q22 q23 q24 G1 HF HC;go_loopg [3,37] an (fun g s3 s37 wx=>∃ k N:Nat,s37 = .int .i64 k/\s3 = .int .i64 N/\k+g=an/\Hid (N=0+sumN (fun i=>3+(c.af i).size) k)/\Hid (Below w.heap.size w wx)/\Hid (wx.cell? ⟨w.heap.size,23,none⟩=some (.slice ca cn cc))/\Hid (wx.cell? ⟨w.heap.size,24,none⟩=some (.slice fa fn fc)));case atStart=>exact ⟨0,0,rfl,rfl,by omega,rfl,B1,Q23,Q24⟩
 case round =>
  obtain ⟨k,M,rfl,rfl,hkg,HN,B,X3,X4⟩:=hrel;by_cases hk:k<an;·
   obtain ⟨b,off,he,hc⟩:∃ b off,aa=some ⟨b,off,none⟩/\∀ i,i<an->(w.cell? ⟨b,off+i*2,none⟩=some (.string (c.af i))/\w.cell? ⟨b,off+i*2+1,none⟩=some (.int .i64 (c.aq i))):=by
    rcases HA.out.2 with h | h;· simp only at h;omega
    · exact h
   subst he;have hac:an<=ac:=HA.out.1;have c0:=cell_later B.out (hc k hk).1;have c1:=cell_later B.out (hc k hk).2;have hk':(k:Int)<an:=by omega
   have bb:Below wr.heap.size wr (wr.alloc (Obj.cells #[Value.string (c.af k),Value.int IntKind.i64 (c.aq k)] 98)):=(Below.refl _ _).alloc (Nat.le_refl _) _;have B2:=Hi (B.out.trans (bb.mono B.out.size));have Y3:=Hi (cell_later bb X3.out);have Y4:=Hi (cell_later bb X4.out);have hle:=zdw (fun i=>3+(c.af i).size) (k+1) an (by omega);have hM:M+(3+(c.af k).size)<=100000002:=by have h1:=HN.out;have h2:=S4.out;simp only [sumN] at hle;omega
   have HM2:Hid (M+(3+(c.af k).size)=0+sumN (fun i=>3+(c.af i).size) (k+1)):=by have h1:=HN.out;show _=_;simp only [sumN];omega
   obtain ⟨g,hg⟩:∃ g,gk=g+1:=⟨gk-1,by omega⟩;clear hc bb hle;go_wp2;go_roundg g;case measure=>omega
   case rel => refine ⟨k+1,M+(3+(c.af k).size),by first | rfl | simp,?_,by omega,HM2,B2,Y3,Y4⟩;refine congrArg (Value.int .i64) ?_;first | rfl | (simp;done)|(simp;omega)
  ·
   obtain rfl:k=an:=by omega
   have hk':¬ (k:Int)<k:=by omega
   have hx:=X4.out;go_wp2_with fail;obtain ⟨wz,hwz⟩:∃ wz,wz=wr:=⟨_,rfl⟩;rw [<-hwz] at B X3 ⊢;clear hwz hx X4;go_loopg [3,52] fn (fun g s3 s51 wx=>∃ j L:Nat,s51 = .int .i64 j/\s3 = .int .i64 L/\j+g=fn/\Hid (L=M+sumN (fun i=>2+(c.fs i).size) j)/\Hid (Below w.heap.size w wx)/\Hid (wx.cell? ⟨w.heap.size,23,none⟩=some (.slice ca cn cc)));case atStart=>exact ⟨0,M,rfl,rfl,by omega,rfl,B,X3⟩
   case round =>
    obtain ⟨j,L,rfl,rfl,hjg,HL,B,X3⟩:=hrel;by_cases hj:j<fn;·
     obtain ⟨b,off,he,hc⟩:∃ b off,fa=some ⟨b,off,none⟩/\∀ i,i<fn->w.cell? ⟨b,off+i,none⟩=some (.string (c.fs i)):=by
      rcases HT.out.2 with h | h;· simp only at h;omega
      · exact h
     subst he;have hac:fn<=fc:=HT.out.1;have c0:=cell_later B.out (hc j hj);have hj':(j:Int)<fn:=by omega
     have hle:=zdw (fun i=>2+(c.fs i).size) (j+1) fn (by omega);have hL:L+(2+(c.fs j).size)<=200000002:=by have h1:=HL.out;have h2:=S5.out;have h3:=HN.out;have h4:=S4.out;simp only [sumN] at hle;omega
     have HL2:Hid (L+(2+(c.fs j).size)=M+sumN (fun i=>2+(c.fs i).size) (j+1)):=by have h1:=HL.out;show _=_;simp only [sumN];omega
     obtain ⟨g,hg⟩:∃ g,gk=g+1:=⟨gk-1,by omega⟩;clear hc hle;go_wp2;go_roundg g;case measure=>omega
     case rel => refine ⟨j+1,L+(2+(c.fs j).size),by first | rfl | simp,?_,by omega,HL2,B,X3⟩;refine congrArg (Value.int .i64) ?_;first | rfl | (simp;done)|(simp;omega)
    ·
     obtain rfl:j=fn:=by omega
     have hj':¬ (j:Int)<j:=by omega
     have hx:=X3.out;have hL:L<=200000002:=by have h1:=HL.out;have h2:=S5.out;have h3:=HN.out;have h4:=S4.out;omega
     have hc:cn<=1000000:=S6.out;have HZ:Hid (L+cn=0+sumN (fun i=>3+(c.af i).size) k+sumN (fun i=>2+(c.fs i).size) j+cn):=by show _=_;rw [HL.out,HN.out]
     go_wp2;go_ret;refine ⟨congrArg (fun x=>Ending.returned (Value.int .i64 x)) ?_,B.out⟩;rw [<-HS.out,<-HZ.out];first | rfl | (simp;done)|(simp;omega)
theorem topicsRight_any (p:Pk) (w:World):Calls Tryz.prog 235 #[p.v] w fun e w'=>e = .returned (.bool (tps TT p))/\Below w.heap.size w w':=by
 obtain ⟨kind,level,clean,keep,client,hasWill,wT,wP,wQ,wR,hasUser,user,hasPass,pass,present,code,dup,mT,mP,mQ,mR,id,asks,codes,filters⟩:=p;obtain ⟨wPa,wPn,wPc⟩:=wP;obtain ⟨pa,pn,pc⟩:=pass;obtain ⟨ma,mn,mc⟩:=mP;obtain ⟨aa,an,ac⟩:=asks;obtain ⟨ca,cn,cc⟩:=codes;obtain ⟨fa,fn,fc⟩:=filters;simp only [Pk.v,Sl.v,tps,TT];have b0:Below w.heap.size w (w.alloc (Obj.cells #[.int .i64 kind,.int .i64 level,.bool clean,.int .i64 keep,.string client,.bool hasWill,.string wT,.slice wPa wPn wPc,.int .i64 wQ,.bool wR,.bool hasUser,.string user,.bool hasPass,.slice pa pn pc,.bool present,.int .i64 code,.bool dup,.string mT,.slice ma mn mc,.int .i64 mQ,.bool mR,.int .i64 id,.slice aa an ac,.slice ca cn cc,.slice fa fn fc] 29)):=(Below.refl _ _).alloc (Nat.le_refl _) _;cases hasWill with
 | false =>
  have E:True:=trivial;by_cases h3:kind=3;· subst h3;go_enter Tryz.func235,Tryz.ntmps235;go_wp2_with fail;have B0:=Hi b0;go_must (go_at_call 273);refine (zbl mT _).mono ?_;rintro e w2 ⟨rfl,hb2⟩;have B2:=Hi (B0.out.trans (hb2.mono B0.out.size));clear hb2;go_wp2;go_ret;exact ⟨by simp [topb,E],B2.out⟩
  ·
   have h3':(kind != 3)=true:=by simpa using h3
   go_enter Tryz.func235,Tryz.ntmps235;go_wp2_with fail;have B0:=Hi b0;go_ret;exact ⟨by simp [topb,E,h3],B0.out⟩
 | true =>
  by_cases hz:tcode wT=0;·
   have E:(tcode wT==0)=true:=by simpa using hz
   have hzz:kind=kind:=rfl;by_cases h3:kind=3;· subst h3;go_enter Tryz.func235,Tryz.ntmps235;go_wp2_with fail;go_must (go_at_call 273);refine (zbl wT _).mono ?_;rintro e w1 ⟨rfl,hb1⟩;have B0:=Hi (b0.trans (hb1.mono b0.size));have q0:=cell_later hb1 (za2 w _ _ 0 _ rfl);have q17:=cell_later hb1 (za2 w _ _ 17 _ rfl);clear hb1;rw [hz];go_wp2_with fail;go_must (go_at_call 273);refine (zbl mT _).mono ?_;rintro e w2 ⟨rfl,hb2⟩;have B2:=Hi (B0.out.trans (hb2.mono B0.out.size));clear hb2;go_wp2;go_ret;exact ⟨by simp [topb,E],B2.out⟩
   ·
    have h3':(kind != 3)=true:=by simpa using h3
    go_enter Tryz.func235,Tryz.ntmps235;go_wp2_with fail;go_must (go_at_call 273);refine (zbl wT _).mono ?_;rintro e w1 ⟨rfl,hb1⟩;have B0:=Hi (b0.trans (hb1.mono b0.size));have q0:=cell_later hb1 (za2 w _ _ 0 _ rfl);have q17:=cell_later hb1 (za2 w _ _ 17 _ rfl);clear hb1;rw [hz];go_wp2_with fail;go_ret;exact ⟨by simp [topb,E,h3],B0.out⟩
  ·
   have hz':(tcode wT != 0)=true:=by simpa using hz
   have E:(tcode wT==0)=false:=by simpa using hz
   go_enter Tryz.func235,Tryz.ntmps235;go_wp2_with fail;go_must (go_at_call 273);refine (zbl wT _).mono ?_;rintro e w1 ⟨rfl,hb1⟩;have B0:=Hi (b0.trans (hb1.mono b0.size));clear hb1;go_wp2;go_ret;exact ⟨by simp [topb,E],B0.out⟩
theorem filtersRight_any (p:Pk) (c:Cn) (w:World) (h:In w p c) (ha:p.asks.n<=1000000) (hf:p.filters.n<=1000000) (m:Int) (HM:Hid (w.cell? ⟨3,0,none⟩=some (.int .i64 m))):Calls Tryz.prog 236 #[p.v] w fun e w'=>e = .returned (.bool (flts TT p c))/\Below w.heap.size w w':=by
 obtain ⟨kind,level,clean,keep,client,hasWill,wT,wP,wQ,wR,hasUser,user,hasPass,pass,present,code,dup,mT,mP,mQ,mR,id,asks,codes,filters⟩:=p;obtain ⟨wPa,wPn,wPc⟩:=wP;obtain ⟨pa,pn,pc⟩:=pass;obtain ⟨ma,mn,mc⟩:=mP;obtain ⟨aa,an,ac⟩:=asks;obtain ⟨ca,cn,cc⟩:=codes;obtain ⟨fa,fn,fc⟩:=filters;have HA:=Hi h.asks;have HS:=Hi h.filters;have HT:Hid (∀ b,b=flts TT ⟨kind,level,clean,keep,client,hasWill,wT,⟨wPa,wPn,wPc⟩,wQ,wR,hasUser,user,hasPass,⟨pa,pn,pc⟩,present,code,dup,mT,⟨ma,mn,mc⟩,mQ,mR,id,⟨aa,an,ac⟩,⟨ca,cn,cc⟩,⟨fa,fn,fc⟩⟩ c↔b=(allN an (fun i=>flt (c.af i)) && allN fn (fun i=>flt (c.fs i)))):=fun b=>Iff.rfl;simp only at ha hf;have ha':(an:Int)<=1000000:=by omega
 have hf':(fn:Int)<=1000000:=by omega
 clear h;have B0:Hid (Below w.heap.size w (w.alloc (Obj.cells #[.int .i64 kind,.int .i64 level,.bool clean,.int .i64 keep,.string client,.bool hasWill,.string wT,.slice wPa wPn wPc,.int .i64 wQ,.bool wR,.bool hasUser,.string user,.bool hasPass,.slice pa pn pc,.bool present,.int .i64 code,.bool dup,.string mT,.slice ma mn mc,.int .i64 mQ,.bool mR,.int .i64 id,.slice aa an ac,.slice ca cn cc,.slice fa fn fc] 29))):=(Below.refl _ _).alloc (Nat.le_refl _) _;simp only [Pk.v,Sl.v];go_enter Tryz.func236,Tryz.ntmps236;go_wp2_with fail;go_loopg [10] an (fun g s10 wx=>∃ k:Nat,s10 = .int .i64 k/\k+g=an/\Hid (Below w.heap.size w wx)/\Hid (wx.cell? ⟨w.heap.size,24,none⟩=some (.slice fa fn fc))/\Hid (∀ j,j<k->flt (c.af j)=true));case atStart=>exact ⟨0,rfl,by omega,B0,za2 w _ _ 24 _ rfl,fun j hj=>by omega⟩
 case round =>
  obtain ⟨k,rfl,hkg,B,HX,HD⟩:=hrel;by_cases hk:k<an
  · obtain ⟨b,off,he,hc⟩:∃ b off,aa=some ⟨b,off,none⟩/\∀ i,i<an->(w.cell? ⟨b,off+i*2,none⟩=some (.string (c.af i))/\w.cell? ⟨b,off+i*2+1,none⟩=some (.int .i64 (c.aq i))):=by
      rcases HA.out.2 with h | h;· simp only at h;omega
      · exact h
    subst he;have hac:an<=ac:=HA.out.1;have c0:=cell_later B.out (hc k hk).1;have c1:=cell_later B.out (hc k hk).2;have hk':(k:Int)<an:=by omega
    clear hc;by_cases hz:fcode (c.af k)=0
    · have HZ:Hid (flt (c.af k)=true):=by show flt (c.af k)=true;unfold flt;simpa using hz
      obtain ⟨g,hg⟩:∃ g,gk=g+1:=⟨gk-1,by omega⟩;go_wp2_with fail;go_must (go_at_call 274);have bb:Below wr.heap.size wr (wr.alloc (Obj.cells #[Value.string (c.af k),Value.int IntKind.i64 (c.aq k)] 98)):=(Below.refl _ _).alloc (Nat.le_refl _) _;refine (zbD (c.af k) _ m (cell_later bb (cell_later B.out HM.out))).mono ?_;rintro e w2 ⟨rfl,hb2⟩;have bb2:Below wr.heap.size wr w2:=bb.trans (hb2.mono bb.size);have B2:=Hi (B.out.trans (bb2.mono B.out.size));have X2:=Hi (cell_later bb2 HX.out);clear hb2 bb bb2 c0 c1;rw [hz];go_wp2;go_roundg g;case measure=>omega
      case rel=>exact ⟨k+1,by first | rfl | simp,by omega,B2,X2,fun j hj=>by
       rcases Nat.lt_or_ge j k with h | h;· exact HD.out j h
       · obtain rfl:j=k:=by omega
         exact HZ.out⟩
    · have hz':(fcode (c.af k) != 0)=true:=by simpa using hz
      have HZ:Hid (false=flts TT _ c):=(HT.out false).2 (by rw [zaP k hk (show flt (c.af k)=false by unfold flt;simpa using hz)];rfl);go_wp2_with fail;go_must (go_at_call 274);have bb:Below wr.heap.size wr (wr.alloc (Obj.cells #[Value.string (c.af k),Value.int IntKind.i64 (c.aq k)] 98)):=(Below.refl _ _).alloc (Nat.le_refl _) _;refine (zbD (c.af k) _ m (cell_later bb (cell_later B.out HM.out))).mono ?_;rintro e w2 ⟨rfl,hb2⟩;have bb2:Below wr.heap.size wr w2:=bb.trans (hb2.mono bb.size);have B2:=Hi (B.out.trans (bb2.mono B.out.size));clear hb2 bb bb2 c0 c1;go_wp2;go_ret;exact ⟨by rw [<-HZ.out];rfl,B2.out⟩
  · obtain rfl:k=an:=by omega
    have hk':¬ (k:Int)<k:=by omega
    have hx:=HX.out;go_wp2_with fail;obtain ⟨wz,hwz⟩:∃ wz,wz=wr:=⟨_,rfl⟩;rw [<-hwz] at B ⊢;have HDA:Hid (allN k (fun i=>flt (c.af i))=true):=(zb6 _ _).2 HD.out;clear hwz HX hx HD;go_loopg [22] fn (fun g s22 wx=>∃ j:Nat,s22 = .int .i64 j/\j+g=fn/\Hid (Below w.heap.size w wx)/\Hid (∀ i,i<j->flt (c.fs i)=true));case atStart=>exact ⟨0,rfl,by omega,B,fun i hi=>by omega⟩
    case round =>
     obtain ⟨j,rfl,hjg,B,HD⟩:=hrel;by_cases hj:j<fn
     · obtain ⟨b,off,he,hc⟩:∃ b off,fa=some ⟨b,off,none⟩/\∀ i,i<fn->w.cell? ⟨b,off+i,none⟩=some (.string (c.fs i)):=by
         rcases HS.out.2 with h | h;· simp only at h;omega
         · exact h
       subst he;have hac:fn<=fc:=HS.out.1;have c0:=cell_later B.out (hc j hj);have hj':(j:Int)<fn:=by omega
       clear hc;by_cases hz:fcode (c.fs j)=0
       · have HZ:Hid (flt (c.fs j)=true):=by show flt (c.fs j)=true;unfold flt;simpa using hz
         obtain ⟨g,hg⟩:∃ g,gk=g+1:=⟨gk-1,by omega⟩;go_wp2_with fail;go_must (go_at_call 274);refine (zbD (c.fs j) _ m (cell_later B.out HM.out)).mono ?_;rintro e w2 ⟨rfl,hb2⟩;have B2:=Hi (B.out.trans (hb2.mono B.out.size));clear hb2 c0;rw [hz];go_wp2;go_roundg g;case measure=>omega
         case rel=>exact ⟨j+1,by first | rfl | simp,by omega,B2,fun i hi=>by
          rcases Nat.lt_or_ge i j with h | h;· exact HD.out i h
          · obtain rfl:i=j:=by omega
            exact HZ.out⟩
       · have hz':(fcode (c.fs j) != 0)=true:=by simpa using hz
         have HZ:Hid (false=flts TT _ c):=(HT.out false).2 (by rw [zaP j hj (show flt (c.fs j)=false by unfold flt;simpa using hz),Bool.and_false]);go_wp2_with fail;go_must (go_at_call 274);refine (zbD (c.fs j) _ m (cell_later B.out HM.out)).mono ?_;rintro e w2 ⟨rfl,hb2⟩;have B2:=Hi (B.out.trans (hb2.mono B.out.size));clear hb2 c0;go_wp2;go_ret;exact ⟨by rw [<-HZ.out];rfl,B2.out⟩
     · obtain rfl:j=fn:=by omega
       have hj':¬ (j:Int)<j:=by omega
       have HZ:Hid (true=flts TT _ c):=(HT.out true).2 (by rw [HDA.out,(zb6 _ _).2 HD.out];rfl);go_wp2;go_ret;exact ⟨by rw [<-HZ.out];rfl,B.out⟩
theorem qualitiesRight_any (p:Pk) (c:Cn) (w:World) (h:In w p c) (ha:p.asks.n<=1000000) (hf:p.codes.n<=1000000):Calls Tryz.prog 237 #[p.v] w fun e w'=>e = .returned (.bool (qls p c))/\Below w.heap.size w w':=by
 obtain ⟨kind,level,clean,keep,client,hasWill,wT,wP,wQ,wR,hasUser,user,hasPass,pass,present,code,dup,mT,mP,mQ,mR,id,asks,codes,filters⟩:=p;obtain ⟨wPa,wPn,wPc⟩:=wP;obtain ⟨pa,pn,pc⟩:=pass;obtain ⟨ma,mn,mc⟩:=mP;obtain ⟨aa,an,ac⟩:=asks;obtain ⟨ca,cn,cc⟩:=codes;obtain ⟨fa,fn,fc⟩:=filters;have HA:=Hi h.asks;have HS:=Hi h.codes;have HT:Hid (∀ b,b=qls ⟨kind,level,clean,keep,client,hasWill,wT,⟨wPa,wPn,wPc⟩,wQ,wR,hasUser,user,hasPass,⟨pa,pn,pc⟩,present,code,dup,mT,⟨ma,mn,mc⟩,mQ,mR,id,⟨aa,an,ac⟩,⟨ca,cn,cc⟩,⟨fa,fn,fc⟩⟩ c↔b=(isQ wQ && isQ mQ && allN an (fun i=>isQ (c.aq i)) && allN cn (fun i=>isC (c.cs i)))):=fun b=>Iff.rfl;simp only at ha hf;have ha':(an:Int)<=1000000:=by omega
 have hf':(cn:Int)<=1000000:=by omega
 clear h;have B0:Hid (Below w.heap.size w (w.alloc (Obj.cells #[.int .i64 kind,.int .i64 level,.bool clean,.int .i64 keep,.string client,.bool hasWill,.string wT,.slice wPa wPn wPc,.int .i64 wQ,.bool wR,.bool hasUser,.string user,.bool hasPass,.slice pa pn pc,.bool present,.int .i64 code,.bool dup,.string mT,.slice ma mn mc,.int .i64 mQ,.bool mR,.int .i64 id,.slice aa an ac,.slice ca cn cc,.slice fa fn fc] 29))):=(Below.refl _ _).alloc (Nat.le_refl _) _;simp only [Pk.v,Sl.v];cases h1:isQ wQ
 · have HZ:Hid (false=qls _ c):=(HT.out false).2 (by rw [h1];rfl)
   go_enter Tryz.func237,Tryz.ntmps237;go_wp2_with (go_at_call 275;refine (zas _ _).mono ?_;rintro e w' ⟨rfl,rfl⟩;rw [h1]);go_ret;exact ⟨by rw [<-HZ.out];rfl,B0.out⟩
 cases h2:isQ mQ
 · have HZ:Hid (false=qls _ c):=(HT.out false).2 (by rw [h1,h2];rfl)
   go_enter Tryz.func237,Tryz.ntmps237;go_wp2_with (go_at_call 275;refine (zas _ _).mono ?_;rintro e w' ⟨rfl,rfl⟩;first | rw [h1] | rw [h2]);go_ret;exact ⟨by rw [<-HZ.out];rfl,B0.out⟩
 have HT2:Hid (∀ b,b=qls ⟨kind,level,clean,keep,client,hasWill,wT,⟨wPa,wPn,wPc⟩,wQ,wR,hasUser,user,hasPass,⟨pa,pn,pc⟩,present,code,dup,mT,⟨ma,mn,mc⟩,mQ,mR,id,⟨aa,an,ac⟩,⟨ca,cn,cc⟩,⟨fa,fn,fc⟩⟩ c↔b=(allN an (fun i=>isQ (c.aq i)) && allN cn (fun i=>isC (c.cs i)))):=fun b=>by rw [HT.out b,h1,h2];rfl
 clear HT;go_enter Tryz.func237,Tryz.ntmps237;go_wp2_with (go_at_call 275;refine (zas _ _).mono ?_;rintro e w' ⟨rfl,rfl⟩;first | rw [h1] | rw [h2]);go_loopg [22] an (fun g s22 wx=>∃ k:Nat,s22 = .int .i64 k/\k+g=an/\Hid (Below w.heap.size w wx)/\Hid (wx.cell? ⟨w.heap.size,23,none⟩=some (.slice ca cn cc))/\Hid (∀ j,j<k->isQ (c.aq j)=true));case atStart=>exact ⟨0,rfl,by omega,B0,za2 _ _ _ 23 _ rfl,fun j hj=>by omega⟩
 case round =>
  obtain ⟨k,rfl,hkg,B,HX,HD⟩:=hrel;by_cases hk:k<an
  · obtain ⟨b,off,he,hc⟩:∃ b off,aa=some ⟨b,off,none⟩/\∀ i,i<an->(w.cell? ⟨b,off+i*2,none⟩=some (.string (c.af i))/\w.cell? ⟨b,off+i*2+1,none⟩=some (.int .i64 (c.aq i))):=by
      rcases HA.out.2 with h | h;· simp only at h;omega
      · exact h
    subst he;have hac:an<=ac:=HA.out.1;have c0:=cell_later B.out (hc k hk).1;have c1:=cell_later B.out (hc k hk).2;have hk':(k:Int)<an:=by omega
    have bb:Below wr.heap.size wr (wr.alloc (Obj.cells #[Value.string (c.af k),Value.int IntKind.i64 (c.aq k)] 98)):=(Below.refl _ _).alloc (Nat.le_refl _) _;have B2:=Hi (B.out.trans (bb.mono B.out.size));have X2:=Hi (cell_later bb HX.out);clear hc bb;cases hz:isQ (c.aq k)
    · have HZ:Hid (false=qls _ c):=(HT2.out false).2 (by rw [zaP k hk hz];rfl)
      go_wp2_with (go_at_call 275;refine (zas _ _).mono ?_;rintro e w1 ⟨rfl,he⟩;obtain rfl:=he.symm;clear he;rw [hz]);go_ret;exact ⟨by rw [<-HZ.out];rfl,B2.out⟩
    · obtain ⟨g,hg⟩:∃ g,gk=g+1:=⟨gk-1,by omega⟩
      have HZ:=Hi hz;go_wp2_with (go_at_call 275;refine (zas _ _).mono ?_;rintro e w1 ⟨rfl,he⟩;obtain rfl:=he.symm;clear he;rw [hz]);go_roundg g;case measure=>omega
      case rel=>exact ⟨k+1,by first | rfl | simp,by omega,B2,X2,fun j hj=>by
       rcases Nat.lt_or_ge j k with h | h;· exact HD.out j h
       · obtain rfl:j=k:=by omega
         exact HZ.out⟩
  · obtain rfl:k=an:=by omega
    have hk':¬ (k:Int)<k:=by omega
    have hx:=HX.out;have HDA:Hid (allN k (fun i=>isQ (c.aq i))=true):=(zb6 _ _).2 HD.out;go_wp2_with fail;obtain ⟨wz,hwz⟩:∃ wz,wz=wr:=⟨_,rfl⟩;rw [<-hwz] at B ⊢;clear hwz HX hx HD;go_loopg [34] cn (fun g s22 wx=>∃ j:Nat,s22 = .int .i64 j/\j+g=cn/\Hid (Below w.heap.size w wx)/\Hid (∀ i,i<j->isC (c.cs i)=true));case atStart=>exact ⟨0,rfl,by omega,B,fun i hi=>by omega⟩
    case round =>
     obtain ⟨j,rfl,hjg,B,HD⟩:=hrel;by_cases hj:j<cn
     · obtain ⟨b,off,he,hc⟩:∃ b off,ca=some ⟨b,off,none⟩/\∀ i,i<cn->w.cell? ⟨b,off+i,none⟩=some (.int .i64 (c.cs i)):=by
         rcases HS.out.2 with h | h;· simp only at h;omega
         · exact h
       subst he;have hac:cn<=cc:=HS.out.1;have c0:=cell_later B.out (hc j hj);have hj':(j:Int)<cn:=by omega
       obtain ⟨g,hg⟩:∃ g,gk=g+1:=⟨gk-1,by omega⟩;clear hc;cases hz:isQ (c.cs j)
       · by_cases h128:c.cs j=128
         · have HZ:Hid (isC (c.cs j)=true):=by show isC (c.cs j)=true;simp [isC,h128]
           rw [h128] at c0 hz;go_wp2_with (go_at_call 275;refine (zas _ _).mono ?_;rintro e w1 ⟨rfl,he⟩;obtain rfl:=he.symm;clear he;rw [hz]);go_roundg g;case measure=>omega
           case rel=>exact ⟨j+1,by first | rfl | simp,by omega,B,fun i hi=>by
            rcases Nat.lt_or_ge i j with h | h;· exact HD.out i h
            · obtain rfl:i=j:=by omega
              exact HZ.out⟩
         · have h128':(c.cs j != 128)=true:=by simpa using h128
           have HZ:Hid (false=qls _ c):=(HT2.out false).2 (by rw [zaP j hj (show isC (c.cs j)=false by simp [isC,hz,h128]),Bool.and_false]);go_wp2_with (go_at_call 275;refine (zas _ _).mono ?_;rintro e w1 ⟨rfl,he⟩;obtain rfl:=he.symm;clear he;rw [hz]);go_ret;exact ⟨by rw [<-HZ.out];rfl,B.out⟩
       · have HZ:Hid (isC (c.cs j)=true):=by show isC (c.cs j)=true;simp [isC,hz]
         go_wp2_with (go_at_call 275;refine (zas _ _).mono ?_;rintro e w1 ⟨rfl,he⟩;obtain rfl:=he.symm;clear he;rw [hz]);go_roundg g;case measure=>omega
         case rel=>exact ⟨j+1,by first | rfl | simp,by omega,B,fun i hi=>by
          rcases Nat.lt_or_ge i j with h | h;· exact HD.out i h
          · obtain rfl:i=j:=by omega
            exact HZ.out⟩
     · obtain rfl:j=cn:=by omega
       have hj':¬ (j:Int)<j:=by omega
       have HZ:Hid (true=qls _ c):=(HT2.out true).2 (by rw [HDA.out,(zb6 _ _).2 HD.out];rfl);go_wp2;go_ret;exact ⟨by rw [<-HZ.out];rfl,B.out⟩
open Go Go.RowKit
theorem zeV (s:ByteArray):∀ (b k:Nat),s.size<=k+b->(sgF s b k=true↔∃ i,k<=i/\i<s.size/\(atB s i=43\/atB s i=35))
 | 0,k,h=>by simp only [sgF,Bool.false_eq_true,false_iff];rintro ⟨i,h1,h2,_⟩;omega;| b+1,k,h=>by
  by_cases hk:k<s.size;·
   have hd:=dec_sg (atB s k) (atB s (k+1)) (atB s (k+2)) (atB s (k+3));rw [<-zbJ] at hd;obtain ⟨n1,n4,h1,h2,h3,h4⟩:=hd;simp only [sgF,hk,if_true];by_cases hr:(Utf8.decode s k).1=43\/(Utf8.decode s k).1=35
   · rw [if_pos hr]
     simp only [true_iff];exact ⟨k,Nat.le_refl _,hk,h1.1 hr⟩
   ·
    rw [if_neg hr,zeV s b _ (by omega)];constructor
    · rintro ⟨i,g1,g2,g3⟩
      exact ⟨i,by omega,g2,g3⟩
    ·
     rintro ⟨i,g1,g2,g3⟩;refine ⟨i,?_,g2,g3⟩;apply Classical.byContradiction;intro hn;have hc:i=k\/i=k+1\/i=k+2\/i=k+3:=by omega
     rcases hc with e | e | e | e;· subst e;exact hr (h1.2 g3)
     · subst e;have:=h2 (by omega);omega
     · subst e;have:=h3 (by omega);omega
     · subst e;have:=h4 (by omega);omega
  · simp only [sgF,hk,if_false,Bool.false_eq_true,false_iff]
    rintro ⟨i,g1,g2,_⟩;omega
theorem indexAny_iff (l:List UInt8):(0<=Lib.indexAny l [43,35])↔∃ x ∈ l,x=43\/x=35:=by
 induction l with
 | nil=>simp [Lib.indexAny];| cons a l ih =>
  have hg:=Lib.indexAny_ge [43,35] l;unfold Lib.indexAny;by_cases ha:a=43\/a=35;·
   have:([43,35]:List UInt8).contains a=true:=by rcases ha with rfl | rfl <;> decide
   rw [if_pos this];simp only [Int.le_refl,true_iff];exact ⟨a,by simp,ha⟩
  ·
   have:([43,35]:List UInt8).contains a=false:=by simp;exact ⟨fun h=>ha (.inl h),fun h=>ha (.inr h)⟩
   rw [if_neg (by rw [this];decide)];have e:(∃ x ∈ a::l,x=43\/x=35)↔∃ x ∈ l,x=43\/x=35:=by
    constructor
    · rintro ⟨x,hx,h⟩
      rcases List.mem_cons.1 hx with rfl | hx;· exact absurd h ha
      · exact ⟨x,hx,h⟩
    · rintro ⟨x,hx,h⟩
      exact ⟨x,by simp [hx],h⟩
   rw [e,<-ih];split;· rename_i h;simp at h;omega
   · rename_i h;simp at h;omega
theorem ze9 (s:ByteArray) (v:UInt8):v ∈ s.data.toList↔∃ i,i<s.size/\atB s i=v.toNat:=by
 constructor;·
  intro h;obtain ⟨i,hi,e⟩:=List.mem_iff_getElem.1 h;have hs:i<s.size:=by rw [Array.length_toList] at hi;exact hi
  refine ⟨i,hs,?_⟩;rw [zcC,List.getElem?_eq_getElem hi,Option.getD_some,e]
 ·
  rintro ⟨i,hi,e⟩;have hi':i<s.data.toList.length:=by rw [Array.length_toList];exact hi
  rw [zcC,List.getElem?_eq_getElem hi',Option.getD_some] at e;have:s.data.toList[i]=v:=UInt8.toNat_inj.1 e;rw [<-this];exact List.getElem_mem _
theorem zeY (s:ByteArray):sgn s=hasS s:=by
 refine Bool.eq_iff_iff.2 ?_;unfold hasS;rw [zcY];unfold sgn;split;·
  rw [decide_eq_true_eq,indexAny_iff];constructor;·
   rintro ⟨x,hx,h⟩;obtain ⟨i,h1,h2⟩:=(ze9 s x).1 hx;refine ⟨i,h1,?_⟩;rcases h with rfl | rfl;· exact .inl h2
   · exact .inr h2
  · rintro ⟨i,h1,h2 | h2⟩
    · exact ⟨43,(ze9 s 43).2 ⟨i,h1,h2⟩,.inl rfl⟩
    · exact ⟨35,(ze9 s 35).2 ⟨i,h1,h2⟩,.inr rfl⟩
 ·
  rw [zeV s s.size 0 (by omega)];constructor;· rintro ⟨i,_,h1,h2⟩;exact ⟨i,h1,h2⟩
  · rintro ⟨i,h1,h2⟩;exact ⟨i,Nat.zero_le _,h1,h2⟩
theorem zaO (s:ByteArray) (hs:s.size<=1000000) (w:World):Calls Tryz.prog 269 #[.string s] w fun e w'=>e = .returned (.bool (hasS s))/\w'=w:=by
 have HS:=Hi hs;clear hs;obtain ⟨x,hx⟩:∃ x,x=hasS s:=⟨_,rfl⟩;rw [<-hx];have HX:=Hi hx;clear hx;go_enter Tryz.func269,Tryz.ntmps269;go_wp2_with fail;go_loopg [3] s.size (fun g s3 wx=>wx=w/\∃ k:Nat,k<=s.size/\g=s.size-k/\s3 = .int .i64 k/\Hid (hsN s k=false));case atStart=>exact ⟨rfl,0,Nat.zero_le _,rfl,rfl,rfl⟩
 case round =>
  obtain ⟨hw0,k,hk,rfl,rfl,HC⟩:=hrel;obtain rfl:=hw0.symm;clear hw0;by_cases hlt:k<s.size;·
   have hlt':(k:Int)<s.size:=by omega
   have HA:=Hi (atB_in s k hlt);have hw:IntKind.i64.wrap ((k:Int)+1)=(k:Int)+1:=by rw [IntKind.wrap_i64];have:=HS.out;omega
   by_cases h1:(s[k]'hlt).toNat=43;·
    have h1':(((s[k]'hlt).toNat:Int)==43)=true:=by simp [h1]
    have HR:Hid (x=true):=by show _=_;rw [HX.out];exact (zcY s _).2 ⟨k,hlt,.inl (by rw [HA.out];exact h1)⟩
    clear h1;go_wp2;go_ret;exact ⟨by rw [HR.out];rfl,rfl⟩
   have h1':(((s[k]'hlt).toNat:Int)==43)=false:=by simp;omega
   by_cases h2:(s[k]'hlt).toNat=35;·
    have h2':(((s[k]'hlt).toNat:Int)==35)=true:=by simp [h2]
    have HR:Hid (x=true):=by show _=_;rw [HX.out];exact (zcY s _).2 ⟨k,hlt,.inr (by rw [HA.out];exact h2)⟩
    clear h1 h2;go_wp2;go_ret;exact ⟨by rw [HR.out];rfl,rfl⟩
   have h2':(((s[k]'hlt).toNat:Int)==35)=false:=by simp;omega
   have HN:Hid (hsN s (k+1)=false):=by
    show _=_;have e1:(atB s k==43)=false:=by rw [HA.out];simp;exact h1
    have e2:(atB s k==35)=false:=by rw [HA.out];simp;exact h2
    simp [hsN,HC.out,e1,e2]
   clear h1 h2;go_wp2;go_roundg (s.size-(k+1));case measure=>omega
   case rel=>exact ⟨rfl,k+1,by omega,by omega,by first | rfl | simp,HN⟩
  ·
   obtain rfl:k=s.size:=by omega
   have hlt':¬ (s.size:Int)<s.size:=by omega
   have HR:Hid (x=false):=by show _=_;rw [HX.out];exact HC.out
   go_wp2;go_ret;exact ⟨by rw [HR.out];rfl,rfl⟩
theorem zb7 (s:ByteArray) (w:World):Calls Tryz.prog 224 #[.string s] w fun e w'=>e = .returned (.int .i64 (tcode s))/\w'=w:=by
 by_cases h0:s.size=0;·
  have e:tcode s=50:=by simp [tcode,ct,h0]
  have h0':((s.size:Int)==0)=true:=by rw [h0];rfl
  rw [e];clear e h0;go_enter Tryz.func224,Tryz.ntmps224;go_wp2;go_ret;exact ⟨rfl,rfl⟩
 have h0':((s.size:Int)==0)=false:=by rw [beq_eq_false_iff_ne];omega
 cases ht:txt s with
 | false =>
  have e:tcode s=51:=by simp [tcode,ct,h0,ht]
  rw [e];clear e h0;go_enter Tryz.func224,Tryz.ntmps224;go_wp2_with (go_at_call 147;refine (zaL s _).mono ?_;rintro e w' ⟨rfl,hee⟩;obtain rfl:=hee.symm;clear hee;rw [ht]);go_ret;exact ⟨rfl,rfl⟩
 | true =>
  have hs:s.size<=1000000:=by have:=zds ht;omega
  have HS:=Hi hs;clear hs;cases hg:hasS s with
  | true =>
   have e:tcode s=52:=by simp [tcode,ct,h0,ht,zeY,hg]
   rw [e];clear e h0;go_enter Tryz.func224,Tryz.ntmps224;go_wp2_with (first | (go_at_call 147;refine (zaL s _).mono ?_;rintro e w' ⟨rfl,hee⟩;obtain rfl:=hee.symm;clear hee;rw [ht])|(go_at_call 269;refine (zaO s HS.out _).mono ?_;rintro e w' ⟨rfl,hee⟩;obtain rfl:=hee.symm;clear hee;rw [hg]));go_ret;exact ⟨rfl,rfl⟩
  | false =>
   have e:tcode s=0:=by simp [tcode,ct,h0,ht,zeY,hg]
   rw [e];clear e h0;go_enter Tryz.func224,Tryz.ntmps224;go_wp2_with (first | (go_at_call 147;refine (zaL s _).mono ?_;rintro e w' ⟨rfl,hee⟩;obtain rfl:=hee.symm;clear hee;rw [ht])|(go_at_call 269;refine (zaO s HS.out _).mono ?_;rintro e w' ⟨rfl,hee⟩;obtain rfl:=hee.symm;clear hee;rw [hg]));go_ret;exact ⟨rfl,rfl⟩
set_option maxHeartbeats 2000000
theorem levels_any (s:ByteArray) (hs:s.size<=65535) (w:World):Calls Tryz.prog 270 #[.string s] w fun e w'=>∃ v,e = .returned v/\w'.ownsRow w.heap.size 9 1 v (levels s).length ((levels s).map Value.string)/\Below w.heap.size w w':=by
 obtain ⟨i0,hi,hz0,hz1,hz2⟩:∃ i0,Tryz.prog.info? 9=some i0/\i0.zero=some (.string ⟨#[]⟩)/\i0.size=1/\i0.bytes=16:=⟨_,rfl,rfl,rfl,rfl⟩;have HS:=Hi hs;have HT:Hid (levels s=[]++lvs s s.size 0 0):=rfl;clear hs;go_enter Tryz.func270,Tryz.ntmps270;go_wp2_with fail;go_loopg [3,4,5] s.size (fun g s3 s4 s5 wx=>∃ (f i b:Nat) (xs:List ByteArray),f<=i/\i<=s.size/\g=s.size-i/\s4 = .int .i64 f/\s5 = .int .i64 i/\Hid (wx.ownsRow w.heap.size 9 1 s3 xs.length (xs.map Value.string))/\Hid (Below w.heap.size w wx)/\Hid (levels s=xs++lvs s b f i)/\Hid (s.size<=i+b)/\Hid (xs.length<=i));case atStart=>exact ⟨0,0,s.size,[],Nat.le_refl _,Nat.zero_le _,rfl,rfl,rfl,World.ownsRow_nil _ _ _ _,Below.refl _ _,HT,by show _<=_;omega,Nat.le_refl _⟩
 case round =>
  obtain ⟨f,i,b,xs,hfi,hisz,rfl,rfl,rfl,HO,HB,HL,HF,HN⟩:=hrel;by_cases hlt:i<s.size;·
   have hlt':(i:Int)<s.size:=by omega
   have HA:=Hi (atB_in s i hlt);have hw:IntKind.i64.wrap ((i:Int)+1)=(i:Int)+1:=by rw [IntKind.wrap_i64];have:=HS.out;omega
   by_cases h47:(s[i]'hlt).toNat=47;·
    have h47':(((s[i]'hlt).toNat:Int)==47)=true:=by simp [h47]
    have HC:Hid (atB s i=47):=by show _=_;rw [HA.out];exact h47
    have hfi':(f:Int)<=i:=by omega
    have hisz':(i:Int)<=s.size:=by omega
    clear h47;go_wp2_with (at_builtin;refine wpList_append_own _ rfl (.tmp 16) (.tmp 21) 27 rfl w.heap.size 9 i0 (.string ⟨#[]⟩) 1 16 Tryz.underlying27 hi hz0 hz1 hz2 rfl (by decide) _ _ _ rfl (HO.out.alloc _) ⟨_,0,none⟩ 1 1 [.string (s.extract f i)] rfl rfl ?d1 ?d2 ?d3 ?d4 ?d5 ?_);case d1=>exact cell_one_new _ _ _
    case d2=>intro u hu;simp at hu;subst hu;rfl
    case d3=>have:=HN.out;have:=HS.out;unfold maxLen;omega
    case d4=>have:=HN.out;have:=HS.out;omega
    case d5=>have:=HB.out.size;simp;omega
    intro v2 w2 hown2 hgrow2 hnil2;have hb2:=(HB.out.alloc HB.out.size _).grown hgrow2 (by have:=HB.out.size;simp;omega) (by intro q hq;exact (HO.out.lt _ hq).1);obtain ⟨b',e1,e2⟩:=zf5 s b f i hlt HF.out HC.out;have HO2:Hid (w2.ownsRow w.heap.size 9 1 v2 (xs++[s.extract f i]).length ((xs++[s.extract f i]).map Value.string)):=by show World.ownsRow _ _ _ _ _ _ _;simpa using hown2
    have HB2:=Hi hb2;have HL2:Hid (levels s=(xs++[s.extract f i])++lvs s b' (i+1) (i+1)):=by show _=_;rw [HL.out,e1];simp
    have HF2:=Hi e2;have HN2:Hid ((xs++[s.extract f i]).length<=i+1):=by show _<=_;have:=HN.out;simp;omega
    clear hown2 hgrow2 hnil2 hb2 e1 e2;go_wp2;go_roundg (s.size-(i+1));case measure=>omega
    case rel=>exact ⟨i+1,i+1,b',xs++[s.extract f i],Nat.le_refl _,by omega,by omega,by first | rfl | simp,by first | rfl | simp,HO2,HB2,HL2,HF2,HN2⟩
   ·
    have h47':(((s[i]'hlt).toNat:Int)==47)=false:=by simp;omega
    obtain ⟨b',e1,e2⟩:=lvs_on s b f i hlt HF.out (by rw [HA.out];exact h47);have HL2:Hid (levels s=xs++lvs s b' f (i+1)):=by show _=_;rw [HL.out,e1]
    have HF2:=Hi e2;have HN2:=Hi (Nat.le_succ_of_le HN.out);clear h47 e1 e2;go_wp2;go_roundg (s.size-(i+1));case measure=>omega
    case rel=>exact ⟨f,i+1,b',xs,by omega,by omega,by omega,rfl,by first | rfl | simp,HO,HB,HL2,HF2,HN2⟩
  ·
   obtain rfl:i=s.size:=by omega
   have hlt':¬ (s.size:Int)<s.size:=by omega
   have hfi':(f:Int)<=s.size:=by omega
   have HE:Hid (levels s=xs++[s.extract f s.size]):=by show _=_;rw [HL.out,zff s b f _ hlt]
   go_wp2_with (at_builtin;refine wpList_append_own _ rfl (.tmp 25) (.tmp 29) 27 rfl w.heap.size 9 i0 (.string ⟨#[]⟩) 1 16 Tryz.underlying27 hi hz0 hz1 hz2 rfl (by decide) _ _ _ rfl (HO.out.alloc _) ⟨_,0,none⟩ 1 1 [.string (s.extract f s.size)] rfl rfl (cell_one_new _ _ _) ?x2 ?x3 ?x4 ?x5 ?_);any_goals first | rfl | (intro u hu;simp at hu;subst hu;rfl;done)|(have:=HN.out;have:=HS.out;unfold maxLen;omega;done)|(have:=HN.out;have:=HS.out;omega;done)|(have:=HB.out.size;simp;omega;done)
   intro v2 w2 hown2 hgrow2 hnil2;have hb2:=(HB.out.alloc HB.out.size _).grown hgrow2 (by have:=HB.out.size;simp;omega) (by intro q hq;exact (HO.out.lt _ hq).1);have HO2:Hid (w2.ownsRow w.heap.size 9 1 v2 (levels s).length ((levels s).map Value.string)):=by show World.ownsRow _ _ _ _ _ _ _;rw [HE.out];simpa using hown2
   have HB2:=Hi hb2;clear hown2 hgrow2 hnil2 hb2;go_wp2;go_ret;exact ⟨v2,rfl,HO2.out,HB2.out⟩
end Go.Proofs.YtceigllifjgalaaGreatDoor.Pkt
