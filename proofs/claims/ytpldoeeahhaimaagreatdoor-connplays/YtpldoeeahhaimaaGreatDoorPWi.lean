import Derived.Test.YtpldoeeahhaimaaGreatDoorPWj
namespace Go.Proofs.YtpldoeeahhaimaaGreatDoor.Pkt
open Go Go.RowKit Go.Sort
set_option linter.unusedSimpArgs false
set_option linter.unusedVariables false
set_option maxRecDepth 100000
set_option maxHeartbeats 1000000
variable {w:World}
theorem size_one (p:Pk) (c:Cn) (h:Small p c) (hin:In w p c) (hk:p.kind=1) (HK:Hid (KindsAt w)):Calls Tryz.prog 110 #[p.v] w fun e w'=>e = .returned (.int .i64 (sz p c))∧Below w.heap.size w w':=by
 have HF:Hid (∀ w',Below w.heap.size w w'→Calls Tryz.prog 104 #[p.v] w' fun e w''=>e = .returned (.int .i64 (fl p))∧Below w'.heap.size w' w''):=fun w' hb=>fields_any p w' (HK.out.below hb) (by omega) (by omega)
 have HC:Hid (∀ w',Calls Tryz.prog 137 #[p.v] w' fun e w''=>e = .returned (.int .i64 (szc p))∧Below w'.heap.size w' w''):=fun w'=>sizeOfConnect_any p c h w'
 have hz:bits .and .i64 (fl p:Int) 16384=((fl p &&& 16384:Nat):Int):=bits_and _ _ (by have:=fl_lt p;omega) (by decide)
 have hi:=fl_id p (by omega) (by omega)
 rw [show hasID p=false by simp [hasID,hk]] at hi
 have hz2:(bits .and .i64 (fl p:Int) 16384 != 0)=false:=by rw [hz];simpa using hi
 rw [show sz p c=szc p by simp [sz,hk]]
 clear h hz hi hin
 obtain ⟨kind,level,clean,keep,client,hasWill,wT,wP,wQ,wR,hasUser,user,hasPass,pass,present,code,dup,mT,mP,mQ,mR,id,asks,codes,filters⟩:=p
 obtain ⟨wPa,wPn,wPc⟩:=wP
 obtain ⟨pa,pn,pc⟩:=pass
 obtain ⟨ma,mn,mc⟩:=mP
 obtain ⟨aa,an,ac⟩:=asks
 obtain ⟨ca,cn,cc⟩:=codes
 obtain ⟨fa,fn,fc⟩:=filters
 simp only at hk
 subst hk
 simp only [Pk.v,Sl.v] at HF HC ⊢
 go_enter Tryz.func110,Tryz.ntmps110
 go_wp2_with (refine wpList_load_row rfl 39 _ rfl w.heap.size rfl 39 _ (0,0) _ (heap_alloc_new w _) Tryz.underlying39 rfl (by kernel_rfl) ?_)
 go_must (go_at_call 104)
 have b0:Below w.heap.size w (w.alloc (Obj.cells #[.int .i64 1,.int .i64 level,.bool clean,.int .i64 keep,.string client,.bool hasWill,.string wT,.slice wPa wPn wPc,.int .i64 wQ,.bool wR,.bool hasUser,.string user,.bool hasPass,.slice pa pn pc,.bool present,.int .i64 code,.bool dup,.string mT,.slice ma mn mc,.int .i64 mQ,.bool mR,.int .i64 id,.slice aa an ac,.slice ca cn cc,.slice fa fn fc] 39)):=(Below.refl _ _).alloc (Nat.le_refl _) _
 refine (HF.out _ b0).mono ?_
 rintro e w1 ⟨rfl,hb1⟩
 have G1:Hid (w1.heap[w.heap.size]?=some (.cells #[.int .i64 1,.int .i64 level,.bool clean,.int .i64 keep,.string client,.bool hasWill,.string wT,.slice wPa wPn wPc,.int .i64 wQ,.bool wR,.bool hasUser,.string user,.bool hasPass,.slice pa pn pc,.bool present,.int .i64 code,.bool dup,.string mT,.slice ma mn mc,.int .i64 mQ,.bool mR,.int .i64 id,.slice aa an ac,.slice ca cn cc,.slice fa fn fc] 39)):=(hb1.block _ (by show w.heap.size<(w.heap.push _).size;simp)).trans (heap_alloc_new w _)
 have q0:=cell_later hb1 (box_cell w _ _ 0 _ rfl)
 have q17:=cell_later hb1 (box_cell w _ _ 17 _ rfl)
 have q18:=cell_later hb1 (box_cell w _ _ 18 _ rfl)
 have q22:=cell_later hb1 (box_cell w _ _ 22 _ rfl)
 have q23:=cell_later hb1 (box_cell w _ _ 23 _ rfl)
 have q24:=cell_later hb1 (box_cell w _ _ 24 _ rfl)
 have B1:Hid (Below w.heap.size w w1):=b0.trans (hb1.mono b0.size)
 clear hb1 b0
 go_wp2_with (refine wpList_load_row rfl 39 _ rfl w.heap.size rfl 39 _ (0,0) _ G1.out Tryz.underlying39 rfl (by kernel_rfl) ?_)
 go_must (go_at_call 137)
 refine (HC.out _).mono ?_
 rintro e w2 ⟨rfl,hb2⟩
 have B2:Hid (Below w.heap.size w w2):=B1.out.trans (hb2.mono B1.out.size)
 clear hb2
 go_wp2
 go_ret
 exact ⟨rfl,B2.out⟩
theorem size_two (p:Pk) (c:Cn) (h:Small p c) (hin:In w p c) (hk:p.kind=2) (HK:Hid (KindsAt w)):Calls Tryz.prog 110 #[p.v] w fun e w'=>e = .returned (.int .i64 (sz p c))∧Below w.heap.size w w':=by
 have HF:Hid (∀ w',Below w.heap.size w w'→Calls Tryz.prog 104 #[p.v] w' fun e w''=>e = .returned (.int .i64 (fl p))∧Below w'.heap.size w' w''):=fun w' hb=>fields_any p w' (HK.out.below hb) (by omega) (by omega)
 have HC:Hid (∀ w',Calls Tryz.prog 137 #[p.v] w' fun e w''=>e = .returned (.int .i64 (szc p))∧Below w'.heap.size w' w''):=fun w'=>sizeOfConnect_any p c h w'
 have hz:bits .and .i64 (fl p:Int) 16384=((fl p &&& 16384:Nat):Int):=bits_and _ _ (by have:=fl_lt p;omega) (by decide)
 have hi:=fl_id p (by omega) (by omega)
 rw [show hasID p=false by simp [hasID,hk]] at hi
 have hz2:(bits .and .i64 (fl p:Int) 16384 != 0)=false:=by rw [hz];simpa using hi
 rw [show sz p c=2 by simp [sz,hk]]
 clear h hz hi hin
 obtain ⟨kind,level,clean,keep,client,hasWill,wT,wP,wQ,wR,hasUser,user,hasPass,pass,present,code,dup,mT,mP,mQ,mR,id,asks,codes,filters⟩:=p
 obtain ⟨wPa,wPn,wPc⟩:=wP
 obtain ⟨pa,pn,pc⟩:=pass
 obtain ⟨ma,mn,mc⟩:=mP
 obtain ⟨aa,an,ac⟩:=asks
 obtain ⟨ca,cn,cc⟩:=codes
 obtain ⟨fa,fn,fc⟩:=filters
 simp only at hk
 subst hk
 simp only [Pk.v,Sl.v] at HF HC ⊢
 go_enter Tryz.func110,Tryz.ntmps110
 go_wp2_with (refine wpList_load_row rfl 39 _ rfl w.heap.size rfl 39 _ (0,0) _ (heap_alloc_new w _) Tryz.underlying39 rfl (by kernel_rfl) ?_)
 go_must (go_at_call 104)
 have b0:Below w.heap.size w (w.alloc (Obj.cells #[.int .i64 2,.int .i64 level,.bool clean,.int .i64 keep,.string client,.bool hasWill,.string wT,.slice wPa wPn wPc,.int .i64 wQ,.bool wR,.bool hasUser,.string user,.bool hasPass,.slice pa pn pc,.bool present,.int .i64 code,.bool dup,.string mT,.slice ma mn mc,.int .i64 mQ,.bool mR,.int .i64 id,.slice aa an ac,.slice ca cn cc,.slice fa fn fc] 39)):=(Below.refl _ _).alloc (Nat.le_refl _) _
 refine (HF.out _ b0).mono ?_
 rintro e w1 ⟨rfl,hb1⟩
 have G1:Hid (w1.heap[w.heap.size]?=some (.cells #[.int .i64 2,.int .i64 level,.bool clean,.int .i64 keep,.string client,.bool hasWill,.string wT,.slice wPa wPn wPc,.int .i64 wQ,.bool wR,.bool hasUser,.string user,.bool hasPass,.slice pa pn pc,.bool present,.int .i64 code,.bool dup,.string mT,.slice ma mn mc,.int .i64 mQ,.bool mR,.int .i64 id,.slice aa an ac,.slice ca cn cc,.slice fa fn fc] 39)):=(hb1.block _ (by show w.heap.size<(w.heap.push _).size;simp)).trans (heap_alloc_new w _)
 have q0:=cell_later hb1 (box_cell w _ _ 0 _ rfl)
 have q17:=cell_later hb1 (box_cell w _ _ 17 _ rfl)
 have q18:=cell_later hb1 (box_cell w _ _ 18 _ rfl)
 have q22:=cell_later hb1 (box_cell w _ _ 22 _ rfl)
 have q23:=cell_later hb1 (box_cell w _ _ 23 _ rfl)
 have q24:=cell_later hb1 (box_cell w _ _ 24 _ rfl)
 have B1:Hid (Below w.heap.size w w1):=b0.trans (hb1.mono b0.size)
 clear hb1 b0
 go_wp2
 go_ret
 exact ⟨rfl,B1.out⟩
theorem size_three_id (p:Pk) (c:Cn) (h:Small p c) (hin:In w p c) (hk:p.kind=3) (hid:hasID p=true) (HK:Hid (KindsAt w)):Calls Tryz.prog 110 #[p.v] w fun e w'=>e = .returned (.int .i64 (sz p c))∧Below w.heap.size w w':=by
 have HF:Hid (∀ w',Below w.heap.size w w'→Calls Tryz.prog 104 #[p.v] w' fun e w''=>e = .returned (.int .i64 (fl p))∧Below w'.heap.size w' w''):=fun w' hb=>fields_any p w' (HK.out.below hb) (by omega) (by omega)
 have HC:Hid (∀ w',Calls Tryz.prog 137 #[p.v] w' fun e w''=>e = .returned (.int .i64 (szc p))∧Below w'.heap.size w' w''):=fun w'=>sizeOfConnect_any p c h w'
 have hz:bits .and .i64 (fl p:Int) 16384=((fl p &&& 16384:Nat):Int):=bits_and _ _ (by have:=fl_lt p;omega) (by decide)
 have hi:=fl_id p (by omega) (by omega)
 rw [hid] at hi
 have hz2:(bits .and .i64 (fl p:Int) 16384 != 0)=true:=by rw [hz];simpa using hi
 have HS:Hid ((((2:Int)+2+p.mT.size+p.mP.n))=(sz p c:Int)):=by
  show _=_
  simp [sz,hk,nid,hid]
 have h4:=h.mt
 have h7:=h.mp
 clear h hz hi hin hid
 obtain ⟨kind,level,clean,keep,client,hasWill,wT,wP,wQ,wR,hasUser,user,hasPass,pass,present,code,dup,mT,mP,mQ,mR,id,asks,codes,filters⟩:=p
 obtain ⟨wPa,wPn,wPc⟩:=wP
 obtain ⟨pa,pn,pc⟩:=pass
 obtain ⟨ma,mn,mc⟩:=mP
 obtain ⟨aa,an,ac⟩:=asks
 obtain ⟨ca,cn,cc⟩:=codes
 obtain ⟨fa,fn,fc⟩:=filters
 simp only at hk h4 h7
 subst hk
 simp only [Pk.v,Sl.v] at HF HC ⊢
 simp only at HS
 go_enter Tryz.func110,Tryz.ntmps110
 go_wp2_with (refine wpList_load_row rfl 39 _ rfl w.heap.size rfl 39 _ (0,0) _ (heap_alloc_new w _) Tryz.underlying39 rfl (by kernel_rfl) ?_)
 go_must (go_at_call 104)
 have b0:Below w.heap.size w (w.alloc (Obj.cells #[.int .i64 3,.int .i64 level,.bool clean,.int .i64 keep,.string client,.bool hasWill,.string wT,.slice wPa wPn wPc,.int .i64 wQ,.bool wR,.bool hasUser,.string user,.bool hasPass,.slice pa pn pc,.bool present,.int .i64 code,.bool dup,.string mT,.slice ma mn mc,.int .i64 mQ,.bool mR,.int .i64 id,.slice aa an ac,.slice ca cn cc,.slice fa fn fc] 39)):=(Below.refl _ _).alloc (Nat.le_refl _) _
 refine (HF.out _ b0).mono ?_
 rintro e w1 ⟨rfl,hb1⟩
 have G1:Hid (w1.heap[w.heap.size]?=some (.cells #[.int .i64 3,.int .i64 level,.bool clean,.int .i64 keep,.string client,.bool hasWill,.string wT,.slice wPa wPn wPc,.int .i64 wQ,.bool wR,.bool hasUser,.string user,.bool hasPass,.slice pa pn pc,.bool present,.int .i64 code,.bool dup,.string mT,.slice ma mn mc,.int .i64 mQ,.bool mR,.int .i64 id,.slice aa an ac,.slice ca cn cc,.slice fa fn fc] 39)):=(hb1.block _ (by show w.heap.size<(w.heap.push _).size;simp)).trans (heap_alloc_new w _)
 have q0:=cell_later hb1 (box_cell w _ _ 0 _ rfl)
 have q17:=cell_later hb1 (box_cell w _ _ 17 _ rfl)
 have q18:=cell_later hb1 (box_cell w _ _ 18 _ rfl)
 have q22:=cell_later hb1 (box_cell w _ _ 22 _ rfl)
 have q23:=cell_later hb1 (box_cell w _ _ 23 _ rfl)
 have q24:=cell_later hb1 (box_cell w _ _ 24 _ rfl)
 have B1:Hid (Below w.heap.size w w1):=b0.trans (hb1.mono b0.size)
 clear hb1 b0
 go_wp2
 go_ret
 refine ⟨congrArg (fun x=>Ending.returned (Value.int .i64 x)) ?_,B1.out⟩
 rw [← HS.out]
 first | rfl | (simp;done)|(simp;omega)
theorem size_three (p:Pk) (c:Cn) (h:Small p c) (hin:In w p c) (hk:p.kind=3) (hid:hasID p=false) (HK:Hid (KindsAt w)):Calls Tryz.prog 110 #[p.v] w fun e w'=>e = .returned (.int .i64 (sz p c))∧Below w.heap.size w w':=by
 have HF:Hid (∀ w',Below w.heap.size w w'→Calls Tryz.prog 104 #[p.v] w' fun e w''=>e = .returned (.int .i64 (fl p))∧Below w'.heap.size w' w''):=fun w' hb=>fields_any p w' (HK.out.below hb) (by omega) (by omega)
 have HC:Hid (∀ w',Calls Tryz.prog 137 #[p.v] w' fun e w''=>e = .returned (.int .i64 (szc p))∧Below w'.heap.size w' w''):=fun w'=>sizeOfConnect_any p c h w'
 have hz:bits .and .i64 (fl p:Int) 16384=((fl p &&& 16384:Nat):Int):=bits_and _ _ (by have:=fl_lt p;omega) (by decide)
 have hi:=fl_id p (by omega) (by omega)
 rw [hid] at hi
 have hz2:(bits .and .i64 (fl p:Int) 16384 != 0)=false:=by rw [hz];simpa using hi
 have HS:Hid ((((0:Int)+2+p.mT.size+p.mP.n))=(sz p c:Int)):=by
  show _=_
  simp [sz,hk,nid,hid]
 have h4:=h.mt
 have h7:=h.mp
 clear h hz hi hin hid
 obtain ⟨kind,level,clean,keep,client,hasWill,wT,wP,wQ,wR,hasUser,user,hasPass,pass,present,code,dup,mT,mP,mQ,mR,id,asks,codes,filters⟩:=p
 obtain ⟨wPa,wPn,wPc⟩:=wP
 obtain ⟨pa,pn,pc⟩:=pass
 obtain ⟨ma,mn,mc⟩:=mP
 obtain ⟨aa,an,ac⟩:=asks
 obtain ⟨ca,cn,cc⟩:=codes
 obtain ⟨fa,fn,fc⟩:=filters
 simp only at hk h4 h7
 subst hk
 simp only [Pk.v,Sl.v] at HF HC ⊢
 simp only at HS
 go_enter Tryz.func110,Tryz.ntmps110
 go_wp2_with (refine wpList_load_row rfl 39 _ rfl w.heap.size rfl 39 _ (0,0) _ (heap_alloc_new w _) Tryz.underlying39 rfl (by kernel_rfl) ?_)
 go_must (go_at_call 104)
 have b0:Below w.heap.size w (w.alloc (Obj.cells #[.int .i64 3,.int .i64 level,.bool clean,.int .i64 keep,.string client,.bool hasWill,.string wT,.slice wPa wPn wPc,.int .i64 wQ,.bool wR,.bool hasUser,.string user,.bool hasPass,.slice pa pn pc,.bool present,.int .i64 code,.bool dup,.string mT,.slice ma mn mc,.int .i64 mQ,.bool mR,.int .i64 id,.slice aa an ac,.slice ca cn cc,.slice fa fn fc] 39)):=(Below.refl _ _).alloc (Nat.le_refl _) _
 refine (HF.out _ b0).mono ?_
 rintro e w1 ⟨rfl,hb1⟩
 have G1:Hid (w1.heap[w.heap.size]?=some (.cells #[.int .i64 3,.int .i64 level,.bool clean,.int .i64 keep,.string client,.bool hasWill,.string wT,.slice wPa wPn wPc,.int .i64 wQ,.bool wR,.bool hasUser,.string user,.bool hasPass,.slice pa pn pc,.bool present,.int .i64 code,.bool dup,.string mT,.slice ma mn mc,.int .i64 mQ,.bool mR,.int .i64 id,.slice aa an ac,.slice ca cn cc,.slice fa fn fc] 39)):=(hb1.block _ (by show w.heap.size<(w.heap.push _).size;simp)).trans (heap_alloc_new w _)
 have q0:=cell_later hb1 (box_cell w _ _ 0 _ rfl)
 have q17:=cell_later hb1 (box_cell w _ _ 17 _ rfl)
 have q18:=cell_later hb1 (box_cell w _ _ 18 _ rfl)
 have q22:=cell_later hb1 (box_cell w _ _ 22 _ rfl)
 have q23:=cell_later hb1 (box_cell w _ _ 23 _ rfl)
 have q24:=cell_later hb1 (box_cell w _ _ 24 _ rfl)
 have B1:Hid (Below w.heap.size w w1):=b0.trans (hb1.mono b0.size)
 clear hb1 b0
 go_wp2
 go_ret
 refine ⟨congrArg (fun x=>Ending.returned (Value.int .i64 x)) ?_,B1.out⟩
 rw [← HS.out]
 first | rfl | (simp;done)|(simp;omega)
theorem size_more_id (p:Pk) (c:Cn) (h:Small p c) (hin:In w p c) (hk:4≤p.kind) (hk2:p.kind≤14) (hid:hasID p=true) (HK:Hid (KindsAt w)):Calls Tryz.prog 110 #[p.v] w fun e w'=>e = .returned (.int .i64 (sz p c))∧Below w.heap.size w w':=by
 have HF:Hid (∀ w',Below w.heap.size w w'→Calls Tryz.prog 104 #[p.v] w' fun e w''=>e = .returned (.int .i64 (fl p))∧Below w'.heap.size w' w''):=fun w' hb=>fields_any p w' (HK.out.below hb) (by omega) (by omega)
 have HC:Hid (∀ w',Calls Tryz.prog 137 #[p.v] w' fun e w''=>e = .returned (.int .i64 (szc p))∧Below w'.heap.size w' w''):=fun w'=>sizeOfConnect_any p c h w'
 have hz:bits .and .i64 (fl p:Int) 16384=((fl p &&& 16384:Nat):Int):=bits_and _ _ (by have:=fl_lt p;omega) (by decide)
 have hi:=fl_id p (by omega) (by omega)
 rw [hid] at hi
 have hz2:(bits .and .i64 (fl p:Int) 16384 != 0)=true:=by rw [hz];simpa using hi
 have HS:Hid (((2:Nat)+sumN (fun i=>3+(c.af i).size) p.asks.n+sumN (fun i=>2+(c.fs i).size) p.filters.n+p.codes.n)=sz p c):=by
  show _=_
  have k1:¬ p.kind=1:=by omega
  have k2:¬ p.kind=2:=by omega
  have k3:¬ p.kind=3:=by omega
  simp [sz,k1,k2,k3,nid,hid]
 have HA:Hid (As w p.asks c.af c.aq):=hin.asks
 have HT:Hid (Ss w p.filters c.fs):=hin.filters
 have s1:=h.an
 have s2:=h.fn
 have s3:=h.cn
 have s4:=h.sa
 have s5:=h.sf
 clear h hz hi hin hid
 obtain ⟨kind,level,clean,keep,client,hasWill,wT,wP,wQ,wR,hasUser,user,hasPass,pass,present,code,dup,mT,mP,mQ,mR,id,asks,codes,filters⟩:=p
 obtain ⟨wPa,wPn,wPc⟩:=wP
 obtain ⟨pa,pn,pc⟩:=pass
 obtain ⟨ma,mn,mc⟩:=mP
 obtain ⟨aa,an,ac⟩:=asks
 obtain ⟨ca,cn,cc⟩:=codes
 obtain ⟨fa,fn,fc⟩:=filters
 simp only at hk hk2 s1 s2 s3 s4 s5
 simp only [Pk.v,Sl.v] at HF HC ⊢
 simp only at HS
 have k1:(kind==1)=false:=by simp;omega
 have k2:(kind==2)=false:=by simp;omega
 have k3:(kind==3)=false:=by simp;omega
 have S4:Hid (sumN (fun i=>3+(c.af i).size) an≤100000000):=s4
 have S5:Hid (sumN (fun i=>2+(c.fs i).size) fn≤100000000):=s5
 have S6:Hid (cn≤1000000):=s3
 clear s4 s5 s3
 go_enter Tryz.func110,Tryz.ntmps110
 go_wp2_with (refine wpList_load_row rfl 39 _ rfl w.heap.size rfl 39 _ (0,0) _ (heap_alloc_new w _) Tryz.underlying39 rfl (by kernel_rfl) ?_)
 go_must (go_at_call 104)
 have b0:Below w.heap.size w (w.alloc (Obj.cells #[.int .i64 kind,.int .i64 level,.bool clean,.int .i64 keep,.string client,.bool hasWill,.string wT,.slice wPa wPn wPc,.int .i64 wQ,.bool wR,.bool hasUser,.string user,.bool hasPass,.slice pa pn pc,.bool present,.int .i64 code,.bool dup,.string mT,.slice ma mn mc,.int .i64 mQ,.bool mR,.int .i64 id,.slice aa an ac,.slice ca cn cc,.slice fa fn fc] 39)):=(Below.refl _ _).alloc (Nat.le_refl _) _
 refine (HF.out _ b0).mono ?_
 rintro e w1 ⟨rfl,hb1⟩
 have G1:Hid (w1.heap[w.heap.size]?=some (.cells #[.int .i64 kind,.int .i64 level,.bool clean,.int .i64 keep,.string client,.bool hasWill,.string wT,.slice wPa wPn wPc,.int .i64 wQ,.bool wR,.bool hasUser,.string user,.bool hasPass,.slice pa pn pc,.bool present,.int .i64 code,.bool dup,.string mT,.slice ma mn mc,.int .i64 mQ,.bool mR,.int .i64 id,.slice aa an ac,.slice ca cn cc,.slice fa fn fc] 39)):=(hb1.block _ (by show w.heap.size<(w.heap.push _).size;simp)).trans (heap_alloc_new w _)
 have q0:=cell_later hb1 (box_cell w _ _ 0 _ rfl)
 have q17:=cell_later hb1 (box_cell w _ _ 17 _ rfl)
 have q18:=cell_later hb1 (box_cell w _ _ 18 _ rfl)
 have q22:=cell_later hb1 (box_cell w _ _ 22 _ rfl)
 have q23:=cell_later hb1 (box_cell w _ _ 23 _ rfl)
 have q24:=cell_later hb1 (box_cell w _ _ 24 _ rfl)
 have B1:Hid (Below w.heap.size w w1):=b0.trans (hb1.mono b0.size)
 clear hb1 b0
 go_wp2_with fail
 obtain ⟨wz,hwz⟩:∃ wz,wz=w1:=⟨_,rfl⟩
 have Q23:Hid (w1.cell? ⟨w.heap.size,23,none⟩=some (.slice ca cn cc)):=q23
 have Q24:Hid (w1.cell? ⟨w.heap.size,24,none⟩=some (.slice fa fn fc)):=q24
 rw [← hwz] at B1 Q23 Q24 ⊢
 clear hwz q0 q17 q18 q22 q23 q24 G1 HF HC
 go_loopg [3,37] an (fun g s3 s37 wx=>∃ k N:Nat,s37 = .int .i64 k∧s3 = .int .i64 N∧k+g=an∧Hid (N=2+sumN (fun i=>3+(c.af i).size) k)∧Hid (Below w.heap.size w wx)∧Hid (wx.cell? ⟨w.heap.size,23,none⟩=some (.slice ca cn cc))∧Hid (wx.cell? ⟨w.heap.size,24,none⟩=some (.slice fa fn fc)))
 case atStart=>exact ⟨0,2,rfl,rfl,by omega,rfl,B1,Q23,Q24⟩
 case round =>
  obtain ⟨k,M,rfl,rfl,hkg,HN,B,X3,X4⟩:=hrel
  by_cases hk:k<an
  ·
   obtain ⟨b,off,he,hc⟩:∃ b off,aa=some ⟨b,off,none⟩∧∀ i,i<an→(w.cell? ⟨b,off+i*2,none⟩=some (.string (c.af i))∧w.cell? ⟨b,off+i*2+1,none⟩=some (.int .i64 (c.aq i))):=by
    rcases HA.out.2 with h | h
    · simp only at h;omega
    · exact h
   subst he
   have hac:an≤ac:=HA.out.1
   have c0:=cell_later B.out (hc k hk).1
   have c1:=cell_later B.out (hc k hk).2
   have hk':(k:Int)<an:=by omega
   have bb:Below wr.heap.size wr (wr.alloc (Obj.cells #[Value.string (c.af k),Value.int IntKind.i64 (c.aq k)] 99)):=(Below.refl _ _).alloc (Nat.le_refl _) _
   have B2:Hid (Below w.heap.size w (wr.alloc (Obj.cells #[Value.string (c.af k),Value.int IntKind.i64 (c.aq k)] 99))):=B.out.trans (bb.mono B.out.size)
   have Y3:Hid ((wr.alloc (Obj.cells #[Value.string (c.af k),Value.int IntKind.i64 (c.aq k)] 99)).cell? ⟨w.heap.size,23,none⟩=some (.slice ca cn cc)):=cell_later bb X3.out
   have Y4:Hid ((wr.alloc (Obj.cells #[Value.string (c.af k),Value.int IntKind.i64 (c.aq k)] 99)).cell? ⟨w.heap.size,24,none⟩=some (.slice fa fn fc)):=cell_later bb X4.out
   have hle:=sumN_le (fun i=>3+(c.af i).size) (k+1) an (by omega)
   have hM:M+(3+(c.af k).size)≤100000002:=by
    have h1:=HN.out
    have h2:=S4.out
    simp only [sumN] at hle
    omega
   have HM2:Hid (M+(3+(c.af k).size)=2+sumN (fun i=>3+(c.af i).size) (k+1)):=by
    have h1:=HN.out
    show _=_
    simp only [sumN]
    omega
   obtain ⟨g,hg⟩:∃ g,gk=g+1:=⟨gk-1,by omega⟩
   clear hc bb hle
   go_wp2
   go_roundg g
   case measure=>omega
   case rel =>
    refine ⟨k+1,M+(3+(c.af k).size),by first | rfl | simp,?_,by omega,HM2,B2,Y3,Y4⟩
    refine congrArg (Value.int .i64) ?_
    first | rfl | (simp;done)|(simp;omega)
  ·
   obtain rfl:k=an:=by omega
   have hk':¬ (k:Int)<k:=by omega
   have hx:=X4.out
   go_wp2_with fail
   obtain ⟨wz,hwz⟩:∃ wz,wz=wr:=⟨_,rfl⟩
   rw [← hwz] at B X3 ⊢
   clear hwz hx X4
   go_loopg [3,52] fn (fun g s3 s51 wx=>∃ j L:Nat,s51 = .int .i64 j∧s3 = .int .i64 L∧j+g=fn∧Hid (L=M+sumN (fun i=>2+(c.fs i).size) j)∧Hid (Below w.heap.size w wx)∧Hid (wx.cell? ⟨w.heap.size,23,none⟩=some (.slice ca cn cc)))
   case atStart=>exact ⟨0,M,rfl,rfl,by omega,rfl,B,X3⟩
   case round =>
    obtain ⟨j,L,rfl,rfl,hjg,HL,B,X3⟩:=hrel
    by_cases hj:j<fn
    ·
     obtain ⟨b,off,he,hc⟩:∃ b off,fa=some ⟨b,off,none⟩∧∀ i,i<fn→w.cell? ⟨b,off+i,none⟩=some (.string (c.fs i)):=by
      rcases HT.out.2 with h | h
      · simp only at h;omega
      · exact h
     subst he
     have hac:fn≤fc:=HT.out.1
     have c0:=cell_later B.out (hc j hj)
     have hj':(j:Int)<fn:=by omega
     have hle:=sumN_le (fun i=>2+(c.fs i).size) (j+1) fn (by omega)
     have hL:L+(2+(c.fs j).size)≤200000002:=by
      have h1:=HL.out
      have h2:=S5.out
      have h3:=HN.out
      have h4:=S4.out
      simp only [sumN] at hle
      omega
     have HL2:Hid (L+(2+(c.fs j).size)=M+sumN (fun i=>2+(c.fs i).size) (j+1)):=by
      have h1:=HL.out
      show _=_
      simp only [sumN]
      omega
     obtain ⟨g,hg⟩:∃ g,gk=g+1:=⟨gk-1,by omega⟩
     clear hc hle
     go_wp2
     go_roundg g
     case measure=>omega
     case rel =>
      refine ⟨j+1,L+(2+(c.fs j).size),by first | rfl | simp,?_,by omega,HL2,B,X3⟩
      refine congrArg (Value.int .i64) ?_
      first | rfl | (simp;done)|(simp;omega)
    ·
     obtain rfl:j=fn:=by omega
     have hj':¬ (j:Int)<j:=by omega
     have hx:=X3.out
     have hL:L≤200000002:=by
      have h1:=HL.out
      have h2:=S5.out
      have h3:=HN.out
      have h4:=S4.out
      omega
     have hc:cn≤1000000:=S6.out
     have HZ:Hid (L+cn=2+sumN (fun i=>3+(c.af i).size) k+sumN (fun i=>2+(c.fs i).size) j+cn):=by
      show _=_
      rw [HL.out,HN.out]
     go_wp2
     go_ret
     refine ⟨congrArg (fun x=>Ending.returned (Value.int .i64 x)) ?_,B.out⟩
     rw [← HS.out,← HZ.out]
     first | rfl | (simp;done)|(simp;omega)
theorem size_more (p:Pk) (c:Cn) (h:Small p c) (hin:In w p c) (hk:4≤p.kind) (hk2:p.kind≤14) (hid:hasID p=false) (HK:Hid (KindsAt w)):Calls Tryz.prog 110 #[p.v] w fun e w'=>e = .returned (.int .i64 (sz p c))∧Below w.heap.size w w':=by
 have HF:Hid (∀ w',Below w.heap.size w w'→Calls Tryz.prog 104 #[p.v] w' fun e w''=>e = .returned (.int .i64 (fl p))∧Below w'.heap.size w' w''):=fun w' hb=>fields_any p w' (HK.out.below hb) (by omega) (by omega)
 have HC:Hid (∀ w',Calls Tryz.prog 137 #[p.v] w' fun e w''=>e = .returned (.int .i64 (szc p))∧Below w'.heap.size w' w''):=fun w'=>sizeOfConnect_any p c h w'
 have hz:bits .and .i64 (fl p:Int) 16384=((fl p &&& 16384:Nat):Int):=bits_and _ _ (by have:=fl_lt p;omega) (by decide)
 have hi:=fl_id p (by omega) (by omega)
 rw [hid] at hi
 have hz2:(bits .and .i64 (fl p:Int) 16384 != 0)=false:=by rw [hz];simpa using hi
 have HS:Hid (((0:Nat)+sumN (fun i=>3+(c.af i).size) p.asks.n+sumN (fun i=>2+(c.fs i).size) p.filters.n+p.codes.n)=sz p c):=by
  show _=_
  have k1:¬ p.kind=1:=by omega
  have k2:¬ p.kind=2:=by omega
  have k3:¬ p.kind=3:=by omega
  simp [sz,k1,k2,k3,nid,hid]
 have HA:Hid (As w p.asks c.af c.aq):=hin.asks
 have HT:Hid (Ss w p.filters c.fs):=hin.filters
 have s1:=h.an
 have s2:=h.fn
 have s3:=h.cn
 have s4:=h.sa
 have s5:=h.sf
 clear h hz hi hin hid
 obtain ⟨kind,level,clean,keep,client,hasWill,wT,wP,wQ,wR,hasUser,user,hasPass,pass,present,code,dup,mT,mP,mQ,mR,id,asks,codes,filters⟩:=p
 obtain ⟨wPa,wPn,wPc⟩:=wP
 obtain ⟨pa,pn,pc⟩:=pass
 obtain ⟨ma,mn,mc⟩:=mP
 obtain ⟨aa,an,ac⟩:=asks
 obtain ⟨ca,cn,cc⟩:=codes
 obtain ⟨fa,fn,fc⟩:=filters
 simp only at hk hk2 s1 s2 s3 s4 s5
 simp only [Pk.v,Sl.v] at HF HC ⊢
 simp only at HS
 have k1:(kind==1)=false:=by simp;omega
 have k2:(kind==2)=false:=by simp;omega
 have k3:(kind==3)=false:=by simp;omega
 have S4:Hid (sumN (fun i=>3+(c.af i).size) an≤100000000):=s4
 have S5:Hid (sumN (fun i=>2+(c.fs i).size) fn≤100000000):=s5
 have S6:Hid (cn≤1000000):=s3
 clear s4 s5 s3
 go_enter Tryz.func110,Tryz.ntmps110
 go_wp2_with (refine wpList_load_row rfl 39 _ rfl w.heap.size rfl 39 _ (0,0) _ (heap_alloc_new w _) Tryz.underlying39 rfl (by kernel_rfl) ?_)
 go_must (go_at_call 104)
 have b0:Below w.heap.size w (w.alloc (Obj.cells #[.int .i64 kind,.int .i64 level,.bool clean,.int .i64 keep,.string client,.bool hasWill,.string wT,.slice wPa wPn wPc,.int .i64 wQ,.bool wR,.bool hasUser,.string user,.bool hasPass,.slice pa pn pc,.bool present,.int .i64 code,.bool dup,.string mT,.slice ma mn mc,.int .i64 mQ,.bool mR,.int .i64 id,.slice aa an ac,.slice ca cn cc,.slice fa fn fc] 39)):=(Below.refl _ _).alloc (Nat.le_refl _) _
 refine (HF.out _ b0).mono ?_
 rintro e w1 ⟨rfl,hb1⟩
 have G1:Hid (w1.heap[w.heap.size]?=some (.cells #[.int .i64 kind,.int .i64 level,.bool clean,.int .i64 keep,.string client,.bool hasWill,.string wT,.slice wPa wPn wPc,.int .i64 wQ,.bool wR,.bool hasUser,.string user,.bool hasPass,.slice pa pn pc,.bool present,.int .i64 code,.bool dup,.string mT,.slice ma mn mc,.int .i64 mQ,.bool mR,.int .i64 id,.slice aa an ac,.slice ca cn cc,.slice fa fn fc] 39)):=(hb1.block _ (by show w.heap.size<(w.heap.push _).size;simp)).trans (heap_alloc_new w _)
 have q0:=cell_later hb1 (box_cell w _ _ 0 _ rfl)
 have q17:=cell_later hb1 (box_cell w _ _ 17 _ rfl)
 have q18:=cell_later hb1 (box_cell w _ _ 18 _ rfl)
 have q22:=cell_later hb1 (box_cell w _ _ 22 _ rfl)
 have q23:=cell_later hb1 (box_cell w _ _ 23 _ rfl)
 have q24:=cell_later hb1 (box_cell w _ _ 24 _ rfl)
 have B1:Hid (Below w.heap.size w w1):=b0.trans (hb1.mono b0.size)
 clear hb1 b0
 go_wp2_with fail
 obtain ⟨wz,hwz⟩:∃ wz,wz=w1:=⟨_,rfl⟩
 have Q23:Hid (w1.cell? ⟨w.heap.size,23,none⟩=some (.slice ca cn cc)):=q23
 have Q24:Hid (w1.cell? ⟨w.heap.size,24,none⟩=some (.slice fa fn fc)):=q24
 rw [← hwz] at B1 Q23 Q24 ⊢
 clear hwz q0 q17 q18 q22 q23 q24 G1 HF HC
 go_loopg [3,37] an (fun g s3 s37 wx=>∃ k N:Nat,s37 = .int .i64 k∧s3 = .int .i64 N∧k+g=an∧Hid (N=0+sumN (fun i=>3+(c.af i).size) k)∧Hid (Below w.heap.size w wx)∧Hid (wx.cell? ⟨w.heap.size,23,none⟩=some (.slice ca cn cc))∧Hid (wx.cell? ⟨w.heap.size,24,none⟩=some (.slice fa fn fc)))
 case atStart=>exact ⟨0,0,rfl,rfl,by omega,rfl,B1,Q23,Q24⟩
 case round =>
  obtain ⟨k,M,rfl,rfl,hkg,HN,B,X3,X4⟩:=hrel
  by_cases hk:k<an
  ·
   obtain ⟨b,off,he,hc⟩:∃ b off,aa=some ⟨b,off,none⟩∧∀ i,i<an→(w.cell? ⟨b,off+i*2,none⟩=some (.string (c.af i))∧w.cell? ⟨b,off+i*2+1,none⟩=some (.int .i64 (c.aq i))):=by
    rcases HA.out.2 with h | h
    · simp only at h;omega
    · exact h
   subst he
   have hac:an≤ac:=HA.out.1
   have c0:=cell_later B.out (hc k hk).1
   have c1:=cell_later B.out (hc k hk).2
   have hk':(k:Int)<an:=by omega
   have bb:Below wr.heap.size wr (wr.alloc (Obj.cells #[Value.string (c.af k),Value.int IntKind.i64 (c.aq k)] 99)):=(Below.refl _ _).alloc (Nat.le_refl _) _
   have B2:Hid (Below w.heap.size w (wr.alloc (Obj.cells #[Value.string (c.af k),Value.int IntKind.i64 (c.aq k)] 99))):=B.out.trans (bb.mono B.out.size)
   have Y3:Hid ((wr.alloc (Obj.cells #[Value.string (c.af k),Value.int IntKind.i64 (c.aq k)] 99)).cell? ⟨w.heap.size,23,none⟩=some (.slice ca cn cc)):=cell_later bb X3.out
   have Y4:Hid ((wr.alloc (Obj.cells #[Value.string (c.af k),Value.int IntKind.i64 (c.aq k)] 99)).cell? ⟨w.heap.size,24,none⟩=some (.slice fa fn fc)):=cell_later bb X4.out
   have hle:=sumN_le (fun i=>3+(c.af i).size) (k+1) an (by omega)
   have hM:M+(3+(c.af k).size)≤100000002:=by
    have h1:=HN.out
    have h2:=S4.out
    simp only [sumN] at hle
    omega
   have HM2:Hid (M+(3+(c.af k).size)=0+sumN (fun i=>3+(c.af i).size) (k+1)):=by
    have h1:=HN.out
    show _=_
    simp only [sumN]
    omega
   obtain ⟨g,hg⟩:∃ g,gk=g+1:=⟨gk-1,by omega⟩
   clear hc bb hle
   go_wp2
   go_roundg g
   case measure=>omega
   case rel =>
    refine ⟨k+1,M+(3+(c.af k).size),by first | rfl | simp,?_,by omega,HM2,B2,Y3,Y4⟩
    refine congrArg (Value.int .i64) ?_
    first | rfl | (simp;done)|(simp;omega)
  ·
   obtain rfl:k=an:=by omega
   have hk':¬ (k:Int)<k:=by omega
   have hx:=X4.out
   go_wp2_with fail
   obtain ⟨wz,hwz⟩:∃ wz,wz=wr:=⟨_,rfl⟩
   rw [← hwz] at B X3 ⊢
   clear hwz hx X4
   go_loopg [3,52] fn (fun g s3 s51 wx=>∃ j L:Nat,s51 = .int .i64 j∧s3 = .int .i64 L∧j+g=fn∧Hid (L=M+sumN (fun i=>2+(c.fs i).size) j)∧Hid (Below w.heap.size w wx)∧Hid (wx.cell? ⟨w.heap.size,23,none⟩=some (.slice ca cn cc)))
   case atStart=>exact ⟨0,M,rfl,rfl,by omega,rfl,B,X3⟩
   case round =>
    obtain ⟨j,L,rfl,rfl,hjg,HL,B,X3⟩:=hrel
    by_cases hj:j<fn
    ·
     obtain ⟨b,off,he,hc⟩:∃ b off,fa=some ⟨b,off,none⟩∧∀ i,i<fn→w.cell? ⟨b,off+i,none⟩=some (.string (c.fs i)):=by
      rcases HT.out.2 with h | h
      · simp only at h;omega
      · exact h
     subst he
     have hac:fn≤fc:=HT.out.1
     have c0:=cell_later B.out (hc j hj)
     have hj':(j:Int)<fn:=by omega
     have hle:=sumN_le (fun i=>2+(c.fs i).size) (j+1) fn (by omega)
     have hL:L+(2+(c.fs j).size)≤200000002:=by
      have h1:=HL.out
      have h2:=S5.out
      have h3:=HN.out
      have h4:=S4.out
      simp only [sumN] at hle
      omega
     have HL2:Hid (L+(2+(c.fs j).size)=M+sumN (fun i=>2+(c.fs i).size) (j+1)):=by
      have h1:=HL.out
      show _=_
      simp only [sumN]
      omega
     obtain ⟨g,hg⟩:∃ g,gk=g+1:=⟨gk-1,by omega⟩
     clear hc hle
     go_wp2
     go_roundg g
     case measure=>omega
     case rel =>
      refine ⟨j+1,L+(2+(c.fs j).size),by first | rfl | simp,?_,by omega,HL2,B,X3⟩
      refine congrArg (Value.int .i64) ?_
      first | rfl | (simp;done)|(simp;omega)
    ·
     obtain rfl:j=fn:=by omega
     have hj':¬ (j:Int)<j:=by omega
     have hx:=X3.out
     have hL:L≤200000002:=by
      have h1:=HL.out
      have h2:=S5.out
      have h3:=HN.out
      have h4:=S4.out
      omega
     have hc:cn≤1000000:=S6.out
     have HZ:Hid (L+cn=0+sumN (fun i=>3+(c.af i).size) k+sumN (fun i=>2+(c.fs i).size) j+cn):=by
      show _=_
      rw [HL.out,HN.out]
     go_wp2
     go_ret
     refine ⟨congrArg (fun x=>Ending.returned (Value.int .i64 x)) ?_,B.out⟩
     rw [← HS.out,← HZ.out]
     first | rfl | (simp;done)|(simp;omega)
theorem topicsRight_any (p:Pk) (w:World):Calls Tryz.prog 107 #[p.v] w fun e w'=>e = .returned (.bool (tps TT p))∧Below w.heap.size w w':=by
 obtain ⟨kind,level,clean,keep,client,hasWill,wT,wP,wQ,wR,hasUser,user,hasPass,pass,present,code,dup,mT,mP,mQ,mR,id,asks,codes,filters⟩:=p
 obtain ⟨wPa,wPn,wPc⟩:=wP
 obtain ⟨pa,pn,pc⟩:=pass
 obtain ⟨ma,mn,mc⟩:=mP
 obtain ⟨aa,an,ac⟩:=asks
 obtain ⟨ca,cn,cc⟩:=codes
 obtain ⟨fa,fn,fc⟩:=filters
 simp only [Pk.v,Sl.v,tps,TT]
 have b0:Below w.heap.size w (w.alloc (Obj.cells #[.int .i64 kind,.int .i64 level,.bool clean,.int .i64 keep,.string client,.bool hasWill,.string wT,.slice wPa wPn wPc,.int .i64 wQ,.bool wR,.bool hasUser,.string user,.bool hasPass,.slice pa pn pc,.bool present,.int .i64 code,.bool dup,.string mT,.slice ma mn mc,.int .i64 mQ,.bool mR,.int .i64 id,.slice aa an ac,.slice ca cn cc,.slice fa fn fc] 39)):=(Below.refl _ _).alloc (Nat.le_refl _) _
 cases hasWill with
 | false =>
  have E:True:=trivial
  by_cases h3:kind=3
  ·
   subst h3
   go_enter Tryz.func107,Tryz.ntmps107
   go_wp2_with fail
   have B0:Hid (Below w.heap.size w _):=b0
   go_must (go_at_call 134)
   refine (tcheck_any mT _).mono ?_
   rintro e w2 ⟨rfl,hb2⟩
   have B2:Hid (Below w.heap.size w w2):=B0.out.trans (hb2.mono B0.out.size)
   clear hb2
   go_wp2
   go_ret
   exact ⟨by simp [topb,E],B2.out⟩
  ·
   have h3':(kind != 3)=true:=by simpa using h3
   go_enter Tryz.func107,Tryz.ntmps107
   go_wp2_with fail
   have B0:Hid (Below w.heap.size w _):=b0
   go_ret
   exact ⟨by simp [topb,E,h3],B0.out⟩
 | true =>
  by_cases hz:tcode wT=0
  ·
   have E:(tcode wT==0)=true:=by simpa using hz
   have hzz:kind=kind:=rfl
   by_cases h3:kind=3
   ·
    subst h3
    go_enter Tryz.func107,Tryz.ntmps107
    go_wp2_with fail
    go_must (go_at_call 134)
    refine (tcheck_any wT _).mono ?_
    rintro e w1 ⟨rfl,hb1⟩
    have B0:Hid (Below w.heap.size w w1):=b0.trans (hb1.mono b0.size)
    have q0:=cell_later hb1 (box_cell w _ _ 0 _ rfl)
    have q17:=cell_later hb1 (box_cell w _ _ 17 _ rfl)
    clear hb1
    rw [hz]
    go_wp2_with fail
    go_must (go_at_call 134)
    refine (tcheck_any mT _).mono ?_
    rintro e w2 ⟨rfl,hb2⟩
    have B2:Hid (Below w.heap.size w w2):=B0.out.trans (hb2.mono B0.out.size)
    clear hb2
    go_wp2
    go_ret
    exact ⟨by simp [topb,E],B2.out⟩
   ·
    have h3':(kind != 3)=true:=by simpa using h3
    go_enter Tryz.func107,Tryz.ntmps107
    go_wp2_with fail
    go_must (go_at_call 134)
    refine (tcheck_any wT _).mono ?_
    rintro e w1 ⟨rfl,hb1⟩
    have B0:Hid (Below w.heap.size w w1):=b0.trans (hb1.mono b0.size)
    have q0:=cell_later hb1 (box_cell w _ _ 0 _ rfl)
    have q17:=cell_later hb1 (box_cell w _ _ 17 _ rfl)
    clear hb1
    rw [hz]
    go_wp2_with fail
    go_ret
    exact ⟨by simp [topb,E,h3],B0.out⟩
  ·
   have hz':(tcode wT != 0)=true:=by simpa using hz
   have E:(tcode wT==0)=false:=by simpa using hz
   go_enter Tryz.func107,Tryz.ntmps107
   go_wp2_with fail
   go_must (go_at_call 134)
   refine (tcheck_any wT _).mono ?_
   rintro e w1 ⟨rfl,hb1⟩
   have B0:Hid (Below w.heap.size w w1):=b0.trans (hb1.mono b0.size)
   clear hb1
   go_wp2
   go_ret
   exact ⟨by simp [topb,E],B0.out⟩
theorem filtersRight_any (p:Pk) (c:Cn) (w:World) (h:In w p c) (ha:p.asks.n≤1000000) (hf:p.filters.n≤1000000) (m:Int) (HM:Hid (w.cell? ⟨2,0,none⟩=some (.int .i64 m))):Calls Tryz.prog 108 #[p.v] w fun e w'=>e = .returned (.bool (flts TT p c))∧Below w.heap.size w w':=by
  obtain ⟨kind,level,clean,keep,client,hasWill,wT,wP,wQ,wR,hasUser,user,hasPass,pass,present,code,dup,mT,mP,mQ,mR,id,asks,codes,filters⟩:=p
  obtain ⟨wPa,wPn,wPc⟩:=wP
  obtain ⟨pa,pn,pc⟩:=pass
  obtain ⟨ma,mn,mc⟩:=mP
  obtain ⟨aa,an,ac⟩:=asks
  obtain ⟨ca,cn,cc⟩:=codes
  obtain ⟨fa,fn,fc⟩:=filters
  have HA:Hid (As w ⟨aa,an,ac⟩ c.af c.aq):=h.asks
  have HS:Hid (Ss w ⟨fa,fn,fc⟩ c.fs):=h.filters
  have HT:Hid (∀ b,b=flts TT ⟨kind,level,clean,keep,client,hasWill,wT,⟨wPa,wPn,wPc⟩,wQ,wR,hasUser,user,hasPass,⟨pa,pn,pc⟩,present,code,dup,mT,⟨ma,mn,mc⟩,mQ,mR,id,⟨aa,an,ac⟩,⟨ca,cn,cc⟩,⟨fa,fn,fc⟩⟩ c↔b=(allN an (fun i=>flt (c.af i)) && allN fn (fun i=>flt (c.fs i)))):=fun b=>Iff.rfl
  simp only at ha hf
  have ha':(an:Int)≤1000000:=by omega
  have hf':(fn:Int)≤1000000:=by omega
  clear h
  have B0:Hid (Below w.heap.size w (w.alloc (Obj.cells #[.int .i64 kind,.int .i64 level,.bool clean,.int .i64 keep,.string client,.bool hasWill,.string wT,.slice wPa wPn wPc,.int .i64 wQ,.bool wR,.bool hasUser,.string user,.bool hasPass,.slice pa pn pc,.bool present,.int .i64 code,.bool dup,.string mT,.slice ma mn mc,.int .i64 mQ,.bool mR,.int .i64 id,.slice aa an ac,.slice ca cn cc,.slice fa fn fc] 39))):=(Below.refl _ _).alloc (Nat.le_refl _) _
  simp only [Pk.v,Sl.v]
  go_enter Tryz.func108,Tryz.ntmps108
  go_wp2_with fail
  go_loopg [10] an (fun g s10 wx=>∃ k:Nat,s10 = .int .i64 k∧k+g=an∧Hid (Below w.heap.size w wx)∧Hid (wx.cell? ⟨w.heap.size,24,none⟩=some (.slice fa fn fc))∧Hid (∀ j,j<k→flt (c.af j)=true))
  case atStart=>exact ⟨0,rfl,by omega,B0,box_cell w _ _ 24 _ rfl,fun j hj=>by omega⟩
  case round =>
    obtain ⟨k,rfl,hkg,B,HX,HD⟩:=hrel
    by_cases hk:k<an
    · obtain ⟨b,off,he,hc⟩:∃ b off,aa=some ⟨b,off,none⟩∧∀ i,i<an→(w.cell? ⟨b,off+i*2,none⟩=some (.string (c.af i))∧w.cell? ⟨b,off+i*2+1,none⟩=some (.int .i64 (c.aq i))):=by
        rcases HA.out.2 with h | h
        · simp only at h;omega
        · exact h
      subst he
      have hac:an≤ac:=HA.out.1
      have c0:=cell_later B.out (hc k hk).1
      have c1:=cell_later B.out (hc k hk).2
      have hk':(k:Int)<an:=by omega
      clear hc
      by_cases hz:fcode (c.af k)=0
      · have HZ:Hid (flt (c.af k)=true):=by show flt (c.af k)=true;unfold flt;simpa using hz
        obtain ⟨g,hg⟩:∃ g,gk=g+1:=⟨gk-1,by omega⟩
        go_wp2_with fail
        go_must (go_at_call 135)
        have bb:Below wr.heap.size wr (wr.alloc (Obj.cells #[Value.string (c.af k),Value.int IntKind.i64 (c.aq k)] 99)):=(Below.refl _ _).alloc (Nat.le_refl _) _
        refine (fcheck_any (c.af k) _ m (cell_later bb (cell_later B.out HM.out))).mono ?_
        rintro e w2 ⟨rfl,hb2⟩
        have bb2:Below wr.heap.size wr w2:=bb.trans (hb2.mono bb.size)
        have B2:Hid (Below w.heap.size w w2):=B.out.trans (bb2.mono B.out.size)
        have X2:Hid (w2.cell? ⟨w.heap.size,24,none⟩=some (.slice fa fn fc)):=cell_later bb2 HX.out
        clear hb2 bb bb2 c0 c1
        rw [hz]
        go_wp2
        go_roundg g
        case measure=>omega
        case rel=>exact ⟨k+1,by first | rfl | simp,by omega,B2,X2,fun j hj=>by
            rcases Nat.lt_or_ge j k with h | h
            · exact HD.out j h
            · obtain rfl:j=k:=by omega
              exact HZ.out⟩
      · have hz':(fcode (c.af k) != 0)=true:=by simpa using hz
        have HZ:Hid (false=flts TT _ c):=(HT.out false).2 (by
          rw [allN_false k hk (show flt (c.af k)=false by unfold flt;simpa using hz)];rfl)
        go_wp2_with fail
        go_must (go_at_call 135)
        have bb:Below wr.heap.size wr (wr.alloc (Obj.cells #[Value.string (c.af k),Value.int IntKind.i64 (c.aq k)] 99)):=(Below.refl _ _).alloc (Nat.le_refl _) _
        refine (fcheck_any (c.af k) _ m (cell_later bb (cell_later B.out HM.out))).mono ?_
        rintro e w2 ⟨rfl,hb2⟩
        have bb2:Below wr.heap.size wr w2:=bb.trans (hb2.mono bb.size)
        have B2:Hid (Below w.heap.size w w2):=B.out.trans (bb2.mono B.out.size)
        clear hb2 bb bb2 c0 c1
        go_wp2
        go_ret
        exact ⟨by rw [← HZ.out];rfl,B2.out⟩
    · obtain rfl:k=an:=by omega
      have hk':¬ (k:Int)<k:=by omega
      have hx:=HX.out
      go_wp2_with fail
      obtain ⟨wz,hwz⟩:∃ wz,wz=wr:=⟨_,rfl⟩
      rw [← hwz] at B ⊢
      have HDA:Hid (allN k (fun i=>flt (c.af i))=true):=(allN_iff _ _).2 HD.out
      clear hwz HX hx HD
      go_loopg [22] fn (fun g s22 wx=>∃ j:Nat,s22 = .int .i64 j∧j+g=fn∧Hid (Below w.heap.size w wx)∧Hid (∀ i,i<j→flt (c.fs i)=true))
      case atStart=>exact ⟨0,rfl,by omega,B,fun i hi=>by omega⟩
      case round =>
        obtain ⟨j,rfl,hjg,B,HD⟩:=hrel
        by_cases hj:j<fn
        · obtain ⟨b,off,he,hc⟩:∃ b off,fa=some ⟨b,off,none⟩∧∀ i,i<fn→w.cell? ⟨b,off+i,none⟩=some (.string (c.fs i)):=by
            rcases HS.out.2 with h | h
            · simp only at h;omega
            · exact h
          subst he
          have hac:fn≤fc:=HS.out.1
          have c0:=cell_later B.out (hc j hj)
          have hj':(j:Int)<fn:=by omega
          clear hc
          by_cases hz:fcode (c.fs j)=0
          · have HZ:Hid (flt (c.fs j)=true):=by show flt (c.fs j)=true;unfold flt;simpa using hz
            obtain ⟨g,hg⟩:∃ g,gk=g+1:=⟨gk-1,by omega⟩
            go_wp2_with fail
            go_must (go_at_call 135)
            refine (fcheck_any (c.fs j) _ m (cell_later B.out HM.out)).mono ?_
            rintro e w2 ⟨rfl,hb2⟩
            have B2:Hid (Below w.heap.size w w2):=B.out.trans (hb2.mono B.out.size)
            clear hb2 c0
            rw [hz]
            go_wp2
            go_roundg g
            case measure=>omega
            case rel=>exact ⟨j+1,by first | rfl | simp,by omega,B2,fun i hi=>by
                rcases Nat.lt_or_ge i j with h | h
                · exact HD.out i h
                · obtain rfl:i=j:=by omega
                  exact HZ.out⟩
          · have hz':(fcode (c.fs j) != 0)=true:=by simpa using hz
            have HZ:Hid (false=flts TT _ c):=(HT.out false).2 (by
              rw [allN_false j hj (show flt (c.fs j)=false by unfold flt;simpa using hz),Bool.and_false])
            go_wp2_with fail
            go_must (go_at_call 135)
            refine (fcheck_any (c.fs j) _ m (cell_later B.out HM.out)).mono ?_
            rintro e w2 ⟨rfl,hb2⟩
            have B2:Hid (Below w.heap.size w w2):=B.out.trans (hb2.mono B.out.size)
            clear hb2 c0
            go_wp2
            go_ret
            exact ⟨by rw [← HZ.out];rfl,B2.out⟩
        · obtain rfl:j=fn:=by omega
          have hj':¬ (j:Int)<j:=by omega
          have HZ:Hid (true=flts TT _ c):=(HT.out true).2 (by rw [HDA.out,(allN_iff _ _).2 HD.out];rfl)
          go_wp2
          go_ret
          exact ⟨by rw [← HZ.out];rfl,B.out⟩
theorem qualitiesRight_any (p:Pk) (c:Cn) (w:World) (h:In w p c) (ha:p.asks.n≤1000000) (hf:p.codes.n≤1000000):Calls Tryz.prog 109 #[p.v] w fun e w'=>e = .returned (.bool (qls p c))∧Below w.heap.size w w':=by
  obtain ⟨kind,level,clean,keep,client,hasWill,wT,wP,wQ,wR,hasUser,user,hasPass,pass,present,code,dup,mT,mP,mQ,mR,id,asks,codes,filters⟩:=p
  obtain ⟨wPa,wPn,wPc⟩:=wP
  obtain ⟨pa,pn,pc⟩:=pass
  obtain ⟨ma,mn,mc⟩:=mP
  obtain ⟨aa,an,ac⟩:=asks
  obtain ⟨ca,cn,cc⟩:=codes
  obtain ⟨fa,fn,fc⟩:=filters
  have HA:Hid (As w ⟨aa,an,ac⟩ c.af c.aq):=h.asks
  have HS:Hid (Is w ⟨ca,cn,cc⟩ c.cs):=h.codes
  have HT:Hid (∀ b,b=qls ⟨kind,level,clean,keep,client,hasWill,wT,⟨wPa,wPn,wPc⟩,wQ,wR,hasUser,user,hasPass,⟨pa,pn,pc⟩,present,code,dup,mT,⟨ma,mn,mc⟩,mQ,mR,id,⟨aa,an,ac⟩,⟨ca,cn,cc⟩,⟨fa,fn,fc⟩⟩ c↔b=(isQ wQ && isQ mQ && allN an (fun i=>isQ (c.aq i)) && allN cn (fun i=>isC (c.cs i)))):=fun b=>Iff.rfl
  simp only at ha hf
  have ha':(an:Int)≤1000000:=by omega
  have hf':(cn:Int)≤1000000:=by omega
  clear h
  have B0:Hid (Below w.heap.size w (w.alloc (Obj.cells #[.int .i64 kind,.int .i64 level,.bool clean,.int .i64 keep,.string client,.bool hasWill,.string wT,.slice wPa wPn wPc,.int .i64 wQ,.bool wR,.bool hasUser,.string user,.bool hasPass,.slice pa pn pc,.bool present,.int .i64 code,.bool dup,.string mT,.slice ma mn mc,.int .i64 mQ,.bool mR,.int .i64 id,.slice aa an ac,.slice ca cn cc,.slice fa fn fc] 39))):=(Below.refl _ _).alloc (Nat.le_refl _) _
  simp only [Pk.v,Sl.v]
  cases h1:isQ wQ
  · have HZ:Hid (false=qls _ c):=(HT.out false).2 (by rw [h1];rfl)
    go_enter Tryz.func109,Tryz.ntmps109
    go_wp2_with (go_at_call 136;refine (isQuality_any _ _).mono ?_;rintro e w' ⟨rfl,rfl⟩;rw [h1])
    go_ret
    exact ⟨by rw [← HZ.out];rfl,B0.out⟩
  cases h2:isQ mQ
  · have HZ:Hid (false=qls _ c):=(HT.out false).2 (by rw [h1,h2];rfl)
    go_enter Tryz.func109,Tryz.ntmps109
    go_wp2_with (go_at_call 136;refine (isQuality_any _ _).mono ?_;rintro e w' ⟨rfl,rfl⟩;first | rw [h1] | rw [h2])
    go_ret
    exact ⟨by rw [← HZ.out];rfl,B0.out⟩
  have HT2:Hid (∀ b,b=qls ⟨kind,level,clean,keep,client,hasWill,wT,⟨wPa,wPn,wPc⟩,wQ,wR,hasUser,user,hasPass,⟨pa,pn,pc⟩,present,code,dup,mT,⟨ma,mn,mc⟩,mQ,mR,id,⟨aa,an,ac⟩,⟨ca,cn,cc⟩,⟨fa,fn,fc⟩⟩ c↔b=(allN an (fun i=>isQ (c.aq i)) && allN cn (fun i=>isC (c.cs i)))):=fun b=>by rw [HT.out b,h1,h2];rfl
  clear HT
  go_enter Tryz.func109,Tryz.ntmps109
  go_wp2_with (go_at_call 136;refine (isQuality_any _ _).mono ?_;rintro e w' ⟨rfl,rfl⟩;first | rw [h1] | rw [h2])
  go_loopg [22] an (fun g s22 wx=>∃ k:Nat,s22 = .int .i64 k∧k+g=an∧Hid (Below w.heap.size w wx)∧Hid (wx.cell? ⟨w.heap.size,23,none⟩=some (.slice ca cn cc))∧Hid (∀ j,j<k→isQ (c.aq j)=true))
  case atStart=>exact ⟨0,rfl,by omega,B0,box_cell _ _ _ 23 _ rfl,fun j hj=>by omega⟩
  case round =>
    obtain ⟨k,rfl,hkg,B,HX,HD⟩:=hrel
    by_cases hk:k<an
    · obtain ⟨b,off,he,hc⟩:∃ b off,aa=some ⟨b,off,none⟩∧∀ i,i<an→(w.cell? ⟨b,off+i*2,none⟩=some (.string (c.af i))∧w.cell? ⟨b,off+i*2+1,none⟩=some (.int .i64 (c.aq i))):=by
        rcases HA.out.2 with h | h
        · simp only at h;omega
        · exact h
      subst he
      have hac:an≤ac:=HA.out.1
      have c0:=cell_later B.out (hc k hk).1
      have c1:=cell_later B.out (hc k hk).2
      have hk':(k:Int)<an:=by omega
      have bb:Below wr.heap.size wr (wr.alloc (Obj.cells #[Value.string (c.af k),Value.int IntKind.i64 (c.aq k)] 99)):=(Below.refl _ _).alloc (Nat.le_refl _) _
      have B2:Hid (Below w.heap.size w (wr.alloc (Obj.cells #[Value.string (c.af k),Value.int IntKind.i64 (c.aq k)] 99))):=B.out.trans (bb.mono B.out.size)
      have X2:Hid ((wr.alloc (Obj.cells #[Value.string (c.af k),Value.int IntKind.i64 (c.aq k)] 99)).cell? ⟨w.heap.size,23,none⟩=some (.slice ca cn cc)):=cell_later bb HX.out
      clear hc bb
      cases hz:isQ (c.aq k)
      · have HZ:Hid (false=qls _ c):=(HT2.out false).2 (by rw [allN_false k hk hz];rfl)
        go_wp2_with (go_at_call 136;refine (isQuality_any _ _).mono ?_;rintro e w1 ⟨rfl,he⟩;obtain rfl:=he.symm;clear he;rw [hz])
        go_ret
        exact ⟨by rw [← HZ.out];rfl,B2.out⟩
      · obtain ⟨g,hg⟩:∃ g,gk=g+1:=⟨gk-1,by omega⟩
        have HZ:Hid (isQ (c.aq k)=true):=hz
        go_wp2_with (go_at_call 136;refine (isQuality_any _ _).mono ?_;rintro e w1 ⟨rfl,he⟩;obtain rfl:=he.symm;clear he;rw [hz])
        go_roundg g
        case measure=>omega
        case rel=>exact ⟨k+1,by first | rfl | simp,by omega,B2,X2,fun j hj=>by
            rcases Nat.lt_or_ge j k with h | h
            · exact HD.out j h
            · obtain rfl:j=k:=by omega
              exact HZ.out⟩
    · obtain rfl:k=an:=by omega
      have hk':¬ (k:Int)<k:=by omega
      have hx:=HX.out
      have HDA:Hid (allN k (fun i=>isQ (c.aq i))=true):=(allN_iff _ _).2 HD.out
      go_wp2_with fail
      obtain ⟨wz,hwz⟩:∃ wz,wz=wr:=⟨_,rfl⟩
      rw [← hwz] at B ⊢
      clear hwz HX hx HD
      go_loopg [34] cn (fun g s22 wx=>∃ j:Nat,s22 = .int .i64 j∧j+g=cn∧Hid (Below w.heap.size w wx)∧Hid (∀ i,i<j→isC (c.cs i)=true))
      case atStart=>exact ⟨0,rfl,by omega,B,fun i hi=>by omega⟩
      case round =>
        obtain ⟨j,rfl,hjg,B,HD⟩:=hrel
        by_cases hj:j<cn
        · obtain ⟨b,off,he,hc⟩:∃ b off,ca=some ⟨b,off,none⟩∧∀ i,i<cn→w.cell? ⟨b,off+i,none⟩=some (.int .i64 (c.cs i)):=by
            rcases HS.out.2 with h | h
            · simp only at h;omega
            · exact h
          subst he
          have hac:cn≤cc:=HS.out.1
          have c0:=cell_later B.out (hc j hj)
          have hj':(j:Int)<cn:=by omega
          obtain ⟨g,hg⟩:∃ g,gk=g+1:=⟨gk-1,by omega⟩
          clear hc
          cases hz:isQ (c.cs j)
          · by_cases h128:c.cs j=128
            · have HZ:Hid (isC (c.cs j)=true):=by show isC (c.cs j)=true;simp [isC,h128]
              rw [h128] at c0 hz
              go_wp2_with (go_at_call 136;refine (isQuality_any _ _).mono ?_;rintro e w1 ⟨rfl,he⟩;obtain rfl:=he.symm;clear he;rw [hz])
              go_roundg g
              case measure=>omega
              case rel=>exact ⟨j+1,by first | rfl | simp,by omega,B,fun i hi=>by
                  rcases Nat.lt_or_ge i j with h | h
                  · exact HD.out i h
                  · obtain rfl:i=j:=by omega
                    exact HZ.out⟩
            · have h128':(c.cs j != 128)=true:=by simpa using h128
              have HZ:Hid (false=qls _ c):=(HT2.out false).2 (by
                rw [allN_false j hj (show isC (c.cs j)=false by simp [isC,hz,h128]),Bool.and_false])
              go_wp2_with (go_at_call 136;refine (isQuality_any _ _).mono ?_;rintro e w1 ⟨rfl,he⟩;obtain rfl:=he.symm;clear he;rw [hz])
              go_ret
              exact ⟨by rw [← HZ.out];rfl,B.out⟩
          · have HZ:Hid (isC (c.cs j)=true):=by show isC (c.cs j)=true;simp [isC,hz]
            go_wp2_with (go_at_call 136;refine (isQuality_any _ _).mono ?_;rintro e w1 ⟨rfl,he⟩;obtain rfl:=he.symm;clear he;rw [hz])
            go_roundg g
            case measure=>omega
            case rel=>exact ⟨j+1,by first | rfl | simp,by omega,B,fun i hi=>by
                rcases Nat.lt_or_ge i j with h | h
                · exact HD.out i h
                · obtain rfl:i=j:=by omega
                  exact HZ.out⟩
        · obtain rfl:j=cn:=by omega
          have hj':¬ (j:Int)<j:=by omega
          have HZ:Hid (true=qls _ c):=(HT2.out true).2 (by rw [HDA.out,(allN_iff _ _).2 HD.out];rfl)
          go_wp2
          go_ret
          exact ⟨by rw [← HZ.out];rfl,B.out⟩
end Go.Proofs.YtpldoeeahhaimaaGreatDoor.Pkt
