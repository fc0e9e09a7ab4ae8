import Derived.Test.YtpldoeeahhaimaaGreatDoorPWd
import Derived.Test.YtpldoeeahhaimaaGreatDoorPWl
namespace Go.Proofs.YtpldoeeahhaimaaGreatDoor.Pkt
open Go Go.RowKit Go.Sort
set_option linter.unusedSimpArgs false
set_option linter.unusedVariables false
set_option maxRecDepth 100000
set_option maxHeartbeats 2000000
theorem form_had:∀ i,i<15→(form i).2.2=((had i:Nat):Int):=by decide
theorem off_code (b0 b1 b2 b3:Bool):bits .or .i64 (bits .or .i64 (bits .or .i64 (mkI b0 32) (mkI b1 128)) (mkI b2 512)) (mkI b3 16384)=((mk b0 32 ||| mk b1 128 ||| mk b2 512 ||| mk b3 16384:Nat):Int):=by
 rw [show mkI b0 32=((mk b0 32:Nat):Int) from mkI_nat b0 32,show mkI b1 128=((mk b1 128:Nat):Int) from mkI_nat b1 128,show mkI b2 512=((mk b2 512:Nat):Int) from mkI_nat b2 512,show mkI b3 16384=((mk b3 16384:Nat):Int) from mkI_nat b3 16384]
 repeat rw [or_cast]
 all_goals repeat' first | exact mk_lt _ _ (by decide) | apply or_lt
theorem fl_code (h:Nat) (b0 b1 b2 b3:Bool) (hh:h<262144):bits .andNot .i64 (h:Int) (bits .or .i64 (bits .or .i64 (bits .or .i64 (mkI b0 32) (mkI b1 128)) (mkI b2 512)) (mkI b3 16384))=((h &&& (18446744073709551615-(mk b0 32 ||| mk b1 128 ||| mk b2 512 ||| mk b3 16384)):Nat):Int):=by
 rw [off_code]
 have:mk b0 32 ||| mk b1 128 ||| mk b2 512 ||| mk b3 16384<262144:=by repeat' first | exact mk_lt _ _ (by decide) | apply or_lt
 exact bits_andNot _ _ (by omega) (by omega)
theorem fields_any (p:Pk) (w:World) (hk:KindsAt w) (h1:0≤p.kind) (h2:p.kind≤14):Calls Tryz.prog 104 #[p.v] w fun e w'=>e = .returned (.int .i64 (fl p))∧Below w.heap.size w w':=by
 obtain ⟨kind,level,clean,keep,client,hasWill,wT,wP,wQ,wR,hasUser,user,hasPass,pass,present,code,dup,mT,mP,mQ,mR,id,asks,codes,filters⟩:=p
 obtain ⟨wPa,wPn,wPc⟩:=wP
 obtain ⟨pa,pn,pc⟩:=pass
 obtain ⟨ma,mn,mc⟩:=mP
 obtain ⟨aa,an,ac⟩:=asks
 obtain ⟨ca,cn,cc⟩:=codes
 obtain ⟨fa,fn,fc⟩:=filters
 obtain ⟨i,rfl⟩:∃ i:Nat,kind=i:=⟨kind.toNat,by simp only at h1;omega⟩
 have hi:i<15:=by simp only at h2;omega
 have hi':(i:Int)<15:=by omega
 have HK:Hid (KindsAt w):=hk
 have HF:Hid ((form i).2.2=((had i:Nat):Int)):=form_had i hi
 clear h1 h2 hk
 obtain ⟨W,hW⟩:∃ W,W=w.alloc (Obj.cells #[.int .i64 (i:Int),.int .i64 level,.bool clean,.int .i64 keep,.string client,.bool hasWill,.string wT,.slice wPa wPn wPc,.int .i64 wQ,.bool wR,.bool hasUser,.string user,.bool hasPass,.slice pa pn pc,.bool present,.int .i64 code,.bool dup,.string mT,.slice ma mn mc,.int .i64 mQ,.bool mR,.int .i64 id,.slice aa an ac,.slice ca cn cc,.slice fa fn fc] 39):=⟨_,rfl⟩
 have hc:W.cell? ⟨1,i*3+2,none⟩=some (.int .i64 (form i).2.2):=cell_later (box_below hW) (HK.out i hi).2.2
 have hc':(w.alloc (Obj.cells #[.int .i64 (i:Int),.int .i64 level,.bool clean,.int .i64 keep,.string client,.bool hasWill,.string wT,.slice wPa wPn wPc,.int .i64 wQ,.bool wR,.bool hasUser,.string user,.bool hasPass,.slice pa pn pc,.bool present,.int .i64 code,.bool dup,.string mT,.slice ma mn mc,.int .i64 mQ,.bool mR,.int .i64 id,.slice aa an ac,.slice ca cn cc,.slice fa fn fc] 39)).cell? ⟨1,i*3+2,none⟩=some (.int .i64 (form i).2.2):=by rw [← hW];exact hc
 simp only [Pk.v,Sl.v]
 go_enter Tryz.func104,Tryz.ntmps104
 go_wp2_with fail
 rw [← hW]
 have k0:∀ d os,(grow (redrawn W d) os).cell? ⟨w.heap.size,0,none⟩=some (.int .i64 (i:Int)):=box_fact hW 0 _ rfl
 have k1:∀ d os,(grow (redrawn W d) os).cell? ⟨w.heap.size,1,none⟩=some (.int .i64 level):=box_fact hW 1 _ rfl
 have k2:∀ d os,(grow (redrawn W d) os).cell? ⟨w.heap.size,2,none⟩=some (.bool clean):=box_fact hW 2 _ rfl
 have k3:∀ d os,(grow (redrawn W d) os).cell? ⟨w.heap.size,3,none⟩=some (.int .i64 keep):=box_fact hW 3 _ rfl
 have k4:∀ d os,(grow (redrawn W d) os).cell? ⟨w.heap.size,4,none⟩=some (.string client):=box_fact hW 4 _ rfl
 have k5:∀ d os,(grow (redrawn W d) os).cell? ⟨w.heap.size,5,none⟩=some (.bool hasWill):=box_fact hW 5 _ rfl
 have k6:∀ d os,(grow (redrawn W d) os).cell? ⟨w.heap.size,6,none⟩=some (.string wT):=box_fact hW 6 _ rfl
 have k7:∀ d os,(grow (redrawn W d) os).cell? ⟨w.heap.size,7,none⟩=some (.slice wPa wPn wPc):=box_fact hW 7 _ rfl
 have k8:∀ d os,(grow (redrawn W d) os).cell? ⟨w.heap.size,8,none⟩=some (.int .i64 wQ):=box_fact hW 8 _ rfl
 have k9:∀ d os,(grow (redrawn W d) os).cell? ⟨w.heap.size,9,none⟩=some (.bool wR):=box_fact hW 9 _ rfl
 have k10:∀ d os,(grow (redrawn W d) os).cell? ⟨w.heap.size,10,none⟩=some (.bool hasUser):=box_fact hW 10 _ rfl
 have k11:∀ d os,(grow (redrawn W d) os).cell? ⟨w.heap.size,11,none⟩=some (.string user):=box_fact hW 11 _ rfl
 have k12:∀ d os,(grow (redrawn W d) os).cell? ⟨w.heap.size,12,none⟩=some (.bool hasPass):=box_fact hW 12 _ rfl
 have k13:∀ d os,(grow (redrawn W d) os).cell? ⟨w.heap.size,13,none⟩=some (.slice pa pn pc):=box_fact hW 13 _ rfl
 have k14:∀ d os,(grow (redrawn W d) os).cell? ⟨w.heap.size,14,none⟩=some (.bool present):=box_fact hW 14 _ rfl
 have k15:∀ d os,(grow (redrawn W d) os).cell? ⟨w.heap.size,15,none⟩=some (.int .i64 code):=box_fact hW 15 _ rfl
 have k16:∀ d os,(grow (redrawn W d) os).cell? ⟨w.heap.size,16,none⟩=some (.bool dup):=box_fact hW 16 _ rfl
 have k17:∀ d os,(grow (redrawn W d) os).cell? ⟨w.heap.size,17,none⟩=some (.string mT):=box_fact hW 17 _ rfl
 have k18:∀ d os,(grow (redrawn W d) os).cell? ⟨w.heap.size,18,none⟩=some (.slice ma mn mc):=box_fact hW 18 _ rfl
 have k19:∀ d os,(grow (redrawn W d) os).cell? ⟨w.heap.size,19,none⟩=some (.int .i64 mQ):=box_fact hW 19 _ rfl
 have k20:∀ d os,(grow (redrawn W d) os).cell? ⟨w.heap.size,20,none⟩=some (.bool mR):=box_fact hW 20 _ rfl
 have k21:∀ d os,(grow (redrawn W d) os).cell? ⟨w.heap.size,21,none⟩=some (.int .i64 id):=box_fact hW 21 _ rfl
 have k22:∀ d os,(grow (redrawn W d) os).cell? ⟨w.heap.size,22,none⟩=some (.slice aa an ac):=box_fact hW 22 _ rfl
 have k23:∀ d os,(grow (redrawn W d) os).cell? ⟨w.heap.size,23,none⟩=some (.slice ca cn cc):=box_fact hW 23 _ rfl
 have k24:∀ d os,(grow (redrawn W d) os).cell? ⟨w.heap.size,24,none⟩=some (.slice fa fn fc):=box_fact hW 24 _ rfl
 have B0:Hid (Below w.heap.size w W):=box_below hW
 clear hW hc hc'
 by_cases h3:(i:Int)=3
 ·
  have h3':((i:Int)==3)=true:=by simpa using h3
  refine wp_region_quiet_below (by kernel_rfl) (by kernel_rfl) ?_
  repeat (quiet_step ((go_at_call 131;exact Calls.regrown_of (mark_int _ _ _))))
  refine wpQuiet_nil ?_
  rintro _ ⟨⟨d,os⟩,rfl⟩
  go_wp2
  go_ret
  refine ⟨?_,B0.out.trans ((below_regrown W d os).mono B0.out.size)⟩
  show Ending.returned (Value.int .i64 (bits .andNot .i64 (form i).2.2 (bits .or .i64 (bits .or .i64 (bits .or .i64 (mkI (!hasWill) 32) (mkI (!hasUser) 128)) (mkI (!hasPass) 512)) (mkI (mQ==0) 16384))))=_
  rw [HF.out,fl_code _ _ _ _ _ (had_lt i)]
  have e:(decide ((i:Int)=3) && decide (mQ=0))=(mQ==0):=by rw [decide_eq_true h3];rfl
  simp only [fl,off,Int.toNat_natCast]
  rw [e]
 ·
  have h3':((i:Int)==3)=false:=by simpa using h3
  refine wp_region_quiet_below (by kernel_rfl) (by kernel_rfl) ?_
  repeat (quiet_step ((go_at_call 131;exact Calls.regrown_of (mark_int _ _ _))))
  refine wpQuiet_nil ?_
  rintro _ ⟨⟨d,os⟩,rfl⟩
  go_wp2
  go_ret
  refine ⟨?_,B0.out.trans ((below_regrown W d os).mono B0.out.size)⟩
  show Ending.returned (Value.int .i64 (bits .andNot .i64 (form i).2.2 (bits .or .i64 (bits .or .i64 (bits .or .i64 (mkI (!hasWill) 32) (mkI (!hasUser) 128)) (mkI (!hasPass) 512)) (mkI false 16384))))=_
  rw [HF.out,fl_code _ _ _ _ _ (had_lt i)]
  have e:(decide ((i:Int)=3) && decide (mQ=0))=false:=by rw [decide_eq_false h3];rfl
  simp only [fl,off,Int.toNat_natCast]
  rw [e]
theorem given_any (p:Pk) (c:Cn) (w:World) (h:In w p c):Calls Tryz.prog 103 #[p.v] w fun e w'=>e = .returned (.int .i64 (gv p))∧Below w.heap.size w w':=by
 obtain ⟨kind,level,clean,keep,client,hasWill,wT,wP,wQ,wR,hasUser,user,hasPass,pass,present,code,dup,mT,mP,mQ,mR,id,asks,codes,filters⟩:=p
 obtain ⟨wPa,wPn,wPc⟩:=wP
 obtain ⟨pa,pn,pc⟩:=pass
 obtain ⟨ma,mn,mc⟩:=mP
 obtain ⟨aa,an,ac⟩:=asks
 obtain ⟨ca,cn,cc⟩:=codes
 obtain ⟨fa,fn,fc⟩:=filters
 have ZW:Hid (∀ w',Below w.heap.size w w'→Calls Tryz.prog 132 #[.agg #[.string wT,.slice wPa wPn wPc,.int .i64 wQ,.bool wR],.agg #[.string ⟨#[]⟩,.slice none 0 0,.int .i64 0,.bool false]] w' fun e w''=>e = .returned (.bool (decide (wT.size=0) && decide (wQ=0) && !wR && decide (wPn=0)))∧Below w'.heap.size w' w''):=fun w' hb=>zero_msg wT ⟨wPa,wPn,wPc⟩ wQ wR _ w' (h.wP.below hb)
 have ZM:Hid (∀ w',Below w.heap.size w w'→Calls Tryz.prog 132 #[.agg #[.string mT,.slice ma mn mc,.int .i64 mQ,.bool mR],.agg #[.string ⟨#[]⟩,.slice none 0 0,.int .i64 0,.bool false]] w' fun e w''=>e = .returned (.bool (decide (mT.size=0) && decide (mQ=0) && !mR && decide (mn=0)))∧Below w'.heap.size w' w''):=fun w' hb=>zero_msg mT ⟨ma,mn,mc⟩ mQ mR _ w' (h.mP.below hb)
 clear h
 simp only [Pk.v,Sl.v]
 go_enter Tryz.func103,Tryz.ntmps103
 go_wp2_with fail
 obtain ⟨W,hW⟩:∃ W,W=w.alloc (Obj.cells #[.int .i64 kind,.int .i64 level,.bool clean,.int .i64 keep,.string client,.bool hasWill,.string wT,.slice wPa wPn wPc,.int .i64 wQ,.bool wR,.bool hasUser,.string user,.bool hasPass,.slice pa pn pc,.bool present,.int .i64 code,.bool dup,.string mT,.slice ma mn mc,.int .i64 mQ,.bool mR,.int .i64 id,.slice aa an ac,.slice ca cn cc,.slice fa fn fc] 39):=⟨_,rfl⟩
 rw [← hW]
 have k0:∀ d os,(grow (redrawn W d) os).cell? ⟨w.heap.size,0,none⟩=some (.int .i64 kind):=box_fact hW 0 _ rfl
 have k1:∀ d os,(grow (redrawn W d) os).cell? ⟨w.heap.size,1,none⟩=some (.int .i64 level):=box_fact hW 1 _ rfl
 have k2:∀ d os,(grow (redrawn W d) os).cell? ⟨w.heap.size,2,none⟩=some (.bool clean):=box_fact hW 2 _ rfl
 have k3:∀ d os,(grow (redrawn W d) os).cell? ⟨w.heap.size,3,none⟩=some (.int .i64 keep):=box_fact hW 3 _ rfl
 have k4:∀ d os,(grow (redrawn W d) os).cell? ⟨w.heap.size,4,none⟩=some (.string client):=box_fact hW 4 _ rfl
 have k5:∀ d os,(grow (redrawn W d) os).cell? ⟨w.heap.size,5,none⟩=some (.bool hasWill):=box_fact hW 5 _ rfl
 have k6:∀ d os,(grow (redrawn W d) os).cell? ⟨w.heap.size,6,none⟩=some (.string wT):=box_fact hW 6 _ rfl
 have k7:∀ d os,(grow (redrawn W d) os).cell? ⟨w.heap.size,7,none⟩=some (.slice wPa wPn wPc):=box_fact hW 7 _ rfl
 have k8:∀ d os,(grow (redrawn W d) os).cell? ⟨w.heap.size,8,none⟩=some (.int .i64 wQ):=box_fact hW 8 _ rfl
 have k9:∀ d os,(grow (redrawn W d) os).cell? ⟨w.heap.size,9,none⟩=some (.bool wR):=box_fact hW 9 _ rfl
 have k10:∀ d os,(grow (redrawn W d) os).cell? ⟨w.heap.size,10,none⟩=some (.bool hasUser):=box_fact hW 10 _ rfl
 have k11:∀ d os,(grow (redrawn W d) os).cell? ⟨w.heap.size,11,none⟩=some (.string user):=box_fact hW 11 _ rfl
 have k12:∀ d os,(grow (redrawn W d) os).cell? ⟨w.heap.size,12,none⟩=some (.bool hasPass):=box_fact hW 12 _ rfl
 have k13:∀ d os,(grow (redrawn W d) os).cell? ⟨w.heap.size,13,none⟩=some (.slice pa pn pc):=box_fact hW 13 _ rfl
 have k14:∀ d os,(grow (redrawn W d) os).cell? ⟨w.heap.size,14,none⟩=some (.bool present):=box_fact hW 14 _ rfl
 have k15:∀ d os,(grow (redrawn W d) os).cell? ⟨w.heap.size,15,none⟩=some (.int .i64 code):=box_fact hW 15 _ rfl
 have k16:∀ d os,(grow (redrawn W d) os).cell? ⟨w.heap.size,16,none⟩=some (.bool dup):=box_fact hW 16 _ rfl
 have k17:∀ d os,(grow (redrawn W d) os).cell? ⟨w.heap.size,17,none⟩=some (.string mT):=box_fact hW 17 _ rfl
 have k18:∀ d os,(grow (redrawn W d) os).cell? ⟨w.heap.size,18,none⟩=some (.slice ma mn mc):=box_fact hW 18 _ rfl
 have k19:∀ d os,(grow (redrawn W d) os).cell? ⟨w.heap.size,19,none⟩=some (.int .i64 mQ):=box_fact hW 19 _ rfl
 have k20:∀ d os,(grow (redrawn W d) os).cell? ⟨w.heap.size,20,none⟩=some (.bool mR):=box_fact hW 20 _ rfl
 have k21:∀ d os,(grow (redrawn W d) os).cell? ⟨w.heap.size,21,none⟩=some (.int .i64 id):=box_fact hW 21 _ rfl
 have k22:∀ d os,(grow (redrawn W d) os).cell? ⟨w.heap.size,22,none⟩=some (.slice aa an ac):=box_fact hW 22 _ rfl
 have k23:∀ d os,(grow (redrawn W d) os).cell? ⟨w.heap.size,23,none⟩=some (.slice ca cn cc):=box_fact hW 23 _ rfl
 have k24:∀ d os,(grow (redrawn W d) os).cell? ⟨w.heap.size,24,none⟩=some (.slice fa fn fc):=box_fact hW 24 _ rfl
 have B0:Hid (Below w.heap.size w W):=box_below hW
 clear hW
 have ZW':Hid (∀ d os,Calls Tryz.prog 132 #[.agg #[.string wT,.slice wPa wPn wPc,.int .i64 wQ,.bool wR],.agg #[.string ⟨#[]⟩,.slice none 0 0,.int .i64 0,.bool false]] (grow (redrawn W d) os) fun e w''=>e = .returned (.bool (decide (wT.size=0) && decide (wQ=0) && !wR && decide (wPn=0)))∧Below (grow (redrawn W d) os).heap.size (grow (redrawn W d) os) w''):=fun d os=>ZW.out _ (B0.out.trans ((below_regrown W d os).mono B0.out.size))
 have ZM':Hid (∀ d os,Calls Tryz.prog 132 #[.agg #[.string mT,.slice ma mn mc,.int .i64 mQ,.bool mR],.agg #[.string ⟨#[]⟩,.slice none 0 0,.int .i64 0,.bool false]] (grow (redrawn W d) os) fun e w''=>e = .returned (.bool (decide (mT.size=0) && decide (mQ=0) && !mR && decide (mn=0)))∧Below (grow (redrawn W d) os).heap.size (grow (redrawn W d) os) w''):=fun d os=>ZM.out _ (B0.out.trans ((below_regrown W d os).mono B0.out.size))
 clear ZW ZM
 refine wp_region_quiet_below (by kernel_rfl) lex32 ?_
 repeat (quiet_step (first | (go_at_call 131;exact Calls.regrown_of (mark_int _ _ _))|(go_at_call 132;first | with_reducible exact Calls.regrown_of (ZW'.out _ _) | with_reducible exact Calls.regrown_of (ZM'.out _ _))))
 refine wpQuiet_nil ?_
 rintro _ ⟨⟨d,os⟩,rfl⟩
 go_wp2
 go_ret
 refine ⟨(congrArg (fun x=>Ending.returned (Value.int .i64 x)) (gv_code _ _ _ _ _ _ _ _ _ _ _ _ _ _ _ _ _ _ )).trans ?_,B0.out.trans ((below_regrown W d os).mono B0.out.size)⟩
 clear k0 k1 k2 k3 k4 k5 k6 k7 k8 k9 k10 k11 k12 k13 k14 k15 k16 k17 k18 k19 k20 k21 k22 k23 k24 ZW' ZM' B0
 refine congrArg (fun n:Nat=>Ending.returned (Value.int .i64 (n:Int))) ?_
 simp only [gv,isEmpty_size,empty_size,Bool.not_and,Bool.not_not,pos_ne]
end Go.Proofs.YtpldoeeahhaimaaGreatDoor.Pkt
