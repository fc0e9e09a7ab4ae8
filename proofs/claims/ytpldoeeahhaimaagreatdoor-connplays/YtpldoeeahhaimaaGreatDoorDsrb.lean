import Derived.Test.YtpldoeeahhaimaaGreatDoorDsra
import Derived.Test.YtpldoeeahhaimaaGreatDoorPRr
namespace Go.Proofs.YtpldoeeahhaimaaGreatDoor.Dr
open Go Go.RowKit
open Pkt (Pk Cn Sl In By Is Ss As pkCells Small ck TT)
set_option linter.unusedSimpArgs false
set_option linter.unusedVariables false
set_option maxRecDepth 100000
set_option maxHeartbeats 8000000
theorem ddecode_some {w:World} {gb n cp:Nat} {z:Nat→Int} (most:Int) (hc:Came w (some ⟨gb,0,none⟩) n cp z) (h0:n≠0) (hn:n≤300000):Calls Tryz.prog 46 #[.slice (some ⟨gb,0,none⟩) n cp,.int .i64 most] w fun e w'=>DocIs w w' e (decP z n most):=by
 obtain ⟨R,hR⟩:∃ R,R=decP z n most:=⟨_,rfl⟩
 rw [← hR]
 have HR:=hidi hR
 have HC:=hidi hc
 clear hR hc
 obtain ⟨V1,hV1⟩:∃ V1,V1=(w.alloc (.cells (pkCells (blank 0)) 39)).alloc (.cells #[.int .i64 0,.int .i64 0] 73):=⟨_,rfl⟩
 have b1:Below w.heap.size w V1:=by rw [hV1];exact ((Below.refl _ _).alloc (Nat.le_refl _) _).alloc (by simp) _
 have s1:V1.heap.size=w.heap.size+2:=by rw [hV1];simp
 have x4:V1.heap[w.heap.size]?=some (.cells (pkCells (blank 0)) 39 (0,0)):=by
  rw [hV1]
  exact (((Below.refl _ _).alloc (Nat.le_refl _) _).block w.heap.size (by simp)).trans (heap_alloc_new w _)
 have x5:V1.heap[w.heap.size+1]?=some (.cells #[.int .i64 0,.int .i64 0] 73 (0,0)):=by
  rw [hV1]
  have:=heap_alloc_new (w.alloc (.cells (pkCells (blank 0)) 39)) (.cells #[.int .i64 0,.int .i64 0] 73)
  simpa using this
 obtain ⟨W1,hW1⟩:∃ W1,W1=V1.alloc (.cells (pkCells (blank 0)) 39):=⟨_,rfl⟩
 obtain ⟨nb,hnb⟩:∃ nb,nb=V1.heap.size:=⟨_,rfl⟩
 have b2:Below V1.heap.size V1 W1:=by rw [hW1];exact (Below.refl _ _).alloc (Nat.le_refl _) _
 have BB:=hidi (show Below w.heap.size w W1 from b1.trans (b2.mono b1.size))
 have X4:=hidi ((b2.block _ (by omega)).trans x4)
 have X5:=hidi ((b2.block _ (by omega)).trans x5)
 have X7:=hidi (show W1.heap[nb]?=some (.cells (pkCells (blank 0)) 39 (0,0)) from by rw [hW1,hnb];exact heap_alloc_new V1 _)
 have SZ:=hidi (show nb=w.heap.size+2∧W1.heap.size=w.heap.size+3 from ⟨by omega,by rw [hW1];simp;omega⟩)
 have HV1:=hidi hV1
 have HW1:=hidi hW1
 have HNB:=hidi hnb
 clear hV1 b1 s1 x4 x5 hW1 hnb b2
 go_enter Tryz.func46,Tryz.ntmps46
 go_upto_region 1 with fail
 rw [show (w.alloc (.cells #[.int .i64 0,.int .i64 0,.bool false,.int .i64 0,.string ⟨#[]⟩,.bool false,.string ⟨#[]⟩,.slice none 0 0,.int .i64 0,.bool false,.bool false,.string ⟨#[]⟩,.bool false,.slice none 0 0,.bool false,.int .i64 0,.bool false,.string ⟨#[]⟩,.slice none 0 0,.int .i64 0,.bool false,.int .i64 0,.slice none 0 0,.slice none 0 0,.slice none 0 0] 39)).alloc (.cells #[.int .i64 0,.int .i64 0] 73)=V1 from HV1.out.symm]
 clear HV1
 go_upto_region 2 with (first | (refine wpList_build_to rfl 39 _ rfl (pkCells (blank 0)) built_zero ?_)|(refine wpList_store_row rfl 39 (.tmp 7) (.tmp 13) rfl V1.heap.size (pkCells (blank 0)) rfl rfl 39 (pkCells (blank 0)) (heap_alloc_new _ _) info39 rfl (pk_one _) ?_;rw [World.setRow_alloc_new]))
 rw [← HW1.out,← HNB.out]
 clear HW1 HNB
 have hcl:∀ w',Below W1.heap.size W1 w'→∀ i,i<n→w'.cell? ⟨gb,i,none⟩=some (.int .u8 (z i)):=by
  intro w' hb i hi
  have q:=came_below (B:=0) (came_below (B:=0) HC.out BB.out) hb
  rcases q.2.2 with ⟨e,_⟩|⟨ad,e,c⟩
  · cases e
  ·
   cases e
   have:=c i hi
   rw [plain_add,Nat.zero_add] at this
   exact this
 obtain ⟨b,hb⟩:∃ b:Nat,z 0=(b:Int):=⟨(z 0).toNat,by have:=(HC.out.2.1 0).1;omega⟩
 have b256:b<256:=by have:=(HC.out.2.1 0).2;omega
 have C0:=hidi (show ∀ w',Below W1.heap.size W1 w'→w'.cell? ⟨gb,0,none⟩=some (.int .u8 b) from fun w' hw'=>by have:=hcl w' hw' 0 (by omega);rw [hb] at this;exact this)
 have CL:=hidi hcl
 have HB:=hidi hb
 have HN:=hidi (show n≤300000∧n≤cp from ⟨hn,HC.out.1⟩)
 have H0:=hidi h0
 have nz:((n:Int)==0)=false:=by simp;omega
 have n0:¬ (n:Int)=0:=by omega
 have np:(0:Int)<(n:Int):=by omega
 have c0:=C0.out W1 (Below.refl _ _)
 obtain ⟨F,hF⟩:∃ F,firstP (b:Int)=F:=⟨_,rfl⟩
 have HD:=hidi (dhead_any b b256 W1)
 rw [hF] at HD
 have HF:=hidi hF
 have B256:=hidi b256
 clear hcl hb hn h0 hF b256
 go_wp2_with fail
 go_must (go_at_call 57)
 refine HD.out.mono ?_
 rintro e v ⟨rfl,hv⟩
 have hv:=hv.symm
 subst hv
 clear HD c0
 by_cases hF0:F=0
 case neg =>
  have HV:=hidi (show R = .fault (0,F) from by
   rw [HR.out,decP,headP,if_neg H0.out,HB.out,HF.out,if_pos hF0]
   rfl)
  have f0:(F != 0)=true:=by simpa using hF0
  go_wp2_with (first | (refine Pkt.wpList_load_wanted rfl (.tmp 7) rfl nb rfl (pkCells (blank 0)) (0,0) X7.out (pk_size _) ?_)|(refine wpList_store_row rfl 39 (.tmp 4) (.tmp 25) rfl w.heap.size (pkCells (blank 0)) rfl rfl 39 (pkCells (blank 0)) X4.out pk_info rfl (pk_one _) ?_)|(refine wpList_store_row rfl 73 (.tmp 6) (.tmp 27) rfl (w.heap.size+1) #[.int .i64 0,.int .i64 F] rfl rfl 73 #[.int .i64 0,.int .i64 0] ((setRow_ne (by omega)).trans X5.out) f_info rfl (two_one _ _) ?_))
  have RR:=rd_rows (cs:=pkCells (blank 0)) (ds:=#[.int .i64 0,.int .i64 F]) X4.out X5.out
  refine bodyPost_ret (results_rtr rfl _ _ w.heap.size (w.heap.size+1) 39 73 (pkCells (blank 0)) #[.int .i64 0,.int .i64 F] (0,0) (0,0) _ _ rfl RR.1 Tryz.underlying39 rfl pk_info (.int .i64 0) rfl rfl RR.2 Tryz.underlying73 rfl f_info) rfl ?_
  rw [HV.out]
  exact ⟨⟨_,rfl⟩,hF0,bel_row (bel_row BB.out (Nat.le_refl _)) (by omega)⟩
 subst hF0
 have HL:=hidi (show headP z n (clampM most)=lenTo (clampM most) (Dl.lenZ (n-1) (sh 1 z)) from head_len z n _ H0.out (by rw [HB.out];exact HF.out))
 obtain ⟨ad1,had1⟩:∃ ad1,(if cp=1 then some (⟨gb,0,none⟩:Addr) else some ⟨gb,1,none⟩)=some ad1:=by
  split
  · exact ⟨_,rfl⟩
  · exact ⟨_,rfl⟩
 have LN:=hidi (Dl.rlen_any (some ad1) (n-1) (cp-1) (sh 1 z) W1 ⟨by have:=HN.out;omega,fun i=>HC.out.2.1 _,by
  by_cases e:n-1=0
  · exact .inl e
  ·
   refine .inr ?_
   rw [if_neg (by have:=HN.out;omega)] at had1
   obtain rfl:=Option.some.inj had1
   exact ⟨gb,1,rfl,fun i hi=>by have:=CL.out W1 (Below.refl _ _) (1+i) (by omega);rw [this,Nat.add_comm 1 i];rfl⟩⟩ (by have:=HN.out;omega))
 obtain ⟨X,hX⟩:∃ X,Dl.lenZ (n-1) (sh 1 z)=X:=⟨_,rfl⟩
 have LO:=hidi (len_ok (sh 1 z) (n-1))
 rw [hX] at LN HL LO
 clear hX
 obtain ⟨vv,kk,ee⟩:=X
 simp only at LN HL LO
 have n1:(1:Int)≤(n:Int):=by omega
 have cp1:(n:Int)≤(cp:Int):=by have:=HN.out;omega
 go_wp2_with fail
 go_must (go_at_call 58)
 refine LN.out.mono ?_
 rintro e v ⟨rfl,hv⟩
 have hv:=hv.symm
 subst hv
 clear LN had1
 have HR2:=hidi (show R=decH z n (lenTo (clampM most) (vv,kk,ee)) from by rw [HR.out,decP,HL.out])
 by_cases e12:ee=12
 ·
  subst e12
  have HV:=hidi (show R = .fault (4,12) from by rw [HR2.out];rfl)
  go_wp2_with (first | (refine Pkt.wpList_load_wanted rfl (.tmp 7) rfl nb rfl (pkCells (blank 0)) (0,0) X7.out (pk_size _) ?_)|(refine wpList_store_row rfl 39 (.tmp 4) (.tmp 37) rfl w.heap.size (pkCells (blank 0)) rfl rfl 39 (pkCells (blank 0)) X4.out pk_info rfl (pk_one _) ?_)|(refine wpList_store_row rfl 73 (.tmp 6) (.tmp 38) rfl (w.heap.size+1) #[.int .i64 4,.int .i64 12] rfl rfl 73 #[.int .i64 0,.int .i64 0] ((setRow_ne (by omega)).trans X5.out) f_info rfl (two_one _ _) ?_))
  have RR:=rd_rows (cs:=pkCells (blank 0)) (ds:=#[.int .i64 4,.int .i64 12]) X4.out X5.out
  refine bodyPost_ret (results_rtr rfl _ _ w.heap.size (w.heap.size+1) 39 73 (pkCells (blank 0)) #[.int .i64 4,.int .i64 12] (0,0) (0,0) _ _ rfl RR.1 Tryz.underlying39 rfl pk_info (.int .i64 0) rfl rfl RR.2 Tryz.underlying73 rfl f_info) rfl ?_
  rw [HV.out]
  exact ⟨⟨_,rfl⟩,by decide,bel_row (bel_row BB.out (Nat.le_refl _)) (by omega)⟩
 by_cases e0:ee=0
 case neg =>
  have HV:=hidi (show R = .more from by
   rw [HR2.out]
   unfold lenTo
   simp only
   rw [if_neg e12,if_pos (by exact e0)]
   rfl)
  have q1:(ee==12)=false:=by simpa using e12
  have q2:(ee != 0)=true:=by simpa using e0
  go_wp2_with (first | (refine Pkt.wpList_load_wanted rfl (.tmp 7) rfl nb rfl (pkCells (blank 0)) (0,0) X7.out (pk_size _) ?_)|(refine wpList_store_row rfl 39 (.tmp 4) (.tmp 41) rfl w.heap.size (pkCells (blank 0)) rfl rfl 39 (pkCells (blank 0)) X4.out pk_info rfl (pk_one _) ?_)|(refine wpList_store_row rfl 73 (.tmp 6) (.tmp 42) rfl (w.heap.size+1) #[.int .i64 0,.int .i64 0] rfl rfl 73 #[.int .i64 0,.int .i64 0] ((setRow_ne (by omega)).trans X5.out) f_info rfl (two_one _ _) ?_))
  have RR:=rd_rows (cs:=pkCells (blank 0)) (ds:=#[.int .i64 0,.int .i64 0]) X4.out X5.out
  refine bodyPost_ret (results_rtr rfl _ _ w.heap.size (w.heap.size+1) 39 73 (pkCells (blank 0)) #[.int .i64 0,.int .i64 0] (0,0) (0,0) _ _ rfl RR.1 Tryz.underlying39 rfl pk_info (.int .i64 0) rfl rfl RR.2 Tryz.underlying73 rfl f_info) rfl ?_
  rw [HV.out]
  exact ⟨rfl,bel_row (bel_row BB.out (Nat.le_refl _)) (by omega)⟩
 subst e0
 obtain ⟨ky,L,hK1,hL1,hK2,hK3,hK4⟩:=LO.out rfl
 subst hK1 hL1
 clear LO e12
 have HMC:=hidi (dmost_any most W1)
 obtain ⟨M,hM⟩:∃ M,clampM most=M:=⟨_,rfl⟩
 rw [hM] at HMC HR2
 clear hM
 have kb:=hidi (show 1≤ky∧ky≤4∧ky≤n-1 from ⟨hK2,hK3,hK4⟩)
 clear hK2 hK3 hK4
 go_wp2_with fail
 go_must (go_at_call 59)
 refine HMC.out.mono ?_
 rintro e v ⟨rfl,hv⟩
 have hv:=hv.symm
 subst hv
 clear HMC
 by_cases hM:M<(L:Int)
 ·
  have HV:=hidi (show R = .fault (1,32) from by
   rw [HR2.out]
   unfold lenTo
   simp only
   rw [if_neg (by decide),if_neg (by simp),if_pos hM]
   rfl)
  go_wp2_with (first | (refine Pkt.wpList_load_wanted rfl (.tmp 7) rfl nb rfl (pkCells (blank 0)) (0,0) X7.out (pk_size _) ?_)|(refine wpList_store_row rfl 39 (.tmp 4) (.tmp 47) rfl w.heap.size (pkCells (blank 0)) rfl rfl 39 (pkCells (blank 0)) X4.out pk_info rfl (pk_one _) ?_)|(refine wpList_store_row rfl 73 (.tmp 6) (.tmp 48) rfl (w.heap.size+1) #[.int .i64 1,.int .i64 32] rfl rfl 73 #[.int .i64 0,.int .i64 0] ((setRow_ne (by omega)).trans X5.out) f_info rfl (two_one _ _) ?_))
  have RR:=rd_rows (cs:=pkCells (blank 0)) (ds:=#[.int .i64 1,.int .i64 32]) X4.out X5.out
  refine bodyPost_ret (results_rtr rfl _ _ w.heap.size (w.heap.size+1) 39 73 (pkCells (blank 0)) #[.int .i64 1,.int .i64 32] (0,0) (0,0) _ _ rfl RR.1 Tryz.underlying39 rfl pk_info (.int .i64 0) rfl rfl RR.2 Tryz.underlying73 rfl f_info) rfl ?_
  rw [HV.out]
  exact ⟨⟨_,rfl⟩,by decide,bel_row (bel_row BB.out (Nat.le_refl _)) (by omega)⟩
 have HR3:=hidi (show R=decH z n ((ky:Int)+1,(L:Int),none) from by
  rw [HR2.out]
  unfold lenTo
  simp only
  rw [if_neg (by decide),if_neg (by simp),if_neg hM])
 clear HR2 HR HL
 have hMn:decide (M<(L:Int))=false:=by simpa using hM
 have k4:(ky:Int)≤4:=by have:=kb.out;omega
 have n3:(n:Int)≤300000:=by have:=HN.out;omega
 by_cases hl:(n:Int)-1-ky<L
 ·
  have HV:=hidi (show R = .more from by
   rw [HR3.out]
   unfold decH
   simp only
   rw [if_pos (.inr (by omega))])
  go_wp2_with (first | (refine Pkt.wpList_load_wanted rfl (.tmp 7) rfl nb rfl (pkCells (blank 0)) (0,0) X7.out (pk_size _) ?_)|(refine wpList_store_row rfl 39 (.tmp 4) (.tmp 56) rfl w.heap.size (pkCells (blank 0)) rfl rfl 39 (pkCells (blank 0)) X4.out pk_info rfl (pk_one _) ?_)|(refine wpList_store_row rfl 73 (.tmp 6) (.tmp 57) rfl (w.heap.size+1) #[.int .i64 0,.int .i64 0] rfl rfl 73 #[.int .i64 0,.int .i64 0] ((setRow_ne (by omega)).trans X5.out) f_info rfl (two_one _ _) ?_))
  have RR:=rd_rows (cs:=pkCells (blank 0)) (ds:=#[.int .i64 0,.int .i64 0]) X4.out X5.out
  refine bodyPost_ret (results_rtr rfl _ _ w.heap.size (w.heap.size+1) 39 73 (pkCells (blank 0)) #[.int .i64 0,.int .i64 0] (0,0) (0,0) _ _ rfl RR.1 Tryz.underlying39 rfl pk_info (.int .i64 0) rfl rfl RR.2 Tryz.underlying73 rfl f_info) rfl ?_
  rw [HV.out]
  exact ⟨rfl,bel_row (bel_row BB.out (Nat.le_refl _)) (by omega)⟩
 obtain ⟨h,hh⟩:∃ h:Nat,h=ky+1:=⟨_,rfl⟩
 have HH:=hidi hh
 have HR4:=hidi (show R=packR (packP z (L+h) h) (L+h) from by rw [HR3.out];exact decH_pack z n h L _ (by omega) (by omega) (by omega))
 obtain ⟨I,hI⟩:∃ I,I=intoP z (L+h) ⟨h,0,0⟩ ((b:Int) / 16) noCn ((b:Int) % 16):=⟨_,rfl⟩
 have HP:=hidi (show packP z (L+h) h=packO I from by rw [packP_eq,HB.out,hI])
 have SM:=hidi (show ∀ y,I = .ok y→Small y.2.1 y.2.2 from fun y hy=>into_small (by have:=HN.out;omega) (by show h≤L+h;omega) (hI.symm.trans hy))
 obtain ⟨ad,had⟩:∃ ad,(if cp=h then some (⟨gb,0,none⟩:Addr) else some ⟨gb,h,none⟩)=some ad:=by
  split
  · exact ⟨_,rfl⟩
  · exact ⟨_,rfl⟩
 have CR:=hidi (show ∀ w',Below W1.heap.size W1 w'→Calls Tryz.prog 60 #[.int .u8 b,.slice (some ad) L (cp-h)] w' fun e w2=>∃ v,e = .returned v∧∃ (q:Pk) (x:Int×Int),v = .tuple #[.agg (pkCells q),.agg #[.int .i64 x.1,.int .i64 x.2]]∧Hid (Got w'.heap.size w2 q (okO I))∧Hid (FltIs h x I)∧Hid (Below w'.heap.size w' w2) from by
  intro w' hw'
  refine (dread_any (z:=sh h z) (n:=L) (k:=cp-h) (ao:=some ad) (b:=b) ⟨by have:=HN.out;omega,fun i=>HC.out.2.1 _,.inr ⟨ad,rfl,fun i hi=>?_⟩⟩ (by have:=HN.out;omega) B256.out).mono fun e w2 hr=>?_
  ·
   rw [if_neg (by have:=HN.out;omega)] at had
   obtain rfl:=Option.some.inj had
   rw [plain_add]
   have:=CL.out w' hw' (h+i) (by omega)
   rw [this,Nat.add_comm h i]
   rfl
  · obtain ⟨v,q,x,h1,h2,h3,h4,h5⟩:=rd_got hr I hI
    exact ⟨v,h1,q,x,h2,h3,h4,h5⟩)
 clear hI hM HR3
 have lb:(L:Int)≤300000:=by omega
 have nn:¬ n=0:=H0.out
 have hlb:decide ((n:Int)-1-ky<L)=false:=decide_eq_false hl
 clear hh
 go_upto_region 16 with fail
 go_cut [11,12] from 58 to 72 (fun s11 s12 wx=>∃ (bP bF:Nat) (q:Pk) (x:Int×Int),s11 = .pointer (some ⟨bP,0,none⟩)∧s12 = .pointer (some ⟨bF,0,none⟩)∧Hid (FltIs h x I)∧Hid (Two W1 bP bF q x.1 x.2 (okO I) wx))
 case first =>
  have t1:(1+(ky:Int)).toNat=h:=by have:=HH.out;omega
  have t2:(1+(ky:Int)+(L:Int)).toNat=L+h:=by have:=HH.out;omega
  have t3:L+h-h=L:=by have:=HH.out;omega
  have t4:IntKind.i64.wrap (1+(ky:Int))=1+(ky:Int):=by rw [IntKind.wrap_i64];have:=HH.out;omega
  have t5:IntKind.i64.wrap (1+(ky:Int)+(L:Int))=1+(ky:Int)+(L:Int):=by rw [IntKind.wrap_i64];have:=HH.out;omega
  have t6:(0:Int)≤1+(ky:Int):=by have:=HH.out;omega
  have t7:1+(ky:Int)≤1+(ky:Int)+(L:Int):=by have:=HH.out;omega
  have t8:1+(ky:Int)+(L:Int)≤(cp:Int):=by have:=HH.out;omega
  have t9:(0:Int)≤1+(ky:Int)+(L:Int):=by have:=HH.out;omega
  refine wp_region_held_drew (S:=fun w'=>Hid (Below W1.heap.size W1 w')) (by kernel_rfl) (show Hid _ from (Below.refl _ _).drew) (fun hHeld=>?_)
  refine tkz 0 ⟨some 59,.move (.tmp 0),32,"crierref3.go:166",#[],none⟩ (.slice (some ⟨gb,0,none⟩) n cp) (fun wq _=>pureVal_run (by kernel_rfl) wq) hHeld ?_
  simp only [Act.put,zz1,zz2,zz3]
  refine tkz 1 ⟨some 60,.indexAddr 32 (.tmp 59) (.const (.int .i64 0)),0,"crierref3.go:166",#[⟨0,.data⟩],none⟩ (.pointer (some ⟨gb,0,none⟩)) (by intro wq hSw;clear hSw hHeld;go_simp) hHeld ?_
  simp only [Act.put,zz1,zz2,zz3]
  refine tkz 2 ⟨some 61,.load 5 (.tmp 60),5,"crierref3.go:166",#[⟨1,.data⟩],none⟩ (.int .u8 b) (by intro wq hSw;have hk:=C0.out wq (Hid.out hSw);clear hSw hHeld;go_simp) hHeld ?_
  simp only [Act.put,zz1,zz2,zz3]
  refine tkz 3 ⟨some 62,.move (.tmp 0),32,"crierref3.go:166",#[],none⟩ (.slice (some ⟨gb,0,none⟩) n cp) (fun wq _=>pureVal_run (by kernel_rfl) wq) hHeld ?_
  simp only [Act.put,zz1,zz2,zz3]
  refine tkz 4 ⟨some 63,.move (.tmp 10),3,"crierref3.go:166",#[],none⟩ (.int .i64 ky) (fun wq _=>pureVal_run (by kernel_rfl) wq) hHeld ?_
  simp only [Act.put,zz1,zz2,zz3]
  refine tkz 5 ⟨some 64,.binOp .add 3 (.const (.int .i64 1)) (.tmp 63) 3,3,"crierref3.go:166",#[⟨4,.data⟩],none⟩ (.int .i64 (1+(ky:Int))) (by intro wq hSw;clear hSw hHeld;go_simp) hHeld ?_
  simp only [Act.put,zz1,zz2,zz3]
  refine tkz 6 ⟨some 65,.move (.tmp 10),3,"crierref3.go:166",#[],none⟩ (.int .i64 ky) (fun wq _=>pureVal_run (by kernel_rfl) wq) hHeld ?_
  simp only [Act.put,zz1,zz2,zz3]
  refine tkz 7 ⟨some 66,.binOp .add 3 (.const (.int .i64 1)) (.tmp 65) 3,3,"crierref3.go:166",#[⟨6,.data⟩],none⟩ (.int .i64 (1+(ky:Int))) (by intro wq hSw;clear hSw hHeld;go_simp) hHeld ?_
  simp only [Act.put,zz1,zz2,zz3]
  refine tkz 8 ⟨some 67,.move (.tmp 9),3,"crierref3.go:166",#[],none⟩ (.int .i64 L) (fun wq _=>pureVal_run (by kernel_rfl) wq) hHeld ?_
  simp only [Act.put,zz1,zz2,zz3]
  refine tkz 9 ⟨some 68,.binOp .add 3 (.tmp 66) (.tmp 67) 3,3,"crierref3.go:166",#[⟨7,.data⟩,⟨8,.data⟩],none⟩ (.int .i64 (1+(ky:Int)+(L:Int))) (by intro wq hSw;clear hSw hHeld;go_simp) hHeld ?_
  simp only [Act.put,zz1,zz2,zz3]
  refine tkz 10 ⟨some 69,.slice 32 (.tmp 62) (some (.tmp 64)) (some (.tmp 68)) none,32,"crierref3.go:166",#[⟨3,.data⟩,⟨5,.data⟩,⟨9,.data⟩],none⟩ (.slice (some ad) L (cp-h)) (by intro wq hSw;clear hSw hHeld;go_simp) hHeld ?_
  simp only [Act.put,zz1,zz2,zz3]
  refine wpAnyH_ready (rs:=[11,15,16]) (by kernel_rfl) (by simp) ?_
  refine (AllReadyH.cons (o:=⟨some 70,.call ⟨.value (.func 60),#[.tmp 61,.tmp 69],#[5,32]⟩,121,"crierref3.go:166",#[⟨2,.data⟩,⟨10,.data⟩],none⟩) (by rfl) (fun K hK=>?_) (AllReadyH.cons (o:=⟨some 11,.alloc 39,0,"crierref3.go:166",#[],none⟩) (by rfl) (fun K hK=>?_) (AllReadyH.cons (o:=⟨some 12,.alloc 73,0,"crierref3.go:166",#[],none⟩) (by rfl) (fun K hK=>?_) AllReadyH.nil)))
  focus
   refine held_call (by kernel_rfl) 60 #[.int .u8 b,.slice (some ad) L (cp-h)] (by clear hHeld hK;go_simp) (R:=fun v w'=>∃ q x,v = .tuple #[.agg (pkCells q),.agg #[.int .i64 x.1,.int .i64 x.2]]∧Hid (Got _ w' q (okO I))∧Hid (FltIs h x I)∧Hid (Below _ _ w')) (CR.out _ hHeld.out) ?_
   rintro _ va ⟨q,x,rfl,hg,FX,hb⟩
   have hS2:=hidi (below_on hHeld.out hb.out)
   have GT:=hidi (hg.out.low hHeld.out.size)
   clear hg hb
   refine hK.out _ _ hS2 (fun hHeld=>?_)
   clear hK K hS2
   (try simp only [Act.put,zz1,zz2,zz3])
   refine tkz 12 ⟨some 58,.move (.tmp 70),121,"crierref3.go:166",#[⟨11,.data⟩],none⟩ (.tuple #[.agg (pkCells q),.agg #[.int .i64 x.1,.int .i64 x.2]]) (fun wq _=>pureVal_run (by kernel_rfl) wq) hHeld ?_
   simp only [Act.put,zz1,zz2,zz3]
   refine tkz 13 ⟨some 71,.extract (.tmp 58) 0,39,"crierref3.go:166",#[⟨12,.data⟩],none⟩ (.agg (pkCells q)) (by intro wq hSw;clear hSw hHeld;go_simp) hHeld ?_
   simp only [Act.put,zz1,zz2,zz3]
   refine tkz 14 ⟨some 72,.extract (.tmp 58) 1,73,"crierref3.go:166",#[⟨12,.data⟩,⟨17,.gcOnly .lateStores⟩],none⟩ (.agg #[.int .i64 x.1,.int .i64 x.2]) (by intro wq hSw;clear hSw hHeld;go_simp) hHeld ?_
   simp only [Act.put,zz1,zz2,zz3]
   refine wpAnyH_ready (rs:=[15,16]) (by kernel_rfl) (by simp) ?_
   refine (AllReadyH.cons (o:=⟨some 11,.alloc 39,0,"crierref3.go:166",#[],none⟩) (by rfl) (fun K hK=>?_) (AllReadyH.cons (o:=⟨some 12,.alloc 73,0,"crierref3.go:166",#[],none⟩) (by rfl) (fun K hK=>?_) AllReadyH.nil))
   focus
    refine held_alloc zero39 (by kernel_rfl) rfl ?_
    intro bP vaa hlP hsP hrP hbP
    have hS2:=hidi (below_on hHeld.out hbP)
    have LP:=hidi (show W1.heap.size≤bP∧bP<vaa.heap.size from ⟨Nat.le_trans hHeld.out.size hlP,hsP⟩)
    have RP:=hidi hrP
    have AP:=hidi (GT.out.new hlP)
    have GT:=hidi (GT.out.below hbP)
    clear hlP hsP hrP hbP
    refine hK.out _ _ hS2 (fun hHeld=>?_)
    clear hK K hS2
    (try simp only [Act.put,zz1,zz2,zz3])
    refine wpAnyH_ready (rs:=[16]) (by kernel_rfl) (by simp) ?_
    refine (AllReadyH.cons (o:=⟨some 12,.alloc 73,0,"crierref3.go:166",#[],none⟩) (by rfl) (fun K hK=>?_) AllReadyH.nil)
    focus
     refine held_alloc zero73 (by kernel_rfl) rfl ?_
     intro bF vaaa hlF hsF hrF hbF
     have hS2:=hidi (below_on hHeld.out hbF)
     have LF:=hidi (show W1.heap.size≤bF∧bF<vaaa.heap.size from ⟨Nat.le_trans hHeld.out.size hlF,hsF⟩)
     have RF:=hidi hrF
     have AF:=hidi (GT.out.new hlF)
     have GT:=hidi (GT.out.below hbF)
     have RP:=hidi ((hbF.block _ LP.out.2).trans RP.out)
     have LP:=hidi (show W1.heap.size≤bP∧bP<vaaa.heap.size from ⟨LP.out.1,Nat.lt_of_lt_of_le LP.out.2 hbF.size⟩)
     clear hlF hsF hrF hbF
     refine hK.out _ _ hS2 (fun hHeld=>?_)
     clear hK K hS2
     (try simp only [Act.put,zz1,zz2,zz3])
    rotate_left 1
   rotate_left 1
   focus
    refine held_alloc zero73 (by kernel_rfl) rfl ?_
    intro bF vab hlF hsF hrF hbF
    have hS2:=hidi (below_on hHeld.out hbF)
    have LF:=hidi (show W1.heap.size≤bF∧bF<vab.heap.size from ⟨Nat.le_trans hHeld.out.size hlF,hsF⟩)
    have RF:=hidi hrF
    have AF:=hidi (GT.out.new hlF)
    have GT:=hidi (GT.out.below hbF)
    clear hlF hsF hrF hbF
    refine hK.out _ _ hS2 (fun hHeld=>?_)
    clear hK K hS2
    (try simp only [Act.put,zz1,zz2,zz3])
    refine wpAnyH_ready (rs:=[15]) (by kernel_rfl) (by simp) ?_
    refine (AllReadyH.cons (o:=⟨some 11,.alloc 39,0,"crierref3.go:166",#[],none⟩) (by rfl) (fun K hK=>?_) AllReadyH.nil)
    focus
     refine held_alloc zero39 (by kernel_rfl) rfl ?_
     intro bP vaba hlP hsP hrP hbP
     have hS2:=hidi (below_on hHeld.out hbP)
     have LP:=hidi (show W1.heap.size≤bP∧bP<vaba.heap.size from ⟨Nat.le_trans hHeld.out.size hlP,hsP⟩)
     have RP:=hidi hrP
     have AP:=hidi (GT.out.new hlP)
     have GT:=hidi (GT.out.below hbP)
     have RF:=hidi ((hbP.block _ LF.out.2).trans RF.out)
     have LF:=hidi (show W1.heap.size≤bF∧bF<vaba.heap.size from ⟨LF.out.1,Nat.lt_of_lt_of_le LF.out.2 hbP.size⟩)
     clear hlP hsP hrP hbP
     refine hK.out _ _ hS2 (fun hHeld=>?_)
     clear hK K hS2
     (try simp only [Act.put,zz1,zz2,zz3])
    rotate_left 1
   rotate_left 1
  rotate_left 2
  focus
   refine held_alloc zero39 (by kernel_rfl) rfl ?_
   intro bP vb hlP hsP hrP hbP
   have hS2:=hidi (below_on hHeld.out hbP)
   have LP:=hidi (show W1.heap.size≤bP∧bP<vb.heap.size from ⟨Nat.le_trans hHeld.out.size hlP,hsP⟩)
   have RP:=hidi hrP
   clear hlP hsP hrP hbP
   refine hK.out _ _ hS2 (fun hHeld=>?_)
   clear hK K hS2
   (try simp only [Act.put,zz1,zz2,zz3])
   refine wpAnyH_ready (rs:=[11,16]) (by kernel_rfl) (by simp) ?_
   refine (AllReadyH.cons (o:=⟨some 70,.call ⟨.value (.func 60),#[.tmp 61,.tmp 69],#[5,32]⟩,121,"crierref3.go:166",#[⟨2,.data⟩,⟨10,.data⟩],none⟩) (by rfl) (fun K hK=>?_) (AllReadyH.cons (o:=⟨some 12,.alloc 73,0,"crierref3.go:166",#[],none⟩) (by rfl) (fun K hK=>?_) AllReadyH.nil))
   focus
    refine held_call (by kernel_rfl) 60 #[.int .u8 b,.slice (some ad) L (cp-h)] (by clear hHeld hK;go_simp) (R:=fun v w'=>∃ q x,v = .tuple #[.agg (pkCells q),.agg #[.int .i64 x.1,.int .i64 x.2]]∧Hid (Got _ w' q (okO I))∧Hid (FltIs h x I)∧Hid (Below _ _ w')) (CR.out _ hHeld.out) ?_
    rintro _ vba ⟨q,x,rfl,hg,FX,hb⟩
    have hS2:=hidi (below_on hHeld.out hb.out)
    have AP:=hidi (hg.out.old LP.out.2)
    have RP:=hidi ((hb.out.block _ LP.out.2).trans RP.out)
    have LP:=hidi (show W1.heap.size≤bP∧bP<vba.heap.size from ⟨LP.out.1,Nat.lt_of_lt_of_le LP.out.2 hb.out.size⟩)
    have GT:=hidi (hg.out.low hHeld.out.size)
    clear hg hb
    refine hK.out _ _ hS2 (fun hHeld=>?_)
    clear hK K hS2
    (try simp only [Act.put,zz1,zz2,zz3])
    refine tkz 12 ⟨some 58,.move (.tmp 70),121,"crierref3.go:166",#[⟨11,.data⟩],none⟩ (.tuple #[.agg (pkCells q),.agg #[.int .i64 x.1,.int .i64 x.2]]) (fun wq _=>pureVal_run (by kernel_rfl) wq) hHeld ?_
    simp only [Act.put,zz1,zz2,zz3]
    refine tkz 13 ⟨some 71,.extract (.tmp 58) 0,39,"crierref3.go:166",#[⟨12,.data⟩],none⟩ (.agg (pkCells q)) (by intro wq hSw;clear hSw hHeld;go_simp) hHeld ?_
    simp only [Act.put,zz1,zz2,zz3]
    refine tkz 14 ⟨some 72,.extract (.tmp 58) 1,73,"crierref3.go:166",#[⟨12,.data⟩,⟨17,.gcOnly .lateStores⟩],none⟩ (.agg #[.int .i64 x.1,.int .i64 x.2]) (by intro wq hSw;clear hSw hHeld;go_simp) hHeld ?_
    simp only [Act.put,zz1,zz2,zz3]
    refine wpAnyH_ready (rs:=[16]) (by kernel_rfl) (by simp) ?_
    refine (AllReadyH.cons (o:=⟨some 12,.alloc 73,0,"crierref3.go:166",#[],none⟩) (by rfl) (fun K hK=>?_) AllReadyH.nil)
    focus
     refine held_alloc zero73 (by kernel_rfl) rfl ?_
     intro bF vbaa hlF hsF hrF hbF
     have hS2:=hidi (below_on hHeld.out hbF)
     have LF:=hidi (show W1.heap.size≤bF∧bF<vbaa.heap.size from ⟨Nat.le_trans hHeld.out.size hlF,hsF⟩)
     have RF:=hidi hrF
     have RP:=hidi ((hbF.block _ LP.out.2).trans RP.out)
     have LP:=hidi (show W1.heap.size≤bP∧bP<vbaa.heap.size from ⟨LP.out.1,Nat.lt_of_lt_of_le LP.out.2 hbF.size⟩)
     have AF:=hidi (GT.out.new hlF)
     have GT:=hidi (GT.out.below hbF)
     clear hlF hsF hrF hbF
     refine hK.out _ _ hS2 (fun hHeld=>?_)
     clear hK K hS2
     (try simp only [Act.put,zz1,zz2,zz3])
    rotate_left 1
   rotate_left 1
   focus
    refine held_alloc zero73 (by kernel_rfl) rfl ?_
    intro bF vbb hlF hsF hrF hbF
    have hS2:=hidi (below_on hHeld.out hbF)
    have LF:=hidi (show W1.heap.size≤bF∧bF<vbb.heap.size from ⟨Nat.le_trans hHeld.out.size hlF,hsF⟩)
    have RF:=hidi hrF
    have RP:=hidi ((hbF.block _ LP.out.2).trans RP.out)
    have LP:=hidi (show W1.heap.size≤bP∧bP<vbb.heap.size from ⟨LP.out.1,Nat.lt_of_lt_of_le LP.out.2 hbF.size⟩)
    clear hlF hsF hrF hbF
    refine hK.out _ _ hS2 (fun hHeld=>?_)
    clear hK K hS2
    (try simp only [Act.put,zz1,zz2,zz3])
    refine wpAnyH_ready (rs:=[11]) (by kernel_rfl) (by simp) ?_
    refine (AllReadyH.cons (o:=⟨some 70,.call ⟨.value (.func 60),#[.tmp 61,.tmp 69],#[5,32]⟩,121,"crierref3.go:166",#[⟨2,.data⟩,⟨10,.data⟩],none⟩) (by rfl) (fun K hK=>?_) AllReadyH.nil)
    focus
     refine held_call (by kernel_rfl) 60 #[.int .u8 b,.slice (some ad) L (cp-h)] (by clear hHeld hK;go_simp) (R:=fun v w'=>∃ q x,v = .tuple #[.agg (pkCells q),.agg #[.int .i64 x.1,.int .i64 x.2]]∧Hid (Got _ w' q (okO I))∧Hid (FltIs h x I)∧Hid (Below _ _ w')) (CR.out _ hHeld.out) ?_
     rintro _ vbba ⟨q,x,rfl,hg,FX,hb⟩
     have hS2:=hidi (below_on hHeld.out hb.out)
     have AP:=hidi (hg.out.old LP.out.2)
     have RP:=hidi ((hb.out.block _ LP.out.2).trans RP.out)
     have LP:=hidi (show W1.heap.size≤bP∧bP<vbba.heap.size from ⟨LP.out.1,Nat.lt_of_lt_of_le LP.out.2 hb.out.size⟩)
     have AF:=hidi (hg.out.old LF.out.2)
     have RF:=hidi ((hb.out.block _ LF.out.2).trans RF.out)
     have LF:=hidi (show W1.heap.size≤bF∧bF<vbba.heap.size from ⟨LF.out.1,Nat.lt_of_lt_of_le LF.out.2 hb.out.size⟩)
     have GT:=hidi (hg.out.low hHeld.out.size)
     clear hg hb
     refine hK.out _ _ hS2 (fun hHeld=>?_)
     clear hK K hS2
     (try simp only [Act.put,zz1,zz2,zz3])
     refine tkz 12 ⟨some 58,.move (.tmp 70),121,"crierref3.go:166",#[⟨11,.data⟩],none⟩ (.tuple #[.agg (pkCells q),.agg #[.int .i64 x.1,.int .i64 x.2]]) (fun wq _=>pureVal_run (by kernel_rfl) wq) hHeld ?_
     simp only [Act.put,zz1,zz2,zz3]
     refine tkz 13 ⟨some 71,.extract (.tmp 58) 0,39,"crierref3.go:166",#[⟨12,.data⟩],none⟩ (.agg (pkCells q)) (by intro wq hSw;clear hSw hHeld;go_simp) hHeld ?_
     simp only [Act.put,zz1,zz2,zz3]
     refine tkz 14 ⟨some 72,.extract (.tmp 58) 1,73,"crierref3.go:166",#[⟨12,.data⟩,⟨17,.gcOnly .lateStores⟩],none⟩ (.agg #[.int .i64 x.1,.int .i64 x.2]) (by intro wq hSw;clear hSw hHeld;go_simp) hHeld ?_
     simp only [Act.put,zz1,zz2,zz3]
    rotate_left 1
   rotate_left 1
  rotate_left 2
  focus
   refine held_alloc zero73 (by kernel_rfl) rfl ?_
   intro bF vc hlF hsF hrF hbF
   have hS2:=hidi (below_on hHeld.out hbF)
   have LF:=hidi (show W1.heap.size≤bF∧bF<vc.heap.size from ⟨Nat.le_trans hHeld.out.size hlF,hsF⟩)
   have RF:=hidi hrF
   clear hlF hsF hrF hbF
   refine hK.out _ _ hS2 (fun hHeld=>?_)
   clear hK K hS2
   (try simp only [Act.put,zz1,zz2,zz3])
   refine wpAnyH_ready (rs:=[11,15]) (by kernel_rfl) (by simp) ?_
   refine (AllReadyH.cons (o:=⟨some 70,.call ⟨.value (.func 60),#[.tmp 61,.tmp 69],#[5,32]⟩,121,"crierref3.go:166",#[⟨2,.data⟩,⟨10,.data⟩],none⟩) (by rfl) (fun K hK=>?_) (AllReadyH.cons (o:=⟨some 11,.alloc 39,0,"crierref3.go:166",#[],none⟩) (by rfl) (fun K hK=>?_) AllReadyH.nil))
   focus
    refine held_call (by kernel_rfl) 60 #[.int .u8 b,.slice (some ad) L (cp-h)] (by clear hHeld hK;go_simp) (R:=fun v w'=>∃ q x,v = .tuple #[.agg (pkCells q),.agg #[.int .i64 x.1,.int .i64 x.2]]∧Hid (Got _ w' q (okO I))∧Hid (FltIs h x I)∧Hid (Below _ _ w')) (CR.out _ hHeld.out) ?_
    rintro _ vca ⟨q,x,rfl,hg,FX,hb⟩
    have hS2:=hidi (below_on hHeld.out hb.out)
    have AF:=hidi (hg.out.old LF.out.2)
    have RF:=hidi ((hb.out.block _ LF.out.2).trans RF.out)
    have LF:=hidi (show W1.heap.size≤bF∧bF<vca.heap.size from ⟨LF.out.1,Nat.lt_of_lt_of_le LF.out.2 hb.out.size⟩)
    have GT:=hidi (hg.out.low hHeld.out.size)
    clear hg hb
    refine hK.out _ _ hS2 (fun hHeld=>?_)
    clear hK K hS2
    (try simp only [Act.put,zz1,zz2,zz3])
    refine tkz 12 ⟨some 58,.move (.tmp 70),121,"crierref3.go:166",#[⟨11,.data⟩],none⟩ (.tuple #[.agg (pkCells q),.agg #[.int .i64 x.1,.int .i64 x.2]]) (fun wq _=>pureVal_run (by kernel_rfl) wq) hHeld ?_
    simp only [Act.put,zz1,zz2,zz3]
    refine tkz 13 ⟨some 71,.extract (.tmp 58) 0,39,"crierref3.go:166",#[⟨12,.data⟩],none⟩ (.agg (pkCells q)) (by intro wq hSw;clear hSw hHeld;go_simp) hHeld ?_
    simp only [Act.put,zz1,zz2,zz3]
    refine tkz 14 ⟨some 72,.extract (.tmp 58) 1,73,"crierref3.go:166",#[⟨12,.data⟩,⟨17,.gcOnly .lateStores⟩],none⟩ (.agg #[.int .i64 x.1,.int .i64 x.2]) (by intro wq hSw;clear hSw hHeld;go_simp) hHeld ?_
    simp only [Act.put,zz1,zz2,zz3]
    refine wpAnyH_ready (rs:=[15]) (by kernel_rfl) (by simp) ?_
    refine (AllReadyH.cons (o:=⟨some 11,.alloc 39,0,"crierref3.go:166",#[],none⟩) (by rfl) (fun K hK=>?_) AllReadyH.nil)
    focus
     refine held_alloc zero39 (by kernel_rfl) rfl ?_
     intro bP vcaa hlP hsP hrP hbP
     have hS2:=hidi (below_on hHeld.out hbP)
     have LP:=hidi (show W1.heap.size≤bP∧bP<vcaa.heap.size from ⟨Nat.le_trans hHeld.out.size hlP,hsP⟩)
     have RP:=hidi hrP
     have RF:=hidi ((hbP.block _ LF.out.2).trans RF.out)
     have LF:=hidi (show W1.heap.size≤bF∧bF<vcaa.heap.size from ⟨LF.out.1,Nat.lt_of_lt_of_le LF.out.2 hbP.size⟩)
     have AP:=hidi (GT.out.new hlP)
     have GT:=hidi (GT.out.below hbP)
     clear hlP hsP hrP hbP
     refine hK.out _ _ hS2 (fun hHeld=>?_)
     clear hK K hS2
     (try simp only [Act.put,zz1,zz2,zz3])
    rotate_left 1
   rotate_left 1
   focus
    refine held_alloc zero39 (by kernel_rfl) rfl ?_
    intro bP vcb hlP hsP hrP hbP
    have hS2:=hidi (below_on hHeld.out hbP)
    have LP:=hidi (show W1.heap.size≤bP∧bP<vcb.heap.size from ⟨Nat.le_trans hHeld.out.size hlP,hsP⟩)
    have RP:=hidi hrP
    have RF:=hidi ((hbP.block _ LF.out.2).trans RF.out)
    have LF:=hidi (show W1.heap.size≤bF∧bF<vcb.heap.size from ⟨LF.out.1,Nat.lt_of_lt_of_le LF.out.2 hbP.size⟩)
    clear hlP hsP hrP hbP
    refine hK.out _ _ hS2 (fun hHeld=>?_)
    clear hK K hS2
    (try simp only [Act.put,zz1,zz2,zz3])
    refine wpAnyH_ready (rs:=[11]) (by kernel_rfl) (by simp) ?_
    refine (AllReadyH.cons (o:=⟨some 70,.call ⟨.value (.func 60),#[.tmp 61,.tmp 69],#[5,32]⟩,121,"crierref3.go:166",#[⟨2,.data⟩,⟨10,.data⟩],none⟩) (by rfl) (fun K hK=>?_) AllReadyH.nil)
    focus
     refine held_call (by kernel_rfl) 60 #[.int .u8 b,.slice (some ad) L (cp-h)] (by clear hHeld hK;go_simp) (R:=fun v w'=>∃ q x,v = .tuple #[.agg (pkCells q),.agg #[.int .i64 x.1,.int .i64 x.2]]∧Hid (Got _ w' q (okO I))∧Hid (FltIs h x I)∧Hid (Below _ _ w')) (CR.out _ hHeld.out) ?_
     rintro _ vcba ⟨q,x,rfl,hg,FX,hb⟩
     have hS2:=hidi (below_on hHeld.out hb.out)
     have AF:=hidi (hg.out.old LF.out.2)
     have RF:=hidi ((hb.out.block _ LF.out.2).trans RF.out)
     have LF:=hidi (show W1.heap.size≤bF∧bF<vcba.heap.size from ⟨LF.out.1,Nat.lt_of_lt_of_le LF.out.2 hb.out.size⟩)
     have AP:=hidi (hg.out.old LP.out.2)
     have RP:=hidi ((hb.out.block _ LP.out.2).trans RP.out)
     have LP:=hidi (show W1.heap.size≤bP∧bP<vcba.heap.size from ⟨LP.out.1,Nat.lt_of_lt_of_le LP.out.2 hb.out.size⟩)
     have GT:=hidi (hg.out.low hHeld.out.size)
     clear hg hb
     refine hK.out _ _ hS2 (fun hHeld=>?_)
     clear hK K hS2
     (try simp only [Act.put,zz1,zz2,zz3])
     refine tkz 12 ⟨some 58,.move (.tmp 70),121,"crierref3.go:166",#[⟨11,.data⟩],none⟩ (.tuple #[.agg (pkCells q),.agg #[.int .i64 x.1,.int .i64 x.2]]) (fun wq _=>pureVal_run (by kernel_rfl) wq) hHeld ?_
     simp only [Act.put,zz1,zz2,zz3]
     refine tkz 13 ⟨some 71,.extract (.tmp 58) 0,39,"crierref3.go:166",#[⟨12,.data⟩],none⟩ (.agg (pkCells q)) (by intro wq hSw;clear hSw hHeld;go_simp) hHeld ?_
     simp only [Act.put,zz1,zz2,zz3]
     refine tkz 14 ⟨some 72,.extract (.tmp 58) 1,73,"crierref3.go:166",#[⟨12,.data⟩,⟨17,.gcOnly .lateStores⟩],none⟩ (.agg #[.int .i64 x.1,.int .i64 x.2]) (by intro wq hSw;clear hSw hHeld;go_simp) hHeld ?_
     simp only [Act.put,zz1,zz2,zz3]
    rotate_left 1
   rotate_left 1
  rotate_left 2
  all_goals
   have TW:=hidi (Two.made (x:=x.1) (y:=x.2) RP.out RF.out LP.out.1 LF.out.1 GT.out AP.out AF.out hHeld.out)
   refine wpAnyH_ready (rs:=[17]) (by kernel_rfl) (by simp) ?_
   refine AllReadyH.cons (o:=⟨none,.store 39 (.tmp 11) (.tmp 71),0,"crierref3.go:166",#[⟨15,.data⟩,⟨13,.data⟩,⟨11,.chain⟩,⟨0,.phase⟩,⟨1,.phase⟩,⟨2,.phase⟩,⟨3,.phase⟩,⟨4,.phase⟩,⟨5,.phase⟩,⟨6,.phase⟩,⟨7,.phase⟩,⟨8,.phase⟩,⟨9,.phase⟩,⟨10,.phase⟩,⟨11,.phase⟩,⟨12,.phase⟩,⟨13,.phase⟩,⟨14,.textOnly .lateStores⟩,⟨15,.phase⟩,⟨16,.phase⟩],none⟩) (by rfl) (fun K hK=>?_) AllReadyH.nil
   refine held_store (by kernel_rfl) 39 (.tmp 11) (.tmp 71) rfl bP (pkCells q) rfl rfl 39 (pkCells (blank 0)) RP.out pk_info rfl (pk_one _) ?_
   have h3:=hidi (bel_row (cs:=pkCells q) hHeld.out LP.out.1)
   refine hK.out _ _ h3 (fun hHeld=>?_)
   clear hK K h3
   (try simp only [Act.put,zz1,zz2,zz3])
   refine wpAnyH_ready (rs:=[18]) (by kernel_rfl) (by simp) ?_
   refine AllReadyH.cons (o:=⟨none,.store 73 (.tmp 12) (.tmp 72),0,"crierref3.go:166",#[⟨16,.data⟩,⟨14,.data⟩,⟨17,.chain⟩,⟨0,.phase⟩,⟨1,.phase⟩,⟨2,.phase⟩,⟨3,.phase⟩,⟨4,.phase⟩,⟨5,.phase⟩,⟨6,.phase⟩,⟨7,.phase⟩,⟨8,.phase⟩,⟨9,.phase⟩,⟨10,.phase⟩,⟨11,.phase⟩,⟨12,.phase⟩,⟨13,.phase⟩,⟨14,.phase⟩,⟨15,.phase⟩,⟨16,.phase⟩,⟨17,.phase⟩],none⟩) (by rfl) (fun K hK=>?_) AllReadyH.nil
   refine held_store (by kernel_rfl) 73 (.tmp 12) (.tmp 72) rfl bF #[.int .i64 x.1,.int .i64 x.2] rfl rfl 73 #[.int .i64 0,.int .i64 0] ((setRow_ne (Ne.symm (rows_ne RP.out RF.out))).trans RF.out) f_info rfl (two_one _ _) ?_
   have h3:=hidi (bel_row (cs:=#[.int .i64 x.1,.int .i64 x.2]) hHeld.out LF.out.1)
   refine hK.out _ _ h3 (fun hHeld=>?_)
   clear hK K h3 hHeld
   (try simp only [Act.put,zz1,zz2,zz3])
   refine wpAnyH_done (by kernel_rfl) ?_ _
   go_wp2_with fail
   go_meet
   case rel=>exact ⟨bP,bF,q,x,rfl,rfl,FX,TW⟩
 case rest =>
  obtain ⟨bP,bF,q,x,rfl,rfl,FX,TW⟩:=hcut
  obtain ⟨wa,hwa⟩:∃ wa,wa=wc:=⟨_,rfl⟩
  subst hwa
  have bel:=TW.out.bel
  have N4:=hidi ((bel.block _ (by have:=SZ.out;omega)).trans X4.out)
  have N5:=hidi ((bel.block _ (by have:=SZ.out;omega)).trans X5.out)
  have N7:=hidi ((bel.block _ (by have:=SZ.out;omega)).trans X7.out)
  have B3:=hidi (show Below w.heap.size w wa from BB.out.trans (bel.mono BB.out.size))
  have LF:=hidi TW.out.lb
  have k0:=dcell TW.out.ft 0 (.int .i64 x.1) rfl
  have k1:=dcell TW.out.ft 1 (.int .i64 x.2) rfl
  have g0:=dfroz TW.out.ft 0
  clear bel CR C0 CL
  cases I with
  | error y =>
   obtain ⟨-,hx2,hy⟩:=FX.out
   have HV:=hidi (show R = .fault (y.1,x.2) from by rw [HR4.out,HP.out,hx2];rfl)
   have hx:x.2≠0:=by rw [hx2];exact hy
   have xe:(x.2 != 0)=true:=by simpa using hx
   have HX:=hidi hx
   clear hx2 hy HR4 HP SM FX hx
   go_upto_region 18 with fail
   go_cut [] from 76 to 81 (fun wx=>∃ t,Hid (wx=wa.setCell ⟨bF,0,none⟩ (.int .i64 t)))
   case first =>
    go_wp2_with fail
    go_meet
    case rel=>exact ⟨_,rfl⟩
   case rest =>
    obtain ⟨t,hw⟩:=hcut
    have HW:=hw.out
    have RT:=heap_set (i:=0) TW.out.ft (.int .i64 t)
    have RT2:wc.heap[bF]?=some (.cells #[.int .i64 t,.int .i64 x.2] 73 (0,0)):=by rw [HW];exact RT
    have N4:=hidi (show wc.heap[w.heap.size]?=some (.cells (pkCells (blank 0)) 39 (0,0)) from by rw [HW];exact (Below.heap_setCell wa _ _ _ (by show w.heap.size≠bF;have:=LF.out;have:=SZ.out;omega)).trans N4.out)
    have N5:=hidi (show wc.heap[w.heap.size+1]?=some (.cells #[.int .i64 0,.int .i64 0] 73 (0,0)) from by rw [HW];exact (Below.heap_setCell wa _ _ _ (by show w.heap.size+1≠bF;have:=LF.out;have:=SZ.out;omega)).trans N5.out)
    have N7:=hidi (show wc.heap[nb]?=some (.cells (pkCells (blank 0)) 39 (0,0)) from by rw [HW];exact (Below.heap_setCell wa _ _ _ (by show nb≠bF;have:=LF.out;have:=SZ.out;omega)).trans N7.out)
    have B4:=hidi (show Below w.heap.size w wc from by rw [HW];exact B3.out.setCell (by show w.heap.size≤bF;have:=LF.out;have:=SZ.out;omega) _)
    have k0:=dcell RT2 0 (.int .i64 t) rfl
    have k1:=dcell RT2 1 (.int .i64 x.2) rfl
    clear hw HW RT RT2 g0 TW B3
    go_upto_region 19 with fail
    refine wp_region_held_drew (S:=fun w'=>w'.heap[nb]?=some (.cells (pkCells (blank 0)) 39 (0,0))∧w'.cell? ⟨bF,0,none⟩=some (.int .i64 t)∧w'.cell? ⟨bF,1,none⟩=some (.int .i64 x.2)) (by kernel_rfl) ⟨N7.out,k0,k1⟩ (fun hHeld=>?_)
    refine tkz 0 ⟨some 82,.load 39 (.tmp 7),39,"crierref3.go:169",#[],none⟩ (.agg (pkCells (blank 0))) (by intro wq hSw;exact load39_at (.tmp 7) rfl nb rfl (pkCells (blank 0)) (0,0) hSw.1 (pk_size _)) hHeld ?_
    simp only [Act.put,zz1,zz2,zz3]
    refine tkz 1 ⟨some 83,.load 73 (.tmp 12),73,"crierref3.go:169",#[⟨3,.gcOnly .lateStores⟩],none⟩ (.agg #[.int .i64 t,.int .i64 x.2]) (by intro wq hSw;obtain ⟨-,s1,s2⟩:=hSw;clear hHeld;go_simp) hHeld ?_
    simp only [Act.put,zz1,zz2,zz3]
    refine wpAnyH_ready (rs:=[2]) (by kernel_rfl) (by simp) ?_
    refine AllReadyH.cons (o:=⟨none,.store 39 (.tmp 4) (.tmp 82),0,"crierref3.go:169",#[⟨0,.data⟩,⟨0,.phase⟩,⟨1,.textOnly .lateStores⟩],none⟩) (by rfl) (fun K hK=>?_) AllReadyH.nil
    refine held_store (by kernel_rfl) 39 (.tmp 4) (.tmp 82) rfl w.heap.size (pkCells (blank 0)) rfl rfl 39 (pkCells (blank 0)) N4.out pk_info rfl (pk_one _) ?_
    refine hK.out _ _ ⟨(setRow_ne (by have:=SZ.out;omega)).trans N7.out,(row_cell (by have:=LF.out;have:=SZ.out;omega)).trans k0,(row_cell (by have:=LF.out;have:=SZ.out;omega)).trans k1⟩ (fun hHeld=>?_)
    clear hK K
    (try simp only [Act.put,zz1,zz2,zz3])
    refine tkz 3 ⟨some 5,.assign (.const (.int .i64 0)),3,"crierref3.go:169",#[⟨2,.chain⟩,⟨0,.phase⟩,⟨1,.textOnly .lateStores⟩,⟨2,.phase⟩],none⟩ (.int .i64 0) (fun wq _=>pureVal_run (by kernel_rfl) wq) hHeld ?_
    simp only [Act.put,zz1,zz2,zz3]
    refine wpAnyH_ready (rs:=[4]) (by kernel_rfl) (by simp) ?_
    refine AllReadyH.cons (o:=⟨none,.store 73 (.tmp 6) (.tmp 83),0,"crierref3.go:169",#[⟨1,.data⟩,⟨3,.chain⟩,⟨0,.phase⟩,⟨1,.phase⟩,⟨2,.phase⟩,⟨3,.phase⟩],none⟩) (by rfl) (fun K hK=>?_) AllReadyH.nil
    refine held_store (by kernel_rfl) 73 (.tmp 6) (.tmp 83) rfl (w.heap.size+1) #[.int .i64 t,.int .i64 x.2] rfl rfl 73 #[.int .i64 0,.int .i64 0] ((setRow_ne (by omega)).trans N5.out) f_info rfl (two_one _ _) ?_
    refine hK.out _ _ ⟨(setRow_ne (by have:=SZ.out;omega)).trans ((setRow_ne (by have:=SZ.out;omega)).trans N7.out),(row_cell (by have:=LF.out;have:=SZ.out;omega)).trans ((row_cell (by have:=LF.out;have:=SZ.out;omega)).trans k0),(row_cell (by have:=LF.out;have:=SZ.out;omega)).trans ((row_cell (by have:=LF.out;have:=SZ.out;omega)).trans k1)⟩ (fun hHeld=>?_)
    clear hK K hHeld
    (try simp only [Act.put,zz1,zz2,zz3])
    refine wpAnyH_done (by kernel_rfl) ?_ _
    go_wp2_with fail
    have RR:=rd_rows (v:=wc.drew) (cs:=pkCells (blank 0)) (ds:=#[.int .i64 t,.int .i64 x.2]) N4.out N5.out
    refine bodyPost_ret (results_rtr rfl _ _ w.heap.size (w.heap.size+1) 39 73 (pkCells (blank 0)) #[.int .i64 t,.int .i64 x.2] (0,0) (0,0) _ _ rfl RR.1 Tryz.underlying39 rfl pk_info (.int .i64 0) rfl rfl RR.2 Tryz.underlying73 rfl f_info) rfl ?_
    rw [HV.out]
    exact ⟨⟨_,rfl⟩,HX.out,bel_row (bel_row B4.out.drew (Nat.le_refl _)) (by omega)⟩
  | ok y =>
   obtain rfl:x=(0,0):=FX.out
   obtain ⟨hin,hal,hnx⟩:=TW.out.got
   have RC:=hidi (Pkt.rcheck2_any q y.2.2 wa hin (small_alike hal (SM.out y rfl)))
   rw [ck_alike hal] at RC
   obtain ⟨E,hE⟩:∃ E,ck TT y.2.1 y.2.2=E:=⟨_,rfl⟩
   rw [hE] at RC
   have HR5:=hidi (show R=if E=0 then .ok y.2.1 y.2.2 (L+h) else .fault (0,(E:Int)) from by
    rw [HR4.out,HP.out,packO,hE]
    by_cases e:E=0
    · rw [if_pos e,if_pos e];rfl
    · rw [if_neg e,if_neg e];rfl)
   have GT:=hidi TW.out.got
   have PK:=hidi TW.out.pk
   clear hin hal hnx hE HR4 HP SM FX
   go_wp2_with (first | (refine Pkt.wpList_load_wanted rfl (.tmp 11) rfl bP rfl (pkCells q) (0,0) PK.out (pk_size _) ?_))
   go_must (go_at_call 61)
   refine RC.out.mono ?_
   rintro e v ⟨rfl,hb⟩
   have N4:=hidi (Co.later_at N4.out hb)
   have N5:=hidi (Co.later_at N5.out hb)
   have N7:=hidi (Co.later_at N7.out hb)
   have PK:=hidi (Co.later_at PK.out hb)
   have GT:=hidi (GT.out.below hb)
   have B4:=hidi (show Below w.heap.size w v from B3.out.trans (hb.mono B3.out.size))
   clear hb RC TW B3 k0 k1 g0
   by_cases hE:E=0
   ·
    subst hE
    have HV:=hidi (show R = .ok y.2.1 y.2.2 (L+h) from by rw [HR5.out,if_pos rfl])
    have hs:(1:Int)+(ky:Int)+(L:Int)=((L+h:Nat):Int):=by have:=HH.out;omega
    have hs2:IntKind.i64.wrap ((1:Int)+(ky:Int)+(L:Int))=((L+h:Nat):Int):=by rw [IntKind.wrap_i64];have:=HH.out;omega
    have hs3:IntKind.i64.wrap ((1:Int)+(ky:Int))=(1:Int)+(ky:Int):=by rw [IntKind.wrap_i64];omega
    go_wp2_with (first | (refine Pkt.wpList_load_wanted rfl (.tmp 11) rfl bP rfl (pkCells q) (0,0) PK.out (pk_size _) ?_)|(refine wpList_store_row rfl 39 (.tmp 4) (.tmp 91) rfl w.heap.size (pkCells q) rfl rfl 39 (pkCells (blank 0)) N4.out pk_info rfl (pk_one _) ?_)|(refine wpList_store_row rfl 73 (.tmp 6) (.tmp 96) rfl (w.heap.size+1) #[.int .i64 0,.int .i64 0] rfl rfl 73 #[.int .i64 0,.int .i64 0] ((setRow_ne (by omega)).trans N5.out) f_info rfl (two_one _ _) ?_))
    have RR:=rd_rows (cs:=(pkCells q)) (ds:=#[.int .i64 0,.int .i64 0]) N4.out N5.out
    refine bodyPost_ret (results_rtr rfl _ _ w.heap.size (w.heap.size+1) 39 73 (pkCells q) #[.int .i64 0,.int .i64 0] (0,0) (0,0) _ _ rfl RR.1 Tryz.underlying39 rfl pk_info (.int .i64 ((L+h:Nat):Int)) rfl rfl RR.2 Tryz.underlying73 rfl f_info) rfl ?_
    rw [HV.out]
    exact ⟨⟨q,by rfl,((GT.out.row (GT.out.old (by have:=SZ.out;omega))).row (GT.out.old (by have:=SZ.out;omega))).1,GT.out.2.1,nx_low GT.out.2.2 (by have:=SZ.out;omega)⟩,bel_row (bel_row B4.out (Nat.le_refl _)) (by omega)⟩
   ·
    have HV:=hidi (show R = .fault (0,(E:Int)) from by rw [HR5.out,if_neg hE])
    have e0:((E:Int) != 0)=true:=by simpa using hE
    go_wp2_with (first | (refine Pkt.wpList_load_wanted rfl (.tmp 7) rfl nb rfl (pkCells (blank 0)) (0,0) N7.out (pk_size _) ?_)|(refine wpList_store_row rfl 39 (.tmp 4) (.tmp 88) rfl w.heap.size (pkCells (blank 0)) rfl rfl 39 (pkCells (blank 0)) N4.out pk_info rfl (pk_one _) ?_)|(refine wpList_store_row rfl 73 (.tmp 6) (.tmp 90) rfl (w.heap.size+1) #[.int .i64 0,.int .i64 (E:Int)] rfl rfl 73 #[.int .i64 0,.int .i64 0] ((setRow_ne (by omega)).trans N5.out) f_info rfl (two_one _ _) ?_))
    have RR:=rd_rows (cs:=(pkCells (blank 0))) (ds:=#[.int .i64 0,.int .i64 (E:Int)]) N4.out N5.out
    refine bodyPost_ret (results_rtr rfl _ _ w.heap.size (w.heap.size+1) 39 73 (pkCells (blank 0)) #[.int .i64 0,.int .i64 (E:Int)] (0,0) (0,0) _ _ rfl RR.1 Tryz.underlying39 rfl pk_info (.int .i64 0) rfl rfl RR.2 Tryz.underlying73 rfl f_info) rfl ?_
    rw [HV.out]
    exact ⟨⟨_,rfl⟩,by show (E:Int)≠0;omega,bel_row (bel_row B4.out (Nat.le_refl _)) (by omega)⟩
end Go.Proofs.YtpldoeeahhaimaaGreatDoor.Dr
