import Derived.Test.YtpldoeeahhaimaaGreatDoorDsv
namespace Go.Proofs.YtpldoeeahhaimaaGreatDoor.Dr
open Go Go.RowKit
open Pkt (Pk Cn Sl In By Is Ss As pkCells Small ck TT)
open Co (inC inA ansP kpC cnC)
set_option linter.unusedSimpArgs false
set_option linter.unusedVariables false
set_option maxRecDepth 100000
set_option maxHeartbeats 4000000
def dcC (fp:Value) (mc st pat keep si:Int):Array Value:=#[fp,.int .i64 mc,.int .i64 st,.int .i64 pat,.int .i64 keep,.int .i64 si]
def DcAt (w:World) (rb gb:Nat) (mc st pat keep si:Int):Prop:=w.heap[rb]?=some (.cells (dcC (.pointer (some ⟨gb,0,none⟩)) mc st pat keep si) 62 (0,0))
section
variable {w w':World} {rb gb:Nat} {mc st pat keep si:Int}
theorem DcAt.lt (h:DcAt w rb gb mc st pat keep si):rb<w.heap.size:=(Array.getElem?_eq_some_iff.1 h).1
theorem DcAt.cell (h:DcAt w rb gb mc st pat keep si) (k:Nat) (u:Value) (hk:(dcC (.pointer (some ⟨gb,0,none⟩)) mc st pat keep si)[k]?=some u):w.cell? ⟨rb,k,none⟩=some u:=dcell h k u hk
theorem DcAt.frozen (h:DcAt w rb gb mc st pat keep si) (k:Nat):w.frozen? ⟨rb,k,none⟩=false:=dfroz h k
theorem dc_keep (h:DcAt w rb gb mc st pat keep si) (hk:w'.heap[rb]?=w.heap[rb]?):DcAt w' rb gb mc st pat keep si:=hk.trans h
theorem DcAt.setSt (h:DcAt w rb gb mc st pat keep si) (x:Int):DcAt (w.setCell ⟨rb,2,none⟩ (.int .i64 x)) rb gb mc x pat keep si:=heap_set (i:=2) h (.int .i64 x)
theorem DcAt.setKp (h:DcAt w rb gb mc st pat keep si) (x:Int):DcAt (w.setCell ⟨rb,4,none⟩ (.int .i64 x)) rb gb mc st pat x si:=heap_set (i:=4) h (.int .i64 x)
theorem DcAt.setSi (h:DcAt w rb gb mc st pat keep si) (x:Int):DcAt (w.setCell ⟨rb,5,none⟩ (.int .i64 x)) rb gb mc st pat keep x:=heap_set (i:=5) h (.int .i64 x)
theorem ch_set {S:Nat→Prop} {a b:World} {g i:Nat} {v:Value} (h:Ch S a b) (hg:S g):Ch S a (b.setCell ⟨g,i,none⟩ v):=⟨h.os,h.tape,h.output,by rw [set_size];exact h.size,fun k hk hn=>(Below.heap_setCell _ _ _ _ (fun e=>hn (by rw [e];exact hg))).trans (h.block k hk hn)⟩
theorem dcnew_any (most pt:Int) (w:World):Calls Tryz.prog 15 #[.int .i64 most,.int .i64 pt] w fun e w'=>e = .returned (.pointer (some ⟨w.heap.size+1,0,none⟩))∧w'=(w.alloc (.cells (dfC most (.slice none 0 0) 0 0 0) 85)).alloc (.cells (dcC (.pointer (some ⟨w.heap.size,0,none⟩)) (clampM most) 0 (max pt 0) 0 0) 62):=by
 obtain ⟨m,hm⟩:∃ m,max pt 0=m:=⟨_,rfl⟩
 have N:=hidi (dfnew_any most w)
 rw [hm]
 go_enter Tryz.func15,Tryz.ntmps15
 go_wp2_with (go_at_call 33;refine N.out.mono ?_;rintro e w' ⟨rfl,rfl⟩)
 go_ret
 exact ⟨by simp,rfl⟩
theorem dover_any (h:DcAt w rb gb mc st pat keep si):Calls Tryz.prog 24 #[.pointer (some ⟨rb,0,none⟩)] w fun e w'=>e = .returned (.bool (st==2))∧w'=w:=by
 have c2:=h.cell 2 (.int .i64 st) rfl
 clear h
 go_enter Tryz.func24,Tryz.ntmps24
 go_wp2
 go_ret
 exact ⟨rfl,rfl⟩
theorem dstop_any (h:DcAt w rb gb mc st pat keep si):Calls Tryz.prog 20 #[.pointer (some ⟨rb,0,none⟩)] w fun e w'=>e = .returned (.tuple #[])∧DcAt w' rb gb mc 2 pat keep si∧Ch (fun k=>k=rb) w w':=by
 have c2:=h.cell 2 (.int .i64 st) rfl
 have z2:=h.frozen 2
 have H:=hidi (And.intro (h.setSt 2) (ch_set (i:=2) (v:=.int .i64 2) (Ch.refl (fun k=>k=rb) w) rfl))
 clear h
 go_enter Tryz.func20,Tryz.ntmps20
 go_wp2
 go_end0
 exact ⟨rfl,H.out⟩
theorem dpush_over (h:DcAt w rb gb mc 2 pat keep si) (a:Option Addr) (n c:Nat):Calls Tryz.prog 10 #[.pointer (some ⟨rb,0,none⟩),.slice a n c] w fun e w'=>e = .returned (.tuple #[])∧w'=w:=by
 have c2:=h.cell 2 (.int .i64 2) rfl
 clear h
 go_enter Tryz.func10,Tryz.ntmps10
 go_wp2
 go_end0
 exact ⟨rfl,rfl⟩
theorem dpush_any (h:DcAt w rb gb mc st pat keep si) (hst:st≠2) {Q:World→Prop} (a:Option Addr) (n c:Nat) (hp:Calls Tryz.prog 26 #[.pointer (some ⟨gb,0,none⟩),.slice a n c] w fun e w'=>e = .returned (.tuple #[])∧Q w'):Calls Tryz.prog 10 #[.pointer (some ⟨rb,0,none⟩),.slice a n c] w fun e w'=>e = .returned (.tuple #[])∧Q w':=by
 have c2:=h.cell 2 (.int .i64 st) rfl
 have c0:=h.cell 0 (.pointer (some ⟨gb,0,none⟩)) rfl
 have es:(st != 2)=true:=by simpa using hst
 have HP:=hidi hp
 clear h hst hp
 go_enter Tryz.func10,Tryz.ntmps10
 go_wp2_with fail
 go_must (go_at_call 26)
 refine HP.out.mono ?_
 rintro e w1 ⟨rfl,hq⟩
 have HQ:=hidi hq
 clear hq
 go_wp2_with fail
 go_end0
 exact ⟨rfl,HQ.out⟩
def dTook (st keep si what kind ka:Int):Int×Int×Int :=
 if st=2 then (st,keep,si) else if what≠1∨kind=14 then (2,keep,si) else if kind=1 then (1,kpC ka,0) else (st,keep,0)
theorem dtook_any (h:DcAt w rb gb mc st pat keep si) (what:Int) (q:Pk) (code err:Int):Calls Tryz.prog 23 #[.pointer (some ⟨rb,0,none⟩),.agg (inC what q code err)] w fun e w'=>e = .returned (.tuple #[])∧DcAt w' rb gb mc (dTook st keep si what q.kind q.keep).1 pat (dTook st keep si what q.kind q.keep).2.1 (dTook st keep si what q.kind q.keep).2.2∧Ch (fun k=>k=rb) w w':=by
 obtain ⟨P,hP⟩:∃ P,P=inC what q code err:=⟨_,rfl⟩
 rw [← hP]
 obtain ⟨D,hD⟩:∃ D,D=dTook st keep si what q.kind q.keep:=⟨_,rfl⟩
 rw [← hD]
 obtain ⟨W,hW⟩:∃ W,W=w.alloc (.cells P 42):=⟨_,rfl⟩
 have b1:Below w.heap.size w W:=by rw [hW];exact (Below.refl _ _).alloc (Nat.le_refl _) _
 have a1:W.heap[w.heap.size]?=some (.cells (inC what q code err) 42 (0,0)):=by rw [hW,← hP];exact heap_alloc_new _ _
 have h1:DcAt W rb gb mc st pat keep si:=dc_keep h (b1.block rb h.lt)
 have i0:=dcell a1 0 (.int .i64 what) rfl
 have i1:=dcell a1 1 (.int .i64 q.kind) rfl
 have i4:=dcell a1 4 (.int .i64 q.keep) rfl
 have c2:=h1.cell 2 (.int .i64 st) rfl
 have c4:=h1.cell 4 (.int .i64 keep) rfl
 have c5:=h1.cell 5 (.int .i64 si) rfl
 have z2:=h1.frozen 2
 have z4:=h1.frozen 4
 have z5:=h1.frozen 5
 have hne:rb≠w.heap.size:=by have:=h.lt;omega
 have hne':w.heap.size≠rb:=hne.symm
 have HC:=hidi (show Ch (fun k=>k=rb) w W from Below.ch b1)
 have H1:=hidi h1
 clear hP a1 h b1 h1
 by_cases hst:st=2
 ·
  have HT:=hidi (show D=(st,keep,si) from by rw [hD,dTook,if_pos hst])
  rw [hst] at c2
  clear hD
  go_enter Tryz.func23,Tryz.ntmps23
  go_upto_block 0 with fail
  rw [← hW]
  clear hW
  go_wp2_with fail
  go_end0
  rw [HT.out]
  exact ⟨rfl,H1.out,HC.out⟩
 have es:(st==2)=false:=by simpa using hst
 by_cases hw1:what=1
 case neg =>
  have HT:=hidi (show D=(2,keep,si) from by rw [hD,dTook,if_neg hst,if_pos (.inl hw1)])
  have ew:(what != 1)=true:=by simpa using hw1
  clear hD
  go_enter Tryz.func23,Tryz.ntmps23
  go_upto_block 0 with fail
  rw [← hW]
  clear hW
  go_wp2_with fail
  go_end0
  rw [HT.out]
  exact ⟨rfl,H1.out.setSt 2,ch_set HC.out rfl⟩
 by_cases h14:q.kind=14
 ·
  have HT:=hidi (show D=(2,keep,si) from by rw [hD,dTook,if_neg hst,if_pos (.inr h14)])
  rw [hw1] at i0
  rw [h14] at i1
  clear hD
  go_enter Tryz.func23,Tryz.ntmps23
  go_upto_block 0 with fail
  rw [← hW]
  clear hW
  go_wp2_with fail
  go_end0
  rw [HT.out]
  exact ⟨rfl,H1.out.setSt 2,ch_set HC.out rfl⟩
 have e14:(q.kind==14)=false:=by simpa using h14
 have hno:¬ (what≠1∨q.kind=14):=fun e=>e.elim (fun e=>e hw1) h14
 rw [hw1] at i0
 by_cases hk1:q.kind=1
 ·
  have HT:=hidi (show D=(1,kpC q.keep,0) from by rw [hD,dTook,if_neg hst,if_neg hno,if_pos hk1])
  rw [hk1] at i1
  clear hD hno
  go_enter Tryz.func23,Tryz.ntmps23
  go_upto_block 0 with fail
  rw [← hW]
  clear hW
  go_wp2_with fail
  go_end0
  rw [HT.out]
  exact ⟨rfl,((H1.out.setSt 1).setKp (kpC q.keep)).setSi 0,ch_set (ch_set (ch_set HC.out rfl) rfl) rfl⟩
 ·
  have HT:=hidi (show D=(st,keep,0) from by rw [hD,dTook,if_neg hst,if_neg hno,if_neg hk1])
  have e1:(q.kind==1)=false:=by simpa using hk1
  clear hD hno
  go_enter Tryz.func23,Tryz.ntmps23
  go_upto_block 0 with fail
  rw [← hW]
  clear hW
  go_wp2_with fail
  go_end0
  rw [HT.out]
  exact ⟨rfl,H1.out.setSi 0,ch_set HC.out rfl⟩
end
open Co (inC inA ansP kpC cnC wpList_load41 in_info in_one wpList_build_pk zero_in)
section
variable {w w':World} {rb gb:Nat} {mc st pat keep si:Int}
def dLate (st pat keep s:Int):Bool:=if st=0 then decide (0<pat) && decide (pat<s) else if st=1 then decide (0<keep) && decide (3*keep<2*s) else false
theorem dtick_any (h:DcAt w rb gb mc st pat keep si) (hs:0≤si∧si≤1000000000) (hk:0≤keep∧keep≤65535) (h3:st=0∨st=1∨st=2):Calls Tryz.prog 18 #[.pointer (some ⟨rb,0,none⟩)] w fun e w'=>e = .returned (.bool (dLate st pat keep (si+1)))∧DcAt w' rb gb mc st pat keep (si+1)∧Ch (fun k=>k=rb) w w':=by
 have c5:=h.cell 5 (.int .i64 si) rfl
 have z5:=h.frozen 5
 have hw:IntKind.i64.wrap (si+1)=si+1:=by rw [IntKind.wrap_i64];omega
 obtain ⟨w1,hw1⟩:∃ w1,w1=w.setCell ⟨rb,5,none⟩ (.int .i64 (si+1)):=⟨_,rfl⟩
 have h1:DcAt w1 rb gb mc st pat keep (si+1):=by rw [hw1];exact h.setSi _
 have hc1:Ch (fun k=>k=rb) w w1:=by rw [hw1];exact ch_set (Ch.refl _ _) rfl
 have H1:=hidi (fun n=>(show DcAt (w1.drewN n) rb gb mc st pat keep (si+1)∧Ch (fun k=>k=rb) w (w1.drewN n) from ⟨dc_keep h1 (by simp),hc1.trans (Below.ch (S:=fun k=>k=rb) (below_drewN (Below.refl _ _) n)) (fun _ _ q=>q)⟩))
 have H0:=hidi (And.intro h1 hc1)
 have d2:=h1.cell 2 (.int .i64 st) rfl
 have d3:=h1.cell 3 (.int .i64 pat) rfl
 have d4:=h1.cell 4 (.int .i64 keep) rfl
 have d5:=h1.cell 5 (.int .i64 (si+1)) rfl
 have q2:IntKind.i64.wrap (2*(si+1))=2*(si+1):=by rw [IntKind.wrap_i64];omega
 have q3:IntKind.i64.wrap (3*keep)=3*keep:=by rw [IntKind.wrap_i64];omega
 clear h h1 hc1 hs hk
 go_enter Tryz.func18,Tryz.ntmps18
 go_upto_region 2 with fail
 rw [← hw1]
 clear hw1 c5 z5 hw
 rcases h3 with rfl | rfl | rfl
 ·
  by_cases hb:0<pat
  ·
   have e1:decide (0<pat)=true:=decide_eq_true hb
   by_cases hl:pat<si+1
   ·
    have e2:decide (pat<si+1)=true:=decide_eq_true hl
    have HV:=hidi (show dLate 0 pat keep (si+1)=true by unfold dLate;rw [if_pos rfl,e1,e2];rfl)
    clear hb hl
    go_upto_region 4 with fail
    go_quiet (fail)
    go_wp2_with fail
    go_ret
    exact ⟨by rw [HV.out];rfl,H1.out _⟩
   ·
    have e2:decide (pat<si+1)=false:=decide_eq_false hl
    have HV:=hidi (show dLate 0 pat keep (si+1)=false by unfold dLate;rw [if_pos rfl,e1,e2];rfl)
    clear hb hl
    go_upto_region 4 with fail
    go_quiet (fail)
    go_wp2_with fail
    go_ret
    exact ⟨by rw [HV.out];rfl,H1.out _⟩
  ·
   have e1:decide (0<pat)=false:=decide_eq_false hb
   have HV:=hidi (show dLate 0 pat keep (si+1)=false by unfold dLate;rw [if_pos rfl,e1];rfl)
   clear hb
   go_upto_region 4 with fail
   go_big_quiet (fail)
   go_wp2_with fail
   go_ret
   exact ⟨by rw [HV.out];rfl,H1.out _⟩
 ·
  by_cases hb:0<keep
  ·
   have e1:decide (0<keep)=true:=decide_eq_true hb
   by_cases hl:3*keep<2*(si+1)
   ·
    have e2:decide (3*keep<2*(si+1))=true:=decide_eq_true hl
    have HV:=hidi (show dLate 1 pat keep (si+1)=true by unfold dLate;rw [if_neg (by decide),if_pos rfl,e1,e2];rfl)
    clear hb hl
    go_upto_region 6 with fail
    go_quiet (fail)
    go_wp2_with fail
    go_ret
    exact ⟨by rw [HV.out];rfl,H1.out _⟩
   ·
    have e2:decide (3*keep<2*(si+1))=false:=decide_eq_false hl
    have HV:=hidi (show dLate 1 pat keep (si+1)=false by unfold dLate;rw [if_neg (by decide),if_pos rfl,e1,e2];rfl)
    clear hb hl
    go_upto_region 6 with fail
    go_quiet (fail)
    go_wp2_with fail
    go_ret
    exact ⟨by rw [HV.out];rfl,H1.out _⟩
  ·
   have e1:decide (0<keep)=false:=decide_eq_false hb
   have HV:=hidi (show dLate 1 pat keep (si+1)=false by unfold dLate;rw [if_neg (by decide),if_pos rfl,e1];rfl)
   clear hb
   go_upto_region 6 with fail
   go_big_quiet (fail)
   go_wp2_with fail
   go_ret
   exact ⟨by rw [HV.out];rfl,H1.out _⟩
 ·
  go_wp2_with fail
  go_ret
  exact ⟨rfl,H0.out⟩
theorem dtuk_any (h:DcAt w rb gb mc st pat keep si) (what:Int) (q:Pk) (code err:Int):Calls Tryz.prog 35 #[.pointer (some ⟨rb,0,none⟩),.agg (inC what q code err)] w fun e w'=>e = .returned (.tuple #[.agg (inC what q code err),.bool true])∧DcAt w' rb gb mc (dTook st keep si what q.kind q.keep).1 pat (dTook st keep si what q.kind q.keep).2.1 (dTook st keep si what q.kind q.keep).2.2∧Ch (fun k=>k=rb) w w':=by
 obtain ⟨P,hP⟩:∃ P,P=inC what q code err:=⟨_,rfl⟩
 have PS:P.size=28:=by rw [hP];rfl
 have PO:P.all (·.oneCell')=true:=by rw [hP];exact in_one _ _ _ _
 obtain ⟨V,hV⟩:∃ V,V=w.alloc (.cells P 42):=⟨_,rfl⟩
 have b1:Below w.heap.size w V:=by rw [hV];exact (Below.refl _ _).alloc (Nat.le_refl _) _
 have a1:V.heap[w.heap.size]?=some (.cells P 42 (0,0)):=by rw [hV];exact heap_alloc_new _ _
 obtain ⟨W,hW⟩:∃ W,W=V.alloc (.cells (inC 0 (blank 0) 0 0) 42):=⟨_,rfl⟩
 have b2:Below V.heap.size V W:=by rw [hW];exact (Below.refl _ _).alloc (Nat.le_refl _) _
 have sv:V.heap.size=w.heap.size+1:=by rw [hV];simp
 have A1:=hidi ((b2.block _ (by omega)).trans a1)
 have A2:=hidi (show W.heap[w.heap.size+1]?=some (.cells (inC 0 (blank 0) 0 0) 42 (0,0)) from by rw [← sv,hW];exact heap_alloc_new V _)
 have h1:DcAt W rb gb mc st pat keep si:=dc_keep h ((b2.block rb (by have:=h.lt;omega)).trans (b1.block rb h.lt))
 have TK:=hidi (dtook_any h1 what q code err)
 have LT:=hidi (show rb<w.heap.size from h.lt)
 have BW:=hidi (show Below w.heap.size w W from Co.bel_on b1 b2)
 have SW:=hidi (show w.heap.size+2=W.heap.size from by rw [hW];simp;omega)
 rw [← hP] at TK ⊢
 have HV:=hidi hV
 have HW:=hidi hW
 clear hP h b1 a1 b2 sv h1 hV hW
 go_enter Tryz.func35,Tryz.ntmps35
 go_upto_region 1 with fail
 rw [← HV.out]
 rw [show V.alloc (.cells #[.int .i64 0,.int .i64 0,.int .i64 0,.bool false,.int .i64 0,.string ⟨#[]⟩,.bool false,.string ⟨#[]⟩,.slice none 0 0,.int .i64 0,.bool false,.bool false,.string ⟨#[]⟩,.bool false,.slice none 0 0,.bool false,.int .i64 0,.bool false,.string ⟨#[]⟩,.slice none 0 0,.int .i64 0,.bool false,.int .i64 0,.slice none 0 0,.slice none 0 0,.slice none 0 0,.int .i64 0,.int .i64 0] 42)=W from HW.out.symm]
 clear HV HW
 go_wp2_with (first | (refine wpList_load41 (by kernel_rfl) (.tmp 3) rfl w.heap.size rfl P (0,0) A1.out PS ?_))
 go_must (go_at_call 23)
 refine TK.out.mono ?_
 rintro e v ⟨rfl,hd,hc⟩
 have D:=hidi hd
 have C:=hidi hc
 have M1:=hidi ((hc.block w.heap.size (by have:=SW.out;omega) (by have:=LT.out;omega)).trans A1.out)
 have M2:=hidi ((hc.block (w.heap.size+1) (by have:=SW.out;omega) (by have:=LT.out;omega)).trans A2.out)
 clear hd hc TK
 go_wp2_with (first | (refine wpList_load41 (by kernel_rfl) (.tmp 3) rfl w.heap.size rfl P (0,0) M1.out PS ?_)|(refine wpList_store_row rfl 42 (.tmp 4) (.tmp 9) rfl (w.heap.size+1) P rfl rfl 42 (inC 0 (blank 0) 0 0) M2.out (by rw [PS];kernel_rfl) (by rw [PS];rfl) PO ?_))
 refine bodyPost_ret (results_row_tmp rfl _ _ (w.heap.size+1) 42 P (0,0) _ rfl (setRow_at M2.out) Tryz.underlying42 rfl (by rw [PS];kernel_rfl)) rfl ?_
 refine ⟨rfl,dc_keep D.out (setRow_ne (by have:=LT.out;omega)),?_⟩
 have hc:=C.out
 refine ⟨hc.os.trans BW.out.os,hc.tape.trans BW.out.tape,hc.output.trans BW.out.output,by rw [setRow_size];exact Nat.le_trans BW.out.size hc.size,fun k hk hn=>?_⟩
 exact (setRow_ne (by omega)).trans ((hc.block k (Nat.lt_of_lt_of_le hk BW.out.size) hn).trans (BW.out.block k hk))
end
open Co (inC inA ansP kpC cnC wpList_load41 in_info in_one wpList_build_pk zero_in ans_alike)
set_option maxHeartbeats 8000000
section
variable {w w':World} {rb gb:Nat} {mc st pat keep si:Int}
def dNew (st keep si:Int) (p:Pk):Int×Int×Int:=dTook st keep si (ansP st p).1 (if (ansP st p).1=1 then p else blank 0).kind (if (ansP st p).1=1 then p else blank 0).keep
def DCx (w w':World) (e:Ending) (rb gb:Nat) (most mc st pat keep si:Int) (a0:Int) (z:Nat→Int) (H:Nat):DecR→Prop
 | .more=>e = .returned (.tuple #[.agg (inC 0 (blank 0) 0 0),.bool false])∧DcAt w' rb gb mc st pat keep si∧w'.heap[gb]?=w.heap[gb]?
 | .fault y=>e = .returned (.tuple #[.agg (inC 3 (blank 0) 0 y.2),.bool true])∧DcAt w' rb gb mc 2 pat keep si
 | .ok p c k=>∃ q v' t',e = .returned (.tuple #[.agg (inA (ansP st p) q),.bool true])∧In w' q c∧Alike q p∧DcAt w' rb gb mc (dNew st keep si p).1 pat (dNew st keep si p).2.1 (dNew st keep si p).2.2∧DfAt w' gb most v' t' a0 0∧w'.ownsRow w.heap.size 5 1 v' (H-k) (cellsOf (Go.Proofs.YtpldoeeahhaimaaGreatDoor.sh z k) (H-k))
def DNg (W1 w':World) (gb:Nat) (most:Int) (a0:Int) (z:Nat→Int) (H:Nat) (q:Pk) (b:Bool) (x:Int):DecR→Prop
 | .fault y=>x=y.2∧y.2≠0
 | .more=>b=false∧x=0∧w'.heap[gb]?=W1.heap[gb]?
 | .ok p c k=>b=true∧x=0∧In w' q c∧Alike q p∧NxAll W1.heap.size q∧∃ v' t',DfAt w' gb most v' t' a0 0∧w'.ownsRow W1.heap.size 5 1 v' (H-k) (cellsOf (Go.Proofs.YtpldoeeahhaimaaGreatDoor.sh z k) (H-k))
theorem dnx_got {W1 w':World} {e:Ending} {gb:Nat} {most:Int} {v:Value} {a0:Int} {z:Nat→Int} {H:Nat} {R:DecR} (hf:∀ y,R = .fault y→y.2≠0) (h:DNx W1 w' e gb most v a0 z H R) :
    ∃ (q:Pk) (b:Bool) (u x:Int),e = .returned (.tuple #[.agg (pkCells q),.bool b,.agg #[.int .i64 u,.int .i64 x]])∧DNg W1 w' gb most a0 z H q b x R:=by
  cases R with
  | fault y=>obtain ⟨u,rfl⟩:=h;exact ⟨blank 0,false,u,y.2,rfl,rfl,hf y rfl⟩
  | more=>obtain ⟨rfl,h2⟩:=h;exact ⟨blank 0,false,0,0,rfl,rfl,rfl,h2⟩
  | ok p c k=>obtain ⟨q,v',t',rfl,h1,h2,h3,h4,h5⟩:=h;exact ⟨q,true,0,0,rfl,rfl,rfl,h1,h2,h3,v',t',h4,h5⟩
theorem DNg.below {W1 w' w2:World} {gb:Nat} {most:Int} {a0:Int} {z:Nat→Int} {H:Nat} {q:Pk} {b:Bool} {x:Int} {R:DecR} (h:DNg W1 w' gb most a0 z H q b x R) (hb:Below w'.heap.size w' w2) (hg:gb<w'.heap.size):DNg W1 w2 gb most a0 z H q b x R:=by
 cases R with
 | fault y=>exact h
 | more=>exact ⟨h.1,h.2.1,(hb.block gb hg).trans h.2.2⟩
 | ok p c k =>
  obtain ⟨h1,h2,h3,h4,h5,v',t',h6,h7⟩:=h
  exact ⟨h1,h2,h3.below hb,h4,h5,v',t',h6.keep (hb.block gb h6.lt),Co.own_ch (S:=fun _=>False) h7 (Below.ch hb) (fun _ _ q=>q)⟩
theorem dc_ne_df {w:World} {most:Int} {v:Value} {t a e:Int} (h:DcAt w rb gb mc st pat keep si) (h2:DfAt w gb most v t a e):rb≠gb:=by
 rintro rfl
 unfold DcAt at h
 unfold DfAt at h2
 rw [h] at h2
 simp at h2
theorem ch_fin {w W1 wa v:World} {cs:Array Value} (hb:Below w.heap.size w W1) (CH:Ch (fun k=>k=gb) W1 wa) (CV:Ch (fun k=>k=rb) wa v):Ch (fun k=>k=rb∨k=gb) w (v.setRow w.heap.size cs) :=
 ⟨CV.os.trans (CH.os.trans hb.os),CV.tape.trans (CH.tape.trans hb.tape),CV.output.trans (CH.output.trans hb.output),by rw [setRow_size];exact Nat.le_trans hb.size (Nat.le_trans CH.size CV.size),fun k hk hn =>
  (setRow_ne (by omega)).trans ((CV.block k (Nat.lt_of_lt_of_le hk (Nat.le_trans hb.size CH.size)) (fun e=>hn (.inl e))).trans ((CH.block k (Nat.lt_of_lt_of_le hk hb.size) (fun e=>hn (.inr e))).trans (hb.block k hk)))⟩
theorem ok_fin {w W1 wa v:World} {q:Pk} {c:Cn} {most:Int} {v':Value} {t' a0:Int} {n:Nat} {xs:List Value} {st2 k2 s2:Int} {cs:Array Value} (hs:W1.heap.size=w.heap.size+1) (IN:In wa q c) (NX:NxAll W1.heap.size q) (DF:DfAt wa gb most v' t' a0 0) (OW:wa.ownsRow W1.heap.size 5 1 v' n xs) (LR:rb<w.heap.size) (LG:gb<w.heap.size) (NE:rb≠gb) (DC:DcAt v rb gb mc st2 pat k2 s2) (CV:Ch (fun k=>k=rb) wa v) :
    In (v.setRow w.heap.size cs) q c∧DcAt (v.setRow w.heap.size cs) rb gb mc st2 pat k2 s2∧DfAt (v.setRow w.heap.size cs) gb most v' t' a0 0∧(v.setRow w.heap.size cs).ownsRow w.heap.size 5 1 v' n xs:=by
  refine ⟨?_,dc_keep DC (setRow_ne (by omega)),DF.keep ((setRow_ne (by omega)).trans (CV.block gb DF.lt (Ne.symm NE))),?_⟩
  · refine In.keep (In.keep IN NX ?_) NX (keep_row (by omega))
    intro ad u ha hb
    have hl:=World.block_lt_of_cell? wa ad ha
    have:v.heap[ad.block]?=wa.heap[ad.block]?:=CV.block ad.block hl (by omega)
    unfold World.cell? at ha ⊢
    rw [this]
    exact ha
  · have o2:=own_keep OW (w':=v.setRow w.heap.size cs) (fun j hj=>by
      have hj2:W1.heap.size≤j∧j<wa.heap.size:=by
        rcases OW.2 with ⟨e1,_⟩|⟨g2,cap,cur,e1,hb2,hg2,_⟩
        · rw [e1] at hj;cases hj
        · rw [e1] at hj
          have e':g2=j:=by simpa [Value.ownBlock] using hj
          subst e'
          exact ⟨hb2,(Array.getElem?_eq_some_iff.1 hg2).1⟩
      exact (setRow_ne (by omega)).trans (CV.block j hj2.2 (by omega)))
    refine ⟨o2.1,?_⟩
    rcases o2.2 with e | ⟨g2,cap,cur,e1,hb2,r⟩
    · exact .inl e
    · exact .inr ⟨g2,cap,cur,e1,by omega,r⟩
theorem dcnext_over (h:DcAt w rb gb mc 2 pat keep si):Calls Tryz.prog 16 #[.pointer (some ⟨rb,0,none⟩)] w fun e w'=>e = .returned (.tuple #[.agg (inC 0 (blank 0) 0 0),.bool false])∧Below w.heap.size w w':=by
 obtain ⟨W1,hW1⟩:∃ W1,W1=w.alloc (.cells (inC 0 (blank 0) 0 0) 42):=⟨_,rfl⟩
 have b1:Below w.heap.size w W1:=by rw [hW1];exact (Below.refl _ _).alloc (Nat.le_refl _) _
 have s1:W1.heap.size=w.heap.size+1:=by rw [hW1];simp
 have B1:=hidi b1
 have S1:=hidi s1
 have X2:=hidi (show W1.heap[w.heap.size]?=some (.cells (inC 0 (blank 0) 0 0) 42 (0,0)) from by rw [hW1];exact heap_alloc_new w _)
 have h1:DcAt W1 rb gb mc 2 pat keep si:=dc_keep h (b1.block rb h.lt)
 have D1:=hidi h1
 have LR:=hidi h.lt
 have HW1:=hidi hW1
 have c2:=h1.cell 2 (.int .i64 2) rfl
 clear h h1 hW1 b1 s1
 go_enter Tryz.func16,Tryz.ntmps16
 go_upto_region 1 with fail
 rw [show w.alloc (.cells #[.int .i64 0,.int .i64 0,.int .i64 0,.bool false,.int .i64 0,.string ⟨#[]⟩,.bool false,.string ⟨#[]⟩,.slice none 0 0,.int .i64 0,.bool false,.bool false,.string ⟨#[]⟩,.bool false,.slice none 0 0,.bool false,.int .i64 0,.bool false,.string ⟨#[]⟩,.slice none 0 0,.int .i64 0,.bool false,.int .i64 0,.slice none 0 0,.slice none 0 0,.slice none 0 0,.int .i64 0,.int .i64 0] 42)=W1 from HW1.out.symm]
 clear HW1
 go_wp2_with (first | (refine wpList_build_to rfl 42 _ rfl (inC 0 (blank 0) 0 0) built_in0 ?_)|(refine wpList_store_row rfl 42 (.tmp 2) (.tmp 12) rfl w.heap.size (inC 0 (blank 0) 0 0) rfl rfl 42 (inC 0 (blank 0) 0 0) X2.out in_info rfl (in_one _ _ _ _) ?_))
 refine bodyPost_ret (results_row_tmp rfl _ _ w.heap.size 42 (inC 0 (blank 0) 0 0) (0,0) _ rfl (setRow_at X2.out) Tryz.underlying42 rfl in_info) rfl ?_
 exact ⟨rfl,bel_row B1.out (Nat.le_refl _)⟩
theorem dcnext_any {most:Int} {v0:Value} {t a0:Int} {B H:Nat} {z:Nat→Int} (h:DcAt w rb gb mc st pat keep si) (hst:st=0∨st=1) (hf:DfAt w gb most v0 t a0 0) (ho:w.ownsRow B 5 1 v0 H (cellsOf z H)) (hz:∀ i,0≤z i∧z i≤255) (hn:H≤300000) :
    Calls Tryz.prog 16 #[.pointer (some ⟨rb,0,none⟩)] w fun e w'=>DCx w w' e rb gb most mc st pat keep si a0 z H (decP z H most)∧Ch (fun k=>k=rb∨k=gb) w w':=by
  obtain ⟨W1,hW1⟩:∃ W1,W1=w.alloc (.cells (inC 0 (blank 0) 0 0) 42):=⟨_,rfl⟩
  have b1:Below w.heap.size w W1:=by rw [hW1];exact (Below.refl _ _).alloc (Nat.le_refl _) _
  have s1:W1.heap.size=w.heap.size+1:=by rw [hW1];simp
  have B1:=hidi b1
  have S1:=hidi s1
  have X2:=hidi (show W1.heap[w.heap.size]?=some (.cells (inC 0 (blank 0) 0 0) 42 (0,0)) from by rw [hW1];exact heap_alloc_new w _)
  have h1:DcAt W1 rb gb mc st pat keep si:=dc_keep h (b1.block rb h.lt)
  have D1:=hidi h1
  have LR:=hidi h.lt
  have HW1:=hidi hW1
  have hf1:DfAt W1 gb most v0 t a0 0:=hf.keep (b1.block gb hf.lt)
  have ho1:=Co.own_ch (S:=fun _=>False) ho (Below.ch b1) (fun _ _ q=>q)
  have NXT:=hidi (dfnext_any hf1 ho1 hz hn)
  have LG:=hidi hf.lt
  have NE:=hidi (dc_ne_df h hf)
  obtain ⟨R,hR⟩:∃ R,R=decP z H most:=⟨_,rfl⟩
  have FE:=hidi (show ∀ y,R = .fault y→y.2≠0 from fun y hy=>dec_fault (z:=z) (n:=H) most (hR.symm.trans hy))
  rw [← hR] at NXT ⊢
  have es:(st==2)=false:=by rcases hst with rfl | rfl <;> rfl
  have c2:=h1.cell 2 (.int .i64 st) rfl
  have c0:=h1.cell 0 (.pointer (some ⟨gb,0,none⟩)) rfl
  clear h hf ho hz hn hf1 ho1 hR hW1 b1 s1 h1
  go_enter Tryz.func16,Tryz.ntmps16
  go_upto_region 1 with fail
  rw [show w.alloc (.cells #[.int .i64 0,.int .i64 0,.int .i64 0,.bool false,.int .i64 0,.string ⟨#[]⟩,.bool false,.string ⟨#[]⟩,.slice none 0 0,.int .i64 0,.bool false,.bool false,.string ⟨#[]⟩,.bool false,.slice none 0 0,.bool false,.int .i64 0,.bool false,.string ⟨#[]⟩,.slice none 0 0,.int .i64 0,.bool false,.int .i64 0,.slice none 0 0,.slice none 0 0,.slice none 0 0,.int .i64 0,.int .i64 0] 42)=W1 from HW1.out.symm]
  clear HW1
  go_upto_region 3 with fail
  go_cut [4,5,6] from 13 to 21 (fun s4 s5 s6 wx=>∃ (bP bF:Nat) (q:Pk) (b:Bool) (u x:Int),s4 = .pointer (some ⟨bP,0,none⟩)∧s5 = .bool b∧s6 = .pointer (some ⟨bF,0,none⟩)∧Hid (DNg W1 wx gb most a0 z H q b x R)∧Hid (Ch (fun k=>k=gb) W1 wx)∧Hid (wx.heap[bP]?=some (.cells (pkCells q) 39 (0,0)))∧Hid (wx.heap[bF]?=some (.cells #[.int .i64 u,.int .i64 x] 73 (0,0))))
  case first =>
    go_wp2_with fail
    go_must (go_at_call 34)
    refine NXT.out.mono ?_
    rintro e v ⟨hd,hc⟩
    obtain ⟨q,b,u,x,rfl,hg⟩:=dnx_got FE.out hd
    obtain ⟨V0,hV0⟩:∃ V0,V0=(v.alloc (.cells (pkCells (blank 0)) 39)).alloc (.cells #[.int .i64 0,.int .i64 0] 73):=⟨_,rfl⟩
    have E0:=hidi (show V0.heap[v.heap.size]?=some (.cells (pkCells (blank 0)) 39 (0,0)) from by
      rw [hV0]
      exact (((Below.refl _ _).alloc (Nat.le_refl _) _).block v.heap.size (by simp)).trans (heap_alloc_new v _))
    have E1:=hidi (show V0.heap[v.heap.size+1]?=some (.cells #[.int .i64 0,.int .i64 0] 73 (0,0)) from by
      rw [hV0]
      have:=heap_alloc_new (v.alloc (.cells (pkCells (blank 0)) 39)) (.cells #[.int .i64 0,.int .i64 0] 73)
      simpa using this)
    have bv0:Below v.heap.size v V0:=by rw [hV0];exact ((Below.refl _ _).alloc (Nat.le_refl _) _).alloc (by simp) _
    obtain ⟨V1,hV1⟩:∃ V1,V1=(V0.setRow v.heap.size (pkCells q)).setRow (v.heap.size+1) #[.int .i64 u,.int .i64 x]:=⟨_,rfl⟩
    have bv:Below v.heap.size v V1:=by rw [hV1];exact bel_row (bel_row bv0 (Nat.le_refl _)) (by omega)
    have G:=hidi (hg.below bv (by have:=LG.out;have:=B1.out.size;have:=hc.size;omega))
    have C:=hidi (show Ch (fun k=>k=gb) W1 V1 from hc.trans (Below.ch bv (S:=fun k=>k=gb)) (fun _ _ q=>q))
    have RR:=rd_rows (cs:=pkCells q) (ds:=#[.int .i64 u,.int .i64 x]) E0.out E1.out
    have P1:=hidi (show V1.heap[v.heap.size]?=some (.cells (pkCells q) 39 (0,0)) from by rw [hV1];exact RR.1)
    have F1:=hidi (show V1.heap[v.heap.size+1]?=some (.cells #[.int .i64 u,.int .i64 x] 73 (0,0)) from by rw [hV1];exact RR.2)
    have EQ:=hidi hV1.symm
    have HV0:=hidi hV0
    clear hd hc hg bv bv0 hV1 hV0 RR NXT c2 c0
    go_wp2_with (first | (rw [show (v.alloc (.cells #[.int .i64 0,.int .i64 0,.bool false,.int .i64 0,.string ⟨#[]⟩,.bool false,.string ⟨#[]⟩,.slice none 0 0,.int .i64 0,.bool false,.bool false,.string ⟨#[]⟩,.bool false,.slice none 0 0,.bool false,.int .i64 0,.bool false,.string ⟨#[]⟩,.slice none 0 0,.int .i64 0,.bool false,.int .i64 0,.slice none 0 0,.slice none 0 0,.slice none 0 0] 39)).alloc (.cells #[.int .i64 0,.int .i64 0] 73)=V0 from HV0.out.symm];refine wpList_store_row rfl 39 (.tmp 4) (.tmp 19) rfl v.heap.size (pkCells q) rfl rfl 39 (pkCells (blank 0)) E0.out pk_info rfl (pk_one _) ?_)|(refine wpList_store_row rfl 73 (.tmp 6) (.tmp 21) rfl (v.heap.size+1) #[.int .i64 u,.int .i64 x] rfl rfl 73 #[.int .i64 0,.int .i64 0] ((setRow_ne (by omega)).trans E1.out) f_info rfl (two_one _ _) ?_))
    rw [EQ.out]
    go_meet
    case rel=>exact ⟨v.heap.size,v.heap.size+1,q,b,u,x,rfl,rfl,rfl,G,C,P1,F1⟩
  case rest =>
    obtain ⟨bP,bF,q,b,u,x,rfl,rfl,rfl,NG,CH,PK,FT⟩:=hcut
    obtain ⟨wa,hwa⟩:∃ wa,wa=wc:=⟨_,rfl⟩
    subst hwa
    have D3:=hidi (dc_keep D1.out (CH.out.block rb (by have:=LR.out;have:=B1.out.size;omega) NE.out))
    have X2:=hidi ((CH.out.block w.heap.size (by have:=S1.out;omega) (by have:=LG.out;omega)).trans X2.out)
    have k1:=dcell FT.out 1 (.int .i64 x) rfl
    clear NXT c2 c0 D1
    cases R with
    | more =>
      obtain ⟨rfl,rfl,hg⟩:=NG.out
      have HG:=hidi hg
      clear NG hg
      go_wp2_with (first | (refine wpList_build_to rfl 42 _ rfl (inC 0 (blank 0) 0 0) built_in0 ?_)|(refine wpList_store_row rfl 42 (.tmp 2) (.tmp 34) rfl w.heap.size (inC 0 (blank 0) 0 0) rfl rfl 42 (inC 0 (blank 0) 0 0) X2.out in_info rfl (in_one _ _ _ _) ?_))
      refine bodyPost_ret (results_row_tmp rfl _ _ w.heap.size 42 (inC 0 (blank 0) 0 0) (0,0) _ rfl (setRow_at X2.out) Tryz.underlying42 rfl in_info) rfl ?_
      exact ⟨⟨rfl,dc_keep D3.out (setRow_ne (by have:=LR.out;omega)),(setRow_ne (by have:=LG.out;omega)).trans (HG.out.trans (B1.out.block gb LG.out))⟩,ch_fin B1.out CH.out (Ch.refl _ _)⟩
    | fault y =>
      obtain ⟨rfl,hy⟩:=NG.out
      have xe:(y.2 != 0)=true:=by simpa using hy
      have DT:=hidi (show dTook st keep si 3 (blank 0).kind (blank 0).keep=(2,keep,si) from by rw [dTook,if_neg (by intro e;rw [e] at es;cases es),if_pos (.inl (by decide))])
      clear NG hy
      have TK:=hidi (dtuk_any D3.out 3 (blank 0) 0 y.2)
      go_wp2_with (first | (refine wpList_build_to rfl 42 _ rfl (inC 3 (blank 0) 0 y.2) (built_end y.2) ?_))
      go_must (go_at_call 35)
      refine TK.out.mono ?_
      rintro e v ⟨rfl,hd,hc⟩
      have DV:=hidi hd
      have CV:=hidi hc
      have X3:=hidi ((hc.block w.heap.size (by have:=S1.out;have:=CH.out.size;omega) (by have:=LR.out;omega)).trans X2.out)
      clear hd hc TK
      go_wp2_with (first | (refine wpList_store_row rfl 42 (.tmp 2) (.tmp 30) rfl w.heap.size (inC 3 (blank 0) 0 y.2) rfl rfl 42 (inC 0 (blank 0) 0 0) X3.out in_info rfl (in_one _ _ _ _) ?_))
      refine bodyPost_ret (results_row_tmp rfl _ _ w.heap.size 42 (inC 3 (blank 0) 0 y.2) (0,0) _ rfl (setRow_at X3.out) Tryz.underlying42 rfl in_info) rfl ?_
      have hd:=DV.out
      rw [DT.out] at hd
      exact ⟨⟨rfl,dc_keep hd (setRow_ne (by have:=LR.out;omega))⟩,ch_fin B1.out CH.out CV.out⟩
    | ok p c k =>
      obtain ⟨rfl,rfl,-⟩:=NG.out
      have hk:=Co.Alike.kind NG.out.2.2.2.1
      have g0:=dcell PK.out 0 (.int .i64 q.kind) rfl
      have g1:=dcell PK.out 1 (.int .i64 q.level) rfl
      have d2:=D3.out.cell 2 (.int .i64 st) rfl
      have HK:=hidi hk
      rcases hst with rfl | rfl
      · by_cases q1:q.kind=1
        case neg =>
          have HEA:=hidi (show ansP 0 p=(3,0,140) from by have:=HK.out.1;simp [ansP];omega)
          have HEN:=hidi (show dNew 0 keep si p=dTook 0 keep si 3 (blank 0).kind (blank 0).keep from by unfold dNew;rw [HEA.out];rfl)
          have e1:(q.kind != 1)=true:=by simpa using q1
          clear hk
          have TK:=hidi (dtuk_any D3.out 3 (blank 0) 0 140)
          go_wp2_with (first | (refine wpList_build_to rfl 42 _ rfl (inC 3 (blank 0) 0 140) (built_end 140) ?_))
          go_must (go_at_call 35)
          refine TK.out.mono ?_
          rintro e v ⟨rfl,hd,hc⟩
          have DV:=hidi hd
          have CV:=hidi hc
          have X3:=hidi ((hc.block w.heap.size (by have:=S1.out;have:=CH.out.size;omega) (by have:=LR.out;omega)).trans X2.out)
          clear hd hc TK
          go_wp2_with (first | (refine wpList_store_row rfl 42 (.tmp 2) (.tmp 47) rfl w.heap.size (inC 3 (blank 0) 0 140) rfl rfl 42 (inC 0 (blank 0) 0 0) X3.out in_info rfl (in_one _ _ _ _) ?_))
          refine bodyPost_ret (results_row_tmp rfl _ _ w.heap.size 42 (inC 3 (blank 0) 0 140) (0,0) _ rfl (setRow_at X3.out) Tryz.underlying42 rfl in_info) rfl ?_
          obtain ⟨-,-,hin,hal,hnx,v',t',hdf,how⟩:=NG.out
          have F:=ok_fin (cs:=inC 3 (blank 0) 0 140) S1.out hin hnx hdf how LR.out LG.out NE.out DV.out CV.out
          have EA:=HEA.out
          have EN:=HEN.out
          refine ⟨⟨q,v',t',?_,F.1,hal,?_,F.2.2.1,F.2.2.2⟩,ch_fin B1.out CH.out CV.out⟩
          · rw [EA];rfl
          · rw [EN];exact F.2.1
        have p1:p.kind=1:=by have:=HK.out.1;omega
        rw [q1] at g0
        by_cases q4:q.level=4
        case neg =>
          have p4:¬ p.level=4:=by have:=HK.out.2.1;omega
          have HEA:=hidi (show ansP 0 p=(2,1,0) from by simp [ansP,p1,p4])
          have HEN:=hidi (show dNew 0 keep si p=dTook 0 keep si 2 (blank 0).kind (blank 0).keep from by unfold dNew;rw [HEA.out];rfl)
          have e4:(q.level != 4)=true:=by simpa using q4
          clear hk
          have TK:=hidi (dtuk_any D3.out 2 (blank 0) 1 0)
          go_wp2_with (first | (refine wpList_build_to rfl 42 _ rfl (inC 2 (blank 0) 1 0) built_ref ?_))
          go_must (go_at_call 35)
          refine TK.out.mono ?_
          rintro e v ⟨rfl,hd,hc⟩
          have DV:=hidi hd
          have CV:=hidi hc
          have X3:=hidi ((hc.block w.heap.size (by have:=S1.out;have:=CH.out.size;omega) (by have:=LR.out;omega)).trans X2.out)
          clear hd hc TK
          go_wp2_with (first | (refine wpList_store_row rfl 42 (.tmp 2) (.tmp 56) rfl w.heap.size (inC 2 (blank 0) 1 0) rfl rfl 42 (inC 0 (blank 0) 0 0) X3.out in_info rfl (in_one _ _ _ _) ?_))
          refine bodyPost_ret (results_row_tmp rfl _ _ w.heap.size 42 (inC 2 (blank 0) 1 0) (0,0) _ rfl (setRow_at X3.out) Tryz.underlying42 rfl in_info) rfl ?_
          obtain ⟨-,-,hin,hal,hnx,v',t',hdf,how⟩:=NG.out
          have F:=ok_fin (cs:=inC 2 (blank 0) 1 0) S1.out hin hnx hdf how LR.out LG.out NE.out DV.out CV.out
          have EA:=HEA.out
          have EN:=HEN.out
          refine ⟨⟨q,v',t',?_,F.1,hal,?_,F.2.2.1,F.2.2.2⟩,ch_fin B1.out CH.out CV.out⟩
          · rw [EA];rfl
          · rw [EN];exact F.2.1
        have p4:p.level=4:=by have:=HK.out.2.1;omega
        rw [q4] at g1
        have HEA:=hidi (show ansP 0 p=(1,0,0) from by simp [ansP,p1,p4])
        have HEN:=hidi (show dNew 0 keep si p=dTook 0 keep si 1 q.kind q.keep from by unfold dNew;rw [HEA.out,HK.out.1,HK.out.2.2];rfl)
        clear hk
        have TK:=hidi (dtuk_any D3.out 1 q 0 0)
        go_wp2_with (first | (refine Pkt.wpList_load_wanted rfl (.tmp 4) rfl bP rfl (pkCells q) (0,0) PK.out (pk_size _) ?_)|(refine wpList_build_pk rfl (.tmp 59) rfl q rfl ?_))
        go_must (go_at_call 35)
        refine TK.out.mono ?_
        rintro e v ⟨rfl,hd,hc⟩
        have DV:=hidi hd
        have CV:=hidi hc
        have X3:=hidi ((hc.block w.heap.size (by have:=S1.out;have:=CH.out.size;omega) (by have:=LR.out;omega)).trans X2.out)
        clear hd hc TK
        go_wp2_with (first | (refine wpList_store_row rfl 42 (.tmp 2) (.tmp 62) rfl w.heap.size (inC 1 q 0 0) rfl rfl 42 (inC 0 (blank 0) 0 0) X3.out in_info rfl (in_one _ _ _ _) ?_))
        refine bodyPost_ret (results_row_tmp rfl _ _ w.heap.size 42 (inC 1 q 0 0) (0,0) _ rfl (setRow_at X3.out) Tryz.underlying42 rfl in_info) rfl ?_
        obtain ⟨-,-,hin,hal,hnx,v',t',hdf,how⟩:=NG.out
        have F:=ok_fin (cs:=inC 1 q 0 0) S1.out hin hnx hdf how LR.out LG.out NE.out DV.out CV.out
        have EA:=HEA.out
        have EN:=HEN.out
        refine ⟨⟨q,v',t',?_,F.1,hal,?_,F.2.2.1,F.2.2.2⟩,ch_fin B1.out CH.out CV.out⟩
        · rw [EA];rfl
        · rw [EN];exact F.2.1
      · by_cases q1:q.kind=1
        · have p1:p.kind=1:=by have:=HK.out.1;omega
          have HEA:=hidi (show ansP 1 p=(3,0,141) from by simp [ansP,p1])
          have HEN:=hidi (show dNew 1 keep si p=dTook 1 keep si 3 (blank 0).kind (blank 0).keep from by unfold dNew;rw [HEA.out];rfl)
          rw [q1] at g0
          clear hk
          have TK:=hidi (dtuk_any D3.out 3 (blank 0) 0 141)
          go_wp2_with (first | (refine wpList_build_to rfl 42 _ rfl (inC 3 (blank 0) 0 141) (built_end 141) ?_))
          go_must (go_at_call 35)
          refine TK.out.mono ?_
          rintro e v ⟨rfl,hd,hc⟩
          have DV:=hidi hd
          have CV:=hidi hc
          have X3:=hidi ((hc.block w.heap.size (by have:=S1.out;have:=CH.out.size;omega) (by have:=LR.out;omega)).trans X2.out)
          clear hd hc TK
          go_wp2_with (first | (refine wpList_store_row rfl 42 (.tmp 2) (.tmp 71) rfl w.heap.size (inC 3 (blank 0) 0 141) rfl rfl 42 (inC 0 (blank 0) 0 0) X3.out in_info rfl (in_one _ _ _ _) ?_))
          refine bodyPost_ret (results_row_tmp rfl _ _ w.heap.size 42 (inC 3 (blank 0) 0 141) (0,0) _ rfl (setRow_at X3.out) Tryz.underlying42 rfl in_info) rfl ?_
          obtain ⟨-,-,hin,hal,hnx,v',t',hdf,how⟩:=NG.out
          have F:=ok_fin (cs:=inC 3 (blank 0) 0 141) S1.out hin hnx hdf how LR.out LG.out NE.out DV.out CV.out
          have EA:=HEA.out
          have EN:=HEN.out
          refine ⟨⟨q,v',t',?_,F.1,hal,?_,F.2.2.1,F.2.2.2⟩,ch_fin B1.out CH.out CV.out⟩
          · rw [EA];rfl
          · rw [EN];exact F.2.1
        have p1:¬ p.kind=1:=by have:=HK.out.1;omega
        have e1:(q.kind==1)=false:=by simpa using q1
        by_cases q22:q.kind=2
        · have pn:p.kind=2:=by have:=HK.out.1;omega
          have HEA:=hidi (show ansP 1 p=(3,0,142) from by simp [ansP,pn])
          have HEN:=hidi (show dNew 1 keep si p=dTook 1 keep si 3 (blank 0).kind (blank 0).keep from by unfold dNew;rw [HEA.out];rfl)
          rw [q22] at g0
          clear hk
          have TK:=hidi (dtuk_any D3.out 3 (blank 0) 0 142)
          go_wp2_with (first | (refine wpList_build_to rfl 42 _ rfl (inC 3 (blank 0) 0 142) (built_end 142) ?_))
          go_must (go_at_call 35)
          refine TK.out.mono ?_
          rintro e v ⟨rfl,hd,hc⟩
          have DV:=hidi hd
          have CV:=hidi hc
          have X3:=hidi ((hc.block w.heap.size (by have:=S1.out;have:=CH.out.size;omega) (by have:=LR.out;omega)).trans X2.out)
          clear hd hc TK
          go_wp2_with (first | (refine wpList_store_row rfl 42 (.tmp 2) (.tmp 81) rfl w.heap.size (inC 3 (blank 0) 0 142) rfl rfl 42 (inC 0 (blank 0) 0 0) X3.out in_info rfl (in_one _ _ _ _) ?_))
          refine bodyPost_ret (results_row_tmp rfl _ _ w.heap.size 42 (inC 3 (blank 0) 0 142) (0,0) _ rfl (setRow_at X3.out) Tryz.underlying42 rfl in_info) rfl ?_
          obtain ⟨-,-,hin,hal,hnx,v',t',hdf,how⟩:=NG.out
          have F:=ok_fin (cs:=inC 3 (blank 0) 0 142) S1.out hin hnx hdf how LR.out LG.out NE.out DV.out CV.out
          have EA:=HEA.out
          have EN:=HEN.out
          refine ⟨⟨q,v',t',?_,F.1,hal,?_,F.2.2.1,F.2.2.2⟩,ch_fin B1.out CH.out CV.out⟩
          · rw [EA];rfl
          · rw [EN];exact F.2.1
        have e22:(q.kind==2)=false:=by simpa using q22
        by_cases q99:q.kind=9
        · have pn:p.kind=9:=by have:=HK.out.1;omega
          have HEA:=hidi (show ansP 1 p=(3,0,142) from by simp [ansP,pn])
          have HEN:=hidi (show dNew 1 keep si p=dTook 1 keep si 3 (blank 0).kind (blank 0).keep from by unfold dNew;rw [HEA.out];rfl)
          rw [q99] at g0
          clear hk
          have TK:=hidi (dtuk_any D3.out 3 (blank 0) 0 142)
          go_wp2_with (first | (refine wpList_build_to rfl 42 _ rfl (inC 3 (blank 0) 0 142) (built_end 142) ?_))
          go_must (go_at_call 35)
          refine TK.out.mono ?_
          rintro e v ⟨rfl,hd,hc⟩
          have DV:=hidi hd
          have CV:=hidi hc
          have X3:=hidi ((hc.block w.heap.size (by have:=S1.out;have:=CH.out.size;omega) (by have:=LR.out;omega)).trans X2.out)
          clear hd hc TK
          go_wp2_with (first | (refine wpList_store_row rfl 42 (.tmp 2) (.tmp 81) rfl w.heap.size (inC 3 (blank 0) 0 142) rfl rfl 42 (inC 0 (blank 0) 0 0) X3.out in_info rfl (in_one _ _ _ _) ?_))
          refine bodyPost_ret (results_row_tmp rfl _ _ w.heap.size 42 (inC 3 (blank 0) 0 142) (0,0) _ rfl (setRow_at X3.out) Tryz.underlying42 rfl in_info) rfl ?_
          obtain ⟨-,-,hin,hal,hnx,v',t',hdf,how⟩:=NG.out
          have F:=ok_fin (cs:=inC 3 (blank 0) 0 142) S1.out hin hnx hdf how LR.out LG.out NE.out DV.out CV.out
          have EA:=HEA.out
          have EN:=HEN.out
          refine ⟨⟨q,v',t',?_,F.1,hal,?_,F.2.2.1,F.2.2.2⟩,ch_fin B1.out CH.out CV.out⟩
          · rw [EA];rfl
          · rw [EN];exact F.2.1
        have e99:(q.kind==9)=false:=by simpa using q99
        by_cases q1111:q.kind=11
        · have pn:p.kind=11:=by have:=HK.out.1;omega
          have HEA:=hidi (show ansP 1 p=(3,0,142) from by simp [ansP,pn])
          have HEN:=hidi (show dNew 1 keep si p=dTook 1 keep si 3 (blank 0).kind (blank 0).keep from by unfold dNew;rw [HEA.out];rfl)
          rw [q1111] at g0
          clear hk
          have TK:=hidi (dtuk_any D3.out 3 (blank 0) 0 142)
          go_wp2_with (first | (refine wpList_build_to rfl 42 _ rfl (inC 3 (blank 0) 0 142) (built_end 142) ?_))
          go_must (go_at_call 35)
          refine TK.out.mono ?_
          rintro e v ⟨rfl,hd,hc⟩
          have DV:=hidi hd
          have CV:=hidi hc
          have X3:=hidi ((hc.block w.heap.size (by have:=S1.out;have:=CH.out.size;omega) (by have:=LR.out;omega)).trans X2.out)
          clear hd hc TK
          go_wp2_with (first | (refine wpList_store_row rfl 42 (.tmp 2) (.tmp 81) rfl w.heap.size (inC 3 (blank 0) 0 142) rfl rfl 42 (inC 0 (blank 0) 0 0) X3.out in_info rfl (in_one _ _ _ _) ?_))
          refine bodyPost_ret (results_row_tmp rfl _ _ w.heap.size 42 (inC 3 (blank 0) 0 142) (0,0) _ rfl (setRow_at X3.out) Tryz.underlying42 rfl in_info) rfl ?_
          obtain ⟨-,-,hin,hal,hnx,v',t',hdf,how⟩:=NG.out
          have F:=ok_fin (cs:=inC 3 (blank 0) 0 142) S1.out hin hnx hdf how LR.out LG.out NE.out DV.out CV.out
          have EA:=HEA.out
          have EN:=HEN.out
          refine ⟨⟨q,v',t',?_,F.1,hal,?_,F.2.2.1,F.2.2.2⟩,ch_fin B1.out CH.out CV.out⟩
          · rw [EA];rfl
          · rw [EN];exact F.2.1
        have e1111:(q.kind==11)=false:=by simpa using q1111
        by_cases q1313:q.kind=13
        · have pn:p.kind=13:=by have:=HK.out.1;omega
          have HEA:=hidi (show ansP 1 p=(3,0,142) from by simp [ansP,pn])
          have HEN:=hidi (show dNew 1 keep si p=dTook 1 keep si 3 (blank 0).kind (blank 0).keep from by unfold dNew;rw [HEA.out];rfl)
          rw [q1313] at g0
          clear hk
          have TK:=hidi (dtuk_any D3.out 3 (blank 0) 0 142)
          go_wp2_with (first | (refine wpList_build_to rfl 42 _ rfl (inC 3 (blank 0) 0 142) (built_end 142) ?_))
          go_must (go_at_call 35)
          refine TK.out.mono ?_
          rintro e v ⟨rfl,hd,hc⟩
          have DV:=hidi hd
          have CV:=hidi hc
          have X3:=hidi ((hc.block w.heap.size (by have:=S1.out;have:=CH.out.size;omega) (by have:=LR.out;omega)).trans X2.out)
          clear hd hc TK
          go_wp2_with (first | (refine wpList_store_row rfl 42 (.tmp 2) (.tmp 81) rfl w.heap.size (inC 3 (blank 0) 0 142) rfl rfl 42 (inC 0 (blank 0) 0 0) X3.out in_info rfl (in_one _ _ _ _) ?_))
          refine bodyPost_ret (results_row_tmp rfl _ _ w.heap.size 42 (inC 3 (blank 0) 0 142) (0,0) _ rfl (setRow_at X3.out) Tryz.underlying42 rfl in_info) rfl ?_
          obtain ⟨-,-,hin,hal,hnx,v',t',hdf,how⟩:=NG.out
          have F:=ok_fin (cs:=inC 3 (blank 0) 0 142) S1.out hin hnx hdf how LR.out LG.out NE.out DV.out CV.out
          have EA:=HEA.out
          have EN:=HEN.out
          refine ⟨⟨q,v',t',?_,F.1,hal,?_,F.2.2.1,F.2.2.2⟩,ch_fin B1.out CH.out CV.out⟩
          · rw [EA];rfl
          · rw [EN];exact F.2.1
        have e1313:(q.kind==13)=false:=by simpa using q1313
        have HEA:=hidi (show ansP 1 p=(1,0,0) from by have hh:=HK.out.1;have p2:¬ p.kind=2:=(by omega);have p9:¬ p.kind=9:=(by omega);have p11:¬ p.kind=11:=(by omega);have p13:¬ p.kind=13:=(by omega);simp [ansP,p1,p2,p9,p11,p13])
        have HEN:=hidi (show dNew 1 keep si p=dTook 1 keep si 1 q.kind q.keep from by unfold dNew;rw [HEA.out,HK.out.1,HK.out.2.2];rfl)
        clear hk
        have TK:=hidi (dtuk_any D3.out 1 q 0 0)
        go_wp2_with (first | (refine Pkt.wpList_load_wanted rfl (.tmp 4) rfl bP rfl (pkCells q) (0,0) PK.out (pk_size _) ?_)|(refine wpList_build_pk rfl (.tmp 84) rfl q rfl ?_))
        go_must (go_at_call 35)
        refine TK.out.mono ?_
        rintro e v ⟨rfl,hd,hc⟩
        have DV:=hidi hd
        have CV:=hidi hc
        have X3:=hidi ((hc.block w.heap.size (by have:=S1.out;have:=CH.out.size;omega) (by have:=LR.out;omega)).trans X2.out)
        clear hd hc TK
        go_wp2_with (first | (refine wpList_store_row rfl 42 (.tmp 2) (.tmp 87) rfl w.heap.size (inC 1 q 0 0) rfl rfl 42 (inC 0 (blank 0) 0 0) X3.out in_info rfl (in_one _ _ _ _) ?_))
        refine bodyPost_ret (results_row_tmp rfl _ _ w.heap.size 42 (inC 1 q 0 0) (0,0) _ rfl (setRow_at X3.out) Tryz.underlying42 rfl in_info) rfl ?_
        obtain ⟨-,-,hin,hal,hnx,v',t',hdf,how⟩:=NG.out
        have F:=ok_fin (cs:=inC 1 q 0 0) S1.out hin hnx hdf how LR.out LG.out NE.out DV.out CV.out
        have EA:=HEA.out
        have EN:=HEN.out
        refine ⟨⟨q,v',t',?_,F.1,hal,?_,F.2.2.1,F.2.2.2⟩,ch_fin B1.out CH.out CV.out⟩
        · rw [EA];rfl
        · rw [EN];exact F.2.1
end
end Go.Proofs.YtpldoeeahhaimaaGreatDoor.Dr
