import Derived.Test.YtceigllifjgalaaGreatDoorPRk
import Derived.Deep.Light
namespace Go.Proofs.YtceigllifjgalaaGreatDoor.Pkt
open Go Go.RowKit Go.Sort
set_option linter.unusedSimpArgs false
set_option linter.unusedVariables false
set_option maxRecDepth 100000
set_option maxHeartbeats 2000000
section
variable {w:World} {ops:Array Oper} {a:Act} {o:Oper} {rest:List Oper}
theorem zeH {g:Nat} {cs:Array Value} {fr:Nat×Nat} (hg:w.heap[g]?=some (.cells cs 29 fr)) (hs:cs.size=25):(loadVar 29 ⟨g,0,none⟩).run Tryz.prog w = .ok (.agg cs) w := run_loadVar_row w g 29 29 cs fr _ hg Tryz.underlying29 rfl (by rw [hs];kernel_rfl)
theorem nat_ne (n:Nat):((n:Int) != 0)=(n != 0):=by
 by_cases h:n=0;· subst h;rfl
 · have h2:(n:Int)≠0:=by omega
   rw [bne_iff_ne.2 h,bne_iff_ne.2 h2]
theorem quiet_load {C:World->Prop} {Q:Act->Prop} {x:Operand} (hwant:Region.wanted o (yielded ops a.tmps)=true) (ho:o.op = .load 29 x) (g:Nat)
 (hx:a.eval x = .pointer (some ⟨g,0,none⟩)) (v:Value) (hrun:∀ w,C w->(loadVar 29 ⟨g,0,none⟩).run Tryz.prog w = .ok v w) (h:wpQuiet Tryz.prog ops C Q rest (a.put o.dst v)):wpQuiet Tryz.prog ops C Q (o::rest) a:=by
 show (if Region.wanted o (yielded ops a.tmps) then _ else _);rw [if_pos hwant];refine ⟨v,fun w hC=>?_,h⟩;unfold Oper.quietAt execOp;simp only [ho,hx,Instr.loadAt,Instr.sureAddr,Sem.run_bind,Sem.run_pure,Result.andThen_ok,hrun w hC];exact ⟨rfl,rfl⟩
theorem za0 {Q:Exit->Act->World->Prop} (hw:Region.wanted o (yielded ops a.tmps)=true) (x:Operand) (ho:o.op = .load 29 x) (g:Nat) (hx:a.eval x = .pointer (some ⟨g,0,none⟩)) (cs:Array Value) (fr:Nat×Nat) (hg:w.heap[g]?=some (.cells cs 29 fr)) (hs:cs.size=25) (h:wpList Tryz.prog ops Q rest (a.put o.dst (.agg cs)) w):wpList Tryz.prog ops Q (o::rest) a w := wpList_step fun K hK=>by rw [if_pos hw];exact wp_load_row 29 x ho g hx 29 cs fr _ hg Tryz.underlying29 rfl (by rw [hs];kernel_rfl) (hK _ _ h)
def pkCells (p:Pk):Array Value:=#[.int .i64 p.kind,.int .i64 p.level,.bool p.clean,.int .i64 p.keep,.string p.client,.bool p.hasWill,.string p.wT,.slice p.wP.a p.wP.n p.wP.c,.int .i64 p.wQ,.bool p.wR,.bool p.hasUser,.string p.user,.bool p.hasPass,.slice p.pass.a p.pass.n p.pass.c,.bool p.present,.int .i64 p.code,.bool p.dup,.string p.mT,.slice p.mP.a p.mP.n p.mP.c,.int .i64 p.mQ,.bool p.mR,.int .i64 p.id,.slice p.asks.a p.asks.n p.asks.c,.slice p.codes.a p.codes.n p.codes.c,.slice p.filters.a p.filters.n p.filters.c]
theorem size_any (p:Pk) (c:Cn) (w:World) (h:Small p c) (hin:In w p c) (h1:1<=p.kind) (h2:p.kind<=14) (HK:Hid (KindsAt w)):Calls Tryz.prog 238 #[p.v] w fun e w'=>e = .returned (.int .i64 (sz p c))/\Below w.heap.size w w':=by
 by_cases k1:p.kind=1;· exact size_one p c h hin k1 HK
 by_cases k2:p.kind=2;· exact size_two p c h hin k2 HK
 by_cases k3:p.kind=3;·
  cases hid:hasID p;· exact size_three p c h hin k3 hid HK
  · exact size_three_id p c h hin k3 hid HK
 ·
  cases hid:hasID p;· exact size_more p c h hin (by omega) h2 hid HK
  · exact size_more_id p c h hin (by omega) h2 hid HK
structure Gd (w:World):Prop where
 kinds:KindsAt w
 mx:∃ m,w.cell? ⟨3,0,none⟩=some (.int .i64 m)
theorem Gd.below {w':World} (h:Gd w) (hb:Below w.heap.size w w'):Gd w':=⟨h.kinds.below hb,let ⟨m,hm⟩:=h.mx;⟨m,cell_later hb hm⟩⟩
structure Ck (w:World) (p:Pk) (c:Cn) (v:Value):Prop where
 given:∀ w',Below w.heap.size w w'->Calls Tryz.prog 231 #[v] w' fun e w''=>e = .returned (.int .i64 (gv p))/\Below w'.heap.size w' w''
 fields:1<=p.kind->p.kind<=14->∀ w',Below w.heap.size w w'->Calls Tryz.prog 232 #[v] w' fun e w''=>e = .returned (.int .i64 (fl p))/\Below w'.heap.size w' w''
 bounded:∀ w',Calls Tryz.prog 233 #[v] w' fun e w''=>e = .returned (.bool (bnd p))/\Below w'.heap.size w' w''
 topics:∀ w',Calls Tryz.prog 235 #[v] w' fun e w''=>e = .returned (.bool (tps TT p))/\Below w'.heap.size w' w''
 filters:∀ w',Below w.heap.size w w'->Calls Tryz.prog 236 #[v] w' fun e w''=>e = .returned (.bool (flts TT p c))/\Below w'.heap.size w' w''
 quals:∀ w',Below w.heap.size w w'->Calls Tryz.prog 237 #[v] w' fun e w''=>e = .returned (.bool (qls p c))/\Below w'.heap.size w' w''
 size:1<=p.kind->p.kind<=14->∀ w',Below w.heap.size w w'->Calls Tryz.prog 238 #[v] w' fun e w''=>e = .returned (.int .i64 (sz p c))/\Below w'.heap.size w' w''
theorem ck_of {p:Pk} {c:Cn} (hg:Gd w) (hin:In w p c) (hs:Small p c):Ck w p c p.v where
 given w' hb:=given_any p c w' (hin.below hb)
 fields h1 h2 w' hb:=zaS p w' (hg.below hb).kinds (by omega) h2
 bounded w':=bounded_any p w'
 topics w':=topicsRight_any p w'
 filters w' hb:=by obtain ⟨m,hm⟩:=(hg.below hb).mx;exact filtersRight_any p c w' (hin.below hb) hs.an hs.fn m hm
 quals w' hb:=qualitiesRight_any p c w' (hin.below hb) hs.an hs.cn
 size h1 h2 w' hb:=size_any p c w' hs (hin.below hb) h1 h2 (hg.below hb).kinds
theorem check_any (p:Pk) (c:Cn) (w:World) (hg:Gd w) (hin:In w p c) (hs:Small p c):Calls Tryz.prog 158 #[p.v] w fun e w'=>e = .returned (.int .i64 (ck TT p c))/\Below w.heap.size w w':=by
 have HC:=Hi (ck_of hg hin hs);have S5:Hid (p.wP.n<=1000000/\p.pass.n<=1000000):=⟨hs.wp,hs.ps⟩;clear hg hin hs;obtain ⟨cs,hcs⟩:∃ cs,cs=pkCells p:=⟨_,rfl⟩;rw [show p.v = .agg cs by rw [hcs];rfl] at HC ⊢;have a0:Hid (cs[0]?=some (.int .i64 p.kind)):=by show _=_;rw [hcs];rfl
 have a1:Hid (cs[1]?=some (.int .i64 p.level)):=by show _=_;rw [hcs];rfl
 have a2:Hid (cs[2]?=some (.bool p.clean)):=by show _=_;rw [hcs];rfl
 have a3:Hid (cs[3]?=some (.int .i64 p.keep)):=by show _=_;rw [hcs];rfl
 have a4:Hid (cs[4]?=some (.string p.client)):=by show _=_;rw [hcs];rfl
 have a5:Hid (cs[5]?=some (.bool p.hasWill)):=by show _=_;rw [hcs];rfl
 have a6:Hid (cs[6]?=some (.string p.wT)):=by show _=_;rw [hcs];rfl
 have a7:Hid (cs[7]?=some (.slice p.wP.a p.wP.n p.wP.c)):=by show _=_;rw [hcs];rfl
 have a8:Hid (cs[8]?=some (.int .i64 p.wQ)):=by show _=_;rw [hcs];rfl
 have a9:Hid (cs[9]?=some (.bool p.wR)):=by show _=_;rw [hcs];rfl
 have a10:Hid (cs[10]?=some (.bool p.hasUser)):=by show _=_;rw [hcs];rfl
 have a11:Hid (cs[11]?=some (.string p.user)):=by show _=_;rw [hcs];rfl
 have a12:Hid (cs[12]?=some (.bool p.hasPass)):=by show _=_;rw [hcs];rfl
 have a13:Hid (cs[13]?=some (.slice p.pass.a p.pass.n p.pass.c)):=by show _=_;rw [hcs];rfl
 have a14:Hid (cs[14]?=some (.bool p.present)):=by show _=_;rw [hcs];rfl
 have a15:Hid (cs[15]?=some (.int .i64 p.code)):=by show _=_;rw [hcs];rfl
 have a16:Hid (cs[16]?=some (.bool p.dup)):=by show _=_;rw [hcs];rfl
 have a17:Hid (cs[17]?=some (.string p.mT)):=by show _=_;rw [hcs];rfl
 have a18:Hid (cs[18]?=some (.slice p.mP.a p.mP.n p.mP.c)):=by show _=_;rw [hcs];rfl
 have a19:Hid (cs[19]?=some (.int .i64 p.mQ)):=by show _=_;rw [hcs];rfl
 have a20:Hid (cs[20]?=some (.bool p.mR)):=by show _=_;rw [hcs];rfl
 have a21:Hid (cs[21]?=some (.int .i64 p.id)):=by show _=_;rw [hcs];rfl
 have a22:Hid (cs[22]?=some (.slice p.asks.a p.asks.n p.asks.c)):=by show _=_;rw [hcs];rfl
 have a23:Hid (cs[23]?=some (.slice p.codes.a p.codes.n p.codes.c)):=by show _=_;rw [hcs];rfl
 have a24:Hid (cs[24]?=some (.slice p.filters.a p.filters.n p.filters.c)):=by show _=_;rw [hcs];rfl
 have hsz:Hid (cs.size=25):=by show _=_;rw [hcs];rfl
 have HCS:=Hi hcs;clear hcs;obtain ⟨W,hW⟩:∃ W,W=w.alloc (.cells cs 29):=⟨_,rfl⟩;have b0:=Hi (zat hW);have g0:Hid (W.heap[w.heap.size]?=some (.cells cs 29)):=by show _=_;rw [hW];exact heap_alloc_new w _
 have FA:Hid (∀ k v,cs[k]?=some v->∀ w',Below W.heap.size W w'->w'.cell? ⟨w.heap.size,k,none⟩=some v):=fun k v h w' hb=>cell_later hb (by rw [hW];exact za2 w cs 29 k v h);have GA:Hid (∀ w',Below W.heap.size W w'->w'.heap[w.heap.size]?=some (.cells cs 29)):=fun w' hb=>(hb.block _ (zb2 g0.out)).trans g0.out;have LA:Hid (∀ w',Below W.heap.size W w'->(loadVar 29 ⟨w.heap.size,0,none⟩).run Tryz.prog w' = .ok (.agg cs) w'):=fun w' hb=>zeH (GA.out w' hb) hsz.out;have BW:Hid (∀ w',Below W.heap.size W w'->Below w.heap.size w w'):=fun w' hb=>b0.out.trans (hb.mono b0.out.size);cases h1:isK p.kind
 · rw [show ck TT p c=20 by simp [ck,h1]]
   have f0:=FA.out 0 _ a0.out W (Below.refl _ _);rw [hW] at f0;go_enter Tryz.func158,Tryz.ntmps158;go_wp2_with (go_at_call 230;refine (zar _ _).mono ?_;rintro e w' ⟨rfl,he⟩;obtain rfl:=he.symm;clear he;rw [h1]);go_ret;exact ⟨rfl,by rw [<-hW];exact b0.out⟩
 have hk:1<=p.kind/\p.kind<=14:=by simpa [isK] using h1
 have HK:=Hi hk;clear hk;have E1:Hid (ck TT p c=(if bad1 p then 21 else if bad2 TT p then 22 else if !tps TT p then 23 else if !flts TT p c then 24 else if !qls p c then 25 else if bad6 p then 26 else if bad7 p c then 27 else if bad8 p then 28 else if bad9 p then 29 else 0)):=by show _=_;simp [ck,h1]
 have f0:=FA.out 0 _ a0.out W (Below.refl _ _);rw [hW] at f0;go_enter Tryz.func158,Tryz.ntmps158;go_wp2_with (first | (go_at_call 230;refine (zar _ _).mono ?_;rintro e w' ⟨rfl,he⟩;obtain rfl:=he.symm;clear he;rw [h1]) | fail);rw [<-hW] at f0 ⊢;clear f0 hW;have nA:Hid (bits .andNot .i64 (gv p:Int) (fl p:Int)=((gv p &&& (18446744073709551615-fl p):Nat):Int)):=zcN _ _ (by have:=gv_lt p;omega) (by have:=fl_lt p;omega);have nB:Hid (bits .and .i64 (fl p:Int) 16384=((fl p &&& 16384:Nat):Int)):=zb5 _ 16384 (by have:=fl_lt p;omega) (by decide);have nC:Hid (bits .and .i64 (fl p:Int) 229376=((fl p &&& 229376:Nat):Int)):=zb5 _ 229376 (by have:=fl_lt p;omega) (by decide);have nD:Hid (bits .and .i64 (gv p:Int) 229376=((gv p &&& 229376:Nat):Int)):=zb5 _ 229376 (by have:=gv_lt p;omega) (by decide);go_cut [8] from 3 (fun s8 wx=>s8 = .bool (bad1 p)/\Hid (Below W.heap.size W wx));case first =>
  have L1:∀ w',(∃ p:Regrown,w'=grow (redrawn W p.d) p.os)->(loadVar 29 ⟨w.heap.size,0,none⟩).run Tryz.prog w' = .ok (.agg cs) w':=by rintro _ ⟨pp,rfl⟩;exact LA.out _ (below_regrown W pp.d pp.os)
  have HL1:=Hi L1;clear L1;have C32:Hid (∀ d os,Calls Tryz.prog 231 #[.agg cs] (grow (redrawn W d) os) fun e w''=>e = .returned (.int .i64 (gv p))/\Below (grow (redrawn W d) os).heap.size (grow (redrawn W d) os) w''):=fun d os=>HC.out.given _ (BW.out _ (below_regrown W d os));have C33:Hid (∀ d os,Calls Tryz.prog 232 #[.agg cs] (grow (redrawn W d) os) fun e w''=>e = .returned (.int .i64 (fl p))/\Below (grow (redrawn W d) os).heap.size (grow (redrawn W d) os) w''):=fun d os=>HC.out.fields HK.out.1 HK.out.2 _ (BW.out _ (below_regrown W d os));have C34:Hid (∀ d os,Calls Tryz.prog 233 #[.agg cs] (grow (redrawn W d) os) fun e w''=>e = .returned (.bool (bnd p))/\Below (grow (redrawn W d) os).heap.size (grow (redrawn W d) os) w''):=fun d os=>HC.out.bounded _;have hX:∃ X,(gv p &&& (18446744073709551615-fl p) != 0)=X:=⟨_,rfl⟩;obtain ⟨X,hX⟩:=hX;have hX2:(bits .andNot .i64 (gv p:Int) (fl p:Int) != 0)=X:=by rw [nA.out,nat_ne];exact hX
  have HB1:Hid (bad1 p=(X || !bnd p)):=by show _=_;rw [bad1,hX]
  clear hX;cases X;all_goals
   refine wp_region_quiet_below (by kernel_rfl) (by kernel_rfl) ?_;repeat (first | (refine quiet_load rfl rfl w.heap.size rfl (.agg cs) HL1.out ?_) | quiet_step (first | (go_at_call 231;exact Calls.regrown_of (C32.out _ _))|(go_at_call 232;exact Calls.regrown_of (C33.out _ _))|(go_at_call 233;exact Calls.regrown_of (C34.out _ _))))
   refine wpQuiet_nil ?_;rintro _ ⟨⟨d,os⟩,rfl⟩;go_wp2_with fail;go_meet;case rel=>exact ⟨by rw [HB1.out];rfl,below_regrown W d os⟩
 case rest =>
 obtain ⟨rfl,B2⟩:=hcut;cases h2:bad1 p;case true => go_wp2;go_ret;exact ⟨by rw [E1.out,h2];rfl,BW.out _ B2.out⟩
 have E2:Hid (ck TT p c=(if bad2 TT p then 22 else if !tps TT p then 23 else if !flts TT p c then 24 else if !qls p c then 25 else if bad6 p then 26 else if bad7 p c then 27 else if bad8 p then 28 else if bad9 p then 29 else 0)):=by show _=_;rw [E1.out,h2];rfl
 go_upto_region 5 with fail;go_cut [20] from 3 (fun sx wx=>sx = .bool (bad2 TT p)/\Hid (Below W.heap.size W wx));case first =>
  have f4:=FA.out 4 _ a4.out wc B2.out;cases t1:txt p.client
  · go_wp2_with (go_at_call 234;refine (zck _ _).mono ?_;rintro e w1 ⟨rfl,hb⟩;have B1:Hid (Below W.heap.size W w1):=B2.out.trans (hb.mono B2.out.size);clear hb;rw [t1])
    go_meet;case rel=>exact ⟨by rw [show bad2 TT p=(!txt p.client || !txt p.user) from rfl,t1];rfl,B1⟩
  · go_wp2_with fail
    go_must (go_at_call 234);refine (zck _ _).mono ?_;rintro e w1 ⟨rfl,hb⟩;have B1:=Hi (B2.out.trans (hb.mono B2.out.size));clear hb;rw [t1];have f11:=FA.out 11 _ a11.out w1 B1.out;go_wp2_with (go_at_call 234;refine (zck _ _).mono ?_;rintro e w2 ⟨rfl,hb⟩;have B3:Hid (Below W.heap.size W w2):=B1.out.trans (hb.mono B1.out.size);clear hb);go_meet;case rel=>exact ⟨by rw [show bad2 TT p=(!txt p.client || !txt p.user) from rfl,t1];rfl,B3⟩
 case rest =>
 obtain ⟨rfl,B3⟩:=hcut;cases hb0:(bad2 TT p);case true => go_wp2;go_ret;exact ⟨by rw [E2.out,hb0];rfl,BW.out _ B3.out⟩
 have E3:Hid (ck TT p c=(if !tps TT p then 23 else if !flts TT p c then 24 else if !qls p c then 25 else if bad6 p then 26 else if bad7 p c then 27 else if bad8 p then 28 else if bad9 p then 29 else 0)):=by show _=_;rw [E2.out,hb0];rfl
 go_upto_region 7 with fail;go_cut [31] from 3 (fun sx wx=>sx = .bool (!tps TT p)/\Hid (Below W.heap.size W wx));case first => go_wp2_with (first | (refine za0 rfl _ rfl w.heap.size rfl _ (0,0) (GA.out _ B3.out) hsz.out ?_)|(go_at_call 235;refine (HC.out.topics _).mono ?_;rintro e w1 ⟨rfl,hb⟩;have B1:Hid (Below W.heap.size W w1):=B3.out.trans (hb.mono B3.out.size);clear hb));go_meet;case rel=>exact ⟨rfl,B1⟩
 case rest =>
 obtain ⟨rfl,B4⟩:=hcut;cases hb1:(!tps TT p);case true => go_wp2;go_ret;exact ⟨by rw [E3.out,hb1];rfl,BW.out _ B4.out⟩
 have E4:Hid (ck TT p c=(if !flts TT p c then 24 else if !qls p c then 25 else if bad6 p then 26 else if bad7 p c then 27 else if bad8 p then 28 else if bad9 p then 29 else 0)):=by show _=_;rw [E3.out,hb1];rfl
 go_upto_region 9 with fail;go_cut [35] from 3 (fun sx wx=>sx = .bool (!flts TT p c)/\Hid (Below W.heap.size W wx));case first => go_wp2_with (first | (refine za0 rfl _ rfl w.heap.size rfl _ (0,0) (GA.out _ B4.out) hsz.out ?_)|(go_at_call 236;refine (HC.out.filters _ (BW.out _ B4.out)).mono ?_;rintro e w1 ⟨rfl,hb⟩;have B1:Hid (Below W.heap.size W w1):=B4.out.trans (hb.mono B4.out.size);clear hb));go_meet;case rel=>exact ⟨rfl,B1⟩
 case rest =>
 obtain ⟨rfl,B5⟩:=hcut;cases hb2:(!flts TT p c);case true => go_wp2;go_ret;exact ⟨by rw [E4.out,hb2];rfl,BW.out _ B5.out⟩
 have E5:Hid (ck TT p c=(if !qls p c then 25 else if bad6 p then 26 else if bad7 p c then 27 else if bad8 p then 28 else if bad9 p then 29 else 0)):=by show _=_;rw [E4.out,hb2];rfl
 go_upto_region 11 with fail;go_cut [39] from 3 (fun sx wx=>sx = .bool (!qls p c)/\Hid (Below W.heap.size W wx));case first => go_wp2_with (first | (refine za0 rfl _ rfl w.heap.size rfl _ (0,0) (GA.out _ B5.out) hsz.out ?_)|(go_at_call 237;refine (HC.out.quals _ (BW.out _ B5.out)).mono ?_;rintro e w1 ⟨rfl,hb⟩;have B1:Hid (Below W.heap.size W w1):=B5.out.trans (hb.mono B5.out.size);clear hb));go_meet;case rel=>exact ⟨rfl,B1⟩
 case rest =>
 obtain ⟨rfl,B6⟩:=hcut;cases hb3:(!qls p c);case true => go_wp2;go_ret;exact ⟨by rw [E5.out,hb3];rfl,BW.out _ B6.out⟩
 have E6:Hid (ck TT p c=(if bad6 p then 26 else if bad7 p c then 27 else if bad8 p then 28 else if bad9 p then 29 else 0)):=by show _=_;rw [E5.out,hb3];rfl
 go_upto_region 13 with fail;go_cut [43] from 3 (fun sx wx=>sx = .bool (bad6 p)/\Hid (Below W.heap.size W wx));case first =>
  obtain ⟨X,hX⟩:∃ X,(fl p &&& 16384 != 0)=X:=⟨_,rfl⟩;have hX2:(bits .and .i64 (fl p:Int) 16384 != 0)=X:=by rw [nB.out,nat_ne];exact hX
  have HB:Hid (bad6 p=(X && (decide (p.id<1) || decide (65535<p.id)))):=by show _=_;rw [bad6,hX]
  clear hX;cases X;· go_wp2_with (refine za0 rfl _ rfl w.heap.size rfl _ (0,0) (GA.out _ B6.out) hsz.out ?_);go_must (go_at_call 232);refine (HC.out.fields HK.out.1 HK.out.2 _ (BW.out _ B6.out)).mono ?_;rintro e w1 ⟨rfl,hb⟩;have B1:=Hi (B6.out.trans (hb.mono B6.out.size));clear hb;go_wp2_with fail;go_meet;case rel=>exact ⟨by rw [HB.out];rfl,B1⟩
  · by_cases i1:p.id<1
    · have HV:Hid (bad6 p=true):=by show _=_;rw [HB.out,decide_eq_true i1];rfl
      go_wp2_with (refine za0 rfl _ rfl w.heap.size rfl _ (0,0) (GA.out _ B6.out) hsz.out ?_);go_must (go_at_call 232);refine (HC.out.fields HK.out.1 HK.out.2 _ (BW.out _ B6.out)).mono ?_;rintro e w1 ⟨rfl,hb⟩;have B1:=Hi (B6.out.trans (hb.mono B6.out.size));clear hb;have f21:=FA.out 21 _ a21.out w1 B1.out;go_wp2_with fail;go_meet;case rel=>exact ⟨by rw [HV.out],B1⟩
    · obtain ⟨Y,hY⟩:∃ Y,decide (65535<p.id)=Y:=⟨_,rfl⟩
      have HV:Hid (bad6 p=Y):=by show _=_;rw [HB.out,decide_eq_false i1,hY];rfl
      have HI:Hid (decide (p.id<1)=false/\decide (65535<p.id)=Y):=⟨decide_eq_false i1,hY⟩;cases Y;all_goals have i2:=hY;simp only [decide_eq_true_eq,decide_eq_false_iff_not] at i2;clear hY;go_wp2_with (refine za0 rfl _ rfl w.heap.size rfl _ (0,0) (GA.out _ B6.out) hsz.out ?_);go_must (go_at_call 232);refine (HC.out.fields HK.out.1 HK.out.2 _ (BW.out _ B6.out)).mono ?_;rintro e w1 ⟨rfl,hb⟩;have B1:=Hi (B6.out.trans (hb.mono B6.out.size));clear hb;have f21:=FA.out 21 _ a21.out w1 B1.out;go_wp2_with fail;go_meet;case rel=>exact ⟨by first | (rw [HV.out];done)|(rw [HV.out,HI.out.1,HI.out.2];rfl),B1⟩
 case rest =>
 obtain ⟨rfl,B7⟩:=hcut;cases hb4:(bad6 p);case true => go_wp2;go_ret;exact ⟨by rw [E6.out,hb4];rfl,BW.out _ B7.out⟩
 have E7:Hid (ck TT p c=(if bad7 p c then 27 else if bad8 p then 28 else if bad9 p then 29 else 0)):=by show _=_;rw [E6.out,hb4];rfl
 go_upto_region 15 with fail;go_cut [58] from 3 (fun sx wx=>sx = .bool (bad7 p c)/\Hid (Below W.heap.size W wx));case first =>
  have f7:=FA.out 7 _ a7.out wc B7.out;have f13:=FA.out 13 _ a13.out wc B7.out;have HB:Hid (bad7 p c=(decide ((65535:Int)<p.wP.n) || decide ((65535:Int)<p.pass.n) || decide ((268435455:Int)<sz p c))):=by have d1:decide ((65535:Int)<p.wP.n)=decide (65535<p.wP.n):=decide_eq_decide.2 (by omega);have d2:decide ((65535:Int)<p.pass.n)=decide (65535<p.pass.n):=decide_eq_decide.2 (by omega);have d3:decide ((268435455:Int)<sz p c)=decide (268435455<sz p c):=decide_eq_decide.2 (by omega);show _=_;rw [d1,d2,d3];rfl
  by_cases l1:(65535:Int)<p.wP.n
  · have HV:Hid (bad7 p c=true):=by show _=_;rw [HB.out,decide_eq_true l1];rfl
    go_wp2_with fail;go_meet;case rel=>exact ⟨by rw [HV.out],B7⟩
  · by_cases l2:(65535:Int)<p.pass.n
    · have HV:Hid (bad7 p c=true):=by show _=_;rw [HB.out,decide_eq_true l2,Bool.or_true];rfl
      go_wp2_with fail;go_meet;case rel=>exact ⟨by rw [HV.out],B7⟩
    · have HV:Hid (bad7 p c=decide ((268435455:Int)<sz p c)):=by show _=_;rw [HB.out,decide_eq_false l1,decide_eq_false l2];rfl
      go_wp2_with (refine za0 rfl _ rfl w.heap.size rfl _ (0,0) (GA.out _ B7.out) hsz.out ?_);go_must (go_at_call 238);refine (HC.out.size HK.out.1 HK.out.2 _ (BW.out _ B7.out)).mono ?_;rintro e w1 ⟨rfl,hb⟩;have B1:=Hi (B7.out.trans (hb.mono B7.out.size));clear hb;go_wp2_with fail;go_meet;case rel=>exact ⟨by rw [HV.out],B1⟩
 case rest =>
 obtain ⟨rfl,B8⟩:=hcut;cases hb5:(bad7 p c);case true => go_wp2;go_ret;exact ⟨by rw [E7.out,hb5];rfl,BW.out _ B8.out⟩
 have E8:Hid (ck TT p c=(if bad8 p then 28 else if bad9 p then 29 else 0)):=by show _=_;rw [E7.out,hb5];rfl
 go_upto_region 17 with fail;go_cut [75] from 3 (fun sx wx=>sx = .bool (bad8 p)/\Hid (Below W.heap.size W wx));case first =>
  obtain ⟨X,hX⟩:∃ X,(fl p &&& 229376 != 0)=X:=⟨_,rfl⟩;have hX2:(bits .and .i64 (fl p:Int) 229376 != 0)=X:=by rw [nC.out,nat_ne];exact hX
  have HB:Hid (bad8 p=(X && (bits .and .i64 (gv p:Int) 229376==0))):=by
   show _=_;rw [bad8,hX,nD.out];have e:=nat_ne (gv p &&& 229376);have e2:((((gv p &&& 229376:Nat):Int))==0)=(gv p &&& 229376==0):=by
    by_cases h:gv p &&& 229376=0;· rw [h];rfl
    · have h2:((gv p &&& 229376:Nat):Int)≠0:=by omega
      rw [beq_eq_false_iff_ne.2 h,beq_eq_false_iff_ne.2 h2]
   rw [e2]
  clear hX;cases X;· go_wp2_with (refine za0 rfl _ rfl w.heap.size rfl _ (0,0) (GA.out _ B8.out) hsz.out ?_);go_must (go_at_call 232);refine (HC.out.fields HK.out.1 HK.out.2 _ (BW.out _ B8.out)).mono ?_;rintro e w1 ⟨rfl,hb⟩;have B1:=Hi (B8.out.trans (hb.mono B8.out.size));clear hb;go_wp2_with fail;go_meet;case rel=>exact ⟨by rw [HB.out];rfl,B1⟩
  · go_wp2_with (refine za0 rfl _ rfl w.heap.size rfl _ (0,0) (GA.out _ B8.out) hsz.out ?_);go_must (go_at_call 232);refine (HC.out.fields HK.out.1 HK.out.2 _ (BW.out _ B8.out)).mono ?_;rintro e w1 ⟨rfl,hb⟩;have B1:=Hi (B8.out.trans (hb.mono B8.out.size));clear hb;go_wp2_with (refine za0 rfl _ rfl w.heap.size rfl _ (0,0) (GA.out _ B1.out) hsz.out ?_);go_must (go_at_call 231);refine (HC.out.given _ (BW.out _ B1.out)).mono ?_;rintro e w2 ⟨rfl,hb⟩;have B9:=Hi (B1.out.trans (hb.mono B1.out.size));clear hb;go_wp2_with fail;go_meet;case rel=>exact ⟨by rw [HB.out];rfl,B9⟩
 case rest =>
 obtain ⟨rfl,B9⟩:=hcut;cases hb6:(bad8 p);case true => go_wp2;go_ret;exact ⟨by rw [E8.out,hb6];rfl,BW.out _ B9.out⟩
 have E9:Hid (ck TT p c=(if bad9 p then 29 else 0)):=by show _=_;rw [E8.out,hb6];rfl
 have f12:=FA.out 12 _ a12.out wc B9.out;have f10:=FA.out 10 _ a10.out wc B9.out;have f16:=FA.out 16 _ a16.out wc B9.out;have f19:=FA.out 19 _ a19.out wc B9.out;have f14:=FA.out 14 _ a14.out wc B9.out;have f15:=FA.out 15 _ a15.out wc B9.out;have HB:Hid (bad9 p=((p.hasPass && !p.hasUser) || (p.dup && decide (p.mQ=0)) || (p.present && decide (p.code≠0)))):=rfl;have fin:∀ b,bad9 p=b->ck TT p c=(if b then 29 else 0):=fun b h=>by rw [E9.out,h]
 have FIN:=Hi fin;clear fin E1 E2 E3 E4 E5 E6 E7 E8 E9;cases m1:(p.hasPass && !p.hasUser);case true => have HV:Hid (ck TT p c=29):=FIN.out true (by rw [HB.out,m1];rfl);simp only [Bool.and_eq_true,Bool.not_eq_true'] at m1;rw [m1.1] at f12;rw [m1.2] at f10;clear m1;go_wp2;go_ret;exact ⟨by rw [HV.out];rfl,BW.out _ B9.out⟩
 have hpu:p.hasPass=false\/(p.hasPass=true/\p.hasUser=true):=by cases h:p.hasPass with | false=>exact .inl rfl | true=>refine .inr ⟨rfl,?_⟩;rw [h] at m1;simpa using m1
 have hdq:p.dup=false\/(p.dup=true/\p.mQ=0)\/(p.dup=true/\¬ p.mQ=0):=by
  cases h:p.dup with
  | false=>exact .inl rfl
  | true => by_cases h2 : p.mQ = 0
            · exact .inr (.inl ⟨rfl,h2⟩)
            · exact .inr (.inr ⟨rfl,h2⟩)
 have hpc:p.present=false\/(p.present=true/\¬ p.code=0)\/(p.present=true/\p.code=0):=by
  cases h:p.present with
  | false=>exact .inl rfl
  | true => by_cases h2 : p.code = 0
            · exact .inr (.inr ⟨rfl,h2⟩)
            · exact .inr (.inl ⟨rfl,h2⟩)
 clear m1;rcases hpu with e1 | ⟨e1,e2⟩
 · rcases hdq with e3 | ⟨e3,e4⟩|⟨e3,e4⟩
   · rcases hpc with e5 | ⟨e5,e6⟩|⟨e5,e6⟩
     · have HV:Hid (ck TT p c=0):=FIN.out false (by rw [HB.out,e1,e3,e5];rfl)
       rw [e1] at f12;rw [e3] at f16;rw [e5] at f14;clear e1 e3 e5;go_wp2;go_ret;exact ⟨by rw [HV.out];rfl,BW.out _ B9.out⟩
     · have d6:decide (p.code≠0)=true:=decide_eq_true e6
       have q6:(p.code != 0)=true:=by simpa using e6
       have HV:Hid (ck TT p c=29):=FIN.out true (by rw [HB.out,e1,e3,e5,d6];rfl);rw [e1] at f12;rw [e3] at f16;rw [e5] at f14;clear e1 e3 e5 e6 d6;go_wp2;go_ret;exact ⟨by rw [HV.out];rfl,BW.out _ B9.out⟩
     · have d6:decide (p.code≠0)=false:=decide_eq_false (fun h=>h e6)
       have q6:(p.code != 0)=false:=by simpa using e6
       have HV:Hid (ck TT p c=0):=FIN.out false (by rw [HB.out,e1,e3,e5,d6];rfl);rw [e1] at f12;rw [e3] at f16;rw [e5] at f14;clear e1 e3 e5 e6 d6;go_wp2;go_ret;exact ⟨by rw [HV.out];rfl,BW.out _ B9.out⟩
   · rcases hpc with e5 | ⟨e5,e6⟩|⟨e5,e6⟩
     · have d4:decide (p.mQ=0)=true:=decide_eq_true e4
       have q4:(p.mQ==0)=true:=by simpa using e4
       have HV:Hid (ck TT p c=29):=FIN.out true (by rw [HB.out,e1,e3,d4,e5];rfl);rw [e1] at f12;rw [e3] at f16;rw [e5] at f14;clear e1 e3 e5 e4 d4;go_wp2;go_ret;exact ⟨by rw [HV.out];rfl,BW.out _ B9.out⟩
     · have d4:decide (p.mQ=0)=true:=decide_eq_true e4
       have q4:(p.mQ==0)=true:=by simpa using e4
       have d6:decide (p.code≠0)=true:=decide_eq_true e6;have q6:(p.code != 0)=true:=by simpa using e6
       have HV:Hid (ck TT p c=29):=FIN.out true (by rw [HB.out,e1,e3,d4,e5,d6];rfl);rw [e1] at f12;rw [e3] at f16;rw [e5] at f14;clear e1 e3 e5 e4 d4 e6 d6;go_wp2;go_ret;exact ⟨by rw [HV.out];rfl,BW.out _ B9.out⟩
     · have d4:decide (p.mQ=0)=true:=decide_eq_true e4
       have q4:(p.mQ==0)=true:=by simpa using e4
       have d6:decide (p.code≠0)=false:=decide_eq_false (fun h=>h e6);have q6:(p.code != 0)=false:=by simpa using e6
       have HV:Hid (ck TT p c=29):=FIN.out true (by rw [HB.out,e1,e3,d4,e5,d6];rfl);rw [e1] at f12;rw [e3] at f16;rw [e5] at f14;clear e1 e3 e5 e4 d4 e6 d6;go_wp2;go_ret;exact ⟨by rw [HV.out];rfl,BW.out _ B9.out⟩
   · rcases hpc with e5 | ⟨e5,e6⟩|⟨e5,e6⟩
     · have d4:decide (p.mQ=0)=false:=decide_eq_false e4
       have q4:(p.mQ==0)=false:=by simpa using e4
       have HV:Hid (ck TT p c=0):=FIN.out false (by rw [HB.out,e1,e3,d4,e5];rfl);rw [e1] at f12;rw [e3] at f16;rw [e5] at f14;clear e1 e3 e5 e4 d4;go_wp2;go_ret;exact ⟨by rw [HV.out];rfl,BW.out _ B9.out⟩
     · have d4:decide (p.mQ=0)=false:=decide_eq_false e4
       have q4:(p.mQ==0)=false:=by simpa using e4
       have d6:decide (p.code≠0)=true:=decide_eq_true e6;have q6:(p.code != 0)=true:=by simpa using e6
       have HV:Hid (ck TT p c=29):=FIN.out true (by rw [HB.out,e1,e3,d4,e5,d6];rfl);rw [e1] at f12;rw [e3] at f16;rw [e5] at f14;clear e1 e3 e5 e4 d4 e6 d6;go_wp2;go_ret;exact ⟨by rw [HV.out];rfl,BW.out _ B9.out⟩
     · have d4:decide (p.mQ=0)=false:=decide_eq_false e4
       have q4:(p.mQ==0)=false:=by simpa using e4
       have d6:decide (p.code≠0)=false:=decide_eq_false (fun h=>h e6);have q6:(p.code != 0)=false:=by simpa using e6
       have HV:Hid (ck TT p c=0):=FIN.out false (by rw [HB.out,e1,e3,d4,e5,d6];rfl);rw [e1] at f12;rw [e3] at f16;rw [e5] at f14;clear e1 e3 e5 e4 d4 e6 d6;go_wp2;go_ret;exact ⟨by rw [HV.out];rfl,BW.out _ B9.out⟩
 · rcases hdq with e3 | ⟨e3,e4⟩|⟨e3,e4⟩
   · rcases hpc with e5 | ⟨e5,e6⟩|⟨e5,e6⟩
     · have HV:Hid (ck TT p c=0):=FIN.out false (by rw [HB.out,e1,e2,e3,e5];rfl)
       rw [e1] at f12;rw [e2] at f10;rw [e3] at f16;rw [e5] at f14;clear e1 e3 e5 e2;go_wp2;go_ret;exact ⟨by rw [HV.out];rfl,BW.out _ B9.out⟩
     · have d6:decide (p.code≠0)=true:=decide_eq_true e6
       have q6:(p.code != 0)=true:=by simpa using e6
       have HV:Hid (ck TT p c=29):=FIN.out true (by rw [HB.out,e1,e2,e3,e5,d6];rfl);rw [e1] at f12;rw [e2] at f10;rw [e3] at f16;rw [e5] at f14;clear e1 e3 e5 e2 e6 d6;go_wp2;go_ret;exact ⟨by rw [HV.out];rfl,BW.out _ B9.out⟩
     · have d6:decide (p.code≠0)=false:=decide_eq_false (fun h=>h e6)
       have q6:(p.code != 0)=false:=by simpa using e6
       have HV:Hid (ck TT p c=0):=FIN.out false (by rw [HB.out,e1,e2,e3,e5,d6];rfl);rw [e1] at f12;rw [e2] at f10;rw [e3] at f16;rw [e5] at f14;clear e1 e3 e5 e2 e6 d6;go_wp2;go_ret;exact ⟨by rw [HV.out];rfl,BW.out _ B9.out⟩
   · rcases hpc with e5 | ⟨e5,e6⟩|⟨e5,e6⟩
     · have d4:decide (p.mQ=0)=true:=decide_eq_true e4
       have q4:(p.mQ==0)=true:=by simpa using e4
       have HV:Hid (ck TT p c=29):=FIN.out true (by rw [HB.out,e1,e2,e3,d4,e5];rfl);rw [e1] at f12;rw [e2] at f10;rw [e3] at f16;rw [e5] at f14;clear e1 e3 e5 e2 e4 d4;go_wp2;go_ret;exact ⟨by rw [HV.out];rfl,BW.out _ B9.out⟩
     · have d4:decide (p.mQ=0)=true:=decide_eq_true e4
       have q4:(p.mQ==0)=true:=by simpa using e4
       have d6:decide (p.code≠0)=true:=decide_eq_true e6;have q6:(p.code != 0)=true:=by simpa using e6
       have HV:Hid (ck TT p c=29):=FIN.out true (by rw [HB.out,e1,e2,e3,d4,e5,d6];rfl);rw [e1] at f12;rw [e2] at f10;rw [e3] at f16;rw [e5] at f14;clear e1 e3 e5 e2 e4 d4 e6 d6;go_wp2;go_ret;exact ⟨by rw [HV.out];rfl,BW.out _ B9.out⟩
     · have d4:decide (p.mQ=0)=true:=decide_eq_true e4
       have q4:(p.mQ==0)=true:=by simpa using e4
       have d6:decide (p.code≠0)=false:=decide_eq_false (fun h=>h e6);have q6:(p.code != 0)=false:=by simpa using e6
       have HV:Hid (ck TT p c=29):=FIN.out true (by rw [HB.out,e1,e2,e3,d4,e5,d6];rfl);rw [e1] at f12;rw [e2] at f10;rw [e3] at f16;rw [e5] at f14;clear e1 e3 e5 e2 e4 d4 e6 d6;go_wp2;go_ret;exact ⟨by rw [HV.out];rfl,BW.out _ B9.out⟩
   · rcases hpc with e5 | ⟨e5,e6⟩|⟨e5,e6⟩
     · have d4:decide (p.mQ=0)=false:=decide_eq_false e4
       have q4:(p.mQ==0)=false:=by simpa using e4
       have HV:Hid (ck TT p c=0):=FIN.out false (by rw [HB.out,e1,e2,e3,d4,e5];rfl);rw [e1] at f12;rw [e2] at f10;rw [e3] at f16;rw [e5] at f14;clear e1 e3 e5 e2 e4 d4;go_wp2;go_ret;exact ⟨by rw [HV.out];rfl,BW.out _ B9.out⟩
     · have d4:decide (p.mQ=0)=false:=decide_eq_false e4
       have q4:(p.mQ==0)=false:=by simpa using e4
       have d6:decide (p.code≠0)=true:=decide_eq_true e6;have q6:(p.code != 0)=true:=by simpa using e6
       have HV:Hid (ck TT p c=29):=FIN.out true (by rw [HB.out,e1,e2,e3,d4,e5,d6];rfl);rw [e1] at f12;rw [e2] at f10;rw [e3] at f16;rw [e5] at f14;clear e1 e3 e5 e2 e4 d4 e6 d6;go_wp2;go_ret;exact ⟨by rw [HV.out];rfl,BW.out _ B9.out⟩
     · have d4:decide (p.mQ=0)=false:=decide_eq_false e4
       have q4:(p.mQ==0)=false:=by simpa using e4
       have d6:decide (p.code≠0)=false:=decide_eq_false (fun h=>h e6);have q6:(p.code != 0)=false:=by simpa using e6
       have HV:Hid (ck TT p c=0):=FIN.out false (by rw [HB.out,e1,e2,e3,d4,e5,d6];rfl);rw [e1] at f12;rw [e2] at f10;rw [e3] at f16;rw [e5] at f14;clear e1 e3 e5 e2 e4 d4 e6 d6;go_wp2;go_ret;exact ⟨by rw [HV.out];rfl,BW.out _ B9.out⟩
end
end Go.Proofs.YtceigllifjgalaaGreatDoor.Pkt
