import Derived.Test.YtpldoeeahhaimaaGreatDoorDsy
namespace Go.Proofs.YtpldoeeahhaimaaGreatDoor.Dr
open Go Go.RowKit
open Pkt (Pk Cn Sl In By Is Ss As pkCells Small ck TT)
open Co (inC inA ansP kpC cnC)
set_option linter.all false
set_option maxRecDepth 100000
set_option maxHeartbeats 2000000
def Rd (w:World) (s:Sl) (k:Nat):Prop:=s.n=0\/∃ (b off:Nat) (f:Nat->Value),s.a=some ⟨b,off,none⟩/\∀ j,j<s.n*k->w.cell? ⟨b,off+j,none⟩=some (f j)/\(f j).oneCell'=true
theorem Rd.below {w w':World} {s:Sl} {k:Nat} (h:Rd w s k) (hb:Below w.heap.size w w'):Rd w' s k:=by
 rcases h with e | ⟨b,off,f,e1,e2⟩;· exact .inl e
 · exact .inr ⟨b,off,f,e1,fun j hj=>⟨cell_later hb (e2 j hj).1,(e2 j hj).2⟩⟩
theorem cpy_run {w:World} (t ty e:TypeId) (z:Value) (size bytes:Nat) (ht:Tryz.prog.underlying t=some (.slice e)) (hi:(Tryz.prog.info? e).map (fun i=>(i.zero,i.size,i.bytes))=some (some z,size,bytes)) (hzs:z.cells.size=size) (hsz:0<size) (hb1:0<bytes)
 (l:Sl) (hr:Rd w l size) (hb:l.n*bytes<=140737488351232):∃ (l':Sl) (w':World),(Builtin.append_ #[t,t] ty #[.slice none 0 0,.slice l.a l.n l.c]).run Tryz.prog w = .ok (.slice l'.a l'.n l'.c) w'/\Below w.heap.size w w':=by
 obtain ⟨i0,hi0,hz0,hz1,hz2⟩:=info_parts hi;rcases hr with e0 | ⟨b,off,f,ea,hc⟩
 · rw [e0]
   exact ⟨⟨none,0,0⟩,w,run_nil_none t ty e i0 ht hi0 l.a l.c,Below.refl _ _⟩
 · have hle:l.n<=l.n*bytes:=Nat.le_mul_of_pos_right _ hb1
   rw [ea];obtain ⟨v',w',hr,ho,hg,-,-⟩:=run_append_own_at (P:=Tryz.prog) w w.heap.size t ty e i0 z size bytes ht hi0 hz0 hz1 hz2 hzs hsz (.slice none 0 0) 0 [] (World.ownsRow_nil _ _ _ _) ⟨b,off,none⟩ l.n l.c ((List.range (l.n*size)).map f) (by simp) (fun j u hu=>by
    have hj:j<l.n*size:=by have:=(List.getElem?_eq_some_iff.1 hu).1;simpa using this
    rw [List.getElem?_map,List.getElem?_range hj] at hu;simp only [Option.map_some,Option.some.injEq] at hu;subst hu;rw [plain_add];exact (hc j hj).1) (fun u hu=>by
    obtain ⟨j,hj,rfl⟩:=List.mem_map.1 hu;exact (hc j (by simpa using hj)).2) (by unfold maxLen;omega) (by rw [Nat.zero_add];omega) (Nat.le_refl _)
   obtain ⟨a2,c2,e2⟩:=own_slice ho;exact ⟨⟨a2,0+l.n,c2⟩,w',by rw [hr,e2],(Below.refl w.heap.size w).grown hg (Nat.le_refl _) (fun q hq=>by cases hq)⟩
theorem wpList_cpy {w:World} {ops:Array Oper} {rest:List Oper} {o:Oper} {a:Act} {Q:Exit->Act->World->Prop} (hgd:o.guard=none) (s x:Operand) (t e:TypeId)
 (ho:o.op = .call { callee:=.builtin .append,args:=#[s,x],argTypes:=#[t,t] }) (z:Value) (size bytes:Nat) (ht:Tryz.prog.underlying t=some (.slice e)) (hi:(Tryz.prog.info? e).map (fun i=>(i.zero,i.size,i.bytes))=some (some z,size,bytes)) (hzs:z.cells.size=size) (hsz:0<size) (hb1:0<bytes) (hs:a.eval s = .slice none 0 0) (l:Sl) (hx:a.eval x = .slice l.a l.n l.c) (hr:Rd w l size) (hb:l.n*bytes<=140737488351232)
 (h:∀ (l':Sl) (w':World),Below w.heap.size w w'->wpList Tryz.prog ops Q rest (a.put o.dst (.slice l'.a l'.n l'.c)) w'):wpList Tryz.prog ops Q (o::rest) a w:=by
 refine wpList_plain hgd fun K hK=>?_;obtain ⟨l',w',hrun,hbel⟩:=cpy_run t o.type e z size bytes ht hi hzs hsz hb1 l hr hb;unfold Oper.wp execOp;simp only [ho,resolve,invoke,builtin,Sem.run_bind,Sem.run_pure,Result.andThen_ok,List.map_toArray,List.map_cons,List.map_nil,hs,hx,hrun];exact hK _ _ (h l' w' hbel)
theorem infoA:(Tryz.prog.info? 99).map (fun i=>(i.zero,i.size,i.bytes))=some (some (.agg #[.string ⟨#[]⟩,.int .i64 0]),2,24):=by kernel_rfl
theorem infoI:(Tryz.prog.info? 3).map (fun i=>(i.zero,i.size,i.bytes))=some (some (.int .i64 0),1,8):=by kernel_rfl
theorem infoS:(Tryz.prog.info? 9).map (fun i=>(i.zero,i.size,i.bytes))=some (some (.string ⟨#[]⟩),1,16):=by kernel_rfl
structure PkR (w:World) (p:Pk):Prop where
 wP:Rd w p.wP 1
 pass:Rd w p.pass 1
 mP:Rd w p.mP 1
 asks:Rd w p.asks 2
 codes:Rd w p.codes 1
 filters:Rd w p.filters 1
 bwP:p.wP.n<=140737488351232
 bpass:p.pass.n<=140737488351232
 bmP:p.mP.n<=140737488351232
 basks:p.asks.n*24<=140737488351232
 bcodes:p.codes.n*8<=140737488351232
 bfilters:p.filters.n*16<=140737488351232
theorem PkR.below {w w':World} {p:Pk} (h:PkR w p) (hb:Below w.heap.size w w'):PkR w' p:=⟨h.wP.below hb,h.pass.below hb,h.mP.below hb,h.asks.below hb,h.codes.below hb,h.filters.below hb,h.bwP,h.bpass,h.bmP,h.basks,h.bcodes,h.bfilters⟩
theorem results_row1 {P:Program} {fn:Func} {p:Tmp} {ty:TypeId} (h:fn.results = #[.cell p ty]) (tmps:Array Value) (w:World) (g:Nat) (t:TypeId) (cs:Array Value) (fr:Nat×Nat) (d:TypeDesc)
 (hp:tmps.getD p undef = .pointer (some ⟨g,0,none⟩)) (hg:w.heap[g]?=some (.cells cs t fr)) (hu:P.underlying ty=some d) (hd:(match d with | .struct _ | .array _ _=>true | _=>false)=true) (hi:(P.info? ty).map (·.size)=some cs.size) :
 (results fn tmps).run P w = .ok (.agg cs) w:=by
 have hp':tmps[p]?.getD undef = .pointer (some ⟨g,0,none⟩):=by simpa using hp
 simp [results,h,hp',asAddr,run_loadVar_row w g t ty cs fr d hg hu hd hi]
theorem dcmsg_any (tt:ByteArray) (l:Sl) (qq:Int) (rr:Bool) (w:World) (hr:Rd w l 1) (hb:l.n<=140737488351232) :
 Calls Tryz.prog 38 #[.agg #[.string tt,.slice l.a l.n l.c,.int .i64 qq,.bool rr]] w fun e w'=>∃ l':Sl,e = .returned (.agg #[.string tt,.slice l'.a l'.n l'.c,.int .i64 qq,.bool rr])/\Below w.heap.size w w':=by
 obtain ⟨V,hV⟩:∃ V,V=w.alloc (.cells #[.string tt,.slice l.a l.n l.c,.int .i64 qq,.bool rr] 34):=⟨_,rfl⟩;have b1:Below w.heap.size w V:=by rw [hV];exact (Below.refl _ _).alloc (Nat.le_refl _) _
 have a1:V.heap[w.heap.size]?=some (.cells #[.string tt,.slice l.a l.n l.c,.int .i64 qq,.bool rr] 34 (0,0)):=by rw [hV];exact heap_alloc_new _ _
 obtain ⟨W,hW⟩:∃ W,W=V.alloc (.cells #[.string ⟨#[]⟩,.slice none 0 0,.int .i64 0,.bool false] 34):=⟨_,rfl⟩;have b2:Below V.heap.size V W:=by rw [hW];exact (Below.refl _ _).alloc (Nat.le_refl _) _
 have sv:V.heap.size=w.heap.size+1:=by rw [hV];simp
 have A1:=hidi ((b2.block _ (by omega)).trans a1);have A2:=hidi (show W.heap[w.heap.size+1]?=some (.cells #[.string ⟨#[]⟩,.slice none 0 0,.int .i64 0,.bool false] 34 (0,0)) from by rw [<-sv,hW];exact heap_alloc_new V _);have BW:=hidi (show Below w.heap.size w W from Co.bel_on b1 b2);have HR:=hidi (hr.below BW.out);have HB:=hidi (show l.n*1<=140737488351232 from by omega);have HV:=hidi hV;have HW:=hidi hW;have c1:=dcell A1.out 1 (.slice l.a l.n l.c) rfl;clear hV hW b1 b2 a1 sv hr hb;go_enter Tryz.func38,Tryz.ntmps38;go_upto_region 1 with fail;rw [<-HV.out];rw [<-HW.out];clear HV HW;go_wp2_with (at_builtin;refine wpList_cpy rfl (.tmp 4) (.tmp 6) 32 5 rfl (.int .u8 0) 1 1 Tryz.underlying32 binfo5 rfl (by decide) (by decide) rfl l rfl HR.out HB.out ?_);intro l' w1 hb1;have A1:=hidi (Co.later_at A1.out hb1);have A2:=hidi (Co.later_at A2.out hb1);have BW:=hidi (show Below w.heap.size w w1 from Co.bel_on BW.out hb1);have c1:=dcell A1.out 1 (.slice l.a l.n l.c) rfl;have z1:=dfroz A1.out 1;clear hb1;obtain ⟨w2,hw2⟩:∃ w2,w2=w1.setCell ⟨w.heap.size,1,none⟩ (.slice l'.a l'.n l'.c):=⟨_,rfl⟩;have M1:=hidi (show w2.heap[w.heap.size]?=some (.cells #[.string tt,.slice l'.a l'.n l'.c,.int .i64 qq,.bool rr] 34 (0,0)) from by rw [hw2];exact heap_set (i:=1) A1.out (.slice l'.a l'.n l'.c));have M2:=hidi (show w2.heap[w.heap.size+1]?=some (.cells #[.string ⟨#[]⟩,.slice none 0 0,.int .i64 0,.bool false] 34 (0,0)) from by rw [hw2];exact (Below.heap_setCell _ _ _ _ (show w.heap.size+1≠w.heap.size from by omega)).trans A2.out);have B2:=hidi (show Below w.heap.size w w2 from by rw [hw2];exact BW.out.setCell (p:=⟨w.heap.size,1,none⟩) (Nat.le_refl _) _);have H2:=hidi hw2;go_upto_region 3 with fail;rw [<-H2.out];clear H2 hw2 c1 z1;have d0:=dcell M1.out 0 (.string tt) rfl;have d1:=dcell M1.out 1 (.slice l'.a l'.n l'.c) rfl;have d2:=dcell M1.out 2 (.int .i64 qq) rfl;have d3:=dcell M1.out 3 (.bool rr) rfl;go_wp2_with (first | (refine wpList_store_row rfl 34 (.tmp 2) (.tmp 9) rfl (w.heap.size+1) #[.string tt,.slice l'.a l'.n l'.c,.int .i64 qq,.bool rr] rfl rfl 34 #[.string ⟨#[]⟩,.slice none 0 0,.int .i64 0,.bool false] M2.out (by kernel_rfl) rfl (by simp [Value.oneCell']) ?_));refine bodyPost_ret (results_row1 rfl _ _ (w.heap.size+1) 34 #[.string tt,.slice l'.a l'.n l'.c,.int .i64 qq,.bool rr] (0,0) _ rfl (setRow_at M2.out) Tryz.underlying34 rfl (by kernel_rfl)) rfl ?_;exact ⟨l',rfl,bel_row B2.out (by omega)⟩
set_option maxHeartbeats 4000000
structure Cb (w w':World) (p:Pk):Prop where
 bx:w'.heap[w.heap.size]?=some (.cells (pkCells p) 39 (0,0))
 rs:w'.heap[w.heap.size+1]?=some (.cells (pkCells (blank 0)) 39 (0,0))
 bel:Below w.heap.size w w'
theorem Cb.below {w w' w'':World} {p:Pk} (h:Cb w w' p) (hb:Below w'.heap.size w' w''):Cb w w'' p:=⟨Co.later_at h.bx hb,Co.later_at h.rs hb,h.bel.trans (hb.mono h.bel.size)⟩
theorem Cb.set {w w':World} {p q:Pk} (h:Cb w w' p) (i:Nat) (v:Value) (e:(pkCells p).setIfInBounds i v=pkCells q):Cb w (w'.setCell ⟨w.heap.size,i,none⟩ v) q := ⟨e ▸ heap_set h.bx v,(Below.heap_setCell _ _ _ _ (show w.heap.size+1≠w.heap.size from by omega)).trans h.rs,h.bel.setCell (p:=⟨w.heap.size,i,none⟩) (Nat.le_refl _) _⟩
theorem Cb.fz {w w':World} {p:Pk} (h:Cb w w' p) (i:Nat):w'.frozen? ⟨w.heap.size,i,none⟩=false:=dfroz h.bx i
theorem Cb.cell {w w':World} {p:Pk} (h:Cb w w' p) (i:Nat) (v:Value) (e:(pkCells p)[i]?=some v):w'.cell? ⟨w.heap.size,i,none⟩=some v:=dcell h.bx i v e
theorem dcopy_any (p:Pk) (w:World) (hr:PkR w p):Calls Tryz.prog 22 #[.agg (pkCells p)] w fun e w'=>∃ q:Pk,e = .returned (.agg (pkCells q))/\q.kind=p.kind/\q.keep=p.keep/\Below w.heap.size w w':=by
 obtain ⟨V,hV⟩:∃ V,V=w.alloc (.cells (pkCells p) 39):=⟨_,rfl⟩;have b1:Below w.heap.size w V:=by rw [hV];exact (Below.refl _ _).alloc (Nat.le_refl _) _
 obtain ⟨W,hW⟩:∃ W,W=V.alloc (.cells (pkCells (blank 0)) 39):=⟨_,rfl⟩;have b2:Below V.heap.size V W:=by rw [hW];exact (Below.refl _ _).alloc (Nat.le_refl _) _
 have sv:V.heap.size=w.heap.size+1:=by rw [hV];simp
 have CB:=hidi (show Cb w W p from ⟨(b2.block _ (by omega)).trans (by rw [hV];exact heap_alloc_new _ _),by rw [<-sv,hW];exact heap_alloc_new V _,Co.bel_on b1 b2⟩);have HR:=hidi hr;have HV:=hidi hV;have HW:=hidi hW;clear hV hW b1 b2 sv hr;obtain ⟨kind,level,clean,keep,client,hasWill,wT,⟨wa,wn,wc⟩,wQ,wR,hasUser,user,hasPass,⟨pa,pn,pc⟩,present,code,dup,mT,⟨ma,mn,mc⟩,mQ,mR,id,⟨aa,an,ac⟩,⟨ca,cn,cc⟩,⟨fa,fn,fc⟩⟩:=p;go_enter Tryz.func22,Tryz.ntmps22;go_upto_region 1 with fail;rw [show w.alloc (.cells (pkCells (⟨kind,level,clean,keep,client,hasWill,wT,⟨wa,wn,wc⟩,wQ,wR,hasUser,user,hasPass,⟨pa,pn,pc⟩,present,code,dup,mT,⟨ma,mn,mc⟩,mQ,mR,id,⟨aa,an,ac⟩,⟨ca,cn,cc⟩,⟨fa,fn,fc⟩⟩:Pk)) 39)=V from HV.out.symm];rw [show V.alloc (.cells #[.int .i64 0,.int .i64 0,.bool false,.int .i64 0,.string ⟨#[]⟩,.bool false,.string ⟨#[]⟩,.slice none 0 0,.int .i64 0,.bool false,.bool false,.string ⟨#[]⟩,.bool false,.slice none 0 0,.bool false,.int .i64 0,.bool false,.string ⟨#[]⟩,.slice none 0 0,.int .i64 0,.bool false,.int .i64 0,.slice none 0 0,.slice none 0 0,.slice none 0 0] 39)=W from HW.out.symm];clear HV HW;have c6:=CB.out.cell 6 (.string wT) rfl;have c7:=CB.out.cell 7 (.slice wa wn wc) rfl;have c8:=CB.out.cell 8 (.int .i64 wQ) rfl;have c9:=CB.out.cell 9 (.bool wR) rfl;have CM:=hidi (dcmsg_any wT ⟨wa,wn,wc⟩ wQ wR _ (HR.out.below CB.out.bel).wP HR.out.bwP);go_wp2_with fail;go_must (go_at_call 38);refine CM.out.mono ?_;clear CM c6 c7 c8 c9;rintro e V1 ⟨l1,rfl,hb⟩;replace CB:=hidi (CB.out.below hb);clear hb;have f6:=CB.out.fz 6;have f7:=CB.out.fz 7;have f8:=CB.out.fz 8;have f9:=CB.out.fz 9;have c6:=CB.out.cell 6 (.string wT) rfl;have c7:=CB.out.cell 7 (.slice wa wn wc) rfl;have c8:=CB.out.cell 8 (.int .i64 wQ) rfl;have c9:=CB.out.cell 9 (.bool wR) rfl;go_upto_region 2 with fail;obtain ⟨U1,hU⟩:∃ U,U=(((V1.setCell ⟨w.heap.size,6,none⟩ (.string wT)).setCell ⟨w.heap.size,7,none⟩ (.slice l1.a l1.n l1.c)).setCell ⟨w.heap.size,8,none⟩ (.int .i64 wQ)).setCell ⟨w.heap.size,9,none⟩ (.bool wR):=⟨_,rfl⟩;rw [<-hU];replace CB:=hidi (show Cb w U1 (⟨kind,level,clean,keep,client,hasWill,wT,l1,wQ,wR,hasUser,user,hasPass,⟨pa,pn,pc⟩,present,code,dup,mT,⟨ma,mn,mc⟩,mQ,mR,id,⟨aa,an,ac⟩,⟨ca,cn,cc⟩,⟨fa,fn,fc⟩⟩:Pk) from by rw [hU];exact (((CB.out.set 6 (.string wT) (q:=(⟨kind,level,clean,keep,client,hasWill,wT,⟨wa,wn,wc⟩,wQ,wR,hasUser,user,hasPass,⟨pa,pn,pc⟩,present,code,dup,mT,⟨ma,mn,mc⟩,mQ,mR,id,⟨aa,an,ac⟩,⟨ca,cn,cc⟩,⟨fa,fn,fc⟩⟩:Pk)) rfl).set 7 (.slice l1.a l1.n l1.c) (q:=(⟨kind,level,clean,keep,client,hasWill,wT,l1,wQ,wR,hasUser,user,hasPass,⟨pa,pn,pc⟩,present,code,dup,mT,⟨ma,mn,mc⟩,mQ,mR,id,⟨aa,an,ac⟩,⟨ca,cn,cc⟩,⟨fa,fn,fc⟩⟩:Pk)) rfl).set 8 (.int .i64 wQ) (q:=(⟨kind,level,clean,keep,client,hasWill,wT,l1,wQ,wR,hasUser,user,hasPass,⟨pa,pn,pc⟩,present,code,dup,mT,⟨ma,mn,mc⟩,mQ,mR,id,⟨aa,an,ac⟩,⟨ca,cn,cc⟩,⟨fa,fn,fc⟩⟩:Pk)) rfl).set 9 (.bool wR) (q:=(⟨kind,level,clean,keep,client,hasWill,wT,l1,wQ,wR,hasUser,user,hasPass,⟨pa,pn,pc⟩,present,code,dup,mT,⟨ma,mn,mc⟩,mQ,mR,id,⟨aa,an,ac⟩,⟨ca,cn,cc⟩,⟨fa,fn,fc⟩⟩:Pk)) rfl);clear hU f6 f7 f8 f9 c6 c7 c8 c9;have c17:=CB.out.cell 17 (.string mT) rfl;have c18:=CB.out.cell 18 (.slice ma mn mc) rfl;have c19:=CB.out.cell 19 (.int .i64 mQ) rfl;have c20:=CB.out.cell 20 (.bool mR) rfl;have CM:=hidi (dcmsg_any mT ⟨ma,mn,mc⟩ mQ mR _ (HR.out.below CB.out.bel).mP HR.out.bmP);go_wp2_with fail;go_must (go_at_call 38);refine CM.out.mono ?_;clear CM c17 c18 c19 c20;rintro e V2 ⟨l2,rfl,hb⟩;replace CB:=hidi (CB.out.below hb);clear hb;have f17:=CB.out.fz 17;have f18:=CB.out.fz 18;have f19:=CB.out.fz 19;have f20:=CB.out.fz 20;have c17:=CB.out.cell 17 (.string mT) rfl;have c18:=CB.out.cell 18 (.slice ma mn mc) rfl;have c19:=CB.out.cell 19 (.int .i64 mQ) rfl;have c20:=CB.out.cell 20 (.bool mR) rfl;go_upto_region 3 with fail;obtain ⟨U2,hU⟩:∃ U,U=(((V2.setCell ⟨w.heap.size,17,none⟩ (.string mT)).setCell ⟨w.heap.size,18,none⟩ (.slice l2.a l2.n l2.c)).setCell ⟨w.heap.size,19,none⟩ (.int .i64 mQ)).setCell ⟨w.heap.size,20,none⟩ (.bool mR):=⟨_,rfl⟩;rw [<-hU];replace CB:=hidi (show Cb w U2 (⟨kind,level,clean,keep,client,hasWill,wT,l1,wQ,wR,hasUser,user,hasPass,⟨pa,pn,pc⟩,present,code,dup,mT,l2,mQ,mR,id,⟨aa,an,ac⟩,⟨ca,cn,cc⟩,⟨fa,fn,fc⟩⟩:Pk) from by rw [hU];exact (((CB.out.set 17 (.string mT) (q:=(⟨kind,level,clean,keep,client,hasWill,wT,l1,wQ,wR,hasUser,user,hasPass,⟨pa,pn,pc⟩,present,code,dup,mT,⟨ma,mn,mc⟩,mQ,mR,id,⟨aa,an,ac⟩,⟨ca,cn,cc⟩,⟨fa,fn,fc⟩⟩:Pk)) rfl).set 18 (.slice l2.a l2.n l2.c) (q:=(⟨kind,level,clean,keep,client,hasWill,wT,l1,wQ,wR,hasUser,user,hasPass,⟨pa,pn,pc⟩,present,code,dup,mT,l2,mQ,mR,id,⟨aa,an,ac⟩,⟨ca,cn,cc⟩,⟨fa,fn,fc⟩⟩:Pk)) rfl).set 19 (.int .i64 mQ) (q:=(⟨kind,level,clean,keep,client,hasWill,wT,l1,wQ,wR,hasUser,user,hasPass,⟨pa,pn,pc⟩,present,code,dup,mT,l2,mQ,mR,id,⟨aa,an,ac⟩,⟨ca,cn,cc⟩,⟨fa,fn,fc⟩⟩:Pk)) rfl).set 20 (.bool mR) (q:=(⟨kind,level,clean,keep,client,hasWill,wT,l1,wQ,wR,hasUser,user,hasPass,⟨pa,pn,pc⟩,present,code,dup,mT,l2,mQ,mR,id,⟨aa,an,ac⟩,⟨ca,cn,cc⟩,⟨fa,fn,fc⟩⟩:Pk)) rfl);clear hU f17 f18 f19 f20 c17 c18 c19 c20;have c13:=CB.out.cell 13 (.slice pa pn pc) rfl;have RDL:=hidi ((HR.out.below CB.out.bel).pass);have BDL:=hidi (show pn*1<=140737488351232 from by have:=HR.out.bpass;simpa using this);go_upto_region 8 with (at_builtin;refine wpList_cpy rfl (.tmp 15) (.tmp 17) 32 5 rfl (.int .u8 0) 1 1 Tryz.underlying32 binfo5 rfl (by decide) (by decide) rfl ⟨pa,pn,pc⟩ rfl RDL.out BDL.out ?_;intro l3 V3 hb;replace CB:=hidi (CB.out.below hb);clear hb c13;have c13:=CB.out.cell 13 (.slice pa pn pc) rfl;have f13:=CB.out.fz 13);obtain ⟨U3,hU⟩:∃ U,U=V3.setCell ⟨w.heap.size,13,none⟩ (.slice l3.a l3.n l3.c):=⟨_,rfl⟩;rw [<-hU];replace CB:=hidi (show Cb w U3 (⟨kind,level,clean,keep,client,hasWill,wT,l1,wQ,wR,hasUser,user,hasPass,l3,present,code,dup,mT,l2,mQ,mR,id,⟨aa,an,ac⟩,⟨ca,cn,cc⟩,⟨fa,fn,fc⟩⟩:Pk) from by rw [hU];exact CB.out.set 13 (.slice l3.a l3.n l3.c) (q:=(⟨kind,level,clean,keep,client,hasWill,wT,l1,wQ,wR,hasUser,user,hasPass,l3,present,code,dup,mT,l2,mQ,mR,id,⟨aa,an,ac⟩,⟨ca,cn,cc⟩,⟨fa,fn,fc⟩⟩:Pk)) rfl);clear hU f13 c13 RDL BDL;have c22:=CB.out.cell 22 (.slice aa an ac) rfl;have RDL:=hidi ((HR.out.below CB.out.bel).asks);have BDL:=hidi (show an*24<=140737488351232 from by have:=HR.out.basks;simpa using this);go_upto_region 9 with (at_builtin;refine wpList_cpy rfl (.tmp 20) (.tmp 22) 35 99 rfl (.agg #[.string ⟨#[]⟩,.int .i64 0]) 2 24 Tryz.underlying35 infoA rfl (by decide) (by decide) rfl ⟨aa,an,ac⟩ rfl RDL.out BDL.out ?_;intro l4 V4 hb;replace CB:=hidi (CB.out.below hb);clear hb c22;have c22:=CB.out.cell 22 (.slice aa an ac) rfl;have f22:=CB.out.fz 22);obtain ⟨U4,hU⟩:∃ U,U=V4.setCell ⟨w.heap.size,22,none⟩ (.slice l4.a l4.n l4.c):=⟨_,rfl⟩;rw [<-hU];replace CB:=hidi (show Cb w U4 (⟨kind,level,clean,keep,client,hasWill,wT,l1,wQ,wR,hasUser,user,hasPass,l3,present,code,dup,mT,l2,mQ,mR,id,l4,⟨ca,cn,cc⟩,⟨fa,fn,fc⟩⟩:Pk) from by rw [hU];exact CB.out.set 22 (.slice l4.a l4.n l4.c) (q:=(⟨kind,level,clean,keep,client,hasWill,wT,l1,wQ,wR,hasUser,user,hasPass,l3,present,code,dup,mT,l2,mQ,mR,id,l4,⟨ca,cn,cc⟩,⟨fa,fn,fc⟩⟩:Pk)) rfl);clear hU f22 c22 RDL BDL;have c23:=CB.out.cell 23 (.slice ca cn cc) rfl;have RDL:=hidi ((HR.out.below CB.out.bel).codes);have BDL:=hidi (show cn*8<=140737488351232 from by have:=HR.out.bcodes;simpa using this);go_upto_region 10 with (at_builtin;refine wpList_cpy rfl (.tmp 25) (.tmp 27) 36 3 rfl (.int .i64 0) 1 8 Tryz.underlying36 infoI rfl (by decide) (by decide) rfl ⟨ca,cn,cc⟩ rfl RDL.out BDL.out ?_;intro l5 V5 hb;replace CB:=hidi (CB.out.below hb);clear hb c23;have c23:=CB.out.cell 23 (.slice ca cn cc) rfl;have f23:=CB.out.fz 23);obtain ⟨U5,hU⟩:∃ U,U=V5.setCell ⟨w.heap.size,23,none⟩ (.slice l5.a l5.n l5.c):=⟨_,rfl⟩;rw [<-hU];replace CB:=hidi (show Cb w U5 (⟨kind,level,clean,keep,client,hasWill,wT,l1,wQ,wR,hasUser,user,hasPass,l3,present,code,dup,mT,l2,mQ,mR,id,l4,l5,⟨fa,fn,fc⟩⟩:Pk) from by rw [hU];exact CB.out.set 23 (.slice l5.a l5.n l5.c) (q:=(⟨kind,level,clean,keep,client,hasWill,wT,l1,wQ,wR,hasUser,user,hasPass,l3,present,code,dup,mT,l2,mQ,mR,id,l4,l5,⟨fa,fn,fc⟩⟩:Pk)) rfl);clear hU f23 c23 RDL BDL;have c24:=CB.out.cell 24 (.slice fa fn fc) rfl;have RDL:=hidi ((HR.out.below CB.out.bel).filters);have BDL:=hidi (show fn*16<=140737488351232 from by have:=HR.out.bfilters;simpa using this);go_upto_region 11 with (at_builtin;refine wpList_cpy rfl (.tmp 30) (.tmp 32) 37 9 rfl (.string ⟨#[]⟩) 1 16 Tryz.underlying37 infoS rfl (by decide) (by decide) rfl ⟨fa,fn,fc⟩ rfl RDL.out BDL.out ?_;intro l6 V6 hb;replace CB:=hidi (CB.out.below hb);clear hb c24;have c24:=CB.out.cell 24 (.slice fa fn fc) rfl;have f24:=CB.out.fz 24);obtain ⟨U6,hU⟩:∃ U,U=V6.setCell ⟨w.heap.size,24,none⟩ (.slice l6.a l6.n l6.c):=⟨_,rfl⟩;rw [<-hU];replace CB:=hidi (show Cb w U6 (⟨kind,level,clean,keep,client,hasWill,wT,l1,wQ,wR,hasUser,user,hasPass,l3,present,code,dup,mT,l2,mQ,mR,id,l4,l5,l6⟩:Pk) from by rw [hU];exact CB.out.set 24 (.slice l6.a l6.n l6.c) (q:=(⟨kind,level,clean,keep,client,hasWill,wT,l1,wQ,wR,hasUser,user,hasPass,l3,present,code,dup,mT,l2,mQ,mR,id,l4,l5,l6⟩:Pk)) rfl);clear hU f24 c24 RDL BDL;go_wp2_with (first | (refine Pkt.wpList_load_wanted rfl (.tmp 1) rfl w.heap.size rfl (pkCells (⟨kind,level,clean,keep,client,hasWill,wT,l1,wQ,wR,hasUser,user,hasPass,l3,present,code,dup,mT,l2,mQ,mR,id,l4,l5,l6⟩:Pk)) (0,0) CB.out.bx (pk_size _) ?_)|(refine wpList_store_row rfl 39 (.tmp 2) (.tmp 35) rfl (w.heap.size+1) (pkCells (⟨kind,level,clean,keep,client,hasWill,wT,l1,wQ,wR,hasUser,user,hasPass,l3,present,code,dup,mT,l2,mQ,mR,id,l4,l5,l6⟩:Pk)) rfl rfl 39 (pkCells (blank 0)) CB.out.rs pk_info rfl (pk_one _) ?_));refine bodyPost_ret (results_row1 rfl _ _ (w.heap.size+1) 39 (pkCells (⟨kind,level,clean,keep,client,hasWill,wT,l1,wQ,wR,hasUser,user,hasPass,l3,present,code,dup,mT,l2,mQ,mR,id,l4,l5,l6⟩:Pk)) (0,0) _ rfl (setRow_at CB.out.rs) Tryz.underlying39 rfl pk_info) rfl ?_;exact ⟨_,rfl,rfl,rfl,bel_row CB.out.bel (by omega)⟩
open Co (inC inA ansP kpC cnC in_info in_one)
theorem wpList_load_midW {ops:Array Oper} {Q:Exit->Act->World->Prop} {a:Act} {w:World} {o:Oper} {rest:List Oper} (hw:Region.wanted o (yielded ops a.tmps)=true) (x:Operand) (ho:o.op = .load 39 x) (g k:Nat) (hx:a.eval x = .pointer (some ⟨g,k,none⟩)) (q:Pk) (hc:w.rangeAt g k (pkCells q).toList) (h:wpList Tryz.prog ops Q rest (a.put o.dst (.agg (pkCells q))) w):wpList Tryz.prog ops Q (o::rest) a w := wpList_step fun K hK=>by rw [if_pos hw];exact wp_load_mid 39 x ho g k hx (pkCells q).toList _ hc Tryz.underlying39 rfl (by kernel_rfl) (hK _ _ h)
theorem range_in {w:World} {g:Nat} {what:Int} {q:Pk} {code err:Int} (h:w.heap[g]?=some (.cells (inC what q code err) 42 (0,0))):w.rangeAt g 1 (pkCells q).toList:=by
 intro j v hv;refine dcell h (1+j) v ?_;rw [Array.getElem?_toList] at hv;have hj:j<25:=by have:=(Array.getElem?_eq_some_iff.1 hv).1;exact this
 have e:∀ j,j<25->(inC what q code err)[1+j]?=(pkCells q)[j]?:=by
  intro j hj;match j,hj with
  | 0,_ | 1,_ | 2,_ | 3,_ | 4,_ | 5,_ | 6,_ | 7,_ | 8,_ | 9,_ | 10,_ | 11,_ | 12,_ | 13,_ | 14,_ | 15,_ | 16,_ | 17,_ | 18,_ | 19,_ | 20,_ | 21,_ | 22,_ | 23,_ | 24,_=>rfl;| n+25,h=>omega
 rw [e j hj];exact hv
theorem alike_re {q q' p:Pk} (h:Alike q p) (h':Alike q' p):q=q'.re q.wP q.pass q.mP q.asks q.codes q.filters/\q.wP.n=q'.wP.n/\q.pass.n=q'.pass.n/\q.mP.n=q'.mP.n/\q.asks.n=q'.asks.n/\q.codes.n=q'.codes.n/\q.filters.n=q'.filters.n:=by obtain ⟨s1,s2,s3,s4,s5,s6,rfl,h1,h2,h3,h4,h5,h6⟩:=h;obtain ⟨t1,t2,t3,t4,t5,t6,rfl,g1,g2,g3,g4,g5,g6⟩:=h';exact ⟨rfl,h1.trans g1.symm,h2.trans g2.symm,h3.trans g3.symm,h4.trans g4.symm,h5.trans g5.symm,h6.trans g6.symm⟩
theorem rsame_any {q q' p:Pk} {c:Cn} (w:World) (ha:In w q c) (hb:In w q' c) (h:Alike q p) (h':Alike q' p) (hs:Small p c):Calls Tryz.prog 36 #[.agg (pkCells q),.agg (pkCells q')] w fun e w'=>e = .returned (.bool true)/\Below w.heap.size w w':=by obtain ⟨e,n1,n2,n3,n4,n5,n6⟩:=alike_re h h';have:=Pkt.rsame_eq q' c q.wP q.pass q.mP q.asks q.codes q.filters w hb (e ▸ ha) n1 n2 n3 n4 n5 n6 (small_alike h' hs);rw [<-e] at this;exact this
theorem sin_any (what:Int) (q q' p:Pk) (c:Cn) (code err:Int) (w:World) (ha:In w q c) (hb:In w q' c) (h:Alike q p) (h':Alike q' p) (hs:Small p c):Calls Tryz.prog 17 #[.agg (inC what q code err),.agg (inC what q' code err)] w fun e w'=>e = .returned (.bool true)/\Below w.heap.size w w':=by
 obtain ⟨P1,hP1⟩:∃ P,P=inC what q code err:=⟨_,rfl⟩;obtain ⟨P2,hP2⟩:∃ P,P=inC what q' code err:=⟨_,rfl⟩;rw [<-hP1,<-hP2];obtain ⟨V,hV⟩:∃ V,V=w.alloc (.cells P1 42):=⟨_,rfl⟩;have b1:Below w.heap.size w V:=by rw [hV];exact (Below.refl _ _).alloc (Nat.le_refl _) _
 obtain ⟨W,hW⟩:∃ W,W=V.alloc (.cells P2 42):=⟨_,rfl⟩;have b2:Below V.heap.size V W:=by rw [hW];exact (Below.refl _ _).alloc (Nat.le_refl _) _
 have sv:V.heap.size=w.heap.size+1:=by rw [hV];simp
 have a1:W.heap[w.heap.size]?=some (.cells (inC what q code err) 42 (0,0)):=(b2.block _ (by omega)).trans (by rw [hV,<-hP1];exact heap_alloc_new _ _);have a2:W.heap[w.heap.size+1]?=some (.cells (inC what q' code err) 42 (0,0)):=by rw [<-sv,hW,<-hP2];exact heap_alloc_new V _
 have BW:=hidi (show Below w.heap.size w W from Co.bel_on b1 b2);have R1:=hidi (range_in a1);have R2:=hidi (range_in a2);have i0:=dcell a1 0 (.int .i64 what) rfl;have i26:=dcell a1 26 (.int .i64 code) rfl;have i27:=dcell a1 27 (.int .i64 err) rfl;have j0:=dcell a2 0 (.int .i64 what) rfl;have j26:=dcell a2 26 (.int .i64 code) rfl;have j27:=dcell a2 27 (.int .i64 err) rfl;have SM:=hidi (rsame_any W (ha.below BW.out) (hb.below BW.out) h h' hs);have HV:=hidi hV;have HW:=hidi hW;clear hV hW b1 b2 sv a1 a2 ha hb h h' hs hP1 hP2;go_enter Tryz.func17,Tryz.ntmps17;go_upto_region 1 with fail;rw [<-HV.out];rw [<-HW.out];clear HV HW;go_wp2_with (first | (refine wpList_load_midW (by kernel_rfl) (.tmp 25) rfl w.heap.size 1 rfl q R1.out ?_)|(refine wpList_load_midW (by kernel_rfl) (.tmp 27) rfl (w.heap.size+1) 1 rfl q' R2.out ?_));go_must (go_at_call 36);refine SM.out.mono ?_;rintro e v ⟨rfl,hb⟩;have B2:=hidi (Co.bel_on BW.out hb);clear hb SM;go_wp2_with fail;go_ret;exact ⟨rfl,B2.out⟩
end Go.Proofs.YtpldoeeahhaimaaGreatDoor.Dr
namespace Go.Proofs.YtpldoeeahhaimaaGreatDoor.Co
open Go Go.RowKit
open Pkt (Pk Cn Sl In By Is Ss As pkCells Gd KindsAt Small wpList_load_wanted)
set_option linter.all false
set_option maxRecDepth 100000
set_option maxHeartbeats 2000000
section
variable {w W:World} {cb fb:Nat} {most st si bd:Int} {rf:Option Nat} {P:Nat} {z:Nat->Int} {H:Nat}
theorem kp_fault (h:KL w W cb fb most st si bd rf P z H) (hz:∀ i,0<=z i/\z i<=255) (hn:P+H<=400000) {x:Int×Int} (hR:decP z H most = .fault x) :
 Calls Tryz.prog 13 #[.pointer (some ⟨cb,0,none⟩)] W fun e w'=>e = .returned (.tuple #[.agg (inC 3 (blank 0) 0 x.2),.bool true])/\CnAt w' cb 2 (.pointer none) 0 0/\Ch (fun k=>k=cb\/k=fb) W w':=by
 refine (cnext_any h.lv h.s01 hz (kl_gw h).1 hn h.bel.size (kl_gw h).2).mono ?_;rintro e w' ⟨what,q,code,err,rfl,hN,hC⟩;rw [hR] at hN;obtain ⟨rfl,rfl,rfl,rfl,h5⟩:=hN;exact ⟨rfl,h5,hC⟩
def PkM (w W w':World) (cb fb:Nat) (most st bd:Int) (rf:Option Nat) (P:Nat) (z:Nat->Int) (H:Nat) (p:Pk) (k:Nat) (q:Pk):Prop := if onP st p=true then ∃ rf',KL w w' cb fb most 1 0 (bdP st bd p) rf' (P+k) (sh z k) (H-k)/\Nw W.heap.size rf rf'/\∀ b,Uses q b->rf'≠some b else CnAt w' cb 2 (.pointer none) 0 0
theorem kp_pkt (h:KL w W cb fb most st si bd rf P z H) (hz:∀ i,0<=z i/\z i<=255) (hn:P+H<=400000) {p:Pk} {c:Cn} {k:Nat} (hR:decP z H most = .ok p c k) :
 Calls Tryz.prog 13 #[.pointer (some ⟨cb,0,none⟩)] W fun e w'=>∃ q,e = .returned (.tuple #[.agg (inA (ansP st p) q),.bool true])/\(Alike q p/\In w' q c/\∀ b,Uses q b->W.heap.size<=b)/\PkM w W w' cb fb most st bd rf P z H p k q/\Ch (fun k=>k=cb\/k=fb) W w':=by
 refine (cnext_any h.lv h.s01 hz (kl_gw h).1 hn h.bel.size (kl_gw h).2).mono ?_;rintro e w' ⟨what,q',code,err,rfl,hN,hC⟩;rw [hR] at hN;obtain ⟨q,h1,h2,h3,h4,h5,rf',h6,h7,h8⟩:=hN;rw [ans_in,ans_alike h1] at h4;have hi:=inC_inj (show inC what q' code err=inC (ansP st p).1 (if (ansP st p).1=1 then q else blank 0) (ansP st p).2.1 (ansP st p).2.2 from h4);have hk:=Alike.kind h1;have hw:(what != 0)=true:=by rw [hi.1];exact ans_ne st p
 refine ⟨q,by rw [h4,hw],⟨h1,h2,fun b hb=>by have:=h3 b hb;omega⟩,?_,hC⟩;have h7':Nw W.heap.size rf rf':=by
  rcases h7 with y | y | ⟨m,y,y2⟩;· exact .inl y
  · exact .inr (.inl y)
  · exact .inr (.inr ⟨m,y,by omega⟩)
 unfold PkM;by_cases ho:onP st p=true
 · rw [if_pos ho]
   unfold onP at ho;simp only [Bool.and_eq_true,decide_eq_true_eq] at ho;have hq':q'.kind=p.kind/\q'.keep=p.keep:=by rw [hi.2.1,hi.2.2,if_pos ho.1];exact ⟨hk.1,hk.2.2⟩
   unfold TookIs at h5;rw [if_pos ⟨hi.1.trans ho.1,by rw [hq'.1];exact ho.2⟩,hq'.1,hq'.2] at h5;refine ⟨rf',⟨⟨?_,h6⟩,kl_ch h hC,h.cbl,h.fbl,h.gw,.inr rfl⟩,h7',h8⟩;unfold bdP;rcases ans_one h.s01 ho.1 with ⟨a1,a2⟩|⟨a1,a2⟩
   · rw [if_pos a2] at h5
     rw [if_pos a2];exact h5
   · rw [if_neg a2] at h5
     rw [if_neg a2];rw [a1] at h5;exact h5
 · rw [if_neg ho]
   unfold TookIs at h5;by_cases hg:what=1/\q'.kind≠14
   · exfalso
     apply ho;have a1:(ansP st p).1=1:=hi.1.symm.trans hg.1;have hq':q'.kind=p.kind:=by rw [hi.2.1,if_pos a1];exact hk.1
     unfold onP;rw [decide_eq_true a1,decide_eq_true (by rw [<-hq'];exact hg.2)];rfl
   · rw [if_neg hg] at h5
     exact h5
end
section
variable {w:World} {cb:Nat} {fp:Value} {si bd:Int}
theorem took_over (h:CnAt w cb 2 fp si bd) (what:Int) (q:Pk) (code err:Int):Calls Tryz.prog 21 #[.pointer (some ⟨cb,0,none⟩),.agg (inC what q code err)] w fun e w'=>e = .returned (.tuple #[])/\Below w.heap.size w w':=by
 obtain ⟨P,hP⟩:∃ P,P=inC what q code err:=⟨_,rfl⟩;rw [<-hP];obtain ⟨W,hW⟩:∃ W,W=w.alloc (.cells P 42):=⟨_,rfl⟩;have b1:Below w.heap.size w W:=by rw [hW];exact (Below.refl _ _).alloc (Nat.le_refl _) _
 have h1:CnAt W cb 2 fp si bd:=later_at h b1;obtain ⟨c0,c1,c2,c3⟩:=h1.cells;have B1:=hidi b1;clear hP h b1 h1;go_enter Tryz.func21,Tryz.ntmps21;go_upto_region 4 with fail;rw [<-hW];clear hW;go_wp2_with fail;go_end0;exact ⟨rfl,B1.out⟩
theorem tick_over (h:CnAt w cb 2 (.pointer none) si 0) (hs:0<=si/\si<=1000000000):Calls Tryz.prog 14 #[.pointer (some ⟨cb,0,none⟩)] w fun e w'=>e = .returned (.bool false)/\CnAt w' cb 2 (.pointer none) (si+1) 0/\Ch (fun k=>k=cb) w w':=by refine (tick_any h hs).mono ?_;rintro e w' ⟨rfl,h1,h2⟩;exact ⟨rfl,h1,h2⟩
end
end Go.Proofs.YtpldoeeahhaimaaGreatDoor.Co
namespace Go.Proofs.YtpldoeeahhaimaaGreatDoor.Dr
open Go Go.RowKit
open Pkt (Pk Cn Sl In By Is Ss As pkCells Small ck TT)
open Co (inC inA ansP kpC cnC KL CnAt onP bdP PkM TookIs lateP)
set_option linter.all false
inductive CS where | over | live (st keep si:Int) (z:Nat->Int) (H:Nat)
def bdOf (st pat keep:Int):Int:=if st=0 then max pat 0 else 3*keep / 2
def gr (S:Nat->Prop) (W W':World):Nat->Prop:=fun k=>(S k\/W.heap.size<=k)/\k<W'.heap.size
def KS (w W:World) (S:Nat->Prop) (cb:Nat) (most pat:Int) (n m:Nat):CS->Prop | .over=>∃ si,CnAt W cb 2 (.pointer none) si 0/\(0<=si/\si<=(m:Int))/\S cb | .live st keep si z H=>∃ fb rf P,KL w W cb fb most st si (bdOf st pat keep) rf P z H/\P+H<=n/\S cb/\S fb/\∀ k,rf=some k->S k
def DS (w W:World) (S:Nat->Prop) (rb:Nat) (most pat:Int) (m:Nat):CS->Prop | .over=>∃ gb mc pt kp si,DcAt W rb gb mc 2 pt kp si/\(0<=si/\si<=(m:Int))/\(0<=kp/\kp<=65535)/\S rb | .live st keep si z H=>∃ gb v t,DcAt W rb gb (clampM most) st (max pat 0) keep si/\DfAt W gb most v t 0 0/\W.ownsRow w.heap.size 5 1 v H (cellsOf z H)/\S rb/\S gb/\∀ k,v.ownBlock=some k->S k
def CS.wf (n m:Nat):CS->Prop | .over=>True | .live st keep si z H=>(st=0\/st=1)/\(0<=keep/\keep<=65535)/\(0<=si/\si<=(m:Int))/\(∀ i,0<=z i/\z i<=255)/\H<=n
section
variable {w W W':World} {S T:Nat->Prop} {cb rb:Nat} {most pat:Int} {n m:Nat} {s:CS}
theorem CS.wf.mono {n' m':Nat} (h:s.wf n m) (hn:n<=n') (hm:m<=m'):s.wf n' m':=by cases s with | over=>trivial | live st keep si z H=>exact ⟨h.1,h.2.1,⟨h.2.2.1.1,by have:=h.2.2.1.2;omega⟩,h.2.2.2.1,by have:=h.2.2.2.2;omega⟩
theorem KS.mono {n' m':Nat} {T:Nat->Prop} (h:KS w W S cb most pat n m s) (hS:∀ k,S k->T k) (hn:n<=n') (hm:m<=m'):KS w W T cb most pat n' m' s:=by cases s with | over=>obtain ⟨si,h1,h2,h3⟩:=h;exact ⟨si,h1,⟨h2.1,by have:=h2.2;omega⟩,hS _ h3⟩ | live st keep si z H=>obtain ⟨fb,rf,P,h1,h2,h3,h4,h5⟩:=h;exact ⟨fb,rf,P,h1,by omega,hS _ h3,hS _ h4,fun k e=>hS _ (h5 k e)⟩
theorem DS.mono {m':Nat} {T:Nat->Prop} (h:DS w W S rb most pat m s) (hS:∀ k,S k->T k) (hm:m<=m'):DS w W T rb most pat m' s:=by cases s with | over=>obtain ⟨gb,mc,pt,kp,si,h1,h2,h3,h4⟩:=h;exact ⟨gb,mc,pt,kp,si,h1,⟨h2.1,by have:=h2.2;omega⟩,h3,hS _ h4⟩ | live st keep si z H=>obtain ⟨gb,v,t,h1,h2,h3,h4,h5,h6⟩:=h;exact ⟨gb,v,t,h1,h2,h3,hS _ h4,hS _ h5,fun k e=>hS _ (h6 k e)⟩
theorem KS.keep (h:KS w W S cb most pat n m s) (hc:Ch T W W') (hd:∀ k,S k->¬ T k) (hT:∀ k,T k->w.heap.size<=k):KS w W' S cb most pat n m s:=by cases s with | over=>obtain ⟨si,h1,h2,h3⟩:=h;exact ⟨si,h1.keep (hc.block cb h1.lt (hd _ h3)),h2,h3⟩ | live st keep si z H=>obtain ⟨fb,rf,P,h1,h2,h3,h4,h5⟩:=h;exact ⟨fb,rf,P,h1.keep hc (hd _ h3) (hd _ h4) (fun k e=>hd _ (h5 k e)) hT,h2,h3,h4,h5⟩
theorem DS.keep (h:DS w W S rb most pat m s) (hc:Ch T W W') (hd:∀ k,S k->¬ T k):DS w W' S rb most pat m s:=by cases s with | over=>obtain ⟨gb,mc,pt,kp,si,h1,h2,h3,h4⟩:=h;exact ⟨gb,mc,pt,kp,si,dc_keep h1 (hc.block rb h1.lt (hd _ h4)),h2,h3,h4⟩ | live st keep si z H=>obtain ⟨gb,v,t,h1,h2,h3,h4,h5,h6⟩:=h;exact ⟨gb,v,t,dc_keep h1 (hc.block rb h1.lt (hd _ h4)),h2.keep (hc.block gb h2.lt (hd _ h5)),Co.own_ch h3 hc (fun k e=>hd _ (h6 k e)),h4,h5,h6⟩
def pushS (s:CS) (l:Nat) (zb:Nat->Int):CS:=match s with | .over=>.over | .live st keep si z H=>.live st keep si (cat z H zb) (H+l)
structure Ans where
 what:Int
 code:Int
 err:Int
 b:Bool
 p:Pk
 c:Cn
def nextR (st:Int):DecR->Ans | .more=>⟨0,0,0,false,blank 0,noCn⟩ | .fault x=>⟨3,0,x.2,true,blank 0,noCn⟩ | .ok p c k=>⟨(ansP st p).1,(ansP st p).2.1,(ansP st p).2.2,true,if (ansP st p).1=1 then p else blank 0,if (ansP st p).1=1 then c else noCn⟩
def nextA (most:Int):CS->Ans | .over=>⟨0,0,0,false,blank 0,noCn⟩ | .live st keep si z H=>nextR st (decP z H most)
def nextQ (st keep si:Int) (z:Nat->Int) (H:Nat):DecR->CS | .more=>.live st keep si z H | .fault _=>.over | .ok p c k=>if onP st p=true then .live 1 (if p.kind=1 then kpC p.keep else keep) 0 (Go.Proofs.YtpldoeeahhaimaaGreatDoor.sh z k) (H-k) else .over
def nextS (most:Int):CS->CS | .over=>.over | .live st keep si z H=>nextQ st keep si z H (decP z H most)
def tickS:CS->CS | .over=>.over | .live st keep si z H=>.live st keep (si+1) z H
def tickA (pat:Int):CS->Bool | .over=>false | .live st keep si z H=>dLate st (max pat 0) keep (si+1)
def tookS (what kind ka:Int):CS->CS | .over=>.over | .live st keep si z H=>if what=1/\kind≠14 then (if kind=1 then .live 1 (kpC ka) 0 z H else .live st keep 0 z H) else .over
def overA:CS->Bool | .over=>true | .live _ _ _ _ _=>false
def NaIs (B:Nat) (w':World) (e:Ending) (A:Ans):Prop:=∃ q,e = .returned (.tuple #[.agg (inC A.what q A.code A.err),.bool A.b])/\In w' q A.c/\Alike q A.p/\∀ g,g<B->Apart q g
theorem apart_blank (k:Int) (g:Nat):Apart (blank k) g:=⟨.inl rfl,.inl rfl,.inl rfl,.inl rfl,.inl rfl,.inl rfl⟩
theorem apart_uses {q:Pk} {B:Nat} (h:∀ b,Uses q b->B<=b):∀ g,g<B->Apart q g:=fun g hg=>by
 have one:∀ s:Sl,(s=q.wP\/s=q.pass\/s=q.mP\/s=q.asks\/s=q.codes\/s=q.filters)->Ap s g:=fun s hs=>by
  by_cases e:s.n=0;· exact .inl e
  · exact .inr fun b off ea eb=>by have:=h b ⟨s,hs,e,off,ea⟩;omega
 exact ⟨one _ (.inl rfl),one _ (.inr (.inl rfl)),one _ (.inr (.inr (.inl rfl))),one _ (.inr (.inr (.inr (.inl rfl)))),one _ (.inr (.inr (.inr (.inr (.inl rfl))))),one _ (.inr (.inr (.inr (.inr (.inr rfl)))))⟩
theorem late_same (st pat keep s:Int) (hs:st=0\/st=1) (hk:0<=keep):lateP (bdOf st pat keep) s=dLate st (max pat 0) keep s:=by
 unfold lateP dLate bdOf;rcases hs with rfl | rfl;· rw [if_pos rfl,if_pos rfl]
 ·
  rw [if_neg (by decide),if_neg (by decide),if_pos rfl];have e1:decide (0<3*keep / 2)=decide (0<keep):=by rw [decide_eq_decide];omega
  have e2:decide (3*keep / 2<s)=decide (3*keep<2*s):=by rw [decide_eq_decide];omega
  rw [e1,e2]
theorem kp_bd (k:Int):0<=kpC k/\kpC k<=65535:=Co.kpC_rng k
theorem pushS_wf (h:s.wf n m) (l:Nat) (zb:Nat->Int) (hb:∀ i,0<=zb i/\zb i<=255):(pushS s l zb).wf (n+l) m:=by
 cases s with
 | over=>trivial;| live st keep si z H =>
  refine ⟨h.1,h.2.1,h.2.2.1,fun i=>?_,by have:=h.2.2.2.2;omega⟩;unfold cat;split;· exact h.2.2.2.1 i
  · exact hb _
theorem nextS_wf (h:s.wf n m):(nextS most s).wf n m:=by
 cases s with
 | over=>trivial;| live st keep si z H =>
  show (nextQ st keep si z H (decP z H most)).wf n m;cases hR:decP z H most with
  | more=>exact h;| fault x=>trivial;| ok p c k =>
   show (if onP st p=true then CS.live 1 (if p.kind=1 then kpC p.keep else keep) 0 (Go.Proofs.YtpldoeeahhaimaaGreatDoor.sh z k) (H-k) else .over).wf n m;split
   · refine ⟨.inr rfl,?_,⟨Int.le_refl _,by omega⟩,fun i=>h.2.2.2.1 _,by have:=h.2.2.2.2;omega⟩
     split;· exact kp_bd _
     · exact h.2.1
   · trivial
theorem tickS_wf (h:s.wf n m):(tickS s).wf n (m+1):=by cases s with | over=>trivial | live st keep si z H=>exact ⟨h.1,h.2.1,⟨by have:=h.2.2.1.1;omega,by have:=h.2.2.1.2;omega⟩,h.2.2.2.1,h.2.2.2.2⟩
theorem tookS_wf (h:s.wf n m) (what kind ka:Int):(tookS what kind ka s).wf n m:=by
 cases s with
 | over=>trivial;| live st keep si z H =>
  show (if what=1/\kind≠14 then (if kind=1 then CS.live 1 (kpC ka) 0 z H else .live st keep 0 z H) else .over).wf n m;split
  · split
    · exact ⟨.inr rfl,kp_bd _,⟨Int.le_refl _,by omega⟩,h.2.2.2.1,h.2.2.2.2⟩
    · exact ⟨h.1,h.2.1,⟨Int.le_refl _,by omega⟩,h.2.2.2.1,h.2.2.2.2⟩
  · trivial
theorem nextA_small (h:s.wf n m) (hn:n<=300000):Small (nextA most s).p (nextA most s).c:=by
 cases s with
 | over=>exact small_blank 0 noCn;| live st keep si z H =>
  show Small (nextR st (decP z H most)).p (nextR st (decP z H most)).c;cases hR:decP z H most with
  | more=>exact small_blank 0 noCn;| fault x=>exact small_blank 0 noCn;| ok p c k =>
   have:=dec_ok most h.2.2.2.1 (show H<=700000 from by have:=h.2.2.2.2;omega) hR;show Small (if (ansP st p).1=1 then p else blank 0) (if (ansP st p).1=1 then c else noCn);split;· exact this.2.2
   · exact small_blank 0 noCn
theorem gr_of {k:Nat} (h:S k) (hb:k<W'.heap.size):gr S W W' k:=⟨.inl h,hb⟩
theorem gr_new {k:Nat} (h:W.heap.size<=k) (hb:k<W'.heap.size):gr S W W' k:=⟨.inr h,hb⟩
theorem gr_nw {rf rf':Option Nat} (h:Nw W.heap.size rf rf') (hs:∀ k,rf=some k->S k) (hb:∀ k,rf'=some k->k<W'.heap.size):∀ k,rf'=some k->gr S W W' k:=by
 intro k e;rcases h with q | q | ⟨j,q,q2⟩;· exact gr_of (hs k (q ▸ e)) (hb k e)
 · rw [q] at e;cases e
 · have hj:j=k:=Option.some.inj (q.symm.trans e);subst hj;exact gr_new q2 (hb _ q)
theorem kl_lt {fb:Nat} {st si bd:Int} {rf:Option Nat} {P:Nat} {z:Nat->Int} {H:Nat} (h:KL w W cb fb most st si bd rf P z H):cb<W.heap.size/\fb<W.heap.size/\∀ k,rf=some k->k<W.heap.size:=⟨h.lv.cn.lt,h.lv.fs.lt.1,h.lv.fs.lt.2⟩
theorem kpush (h:KS w W S cb most pat n m s) (hn:n<=400000) (l:Sl) (zb:Nat->Int) (hl:By W l zb) (hln:l.n<=400000) :
 Calls Tryz.prog 9 #[.pointer (some ⟨cb,0,none⟩),.slice l.a l.n l.c] W fun e W'=>e = .returned (.tuple #[])/\KS w W' (gr S W W') cb most pat (n+l.n) m (pushS s l.n zb)/\Ch S W W':=by cases s with
 | over => obtain ⟨si,h1,h2,h3⟩:=h;refine (Co.push_over h1 l.a l.n l.c).mono ?_;rintro e W' ⟨rfl,rfl⟩;exact ⟨rfl,⟨si,h1,h2,gr_of h3 h1.lt⟩,Ch.refl _ _⟩;| live st keep si z H =>
  obtain ⟨fb,rf,P,h1,h2,h3,h4,h5⟩:=h;refine (Co.kl_push h1 l zb (cat z H zb) hl (by omega) hln (fun i hi=>by simp [cat,hi]) (fun i hi=>by unfold cat;rw [if_neg (by omega),Nat.add_sub_cancel_left])).mono ?_;rintro e W' ⟨rfl,rf',a1,a2,a3⟩;have lt:=kl_lt a1;refine ⟨rfl,⟨fb,rf',P,a1,by omega,gr_of h3 lt.1,gr_of h4 lt.2.1,gr_nw a3 h5 lt.2.2⟩,a2.mono (fun j _ q=>?_)⟩;rcases q with q | q;· rw [q];exact h4
  · exact h5 j q
theorem knext (h:KS w W S cb most pat n m s) (hw:s.wf n m) (hn:n<=400000) :
 Calls Tryz.prog 13 #[.pointer (some ⟨cb,0,none⟩)] W fun e W'=>NaIs W.heap.size W' e (nextA most s)/\KS w W' (gr S W W') cb most pat n m (nextS most s)/\Ch S W W':=by cases s with
 | over => obtain ⟨si,h1,h2,h3⟩:=h;refine (Co.cnext_over h1).mono ?_;rintro e W' ⟨rfl,hb⟩;have h1':CnAt W' cb 2 (.pointer none) si 0:=Co.later_at h1 hb;exact ⟨⟨blank 0,rfl,Go.Proofs.YtpldoeeahhaimaaGreatDoor.in_blank _ _,Alike.refl _,fun g _=>apart_blank _ g⟩,⟨si,h1',h2,gr_of h3 h1'.lt⟩,Below.ch hb⟩;| live st keep si z H =>
  obtain ⟨fb,rf,P,h1,h2,h3,h4,h5⟩:=h;obtain ⟨w1,w2,w3,w4,w5⟩:=hw;have cm:∀ {W':World},Ch (fun k=>k=cb\/k=fb) W W'->Ch S W W':=fun hc=>hc.mono (fun j _ q=>by
   rcases q with q | q;· rw [q];exact h3
   · rw [q];exact h4)
  show Calls Tryz.prog 13 #[.pointer (some ⟨cb,0,none⟩)] W fun e W'=>NaIs W.heap.size W' e (nextR st (decP z H most))/\KS w W' (gr S W W') cb most pat n m (nextQ st keep si z H (decP z H most))/\Ch S W W';cases hR:decP z H most with
  | more => refine (Co.kl_more h1 w4 (by omega) hR).mono ?_;rintro e W' ⟨rfl,rf',a1,a2,a3⟩;have lt:=kl_lt a1;exact ⟨⟨blank 0,rfl,Go.Proofs.YtpldoeeahhaimaaGreatDoor.in_blank _ _,Alike.refl _,fun g _=>apart_blank _ g⟩,⟨fb,rf',P,a1,h2,gr_of h3 lt.1,gr_of h4 lt.2.1,gr_nw a3 h5 lt.2.2⟩,cm a2⟩;| fault x => refine (Co.kp_fault h1 w4 (by omega) hR).mono ?_;rintro e W' ⟨rfl,a1,a2⟩;exact ⟨⟨blank 0,rfl,Go.Proofs.YtpldoeeahhaimaaGreatDoor.in_blank _ _,Alike.refl _,fun g _=>apart_blank _ g⟩,⟨0,a1,⟨Int.le_refl _,by omega⟩,gr_of h3 a1.lt⟩,cm a2⟩;| ok p c k =>
   have hk:=dec_ok most w4 (show H<=700000 from by omega) hR;refine (Co.kp_pkt h1 w4 (by omega) hR).mono ?_;rintro e W' ⟨q,rfl,⟨a1,a2,a3⟩,a4,a5⟩;refine ⟨?_,?_,cm a5⟩
   · show NaIs W.heap.size W' _ ⟨(ansP st p).1,(ansP st p).2.1,(ansP st p).2.2,true,if (ansP st p).1=1 then p else blank 0,if (ansP st p).1=1 then c else noCn⟩
     by_cases e1:(ansP st p).1=1
     · rw [if_pos e1,if_pos e1]
       exact ⟨q,by show Ending.returned (.tuple #[.agg (inA (ansP st p) q),_])=_;unfold Co.inA;rw [if_pos e1],a2,a1,apart_uses a3⟩
     · rw [if_neg e1,if_neg e1]
       exact ⟨blank 0,by show Ending.returned (.tuple #[.agg (inA (ansP st p) q),_])=_;unfold Co.inA;rw [if_neg e1],Go.Proofs.YtpldoeeahhaimaaGreatDoor.in_blank _ _,Alike.refl _,fun g _=>apart_blank _ g⟩
   · show KS w W' (gr S W W') cb most pat n m (if onP st p=true then CS.live 1 (if p.kind=1 then kpC p.keep else keep) 0 (Go.Proofs.YtpldoeeahhaimaaGreatDoor.sh z k) (H-k) else .over)
     unfold Co.PkM at a4;by_cases ho:onP st p=true
     · rw [if_pos ho] at a4 ⊢
       obtain ⟨rf',b1,b2,b3⟩:=a4;have lt:=kl_lt b1;have hon:(ansP st p).1=1/\p.kind≠14:=by simpa [Co.onP] using ho
       have eb:bdP st (bdOf st pat keep) p=bdOf 1 pat (if p.kind=1 then kpC p.keep else keep):=by
        unfold Co.bdP bdOf;rw [if_neg (show ¬ (1:Int)=0 by decide)];rcases Co.ans_one w1 hon.1 with ⟨a1,a2⟩|⟨a1,a2⟩;· rw [if_pos a2,if_pos a2]
        · rw [if_neg a2,if_neg a2,if_neg (by rw [a1];decide)]
       rw [eb] at b1;exact ⟨fb,rf',P+k,b1,by omega,gr_of h3 lt.1,gr_of h4 lt.2.1,gr_nw b2 h5 lt.2.2⟩
     · rw [if_neg ho] at a4 ⊢
       exact ⟨0,a4,⟨Int.le_refl _,by omega⟩,gr_of h3 a4.lt⟩
end
end Go.Proofs.YtpldoeeahhaimaaGreatDoor.Dr
