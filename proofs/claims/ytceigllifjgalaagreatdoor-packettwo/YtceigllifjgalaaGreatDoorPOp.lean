import Derived.Test.YtceigllifjgalaaGreatDoorPRi
import Derived.Deep.SlicePairs
namespace Go.Proofs.YtceigllifjgalaaGreatDoor.Pkt
open Go Go.RowKit Go.ChangeShapes Go.WideShapes
set_option linter.unusedSimpArgs false
set_option linter.unusedVariables false
set_option maxRecDepth 100000
section
variable {H:Type} {enc:TypeId×Value→H} {W:World} {base:Nat} {v:Value}
theorem zaD (h:Cell.okWide Tryz.prog W .any base 3 v):∃ n,v = .int .i64 n:=by
 unfold Cell.okWide at h
 rw [Tryz.underlying3] at h
 cases v <;> simp [Cell.ok,Tryz.underlying3] at h
 exact ⟨_,by rw [h.1]⟩
theorem zau (h:Cell.okWide Tryz.prog W .any base 4 v):∃ n,v = .bool n:=by
 unfold Cell.okWide at h
 rw [Tryz.underlying4] at h
 cases v <;> simp [Cell.ok,Tryz.underlying4] at h
 exact ⟨_,rfl⟩
theorem zb6 (h:Cell.okWide Tryz.prog W .any base 9 v):∃ s:ByteArray,v = .string s∧s.size≤9223372036854775807:=by
 unfold Cell.okWide at h
 rw [Tryz.underlying9] at h
 cases v with
 | string s =>
  simp only [Cell.ok,Tryz.underlying9] at h
  have e:IntKind.i64.max=9223372036854775807:=by decide
  rw [e] at h
  exact ⟨s,rfl,by omega⟩
 | _=>simp [Cell.ok,Tryz.underlying9] at h
structure SlOk (s:Sl):Prop where
 le:s.n≤s.c
 fit:s.n≤9223372036854775807
 at_:(s.a=none∧s.n=0∧s.c=0)∨∃ b off,s.a=some ⟨b,off,none⟩
theorem zav {t e:TypeId} (ht:Tryz.prog.underlying t=some (.slice e)) (h:Cell.okWide Tryz.prog W .any base t v):∃ s:Sl,v=s.v∧SlOk s:=by
 unfold Cell.okWide at h
 rw [ht] at h
 cases v with
 | slice a n c =>
  simp only [Cell.ok,ht] at h
  cases a with
  | none =>
   cases n with
   | zero =>
    cases c with
    | zero=>exact ⟨⟨none,0,0⟩,rfl,Nat.le_refl _,by decide,.inl ⟨rfl,rfl,rfl⟩⟩
    | succ c=>simp at h
   | succ n=>simp at h
  | some a =>
   obtain ⟨h1,h2,_,h3,_⟩:=h
   have e:IntKind.i64.max=9223372036854775807:=by decide
   rw [e] at h2
   obtain ⟨b,off,spot⟩:=a
   simp only at h3
   subst h3
   exact ⟨⟨some ⟨b,off,none⟩,n,c⟩,rfl,h1,by simp only;omega,.inr ⟨b,off,rfl⟩⟩
 | _=>simp [Cell.ok,ht] at h
structure PkOk (p:Pk):Prop where
 cl:p.client.size≤9223372036854775807
 us:p.user.size≤9223372036854775807
 wt:p.wT.size≤9223372036854775807
 mt:p.mT.size≤9223372036854775807
 wp:SlOk p.wP
 ps:SlOk p.pass
 mp:SlOk p.mP
 an:SlOk p.asks
 cn:SlOk p.codes
 fn:SlOk p.filters
theorem cells29:Tryz.prog.cellsOf 29=25:=by kernel_rfl
theorem types29:Tryz.prog.cellTypes Tryz.prog.depth 29=some [3,3,4,3,9,4,9,22,3,4,4,9,4,22,4,3,4,9,22,3,4,3,25,26,27]:=by kernel_rfl
theorem zaL (h:Value.okWide Tryz.prog W .any base 29 v):∃ p:Pk,v=p.v∧PkOk p:=by
 unfold Value.okWide at h
 rw [Tryz.underlying29] at h
 obtain ⟨⟨cs⟩,rfl,hs,ts,ht,_,hc⟩:=h
 rw [types29] at ht
 cases ht
 rw [cells29] at hs
 simp only [List.size_toArray] at hs
 match cs,hs with
 | [c0,c1,c2,c3,c4,c5,c6,c7,c8,c9,c10,c11,c12,c13,c14,c15,c16,c17,c18,c19,c20,c21,c22,c23,c24],_ =>
  have g:∀ i v u,[c0,c1,c2,c3,c4,c5,c6,c7,c8,c9,c10,c11,c12,c13,c14,c15,c16,c17,c18,c19,c20,c21,c22,c23,c24][i]?=some v→([3,3,4,3,9,4,9,22,3,4,4,9,4,22,4,3,4,9,22,3,4,3,25,26,27]:List TypeId)[i % 25]?=some u→Cell.okWide Tryz.prog W .any base u v:=by
   intro i v u hv hu
   obtain ⟨u',hu',hk⟩:=hc i v (by simpa using hv)
   have:u'=u:=Option.some.inj (hu'.symm.trans hu)
   rw [← this];exact hk
  obtain ⟨x0,rfl⟩:=zaD (g 0 _ _ rfl rfl)
  obtain ⟨x1,rfl⟩:=zaD (g 1 _ _ rfl rfl)
  obtain ⟨x2,rfl⟩:=zau (g 2 _ _ rfl rfl)
  obtain ⟨x3,rfl⟩:=zaD (g 3 _ _ rfl rfl)
  obtain ⟨x4,rfl,k4⟩:=zb6 (g 4 _ _ rfl rfl)
  obtain ⟨x5,rfl⟩:=zau (g 5 _ _ rfl rfl)
  obtain ⟨x6,rfl,k6⟩:=zb6 (g 6 _ _ rfl rfl)
  obtain ⟨x7,rfl,k7⟩:=zav Tryz.underlying22 (g 7 _ _ rfl rfl)
  obtain ⟨x8,rfl⟩:=zaD (g 8 _ _ rfl rfl)
  obtain ⟨x9,rfl⟩:=zau (g 9 _ _ rfl rfl)
  obtain ⟨x10,rfl⟩:=zau (g 10 _ _ rfl rfl)
  obtain ⟨x11,rfl,k11⟩:=zb6 (g 11 _ _ rfl rfl)
  obtain ⟨x12,rfl⟩:=zau (g 12 _ _ rfl rfl)
  obtain ⟨x13,rfl,k13⟩:=zav Tryz.underlying22 (g 13 _ _ rfl rfl)
  obtain ⟨x14,rfl⟩:=zau (g 14 _ _ rfl rfl)
  obtain ⟨x15,rfl⟩:=zaD (g 15 _ _ rfl rfl)
  obtain ⟨x16,rfl⟩:=zau (g 16 _ _ rfl rfl)
  obtain ⟨x17,rfl,k17⟩:=zb6 (g 17 _ _ rfl rfl)
  obtain ⟨x18,rfl,k18⟩:=zav Tryz.underlying22 (g 18 _ _ rfl rfl)
  obtain ⟨x19,rfl⟩:=zaD (g 19 _ _ rfl rfl)
  obtain ⟨x20,rfl⟩:=zau (g 20 _ _ rfl rfl)
  obtain ⟨x21,rfl⟩:=zaD (g 21 _ _ rfl rfl)
  obtain ⟨x22,rfl,k22⟩:=zav Tryz.underlying25 (g 22 _ _ rfl rfl)
  obtain ⟨x23,rfl,k23⟩:=zav Tryz.underlying26 (g 23 _ _ rfl rfl)
  obtain ⟨x24,rfl,k24⟩:=zav Tryz.underlying27 (g 24 _ _ rfl rfl)
  exact ⟨⟨x0,x1,x2,x3,x4,x5,x6,x7,x8,x9,x10,x11,x12,x13,x14,x15,x16,x17,x18,x19,x20,x21,x22,x23,x24⟩,rfl,k4,k11,k6,k17,k7,k13,k18,k22,k23,k24⟩
variable {held:Bool}
theorem zaq {t:TypeId} {fs:Array Field} {fuel:Nat} {cs:List Value} {x:DataW H×List MemPlace} (ht:Tryz.prog.underlying t=some (.struct fs)) (h:DataW.trod enc Tryz.prog W base (fun _=>true) held fuel t cs=some x)
    (i ty off size:Nat) (hf:∃ f,fs[i]?=some f∧f.type=ty∧f.offset=off) (hs:Tryz.prog.cellsOf ty=size):∃ n y,DataW.trod enc Tryz.prog W base (fun _=>true) held n ty ((cs.drop off).take size)=some y:=by
  obtain ⟨xs,n,_,_,_,hl,hx⟩:=DataW.trod_struct ht h
  obtain ⟨f,hf,rfl,rfl⟩:=hf
  subst hs
  have hi:i<fs.size:=(Array.getElem?_eq_some_iff.1 hf).1
  exact ⟨n,xs[i]'(by omega),by rw [hx i f hf,List.getElem?_eq_getElem]⟩
theorem by_of {s:Sl} (hs:SlOk s) {n:Nat} {y:DataW H×List MemPlace} (h:DataW.trod enc Tryz.prog W base (fun _=>true) held n 22 [s.v]=some y):∃ z,By W s z:=by
 rcases open_ints Tryz.underlying22 Tryz.underlying5 (by kernel_rfl) h with ⟨hcs,_⟩|⟨x,l,c,zs,hcs,_,hl,hm,hz,_,hcell,hwz⟩
 · simp only [Sl.v,List.cons.injEq,Value.slice.injEq] at hcs
   exact ⟨fun _=>0,hs.le,fun _=>⟨Int.le_refl 0,by show (0:Int)≤255;decide⟩,.inl hcs.1.2.1⟩
 ·
  simp only [Sl.v,List.cons.injEq,Value.slice.injEq] at hcs
  obtain ⟨⟨ha,hn,hc⟩,_⟩:=hcs
  refine ⟨fun i=>zs.getD i 0,hs.le,fun i=>?_,?_⟩
  ·
   by_cases hi:i<zs.length
   ·
    have:=hwz (zs.getD i 0) (by simp [List.getD,hi])
    simp only [Lit.wf,Bool.and_eq_true,decide_eq_true_eq] at this
    have e1:IntKind.u8.min=0:=by decide
    have e2:IntKind.u8.max=255:=by decide
    rw [e1,e2] at this
    exact this
   · simp [List.getD,hi]
  ·
   rcases hs.at_ with ⟨_,h0,_⟩|⟨b,off,e⟩
   · exact .inl h0
   ·
    right
    refine ⟨b,off,e,fun i hi=>?_⟩
    have hx:x=⟨b,off,none⟩:=Option.some.inj (ha.symm.trans e)
    have:=hcell i (by rw [hz];simp;omega)
    rw [hx,zae] at this
    exact this
theorem is_of {s:Sl} (hs:SlOk s) {n:Nat} {y:DataW H×List MemPlace} (h:DataW.trod enc Tryz.prog W base (fun _=>true) held n 26 [s.v]=some y):∃ z,Is W s z:=by
 rcases open_ints Tryz.underlying26 Tryz.underlying3 (by kernel_rfl) h with ⟨hcs,_⟩|⟨x,l,c,zs,hcs,_,hl,hm,hz,_,hcell,hwz⟩
 · simp only [Sl.v,List.cons.injEq,Value.slice.injEq] at hcs
   exact ⟨fun _=>0,hs.le,.inl hcs.1.2.1⟩
 ·
  simp only [Sl.v,List.cons.injEq,Value.slice.injEq] at hcs
  obtain ⟨⟨ha,hn,hc⟩,_⟩:=hcs
  refine ⟨fun i=>zs.getD i 0,hs.le,?_⟩
  rcases hs.at_ with ⟨_,h0,_⟩|⟨b,off,e⟩
  · exact .inl h0
  ·
   right
   refine ⟨b,off,e,fun i hi=>?_⟩
   have hx:x=⟨b,off,none⟩:=Option.some.inj (ha.symm.trans e)
   have:=hcell i (by rw [hz];simp;omega)
   rw [hx,zae] at this
   exact this
theorem ss_of {s:Sl} (hs:SlOk s) {n:Nat} {y:DataW H×List MemPlace} (h:DataW.trod enc Tryz.prog W base (fun _=>true) held n 27 [s.v]=some y):∃ z,Ss W s z∧∀ i,i<s.n→(z i).size≤9223372036854775807:=by
 rcases Go.Deep.open_strs Tryz.underlying27 Tryz.underlying9 (by kernel_rfl) h with ⟨hcs,_⟩|⟨x,l,c,m,zs,hcs,_,hl,hm,hz,_,hcell⟩
 · simp only [Sl.v,List.cons.injEq,Value.slice.injEq] at hcs
   exact ⟨fun _=>ByteArray.empty,⟨hs.le,.inl hcs.1.2.1⟩,fun _ _=>by simp⟩
 ·
  simp only [Sl.v,List.cons.injEq,Value.slice.injEq] at hcs
  obtain ⟨⟨ha,hn,hc⟩,_⟩:=hcs
  simp at hz
  refine ⟨zs,⟨hs.le,?_⟩,fun i hi=>(by have:=(hcell i (by omega)).2;unfold maxLen at this;omega)⟩
  rcases hs.at_ with ⟨_,h0,_⟩|⟨b,off,e⟩
  · exact .inl h0
  ·
   right
   refine ⟨b,off,e,fun i hi=>?_⟩
   have hx:x=⟨b,off,none⟩:=Option.some.inj (ha.symm.trans e)
   have:=(hcell i (by omega)).1
   rw [hx,zae] at this
   exact this
theorem as_of {s:Sl} (hs:SlOk s) {n:Nat} {y:DataW H×List MemPlace} (h:DataW.trod enc Tryz.prog W base (fun _=>true) held n 25 [s.v]=some y):∃ f q,As W s f q∧∀ i,i<s.n→(f i).size≤9223372036854775807:=by
 rcases Go.Deep.open_slice_pairs Tryz.underlying25 Tryz.underlying98 (by kernel_rfl) rfl rfl (by kernel_rfl) (by kernel_rfl) h with ⟨hcs,_⟩|⟨x,l,c,m,k,V0,V1,D0,D1,P0,P1,hcs,_,hl,hm,hz,_,hcell⟩
 · simp only [Sl.v,List.cons.injEq,Value.slice.injEq] at hcs
   exact ⟨fun _=>ByteArray.empty,fun _=>0,⟨hs.le,.inl hcs.1.2.1⟩,fun _ _=>by simp⟩
 ·
  simp only [Sl.v,List.cons.injEq,Value.slice.injEq] at hcs
  obtain ⟨⟨ha,hn,hc⟩,_⟩:=hcs
  simp at hz
  have hl':=hs.le
  have each:∀ i,i<s.n→∃ z:ByteArray×Int,V0 i = .string z.1∧V1 i = .int .i64 z.2∧z.1.size≤9223372036854775807:=fun i hi=>by
   obtain ⟨_,_,h0,h1⟩:=hcell i (by omega)
   obtain ⟨a,ha,_,hsz⟩:=DataW.trod_string Tryz.underlying9 h0
   obtain ⟨b,hb,_⟩:=DataW.trod_int Tryz.underlying3 h1
   exact ⟨(a,b),by simpa using ha,by simpa using hb,by unfold maxLen at hsz;simp only;omega⟩
  obtain ⟨z,hz'⟩:=Go.Deep.choose_lt each
  refine ⟨fun i=>(z i).1,fun i=>(z i).2,⟨hs.le,?_⟩,fun i hi=>(hz' i hi).2.2⟩
  rcases hs.at_ with ⟨_,h0,_⟩|⟨b,off,e⟩
  · exact .inl h0
  ·
   right
   refine ⟨b,off,e,fun i hi=>?_⟩
   have hx:x=⟨b,off,none⟩:=Option.some.inj (ha.symm.trans e)
   obtain ⟨g0,g1,_,_⟩:=hcell i (by omega)
   rw [hx,zae,(hz' i hi).1] at g0
   rw [hx,zae,(hz' i hi).2.1] at g1
   exact ⟨g0,by rw [show off+i*2+1=off+(i*2+1) by omega];exact g1⟩
theorem cells22:Tryz.prog.cellsOf 22=1:=by kernel_rfl
theorem cells25:Tryz.prog.cellsOf 25=1:=by kernel_rfl
theorem cells26:Tryz.prog.cellsOf 26=1:=by kernel_rfl
theorem cells27:Tryz.prog.cellsOf 27=1:=by kernel_rfl
theorem cells24:Tryz.prog.cellsOf 24=4:=by kernel_rfl
theorem zba {p:Pk} (hp:PkOk p) {d:DataW H} {ps:List MemPlace} (h:DataW.Trod enc Tryz.prog W base (fun _=>true) held 29 p.v d ps):∃ c,In W p c∧Fit p c:=by
 obtain ⟨fuel,h⟩:=h
 obtain ⟨n6,y6,t6⟩:=zaq Tryz.underlying29 h 6 24 6 _ ⟨_,rfl,rfl,rfl⟩ cells24
 obtain ⟨n10,y10,t10⟩:=zaq Tryz.underlying29 h 10 22 13 _ ⟨_,rfl,rfl,rfl⟩ cells22
 obtain ⟨n14,y14,t14⟩:=zaq Tryz.underlying29 h 14 24 17 _ ⟨_,rfl,rfl,rfl⟩ cells24
 obtain ⟨n16,y16,t16⟩:=zaq Tryz.underlying29 h 16 25 22 _ ⟨_,rfl,rfl,rfl⟩ cells25
 obtain ⟨n17,y17,t17⟩:=zaq Tryz.underlying29 h 17 26 23 _ ⟨_,rfl,rfl,rfl⟩ cells26
 obtain ⟨n18,y18,t18⟩:=zaq Tryz.underlying29 h 18 27 24 _ ⟨_,rfl,rfl,rfl⟩ cells27
 obtain ⟨n61,y61,t61⟩:=zaq Tryz.underlying24 t6 1 22 1 _ ⟨_,rfl,rfl,rfl⟩ cells22
 obtain ⟨n141,y141,t141⟩:=zaq Tryz.underlying24 t14 1 22 1 _ ⟨_,rfl,rfl,rfl⟩ cells22
 have u10:DataW.trod enc Tryz.prog W base (fun _=>true) held n10 22 [p.pass.v]=some y10:=t10
 have u16:DataW.trod enc Tryz.prog W base (fun _=>true) held n16 25 [p.asks.v]=some y16:=t16
 have u17:DataW.trod enc Tryz.prog W base (fun _=>true) held n17 26 [p.codes.v]=some y17:=t17
 have u18:DataW.trod enc Tryz.prog W base (fun _=>true) held n18 27 [p.filters.v]=some y18:=t18
 have u61:DataW.trod enc Tryz.prog W base (fun _=>true) held n61 22 [p.wP.v]=some y61:=t61
 have u141:DataW.trod enc Tryz.prog W base (fun _=>true) held n141 22 [p.mP.v]=some y141:=t141
 obtain ⟨zp,hzp⟩:=by_of hp.ps u10
 obtain ⟨zw,hzw⟩:=by_of hp.wp u61
 obtain ⟨zm,hzm⟩:=by_of hp.mp u141
 obtain ⟨af,aq,ha,haz⟩:=as_of hp.an u16
 obtain ⟨zc,hzc⟩:=is_of hp.cn u17
 obtain ⟨zf,hzf,hfz⟩:=ss_of hp.fn u18
 exact ⟨{ wz:=zw,pz:=zp,mz:=zm,af:=af,aq:=aq,cs:=zc,fs:=zf },⟨hzw,hzp,hzm,ha,hzc,hzf⟩,⟨hp.cl,hp.us,hp.wt,hp.mt,hp.wp.fit,hp.ps.fit,hp.mp.fit,hp.an.fit,hp.cn.fit,hp.fn.fit,haz,hfz⟩⟩
end
end Go.Proofs.YtceigllifjgalaaGreatDoor.Pkt
