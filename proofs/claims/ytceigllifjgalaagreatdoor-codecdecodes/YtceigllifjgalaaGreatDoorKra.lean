import Derived.Test.YtceigllifjgalaaGreatDoorKd
namespace Go.Proofs.YtceigllifjgalaaGreatDoor.Bk
open Go Go.RowKit
set_option linter.unusedSimpArgs false
set_option linter.unusedVariables false
section
variable {κ:Kd} {k0:Array Value} {w0 w wx wb w':World} {bb B:Nat} {S:Nat->Prop} {cs cs':Array Value} {rv rv':Nat->Value} {xs xs':Nat->List Value} {t deep seen t' deep' seen':Int}
theorem row_sl {e:Nat} {v:Value} {xs:List Value} (h:w.ownsRow B e 1 v xs.length xs):∃ a c,v = .slice a xs.length c:=own_sl h
theorem za5 {e c:Nat} {a:Option Addr} {xs:List Value} (h:w.ownsRow B e 1 (.slice a xs.length c) xs.length xs) {k:Nat} {x:Value} (hk:xs[k]?=some x):∃ g,a=some ⟨g,0,none⟩/\w.cell? ⟨g,k,none⟩=some x:=by
 have hl:k<xs.length:=(List.getElem?_eq_some_iff.1 hk).1;rcases h.2 with ⟨q,h0⟩|⟨g,cap,cur,q,_⟩;· omega
 · injection q with q1 q2 q3;subst q1;exact ⟨g,rfl,(h.cellAt k (by omega)).trans hk⟩
theorem Bq.push1 (h:Bq κ k0 w0 wx bb B S cs rv xs t deep seen) (hb:Below wx.heap.size wx wb) {i:Nat} (hi:i<8) {x v':Value} (p:Pu κ wb w' bb B cs rv xs i x v') : Bq κ k0 w0 (w'.setCell ⟨bb,κ.c0+i,none⟩ v') bb B S (cs.setIfInBounds (κ.c0+i) v') (upd rv i v') (upd xs i (xs i++[x])) t deep seen/\Fv bb wx rv (w'.setCell ⟨bb,κ.c0+i,none⟩ v') (upd rv i v') := ⟨(h.below hb).push hi p,(Fv.below hb).trans (p.fv hi)⟩
def O4 (j:Nat):Prop:=j=2\/j=3\/j=5\/j=6
theorem O4.lt {j:Nat} (h:O4 j):j<8:=by unfold O4 at h;omega
end
structure Ms (κ:Kd) (k0:Array Value) (w0 w wx:World) (bb B:Nat) (S:Nat->Prop) (rv0:Nat->Value) (xs0:Nat->List Value) (cs:Array Value) (rv:Nat->Value) (xs:Nat->List Value) (t deep seen:Int):Prop where
 bq:Bq κ k0 w0 wx bb B S cs rv xs t deep seen
 old:∀ j,O4 j->wx.ownsRow B (et κ.tl j) 1 (rv0 j) (xs0 j).length (xs0 j)
 oof:∀ j,O4 j->∀ k,(rv0 j).ownBlock=some k->Off bb rv k
 sz:w.heap.size<=wx.heap.size
section
variable {κ:Kd} {k0:Array Value} {w0 w wx wb w':World} {bb B:Nat} {S:Nat->Prop} {cs cs':Array Value} {rv rv' rv0:Nat->Value} {xs xs' xs0:Nat->List Value} {t deep seen t' deep' seen':Int}
theorem Ms.step (h:Ms κ k0 w0 w wx bb B S rv0 xs0 cs rv xs t deep seen) (hq:Bq κ k0 w0 w' bb B S cs' rv' xs' t' deep' seen') (hf:Fv bb wx rv w' rv'):Ms κ k0 w0 w w' bb B S rv0 xs0 cs' rv' xs' t' deep' seen' := ⟨hq,fun j hj=>zab (h.old j hj) (fun k e=>hf.keep k ((h.old j hj).lt k e).2 (h.oof j hj k e)),fun j hj k e=>hf.off k ((h.old j hj).lt k e).2 (h.oof j hj k e),Nat.le_trans h.sz hf.sz⟩
theorem Ms.below (h:Ms κ k0 w0 w wx bb B S rv0 xs0 cs rv xs t deep seen) (hb:Below wx.heap.size wx w'):Ms κ k0 w0 w w' bb B S rv0 xs0 cs rv xs t deep seen:=h.step (h.bq.below hb) (Fv.below hb)
theorem Ms.push1 (h:Ms κ k0 w0 w wx bb B S rv0 xs0 cs rv xs t deep seen) (hb:Below wx.heap.size wx wb) {i:Nat} (hi:i<8) {x v':Value} (p:Pu κ wb w' bb B cs rv xs i x v') : Ms κ k0 w0 w (w'.setCell ⟨bb,κ.c0+i,none⟩ v') bb B S rv0 xs0 (cs.setIfInBounds (κ.c0+i) v') (upd rv i v') (upd xs i (xs i++[x])) t deep seen/\Fv bb wx rv (w'.setCell ⟨bb,κ.c0+i,none⟩ v') (upd rv i v') := ⟨h.step (h.bq.push1 hb hi p).1 (h.bq.push1 hb hi p).2,(h.bq.push1 hb hi p).2⟩
theorem Ms.aside (h:Ms κ k0 w0 w wx bb B S rv0 xs0 cs rv xs t deep seen) {T:Nat->Prop} (hc:Ch T wx w') (hT:∀ g,T g->Off bb rv g/\(S g\/w0.heap.size<=g)/\Off bb rv0 g):Ms κ k0 w0 w w' bb B S rv0 xs0 cs rv xs t deep seen := ⟨h.bq.aside hc (fun g q=>⟨(hT g q).1,(hT g q).2.1⟩),fun j hj=>zab (h.old j hj) (fun k e=>hc.block k ((h.old j hj).lt k e).2 (fun q=>(hT k q).2.2.2 j hj.lt e)),h.oof,Nat.le_trans h.sz hc.size⟩
theorem zaM (h:Ms κ k0 w0 w wx bb B S rv0 xs0 cs rv xs t deep seen) {j:Nat} (hj:O4 j) {g N q:Nat} (e:rv0 j = .slice (some ⟨g,0,none⟩) N q) {k:Nat} {u:Value} (hN:N=(xs0 j).length) (hu:(xs0 j)[k]?=some u):wx.cell? ⟨g,k,none⟩=some u:=by have o:=h.old j hj;rw [e,hN] at o;obtain ⟨g',eg,hc⟩:=za5 o hu;cases eg;exact hc
theorem Ms.start (h:Bq κ k0 w0 w bb B S cs rv xs t deep seen) :
 ∃ cs',Ms κ k0 w0 w ((((w.setCell ⟨bb,κ.c0+2,none⟩ (.slice none 0 0)).setCell ⟨bb,κ.c0+3,none⟩ (.slice none 0 0)).setCell ⟨bb,κ.c0+5,none⟩ (.slice none 0 0)).setCell ⟨bb,κ.c0+6,none⟩ (.slice none 0 0)) bb B S rv xs cs' (upd (upd (upd (upd rv 2 (.slice none 0 0)) 3 (.slice none 0 0)) 5 (.slice none 0 0)) 6 (.slice none 0 0)) (upd (upd (upd (upd xs 2 []) 3 []) 5 []) 6 []) t deep seen /\ Fv bb w rv ((((w.setCell ⟨bb,κ.c0+2,none⟩ (.slice none 0 0)).setCell ⟨bb,κ.c0+3,none⟩ (.slice none 0 0)).setCell ⟨bb,κ.c0+5,none⟩ (.slice none 0 0)).setCell ⟨bb,κ.c0+6,none⟩ (.slice none 0 0)) (upd (upd (upd (upd rv 2 (.slice none 0 0)) 3 (.slice none 0 0)) 5 (.slice none 0 0)) 6 (.slice none 0 0)):=by
 have h1:=(((h.nil 2 (by decide)).nil 3 (by decide)).nil 5 (by decide)).nil 6 (by decide);have hf:Fv bb w rv _ _:=(((Fv.nil (κ:=κ) (bb:=bb) (w:=w) (rv:=rv) 2).trans (Fv.nil (κ:=κ) 3)).trans (Fv.nil (κ:=κ) 5)).trans (Fv.nil (κ:=κ) 6);refine ⟨_,⟨h1,fun j hj=>zab (h.br.own j hj.lt) (fun k e=>?_),fun j hj k e=>⟨?_,fun i hi q=>?_⟩,hf.sz⟩,hf⟩
 · have hne:k≠bb:=fun q=>h.br.ne j hj.lt (q ▸ e)
   rw [Below.heap_setCell _ _ _ _ hne,Below.heap_setCell _ _ _ _ hne,Below.heap_setCell _ _ _ _ hne,Below.heap_setCell _ _ _ _ hne]
 · exact fun q=>h.br.ne j hj.lt (q ▸ e)
 · by_cases e6:i=6
   · subst e6;rw [za8] at q;cases q
   rw [upd_ne _ _ e6] at q;by_cases e5:i=5;· subst e5;rw [za8] at q;cases q
   rw [upd_ne _ _ e5] at q;by_cases e3:i=3;· subst e3;rw [za8] at q;cases q
   rw [upd_ne _ _ e3] at q;by_cases e2:i=2;· subst e2;rw [za8] at q;cases q
   rw [upd_ne _ _ e2] at q;exact h.br.sep j i hj.lt hi (by unfold O4 at hj;omega) k e q
end
structure Mn (xs xs':Nat->List Value) (k:Nat):Prop where
 m5:(xs' 5).length=(xs' 2).length
 m6:(xs' 6).length=(xs' 2).length
 m7:(xs' 7).length=(xs' 4).length
 i5:∀ u ∈ xs' 5,∃ m,u = .int .i64 m
 i6:∀ u ∈ xs' 6,∃ m,u = .int .i64 m
 i7:∀ u ∈ xs' 7,∃ m,u = .int .i64 m
 l24:(xs' 2).length+(xs' 4).length<=k
 l04:(xs' 0).length<=(xs 0).length+(xs' 4).length
def Mdone (κ:Kd) (k0:Array Value) (w0 w':World) (bb B:Nat) (S:Nat->Prop) (D:Nat->Nat->Prop) (xs:Nat->List Value) (t deep seen:Int):Prop := ∃ D' cs' rv' xs',Bq κ k0 w0 w' bb B S cs' rv' xs' t deep seen/\Mi κ w0 w' B bb rv' S D' (xs 2) (xs 3) (xs 2).length (xs' 0) (xs' 1) (xs' 2) (xs' 3) (xs' 4)/\(∀ g j,D g j->D' g j)/\Mn xs xs' (xs 2).length
structure FrL (κ:Kd) (w w0:World) (B bb:Nat) (rv:Nat->Value) (S:Nat->Prop) (D:Nat->Nat->Prop) (xf xm:List Value):Prop where
 len:xm.length=xf.length
 each:∀ (k:Nat) (v:Value),xf[k]?=some v->∃ n L,Ol κ w B bb rv D v n L
 ints:∀ (k:Nat) (x:Value),xm[k]?=some x->∃ m,x = .int .i64 m
 sep:PS xf
 ins:∀ (k:Nat) (v:Value),xf[k]?=some v->∀ g,v.ownBlock=some g->S g\/w0.heap.size<=g
def Aside (w wx:World) (D D':Nat->Nat->Prop) (bb:Nat) (rv rvx:Nat->Value) (xf:List Value) (k:Nat):Prop := ∀ g,g<w.heap.size->Off bb rv g->(∀ (i:Nat) (v:Value),i<k->xf[i]?=some v->v.ownBlock≠some g)->wx.heap[g]?=w.heap[g]?/\(∀ j,D' g j->D g j)/\Off bb rvx g
structure Sb (S:Nat->Prop) (w0:World) (D D':Nat->Nat->Prop):Prop where
 sub:∀ g j,D g j->D' g j
 new:∀ g j,D' g j->D g j\/S g\/w0.heap.size<=g
theorem zbR {κ:Kd} {S:Nat->Prop} {w0 w wp wr wz:World} {B bb n f k gc k4:Nat} {D D':Nat->Nat->Prop} {v:Value} {ga a4:Option Addr} {L M xo xt xf:List Value} {rv rvp rvz:Nat->Value} {cs:Array Value} {xs:Nat->List Value} (hbr:BR κ wp bb B cs rvp xs) (hdk:Dk wp bb rvp D') (hpd:PD κ wp D' xo xt) (hsub:Sb S w0 D D') (hvS:∀ g,v.ownBlock=some g->S g\/w0.heap.size<=g) (hw0:w0.heap.size<=wp.heap.size) (hkp:Keeps D w wp) (hav:Ol κ wp B bb rvp D' v n L) (ha:Aside w wp D D' bb rv rvp xf k) (hv:xf[k]?=some v) (hs:w.heap.size<=wp.heap.size) (gw:Gw κ wp wr B n f v (.slice ga (n+f) gc) L M) (hff:f<=100000) (n4:Nl κ bb rvz wr wz a4 (n+f) k4 (L++M)) (v4:Fv bb wr rvp wz rvz) (hby:κ.ok (L++M)) :
 ∃ D'',Dk wz bb rvz D''/\PD κ wz D'' (xo++[.slice ga (n+f) gc]) (xt++[.slice a4 (n+f) k4])/\Sb S w0 D D''/\Keeps D w wz/\Aside w wz D D'' bb rv rvz xf (k+1):=by
 have hsz:=gw.ch.size;have K1:Keeps D' wp wr:=fun g j q=>by
  by_cases e:v.ownBlock=some g;· exact gw.keep g e j ((hav.lim g e).1 j q)
  · exact zaA (gw.ch.block g (hdk g j q).1 e)
 have T1:Dk wr bb rvp D':=fun g j q=>⟨Nat.lt_of_lt_of_le (hdk g j q).1 hsz,(hdk g j q).2⟩;have K2:Keeps D' wr wz:=T1.keeps v4;have T2:Dk wz bb rvz D':=T1.fv v4;have goff:∀ g,(Value.slice ga (n+f) gc).ownBlock=some g->Off bb rvp g:=fun g e=>by
  rcases gw.wh with q | ⟨k',q,hk'⟩;· rw [q] at e;exact (hav.lim g e).2
  · rw [q] at e;cases e;exact hbr.new hk'
 have O2:wz.ownsRow B κ.te κ.es (.slice ga (n+f) gc) (n+f) (L++M):=zab gw.own (fun q e=>v4.keep q (gw.own.lt q e).2 (goff q e));have hfew:=hav.few;refine ⟨fun g j=>D' g j\/((Value.slice ga (n+f) gc).ownBlock=some g/\j<(n+f)*κ.es)\/∃ off,a4=some ⟨g,off,none⟩,?_,?_,⟨fun g j q=>.inl (hsub.sub g j q),?_⟩,?_,?_⟩
 · rintro g j (q | ⟨q,_⟩|⟨off,q⟩)
   · exact T2 g j q
   · exact ⟨(O2.lt g q).2,v4.off g (gw.own.lt g q).2 (goff g q)⟩
   · exact (n4.new g off q).2
 · exact (hpd.keep (K1.trans K2) (fun g j q=>Or.inl q)).snoc (by omega) (zae O2) n4.cl (zf2 O2 (fun g e j hj=>.inr (.inl ⟨e,hj⟩))) (fun g off e j hj=>.inr (.inr ⟨off,e⟩)) hby
 · rintro g j (q | ⟨q,_⟩|⟨off,q⟩)
   · exact hsub.new g j q
   · rcases gw.wh with e | ⟨k',e,hk'⟩
     · rw [e] at q;exact .inr (hvS g q)
     · rw [e] at q;cases q;exact .inr (.inr (by omega))
   · have:=(n4.new g off q).1
     exact .inr (.inr (by omega))
 · exact hkp.trans (fun g j q=>(K1.trans K2) g j (hsub.sub g j q))
 · intro g hg hog hne
   have h1:=ha g hg hog (fun i u hi hu=>hne i u (by omega) hu);have hvg:v.ownBlock≠some g:=hne k v (by omega) hv;have hlt:g<wp.heap.size:=by omega
   refine ⟨((v4.keep g (by omega) h1.2.2).trans (gw.ch.block g hlt hvg)).trans h1.1,?_,v4.off g (by omega) h1.2.2⟩;rintro j (q | ⟨q,_⟩|⟨off,q⟩);· exact h1.2.1 j q
   · rcases gw.wh with e | ⟨k',e,hk'⟩
     · rw [e] at q;exact absurd q hvg
     · rw [e] at q;cases q;omega
   · have:=(n4.new g off q).1
     omega
theorem frl_of {κ:Kd} {w0 w1:World} {B bb:Nat} {rv:Nat->Value} {S:Nat->Prop} {D:Nat->Nat->Prop} {xw0 xn0:List Value} {k K:Nat} {xs xs':Nat->List Value} {xo xt xw xn:List Value} (h:Mi κ w0 w1 B bb rv S D xw0 xn0 k xo xt xw xn (xs' 4)) (m:Mn xs xs' K):FrL κ w1 w0 B bb rv S D (xs' 4) (xs' 7):=by refine ⟨m.m7,h.fr,fun i x hx=>m.i7 x (List.mem_of_getElem? hx),?_,fun i v hv=>h.ins v (.inr (.inr (List.mem_of_getElem? hv)))⟩;exact (List.pairwise_append.1 (List.pairwise_append.1 h.ps).2.1).1
theorem zbB {κ:Kd} {w0 w1 w2:World} {B bb:Nat} {rv rv2:Nat->Value} {S:Nat->Prop} {D D2:Nat->Nat->Prop} {xw0 xn0:List Value} {k:Nat} {xo xt xw xn xf xo2 xt2:List Value} (h:Mi κ w0 w1 B bb rv S D xw0 xn0 k xo xt xw xn xf) (hd:Dk w2 bb rv2 D2) (hp:PD κ w2 D2 xo2 xt2) (hsub:Sb S w0 D D2) (hk:Keeps D w1 w2) (ha:Aside w1 w2 D D2 bb rv rv2 xf xf.length):Mi κ w0 w2 B bb rv2 S D2 xw xn 0 xo2 xt2 [] [] []:=by
 obtain ⟨p1,_,p3⟩:=List.pairwise_append.1 h.ps;refine ⟨hd,hp,by show List.Pairwise NB _;simpa using p1,rfl,fun i v vn e=>by simp at e,fun i v vn _ e1 e2=>?_,fun i v e=>by simp at e,fun g j q=>?_,fun v hv=>?_⟩;· have hw:=h.wt i v vn e1 e2;have q:∀ g,v.ownBlock=some g->w2.heap[g]?=w1.heap[g]?/\(∀ j,D2 g j->D g j)/\Off bb rv2 g:=fun g e => ha g (hw.lt e) (hw.off g e).2 (fun i' u _ hu e'=>p3 v (List.mem_of_getElem? e1) u (List.mem_append.2 (.inl (List.mem_of_getElem? hu))) g e e');exact hw.keep (fun g e=>(q g e).1) hk hsub.sub (fun g e=>(q g e).2)
 ·
  rcases hsub.new g j q with q | q;· exact h.dS g j q
  · exact q
 ·
  rcases hv with q | q | q;· exact h.ins v (.inr (.inl q))
  · cases q
  · cases q
structure Bo (κ:Kd) (k0:Array Value) (w0 w:World) (bb B:Nat) (S:Nat->Prop) (D:Nat->Nat->Prop) (cs:Array Value) (rv:Nat->Value) (xs:Nat->List Value) (t deep seen:Int):Prop where
 bq:Bq κ k0 w0 w bb B S cs rv xs t deep seen
 mi:Mi κ w0 w B bb rv S D (xs 2) (xs 3) 0 (xs 0) (xs 1) [] [] []
 n4:rv 4 = .slice none 0 0/\rv 7 = .slice none 0 0/\xs 4=[]/\xs 7=[]
 len:(xs 3).length=(xs 2).length/\(xs 5).length=(xs 2).length/\(xs 6).length=(xs 2).length
 i5:∀ u ∈ xs 5,∃ m,u = .int .i64 m
 i6:∀ u ∈ xs 6,∃ m,u = .int .i64 m
def Bgrown (κ:Kd) (k0:Array Value) (w0 w':World) (bb B:Nat) (S:Nat->Prop) (D:Nat->Nat->Prop) (N:Nat) (t deep seen:Int):Prop := ∃ D' cs' rv' xs',Bo κ k0 w0 w' bb B S D' cs' rv' xs' t deep seen/\(∀ g j,D g j->D' g j)/\(xs' 0).length+2*(xs' 2).length<=N
set_option maxRecDepth 100000
set_option maxHeartbeats 400000
def okB (L:List Value):Prop:=∀ u ∈ L,∃ x:Int,u = .int .u8 x
def okI (L:List Value):Prop:=∀ u ∈ L,∃ x:Int,u = .int .i64 x
def okT (L:List Value):Prop:=∀ u ∈ L,∃ s:ByteArray,u = .string s
def okA (L:List Value):Prop:=∃ l:List (ByteArray×Int),L=l.flatMap (fun p=>[.string p.1,.int .i64 p.2])
@[reducible] def kB:Kd:=⟨4,22,5,1,okB⟩
@[reducible] def kI:Kd:=⟨13,26,3,1,okI⟩
@[reducible] def kT:Kd:=⟨22,27,9,1,okT⟩
@[reducible] def kA:Kd:=⟨40,25,98,2,okA⟩
theorem inf22:(Tryz.prog.info? 22).map (fun i=>(i.zero,i.size,i.bytes))=some (some (.slice none 0 0),1,24):=by kernel_rfl
theorem inf25:(Tryz.prog.info? 25).map (fun i=>(i.zero,i.size,i.bytes))=some (some (.slice none 0 0),1,24):=by kernel_rfl
theorem inf26:(Tryz.prog.info? 26).map (fun i=>(i.zero,i.size,i.bytes))=some (some (.slice none 0 0),1,24):=by kernel_rfl
theorem inf27:(Tryz.prog.info? 27).map (fun i=>(i.zero,i.size,i.bytes))=some (some (.slice none 0 0),1,24):=by kernel_rfl
theorem inf5:(Tryz.prog.info? 5).map (fun i=>(i.zero,i.size,i.bytes))=some (some (.int .u8 0),1,1):=by kernel_rfl
theorem inf9:(Tryz.prog.info? 9).map (fun i=>(i.zero,i.size,i.bytes))=some (some (.string ⟨#[]⟩),1,16):=by kernel_rfl
theorem inf98:(Tryz.prog.info? 98).map (fun i=>(i.zero,i.size,i.bytes))=some (some (.agg #[.string ⟨#[]⟩,.int .i64 0]),2,24):=by kernel_rfl
theorem kB_ok:KOk kB:=by
 refine ⟨?_,Tryz.underlying22,?_,⟨by decide,by decide⟩,fun L h u hu=>?_,by decide⟩;· obtain ⟨q,h1,h2,h3,h4⟩:=info_parts inf22;exact ⟨q,_,h1,h2,h3,by omega,rfl⟩
 · obtain ⟨q,h1,h2,h3,h4⟩:=info_parts inf5;exact ⟨q,_,h1,h2,h3,by omega,rfl⟩
 · obtain ⟨x,rfl⟩:=h u hu;rfl
theorem kI_ok:KOk kI:=by
 refine ⟨?_,Tryz.underlying26,?_,⟨by decide,by decide⟩,fun L h u hu=>?_,by decide⟩;· obtain ⟨q,h1,h2,h3,h4⟩:=info_parts inf26;exact ⟨q,_,h1,h2,h3,by omega,rfl⟩
 · obtain ⟨q,h1,h2,h3,h4⟩:=info_parts binfo3;exact ⟨q,_,h1,h2,h3,by omega,rfl⟩
 · obtain ⟨x,rfl⟩:=h u hu;rfl
theorem kT_ok:KOk kT:=by
 refine ⟨?_,Tryz.underlying27,?_,⟨by decide,by decide⟩,fun L h u hu=>?_,by decide⟩;· obtain ⟨q,h1,h2,h3,h4⟩:=info_parts inf27;exact ⟨q,_,h1,h2,h3,by omega,rfl⟩
 · obtain ⟨q,h1,h2,h3,h4⟩:=info_parts inf9;exact ⟨q,_,h1,h2,h3,by omega,rfl⟩
 · obtain ⟨x,rfl⟩:=h u hu;rfl
theorem kA_ok:KOk kA:=by
 refine ⟨?_,Tryz.underlying25,?_,⟨by decide,by decide⟩,fun L h u hu=>?_,by decide⟩;· obtain ⟨q,h1,h2,h3,h4⟩:=info_parts inf25;exact ⟨q,_,h1,h2,h3,by omega,rfl⟩
 · obtain ⟨q,h1,h2,h3,h4⟩:=info_parts inf98;exact ⟨q,_,h1,h2,h3,by omega,rfl⟩
 · obtain ⟨l,rfl⟩:=h;obtain ⟨p,_,hp⟩:=List.mem_flatMap.1 hu;simp at hp;rcases hp with rfl | rfl <;> rfl
theorem zdz (bb:Nat) (cs:Array Value) (n t:Nat) (w:World) (hn:n<=1000000) (ht:t<=1000000) (hB:BkAt w bb cs) (c0:cs[0]?=some (.bool false)) (c2:cs[2]?=some (.int .i64 t)) :
 Calls Tryz.prog 112 #[.pointer (some ⟨bb,0,none⟩),.int .i64 n] w fun e w1=>(∃ d:Nat,e = .returned (.int .i64 d)/\t<=d/\d<=t+8)/\w1=w:=by
 have x0:=(za1 hB c0).1;have x2:=(za1 hB c2).1;clear hB c0 c2;go_enter Tryz.func112,Tryz.ntmps112;go_wp2
 · go_ret
   exact ⟨⟨t,rfl,by omega,by omega⟩,rfl⟩
 · go_ret
   exact ⟨⟨t+1+n / 3 % 8,by simp,by omega,by omega⟩,rfl⟩
 · go_ret
   exact ⟨⟨t+1,by simp,by omega,by omega⟩,rfl⟩
section
variable {L M:List Value}
theorem zf3 (h:okB L) (k:okB M):okB (L++M):=fun u hu=>(List.mem_append.1 hu).elim (h u) (k u)
theorem zfc (h:okI L) (k:okI M):okI (L++M):=fun u hu=>(List.mem_append.1 hu).elim (h u) (k u)
theorem zf0 (h:okT L) (k:okT M):okT (L++M):=fun u hu=>(List.mem_append.1 hu).elim (h u) (k u)
theorem zeg (h:okA L) (k:okA M):okA (L++M):=by obtain ⟨l,rfl⟩:=h;obtain ⟨m,rfl⟩:=k;exact ⟨l++m,by simp⟩
end
def Ito (w:World):Prop:=∀ n:Int,-9223372036854775808<=n->n<=9223372036854775807->Calls Tryz.prog 249 #[.int .i64 n] w fun e w'=>(∃ s,e = .returned (.string s))/\Below w.heap.size w w'
def ItS (S:Nat->Prop) (w0:World):Prop:=∀ wx,Ch S w0 wx->Ito wx
theorem ItS.mono {S S':Nat->Prop} {w:World} (h:ItS S' w) (hs:∀ k,S k->S' k):ItS S w:=fun wx c=>h wx (c.mono (fun k _ q=>hs k q))
def Bl (rv:Nat->Value) (xw xf:List Value) (D:Nat->Nat->Prop) (k:Nat):Prop:=(∃ i,i<8/\(rv i).ownBlock=some k)\/(∃ v,(v ∈ xw\/v ∈ xf)/\v.ownBlock=some k)\/∃ j,D k j
structure Fx (m:Bool) (κ:Kd) (w:World) (bb:Nat) (cs:Array Value) (t d:Int) (N:Nat) (U:Nat->Prop):Prop where ex:∃ (D:Nat->Nat->Prop) (rv:Nat->Value) (xs xs0:Nat->List Value) (K seen:Nat),Bq κ cs w w bb 0 (fun k=>U k\/k=bb) cs rv xs t d seen/\Mi κ w w 0 bb rv (fun k=>U k\/k=bb) D (if m then [] else xs 2) (if m then [] else xs 3) 0 (xs 0) (xs 1) (if m then xs 2 else []) (if m then xs 3 else []) (xs 4)/\Mn xs0 xs K/\(m=false->rv 4 = .slice none 0 0/\rv 7 = .slice none 0 0/\xs 4=[]/\xs 7=[]/\(xs 3).length=(xs 2).length)/\(∀ k,U k↔Bl rv (xs 2) (xs 4) D k)/\(xs0 0).length+2*K<=2*N/\seen<=N
section
variable {m:Bool} {κ:Kd} {k0:Array Value} {w0 w w':World} {bb B:Nat} {S:Nat->Prop} {D:Nat->Nat->Prop} {cs cs':Array Value} {rv:Nat->Value} {xs xs0:Nat->List Value} {t d t' d' seen:Int} {N:Nat} {U:Nat->Prop}
theorem Mi.done {xw0 xn0 xo xt xw xn xf:List Value} (h:Mi κ w0 w B bb rv S D xw0 xn0 xw0.length xo xt xw xn xf):Mi κ w0 w B bb rv S D [] [] 0 xo xt xw xn xf := ⟨h.dk,h.pd,by have:=h.ps;rw [List.drop_length] at this;simpa using this,h.wl,h.wt,fun i v vn _ e=>by simp at e,h.fr,h.dS,fun v hv=>h.ins v (hv.imp (fun q=>by cases q) id)⟩
theorem Mi.rebase {xw0 xn0 xo xt xw xn xf:List Value} {T:Nat->Prop} (h:Mi κ w0 w B bb rv S D xw0 xn0 0 xo xt xw xn xf) (h1:∀ g j,D g j->T g) (h2:∀ v,v ∈ xw0\/v ∈ xw\/v ∈ xf->∀ g,v.ownBlock=some g->T g):Mi κ w w B bb rv T D xw0 xn0 0 xo xt xw xn xf := ⟨h.dk,h.pd,h.ps,h.wl,h.wt,h.rt,h.fr,fun g j q=>.inl (h1 g j q),fun v hv g e=>.inl (h2 v hv g e)⟩
theorem Bl.lt {xw0 xn0 xo xt xw xn xf:List Value} (hq:BR κ w bb B cs rv xs) (h:Mi κ w0 w B bb rv S D xw0 xn0 0 xo xt xw xn xf) (hl:xn0.length=xw0.length) {xa:List Value} (ha:∀ v,v ∈ xa->v ∈ xw0\/v ∈ xw) {k:Nat} (hk:Bl rv xa xf D k):k<w.heap.size/\k≠bb:=by
 rcases hk with ⟨i,hi,e⟩|⟨v,hv,e⟩|⟨j,e⟩;· exact ⟨hq.lt hi e,fun q=>hq.ne i hi (q ▸ e)⟩
 ·
  have key:(v ∈ xw0\/v ∈ xw)\/v ∈ xf:=hv.imp (ha v) id;rcases key with (q | q) | q
  · obtain ⟨i,hi,rfl⟩:=List.mem_iff_getElem.1 q
    have W:=h.rt i _ (xn0[i]'(by omega)) (Nat.zero_le _) (List.getElem?_eq_getElem hi) (List.getElem?_eq_getElem (by omega));exact ⟨W.lt e,(W.off k e).2.1⟩
  · obtain ⟨i,hi,rfl⟩:=List.mem_iff_getElem.1 q;have hwl:=h.wl;have W:=h.wt i _ (xn[i]'(by omega)) (List.getElem?_eq_getElem hi) (List.getElem?_eq_getElem (by omega));exact ⟨W.lt e,(W.off k e).2.1⟩
  · obtain ⟨i,hi,rfl⟩:=List.mem_iff_getElem.1 q
    obtain ⟨n,L,ho⟩:=h.fr i _ (List.getElem?_eq_getElem hi);exact ⟨(ho.own.lt k e).2,(ho.lim k e).2.1⟩
 · exact ⟨(h.dk k j e).1,(h.dk k j e).2.1⟩
theorem Fx.lt (h:Fx m κ w bb cs t d N U) {k:Nat} (hk:U k):k<w.heap.size/\k≠bb:=by
 obtain ⟨D,rv,xs,xs0,K,seen,hq,hm,hn,h4,hU,_⟩:=h.ex;cases m with
 | true=>exact Bl.lt hq.br hm rfl (xa:=xs 2) (fun v q=>.inr q) ((hU k).1 hk);| false=>exact Bl.lt hq.br hm (h4 rfl).2.2.2.2 (xa:=xs 2) (fun v q=>.inl q) ((hU k).1 hk)
theorem Fx.mono (h:Fx m κ w bb cs t d N U) {M:Nat} (hM:N<=M):Fx m κ w bb cs t d M U:=by obtain ⟨D,rv,xs,xs0,K,seen,hq,hm,hn,h4,hU,h5,h6⟩:=h.ex;exact ⟨D,rv,xs,xs0,K,seen,hq,hm,hn,h4,hU,by omega,by omega⟩
theorem Fx.frame (h:Fx m κ w bb cs t d N U) (hk:∀ k,U k->w'.heap[k]?=w.heap[k]?) (hb:BkAt w' bb cs') (hcs:∀ i,i<9->cs'[κ.c0+i]?=cs[κ.c0+i]?) (h0:cs'[0]?=some (.bool false)) (h1:cs'[1]?=some (.bool false)) (h2:cs'[2]?=some (.int .i64 t')) (h3:cs'[3]?=some (.int .i64 d')):Fx m κ w' bb cs' t' d' N U:=by
 have hlt:∀ k,U k->k<w'.heap.size:=fun k q=>by have h1:=hk k q;have h2:=(h.lt q).1;rw [Array.getElem?_eq_getElem h2] at h1;exact (Array.getElem?_eq_some_iff.1 h1).1
 obtain ⟨D,rv,xs,xs0,K,seen,hq,hm,hn,h4,hU,h5⟩:=h.ex;have kD:∀ g j,D g j->w'.heap[g]?=w.heap[g]?:=fun g j q=>hk g ((hU g).2 (.inr (.inr ⟨j,q⟩)));have kk:Keeps D w w':=fun g j q=>zaA (kD g j q);have kl:∀ v,v ∈ xs 2\/v ∈ xs 4->∀ g,v.ownBlock=some g->w'.heap[g]?=w.heap[g]?:=fun v hv g e=>hk g ((hU g).2 (.inr (.inl ⟨v,hv,e⟩)));refine ⟨D,rv,xs,xs0,K,seen,⟨⟨hb,fun i hi=>(hcs i (by omega)).trans (hq.br.fld i hi),fun i hi=>zab (hq.br.own i hi) (fun k e=>hk k ((hU k).2 (.inl ⟨i,hi,e⟩))),hq.br.sep,hq.br.ne⟩,⟨h0,h1,h2,h3,(hcs 8 (by omega)).trans hq.hd.sn,fun _ _ _=>rfl,hq.hd.low⟩,Ch.refl _ _,.inr rfl,fun i hi k e=>.inl (.inl ((hU k).2 (.inl ⟨i,hi,e⟩)))⟩,⟨fun g j q=>⟨hlt g ((hU g).2 (.inr (.inr ⟨j,q⟩))),(hm.dk g j q).2⟩,hm.pd.keep kk (fun _ _ q=>q),hm.ps,hm.wl,fun i v vn e1 e2=>?_,fun i v vn hi e1 e2=>?_,fun i v e=>?_,fun g j q=>.inl (.inl ((hU g).2 (.inr (.inr ⟨j,q⟩)))),fun v hv g e=>?_⟩,hn,h4,hU,h5⟩;·
  have W:=hm.wt i v vn e1 e2;refine W.keep (fun g e=>kl v (.inl ?_) g e) kk (fun _ _ q=>q) (fun g e=>⟨fun _ q=>q,(W.off g e).2⟩);have:=List.mem_of_getElem? e1;cases m with
  | true=>exact this;| false=>cases this
 ·
  have W:=hm.rt i v vn hi e1 e2;refine W.keep (fun g e=>kl v (.inl ?_) g e) kk (fun _ _ q=>q) (fun g e=>⟨fun _ q=>q,(W.off g e).2⟩);have:=List.mem_of_getElem? e1;cases m with
  | true=>cases this;| false=>exact this
 · obtain ⟨n,L,ho⟩:=hm.fr i v e
   exact ⟨n,L,ho.keep (fun g e'=>kl v (.inr (List.mem_of_getElem? e)) g e') (fun g e'=>⟨fun _ q=>q,(ho.lim g e').2⟩)⟩
 ·
  have key:v ∈ xs 2\/v ∈ xs 4:=by cases m with | true=>rcases hv with q | q | q;(cases q);exact .inl q;exact .inr q | false=>rcases hv with q | q | q;exact .inl q;(cases q);exact .inr q
  exact .inl (.inl ((hU g).2 (.inr (.inl ⟨v,key,e⟩))))
def Cs (κ:Kd) (cs cs':Array Value):Prop:=∀ j,4<=j->(j<κ.c0\/κ.c0+9<=j)->cs'[j]?=cs[j]?
structure St (m:Bool) (κ:Kd) (w w':World) (bb:Nat) (cs:Array Value) (t d:Int) (N:Nat) (U T:Nat->Prop):Prop where ex:∃ cs' U',Fx m κ w' bb cs' t d N U'/\Ch (fun k=>U k\/T k\/k=bb) w w'/\(∀ k,U' k->U k\/T k\/w.heap.size<=k)/\Cs κ cs cs'
theorem Fx.of_done (h:Mdone κ cs w w' bb 0 (fun k=>U k\/k=bb) D xs t d seen) (hl:(xs 0).length+2*(xs 2).length<=2*N) {sn:Nat} (hs:seen=sn) (hsn:sn<=N):St true κ w w' bb cs t d N U (fun _=>False):=by
 obtain ⟨D',cs',rv',xs',hq,hm,_,mn⟩:=h;subst hs;have hm':=hm.done;have hlt:∀ k,Bl rv' (xs' 2) (xs' 4) D' k->k<w'.heap.size/\k≠bb:=fun k hk=>Bl.lt hq.br hm' rfl (xa:=xs' 2) (fun v q=>.inr q) hk;refine ⟨cs',Bl rv' (xs' 2) (xs' 4) D',⟨D',rv',xs',xs,(xs 2).length,sn,⟨hq.br,⟨hq.hd.now,hq.hd.bad,hq.hd.turn,hq.hd.dp,hq.hd.sn,fun _ _ _=>rfl,hq.hd.low⟩,Ch.refl _ _,.inr rfl,fun i hi k e=>.inl (.inl (.inl ⟨i,hi,e⟩))⟩,hm'.rebase (fun g j q=>.inl (.inr (.inr ⟨j,q⟩))) (fun v hv g e=>.inl (.inr (.inl ⟨v,?_,e⟩))),mn,(fun q=>by cases q),fun k=>Iff.rfl,hl,hsn⟩,hq.ch.mono (fun j _ q=>q.imp id .inr),fun k hk=>?_,hq.hd.rest⟩;·
  rcases hv with q | q;· cases q
  · exact q
 ·
  have hne:=(hlt k hk).2;have:(U k\/k=bb)\/w.heap.size<=k:=by
   rcases hk with ⟨i,hi,e⟩|⟨v,hv,e⟩|⟨j,e⟩;· exact hq.ins i hi k e
   · exact hm'.ins v (.inr hv) k e
   · exact hm'.dS k j e
  rcases this with (q | q) | q;· exact .inl q
  · exact absurd q hne
  · exact .inr (.inr q)
theorem Fx.of_bo {T:Nat->Prop} {sn:Nat} {d:Int} (h:Bo κ cs w w' bb 0 (fun k=>U k\/T k\/k=bb) D cs' rv xs t d sn) (hl:(xs 0).length+2*(xs 2).length<=2*N) (hsn:sn<=N):St false κ w w' bb cs t d N U T:=by
 have hlt:∀ k,Bl rv (xs 2) (xs 4) D k->k<w'.heap.size/\k≠bb:=fun k hk=>by have hm:=h.mi;rw [show ([]:List Value)=xs 4 from h.n4.2.2.1.symm] at hm;exact Bl.lt h.bq.br (hm) h.len.1 (xa:=xs 2) (fun v q=>.inl q) hk
 have hm4:=h.mi;refine ⟨cs',Bl rv (xs 2) (xs 4) D,⟨D,rv,xs,xs,(xs 2).length,sn,⟨h.bq.br,⟨h.bq.hd.now,h.bq.hd.bad,h.bq.hd.turn,h.bq.hd.dp,h.bq.hd.sn,fun _ _ _=>rfl,h.bq.hd.low⟩,Ch.refl _ _,.inr rfl,fun i hi k e=>.inl (.inl (.inl ⟨i,hi,e⟩))⟩,?_,⟨h.len.2.1,h.len.2.2,by rw [h.n4.2.2.1,h.n4.2.2.2],h.i5,h.i6,(by rw [h.n4.2.2.2];intro u hu;cases hu),(by rw [h.n4.2.2.1];exact Nat.le_refl _),Nat.le_add_right _ _⟩,fun _=>⟨h.n4.1,h.n4.2.1,h.n4.2.2.1,h.n4.2.2.2,h.len.1⟩,fun k=>Iff.rfl,hl,hsn⟩,h.bq.ch,fun k hk=>?_,h.bq.hd.rest⟩
 · rw [h.n4.2.2.1]
   exact hm4.rebase (fun g j q=>.inl (.inr (.inr ⟨j,q⟩))) (fun v hv g e=>.inl (.inr (.inl ⟨v,hv.imp id (fun q=>q.elim (fun q=>by cases q) id),e⟩)))
 ·
  have hne:=(hlt k hk).2;have:(U k\/T k\/k=bb)\/w.heap.size<=k:=by
   rcases hk with ⟨i,hi,e⟩|⟨v,hv,e⟩|⟨j,e⟩;· exact h.bq.ins i hi k e
   · rw [h.n4.2.2.1] at hv
     exact h.mi.ins v (hv.imp id (fun q=>by cases q)) k e
   · exact h.mi.dS k j e
  rcases this with (q | q | q) | q;· exact .inl q
  · exact .inr (.inl q)
  · exact absurd q hne
  · exact .inr (.inr q)
theorem Fx.bo (h:Fx false κ w bb cs t d N U):∃ D rv xs sn,Bo κ cs w w bb 0 (fun k=>U k\/k=bb) D cs rv xs t d (sn:Nat)/\(∀ k,U k↔Bl rv (xs 2) (xs 4) D k)/\(xs 0).length+2*(xs 2).length<=2*N/\sn<=N:=by obtain ⟨D,rv,xs,xs0,K,sn,hq,hm,hn,h4,hU,h5,h6⟩:=h.ex;obtain ⟨q1,q2,q3,q4,q5⟩:=h4 rfl;refine ⟨D,rv,xs,sn,⟨hq,by rw [q3] at hm;exact hm,⟨q1,q2,q3,q4⟩,⟨q5,hn.m5,hn.m6⟩,hn.i5,hn.i6⟩,hU,?_,h6⟩;have:=hn.l24;have:=hn.l04;rw [q3] at *;simp at *;omega
end
section
variable {κ:Kd} {cs k0:Array Value} {w0:World} {B bb:Nat} {S:Nat->Prop} {rv:Nat->Value} {xs:Nat->List Value} {deep seen t:Int} {xo xt:List Value}
theorem Bq.pushed {wx wb w':World} (h:Bq κ k0 w0 wx bb B S cs rv xs t deep seen) (hb:Below wx.heap.size wx wb) {i:Nat} (hi:i<8) {x v':Value} (q:Nat) (hq:κ.c0+i=q) (p:Pu κ wb w' bb B cs rv xs i x v') :
 ∃ a n k,v' = .slice a n k/\w'.cell? ⟨bb,q,none⟩=some (rv i)/\w'.frozen? ⟨bb,q,none⟩=false/\∃ W,W=w'.setCell ⟨bb,q,none⟩ (.slice a n k)/\∃ c:Array Value,Hid (Bq κ k0 w0 W bb B S c (upd rv i (.slice a n k)) (upd xs i (xs i++[x])) t deep seen/\Fv bb wx rv W (upd rv i (.slice a n k))):=by
 subst hq;have P:=h.push1 hb hi p;have c:=za1 p.bk (h.br.fld i hi);obtain ⟨a,n,k,e⟩:=p.sl;subst e;exact ⟨a,n,k,rfl,c.1,c.2,_,rfl,_,P⟩
theorem zco (xs:Nat->List Value):upd (upd xs 0 (xs 0)) 1 (xs 1)=xs:=by funext j;by_cases h1:j=1 <;> by_cases h0:j=0 <;> simp [upd,h0,h1] <;> (subst_vars;rfl)
theorem zcp {xs3:Nat->List Value} {a b:List Value} (hx:xs3 1=xt) (h3:xs3=upd (upd (upd xs 0 xo) 1 xt) 0 a):upd xs3 1 (xs3 1++b)=upd (upd xs 0 a) 1 (xt++b):=by
 rw [hx,h3];funext j;by_cases h1:j=1;· subst h1;rw [za8,za8]
 ·
  rw [upd_ne _ _ h1,upd_ne _ _ h1];by_cases h0:j=0;· subst h0;rw [za8,za8]
  · rw [upd_ne _ _ h0,upd_ne _ _ h1,upd_ne _ _ h0,upd_ne _ _ h0]
theorem Bq.fresh {w:World} (h:Bq κ k0 w0 w bb B S cs rv (upd (upd xs 0 xo) 1 xt) t deep seen) (p q:Nat) (ep:κ.c0+4=p) (eq:κ.c0+7=q):∃ a4 k4 a7 k7,w.cell? ⟨bb,p,none⟩=some (.slice a4 (xs 4).length k4)/\w.cell? ⟨bb,q,none⟩=some (.slice a7 (xs 7).length k7)/\Hid (w.ownsRow B (et κ.tl 4) 1 (.slice a4 (xs 4).length k4) (xs 4).length (xs 4)/\w.ownsRow B 3 1 (.slice a7 (xs 7).length k7) (xs 7).length (xs 7)):=by
 subst ep eq;obtain ⟨a4,k4,e4⟩:=row_sl (h.br.own 4 (by decide));obtain ⟨a7,k7,e7⟩:=row_sl (h.br.own 7 (by decide));have x4:upd (upd xs 0 xo) 1 xt 4=xs 4:=by rw [upd_ne _ _ (by decide),upd_ne _ _ (by decide)]
 have x7:upd (upd xs 0 xo) 1 xt 7=xs 7:=by rw [upd_ne _ _ (by decide),upd_ne _ _ (by decide)]
 rw [x4] at e4;rw [x7] at e7;refine ⟨a4,k4,a7,k7,?_,?_,?_,?_⟩;· have:=(h.br.cell 4 (by decide)).1;rw [e4] at this;exact this
 · have:=(h.br.cell 7 (by decide)).1;rw [e7] at this;exact this
 · have:=h.br.own 4 (by decide);rw [x4,e4] at this;exact this
 · have:=h.br.own 7 (by decide);rw [x7,e7] at this;exact this
end
section
variable {κ:Kd} {cs k0:Array Value} {w w0:World} {B bb k:Nat} {S:Nat->Prop} {rv:Nat->Value} {xs xs' y:Nat->List Value} {c deep t:Int} {a b:Value} {D:Nat->Nat->Prop}
theorem Ms.pushed {wx wb w':World} {rv0:Nat->Value} {xs0:Nat->List Value} {seen:Int} (h:Ms κ k0 w0 w wx bb B S rv0 xs0 cs rv xs t deep seen) (hb:Below wx.heap.size wx wb) {i:Nat} (hi:i<8) {x v':Value} (q:Nat) (hq:κ.c0+i=q) (p:Pu κ wb w' bb B cs rv xs i x v') :
 ∃ a n k,v' = .slice a n k/\w'.cell? ⟨bb,q,none⟩=some (rv i)/\w'.frozen? ⟨bb,q,none⟩=false/\∃ W,W=w'.setCell ⟨bb,q,none⟩ (.slice a n k)/\∃ (c:Array Value) (r:Nat->Value) (y:Nat->List Value),Hid (Ms κ k0 w0 w W bb B S rv0 xs0 c r y t deep seen/\Fv bb wx rv W r)/\Hid (y=upd xs i (xs i++[x])):=by
 subst hq;have P:=h.push1 hb hi p;have c:=za1 p.bk (h.bq.br.fld i hi);obtain ⟨a,n,k,e⟩:=p.sl;subst e;exact ⟨a,n,k,rfl,c.1,c.2,_,rfl,_,_,_,P,(show _=_ from rfl)⟩
theorem Mn.wait {d:Int} (m:Mn xs xs' k) (e:y=upd (upd (upd (upd xs' 2 (xs' 2++[a])) 3 (xs' 3++[b])) 5 (xs' 5++[.int .i64 c])) 6 (xs' 6++[.int .i64 d])):Mn xs y (k+1):=by
 rw [e];refine ⟨?_,?_,?_,?_,?_,?_,?_,?_⟩;· have:=m.m5;simp [upd];omega
 · have:=m.m6;simp [upd];omega
 · have:=m.m7;simp [upd];omega
 ·
  intro u hu;rcases List.mem_append.1 (by simpa [upd] using hu:u ∈ xs' 5++[.int .i64 c]) with q | q;· exact m.i5 u q
  · simp at q;exact ⟨_,q⟩
 ·
  intro u hu;rcases List.mem_append.1 (by simpa [upd] using hu:u ∈ xs' 6++[.int .i64 d]) with q | q;· exact m.i6 u q
  · simp at q;exact ⟨_,q⟩
 · intro u hu;exact m.i7 u (by simpa [upd] using hu)
 · have:=m.l24;simp [upd];omega
 · have:=m.l04;simp [upd];omega
theorem Mn.seen (m:Mn xs xs' k) (e:y=upd (upd (upd (upd xs' 0 (xs' 0++[a])) 1 (xs' 1++[b])) 4 (xs' 4++[a])) 7 (xs' 7++[.int .i64 c])):Mn xs y (k+1):=by
 rw [e];refine ⟨?_,?_,?_,?_,?_,?_,?_,?_⟩;· have:=m.m5;simp [upd];omega
 · have:=m.m6;simp [upd];omega
 · have:=m.m7;simp [upd];omega
 · intro u hu;exact m.i5 u (by simpa [upd] using hu)
 · intro u hu;exact m.i6 u (by simpa [upd] using hu)
 ·
  intro u hu;rcases List.mem_append.1 (by simpa [upd] using hu:u ∈ xs' 7++[.int .i64 c]) with q | q;· exact m.i7 u q
  · simp at q;exact ⟨_,q⟩
 · have:=m.l24;simp [upd];omega
 · have:=m.l04;simp [upd];omega
theorem Bo.opened {seen:Int} (h:Bo κ k0 w0 w bb B S D cs rv xs t deep seen) (hl:(xs 0).length+(xs 2).length<=800000) (p q r s:Nat) (ep:κ.c0+2=p) (eq:κ.c0+3=q) (er:κ.c0+5=r) (es:κ.c0+6=s) :
 ∃ N a2 k2 a3 k3 a5 k5 a6 k6,(w.cell? ⟨bb,p,none⟩=some (.slice a2 N k2)/\w.cell? ⟨bb,q,none⟩=some (.slice a3 N k3)/\w.cell? ⟨bb,r,none⟩=some (.slice a5 N k5)/\w.cell? ⟨bb,s,none⟩=some (.slice a6 N k6)/\w.frozen? ⟨bb,p,none⟩=false/\w.frozen? ⟨bb,q,none⟩=false/\w.frozen? ⟨bb,r,none⟩=false/\w.frozen? ⟨bb,s,none⟩=false) /\ Hid (rv 2 = .slice a2 N k2/\rv 3 = .slice a3 N k3/\rv 5 = .slice a5 N k5/\rv 6 = .slice a6 N k6)/\Hid (N=(xs 2).length/\N<=800000):=by
 obtain ⟨hq,hm,⟨h4,h7,x4,x7⟩,hn,h5,h6⟩:=h;subst ep eq er es;obtain ⟨a2,k2,e2⟩:=row_sl (hq.br.own 2 (by decide));obtain ⟨a3,k3,e3⟩:=row_sl (hq.br.own 3 (by decide));obtain ⟨a5,k5,e5⟩:=row_sl (hq.br.own 5 (by decide));obtain ⟨a6,k6,e6⟩:=row_sl (hq.br.own 6 (by decide));rw [hn.1] at e3;rw [hn.2.1] at e5;rw [hn.2.2] at e6;have c2:=hq.br.cell 2 (by decide);have c3:=hq.br.cell 3 (by decide);have c5:=hq.br.cell 5 (by decide);have c6:=hq.br.cell 6 (by decide);rw [e2] at c2;rw [e3] at c3;rw [e5] at c5;rw [e6] at c6;exact ⟨_,a2,k2,a3,k3,a5,k5,a6,k6,⟨c2.1,c3.1,c5.1,c6.1,c2.2,c3.2,c5.2,c6.2⟩,⟨e2,e3,e5,e6⟩,⟨rfl,by omega⟩⟩
theorem Bo.none_ {seen:Int} (h:Bo κ k0 w0 w bb B S D cs rv xs t deep seen) (h0:0=(xs 2).length):Mdone κ k0 w0 w bb B S D xs t deep seen:=by
 obtain ⟨hq,hm,⟨h4,h7,x4,x7⟩,hn,h5,h6⟩:=h;have n2:xs 2=[]:=List.eq_nil_of_length_eq_zero h0.symm;have n3:xs 3=[]:=List.eq_nil_of_length_eq_zero (by rw [hn.1,n2];rfl);rw [n2] at hn;refine ⟨D,cs,rv,xs,hq,?_,fun _ _ q=>q,?_⟩;· rw [x4];rw [n2,n3] at hm ⊢;exact hm
 · exact ⟨by rw [n2];exact hn.2.1,by rw [n2];exact hn.2.2,by rw [x4,x7],h5,h6,(by rw [x7];intro u hu;cases hu),(by rw [n2,x4];exact Nat.zero_le _),(by rw [x4];exact Nat.le_refl _)⟩
end
section
variable {κ:Kd} {k0:Array Value} {w0 w wx:World} {bb B:Nat} {S S':Nat->Prop} {D:Nat->Nat->Prop} {cs cs':Array Value} {rv rv':Nat->Value} {xs:Nat->List Value} {t deep seen:Int}
theorem Bo.more (h:Bo κ k0 w0 w bb B S D cs rv xs t deep seen) (hs:∀ k,S k->S' k):Bo κ k0 w0 w bb B S' D cs rv xs t deep seen := ⟨⟨h.bq.br,h.bq.hd,h.bq.ch.mono (fun j _ q=>hs j q),hs _ h.bq.sb,fun i hi k e=>(h.bq.ins i hi k e).imp (hs k) id⟩,⟨h.mi.dk,h.mi.pd,h.mi.ps,h.mi.wl,h.mi.wt,h.mi.rt,h.mi.fr,fun g j q=>(h.mi.dS g j q).imp (hs g) id,fun v hv g e=>(h.mi.ins v hv g e).imp (hs g) id⟩,h.n4,h.len,h.i5,h.i6⟩
theorem Bo.few (h:Bo κ k0 w0 w bb B S D cs rv xs t deep seen) (hl:(xs 0).length+2*(xs 2).length<=800000):∀ i,i<8->(xs i).length<=900000:=fun i hi=>by
 have hlen:=h.len;have hpd:=h.mi.pd.1;match i,hi with
 | 0,_=>omega;| 1,_=>omega;| 2,_=>omega;| 3,_=>omega;| 4,_=>rw [h.n4.2.2.1];exact Nat.zero_le _;| 5,_=>omega;| 6,_=>omega;| 7,_=>rw [h.n4.2.2.2];exact Nat.zero_le _
theorem Bo.noted {U:Nat->Prop} {T:Nat->Prop} {N n vc k4 sn:Nat} {va a4:Option Addr} {L:List Value} {mark due:Int} {d':Int} (h:Bo κ cs w w bb 0 (fun k=>U k\/T k\/k=bb) D cs rv xs t deep seen)
 (hq:Bq κ cs w wx bb 0 (fun k=>U k\/T k\/k=bb) cs' rv' (upd (upd (upd (upd xs 2 (xs 2++[.slice va n vc])) 3 (xs 3++[.slice a4 n k4])) 5 (xs 5++[.int .i64 mark])) 6 (xs 6++[.int .i64 due])) t d' (sn+1:Nat)) (h47:rv' 4=rv 4/\rv' 7=rv 7) (hnl:Nl κ bb rv' w wx a4 n k4 L) (hf:Fv bb w rv wx rv') (ho:w.ownsRow 0 κ.te κ.es (.slice va n vc) n L) (voff:∀ g,(Value.slice va n vc).ownBlock=some g->(∀ j,¬ D g j)/\Off bb rv g) (hnb:∀ u ∈ xs 2,NB u (.slice va n vc)) (hS:∀ g,(Value.slice va n vc).ownBlock=some g->(U g\/T g\/g=bb)\/w.heap.size<=g) (hok:κ.ok L) (hn:n<=1900000) (hl:(xs 0).length+2*(xs 2).length<=2*N) (hs:sn<=N):St false κ w wx bb cs t d' (N+1) U T:=by
 obtain ⟨D1,hm,_⟩:=h.mi.add h.len.1 (Nat.le_refl _) hf ho hnl voff hnb hS hok hn;have hbo:Bo κ cs w wx bb 0 (fun k=>U k\/T k\/k=bb) D1 cs' rv' (upd (upd (upd (upd xs 2 (xs 2++[.slice va n vc])) 3 (xs 3++[.slice a4 n k4])) 5 (xs 5++[.int .i64 mark])) 6 (xs 6++[.int .i64 due])) t d' (sn+1:Nat):=by
  have hlen:=h.len;refine ⟨hq,by simpa [upd] using hm,⟨h47.1.trans h.n4.1,h47.2.trans h.n4.2.1,by simpa [upd] using h.n4.2.2.1,by simpa [upd] using h.n4.2.2.2⟩,?_,?_,?_⟩;· simp [upd];omega
  · intro u hu
    rcases List.mem_append.1 (by simpa [upd] using hu:u ∈ xs 5++[.int .i64 mark]) with q | q;· exact h.i5 u q
    · simp at q;exact ⟨_,q⟩
  · intro u hu
    rcases List.mem_append.1 (by simpa [upd] using hu:u ∈ xs 6++[.int .i64 due]) with q | q;· exact h.i6 u q
    · simp at q;exact ⟨_,q⟩
 exact Fx.of_bo hbo (by simp [upd];omega) (by omega)
end
set_option maxHeartbeats 1000000
theorem okA_at {L:List Value} (h:okA L) {i:Nat} (hi:i*2<L.length):∃ s x,L[i*2]?=some (.string s)/\L[i*2+1]?=some (.int .i64 x):=by
 obtain ⟨l,rfl⟩:=h;induction l generalizing i with
 | nil=>simp at hi;| cons p l ih =>
  cases i with
  | zero=>exact ⟨p.1,p.2,by simp,by simp⟩;| succ i =>
   obtain ⟨s,x,h1,h2⟩:=ih (i:=i) (by simp only [List.flatMap_cons,List.length_append,List.length_cons,List.length_nil] at hi;omega);refine ⟨s,x,?_,?_⟩
   · rw [<-h1,List.flatMap_cons,List.getElem?_append_right (by simp only [List.length_cons,List.length_nil];omega)]
     congr 1;simp only [List.length_cons,List.length_nil];omega
   · rw [<-h2,List.flatMap_cons,List.getElem?_append_right (by simp only [List.length_cons,List.length_nil];omega)]
     congr 1;simp only [List.length_cons,List.length_nil];omega
theorem ze4 (t t':ByteArray) (q q':Int) (w:World):(binOp .neq 98 (.agg #[.string t,.int .i64 q]) (.agg #[.string t',.int .i64 q'])).run Tryz.prog w = .ok (.bool (!((t.toList==t'.toList) && (q==q')))) w:=by
 have hu:Tryz.prog.underlying 98=some (.struct (Tryz.prog.fieldsOf 98)):=by kernel_rfl
 have hp:Tryz.prog.stoodInHeld 98=false:=by kernel_rfl
 rw [run_neq_struct,run_equalIn_agg w 9999 98 _ _ hu hp];clear hu hp;simp only [Program.fieldsOf,Tryz.underlying98];cases h1:(t.toList==t'.toList);· go_simp
 ·
  cases h2:(q==q');· go_simp
  · go_simp
theorem zcf (t:ByteArray) (q:Int) (w:World):(binOp .neq 98 (.agg #[.string t,.int .i64 q]) (.agg #[.string t,.int .i64 q])).run Tryz.prog w = .ok (.bool false) w:=by rw [ze4];simp
theorem zeh (a b:Option Addr) (l c c':Nat) (L:List Value) (w:World) (h:CL kA w a l c L) (h':CL kA w b l c' L) (hb:Kd.ok kA L) (hl:l<=2000000) :
 Calls Tryz.prog 119 #[.slice a l c,.slice b l c'] w fun e w'=>e = .returned (.bool true)/\Below w.heap.size w w':=by
 have hcap:=h.1;have hcap':=h'.1;have CA:Hid (∀ i,i<l->∃ p off p' off' s x,a=some ⟨p,off,none⟩/\b=some ⟨p',off',none⟩/\w.cell? ⟨p,off+i*2,none⟩=some (.string s)/\w.cell? ⟨p,off+i*2+1,none⟩=some (.int .i64 x)/\w.cell? ⟨p',off'+i*2,none⟩=some (.string s)/\w.cell? ⟨p',off'+i*2+1,none⟩=some (.int .i64 x)):=fun i hi=>by
  rcases h.2.2 with q | ⟨p,off,e,hc⟩;· omega
  · rcases h'.2.2 with q | ⟨p',off',e',hc'⟩
    · omega
    · have hL:L.length=l*2:=h.2.1
      obtain ⟨s,x,h1,h2⟩:=okA_at hb (i:=i) (by omega);exact ⟨p,off,p',off',s,x,e,e',(hc (i*2) (show _<l*2 by omega)).trans h1,(hc (i*2+1) (show _<l*2 by omega)).trans h2,(hc' (i*2) (show _<l*2 by omega)).trans h1,(hc' (i*2+1) (show _<l*2 by omega)).trans h2⟩
 have B0:Hid (Below w.heap.size w w):=Below.refl _ _;have EG:Tryz.prog.eqGuardType Tryz.prog.depth 98=false:=by kernel_rfl
 clear h h' hb;go_enter Tryz.func119,Tryz.ntmps119;go_wp2;go_loopg [5,6,7] l (fun gg s5 s6 s7 wx=>∃ j:Nat,s5 = .int .i64 j/\j+gg=l/\Hid (Below w.heap.size w wx));case atStart=>exact ⟨0,rfl,by omega,B0⟩
 case round =>
  obtain ⟨k,rfl,hk,B1⟩:=hrel;by_cases hlt:k<l
  · obtain ⟨p,off,p',off',s,x,rfl,rfl,q1,q2,q3,q4⟩:=CA.out k hlt
    have hk':(k:Int)<l:=by omega
    have c1:=cell_later B1.out q1;have c2:=cell_later B1.out q2;have c3:=cell_later B1.out q3;have c4:=cell_later B1.out q4;clear q1 q2 q3 q4;have EQ:=zcf s x;have BX:Below wr.heap.size wr (wr.alloc (.cells #[.string s,.int .i64 x] 98)):=(Below.refl _ _).alloc (Nat.le_refl _) _;have c5:=cell_later BX c3;have c6:=cell_later BX c4;clear BX;go_upto_region 8 with fail;clear c1 c2 c3 c4 c5 c6;obtain ⟨Y,hY⟩:∃ Y,Y=(wr.alloc (.cells #[.string s,.int .i64 x] 98)).alloc (.cells #[.string s,.int .i64 x] 98):=⟨_,rfl⟩;have BY:Hid (Below w.heap.size w Y):=by show Below _ _ _;rw [hY];exact (B1.out.alloc B1.out.size _).alloc (by have:=B1.out.size;rw [World.size_alloc];omega) _
    have g0:Y.heap[wr.heap.size]?=some (.cells #[.string s,.int .i64 x] 98):=by rw [hY];exact (Below.heap_alloc _ _ _ (by rw [World.size_alloc];omega)).trans (heap_alloc_new wr _)
    have g1:Y.heap[wr.heap.size+1]?=some (.cells #[.string s,.int .i64 x] 98):=by rw [hY];have:=heap_alloc_new (wr.alloc (.cells #[.string s,.int .i64 x] 98)) (.cells #[.string s,.int .i64 x] 98);rw [World.size_alloc] at this;exact this
    have d1:Y.cell? ⟨wr.heap.size,0,none⟩=some (.string s):=by simp [World.cell?,g0]
    have d2:Y.cell? ⟨wr.heap.size,1,none⟩=some (.int .i64 x):=by simp [World.cell?,g0]
    have d3:Y.cell? ⟨wr.heap.size+1,0,none⟩=some (.string s):=by simp [World.cell?,g1]
    have d4:Y.cell? ⟨wr.heap.size+1,1,none⟩=some (.int .i64 x):=by simp [World.cell?,g1]
    clear g0 g1;rw [<-hY];clear hY;have hwk:IntKind.i64.wrap ((k:Int)+1)=((k+1:Nat):Int):=by rw [IntKind.wrap_i64];omega
    obtain ⟨gg,hgg⟩:∃ gg,gk=gg+1:=⟨gk-1,by omega⟩;go_wp2;go_roundg gg;case measure=>omega
    case rel=>exact ⟨k+1,by simp,by omega,BY⟩
  · have hk':¬ (k:Int)<l:=by omega
    go_wp2;go_ret;exact ⟨rfl,B1.out⟩
theorem set2 {M L:List Value} {i:Nat} (hm:M.length=i*2) (hl:(i+1)*2<=L.length) (u v:Value):((M++L.drop (i*2)).set (i*2) u).set (i*2+1) v=(M++[u,v])++L.drop ((i+1)*2):=by
 have e:L.drop (i*2)=L[i*2]'(by omega)::L[i*2+1]'(by omega)::L.drop ((i+1)*2):=by rw [List.drop_eq_getElem_cons (by omega:i*2<L.length),List.drop_eq_getElem_cons (by omega:i*2+1<L.length),show (i+1)*2=i*2+1+1 by omega]
 rw [e,List.set_append_right _ _ (by omega),hm,Nat.sub_self,List.set_cons_zero,List.set_append_right _ _ (by omega),hm,Nat.add_sub_cancel_left,List.set_cons_succ,List.set_cons_zero,List.append_assoc];rfl
theorem okA_snoc {M:List Value} (h:okA M) (x:ByteArray) (y:Int):okA (M++[.string x,.int .i64 y]):=zeg h ⟨[(x,y)],rfl⟩
set_option maxHeartbeats 400000
def Rest (cs:Array Value):Prop:=∀ k,(k=3\/5<=k/\k<=16)->∀ i,i<=7->cs[4+9*k+i]?=some (.slice none 0 0)
theorem zaI {w:World} {bb i j:Nat} {cs:Array Value} {v u:Value} (h:BkAt w bb cs) (hi:cs[i]?=some v) (hj:cs[j]?=some u):BkAt ((w.setCell ⟨bb,i,none⟩ v).setCell ⟨bb,j,none⟩ u) bb cs/\Below w.heap.size w ((w.setCell ⟨bb,i,none⟩ v).setCell ⟨bb,j,none⟩ u):=by
 have h2:=(h.same hi).same hj;refine ⟨h2,rfl,rfl,rfl,by simp [World.setCell],fun k hk=>?_⟩;by_cases e:k=bb;· subst e;exact h2.trans h.symm
 · rw [Below.heap_setCell _ _ _ _ e,Below.heap_setCell _ _ _ _ e]
theorem markN3 (bb:Nat) (cs:Array Value) (w:World) (hB:BkAt w bb cs) (hr:Rest cs):Calls Tryz.prog 172 #[.pointer (some ⟨bb,0,none⟩)] w fun e w'=>e = .returned (.tuple #[])/\w'=w:=by have x2:w.cell? ⟨bb,33,none⟩=some (.slice none 0 0):=(za1 hB (hr 3 (by decide) 2 (by decide))).1;have x3:w.cell? ⟨bb,34,none⟩=some (.slice none 0 0):=(za1 hB (hr 3 (by decide) 3 (by decide))).1;have x5:w.cell? ⟨bb,36,none⟩=some (.slice none 0 0):=(za1 hB (hr 3 (by decide) 5 (by decide))).1;have x6:w.cell? ⟨bb,37,none⟩=some (.slice none 0 0):=(za1 hB (hr 3 (by decide) 6 (by decide))).1;clear hB hr;go_enter Tryz.func172,Tryz.ntmps172;go_wp2;exact bodyPost_ret (results_none rfl _ _ _) rfl ⟨rfl,rfl⟩
theorem growN3 (bb:Nat) (cs:Array Value) (w:World) (hB:BkAt w bb cs) (hr:Rest cs):Calls Tryz.prog 189 #[.pointer (some ⟨bb,0,none⟩)] w fun e w'=>e = .returned (.tuple #[])/\BkAt w' bb cs/\Below w.heap.size w w':=by
 have r4:cs[35]?=some (.slice none 0 0):=hr 3 (by decide) 4 (by decide);have r7:cs[38]?=some (.slice none 0 0):=hr 3 (by decide) 7 (by decide);obtain ⟨x4,y4⟩:=za1 hB r4;obtain ⟨x7,y7⟩:=za1 hB r7;have HB:Hid (BkAt w bb cs/\cs[35]?=some (.slice none 0 0)/\cs[38]?=some (.slice none 0 0)):=⟨hB,r4,r7⟩;clear hB hr r4 r7;go_enter Tryz.func189,Tryz.ntmps189;go_wp2;go_loop [2] (fun i=>i = .int .i64 0) (fun _=>0);case atStart=>rfl
 case round => subst hrel;go_wp2;go_end0;exact ⟨rfl,zaI HB.out.1 HB.out.2.1 HB.out.2.2⟩
theorem holdN3 (bb:Nat) (cs:Array Value) (w:World) (hB:BkAt w bb cs) (hr:Rest cs):Calls Tryz.prog 59 #[.pointer (some ⟨bb,0,none⟩)] w fun e w'=>e = .returned (.bool true)/\w'=w:=by
 have x0:w.cell? ⟨bb,31,none⟩=some (.slice none 0 0):=(za1 hB (hr 3 (by decide) 0 (by decide))).1;have x2:w.cell? ⟨bb,33,none⟩=some (.slice none 0 0):=(za1 hB (hr 3 (by decide) 2 (by decide))).1;clear hB hr;go_enter Tryz.func59,Tryz.ntmps59;go_wp2;go_loop [3] (fun i=>i = .int .i64 0) (fun _=>0);case atStart=>rfl
 case round =>
  subst hrel;go_wp2;go_loop [4] (fun i=>i = .int .i64 0) (fun _=>0);case atStart=>rfl
  case round => subst hrel;go_wp2;go_ret;exact ⟨rfl,rfl⟩
theorem markN5 (bb:Nat) (cs:Array Value) (w:World) (hB:BkAt w bb cs) (hr:Rest cs):Calls Tryz.prog 174 #[.pointer (some ⟨bb,0,none⟩)] w fun e w'=>e = .returned (.tuple #[])/\w'=w:=by have x2:w.cell? ⟨bb,51,none⟩=some (.slice none 0 0):=(za1 hB (hr 5 (by decide) 2 (by decide))).1;have x3:w.cell? ⟨bb,52,none⟩=some (.slice none 0 0):=(za1 hB (hr 5 (by decide) 3 (by decide))).1;have x5:w.cell? ⟨bb,54,none⟩=some (.slice none 0 0):=(za1 hB (hr 5 (by decide) 5 (by decide))).1;have x6:w.cell? ⟨bb,55,none⟩=some (.slice none 0 0):=(za1 hB (hr 5 (by decide) 6 (by decide))).1;clear hB hr;go_enter Tryz.func174,Tryz.ntmps174;go_wp2;exact bodyPost_ret (results_none rfl _ _ _) rfl ⟨rfl,rfl⟩
theorem growN5 (bb:Nat) (cs:Array Value) (w:World) (hB:BkAt w bb cs) (hr:Rest cs):Calls Tryz.prog 191 #[.pointer (some ⟨bb,0,none⟩)] w fun e w'=>e = .returned (.tuple #[])/\BkAt w' bb cs/\Below w.heap.size w w':=by
 have r4:cs[53]?=some (.slice none 0 0):=hr 5 (by decide) 4 (by decide);have r7:cs[56]?=some (.slice none 0 0):=hr 5 (by decide) 7 (by decide);obtain ⟨x4,y4⟩:=za1 hB r4;obtain ⟨x7,y7⟩:=za1 hB r7;have HB:Hid (BkAt w bb cs/\cs[53]?=some (.slice none 0 0)/\cs[56]?=some (.slice none 0 0)):=⟨hB,r4,r7⟩;clear hB hr r4 r7;go_enter Tryz.func191,Tryz.ntmps191;go_wp2;go_loop [2] (fun i=>i = .int .i64 0) (fun _=>0);case atStart=>rfl
 case round => subst hrel;go_wp2;go_end0;exact ⟨rfl,zaI HB.out.1 HB.out.2.1 HB.out.2.2⟩
theorem holdN5 (bb:Nat) (cs:Array Value) (w:World) (hB:BkAt w bb cs) (hr:Rest cs):Calls Tryz.prog 61 #[.pointer (some ⟨bb,0,none⟩)] w fun e w'=>e = .returned (.bool true)/\w'=w:=by
 have x0:w.cell? ⟨bb,49,none⟩=some (.slice none 0 0):=(za1 hB (hr 5 (by decide) 0 (by decide))).1;have x2:w.cell? ⟨bb,51,none⟩=some (.slice none 0 0):=(za1 hB (hr 5 (by decide) 2 (by decide))).1;clear hB hr;go_enter Tryz.func61,Tryz.ntmps61;go_wp2;go_loop [3] (fun i=>i = .int .i64 0) (fun _=>0);case atStart=>rfl
 case round =>
  subst hrel;go_wp2;go_loop [4] (fun i=>i = .int .i64 0) (fun _=>0);case atStart=>rfl
  case round => subst hrel;go_wp2;go_ret;exact ⟨rfl,rfl⟩
theorem markN6 (bb:Nat) (cs:Array Value) (w:World) (hB:BkAt w bb cs) (hr:Rest cs):Calls Tryz.prog 175 #[.pointer (some ⟨bb,0,none⟩)] w fun e w'=>e = .returned (.tuple #[])/\w'=w:=by have x2:w.cell? ⟨bb,60,none⟩=some (.slice none 0 0):=(za1 hB (hr 6 (by decide) 2 (by decide))).1;have x3:w.cell? ⟨bb,61,none⟩=some (.slice none 0 0):=(za1 hB (hr 6 (by decide) 3 (by decide))).1;have x5:w.cell? ⟨bb,63,none⟩=some (.slice none 0 0):=(za1 hB (hr 6 (by decide) 5 (by decide))).1;have x6:w.cell? ⟨bb,64,none⟩=some (.slice none 0 0):=(za1 hB (hr 6 (by decide) 6 (by decide))).1;clear hB hr;go_enter Tryz.func175,Tryz.ntmps175;go_wp2;exact bodyPost_ret (results_none rfl _ _ _) rfl ⟨rfl,rfl⟩
theorem growN6 (bb:Nat) (cs:Array Value) (w:World) (hB:BkAt w bb cs) (hr:Rest cs):Calls Tryz.prog 192 #[.pointer (some ⟨bb,0,none⟩)] w fun e w'=>e = .returned (.tuple #[])/\BkAt w' bb cs/\Below w.heap.size w w':=by
 have r4:cs[62]?=some (.slice none 0 0):=hr 6 (by decide) 4 (by decide);have r7:cs[65]?=some (.slice none 0 0):=hr 6 (by decide) 7 (by decide);obtain ⟨x4,y4⟩:=za1 hB r4;obtain ⟨x7,y7⟩:=za1 hB r7;have HB:Hid (BkAt w bb cs/\cs[62]?=some (.slice none 0 0)/\cs[65]?=some (.slice none 0 0)):=⟨hB,r4,r7⟩;clear hB hr r4 r7;go_enter Tryz.func192,Tryz.ntmps192;go_wp2;go_loop [2] (fun i=>i = .int .i64 0) (fun _=>0);case atStart=>rfl
 case round => subst hrel;go_wp2;go_end0;exact ⟨rfl,zaI HB.out.1 HB.out.2.1 HB.out.2.2⟩
theorem holdN6 (bb:Nat) (cs:Array Value) (w:World) (hB:BkAt w bb cs) (hr:Rest cs):Calls Tryz.prog 62 #[.pointer (some ⟨bb,0,none⟩)] w fun e w'=>e = .returned (.bool true)/\w'=w:=by
 have x0:w.cell? ⟨bb,58,none⟩=some (.slice none 0 0):=(za1 hB (hr 6 (by decide) 0 (by decide))).1;have x2:w.cell? ⟨bb,60,none⟩=some (.slice none 0 0):=(za1 hB (hr 6 (by decide) 2 (by decide))).1;clear hB hr;go_enter Tryz.func62,Tryz.ntmps62;go_wp2;go_loop [3] (fun i=>i = .int .i64 0) (fun _=>0);case atStart=>rfl
 case round =>
  subst hrel;go_wp2;go_loop [4] (fun i=>i = .int .i64 0) (fun _=>0);case atStart=>rfl
  case round => subst hrel;go_wp2;go_ret;exact ⟨rfl,rfl⟩
theorem markN7 (bb:Nat) (cs:Array Value) (w:World) (hB:BkAt w bb cs) (hr:Rest cs):Calls Tryz.prog 176 #[.pointer (some ⟨bb,0,none⟩)] w fun e w'=>e = .returned (.tuple #[])/\w'=w:=by have x2:w.cell? ⟨bb,69,none⟩=some (.slice none 0 0):=(za1 hB (hr 7 (by decide) 2 (by decide))).1;have x3:w.cell? ⟨bb,70,none⟩=some (.slice none 0 0):=(za1 hB (hr 7 (by decide) 3 (by decide))).1;have x5:w.cell? ⟨bb,72,none⟩=some (.slice none 0 0):=(za1 hB (hr 7 (by decide) 5 (by decide))).1;have x6:w.cell? ⟨bb,73,none⟩=some (.slice none 0 0):=(za1 hB (hr 7 (by decide) 6 (by decide))).1;clear hB hr;go_enter Tryz.func176,Tryz.ntmps176;go_wp2;exact bodyPost_ret (results_none rfl _ _ _) rfl ⟨rfl,rfl⟩
theorem growN7 (bb:Nat) (cs:Array Value) (w:World) (hB:BkAt w bb cs) (hr:Rest cs):Calls Tryz.prog 193 #[.pointer (some ⟨bb,0,none⟩)] w fun e w'=>e = .returned (.tuple #[])/\BkAt w' bb cs/\Below w.heap.size w w':=by
 have r4:cs[71]?=some (.slice none 0 0):=hr 7 (by decide) 4 (by decide);have r7:cs[74]?=some (.slice none 0 0):=hr 7 (by decide) 7 (by decide);obtain ⟨x4,y4⟩:=za1 hB r4;obtain ⟨x7,y7⟩:=za1 hB r7;have HB:Hid (BkAt w bb cs/\cs[71]?=some (.slice none 0 0)/\cs[74]?=some (.slice none 0 0)):=⟨hB,r4,r7⟩;clear hB hr r4 r7;go_enter Tryz.func193,Tryz.ntmps193;go_wp2;go_loop [2] (fun i=>i = .int .i64 0) (fun _=>0);case atStart=>rfl
 case round => subst hrel;go_wp2;go_end0;exact ⟨rfl,zaI HB.out.1 HB.out.2.1 HB.out.2.2⟩
theorem holdN7 (bb:Nat) (cs:Array Value) (w:World) (hB:BkAt w bb cs) (hr:Rest cs):Calls Tryz.prog 63 #[.pointer (some ⟨bb,0,none⟩)] w fun e w'=>e = .returned (.bool true)/\w'=w:=by
 have x0:w.cell? ⟨bb,67,none⟩=some (.slice none 0 0):=(za1 hB (hr 7 (by decide) 0 (by decide))).1;have x2:w.cell? ⟨bb,69,none⟩=some (.slice none 0 0):=(za1 hB (hr 7 (by decide) 2 (by decide))).1;clear hB hr;go_enter Tryz.func63,Tryz.ntmps63;go_wp2;go_loop [3] (fun i=>i = .int .i64 0) (fun _=>0);case atStart=>rfl
 case round =>
  subst hrel;go_wp2;go_loop [4] (fun i=>i = .int .i64 0) (fun _=>0);case atStart=>rfl
  case round => subst hrel;go_wp2;go_ret;exact ⟨rfl,rfl⟩
theorem markN8 (bb:Nat) (cs:Array Value) (w:World) (hB:BkAt w bb cs) (hr:Rest cs):Calls Tryz.prog 177 #[.pointer (some ⟨bb,0,none⟩)] w fun e w'=>e = .returned (.tuple #[])/\w'=w:=by have x2:w.cell? ⟨bb,78,none⟩=some (.slice none 0 0):=(za1 hB (hr 8 (by decide) 2 (by decide))).1;have x3:w.cell? ⟨bb,79,none⟩=some (.slice none 0 0):=(za1 hB (hr 8 (by decide) 3 (by decide))).1;have x5:w.cell? ⟨bb,81,none⟩=some (.slice none 0 0):=(za1 hB (hr 8 (by decide) 5 (by decide))).1;have x6:w.cell? ⟨bb,82,none⟩=some (.slice none 0 0):=(za1 hB (hr 8 (by decide) 6 (by decide))).1;clear hB hr;go_enter Tryz.func177,Tryz.ntmps177;go_wp2;exact bodyPost_ret (results_none rfl _ _ _) rfl ⟨rfl,rfl⟩
theorem growN8 (bb:Nat) (cs:Array Value) (w:World) (hB:BkAt w bb cs) (hr:Rest cs):Calls Tryz.prog 194 #[.pointer (some ⟨bb,0,none⟩)] w fun e w'=>e = .returned (.tuple #[])/\BkAt w' bb cs/\Below w.heap.size w w':=by
 have r4:cs[80]?=some (.slice none 0 0):=hr 8 (by decide) 4 (by decide);have r7:cs[83]?=some (.slice none 0 0):=hr 8 (by decide) 7 (by decide);obtain ⟨x4,y4⟩:=za1 hB r4;obtain ⟨x7,y7⟩:=za1 hB r7;have HB:Hid (BkAt w bb cs/\cs[80]?=some (.slice none 0 0)/\cs[83]?=some (.slice none 0 0)):=⟨hB,r4,r7⟩;clear hB hr r4 r7;go_enter Tryz.func194,Tryz.ntmps194;go_wp2;go_loop [2] (fun i=>i = .int .i64 0) (fun _=>0);case atStart=>rfl
 case round => subst hrel;go_wp2;go_end0;exact ⟨rfl,zaI HB.out.1 HB.out.2.1 HB.out.2.2⟩
theorem holdN8 (bb:Nat) (cs:Array Value) (w:World) (hB:BkAt w bb cs) (hr:Rest cs):Calls Tryz.prog 64 #[.pointer (some ⟨bb,0,none⟩)] w fun e w'=>e = .returned (.bool true)/\w'=w:=by
 have x0:w.cell? ⟨bb,76,none⟩=some (.slice none 0 0):=(za1 hB (hr 8 (by decide) 0 (by decide))).1;have x2:w.cell? ⟨bb,78,none⟩=some (.slice none 0 0):=(za1 hB (hr 8 (by decide) 2 (by decide))).1;clear hB hr;go_enter Tryz.func64,Tryz.ntmps64;go_wp2;go_loop [3] (fun i=>i = .int .i64 0) (fun _=>0);case atStart=>rfl
 case round =>
  subst hrel;go_wp2;go_loop [4] (fun i=>i = .int .i64 0) (fun _=>0);case atStart=>rfl
  case round => subst hrel;go_wp2;go_ret;exact ⟨rfl,rfl⟩
end Go.Proofs.YtceigllifjgalaaGreatDoor.Bk
