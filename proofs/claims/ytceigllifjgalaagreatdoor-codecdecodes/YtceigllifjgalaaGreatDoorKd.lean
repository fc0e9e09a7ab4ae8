import Derived.Test.YtceigllifjgalaaGreatDoorChk
import Derived.Deep.Onto
import Derived.Deep.RegionLaw
import Derived.BigQuiet
import Derived.Deep.Cut
namespace Go.Proofs.YtceigllifjgalaaGreatDoor
open Go Go.RowKit
set_option linter.unusedSimpArgs false
set_option linter.unusedVariables false
set_option maxRecDepth 100000
set_option maxHeartbeats 1000000
section
variable {w w':World} {g n rb:Nat} {z:Nat->Int}
theorem hmf (fn:Fn) (first cap:Array Value) (w:World):(Instr.makeFunc fn first cap).run Tryz.prog w = .ok (.func fn first cap) w:=rfl
def Own (w:World) (g n:Nat) (z:Nat->Int):Prop:=(∀ i,0<=z i/\z i<=255)/\∀ i,i<n->w.cell? ⟨g,i,none⟩=some (.int .u8 (z i))
theorem Own.grown (h:Own w g n z) (hg:w.grownBy w' (some rb)) (hne:g≠rb):Own w' g n z:=⟨h.1,fun i hi=>hg.cell (h.2 i hi) (by simpa using hne)⟩
theorem Own.below (h:Own w g n z) (hb:Below w.heap.size w w'):Own w' g n z:=⟨h.1,fun i hi=>cell_later hb (h.2 i hi)⟩
theorem RdAt.grown {rb':Nat} {bv:Value} {at0 p0 q0:Int} (h:RdAt w rb bv at0 p0 q0) (hg:w.grownBy w' (some rb')) (hne:rb≠rb'):RdAt w' rb bv at0 p0 q0:=(hg.block rb (lt_of_block h) (by simpa using hne)).trans h
theorem zad {r:Option Nat} (h:Below w.heap.size w w'):w.grownBy w' r:=⟨h.os,h.tape,h.output,h.size,fun k hk _=>h.block k hk⟩
theorem za2 {w1:World} {v:Value} {t:TypeId} (hlt:rb<w.heap.size) (h:(w.alloc (.cells #[v] t)).grownBy w1 (some rb)):w1.cell? ⟨w.heap.size,0,none⟩=some v := h.cell (a:=⟨w.heap.size,0,none⟩) (by rw [World.cell?_alloc_at _ _ _ _ rfl];rfl) (by simp;omega)
theorem text_ok (rb g n cp at0 L:Nat) (p0:Int) (z:Nat->Int) (w:World) (hR:RdAt w rb (.slice (some ⟨g,0,none⟩) n cp) at0 p0 0) (hO:Own w g n z) (h2:n<=cp) (h3:n<=1000000) (hgr:g≠rb)
 (hL:z at0*256+z (at0+1)=L) (hn:at0+2+L<=n) (hc:(chk (strZ (fun i=>z (at0+2+i)) L)).2=0) : Calls Tryz.prog 289 #[.pointer (some ⟨rb,0,none⟩)] w fun e w'=>e = .returned (.string (strZ (fun i=>z (at0+2+i)) L))/\RdAt w' rb (.slice (some ⟨g,0,none⟩) n cp) ((at0+2+L:Nat):Int) p0 0/\w.grownBy w' (some rb):=by
 have hlt:rb<w.heap.size:=lt_of_block hR;have W0:Hid (RdAt (w.alloc (.cells #[.pointer (some ⟨rb,0,none⟩)] 241)) rb (.slice (some ⟨g,0,none⟩) n cp) at0 p0 0):=hR.kept ((Below.refl _ _).alloc (Nat.le_refl _) _);have O0:Hid (Own (w.alloc (.cells #[.pointer (some ⟨rb,0,none⟩)] 241)) g n z):=hO.below ((Below.refl _ _).alloc (Nat.le_refl _) _);obtain ⟨_,c0,c1,c2,c3,f1,f2,f3⟩:=hR.facts;have N0:Hid (Calls Tryz.prog 295 #[.pointer (some ⟨rb,0,none⟩),.int .i64 2] (w.alloc (.cells #[.pointer (some ⟨rb,0,none⟩)] 241)) fun e w'=>e = .returned (.int .i64 L)/\RdAt w' rb (.slice (some ⟨g,0,none⟩) n cp) ((at0+2:Nat):Int) p0 0/\(w.alloc (.cells #[.pointer (some ⟨rb,0,none⟩)] 241)).grownBy w' (some rb)):=by have h:=zce rb g n cp at0 p0 (z at0) (z (at0+1)) _ W0.out h2 h3 (by omega) hgr (hO.1 _) (hO.1 _) (O0.out.2 _ (by omega)) (O0.out.2 _ (by omega));rw [hL] at h;exact h
 have hmf:=hmf;clear hR hO hL;go_enter_defers Tryz.func289,Tryz.ntmps289;go_wp2_with (go_at_call 295;refine N0.out.mono ?_;rintro e w1 ⟨rfl,hR1,hg1⟩;have bx1:=za2 hlt hg1;have at1:=hR1.facts.2.2.1;have X1:Hid (RdAt w1 rb (.slice (some ⟨g,0,none⟩) n cp) ((at0+2:Nat):Int) p0 0/\(w.alloc (.cells #[.pointer (some ⟨rb,0,none⟩)] 241)).grownBy w1 (some rb)):=⟨hR1,hg1⟩;clear hR1 hg1);go_must (go_at_call 259);have T1:=zcj rb g n cp (at0+2) L p0 w1 X1.out.1 h2 h3 hn;refine T1.mono ?_;clear T1;rintro e w2 ⟨⟨ad,rfl,had⟩,hR2,hg2⟩;have hg02:=za4 X1.out.2 hg2;have bx2:=za2 hlt hg02;have cv:(convert 22 9 (.slice (some ad) L (cp-(at0+2)))).run Tryz.prog w2 = .ok (.string (strZ (fun i=>z (at0+2+i)) L)) w2:=by refine zb3 (some ad) L (cp-(at0+2)) _ w2 ⟨by omega,fun i=>O0.out.1 _,.inr ⟨ad,rfl,fun i hi=>?_⟩⟩;obtain rfl:=had (by omega);rw [za9];exact (O0.out.grown hg02 hgr).2 _ (by omega)
 clear had;have X2:Hid (RdAt w2 rb (.slice (some ⟨g,0,none⟩) n cp) ((at0+2+L:Nat):Int) p0 0/\(w.alloc (.cells #[.pointer (some ⟨rb,0,none⟩)] 241)).grownBy w2 (some rb)):=⟨hR2,hg02⟩;clear hR2 hg2 hg02 bx1 at1;obtain ⟨s,hs⟩:∃ s,strZ (fun i=>z (at0+2+i)) L=s:=⟨_,rfl⟩;rw [hs] at hc cv;have HS:=Hi hs;clear hs;obtain ⟨c,q,hcq⟩:∃ c q,chk s=(c,q):=⟨_,_,rfl⟩;have C0:Hid (Calls Tryz.prog 272 #[.string s] w2 fun e w'=>e = .returned (.tuple #[.int .i64 c,.int .i64 0])/\Below w2.heap.size w2 w'):=by refine (zcI s w2).mono ?_;rw [hcq] at hc ⊢;have hq:q=0:=hc;subst hq;rintro e w' ⟨rfl,hb,_⟩;exact ⟨rfl,hb⟩
 clear hc hcq;go_wp2_with (go_at_call 272;refine C0.out.mono ?_;rintro e w3 ⟨rfl,hb3⟩);have bx3:=cell_later hb3 bx2;have X3:Hid (RdAt w3 rb (.slice (some ⟨g,0,none⟩) n cp) ((at0+2+L:Nat):Int) p0 0/\w.grownBy w3 (some rb)):=⟨X2.out.1.kept hb3,za4 (za4 (zaj (zah _ _) _) X2.out.2) (zad hb3)⟩;refine leaves_cons (f:=312) (args:=#[.int .i64 at0,.pointer (some ⟨w.heap.size,0,none⟩)]) (by simp) (by simp [go_sem]) ?_;refine (clo41_idle rb _ at0 _ bx3).mono ?_;rintro e u' w4 ⟨rfl,rfl,hb4⟩;rw [HS.out];simp [Leaves,settle,results,Tryz.results289,go_sem];exact ⟨X3.out.1.kept hb4,za4 X3.out.2 (zad hb4)⟩
end
theorem at_any (rb:Nat) (bv:Value) (at0 p0 q0:Int) (w:World) (hR:RdAt w rb bv at0 p0 q0) :
 Calls Tryz.prog 288 #[.pointer (some ⟨rb,0,none⟩)] w fun e w'=>e = .returned (.int .i64 at0)/\w'=w:=by
 obtain ⟨hlt,c0,c1,c2,c3,f1,f2,f3⟩:=hR.facts;clear hR;go_enter Tryz.func288,Tryz.ntmps288;go_wp2;go_ret;exact ⟨rfl,rfl⟩
theorem zdA (rb:Nat) (bv:Value) (at0 p0:Int) (w:World) (hR:RdAt w rb bv at0 p0 0) :
 Calls Tryz.prog 268 #[.pointer (some ⟨rb,0,none⟩)] w fun e w'=>e = .returned .nilIface/\w'=w:=by
 obtain ⟨hlt,c0,c1,c2,c3,f1,f2,f3⟩:=hR.facts;clear hR;go_enter Tryz.func268,Tryz.ntmps268;go_wp2;go_ret;exact ⟨rfl,rfl⟩
theorem zdE (rb:Nat) (bv:Value) (at0 p0 q0:Int) (w:World) (hR:RdAt w rb bv at0 p0 q0) (hq:¬ q0=0) :
 Calls Tryz.prog 268 #[.pointer (some ⟨rb,0,none⟩)] w fun e w'=>e = .returned (.iface 200 (.pointer (some ⟨w.heap.size,0,none⟩)))/\w'=(w.alloc (.cells #[.int .i64 p0,.int .i64 q0] 134)).drew:=by
 obtain ⟨hlt,c0,c1,c2,c3,f1,f2,f3⟩:=hR.facts;clear hR;have hq':(q0==0)=false:=by simpa using hq
 clear hq;go_enter Tryz.func268,Tryz.ntmps268;go_wp2;go_region;all_goals (try go_wp2)
 all_goals go_ret
 all_goals exact ⟨rfl,rfl⟩
theorem zdD (rb g n cp at0:Nat) (p0:Int) (w:World) (hR:RdAt w rb (.slice (some ⟨g,0,none⟩) n cp) at0 p0 0) (h1:at0<n) (h2:n<=cp) (h3:n<=1000000) :
 Calls Tryz.prog 267 #[.pointer (some ⟨rb,0,none⟩)] w fun e w'=>e = .returned (.tuple #[])/\RdAt w' rb (.slice (some ⟨g,0,none⟩) n cp) at0 at0 15/\w.grownBy w' (some rb):=by
 have hlt:rb<w.heap.size:=lt_of_block hR;have W0:Hid (RdAt (w.alloc (.cells #[.pointer (some ⟨rb,0,none⟩)] 241)) rb (.slice (some ⟨g,0,none⟩) n cp) at0 p0 0):=hR.kept ((Below.refl _ _).alloc (Nat.le_refl _) _);obtain ⟨_,c0,c1,c2,c3,f1,f2,f3⟩:=hR.facts;have L0:Hid (Calls Tryz.prog 286 #[.pointer (some ⟨rb,0,none⟩)] (w.alloc (.cells #[.pointer (some ⟨rb,0,none⟩)] 241)) fun e w'=>(∃ ad,e = .returned (.slice (some ad) (n-at0) (cp-at0))/\(at0<cp->ad=⟨g,at0,none⟩))/\w'=(w.alloc (.cells #[.pointer (some ⟨rb,0,none⟩)] 241)).drew):=zcH rb g n cp at0 p0 _ W0.out (by omega) h2 h3;have hx:(0:Int)<((n-at0:Nat):Int):=by omega
 have hmf:=hmf;clear hR;go_enter_defers Tryz.func267,Tryz.ntmps267;go_wp2_with (first | (go_at_call 286;refine L0.out.mono ?_;rintro e w' ⟨⟨ad,rfl,_⟩,rfl⟩)|(go_at_call 287;refine (zcA _ _ _).mono ?_;rintro e w' ⟨rfl,rfl⟩));refine leaves_cons (f:=296) (args:=#[.int .i64 at0,.pointer (some ⟨w.heap.size,0,none⟩)]) (by simp) (by simp [go_sem]) ?_;refine (clo43_hit rb _ (.slice (some ⟨g,0,none⟩) n cp) at0 p0 0 at0 at0 15 [] _ ?_ ?_).mono ?_;· exact W0.out
 · simp [go_sem]
 rintro e u' w4 ⟨rfl,rfl,hR4,hg4⟩;simp [Leaves,settle,results,Tryz.results267,go_sem];exact ⟨hR4,za4 (zbd (zaj (zah _ _) _)) hg4⟩
def Made (w w':World) (e:Ending) (n:Nat) (xs:List Value):Prop := ∃ g cp,e = .returned (.slice (some ⟨g,0,none⟩) n cp)/\w'.ownsRow w.heap.size 5 1 (.slice (some ⟨g,0,none⟩) n cp) n xs/\Below w.heap.size w w'
theorem zbZ {w w':World} {g n cp:Nat} {z:Nat->Int} {base:Nat} (ho:w'.ownsRow base 5 1 (.slice (some ⟨g,0,none⟩) n cp) n (cellsOf z n)) (hz:∀ i,0<=z i/\z i<=255):Came w' (some ⟨g,0,none⟩) n cp z:=by
 refine ⟨?_,hz,.inr ⟨_,rfl,fun i hi=>?_⟩⟩;·
  obtain ⟨_,h | ⟨g',cp',cur,hv,_,_,hc,_⟩⟩:=ho;· cases h.1
  · cases hv
    exact hc
 · rw [za9,Nat.zero_add,ho.cellAt i (by omega)]
   exact zba z n i hi
end Go.Proofs.YtceigllifjgalaaGreatDoor
namespace Go.Proofs.YtceigllifjgalaaGreatDoor.Bk
open Go Go.RowKit
set_option linter.unusedSimpArgs false
set_option linter.unusedVariables false
theorem zag {w:World} {R i t:Nat} {cs:Array Value} (h:w.heap[R]?=some (.cells cs t (0,0))) (v:Value):(w.setCell ⟨R,i,none⟩ v).heap[R]?=some (.cells (cs.setIfInBounds i v) t (0,0)):=by simp [World.setCell,Array.getElem?_modify,h]
theorem za9 (b off j:Nat):(⟨b,off,none⟩:Addr).add j=⟨b,off+j,none⟩:=by unfold Addr.add;split <;> simp_all
def BkAt (w:World) (bb:Nat) (cs:Array Value):Prop:=w.heap[bb]?=some (.cells cs 55 (0,0))
theorem za1 {w:World} {bb i:Nat} {cs:Array Value} {v:Value} (h:BkAt w bb cs) (hi:cs[i]?=some v):w.cell? ⟨bb,i,none⟩=some v/\w.frozen? ⟨bb,i,none⟩=false:=by
 unfold BkAt at h;constructor;· simp [World.cell?,h,hi]
 · simp [World.frozen?,h]
theorem zel {cs:Array Value} {i:Nat} {v:Value} (hi:cs[i]?=some v):cs.setIfInBounds i v=cs:=by
 apply Array.ext_getElem?;intro j;rw [Array.getElem?_setIfInBounds];split;·
  rename_i e;subst e;split;· exact hi.symm
  · rename_i h
    rw [Array.getElem?_eq_none (by omega)] at hi;cases hi
 · rfl
theorem BkAt.same {w:World} {bb i:Nat} {cs:Array Value} {v:Value} (h:BkAt w bb cs) (hi:cs[i]?=some v):BkAt (w.setCell ⟨bb,i,none⟩ v) bb cs:=by have q:=zag (i:=i) h v;rw [zel hi] at q;exact q
theorem BkAt.kept {w w':World} {bb:Nat} {cs:Array Value} (h:BkAt w bb cs) (hb:Below w.heap.size w w'):BkAt w' bb cs:=(hb.block bb (lt_of_block h)).trans h
structure Kd where
 c0:Nat
 tl:TypeId
 te:TypeId
 es:Nat
 ok:List Value->Prop
structure Ch (S:Nat->Prop) (w w':World):Prop where
 os:w'.os=w.os
 tape:w'.tape=w.tape
 output:w'.output=w.output
 size:w.heap.size<=w'.heap.size
 block:∀ k,k<w.heap.size->¬ S k->w'.heap[k]?=w.heap[k]?
theorem Ch.refl (S:Nat->Prop) (w:World):Ch S w w:=⟨rfl,rfl,rfl,Nat.le_refl _,fun _ _ _=>rfl⟩
theorem Ch.trans {S S':Nat->Prop} {a b c:World} (h:Ch S a b) (k:Ch S' b c) (hs:∀ j,j<a.heap.size->S' j->S j):Ch S a c := ⟨k.os.trans h.os,k.tape.trans h.tape,k.output.trans h.output,Nat.le_trans h.size k.size,fun j hj hn=>(k.block j (by have:=h.size;omega) (fun q=>hn (hs j hj q))).trans (h.block j hj hn)⟩
theorem Ch.mono {S S':Nat->Prop} {a b:World} (h:Ch S a b) (hs:∀ j,j<a.heap.size->S j->S' j):Ch S' a b:=(Ch.refl S' a).trans h hs
theorem Below.ch {S:Nat->Prop} {a b:World} (h:Below a.heap.size a b):Ch S a b:=⟨h.os,h.tape,h.output,h.size,fun k hk _=>h.block k hk⟩
theorem ch_set {w:World} (hb i:Nat) (v:Value):Ch (fun k=>k=hb) w (w.setCell ⟨hb,i,none⟩ v):=⟨rfl,rfl,rfl,by simp [World.setCell],fun k hk hn=>Below.heap_setCell _ _ _ _ hn⟩
theorem zeD {w w':World} {r:Option Nat} (h:w.grownBy w' r):Ch (fun k=>r=some k) w w':=⟨h.os,h.tape,h.output,h.size,fun k hk hn=>h.block k hk (fun e=>hn e.symm)⟩
theorem zab {w w':World} {B e s n:Nat} {v:Value} {xs:List Value} (h:w.ownsRow B e s v n xs) (hk:∀ k,v.ownBlock=some k->w'.heap[k]?=w.heap[k]?):w'.ownsRow B e s v n xs:=by
 refine ⟨h.1,?_⟩;rcases h.2 with h0 | ⟨g,cap,cur,rfl,h1,hg,h2⟩;· exact .inl h0
 · exact .inr ⟨g,cap,cur,rfl,h1,(hk g rfl).trans hg,h2⟩
def upd {α:Type} (f:Nat->α) (i:Nat) (x:α):Nat->α:=fun j=>if j=i then x else f j
theorem za8 {α:Type} (f:Nat->α) (i:Nat) (x:α):upd f i x i=x:=by simp [upd]
theorem upd_ne {α:Type} (f:Nat->α) {i j:Nat} (x:α) (h:j≠i):upd f i x j=f j:=by simp [upd,h]
def et (tl:Nat) (i:Nat):Nat:=if i<5 then tl else 3
def Off (bb:Nat) (rv:Nat->Value) (g:Nat):Prop:=g≠bb/\∀ i,i<8->(rv i).ownBlock≠some g
structure Fv (bb:Nat) (w:World) (rv:Nat->Value) (w':World) (rv':Nat->Value):Prop where
 sz:w.heap.size<=w'.heap.size
 keep:∀ g,g<w.heap.size->Off bb rv g->w'.heap[g]?=w.heap[g]?
 off:∀ g,g<w.heap.size->Off bb rv g->Off bb rv' g
theorem Fv.trans {bb:Nat} {w w1 w2:World} {rv rv1 rv2:Nat->Value} (h:Fv bb w rv w1 rv1) (k:Fv bb w1 rv1 w2 rv2):Fv bb w rv w2 rv2 := ⟨Nat.le_trans h.sz k.sz,fun g hg ho=>(k.keep g (Nat.lt_of_lt_of_le hg h.sz) (h.off g hg ho)).trans (h.keep g hg ho),fun g hg ho=>k.off g (Nat.lt_of_lt_of_le hg h.sz) (h.off g hg ho)⟩
theorem Fv.below {bb:Nat} {w w':World} {rv:Nat->Value} (h:Below w.heap.size w w'):Fv bb w rv w' rv:=⟨h.size,fun g hg _=>h.block g hg,fun _ _ q=>q⟩
theorem Fv.set {bb:Nat} {w:World} {rv:Nat->Value} (i:Nat) (v:Value):Fv bb w rv (w.setCell ⟨bb,i,none⟩ v) rv:=⟨by simp [World.setCell],fun g _ ho=>Below.heap_setCell _ _ _ _ ho.1,fun _ _ q=>q⟩
structure BR (κ:Kd) (w:World) (bb B:Nat) (cs:Array Value) (rv:Nat->Value) (xs:Nat->List Value):Prop where
 at_:BkAt w bb cs
 fld:∀ i,i<8->cs[κ.c0+i]?=some (rv i)
 own:∀ i,i<8->w.ownsRow B (et κ.tl i) 1 (rv i) (xs i).length (xs i)
 sep:∀ i j,i<8->j<8->i≠j->∀ k,(rv i).ownBlock=some k->(rv j).ownBlock≠some k
 ne:∀ i,i<8->(rv i).ownBlock≠some bb
section
variable {κ:Kd} {w w':World} {bb B:Nat} {cs:Array Value} {rv:Nat->Value} {xs:Nat->List Value}
theorem BR.keep (h:BR κ w bb B cs rv xs) (h1:w'.heap[bb]?=w.heap[bb]?) (h2:∀ i,i<8->∀ k,(rv i).ownBlock=some k->w'.heap[k]?=w.heap[k]?):BR κ w' bb B cs rv xs := ⟨h1.trans h.at_,h.fld,fun i hi=>zab (h.own i hi) (h2 i hi),h.sep,h.ne⟩
theorem BR.below (h:BR κ w bb B cs rv xs) (hb:Below w.heap.size w w'):BR κ w' bb B cs rv xs := h.keep (hb.block _ (lt_of_block h.at_)) (fun i hi k e=>hb.block _ ((h.own i hi).lt k e).2)
theorem BR.lt (h:BR κ w bb B cs rv xs) {i k:Nat} (hi:i<8) (e:(rv i).ownBlock=some k):k<w.heap.size:=((h.own i hi).lt k e).2
theorem BR.new (h:BR κ w bb B cs rv xs) {g:Nat} (hg:w.heap.size<=g):Off bb rv g := ⟨fun e=>by have:=lt_of_block h.at_;omega,fun i hi e=>by have:=h.lt hi e;omega⟩
theorem BR.cell (h:BR κ w bb B cs rv xs) (i:Nat) (hi:i<8):w.cell? ⟨bb,κ.c0+i,none⟩=some (rv i)/\w.frozen? ⟨bb,κ.c0+i,none⟩=false:=za1 h.at_ (h.fld i hi)
theorem BR.push (h:BR κ w bb B cs rv xs) (i:Nat) (hi:i<8) (x v':Value) (ho:w'.ownsRow B (et κ.tl i) 1 v' ((xs i).length+1) (xs i++[x])) (hg:w.grownBy w' (rv i).ownBlock) (hv:v'.ownBlock=(rv i).ownBlock\/v'.ownBlock=some w.heap.size) :
 BR κ (w'.setCell ⟨bb,κ.c0+i,none⟩ v') bb B (cs.setIfInBounds (κ.c0+i) v') (upd rv i v') (upd xs i (xs i++[x])):=by
 have hbb:w'.heap[bb]?=some (.cells cs 55 (0,0)):=(hg.block bb (lt_of_block h.at_) (fun e=>h.ne i hi e.symm)).trans h.at_;have hne':v'.ownBlock≠some bb:=by
  intro e;rcases hv with q | q;· exact h.ne i hi (q ▸ e)
  · rw [q] at e;cases e;have:=lt_of_block h.at_;omega
 have hcs:κ.c0+i<cs.size:=(Array.getElem?_eq_some_iff.1 (h.fld i hi)).1;have others:∀ j,j<8->j≠i->w'.ownsRow B (et κ.tl j) 1 (rv j) (xs j).length (xs j):=fun j hj hji=>zab (h.own j hj) (fun k e=>hg.block k (h.lt hj e) (fun q=>h.sep j i hj hi hji k e q.symm));refine ⟨zag (i:=κ.c0+i) hbb v',fun j hj=>?_,fun j hj=>?_,fun a b ha hb hab k ea eb=>?_,fun j hj=>?_⟩
 · by_cases e:j=i
   · subst e;rw [za8];simp [hcs]
   · rw [upd_ne _ _ e,Array.getElem?_setIfInBounds_ne (by omega)];exact h.fld j hj
 · by_cases e:j=i
   · subst e
     rw [za8,za8,List.length_append,List.length_singleton];exact ownsRow_setCell_other ho hne' _
   · rw [upd_ne _ _ e,upd_ne _ _ e]
     exact ownsRow_setCell_other (others j hj e) (h.ne j hj) _
 · by_cases e1:a=i
   · subst e1
     rw [za8] at ea;rw [upd_ne _ _ (Ne.symm hab)] at eb;rcases hv with q | q;· exact h.sep a b ha hb hab k (q ▸ ea) eb
     · rw [q] at ea;cases ea
       have:=h.lt hb eb;omega
   · rw [upd_ne _ _ e1] at ea
     by_cases e2:b=i
     · subst e2
       rw [za8] at eb;rcases hv with q | q;· exact h.sep a b ha hb hab k ea (q ▸ eb)
       · rw [q] at eb;cases eb
         have:=h.lt ha ea;omega
     · rw [upd_ne _ _ e2] at eb
       exact h.sep a b ha hb hab k ea eb
 · by_cases e:j=i
   · subst e;rw [za8];exact hne'
   · rw [upd_ne _ _ e];exact h.ne j hj
theorem BR.nil (h:BR κ w bb B cs rv xs) (i:Nat) (hi:i<8):BR κ (w.setCell ⟨bb,κ.c0+i,none⟩ (.slice none 0 0)) bb B (cs.setIfInBounds (κ.c0+i) (.slice none 0 0)) (upd rv i (.slice none 0 0)) (upd xs i []):=by
 have hcs:κ.c0+i<cs.size:=(Array.getElem?_eq_some_iff.1 (h.fld i hi)).1;refine ⟨zag (i:=κ.c0+i) h.at_ _,fun j hj=>?_,fun j hj=>?_,fun a b ha hb hab k ea eb=>?_,fun j hj=>?_⟩;·
  by_cases e:j=i;· subst e;rw [za8];simp [hcs]
  · rw [upd_ne _ _ e,Array.getElem?_setIfInBounds_ne (by omega)];exact h.fld j hj
 ·
  by_cases e:j=i
  · subst e
    rw [za8,za8];exact ⟨rfl,.inl ⟨rfl,rfl⟩⟩
  · rw [upd_ne _ _ e,upd_ne _ _ e]
    exact ownsRow_setCell_other (h.own j hj) (h.ne j hj) _
 ·
  by_cases e1:a=i;· subst e1;rw [za8] at ea;cases ea
  ·
   rw [upd_ne _ _ e1] at ea;by_cases e2:b=i;· subst e2;rw [za8] at eb;cases eb
   · rw [upd_ne _ _ e2] at eb;exact h.sep a b ha hb hab k ea eb
 ·
  by_cases e:j=i;· subst e;rw [za8];intro q;cases q
  · rw [upd_ne _ _ e];exact h.ne j hj
theorem BR.other (h:BR κ w bb B cs rv xs) (k:Nat) (hk:k<κ.c0\/κ.c0+8<=k) (v:Value):BR κ (w.setCell ⟨bb,k,none⟩ v) bb B (cs.setIfInBounds k v) rv xs := ⟨zag (i:=k) h.at_ v,fun i hi=>by rw [Array.getElem?_setIfInBounds_ne (by omega)];exact h.fld i hi,fun i hi=>ownsRow_setCell_other (h.own i hi) (h.ne i hi) _,h.sep,h.ne⟩
theorem Fv.nil (i:Nat):Fv bb w rv (w.setCell ⟨bb,κ.c0+i,none⟩ (.slice none 0 0)) (upd rv i (.slice none 0 0)) :=
 ⟨by simp [World.setCell],fun g _ ho=>Below.heap_setCell _ _ _ _ ho.1,fun g hg ho=>⟨ho.1,fun j hj=>by
  by_cases e:j=i;· subst e;rw [za8];intro q;cases q
  · rw [upd_ne _ _ e];exact ho.2 j hj⟩⟩
end
def CL (κ:Kd) (w:World) (a:Option Addr) (l c:Nat) (L:List Value):Prop := l<=c/\L.length=l*κ.es/\(l=0\/∃ g off,a=some ⟨g,off,none⟩/\∀ j,j<l*κ.es->w.cell? ⟨g,off+j,none⟩=L[j]?)
def InD (κ:Kd) (D:Nat->Nat->Prop) (a:Option Addr) (l:Nat):Prop:=∀ g off,a=some ⟨g,off,none⟩->∀ j,j<l*κ.es->D g (off+j)
def Dk (w:World) (bb:Nat) (rv:Nat->Value) (D:Nat->Nat->Prop):Prop:=∀ g j,D g j->g<w.heap.size/\Off bb rv g
def Keeps (D:Nat->Nat->Prop) (w w':World):Prop:=∀ g j,D g j->w'.cell? ⟨g,j,none⟩=w.cell? ⟨g,j,none⟩
theorem zaA {w w':World} {g k:Nat} (h:w'.heap[g]?=w.heap[g]?):w'.cell? ⟨g,k,none⟩=w.cell? ⟨g,k,none⟩:=by unfold World.cell?;simp only [h]
theorem Keeps.trans {D:Nat->Nat->Prop} {a b c:World} (h:Keeps D a b) (k:Keeps D b c):Keeps D a c:=fun g j q=>(k g j q).trans (h g j q)
theorem Dk.keeps {bb:Nat} {rv rv':Nat->Value} {D:Nat->Nat->Prop} {w w':World} (hd:Dk w bb rv D) (h:Fv bb w rv w' rv'):Keeps D w w':=fun g j q=>zaA (h.keep g (hd g j q).1 (hd g j q).2)
theorem Dk.fv {bb:Nat} {rv rv':Nat->Value} {D:Nat->Nat->Prop} {w w':World} (hd:Dk w bb rv D) (h:Fv bb w rv w' rv'):Dk w' bb rv' D:=fun g j q=>⟨Nat.lt_of_lt_of_le (hd g j q).1 h.sz,h.off g (hd g j q).1 (hd g j q).2⟩
section
variable {κ:Kd} {w w':World} {bb B:Nat} {rv rv':Nat->Value} {D D':Nat->Nat->Prop} {a b:Option Addr} {l c c' n:Nat} {L:List Value}
theorem CL.keep (h:CL κ w a l c L) (hd:InD κ D a l) (hk:Keeps D w w'):CL κ w' a l c L:=by
 refine ⟨h.1,h.2.1,?_⟩;rcases h.2.2 with h0 | ⟨g,off,e,hc⟩;· exact .inl h0
 · exact .inr ⟨g,off,e,fun j hj=>(hk g (off+j) (hd g off e j hj)).trans (hc j hj)⟩
theorem CL.block (h:CL κ w a l c L) (hk:∀ g off,a=some ⟨g,off,none⟩->w'.heap[g]?=w.heap[g]?):CL κ w' a l c L:=by
 refine ⟨h.1,h.2.1,?_⟩;rcases h.2.2 with h0 | ⟨g,off,e,hc⟩;· exact .inl h0
 · exact .inr ⟨g,off,e,fun j hj=>(zaA (hk g off e)).trans (hc j hj)⟩
theorem CL.below (h:CL κ w a l c L) (hb:Below w.heap.size w w'):CL κ w' a l c L:=by
 refine ⟨h.1,h.2.1,?_⟩;rcases h.2.2 with h0 | ⟨g,off,e,hc⟩;· exact .inl h0
 ·
  refine .inr ⟨g,off,e,fun j hj=>?_⟩;have h1:=hc j hj;have hj':j<L.length:=by rw [h.2.1];exact hj
  rw [List.getElem?_eq_getElem hj'] at h1 ⊢;exact cell_later hb h1
theorem InD.mono (h:InD κ D a l) (hd:∀ g j,D g j->D' g j):InD κ D' a l:=fun g off e j hj=>hd _ _ (h g off e j hj)
theorem zae (h:w.ownsRow B κ.te κ.es (.slice a n c) n L):CL κ w a n c L:=by
 rcases h.2 with ⟨q,h0⟩|⟨g,cap,cur,q,_,hg,hnc,_,hcs,ht⟩;· injection q with q1 q2 q3;subst h0;exact ⟨by omega,h.1,.inl rfl⟩
 · injection q with q1 q2 q3;subst q1 q3;refine ⟨hnc,h.1,.inr ⟨g,0,rfl,fun j hj=>?_⟩⟩;rw [Nat.zero_add];exact h.cellAt j (by omega)
theorem zf2 (h:w.ownsRow B κ.te κ.es (.slice a n c) n L) (hd:∀ g,(Value.slice a n c).ownBlock=some g->∀ j,j<n*κ.es->D g j):InD κ D a n:=fun g off e j hj=>by
 subst e;rcases h.2 with ⟨q,h0⟩|⟨g',cap,cur,q,_⟩;· subst h0;omega
 · injection q with q1 q2 q3;injection q1 with q1;injection q1 with q1 q2;subst q1 q2;rw [Nat.zero_add];exact hd g rfl j hj
theorem own_sl {te es:Nat} {v:Value} (h:w.ownsRow B te es v n L):∃ a c,v = .slice a n c:=by
 rcases h.2 with ⟨q,h0⟩|⟨g,cap,cur,q,_⟩;· exact ⟨_,_,h0 ▸ q⟩
 · exact ⟨_,_,q⟩
theorem zew {te es:Nat} {v:Value} (h:w.ownsRow B te es v n L) {g j:Nat} (hg:v.ownBlock=some g) (hj:j<n*es):w.cell? ⟨g,j,none⟩=L[j]?:=by
 rcases h.2 with ⟨r,_⟩|⟨g',cap,cur,r,_⟩;· rw [r] at hg;cases hg
 ·
  rw [r] at hg;have e':g'=g:=by simpa [Value.ownBlock] using hg
  subst e';rw [r] at h;exact h.cellAt j (by omega)
def PD (κ:Kd) (w:World) (D:Nat->Nat->Prop) (xo xt:List Value):Prop := xo.length=xt.length/\∀ i,i<xo.length->∃ a b l c c' L,xo[i]?=some (.slice a l c)/\xt[i]?=some (.slice b l c')/\l<=2000000/\CL κ w a l c L/\CL κ w b l c' L/\InD κ D a l/\InD κ D b l/\κ.ok L
theorem PD.keep {xo xt:List Value} (h:PD κ w D xo xt) (hk:Keeps D w w') (hd:∀ g j,D g j->D' g j):PD κ w' D' xo xt:=by refine ⟨h.1,fun i hi=>?_⟩;obtain ⟨a,b,l,c,c',L,h1,h2,h3,h4,h5,h6,h7,h8⟩:=h.2 i hi;exact ⟨a,b,l,c,c',L,h1,h2,h3,h4.keep h6 hk,h5.keep h7 hk,h6.mono hd,h7.mono hd,h8⟩
theorem PD.snoc {xo xt:List Value} (h:PD κ w D xo xt) (hl:l<=2000000) (h1:CL κ w a l c L) (h2:CL κ w b l c' L) (d1:InD κ D a l) (d2:InD κ D b l) (hb:κ.ok L):PD κ w D (xo++[.slice a l c]) (xt++[.slice b l c']):=by
 refine ⟨by simp [h.1],fun i hi=>?_⟩;by_cases q:i<xo.length
 · obtain ⟨a',b',l',k,k',L',e1,e2,rest⟩:=h.2 i q
   exact ⟨a',b',l',k,k',L',by rw [List.getElem?_append_left q];exact e1,by rw [List.getElem?_append_left (by rw [<-h.1];exact q)];exact e2,rest⟩
 ·
  have hi':i=xo.length:=by simp at hi;omega
  subst hi';exact ⟨a,b,l,c,c',L,by simp,by rw [h.1];simp,hl,h1,h2,d1,d2,hb⟩
theorem PD.nil (w:World) (D:Nat->Nat->Prop):PD κ w D [] []:=⟨rfl,fun i hi=>by simp at hi⟩
end
structure Wt (κ:Kd) (w:World) (B bb:Nat) (rv:Nat->Value) (D:Nat->Nat->Prop) (v vn:Value):Prop where
 ex:∃ n L b c',n<=1900000/\w.ownsRow B κ.te κ.es v n L/\vn = .slice b n c'/\CL κ w b n c' L/\InD κ D b n/\κ.ok L
 off:∀ g,v.ownBlock=some g->(∀ j,¬ D g j)/\Off bb rv g
structure Ol (κ:Kd) (w:World) (B bb:Nat) (rv:Nat->Value) (D:Nat->Nat->Prop) (v:Value) (n:Nat) (L:List Value):Prop where
 own:w.ownsRow B κ.te κ.es v n L
 lim:∀ g,v.ownBlock=some g->(∀ j,D g j->j<n*κ.es)/\Off bb rv g
 one:κ.ok L
 few:n<=1900000
structure Nl (κ:Kd) (bb:Nat) (rv:Nat->Value) (w0 wx:World) (a:Option Addr) (n c:Nat) (L:List Value):Prop where
 cl:CL κ wx a n c L
 new:∀ g off,a=some ⟨g,off,none⟩->w0.heap.size<=g/\g<wx.heap.size/\Off bb rv g
section
variable {κ:Kd} {w w':World} {bb B:Nat} {rv rv':Nat->Value} {D D':Nat->Nat->Prop} {v vn:Value} {n:Nat} {L:List Value}
theorem Wt.keep (h:Wt κ w B bb rv D v vn) (h1:∀ k,v.ownBlock=some k->w'.heap[k]?=w.heap[k]?) (hk:Keeps D w w') (hd:∀ g j,D g j->D' g j) (hn:∀ g,v.ownBlock=some g->(∀ j,D' g j->D g j)/\Off bb rv' g):Wt κ w' B bb rv' D' v vn:=by obtain ⟨n,L,b,c',hn',ho,e,hc,hi,hb⟩:=h.ex;exact ⟨⟨n,L,b,c',hn',zab ho h1,e,hc.keep hi hk,hi.mono hd,hb⟩,fun g e=>⟨fun j q=>(h.off g e).1 j ((hn g e).1 j q),(hn g e).2⟩⟩
theorem Wt.lt (h:Wt κ w B bb rv D v vn) {g:Nat} (e:v.ownBlock=some g):g<w.heap.size:=by obtain ⟨n,L,b,c',hn',ho,_⟩:=h.ex;exact (ho.lt g e).2
theorem Wt.fv (h:Wt κ w B bb rv D v vn) (hd:Dk w bb rv D) (hf:Fv bb w rv w' rv'):Wt κ w' B bb rv' D v vn := h.keep (fun k e=>hf.keep k (h.lt e) (h.off k e).2) (hd.keeps hf) (fun _ _ q=>q) (fun g e=>⟨fun _ q=>q,hf.off g (h.lt e) (h.off g e).2⟩)
theorem Ol.keep (h:Ol κ w B bb rv D v n L) (h1:∀ k,v.ownBlock=some k->w'.heap[k]?=w.heap[k]?) (h2:∀ g,v.ownBlock=some g->(∀ j,D' g j->D g j)/\Off bb rv' g):Ol κ w' B bb rv' D' v n L := ⟨zab h.own h1,fun g e=>⟨fun j q=>(h.lim g e).1 j ((h2 g e).1 j q),(h2 g e).2⟩,h.one,h.few⟩
theorem Ol.fv (h:Ol κ w B bb rv D v n L) (hf:Fv bb w rv w' rv'):Ol κ w' B bb rv' D v n L := h.keep (fun k e=>hf.keep k (h.own.lt k e).2 (h.lim k e).2) (fun g e=>⟨fun _ q=>q,hf.off g (h.own.lt g e).2 (h.lim g e).2⟩)
theorem Nl.fv {w0:World} {a:Option Addr} {c:Nat} (h:Nl κ bb rv w0 w a n c L) (hf:Fv bb w rv w' rv'):Nl κ bb rv' w0 w' a n c L := ⟨h.cl.block (fun g off e=>hf.keep g (h.new g off e).2.1 (h.new g off e).2.2),fun g off e=>⟨(h.new g off e).1,Nat.lt_of_lt_of_le (h.new g off e).2.1 hf.sz,hf.off g (h.new g off e).2.1 (h.new g off e).2.2⟩⟩
theorem Nl.old {w0 w1:World} {a:Option Addr} {c:Nat} (h:Nl κ bb rv w0 w a n c L) (hs:w1.heap.size<=w0.heap.size):Nl κ bb rv w1 w a n c L := ⟨h.cl,fun g off e=>⟨Nat.le_trans hs (h.new g off e).1,(h.new g off e).2⟩⟩
end
def NB (v u:Value):Prop:=∀ k,v.ownBlock=some k->u.ownBlock≠some k
theorem NB.symm {v u:Value} (h:NB v u):NB u v:=fun k e q=>h k q e
def PS (l:List Value):Prop:=l.Pairwise NB
theorem ps_get {l:List Value} (h:PS l) {i j:Nat} {v u:Value} (hij:i≠j) (hi:l[i]?=some v) (hj:l[j]?=some u):NB v u:=by
 obtain ⟨h1,e1⟩:=List.getElem?_eq_some_iff.1 hi;obtain ⟨h2,e2⟩:=List.getElem?_eq_some_iff.1 hj;rcases Nat.lt_or_gt_of_ne hij with q | q;· have:=List.pairwise_iff_getElem.1 h i j h1 h2 q;rw [e1,e2] at this;exact this
 · have:=List.pairwise_iff_getElem.1 h j i h2 h1 q;rw [e1,e2] at this;exact this.symm
theorem zbK {P:Program} (w:World) (base:Nat) (t ty e:TypeId) (i:TypeInfo) (z:Value) (size bytes:Nat) (ht:P.underlying t=some (.slice e)) (hi:P.info? e=some i) (hz:i.zero=some z)
 (hsize:i.size=size) (hby:i.bytes=bytes) (hzs:z.cells.size=size) (hsz:0<size) (v:Value) (n:Nat) (xs:List Value) (hown:w.ownsRow base e size v n xs) (a:Addr) (m c:Nat) (news:List Value) (hm:0<m) (hl:news.length=m*size) (hnews:∀ j u,news[j]?=some u->w.cell? (a.add j)=some u) (h1:∀ u ∈ news,u.oneCell'=true)
 (h63:n+m<=maxLen) (hbytes:(n+m)*bytes<=140737488355328) (hbase:base<=w.heap.size) :
 ∃ v' w',(Builtin.append_ #[t,t] ty #[v,.slice (some a) m c]).run P w = .ok v' w'/\w'.ownsRow base e size v' (n+m) (xs++news)/\w.grownBy w' v.ownBlock/\(v'.ownBlock=v.ownBlock\/(v'.ownBlock=some w.heap.size/\Below w.heap.size w w')):=by
 obtain ⟨v',w',hr,h2,h3,h4⟩:=run_append_own (P:=P) w base t ty e i z size bytes ht hi hz hsize hby hzs hsz v n xs hown a m c news hl hnews h1 h63 hbytes hbase;refine ⟨v',w',hr,h2,h3,?_⟩;subst hsize hby;have hsm:n+m<=9223372036854775807:=by simp only [maxLen] at h63;omega
 rcases hown.2 with ⟨rfl,rfl⟩|⟨g,cap,cur,rfl,_,hg,hnc,_,hcs,_⟩
 · have q:=run_append_nil (P:=P) w t ty e i z ht hi hz a m c news hl hnews hm (by omega) (by have hb:=hbytes;simp only [Nat.zero_add] at hb;omega)
   rw [q] at hr;cases hr;exact .inr ⟨rfl,(Below.refl w.heap.size w).drew.alloc (Nat.le_refl _) _⟩
 · by_cases hroom:n+m<=cap
   · have q:=run_append_room (P:=P) w t ty e i ht hi g n cap cur hg a m c news hl hnews h1 hroom (by rw [hl,hcs,<-Nat.add_mul];exact Nat.mul_le_mul_right _ hroom)
     rw [q] at hr;cases hr;exact .inl rfl
   · have q:=run_append_grow (P:=P) w t ty e i z ht hi hz ⟨g,0,none⟩ n cap xs hown.1 (hown.cells (g:=g) rfl) a m c news hl hnews (by omega) (by omega) (growslice_fits (by omega) hbytes)
     rw [q] at hr;cases hr;exact .inr ⟨rfl,(Below.refl w.heap.size w).drew.alloc (Nat.le_refl _) _⟩
structure KOk (κ:Kd):Prop where
 rows:∃ inf z,Tryz.prog.info? κ.tl=some inf/\inf.zero=some z/\inf.size=1/\inf.bytes<=24/\z.cells.size=1
 lst:Tryz.prog.underlying κ.tl=some (.slice κ.te)
 elem:∃ inf z,Tryz.prog.info? κ.te=some inf/\inf.zero=some z/\inf.size=κ.es/\inf.bytes<=24/\z.cells.size=κ.es
 pos:0<κ.es/\κ.es<=2
 one:∀ L,κ.ok L->∀ u ∈ L,u.oneCell'=true
 low:4<=κ.c0
theorem binfo3:(Tryz.prog.info? 3).map (fun i=>(i.zero,i.size,i.bytes))=some (some (.int .i64 0),1,8):=by kernel_rfl
theorem einfo {κ:Kd} (hK:KOk κ) (i:Nat):∃ inf z,Tryz.prog.info? (et κ.tl i)=some inf/\inf.zero=some z/\inf.size=1/\inf.bytes<=24/\z.cells.size=1:=by
 unfold et;split;· exact hK.rows
 · obtain ⟨q,h1,h2,h3,h4⟩:=info_parts binfo3;exact ⟨q,_,h1,h2,h3,by omega,rfl⟩
structure Pu (κ:Kd) (w w':World) (bb B:Nat) (cs:Array Value) (rv:Nat->Value) (xs:Nat->List Value) (i:Nat) (x v':Value):Prop where
 br:BR κ (w'.setCell ⟨bb,κ.c0+i,none⟩ v') bb B (cs.setIfInBounds (κ.c0+i) v') (upd rv i v') (upd xs i (xs i++[x]))
 gr:w.grownBy w' (rv i).ownBlock
 sl:∃ a n c,v' = .slice a n c
 bk:BkAt w' bb cs
 wh:v'.ownBlock=(rv i).ownBlock\/v'.ownBlock=some w.heap.size
theorem Pu.fv {κ:Kd} {w w':World} {bb B:Nat} {cs:Array Value} {rv:Nat->Value} {xs:Nat->List Value} {i:Nat} {x v':Value} (h:Pu κ w w' bb B cs rv xs i x v') (hi:i<8):Fv bb w rv (w'.setCell ⟨bb,κ.c0+i,none⟩ v') (upd rv i v'):=by
 refine ⟨by have:=h.gr.size;simpa [World.setCell] using this,fun g hg ho=>?_,fun g hg ho=>⟨ho.1,fun j hj=>?_⟩⟩
 · rw [Below.heap_setCell _ _ _ _ ho.1]
   exact h.gr.block g hg (fun e=>ho.2 i hi e.symm)
 ·
  by_cases e:j=i;·
   subst e;rw [za8];rcases h.wh with q | q;· rw [q];exact ho.2 j hj
   · rw [q];intro q;cases q;omega
  · rw [upd_ne _ _ e];exact ho.2 j hj
theorem pu_of {κ:Kd} {w w':World} {bb B:Nat} {cs:Array Value} {rv:Nat->Value} {xs:Nat->List Value} (h:BR κ w bb B cs rv xs) (i:Nat) (hi:i<8) (x v':Value) (ho:w'.ownsRow B (et κ.tl i) 1 v' ((xs i).length+1) (xs i++[x])) (hg:w.grownBy w' (rv i).ownBlock) (hv:v'.ownBlock=(rv i).ownBlock\/v'.ownBlock=some w.heap.size):Pu κ w w' bb B cs rv xs i x v' :=
 ⟨h.push i hi x v' ho hg hv,hg,by
  rcases ho.2 with ⟨h1,_⟩|⟨g,cp,_,h1,_⟩;· exact ⟨_,_,_,h1⟩
  · exact ⟨_,_,_,h1⟩,(hg.block bb (lt_of_block h.at_) (fun e=>h.ne i hi e.symm)).trans h.at_,hv⟩
theorem zdZ {w:World} {g0 t:Nat} {X:List Value} (hg:w.heap[g0]?=some (.cells X.toArray t (0,0))):∀ (j:Nat) (u:Value),X[j]?=some u->w.cell? ((⟨g0,0,none⟩:Addr).add j)=some u:=by intro j u hu;rw [za9,Nat.zero_add];simp [World.cell?,hg,hu]
theorem zdR {κ:Kd} (hK:KOk κ) {w:World} (ty t:TypeId) {bb B:Nat} {cs:Array Value} {rv:Nat->Value} {xs:Nat->List Value} (h:BR κ w bb B cs rv xs) (i:Nat) (hi:i<8) (ht:Tryz.prog.underlying t=some (.slice (et κ.tl i))) (g0:Nat) (xv:Value) (hg0:w.heap[g0]?=some (.cells #[xv] (et κ.tl i) (0,0))) (h1:xv.oneCell'=true) (hlen:(xs i).length<=1000000) (hB:B<=w.heap.size) :
 ∃ v' w',(Builtin.append_ #[t,t] ty #[rv i,.slice (some ⟨g0,0,none⟩) 1 1]).run Tryz.prog w = .ok v' w'/\Pu κ w w' bb B cs rv xs i xv v':=by
 obtain ⟨inf,z,hi1,hz,hsz,hb24,hzs⟩:=einfo hK i;obtain ⟨v',w',hr,h2,h3,h4⟩:=zbK (P:=Tryz.prog) w B t ty (et κ.tl i) inf z 1 inf.bytes ht hi1 hz hsz rfl hzs (by decide) (rv i) (xs i).length (xs i) (h.own i hi) ⟨g0,0,none⟩ 1 1 [xv] (by decide) rfl (zdZ hg0) (by intro u hu;simp at hu;subst hu;exact h1) (by unfold maxLen;omega) (by have:((xs i).length+1)*inf.bytes<=1000001*24:=Nat.mul_le_mul (by omega) hb24;omega) hB;exact ⟨v',w',hr,pu_of h i hi xv v' h2 h3 (h4.imp id (·.1))⟩
theorem za3 {κ:Kd} (hK:KOk κ) {w:World} {ops:Array Oper} {rest:List Oper} {o:Oper} {a:Act} {Q:Exit->Act->World->Prop} (hgd:o.guard=none) (s x:Operand) (t:TypeId) (ho:o.op = .call { callee:=.builtin .append,args:=#[s,x],argTypes:=#[t,t] })
 {bb B:Nat} {cs:Array Value} {rv:Nat->Value} {xs:Nat->List Value} (h:BR κ w bb B cs rv xs) (i:Nat) (hi:i<8) (ht:Tryz.prog.underlying t=some (.slice (et κ.tl i))) (hs:a.eval s=rv i) (g0:Nat) (xv:Value) (hx:a.eval x = .slice (some ⟨g0,0,none⟩) 1 1) (hg0:w.heap[g0]?=some (.cells #[xv] (et κ.tl i) (0,0))) (h1:xv.oneCell'=true) (hlen:(xs i).length<=1000000) (hB:B<=w.heap.size)
 (k:∀ v' w',Pu κ w w' bb B cs rv xs i xv v'->wpList Tryz.prog ops Q rest (a.put o.dst v') w'):wpList Tryz.prog ops Q (o::rest) a w:=by
 refine wpList_plain hgd fun K hK'=>?_;obtain ⟨v',w',hr,h2⟩:=zdR hK o.type t h i hi ht g0 xv hg0 h1 hlen hB;unfold Oper.wp;simp [execOp,ho,resolve,invoke,builtin,hs,hx,hr,Result.andThen];exact hK' _ _ (k v' w' h2)
theorem zac {κ:Kd} (hK:KOk κ) {w:World} {ops:Array Oper} {o:Oper} {a:Act} {K:Act->World->Prop} {Q:Exit->Act->World->Prop} {E:Prop} (hgd:o.guard=none) (s x:Operand) (t:TypeId) (ho:o.op = .call { callee:=.builtin .append,args:=#[s,x],argTypes:=#[t,t] })
 {bb B:Nat} {cs:Array Value} {rv:Nat->Value} {xs:Nat->List Value} (h:BR κ w bb B cs rv xs) (i:Nat) (hi:i<8) (ht:Tryz.prog.underlying t=some (.slice (et κ.tl i))) (hs:a.eval s=rv i) (g0:Nat) (xv:Value) (hx:a.eval x = .slice (some ⟨g0,0,none⟩) 1 1) (hg0:w.heap[g0]?=some (.cells #[xv] (et κ.tl i) (0,0))) (h1:xv.oneCell'=true) (hlen:(xs i).length<=1000000) (hB:B<=w.heap.size) (k:∀ v' w',Pu κ w w' bb B cs rv xs i xv v'->K (a.put o.dst v') w'):if Region.wanted o (yielded ops a.tmps)=true then Oper.wp Tryz.prog o a w K Q else E:=by
 have hw:Region.wanted o (yielded ops a.tmps)=true:=by simp [Region.wanted,hgd]
 rw [if_pos hw];obtain ⟨v',w',hr,h2⟩:=zdR hK o.type t h i hi ht g0 xv hg0 h1 hlen hB;unfold Oper.wp;simp [execOp,ho,resolve,invoke,builtin,hs,hx,hr,Result.andThen];exact k v' w' h2
theorem run_append_none {P:Program} {w:World} (t ty e:TypeId) (i:TypeInfo) (ht:P.underlying t=some (.slice e)) (hi:P.info? e=some i) (b:Nat) (hb:w.heap[b]?=some (.cells #[] e (0,0))) (a:Option Addr) (c:Nat) : (Builtin.append_ #[t,t] ty #[.slice (some ⟨b,0,none⟩) 0 0,.slice a 0 c]).run P w = .ok (.slice (some ⟨b,0,none⟩) 0 0) w:=by cases a with | none=>simp [Builtin.append_,run_underlying ht,sizeOf,typeInfo,hi,Builtin.lenOf,Builtin.firstCells,storeCells] | some a => have hf:=run_firstCells_some (P:=P) w i.size 0 a 0 c [] (by simp) (by intro j v h;simp at h);simp [Builtin.append_,run_underlying ht,sizeOf,typeInfo,hi,Builtin.lenOf,hf,storeCells]
structure Cp (κ:Kd) (w w':World) (n:Nat) (L:List Value) (v':Value):Prop where
 sl:∃ a c,v' = .slice a n c/\CL κ w' a n c L
 be:Below w.heap.size w w'
 new:∀ g,v'.ownBlock=some g->w.heap.size<=g/\g<w'.heap.size
theorem own_empty {w:World} {b e s:Nat} (hb:w.heap[b]?=some (.cells #[] e (0,0))):w.ownsRow b e s (.slice (some ⟨b,0,none⟩) 0 0) 0 [] := ⟨by simp,.inr ⟨b,0,#[],rfl,Nat.le_refl _,hb,Nat.le_refl _,by unfold maxLen;omega,by simp,by simp⟩⟩
theorem copy_run {κ:Kd} (hK:KOk κ) {w wb:World} (ty:TypeId) (hw:Below w.heap.size w wb) (hb:wb.heap[w.heap.size]?=some (.cells #[] κ.te (0,0))) (sa:Option Addr) (n c:Nat) (L:List Value) (hc:CL κ wb sa n c L) (h1:κ.ok L) (hn:n<=2000000) :
 ∃ v' w',(Builtin.append_ #[κ.tl,κ.tl] ty #[.slice (some ⟨w.heap.size,0,none⟩) 0 0,.slice sa n c]).run Tryz.prog wb = .ok v' w'/\Cp κ w w' n L v':=by
 obtain ⟨inf,z,hi1,hz,hsz,hb24,hzs⟩:=hK.elem;have hlt:=lt_of_block hb;by_cases h0:n=0
 · subst h0
   have hL:L=[]:=List.eq_nil_of_length_eq_zero (by rw [hc.2.1];omega);subst hL;exact ⟨_,wb,run_append_none κ.tl ty κ.te inf hK.lst hi1 _ hb sa c,⟨_,_,rfl,Nat.le_refl _,by simp,.inl rfl⟩,hw,fun g e=>by cases e;exact ⟨Nat.le_refl _,hlt⟩⟩
 · obtain ⟨g,off,e,hcell⟩:=hc.2.2.resolve_left h0
   subst e;obtain ⟨v',w',hr,ho,hg,hw'⟩:=zbK (P:=Tryz.prog) wb w.heap.size κ.tl ty κ.te inf z κ.es inf.bytes hK.lst hi1 hz hsz rfl hzs hK.pos.1 _ 0 [] (own_empty hb) ⟨g,off,none⟩ n c L (by omega) hc.2.1 (fun j u hu=>by
    have hj:j<n*κ.es:=by have:=(List.getElem?_eq_some_iff.1 hu).1;rw [hc.2.1] at this;exact this
    rw [za9,hcell j hj,hu]) (hK.one _ h1) (by unfold maxLen;omega) (by have:(0+n)*inf.bytes<=2000000*24:=Nat.mul_le_mul (by omega) hb24;omega) (Nat.le_of_lt hlt)
   rw [Nat.zero_add,List.nil_append] at ho;obtain ⟨a',c',e'⟩:=own_sl ho;subst e';refine ⟨_,w',hr,⟨a',c',rfl,zae ho⟩,⟨hg.os.trans hw.os,hg.tape.trans hw.tape,hg.output.trans hw.output,Nat.le_trans hw.size hg.size,fun k hk=>(hg.block k (by have:=hw.size;omega) (fun q=>absurd (show k=w.heap.size by simpa [Value.ownBlock] using q) (by omega))).trans (hw.block k hk)⟩,fun q e=>⟨?_,(ho.lt q e).2⟩⟩;rcases hw' with q' | ⟨q',_⟩;· rw [q'] at e;cases e;exact Nat.le_refl _
   · rw [q'] at e;cases e;exact hw.size
theorem zay {κ:Kd} (hK:KOk κ) {w wb:World} {ops:Array Oper} {o:Oper} {a:Act} {K:Act->World->Prop} {Q:Exit->Act->World->Prop} {E:Prop} (hgd:o.guard=none) (s x:Operand) (ho:o.op = .call { callee:=.builtin .append,args:=#[s,x],argTypes:=#[κ.tl,κ.tl] })
 (hs:a.eval s = .slice (some ⟨w.heap.size,0,none⟩) 0 0) (hw:Below w.heap.size w wb) (hb:wb.heap[w.heap.size]?=some (.cells #[] κ.te (0,0))) (sa:Option Addr) (n c:Nat) (L:List Value) (hx:a.eval x = .slice sa n c) (hc:CL κ wb sa n c L) (h1:κ.ok L) (hn:n<=2000000) (k:∀ v' w',Cp κ w w' n L v'->K (a.put o.dst v') w'):if Region.wanted o (yielded ops a.tmps)=true then Oper.wp Tryz.prog o a wb K Q else E:=by
 have hw':Region.wanted o (yielded ops a.tmps)=true:=by simp [Region.wanted,hgd]
 rw [if_pos hw'];obtain ⟨v',w',hr,hcp⟩:=copy_run hK o.type hw hb sa n c L hc h1 hn;unfold Oper.wp;simp [execOp,ho,resolve,invoke,builtin,hs,hx,hr,Result.andThen];exact k v' w' hcp
theorem Cp.nl {κ:Kd} {w w':World} {n c bb B:Nat} {L:List Value} {a:Option Addr} {cs:Array Value} {rv:Nat->Value} {xs:Nat->List Value} (h:Cp κ w w' n L (.slice a n c)) (hr:BR κ w bb B cs rv xs):Nl κ bb rv w w' a n c L:=by obtain ⟨a',c',e,hc⟩:=h.sl;cases e;exact ⟨hc,fun g off e=>by subst e;have:=h.new g rfl;exact ⟨this.1,this.2,hr.new this.1⟩⟩
structure Gw (κ:Kd) (w wx:World) (B n i:Nat) (v gv:Value) (L M:List Value):Prop where
 own:wx.ownsRow B κ.te κ.es gv (n+i) (L++M)
 ch:Ch (fun k=>v.ownBlock=some k) w wx
 keep:∀ g,v.ownBlock=some g->∀ j,j<n*κ.es->wx.cell? ⟨g,j,none⟩=w.cell? ⟨g,j,none⟩
 wh:gv.ownBlock=v.ownBlock\/∃ k,gv.ownBlock=some k/\w.heap.size<=k
section
variable {κ:Kd} {w wx w':World} {B n i:Nat} {v gv gv':Value} {L M X:List Value}
theorem Gw.start (h:w.ownsRow B κ.te κ.es v n L):Gw κ w w B n 0 v v L [] := ⟨by simpa using h,Ch.refl _ _,fun _ _ _ _=>rfl,.inl rfl⟩
theorem Gw.below (h:Gw κ w wx B n i v gv L M) (ho:w.ownsRow B κ.te κ.es v n L) (hb:Below wx.heap.size wx w'):Gw κ w w' B n i v gv L M:=by refine ⟨zab h.own (fun k e=>hb.block k (h.own.lt k e).2),Ch.trans (S':=fun _=>False) h.ch (Below.ch hb) (fun _ _ q=>q.elim),fun g e j hj=>?_,h.wh⟩;rw [<-h.keep g e j hj];exact zaA (hb.block g (Nat.lt_of_lt_of_le (ho.lt g e).2 h.ch.size))
theorem Gw.push (h:Gw κ w wx B n i v gv L M) (hv:w.ownsRow B κ.te κ.es v n L) (ho:w'.ownsRow B κ.te κ.es gv' (n+i+1) (L++M++X)) (hg:wx.grownBy w' gv.ownBlock) (hw:gv'.ownBlock=gv.ownBlock\/(gv'.ownBlock=some wx.heap.size/\Below wx.heap.size wx w')):Gw κ w w' B n (i+1) v gv' L (M++X):=by
 have hs:=h.ch.size;have hnn:n*κ.es<=(n+i)*κ.es:=Nat.mul_le_mul_right _ (by omega);have hnn':n*κ.es<=(n+i+1)*κ.es:=Nat.mul_le_mul_right _ (by omega);refine ⟨by rw [<-List.append_assoc];exact ho,?_,fun g e j hj=>?_,?_⟩;·
  refine Ch.trans (S':=fun k=>gv.ownBlock=some k) h.ch (zeD hg) (fun j hj q=>?_);rcases h.wh with e | ⟨k,e,hk⟩;· exact e ▸ q
  · rw [e] at q;cases q;omega
 ·
  have hlt:g<wx.heap.size:=Nat.lt_of_lt_of_le (hv.lt g e).2 hs;rw [<-h.keep g e j hj];by_cases q:gv.ownBlock=some g
  · rcases hw with e' | ⟨e',hb⟩
    · rw [zew ho (e'.trans q) (by omega),zew h.own q (by omega),List.getElem?_append_left (by have:=h.own.1;omega)]
    · exact zaA (hb.block g hlt)
  · exact zaA (hg.block g hlt (fun e=>q e.symm))
 ·
  rcases hw with e' | ⟨e',_⟩;· rw [e'];exact h.wh
  · exact .inr ⟨_,e',hs⟩
theorem zbi (hK:KOk κ) {ops:Array Oper} {rest:List Oper} {o:Oper} {a:Act} {Q:Exit->Act->World->Prop} (hgd:o.guard=none) (s x:Operand) (ho:o.op = .call { callee:=.builtin .append,args:=#[s,x],argTypes:=#[κ.tl,κ.tl] })
 (h:Gw κ w wx B n i v gv L M) (hv:w.ownsRow B κ.te κ.es v n L) (hs:a.eval s=gv) (g0:Nat) (hX:X.length=κ.es) (hx:a.eval x = .slice (some ⟨g0,0,none⟩) 1 1) (hg0:wx.heap[g0]?=some (.cells X.toArray κ.te (0,0))) (h1:κ.ok X) (hlen:n+i<=2000000) (hB:B<=wx.heap.size) (k:∀ gv' w',Gw κ w w' B n (i+1) v gv' L (M++X)->(∃ a c,gv' = .slice a (n+i+1) c)->wpList Tryz.prog ops Q rest (a.put o.dst gv') w'):wpList Tryz.prog ops Q (o::rest) a wx:=by
 refine wpList_plain hgd fun K hK'=>?_;obtain ⟨inf,z,hi1,hz,hsz,hb24,hzs⟩:=hK.elem;obtain ⟨v',w',hr,h2,h3,h4⟩:=zbK (P:=Tryz.prog) wx B κ.tl o.type κ.te inf z κ.es inf.bytes hK.lst hi1 hz hsz rfl hzs hK.pos.1 gv (n+i) (L++M) h.own ⟨g0,0,none⟩ 1 1 X (by decide) (by rw [hX,Nat.one_mul]) (zdZ hg0) (hK.one _ h1) (by unfold maxLen;omega) (by have:(n+i+1)*inf.bytes<=2000001*24:=Nat.mul_le_mul (by omega) hb24;omega) hB;unfold Oper.wp;simp [execOp,ho,resolve,invoke,builtin,hs,hx,hr,Result.andThen];exact hK' _ _ (k v' w' (h.push hv h2 h3 h4) (own_sl h2))
end
structure Hd (κ:Kd) (k0 cs:Array Value) (t deep seen:Int):Prop where
 now:cs[0]?=some (.bool false)
 bad:cs[1]?=some (.bool false)
 turn:cs[2]?=some (.int .i64 t)
 dp:cs[3]?=some (.int .i64 deep)
 sn:cs[κ.c0+8]?=some (.int .i64 seen)
 rest:∀ j,4<=j->(j<κ.c0\/κ.c0+9<=j)->cs[j]?=k0[j]?
 low:4<=κ.c0
section
variable {κ:Kd} {k0 cs:Array Value} {t deep seen:Int}
theorem Hd.row (h:Hd κ k0 cs t deep seen) (i:Nat) (hi:i<8) (v:Value):Hd κ k0 (cs.setIfInBounds (κ.c0+i) v) t deep seen:=by
 have:=h.low;refine ⟨?_,?_,?_,?_,?_,fun j hj hk=>?_,h.low⟩;· rw [Array.getElem?_setIfInBounds_ne (by omega)];exact h.now
 · rw [Array.getElem?_setIfInBounds_ne (by omega)];exact h.bad
 · rw [Array.getElem?_setIfInBounds_ne (by omega)];exact h.turn
 · rw [Array.getElem?_setIfInBounds_ne (by omega)];exact h.dp
 · rw [Array.getElem?_setIfInBounds_ne (by omega)];exact h.sn
 · rw [Array.getElem?_setIfInBounds_ne (by omega)];exact h.rest j hj hk
theorem Hd.deeper (h:Hd κ k0 cs t deep seen) (d:Int):Hd κ k0 (cs.setIfInBounds 3 (.int .i64 d)) t d seen:=by
 have:=h.low;have h3:3<cs.size:=(Array.getElem?_eq_some_iff.1 h.dp).1;refine ⟨?_,?_,?_,by simp [h3],?_,fun j hj hk=>?_,h.low⟩;· rw [Array.getElem?_setIfInBounds_ne (by omega)];exact h.now
 · rw [Array.getElem?_setIfInBounds_ne (by omega)];exact h.bad
 · rw [Array.getElem?_setIfInBounds_ne (by omega)];exact h.turn
 · rw [Array.getElem?_setIfInBounds_ne (by omega)];exact h.sn
 · rw [Array.getElem?_setIfInBounds_ne (by omega)];exact h.rest j hj hk
theorem Hd.sees (h:Hd κ k0 cs t deep seen) (d:Int):Hd κ k0 (cs.setIfInBounds (κ.c0+8) (.int .i64 d)) t deep d:=by
 have:=h.low;have h3:κ.c0+8<cs.size:=(Array.getElem?_eq_some_iff.1 h.sn).1;refine ⟨?_,?_,?_,?_,by simp [h3],fun j hj hk=>?_,h.low⟩;· rw [Array.getElem?_setIfInBounds_ne (by omega)];exact h.now
 · rw [Array.getElem?_setIfInBounds_ne (by omega)];exact h.bad
 · rw [Array.getElem?_setIfInBounds_ne (by omega)];exact h.turn
 · rw [Array.getElem?_setIfInBounds_ne (by omega)];exact h.dp
 · rw [Array.getElem?_setIfInBounds_ne (by omega)];exact h.rest j hj hk
theorem Hd.badly (h:Hd κ k0 cs t deep seen):Hd κ k0 (cs.setIfInBounds 1 (.bool false)) t deep seen:=by rw [zel h.bad];exact h
end
structure Bq (κ:Kd) (k0:Array Value) (w0 wx:World) (bb B:Nat) (S:Nat->Prop) (cs:Array Value) (rv:Nat->Value) (xs:Nat->List Value) (t deep seen:Int):Prop where
 br:BR κ wx bb B cs rv xs
 hd:Hd κ k0 cs t deep seen
 ch:Ch S w0 wx
 sb:S bb
 ins:∀ i,i<8->∀ k,(rv i).ownBlock=some k->S k\/w0.heap.size<=k
section
variable {κ:Kd} {k0:Array Value} {w0 w wx w':World} {bb B:Nat} {S:Nat->Prop} {cs:Array Value} {rv:Nat->Value} {xs:Nat->List Value} {t deep seen:Int}
theorem Bq.below (h:Bq κ k0 w0 wx bb B S cs rv xs t deep seen) (hb:Below wx.heap.size wx w'):Bq κ k0 w0 w' bb B S cs rv xs t deep seen := ⟨h.br.below hb,h.hd,Ch.trans (S':=fun _=>False) h.ch (Below.ch hb) (fun _ _ q=>q.elim),h.sb,h.ins⟩
theorem Bq.push (h:Bq κ k0 w0 wx bb B S cs rv xs t deep seen) {i:Nat} (hi:i<8) {x v':Value} (p:Pu κ wx w' bb B cs rv xs i x v'):Bq κ k0 w0 (w'.setCell ⟨bb,κ.c0+i,none⟩ v') bb B S (cs.setIfInBounds (κ.c0+i) v') (upd rv i v') (upd xs i (xs i++[x])) t deep seen:=by
 refine ⟨p.br,h.hd.row i hi v',?_,h.sb,fun j hj k e=>?_⟩;·
  refine Ch.trans (S':=fun k=>k=bb) (Ch.trans (S':=fun k=>(rv i).ownBlock=some k) h.ch (zeD p.gr) (fun j hj q=>?_)) (ch_set bb _ _) (fun j _ q=>q ▸ h.sb);rcases h.ins i hi j q with q | q;· exact q
  · omega
 ·
  by_cases q:j=i;·
   subst q;rw [za8] at e;rcases p.wh with q | q;· exact h.ins j hj k (q ▸ e)
   · rw [q] at e;cases e;exact .inr h.ch.size
  · rw [upd_ne _ _ q] at e;exact h.ins j hj k e
theorem Bq.other (h:Bq κ k0 w0 wx bb B S cs rv xs t deep seen) (k:Nat) (hk:k<κ.c0\/κ.c0+8<=k) (v:Value) {t' deep' seen':Int} (hh:Hd κ k0 (cs.setIfInBounds k v) t' deep' seen'):Bq κ k0 w0 (wx.setCell ⟨bb,k,none⟩ v) bb B S (cs.setIfInBounds k v) rv xs t' deep' seen' := ⟨h.br.other k hk v,hh,Ch.trans (S':=fun k=>k=bb) h.ch (ch_set bb _ _) (fun j _ q=>q ▸ h.sb),h.sb,h.ins⟩
theorem Bq.nil (h:Bq κ k0 w0 wx bb B S cs rv xs t deep seen) (i:Nat) (hi:i<8):Bq κ k0 w0 (wx.setCell ⟨bb,κ.c0+i,none⟩ (.slice none 0 0)) bb B S (cs.setIfInBounds (κ.c0+i) (.slice none 0 0)) (upd rv i (.slice none 0 0)) (upd xs i []) t deep seen :=
 ⟨h.br.nil i hi,h.hd.row i hi _,Ch.trans (S':=fun k=>k=bb) h.ch (ch_set bb _ _) (fun j _ q=>q ▸ h.sb),h.sb,fun j hj k e=>by
  by_cases q:j=i;· subst q;rw [za8] at e;cases e
  · rw [upd_ne _ _ q] at e;exact h.ins j hj k e⟩
theorem Bq.back (h:Bq κ k0 w wx bb B (fun k=>S k\/w0.heap.size<=k) cs rv xs t deep seen) (hc:Ch S w0 w) (hs:S bb):Bq κ k0 w0 wx bb B S cs rv xs t deep seen :=
 ⟨h.br,h.hd,Ch.trans hc h.ch (fun j hj q=>by rcases q with q | q;exact q;omega),hs,fun i hi k e=>by
  rcases h.ins i hi k e with q | q;· exact q
  · exact .inr (Nat.le_trans hc.size q)⟩
theorem Bq.aside (h:Bq κ k0 w0 wx bb B S cs rv xs t deep seen) {T:Nat->Prop} (hc:Ch T wx w') (hT:∀ g,T g->Off bb rv g/\(S g\/w0.heap.size<=g)):Bq κ k0 w0 w' bb B S cs rv xs t deep seen := ⟨h.br.keep (hc.block _ (lt_of_block h.br.at_) (fun q=>(hT _ q).1.1 rfl)) (fun j hj k e=>hc.block _ (h.br.lt hj e) (fun q=>(hT _ q).1.2 j hj e)),h.hd,Ch.trans h.ch hc (fun j hj q=>(hT j q).2.elim id (fun q=>by omega)),h.sb,h.ins⟩
end
structure Mi (κ:Kd) (w0 wx:World) (B bb:Nat) (rv:Nat->Value) (S:Nat->Prop) (D:Nat->Nat->Prop) (xw0 xn0:List Value) (k:Nat) (xo xt xw xn xf:List Value):Prop where
 dk:Dk wx bb rv D
 pd:PD κ wx D xo xt
 ps:PS (xw++(xf++xw0.drop k))
 wl:xw.length=xn.length
 wt:∀ (i:Nat) (v vn:Value),xw[i]?=some v->xn[i]?=some vn->Wt κ wx B bb rv D v vn
 rt:∀ (i:Nat) (v vn:Value),k<=i->xw0[i]?=some v->xn0[i]?=some vn->Wt κ wx B bb rv D v vn
 fr:∀ (i:Nat) (v:Value),xf[i]?=some v->∃ n L,Ol κ wx B bb rv D v n L
 dS:∀ g j,D g j->S g\/w0.heap.size<=g
 ins:∀ v,v ∈ xw0\/v ∈ xw\/v ∈ xf->∀ g,v.ownBlock=some g->S g\/w0.heap.size<=g
theorem zf9 {l:List Value} {k:Nat} {v:Value} (h:l[k]?=some v):l.drop k=v::l.drop (k+1):=by obtain ⟨h1,h2⟩:=List.getElem?_eq_some_iff.1 h;rw [<-h2];exact List.drop_eq_getElem_cons h1
section
variable {κ:Kd} {w0 wx w':World} {B bb:Nat} {rv rv':Nat->Value} {S:Nat->Prop} {D:Nat->Nat->Prop} {xw0 xn0:List Value} {k:Nat} {xo xt xw xn xf:List Value}
theorem Mi.fv (h:Mi κ w0 wx B bb rv S D xw0 xn0 k xo xt xw xn xf) (hf:Fv bb wx rv w' rv'):Mi κ w0 w' B bb rv' S D xw0 xn0 k xo xt xw xn xf := ⟨h.dk.fv hf,h.pd.keep (h.dk.keeps hf) (fun _ _ q=>q),h.ps,h.wl,fun i v vn e1 e2=>(h.wt i v vn e1 e2).fv h.dk hf,fun i v vn hi e1 e2=>(h.rt i v vn hi e1 e2).fv h.dk hf,fun i v e=>by obtain ⟨n,L,ho⟩:=h.fr i v e;exact ⟨n,L,ho.fv hf⟩,h.dS,h.ins⟩
theorem Mi.wait {v vn:Value} (h:Mi κ w0 wx B bb rv S D xw0 xn0 k xo xt xw xn xf) (hv:xw0[k]?=some v) (hvn:xn0[k]?=some vn):Mi κ w0 wx B bb rv S D xw0 xn0 (k+1) xo xt (xw++[v]) (xn++[vn]) xf:=by
 refine ⟨h.dk,h.pd,?_,by simp [h.wl],fun i u un e1 e2=>?_,fun i u un hi=>h.rt i u un (by omega),h.fr,h.dS,fun u hu=>?_⟩;·
  have hp:=h.ps;rw [zf9 hv] at hp;have e:(xw++[v])++(xf++xw0.drop (k+1))=xw++(v::(xf++xw0.drop (k+1))):=by simp
  show List.Pairwise NB _;rw [e];exact (List.Perm.pairwise_iff (fun h=>NB.symm h) (List.Perm.append_left xw List.perm_middle)).1 hp
 ·
  by_cases q:i<xw.length
  · rw [List.getElem?_append_left q] at e1
    rw [List.getElem?_append_left (by rw [<-h.wl];exact q)] at e2;exact h.wt i u un e1 e2
  ·
   have hi:i=xw.length:=by have:=(List.getElem?_eq_some_iff.1 e1).1;simp at this;omega
   subst hi;rw [List.getElem?_append_right (Nat.le_refl _)] at e1;rw [List.getElem?_append_right (by rw [h.wl];exact Nat.le_refl _)] at e2;simp [h.wl] at e1 e2;subst e1 e2;exact h.rt k v vn (Nat.le_refl _) hv hvn
 ·
  refine h.ins u ?_;rcases hu with q | q | q;· exact .inl q
  · rcases List.mem_append.1 q with q | q
    · exact .inr (.inl q)
    · simp at q;subst q;exact .inl (List.mem_of_getElem? hv)
  · exact .inr (.inr q)
theorem Mi.fresh {wy wz:World} {rvz:Nat->Value} {n vc k4:Nat} {L2:List Value} {va a4:Option Addr} {vn:Value} (h:Mi κ w0 wx B bb rv S D xw0 xn0 k xo xt xw xn xf) (hv:xw0[k]?=some (.slice va n vc)) (hvn:xn0[k]?=some vn) (hl:xw0.length=xn0.length) (own2:wy.ownsRow B κ.te κ.es (.slice va n vc) n L2) (hb:κ.ok L2) (hn:n<=1900000) (ch:Ch (fun q=>(Value.slice va n vc).ownBlock=some q) wx wy) (n4:Nl κ bb rvz wy wz a4 n k4 L2) (v4:Fv bb wy rv wz rvz) (hw0:w0.heap.size<=wy.heap.size) :
 ∃ D',Mi κ w0 wz B bb rvz S D' xw0 xn0 (k+1) (xo++[.slice va n vc]) (xt++[.slice a4 n k4]) xw xn (xf++[.slice va n vc])/\∀ g j,D g j->D' g j:=by
 have W:=h.rt k _ _ (Nat.le_refl _) hv hvn;have K1:Keeps D wx wy:=fun g j q=>zaA (ch.block g (h.dk g j q).1 (fun e=>(W.off g e).1 j q));have T1:Dk wy bb rv D:=fun g j q=>⟨Nat.lt_of_lt_of_le (h.dk g j q).1 ch.size,(h.dk g j q).2⟩;have K2:Keeps D wy wz:=T1.keeps v4;have T2:Dk wz bb rvz D:=T1.fv v4;have woff:∀ g,(Value.slice va n vc).ownBlock=some g->Off bb rvz g:=fun g e=>v4.off g (own2.lt g e).2 (W.off g e).2;have O2:wz.ownsRow B κ.te κ.es (.slice va n vc) n L2:=zab own2 (fun q e=>v4.keep q (own2.lt q e).2 (W.off q e).2);have hp:=h.ps;rw [zf9 hv] at hp;obtain ⟨_,p2,p3⟩:=List.pairwise_append.1 hp;obtain ⟨_,p4,p5⟩:=List.pairwise_append.1 p2;obtain ⟨p6,_⟩:=List.pairwise_cons.1 p4;have stay:∀ (u:Value),NB u (.slice va n vc)->∀ q,u.ownBlock=some q->q<wx.heap.size->Off bb rv q->wz.heap[q]?=wx.heap[q]?/\q<wy.heap.size/\Off bb rvz q:=fun u hnb q e hq ho=>by have h1:=Nat.lt_of_lt_of_le hq ch.size;exact ⟨(v4.keep q h1 ho).trans (ch.block q hq (hnb q e)),h1,v4.off q h1 ho⟩
 have hD:∀ (u:Value),NB u (.slice va n vc)->∀ g,u.ownBlock=some g->g<wy.heap.size->∀ j,(D g j\/((Value.slice va n vc).ownBlock=some g/\j<n*κ.es)\/∃ off,a4=some ⟨g,off,none⟩)->D g j:=fun u hnb g e hg j q=>by
  rcases q with q | ⟨q,_⟩|⟨off,q⟩;· exact q
  · exact absurd q (hnb g e)
  · have h1:=(n4.new g off q).1
    omega
 refine ⟨fun g j=>D g j\/((Value.slice va n vc).ownBlock=some g/\j<n*κ.es)\/∃ off,a4=some ⟨g,off,none⟩,⟨?_,?_,?_,h.wl,fun i u un e1 e2=>?_,fun i u un hi e1 e2=>?_,fun i u e=>?_,?_,fun u hu=>?_⟩,fun g j q=>.inl q⟩
 · rintro g j (q | ⟨q,_⟩|⟨off,q⟩)
   · exact T2 g j q
   · exact ⟨(O2.lt g q).2,woff g q⟩
   · exact (n4.new g off q).2
 · exact (h.pd.keep (K1.trans K2) (fun g j q=>Or.inl q)).snoc (by omega) (zae O2) n4.cl (zf2 O2 (fun g e j hj=>.inr (.inl ⟨e,hj⟩))) (fun g off e j hj=>.inr (.inr ⟨off,e⟩)) hb
 · show List.Pairwise NB _
   have e:xw++(xf++[.slice va n vc]++xw0.drop (k+1))=xw++(xf ++ .slice va n vc::xw0.drop (k+1)):=by simp
   rw [e];exact hp
 · have hw:=h.wt i u un e1 e2
   have hnb:NB u (.slice va n vc):=p3 u (List.mem_of_getElem? e1) _ (List.mem_append.2 (.inr (List.mem_cons.2 (.inl rfl))));exact hw.keep (fun q e=>(stay u hnb q e (hw.lt e) (hw.off q e).2).1) (K1.trans K2) (fun g j q=>.inl q) (fun g e=>⟨fun j q=>hD u hnb g e (stay u hnb g e (hw.lt e) (hw.off g e).2).2.1 j q,(stay u hnb g e (hw.lt e) (hw.off g e).2).2.2⟩)
 · have hw:=h.rt i u un (by omega) e1 e2
   have hnb:NB u (.slice va n vc):=(p6 u (by refine List.mem_of_getElem? (i:=i-(k+1)) ?_;rw [List.getElem?_drop,show k+1+(i-(k+1))=i by omega];exact e1)).symm;exact hw.keep (fun q e=>(stay u hnb q e (hw.lt e) (hw.off q e).2).1) (K1.trans K2) (fun g j q=>.inl q) (fun g e=>⟨fun j q=>hD u hnb g e (stay u hnb g e (hw.lt e) (hw.off g e).2).2.1 j q,(stay u hnb g e (hw.lt e) (hw.off g e).2).2.2⟩)
 · by_cases q:i<xf.length
   · rw [List.getElem?_append_left q] at e
     obtain ⟨m,L,ho⟩:=h.fr i u e;have hnb:NB u (.slice va n vc):=p5 u (List.mem_of_getElem? e) _ (List.mem_cons.2 (.inl rfl));exact ⟨m,L,ho.keep (fun q e=>(stay u hnb q e (ho.own.lt q e).2 (ho.lim q e).2).1) (fun g e=>⟨fun j q=>hD u hnb g e (stay u hnb g e (ho.own.lt g e).2 (ho.lim g e).2).2.1 j q,(stay u hnb g e (ho.own.lt g e).2 (ho.lim g e).2).2.2⟩)⟩
   · have hi:i=xf.length:=by have:=(List.getElem?_eq_some_iff.1 e).1;simp at this;omega
     subst hi;simp at e;subst e;refine ⟨n,L2,⟨O2,fun g e=>⟨?_,woff g e⟩,hb,hn⟩⟩;rintro j (q | ⟨_,q⟩|⟨off,q⟩);· exact absurd q ((W.off g e).1 j)
     · exact q
     · have h1:=(n4.new g off q).1
       have:=(own2.lt g e).2;omega
 · rintro g j (q | ⟨q,_⟩|⟨off,q⟩)
   · exact h.dS g j q
   · exact h.ins _ (.inl (List.mem_of_getElem? hv)) g q
   · have:=(n4.new g off q).1
     exact .inr (by omega)
 · refine h.ins u ?_
   rcases hu with q | q | q;· exact .inl q
   · exact .inr (.inl q)
   · rcases List.mem_append.1 q with q | q
     · exact .inr (.inr q)
     · simp at q;subst q;exact .inl (List.mem_of_getElem? hv)
theorem Mi.add {w:World} {n vc k4:Nat} {L:List Value} {va a4:Option Addr} (h:Mi κ w0 w B bb rv S D xw xn 0 xo xt [] [] []) (hl:xn.length=xw.length) (hw0:w0.heap.size<=w.heap.size) (hf:Fv bb w rv wx rv') (ho:w.ownsRow B κ.te κ.es (.slice va n vc) n L) (hnl:Nl κ bb rv' w wx a4 n k4 L) (hoff:∀ g,(Value.slice va n vc).ownBlock=some g->(∀ j,¬ D g j)/\Off bb rv g) (hnb:∀ u ∈ xw,NB u (.slice va n vc)) (hS:∀ g,(Value.slice va n vc).ownBlock=some g->S g\/w0.heap.size<=g) (hb:κ.ok L) (hn:n<=1900000) :
 ∃ D',Mi κ w0 wx B bb rv' S D' (xw++[.slice va n vc]) (xn++[.slice a4 n k4]) 0 xo xt [] [] []/\∀ g j,D g j->D' g j:=by
 have h':=h.fv hf;have new:∀ g,g<w.heap.size->∀ j,(D g j\/∃ off,a4=some ⟨g,off,none⟩)->D g j:=fun g hg j q=>by
  rcases q with q | ⟨off,q⟩;· exact q
  · have h1:=(hnl.new g off q).1
    omega
 refine ⟨fun g j=>D g j\/∃ off,a4=some ⟨g,off,none⟩,⟨?_,h'.pd.keep (fun _ _ _=>rfl) (fun g j q=>.inl q),?_,rfl,fun i v vn e=>by simp at e,fun i u un _ e1 e2=>?_,fun i v e=>by simp at e,?_,fun u hu=>?_⟩,fun g j q=>.inl q⟩
 · rintro g j (q | ⟨off,q⟩)
   · exact h'.dk g j q
   · exact (hnl.new g off q).2
 · have hp:List.Pairwise NB xw:=by have:=h.ps;unfold PS at this;simpa using this
   show List.Pairwise NB _;simp only [List.nil_append,List.drop_zero];exact List.pairwise_append.2 ⟨hp,List.pairwise_singleton _ _,fun a ha b hb'=>by simp at hb';subst hb';exact hnb a ha⟩
 · by_cases q:i<xw.length
   · rw [List.getElem?_append_left q] at e1
     rw [List.getElem?_append_left (by rw [hl];exact q)] at e2;have hw:=h.rt i u un (Nat.zero_le _) e1 e2;have hw':=h'.rt i u un (Nat.zero_le _) e1 e2;exact hw'.keep (fun _ _=>rfl) (fun _ _ _=>rfl) (fun g j q=>.inl q) (fun g e=>⟨new g (hw.lt e),(hw'.off g e).2⟩)
   · have hi:i=xw.length:=by have:=(List.getElem?_eq_some_iff.1 e1).1;simp at this;omega
     subst hi;rw [List.getElem?_append_right (Nat.le_refl _)] at e1;rw [List.getElem?_append_right (by rw [hl];exact Nat.le_refl _)] at e2;simp [hl] at e1 e2;subst e1 e2;refine ⟨⟨n,L,a4,k4,hn,zab ho (fun g e=>hf.keep g (ho.lt g e).2 (hoff g e).2),rfl,hnl.cl,fun g off e j hj=>.inr ⟨off,e⟩,hb⟩,fun g e=>⟨fun j q=>(hoff g e).1 j (new g (ho.lt g e).2 j q),hf.off g (ho.lt g e).2 (hoff g e).2⟩⟩
 · rintro g j (q | ⟨off,q⟩)
   · exact h.dS g j q
   · have:=(hnl.new g off q).1
     exact .inr (by omega)
 · rcases hu with q | q | q
   · rcases List.mem_append.1 q with q | q
     · exact h.ins u (.inl q)
     · simp at q;subst q;exact hS
   · cases q
   · cases q
end
end Go.Proofs.YtceigllifjgalaaGreatDoor.Bk
