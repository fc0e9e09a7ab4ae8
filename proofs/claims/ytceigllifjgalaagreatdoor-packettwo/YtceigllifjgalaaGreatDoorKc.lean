import Derived.Test.YtceigllifjgalaaGreatDoorProg
import Derived.WalkSpells
import Derived.WalkLawsBesides
import Derived.Test.YtceigllifjgalaaGreatDoorPt
import Derived.Lib.Strings
import Derived.Lib.AppendZeros
import Derived.Laws.AppendOwnNone
import Derived.Deep.Onto
import Derived.Deep.RegionLaw
import Derived.BigQuiet
import Derived.Deep.Cut
namespace Go.Proofs.YtceigllifjgalaaGreatDoor
open Go.RowKit
set_option linter.unusedSimpArgs false
set_option linter.unusedVariables false
set_option maxHeartbeats 400000
theorem zae (b off j:Nat):(⟨b,off,none⟩:Addr).add j=⟨b,off+j,none⟩:=by
 unfold Addr.add
 split <;> simp_all
open Go Go.RowKit
def RdAt (w:World) (rb:Nat) (bv:Value) (at0 p0 q0:Int):Prop:=w.heap[rb]?=some (.cells #[bv,.int .i64 at0,.int .i64 p0,.int .i64 q0] 268 (0,0))
theorem zab {w:World} {R i t:Nat} {cs:Array Value} (h:w.heap[R]?=some (.cells cs t (0,0))) (v:Value):(w.setCell ⟨R,i,none⟩ v).heap[R]?=some (.cells (cs.setIfInBounds i v) t (0,0)):=by
 simp [World.setCell,Array.getElem?_modify,h]
def chkF (s:ByteArray):Nat→Nat→Nat×Nat
 | 0,_=>(0,0)
 | b+1,k=>if k<s.size then (if atB s k=0 then (k,14) else if point s k=0 then (k,13) else chkF s b (k+point s k)) else (0,0)
def chk (s:ByteArray):Nat×Nat:=if 65535<s.size then (65535,11) else chkF s s.size 0
theorem Tryz.info5:(Tryz.prog.info? 5).map (fun i=>(i.zero,i.size,i.bytes))=some (some (.int .u8 0),1,1):=by kernel_rfl
def Own (w:World) (g n:Nat) (z:Nat→Int):Prop:=(∀ i,0≤z i∧z i≤255)∧∀ i,i<n→w.cell? ⟨g,i,none⟩=some (.int .u8 (z i))
theorem Own.grown {w w':World} {g n rb:Nat} {z:Nat→Int} (h:Own w g n z) (hg:w.grownBy w' (some rb)) (hne:g≠rb):Own w' g n z:=⟨h.1,fun i hi=>hg.cell (h.2 i hi) (by simpa using hne)⟩
theorem RdAt.grown {w w':World} {rb rb':Nat} {bv:Value} {at0 p0 q0:Int} (h:RdAt w rb bv at0 p0 q0) (hg:w.grownBy w' (some rb')) (hne:rb≠rb'):RdAt w' rb bv at0 p0 q0:=(hg.block rb (lt_of_block h) (by simpa using hne)).trans h
end Go.Proofs.YtceigllifjgalaaGreatDoor
namespace Go.Proofs.YtceigllifjgalaaGreatDoor.Bk
open Go Go.RowKit
set_option linter.unusedSimpArgs false
set_option linter.unusedVariables false
theorem zab {w:World} {R i t:Nat} {cs:Array Value} (h:w.heap[R]?=some (.cells cs t (0,0))) (v:Value):(w.setCell ⟨R,i,none⟩ v).heap[R]?=some (.cells (cs.setIfInBounds i v) t (0,0)):=by
 simp [World.setCell,Array.getElem?_modify,h]
theorem zae (b off j:Nat):(⟨b,off,none⟩:Addr).add j=⟨b,off+j,none⟩:=by
 unfold Addr.add
 split <;> simp_all
def BkAt (w:World) (bb:Nat) (cs:Array Value):Prop:=w.heap[bb]?=some (.cells cs 55 (0,0))
theorem za0 {w:World} {bb i:Nat} {cs:Array Value} {v:Value} (h:BkAt w bb cs) (hi:cs[i]?=some v):w.cell? ⟨bb,i,none⟩=some v∧w.frozen? ⟨bb,i,none⟩=false:=by
 unfold BkAt at h
 constructor
 · simp [World.cell?,h,hi]
 · simp [World.frozen?,h]
theorem zbU {cs:Array Value} {i:Nat} {v:Value} (hi:cs[i]?=some v):cs.setIfInBounds i v=cs:=by
 apply Array.ext_getElem?
 intro j
 rw [Array.getElem?_setIfInBounds]
 split
 ·
  rename_i e
  subst e
  split
  · exact hi.symm
  · rename_i h
    rw [Array.getElem?_eq_none (by omega)] at hi
    cases hi
 · rfl
theorem BkAt.same {w:World} {bb i:Nat} {cs:Array Value} {v:Value} (h:BkAt w bb cs) (hi:cs[i]?=some v):BkAt (w.setCell ⟨bb,i,none⟩ v) bb cs:=by
 have q:=zab (i:=i) h v
 rw [zbU hi] at q
 exact q
theorem BkAt.kept {w w':World} {bb:Nat} {cs:Array Value} (h:BkAt w bb cs) (hb:Below w.heap.size w w'):BkAt w' bb cs:=(hb.block bb (lt_of_block h)).trans h
structure Kd where
 c0:Nat
 tl:TypeId
 te:TypeId
 es:Nat
 ok:List Value→Prop
structure Ch (S:Nat→Prop) (w w':World):Prop where
 os:w'.os=w.os
 tape:w'.tape=w.tape
 output:w'.output=w.output
 size:w.heap.size≤w'.heap.size
 block:∀ k,k<w.heap.size→¬ S k→w'.heap[k]?=w.heap[k]?
theorem Ch.refl (S:Nat→Prop) (w:World):Ch S w w:=⟨rfl,rfl,rfl,Nat.le_refl _,fun _ _ _=>rfl⟩
theorem Ch.trans {S S':Nat→Prop} {a b c:World} (h:Ch S a b) (k:Ch S' b c) (hs:∀ j,j<a.heap.size→S' j→S j):Ch S a c :=
 ⟨k.os.trans h.os,k.tape.trans h.tape,k.output.trans h.output,Nat.le_trans h.size k.size,fun j hj hn=>(k.block j (by have:=h.size;omega) (fun q=>hn (hs j hj q))).trans (h.block j hj hn)⟩
theorem Ch.mono {S S':Nat→Prop} {a b:World} (h:Ch S a b) (hs:∀ j,j<a.heap.size→S j→S' j):Ch S' a b:=(Ch.refl S' a).trans h hs
theorem Below.ch {S:Nat→Prop} {a b:World} (h:Below a.heap.size a b):Ch S a b:=⟨h.os,h.tape,h.output,h.size,fun k hk _=>h.block k hk⟩
theorem ch_set {w:World} (hb i:Nat) (v:Value):Ch (fun k=>k=hb) w (w.setCell ⟨hb,i,none⟩ v):=⟨rfl,rfl,rfl,by simp [World.setCell],fun k hk hn=>Below.heap_setCell _ _ _ _ hn⟩
theorem zbR {w w':World} {r:Option Nat} (h:w.grownBy w' r):Ch (fun k=>r=some k) w w':=⟨h.os,h.tape,h.output,h.size,fun k hk hn=>h.block k hk (fun e=>hn e.symm)⟩
theorem za7 {w w':World} {B e s n:Nat} {v:Value} {xs:List Value} (h:w.ownsRow B e s v n xs) (hk:∀ k,v.ownBlock=some k→w'.heap[k]?=w.heap[k]?):w'.ownsRow B e s v n xs:=by
 refine ⟨h.1,?_⟩
 rcases h.2 with h0 | ⟨g,cap,cur,rfl,h1,hg,h2⟩
 · exact .inl h0
 · exact .inr ⟨g,cap,cur,rfl,h1,(hk g rfl).trans hg,h2⟩
def upd {α:Type} (f:Nat→α) (i:Nat) (x:α):Nat→α:=fun j=>if j=i then x else f j
theorem za5 {α:Type} (f:Nat→α) (i:Nat) (x:α):upd f i x i=x:=by simp [upd]
theorem upd_ne {α:Type} (f:Nat→α) {i j:Nat} (x:α) (h:j≠i):upd f i x j=f j:=by simp [upd,h]
def et (tl:Nat) (i:Nat):Nat:=if i<5 then tl else 3
def Off (bb:Nat) (rv:Nat→Value) (g:Nat):Prop:=g≠bb∧∀ i,i<8→(rv i).ownBlock≠some g
structure Fv (bb:Nat) (w:World) (rv:Nat→Value) (w':World) (rv':Nat→Value):Prop where
 sz:w.heap.size≤w'.heap.size
 keep:∀ g,g<w.heap.size→Off bb rv g→w'.heap[g]?=w.heap[g]?
 off:∀ g,g<w.heap.size→Off bb rv g→Off bb rv' g
theorem Fv.trans {bb:Nat} {w w1 w2:World} {rv rv1 rv2:Nat→Value} (h:Fv bb w rv w1 rv1) (k:Fv bb w1 rv1 w2 rv2):Fv bb w rv w2 rv2 :=
 ⟨Nat.le_trans h.sz k.sz,fun g hg ho=>(k.keep g (Nat.lt_of_lt_of_le hg h.sz) (h.off g hg ho)).trans (h.keep g hg ho),fun g hg ho=>k.off g (Nat.lt_of_lt_of_le hg h.sz) (h.off g hg ho)⟩
theorem Fv.below {bb:Nat} {w w':World} {rv:Nat→Value} (h:Below w.heap.size w w'):Fv bb w rv w' rv:=⟨h.size,fun g hg _=>h.block g hg,fun _ _ q=>q⟩
theorem Fv.set {bb:Nat} {w:World} {rv:Nat→Value} (i:Nat) (v:Value):Fv bb w rv (w.setCell ⟨bb,i,none⟩ v) rv:=⟨by simp [World.setCell],fun g _ ho=>Below.heap_setCell _ _ _ _ ho.1,fun _ _ q=>q⟩
structure BR (κ:Kd) (w:World) (bb B:Nat) (cs:Array Value) (rv:Nat→Value) (xs:Nat→List Value):Prop where
 at_:BkAt w bb cs
 fld:∀ i,i<8→cs[κ.c0+i]?=some (rv i)
 own:∀ i,i<8→w.ownsRow B (et κ.tl i) 1 (rv i) (xs i).length (xs i)
 sep:∀ i j,i<8→j<8→i≠j→∀ k,(rv i).ownBlock=some k→(rv j).ownBlock≠some k
 ne:∀ i,i<8→(rv i).ownBlock≠some bb
section
variable {κ:Kd} {w w':World} {bb B:Nat} {cs:Array Value} {rv:Nat→Value} {xs:Nat→List Value}
theorem BR.keep (h:BR κ w bb B cs rv xs) (h1:w'.heap[bb]?=w.heap[bb]?) (h2:∀ i,i<8→∀ k,(rv i).ownBlock=some k→w'.heap[k]?=w.heap[k]?):BR κ w' bb B cs rv xs :=
 ⟨h1.trans h.at_,h.fld,fun i hi=>za7 (h.own i hi) (h2 i hi),h.sep,h.ne⟩
theorem BR.below (h:BR κ w bb B cs rv xs) (hb:Below w.heap.size w w'):BR κ w' bb B cs rv xs :=
 h.keep (hb.block _ (lt_of_block h.at_)) (fun i hi k e=>hb.block _ ((h.own i hi).lt k e).2)
theorem BR.lt (h:BR κ w bb B cs rv xs) {i k:Nat} (hi:i<8) (e:(rv i).ownBlock=some k):k<w.heap.size:=((h.own i hi).lt k e).2
theorem BR.new (h:BR κ w bb B cs rv xs) {g:Nat} (hg:w.heap.size≤g):Off bb rv g :=
 ⟨fun e=>by have:=lt_of_block h.at_;omega,fun i hi e=>by have:=h.lt hi e;omega⟩
theorem BR.cell (h:BR κ w bb B cs rv xs) (i:Nat) (hi:i<8):w.cell? ⟨bb,κ.c0+i,none⟩=some (rv i)∧w.frozen? ⟨bb,κ.c0+i,none⟩=false:=za0 h.at_ (h.fld i hi)
theorem BR.push (h:BR κ w bb B cs rv xs) (i:Nat) (hi:i<8) (x v':Value) (ho:w'.ownsRow B (et κ.tl i) 1 v' ((xs i).length+1) (xs i++[x])) (hg:w.grownBy w' (rv i).ownBlock) (hv:v'.ownBlock=(rv i).ownBlock∨v'.ownBlock=some w.heap.size) :
    BR κ (w'.setCell ⟨bb,κ.c0+i,none⟩ v') bb B (cs.setIfInBounds (κ.c0+i) v') (upd rv i v') (upd xs i (xs i++[x])):=by
  have hbb:w'.heap[bb]?=some (.cells cs 55 (0,0)):=(hg.block bb (lt_of_block h.at_) (fun e=>h.ne i hi e.symm)).trans h.at_
  have hne':v'.ownBlock≠some bb:=by
    intro e
    rcases hv with q | q
    · exact h.ne i hi (q ▸ e)
    · rw [q] at e;cases e;have:=lt_of_block h.at_;omega
  have hcs:κ.c0+i<cs.size:=(Array.getElem?_eq_some_iff.1 (h.fld i hi)).1
  have others:∀ j,j<8→j≠i→w'.ownsRow B (et κ.tl j) 1 (rv j) (xs j).length (xs j):=fun j hj hji=>za7 (h.own j hj) (fun k e=>hg.block k (h.lt hj e) (fun q=>h.sep j i hj hi hji k e q.symm))
  refine ⟨zab (i:=κ.c0+i) hbb v',fun j hj=>?_,fun j hj=>?_,fun a b ha hb hab k ea eb=>?_,fun j hj=>?_⟩
  · by_cases e:j=i
    · subst e;rw [za5];simp [hcs]
    · rw [upd_ne _ _ e,Array.getElem?_setIfInBounds_ne (by omega)];exact h.fld j hj
  · by_cases e:j=i
    · subst e
      rw [za5,za5,List.length_append,List.length_singleton]
      exact ownsRow_setCell_other ho hne' _
    · rw [upd_ne _ _ e,upd_ne _ _ e]
      exact ownsRow_setCell_other (others j hj e) (h.ne j hj) _
  · by_cases e1:a=i
    · subst e1
      rw [za5] at ea
      rw [upd_ne _ _ (Ne.symm hab)] at eb
      rcases hv with q | q
      · exact h.sep a b ha hb hab k (q ▸ ea) eb
      · rw [q] at ea;cases ea
        have:=h.lt hb eb
        omega
    · rw [upd_ne _ _ e1] at ea
      by_cases e2:b=i
      · subst e2
        rw [za5] at eb
        rcases hv with q | q
        · exact h.sep a b ha hb hab k ea (q ▸ eb)
        · rw [q] at eb;cases eb
          have:=h.lt ha ea
          omega
      · rw [upd_ne _ _ e2] at eb
        exact h.sep a b ha hb hab k ea eb
  · by_cases e:j=i
    · subst e;rw [za5];exact hne'
    · rw [upd_ne _ _ e];exact h.ne j hj
theorem BR.nil (h:BR κ w bb B cs rv xs) (i:Nat) (hi:i<8):BR κ (w.setCell ⟨bb,κ.c0+i,none⟩ (.slice none 0 0)) bb B (cs.setIfInBounds (κ.c0+i) (.slice none 0 0)) (upd rv i (.slice none 0 0)) (upd xs i []):=by
 have hcs:κ.c0+i<cs.size:=(Array.getElem?_eq_some_iff.1 (h.fld i hi)).1
 refine ⟨zab (i:=κ.c0+i) h.at_ _,fun j hj=>?_,fun j hj=>?_,fun a b ha hb hab k ea eb=>?_,fun j hj=>?_⟩
 ·
  by_cases e:j=i
  · subst e;rw [za5];simp [hcs]
  · rw [upd_ne _ _ e,Array.getElem?_setIfInBounds_ne (by omega)];exact h.fld j hj
 ·
  by_cases e:j=i
  · subst e
    rw [za5,za5]
    exact ⟨rfl,.inl ⟨rfl,rfl⟩⟩
  · rw [upd_ne _ _ e,upd_ne _ _ e]
    exact ownsRow_setCell_other (h.own j hj) (h.ne j hj) _
 ·
  by_cases e1:a=i
  · subst e1;rw [za5] at ea;cases ea
  ·
   rw [upd_ne _ _ e1] at ea
   by_cases e2:b=i
   · subst e2;rw [za5] at eb;cases eb
   · rw [upd_ne _ _ e2] at eb;exact h.sep a b ha hb hab k ea eb
 ·
  by_cases e:j=i
  · subst e;rw [za5];intro q;cases q
  · rw [upd_ne _ _ e];exact h.ne j hj
theorem BR.other (h:BR κ w bb B cs rv xs) (k:Nat) (hk:k<κ.c0∨κ.c0+8≤k) (v:Value):BR κ (w.setCell ⟨bb,k,none⟩ v) bb B (cs.setIfInBounds k v) rv xs :=
 ⟨zab (i:=k) h.at_ v,fun i hi=>by rw [Array.getElem?_setIfInBounds_ne (by omega)];exact h.fld i hi,fun i hi=>ownsRow_setCell_other (h.own i hi) (h.ne i hi) _,h.sep,h.ne⟩
theorem Fv.nil (i:Nat):Fv bb w rv (w.setCell ⟨bb,κ.c0+i,none⟩ (.slice none 0 0)) (upd rv i (.slice none 0 0)) :=
 ⟨by simp [World.setCell],fun g _ ho=>Below.heap_setCell _ _ _ _ ho.1,fun g hg ho=>⟨ho.1,fun j hj=>by
  by_cases e:j=i
  · subst e;rw [za5];intro q;cases q
  · rw [upd_ne _ _ e];exact ho.2 j hj⟩⟩
end
def CL (κ:Kd) (w:World) (a:Option Addr) (l c:Nat) (L:List Value):Prop :=
 l≤c∧L.length=l*κ.es∧(l=0∨∃ g off,a=some ⟨g,off,none⟩∧∀ j,j<l*κ.es→w.cell? ⟨g,off+j,none⟩=L[j]?)
def InD (κ:Kd) (D:Nat→Nat→Prop) (a:Option Addr) (l:Nat):Prop:=∀ g off,a=some ⟨g,off,none⟩→∀ j,j<l*κ.es→D g (off+j)
def Dk (w:World) (bb:Nat) (rv:Nat→Value) (D:Nat→Nat→Prop):Prop:=∀ g j,D g j→g<w.heap.size∧Off bb rv g
def Keeps (D:Nat→Nat→Prop) (w w':World):Prop:=∀ g j,D g j→w'.cell? ⟨g,j,none⟩=w.cell? ⟨g,j,none⟩
theorem zap {w w':World} {g k:Nat} (h:w'.heap[g]?=w.heap[g]?):w'.cell? ⟨g,k,none⟩=w.cell? ⟨g,k,none⟩:=by
 unfold World.cell?
 simp only [h]
theorem Keeps.trans {D:Nat→Nat→Prop} {a b c:World} (h:Keeps D a b) (k:Keeps D b c):Keeps D a c:=fun g j q=>(k g j q).trans (h g j q)
theorem Dk.keeps {bb:Nat} {rv rv':Nat→Value} {D:Nat→Nat→Prop} {w w':World} (hd:Dk w bb rv D) (h:Fv bb w rv w' rv'):Keeps D w w':=fun g j q=>zap (h.keep g (hd g j q).1 (hd g j q).2)
theorem Dk.fv {bb:Nat} {rv rv':Nat→Value} {D:Nat→Nat→Prop} {w w':World} (hd:Dk w bb rv D) (h:Fv bb w rv w' rv'):Dk w' bb rv' D:=fun g j q=>⟨Nat.lt_of_lt_of_le (hd g j q).1 h.sz,h.off g (hd g j q).1 (hd g j q).2⟩
section
variable {κ:Kd} {w w':World} {bb B:Nat} {rv rv':Nat→Value} {D D':Nat→Nat→Prop} {a b:Option Addr} {l c c' n:Nat} {L:List Value}
theorem CL.keep (h:CL κ w a l c L) (hd:InD κ D a l) (hk:Keeps D w w'):CL κ w' a l c L:=by
 refine ⟨h.1,h.2.1,?_⟩
 rcases h.2.2 with h0 | ⟨g,off,e,hc⟩
 · exact .inl h0
 · exact .inr ⟨g,off,e,fun j hj=>(hk g (off+j) (hd g off e j hj)).trans (hc j hj)⟩
theorem CL.block (h:CL κ w a l c L) (hk:∀ g off,a=some ⟨g,off,none⟩→w'.heap[g]?=w.heap[g]?):CL κ w' a l c L:=by
 refine ⟨h.1,h.2.1,?_⟩
 rcases h.2.2 with h0 | ⟨g,off,e,hc⟩
 · exact .inl h0
 · exact .inr ⟨g,off,e,fun j hj=>(zap (hk g off e)).trans (hc j hj)⟩
theorem CL.below (h:CL κ w a l c L) (hb:Below w.heap.size w w'):CL κ w' a l c L:=by
 refine ⟨h.1,h.2.1,?_⟩
 rcases h.2.2 with h0 | ⟨g,off,e,hc⟩
 · exact .inl h0
 ·
  refine .inr ⟨g,off,e,fun j hj=>?_⟩
  have h1:=hc j hj
  have hj':j<L.length:=by rw [h.2.1];exact hj
  rw [List.getElem?_eq_getElem hj'] at h1 ⊢
  exact cell_later hb h1
theorem InD.mono (h:InD κ D a l) (hd:∀ g j,D g j→D' g j):InD κ D' a l:=fun g off e j hj=>hd _ _ (h g off e j hj)
theorem zaa (h:w.ownsRow B κ.te κ.es (.slice a n c) n L):CL κ w a n c L:=by
 rcases h.2 with ⟨q,h0⟩|⟨g,cap,cur,q,_,hg,hnc,_,hcs,ht⟩
 ·
  injection q with q1 q2 q3
  subst h0
  exact ⟨by omega,h.1,.inl rfl⟩
 ·
  injection q with q1 q2 q3
  subst q1 q3
  refine ⟨hnc,h.1,.inr ⟨g,0,rfl,fun j hj=>?_⟩⟩
  rw [Nat.zero_add]
  exact h.cellAt j (by omega)
theorem zc6 (h:w.ownsRow B κ.te κ.es (.slice a n c) n L) (hd:∀ g,(Value.slice a n c).ownBlock=some g→∀ j,j<n*κ.es→D g j):InD κ D a n:=fun g off e j hj=>by
 subst e
 rcases h.2 with ⟨q,h0⟩|⟨g',cap,cur,q,_⟩
 · subst h0;omega
 ·
  injection q with q1 q2 q3
  injection q1 with q1
  injection q1 with q1 q2
  subst q1 q2
  rw [Nat.zero_add]
  exact hd g rfl j hj
theorem own_sl {te es:Nat} {v:Value} (h:w.ownsRow B te es v n L):∃ a c,v = .slice a n c:=by
 rcases h.2 with ⟨q,h0⟩|⟨g,cap,cur,q,_⟩
 · exact ⟨_,_,h0 ▸ q⟩
 · exact ⟨_,_,q⟩
theorem zbV {te es:Nat} {v:Value} (h:w.ownsRow B te es v n L) {g j:Nat} (hg:v.ownBlock=some g) (hj:j<n*es):w.cell? ⟨g,j,none⟩=L[j]?:=by
 rcases h.2 with ⟨r,_⟩|⟨g',cap,cur,r,_⟩
 · rw [r] at hg;cases hg
 ·
  rw [r] at hg
  have e':g'=g:=by simpa [Value.ownBlock] using hg
  subst e'
  rw [r] at h
  exact h.cellAt j (by omega)
def PD (κ:Kd) (w:World) (D:Nat→Nat→Prop) (xo xt:List Value):Prop :=
 xo.length=xt.length∧∀ i,i<xo.length→∃ a b l c c' L,xo[i]?=some (.slice a l c)∧xt[i]?=some (.slice b l c')∧l≤2000000∧CL κ w a l c L∧CL κ w b l c' L∧InD κ D a l∧InD κ D b l∧κ.ok L
theorem PD.keep {xo xt:List Value} (h:PD κ w D xo xt) (hk:Keeps D w w') (hd:∀ g j,D g j→D' g j):PD κ w' D' xo xt:=by
 refine ⟨h.1,fun i hi=>?_⟩
 obtain ⟨a,b,l,c,c',L,h1,h2,h3,h4,h5,h6,h7,h8⟩:=h.2 i hi
 exact ⟨a,b,l,c,c',L,h1,h2,h3,h4.keep h6 hk,h5.keep h7 hk,h6.mono hd,h7.mono hd,h8⟩
theorem PD.snoc {xo xt:List Value} (h:PD κ w D xo xt) (hl:l≤2000000) (h1:CL κ w a l c L) (h2:CL κ w b l c' L) (d1:InD κ D a l) (d2:InD κ D b l) (hb:κ.ok L):PD κ w D (xo++[.slice a l c]) (xt++[.slice b l c']):=by
 refine ⟨by simp [h.1],fun i hi=>?_⟩
 by_cases q:i<xo.length
 · obtain ⟨a',b',l',k,k',L',e1,e2,rest⟩:=h.2 i q
   exact ⟨a',b',l',k,k',L',by rw [List.getElem?_append_left q];exact e1,by rw [List.getElem?_append_left (by rw [← h.1];exact q)];exact e2,rest⟩
 ·
  have hi':i=xo.length:=by simp at hi;omega
  subst hi'
  exact ⟨a,b,l,c,c',L,by simp,by rw [h.1];simp,hl,h1,h2,d1,d2,hb⟩
theorem PD.nil (w:World) (D:Nat→Nat→Prop):PD κ w D [] []:=⟨rfl,fun i hi=>by simp at hi⟩
end
structure Wt (κ:Kd) (w:World) (B bb:Nat) (rv:Nat→Value) (D:Nat→Nat→Prop) (v vn:Value):Prop where
 ex:∃ n L b c',n≤1900000∧w.ownsRow B κ.te κ.es v n L∧vn = .slice b n c'∧CL κ w b n c' L∧InD κ D b n∧κ.ok L
 off:∀ g,v.ownBlock=some g→(∀ j,¬ D g j)∧Off bb rv g
structure Ol (κ:Kd) (w:World) (B bb:Nat) (rv:Nat→Value) (D:Nat→Nat→Prop) (v:Value) (n:Nat) (L:List Value):Prop where
 own:w.ownsRow B κ.te κ.es v n L
 lim:∀ g,v.ownBlock=some g→(∀ j,D g j→j<n*κ.es)∧Off bb rv g
 one:κ.ok L
 few:n≤1900000
structure Nl (κ:Kd) (bb:Nat) (rv:Nat→Value) (w0 wx:World) (a:Option Addr) (n c:Nat) (L:List Value):Prop where
 cl:CL κ wx a n c L
 new:∀ g off,a=some ⟨g,off,none⟩→w0.heap.size≤g∧g<wx.heap.size∧Off bb rv g
section
variable {κ:Kd} {w w':World} {bb B:Nat} {rv rv':Nat→Value} {D D':Nat→Nat→Prop} {v vn:Value} {n:Nat} {L:List Value}
theorem Wt.keep (h:Wt κ w B bb rv D v vn) (h1:∀ k,v.ownBlock=some k→w'.heap[k]?=w.heap[k]?) (hk:Keeps D w w') (hd:∀ g j,D g j→D' g j) (hn:∀ g,v.ownBlock=some g→(∀ j,D' g j→D g j)∧Off bb rv' g):Wt κ w' B bb rv' D' v vn:=by
 obtain ⟨n,L,b,c',hn',ho,e,hc,hi,hb⟩:=h.ex
 exact ⟨⟨n,L,b,c',hn',za7 ho h1,e,hc.keep hi hk,hi.mono hd,hb⟩,fun g e=>⟨fun j q=>(h.off g e).1 j ((hn g e).1 j q),(hn g e).2⟩⟩
theorem Wt.lt (h:Wt κ w B bb rv D v vn) {g:Nat} (e:v.ownBlock=some g):g<w.heap.size:=by
 obtain ⟨n,L,b,c',hn',ho,_⟩:=h.ex
 exact (ho.lt g e).2
theorem Wt.fv (h:Wt κ w B bb rv D v vn) (hd:Dk w bb rv D) (hf:Fv bb w rv w' rv'):Wt κ w' B bb rv' D v vn :=
 h.keep (fun k e=>hf.keep k (h.lt e) (h.off k e).2) (hd.keeps hf) (fun _ _ q=>q) (fun g e=>⟨fun _ q=>q,hf.off g (h.lt e) (h.off g e).2⟩)
theorem Ol.keep (h:Ol κ w B bb rv D v n L) (h1:∀ k,v.ownBlock=some k→w'.heap[k]?=w.heap[k]?) (h2:∀ g,v.ownBlock=some g→(∀ j,D' g j→D g j)∧Off bb rv' g):Ol κ w' B bb rv' D' v n L :=
 ⟨za7 h.own h1,fun g e=>⟨fun j q=>(h.lim g e).1 j ((h2 g e).1 j q),(h2 g e).2⟩,h.one,h.few⟩
theorem Ol.fv (h:Ol κ w B bb rv D v n L) (hf:Fv bb w rv w' rv'):Ol κ w' B bb rv' D v n L :=
 h.keep (fun k e=>hf.keep k (h.own.lt k e).2 (h.lim k e).2) (fun g e=>⟨fun _ q=>q,hf.off g (h.own.lt g e).2 (h.lim g e).2⟩)
theorem Nl.fv {w0:World} {a:Option Addr} {c:Nat} (h:Nl κ bb rv w0 w a n c L) (hf:Fv bb w rv w' rv'):Nl κ bb rv' w0 w' a n c L :=
 ⟨h.cl.block (fun g off e=>hf.keep g (h.new g off e).2.1 (h.new g off e).2.2),fun g off e=>⟨(h.new g off e).1,Nat.lt_of_lt_of_le (h.new g off e).2.1 hf.sz,hf.off g (h.new g off e).2.1 (h.new g off e).2.2⟩⟩
theorem Nl.old {w0 w1:World} {a:Option Addr} {c:Nat} (h:Nl κ bb rv w0 w a n c L) (hs:w1.heap.size≤w0.heap.size):Nl κ bb rv w1 w a n c L :=
 ⟨h.cl,fun g off e=>⟨Nat.le_trans hs (h.new g off e).1,(h.new g off e).2⟩⟩
end
def NB (v u:Value):Prop:=∀ k,v.ownBlock=some k→u.ownBlock≠some k
theorem NB.symm {v u:Value} (h:NB v u):NB u v:=fun k e q=>h k q e
def PS (l:List Value):Prop:=l.Pairwise NB
theorem ps_get {l:List Value} (h:PS l) {i j:Nat} {v u:Value} (hij:i≠j) (hi:l[i]?=some v) (hj:l[j]?=some u):NB v u:=by
 obtain ⟨h1,e1⟩:=List.getElem?_eq_some_iff.1 hi
 obtain ⟨h2,e2⟩:=List.getElem?_eq_some_iff.1 hj
 rcases Nat.lt_or_gt_of_ne hij with q | q
 ·
  have:=List.pairwise_iff_getElem.1 h i j h1 h2 q
  rw [e1,e2] at this
  exact this
 ·
  have:=List.pairwise_iff_getElem.1 h j i h2 h1 q
  rw [e1,e2] at this
  exact this.symm
theorem zaP {P:Program} (w:World) (base:Nat) (t ty e:TypeId) (i:TypeInfo) (z:Value) (size bytes:Nat) (ht:P.underlying t=some (.slice e)) (hi:P.info? e=some i) (hz:i.zero=some z)
    (hsize:i.size=size) (hby:i.bytes=bytes) (hzs:z.cells.size=size) (hsz:0<size) (v:Value) (n:Nat) (xs:List Value) (hown:w.ownsRow base e size v n xs)
    (a:Addr) (m c:Nat) (news:List Value) (hm:0<m) (hl:news.length=m*size) (hnews:∀ j u,news[j]?=some u→w.cell? (a.add j)=some u) (h1:∀ u ∈ news,u.oneCell'=true)
    (h63:n+m≤maxLen) (hbytes:(n+m)*bytes≤140737488355328) (hbase:base≤w.heap.size) :
    ∃ v' w',(Builtin.append_ #[t,t] ty #[v,.slice (some a) m c]).run P w = .ok v' w'∧w'.ownsRow base e size v' (n+m) (xs++news)∧w.grownBy w' v.ownBlock∧(v'.ownBlock=v.ownBlock∨(v'.ownBlock=some w.heap.size∧Below w.heap.size w w')):=by
  obtain ⟨v',w',hr,h2,h3,h4⟩:=run_append_own (P:=P) w base t ty e i z size bytes ht hi hz hsize hby hzs hsz v n xs hown a m c news hl hnews h1 h63 hbytes hbase
  refine ⟨v',w',hr,h2,h3,?_⟩
  subst hsize hby
  have hsm:n+m≤9223372036854775807:=by simp only [maxLen] at h63;omega
  rcases hown.2 with ⟨rfl,rfl⟩|⟨g,cap,cur,rfl,_,hg,hnc,_,hcs,_⟩
  · have q:=run_append_nil (P:=P) w t ty e i z ht hi hz a m c news hl hnews hm (by omega) (by have hb:=hbytes;simp only [Nat.zero_add] at hb;omega)
    rw [q] at hr
    cases hr
    exact .inr ⟨rfl,(Below.refl w.heap.size w).drew.alloc (Nat.le_refl _) _⟩
  · by_cases hroom:n+m≤cap
    · have q:=run_append_room (P:=P) w t ty e i ht hi g n cap cur hg a m c news hl hnews h1 hroom (by rw [hl,hcs,← Nat.add_mul];exact Nat.mul_le_mul_right _ hroom)
      rw [q] at hr
      cases hr
      exact .inl rfl
    · have q:=run_append_grow (P:=P) w t ty e i z ht hi hz ⟨g,0,none⟩ n cap xs hown.1 (hown.cells (g:=g) rfl) a m c news hl hnews (by omega) (by omega) (growslice_fits (by omega) hbytes)
      rw [q] at hr
      cases hr
      exact .inr ⟨rfl,(Below.refl w.heap.size w).drew.alloc (Nat.le_refl _) _⟩
structure KOk (κ:Kd):Prop where
 rows:∃ inf z,Tryz.prog.info? κ.tl=some inf∧inf.zero=some z∧inf.size=1∧inf.bytes≤24∧z.cells.size=1
 lst:Tryz.prog.underlying κ.tl=some (.slice κ.te)
 elem:∃ inf z,Tryz.prog.info? κ.te=some inf∧inf.zero=some z∧inf.size=κ.es∧inf.bytes≤24∧z.cells.size=κ.es
 pos:0<κ.es∧κ.es≤2
 one:∀ L,κ.ok L→∀ u ∈ L,u.oneCell'=true
 low:4≤κ.c0
theorem binfo3:(Tryz.prog.info? 3).map (fun i=>(i.zero,i.size,i.bytes))=some (some (.int .i64 0),1,8):=by kernel_rfl
theorem einfo {κ:Kd} (hK:KOk κ) (i:Nat):∃ inf z,Tryz.prog.info? (et κ.tl i)=some inf∧inf.zero=some z∧inf.size=1∧inf.bytes≤24∧z.cells.size=1:=by
 unfold et
 split
 · exact hK.rows
 · obtain ⟨q,h1,h2,h3,h4⟩:=info_parts binfo3;exact ⟨q,_,h1,h2,h3,by omega,rfl⟩
structure Pu (κ:Kd) (w w':World) (bb B:Nat) (cs:Array Value) (rv:Nat→Value) (xs:Nat→List Value) (i:Nat) (x v':Value):Prop where
 br:BR κ (w'.setCell ⟨bb,κ.c0+i,none⟩ v') bb B (cs.setIfInBounds (κ.c0+i) v') (upd rv i v') (upd xs i (xs i++[x]))
 gr:w.grownBy w' (rv i).ownBlock
 sl:∃ a n c,v' = .slice a n c
 bk:BkAt w' bb cs
 wh:v'.ownBlock=(rv i).ownBlock∨v'.ownBlock=some w.heap.size
theorem Pu.fv {κ:Kd} {w w':World} {bb B:Nat} {cs:Array Value} {rv:Nat→Value} {xs:Nat→List Value} {i:Nat} {x v':Value} (h:Pu κ w w' bb B cs rv xs i x v') (hi:i<8):Fv bb w rv (w'.setCell ⟨bb,κ.c0+i,none⟩ v') (upd rv i v'):=by
 refine ⟨by have:=h.gr.size;simpa [World.setCell] using this,fun g hg ho=>?_,fun g hg ho=>⟨ho.1,fun j hj=>?_⟩⟩
 · rw [Below.heap_setCell _ _ _ _ ho.1]
   exact h.gr.block g hg (fun e=>ho.2 i hi e.symm)
 ·
  by_cases e:j=i
  ·
   subst e
   rw [za5]
   rcases h.wh with q | q
   · rw [q];exact ho.2 j hj
   · rw [q];intro q;cases q;omega
  · rw [upd_ne _ _ e];exact ho.2 j hj
theorem pu_of {κ:Kd} {w w':World} {bb B:Nat} {cs:Array Value} {rv:Nat→Value} {xs:Nat→List Value} (h:BR κ w bb B cs rv xs) (i:Nat) (hi:i<8) (x v':Value) (ho:w'.ownsRow B (et κ.tl i) 1 v' ((xs i).length+1) (xs i++[x])) (hg:w.grownBy w' (rv i).ownBlock) (hv:v'.ownBlock=(rv i).ownBlock∨v'.ownBlock=some w.heap.size):Pu κ w w' bb B cs rv xs i x v' :=
 ⟨h.push i hi x v' ho hg hv,hg,by
  rcases ho.2 with ⟨h1,_⟩|⟨g,cp,_,h1,_⟩
  · exact ⟨_,_,_,h1⟩
  · exact ⟨_,_,_,h1⟩,(hg.block bb (lt_of_block h.at_) (fun e=>h.ne i hi e.symm)).trans h.at_,hv⟩
theorem zbu {w:World} {g0 t:Nat} {X:List Value} (hg:w.heap[g0]?=some (.cells X.toArray t (0,0))):∀ (j:Nat) (u:Value),X[j]?=some u→w.cell? ((⟨g0,0,none⟩:Addr).add j)=some u:=by
 intro j u hu
 rw [zae,Nat.zero_add]
 simp [World.cell?,hg,hu]
theorem zbB {κ:Kd} (hK:KOk κ) {w:World} (ty t:TypeId) {bb B:Nat} {cs:Array Value} {rv:Nat→Value} {xs:Nat→List Value} (h:BR κ w bb B cs rv xs) (i:Nat) (hi:i<8) (ht:Tryz.prog.underlying t=some (.slice (et κ.tl i))) (g0:Nat) (xv:Value) (hg0:w.heap[g0]?=some (.cells #[xv] (et κ.tl i) (0,0))) (h1:xv.oneCell'=true) (hlen:(xs i).length≤1000000) (hB:B≤w.heap.size) :
    ∃ v' w',(Builtin.append_ #[t,t] ty #[rv i,.slice (some ⟨g0,0,none⟩) 1 1]).run Tryz.prog w = .ok v' w'∧Pu κ w w' bb B cs rv xs i xv v':=by
  obtain ⟨inf,z,hi1,hz,hsz,hb24,hzs⟩:=einfo hK i
  obtain ⟨v',w',hr,h2,h3,h4⟩:=zaP (P:=Tryz.prog) w B t ty (et κ.tl i) inf z 1 inf.bytes ht hi1 hz hsz rfl hzs (by decide) (rv i) (xs i).length (xs i) (h.own i hi) ⟨g0,0,none⟩ 1 1 [xv] (by decide) rfl (zbu hg0) (by intro u hu;simp at hu;subst hu;exact h1) (by unfold maxLen;omega) (by
    have:((xs i).length+1)*inf.bytes≤1000001*24:=Nat.mul_le_mul (by omega) hb24
    omega) hB
  exact ⟨v',w',hr,pu_of h i hi xv v' h2 h3 (h4.imp id (·.1))⟩
theorem za3 {κ:Kd} (hK:KOk κ) {w:World} {ops:Array Oper} {rest:List Oper} {o:Oper} {a:Act} {Q:Exit→Act→World→Prop} (hgd:o.guard=none) (s x:Operand) (t:TypeId) (ho:o.op = .call { callee:=.builtin .append,args:=#[s,x],argTypes:=#[t,t] })
    {bb B:Nat} {cs:Array Value} {rv:Nat→Value} {xs:Nat→List Value} (h:BR κ w bb B cs rv xs) (i:Nat) (hi:i<8) (ht:Tryz.prog.underlying t=some (.slice (et κ.tl i))) (hs:a.eval s=rv i) (g0:Nat) (xv:Value) (hx:a.eval x = .slice (some ⟨g0,0,none⟩) 1 1) (hg0:w.heap[g0]?=some (.cells #[xv] (et κ.tl i) (0,0))) (h1:xv.oneCell'=true) (hlen:(xs i).length≤1000000) (hB:B≤w.heap.size)
    (k:∀ v' w',Pu κ w w' bb B cs rv xs i xv v'→wpList Tryz.prog ops Q rest (a.put o.dst v') w'):wpList Tryz.prog ops Q (o::rest) a w:=by
  refine wpList_plain hgd fun K hK'=>?_
  obtain ⟨v',w',hr,h2⟩:=zbB hK o.type t h i hi ht g0 xv hg0 h1 hlen hB
  unfold Oper.wp
  simp [execOp,ho,resolve,invoke,builtin,hs,hx,hr,Result.andThen]
  exact hK' _ _ (k v' w' h2)
theorem za6 {κ:Kd} (hK:KOk κ) {w:World} {ops:Array Oper} {o:Oper} {a:Act} {K:Act→World→Prop} {Q:Exit→Act→World→Prop} {E:Prop} (hgd:o.guard=none) (s x:Operand) (t:TypeId) (ho:o.op = .call { callee:=.builtin .append,args:=#[s,x],argTypes:=#[t,t] })
    {bb B:Nat} {cs:Array Value} {rv:Nat→Value} {xs:Nat→List Value} (h:BR κ w bb B cs rv xs) (i:Nat) (hi:i<8) (ht:Tryz.prog.underlying t=some (.slice (et κ.tl i))) (hs:a.eval s=rv i) (g0:Nat) (xv:Value) (hx:a.eval x = .slice (some ⟨g0,0,none⟩) 1 1) (hg0:w.heap[g0]?=some (.cells #[xv] (et κ.tl i) (0,0))) (h1:xv.oneCell'=true) (hlen:(xs i).length≤1000000) (hB:B≤w.heap.size)
    (k:∀ v' w',Pu κ w w' bb B cs rv xs i xv v'→K (a.put o.dst v') w'):if Region.wanted o (yielded ops a.tmps)=true then Oper.wp Tryz.prog o a w K Q else E:=by
  have hw:Region.wanted o (yielded ops a.tmps)=true:=by simp [Region.wanted,hgd]
  rw [if_pos hw]
  obtain ⟨v',w',hr,h2⟩:=zbB hK o.type t h i hi ht g0 xv hg0 h1 hlen hB
  unfold Oper.wp
  simp [execOp,ho,resolve,invoke,builtin,hs,hx,hr,Result.andThen]
  exact k v' w' h2
theorem run_append_none {P:Program} {w:World} (t ty e:TypeId) (i:TypeInfo) (ht:P.underlying t=some (.slice e)) (hi:P.info? e=some i) (b:Nat) (hb:w.heap[b]?=some (.cells #[] e (0,0))) (a:Option Addr) (c:Nat) :
    (Builtin.append_ #[t,t] ty #[.slice (some ⟨b,0,none⟩) 0 0,.slice a 0 c]).run P w = .ok (.slice (some ⟨b,0,none⟩) 0 0) w:=by
  cases a with
  | none=>simp [Builtin.append_,run_underlying ht,sizeOf,typeInfo,hi,Builtin.lenOf,Builtin.firstCells,storeCells]
  | some a =>
    have hf:=run_firstCells_some (P:=P) w i.size 0 a 0 c [] (by simp) (by intro j v h;simp at h)
    simp [Builtin.append_,run_underlying ht,sizeOf,typeInfo,hi,Builtin.lenOf,hf,storeCells]
structure Cp (κ:Kd) (w w':World) (n:Nat) (L:List Value) (v':Value):Prop where
 sl:∃ a c,v' = .slice a n c∧CL κ w' a n c L
 be:Below w.heap.size w w'
 new:∀ g,v'.ownBlock=some g→w.heap.size≤g∧g<w'.heap.size
theorem own_empty {w:World} {b e s:Nat} (hb:w.heap[b]?=some (.cells #[] e (0,0))):w.ownsRow b e s (.slice (some ⟨b,0,none⟩) 0 0) 0 [] :=
 ⟨by simp,.inr ⟨b,0,#[],rfl,Nat.le_refl _,hb,Nat.le_refl _,by unfold maxLen;omega,by simp,by simp⟩⟩
theorem copy_run {κ:Kd} (hK:KOk κ) {w wb:World} (ty:TypeId) (hw:Below w.heap.size w wb) (hb:wb.heap[w.heap.size]?=some (.cells #[] κ.te (0,0))) (sa:Option Addr) (n c:Nat) (L:List Value) (hc:CL κ wb sa n c L) (h1:κ.ok L) (hn:n≤2000000) :
    ∃ v' w',(Builtin.append_ #[κ.tl,κ.tl] ty #[.slice (some ⟨w.heap.size,0,none⟩) 0 0,.slice sa n c]).run Tryz.prog wb = .ok v' w'∧Cp κ w w' n L v':=by
  obtain ⟨inf,z,hi1,hz,hsz,hb24,hzs⟩:=hK.elem
  have hlt:=lt_of_block hb
  by_cases h0:n=0
  · subst h0
    have hL:L=[]:=List.eq_nil_of_length_eq_zero (by rw [hc.2.1];omega)
    subst hL
    exact ⟨_,wb,run_append_none κ.tl ty κ.te inf hK.lst hi1 _ hb sa c,⟨_,_,rfl,Nat.le_refl _,by simp,.inl rfl⟩,hw,fun g e=>by cases e;exact ⟨Nat.le_refl _,hlt⟩⟩
  · obtain ⟨g,off,e,hcell⟩:=hc.2.2.resolve_left h0
    subst e
    obtain ⟨v',w',hr,ho,hg,hw'⟩:=zaP (P:=Tryz.prog) wb w.heap.size κ.tl ty κ.te inf z κ.es inf.bytes hK.lst hi1 hz hsz rfl hzs hK.pos.1 _ 0 [] (own_empty hb) ⟨g,off,none⟩ n c L (by omega) hc.2.1 (fun j u hu=>by
      have hj:j<n*κ.es:=by have:=(List.getElem?_eq_some_iff.1 hu).1;rw [hc.2.1] at this;exact this
      rw [zae,hcell j hj,hu]) (hK.one _ h1) (by unfold maxLen;omega) (by
        have:(0+n)*inf.bytes≤2000000*24:=Nat.mul_le_mul (by omega) hb24
        omega) (Nat.le_of_lt hlt)
    rw [Nat.zero_add,List.nil_append] at ho
    obtain ⟨a',c',e'⟩:=own_sl ho
    subst e'
    refine ⟨_,w',hr,⟨a',c',rfl,zaa ho⟩,⟨hg.os.trans hw.os,hg.tape.trans hw.tape,hg.output.trans hw.output,Nat.le_trans hw.size hg.size,fun k hk=>(hg.block k (by have:=hw.size;omega) (fun q=>absurd (show k=w.heap.size by simpa [Value.ownBlock] using q) (by omega))).trans (hw.block k hk)⟩,fun q e=>⟨?_,(ho.lt q e).2⟩⟩
    rcases hw' with q' | ⟨q',_⟩
    · rw [q'] at e;cases e;exact Nat.le_refl _
    · rw [q'] at e;cases e;exact hw.size
theorem zah {κ:Kd} (hK:KOk κ) {w wb:World} {ops:Array Oper} {o:Oper} {a:Act} {K:Act→World→Prop} {Q:Exit→Act→World→Prop} {E:Prop} (hgd:o.guard=none) (s x:Operand) (ho:o.op = .call { callee:=.builtin .append,args:=#[s,x],argTypes:=#[κ.tl,κ.tl] })
    (hs:a.eval s = .slice (some ⟨w.heap.size,0,none⟩) 0 0) (hw:Below w.heap.size w wb) (hb:wb.heap[w.heap.size]?=some (.cells #[] κ.te (0,0))) (sa:Option Addr) (n c:Nat) (L:List Value) (hx:a.eval x = .slice sa n c) (hc:CL κ wb sa n c L) (h1:κ.ok L) (hn:n≤2000000)
    (k:∀ v' w',Cp κ w w' n L v'→K (a.put o.dst v') w'):if Region.wanted o (yielded ops a.tmps)=true then Oper.wp Tryz.prog o a wb K Q else E:=by
  have hw':Region.wanted o (yielded ops a.tmps)=true:=by simp [Region.wanted,hgd]
  rw [if_pos hw']
  obtain ⟨v',w',hr,hcp⟩:=copy_run hK o.type hw hb sa n c L hc h1 hn
  unfold Oper.wp
  simp [execOp,ho,resolve,invoke,builtin,hs,hx,hr,Result.andThen]
  exact k v' w' hcp
theorem Cp.nl {κ:Kd} {w w':World} {n c bb B:Nat} {L:List Value} {a:Option Addr} {cs:Array Value} {rv:Nat→Value} {xs:Nat→List Value} (h:Cp κ w w' n L (.slice a n c)) (hr:BR κ w bb B cs rv xs):Nl κ bb rv w w' a n c L:=by
 obtain ⟨a',c',e,hc⟩:=h.sl
 cases e
 exact ⟨hc,fun g off e=>by
  subst e
  have:=h.new g rfl
  exact ⟨this.1,this.2,hr.new this.1⟩⟩
structure Gw (κ:Kd) (w wx:World) (B n i:Nat) (v gv:Value) (L M:List Value):Prop where
 own:wx.ownsRow B κ.te κ.es gv (n+i) (L++M)
 ch:Ch (fun k=>v.ownBlock=some k) w wx
 keep:∀ g,v.ownBlock=some g→∀ j,j<n*κ.es→wx.cell? ⟨g,j,none⟩=w.cell? ⟨g,j,none⟩
 wh:gv.ownBlock=v.ownBlock∨∃ k,gv.ownBlock=some k∧w.heap.size≤k
section
variable {κ:Kd} {w wx w':World} {B n i:Nat} {v gv gv':Value} {L M X:List Value}
theorem Gw.start (h:w.ownsRow B κ.te κ.es v n L):Gw κ w w B n 0 v v L [] :=
 ⟨by simpa using h,Ch.refl _ _,fun _ _ _ _=>rfl,.inl rfl⟩
theorem Gw.below (h:Gw κ w wx B n i v gv L M) (ho:w.ownsRow B κ.te κ.es v n L) (hb:Below wx.heap.size wx w'):Gw κ w w' B n i v gv L M:=by
 refine ⟨za7 h.own (fun k e=>hb.block k (h.own.lt k e).2),Ch.trans (S':=fun _=>False) h.ch (Below.ch hb) (fun _ _ q=>q.elim),fun g e j hj=>?_,h.wh⟩
 rw [← h.keep g e j hj]
 exact zap (hb.block g (Nat.lt_of_lt_of_le (ho.lt g e).2 h.ch.size))
theorem Gw.push (h:Gw κ w wx B n i v gv L M) (hv:w.ownsRow B κ.te κ.es v n L) (ho:w'.ownsRow B κ.te κ.es gv' (n+i+1) (L++M++X)) (hg:wx.grownBy w' gv.ownBlock) (hw:gv'.ownBlock=gv.ownBlock∨(gv'.ownBlock=some wx.heap.size∧Below wx.heap.size wx w')):Gw κ w w' B n (i+1) v gv' L (M++X):=by
 have hs:=h.ch.size
 have hnn:n*κ.es≤(n+i)*κ.es:=Nat.mul_le_mul_right _ (by omega)
 have hnn':n*κ.es≤(n+i+1)*κ.es:=Nat.mul_le_mul_right _ (by omega)
 refine ⟨by rw [← List.append_assoc];exact ho,?_,fun g e j hj=>?_,?_⟩
 ·
  refine Ch.trans (S':=fun k=>gv.ownBlock=some k) h.ch (zbR hg) (fun j hj q=>?_)
  rcases h.wh with e | ⟨k,e,hk⟩
  · exact e ▸ q
  · rw [e] at q;cases q;omega
 ·
  have hlt:g<wx.heap.size:=Nat.lt_of_lt_of_le (hv.lt g e).2 hs
  rw [← h.keep g e j hj]
  by_cases q:gv.ownBlock=some g
  · rcases hw with e' | ⟨e',hb⟩
    · rw [zbV ho (e'.trans q) (by omega),zbV h.own q (by omega),List.getElem?_append_left (by have:=h.own.1;omega)]
    · exact zap (hb.block g hlt)
  · exact zap (hg.block g hlt (fun e=>q e.symm))
 ·
  rcases hw with e' | ⟨e',_⟩
  · rw [e'];exact h.wh
  · exact .inr ⟨_,e',hs⟩
theorem zay (hK:KOk κ) {ops:Array Oper} {rest:List Oper} {o:Oper} {a:Act} {Q:Exit→Act→World→Prop} (hgd:o.guard=none) (s x:Operand) (ho:o.op = .call { callee:=.builtin .append,args:=#[s,x],argTypes:=#[κ.tl,κ.tl] })
    (h:Gw κ w wx B n i v gv L M) (hv:w.ownsRow B κ.te κ.es v n L) (hs:a.eval s=gv) (g0:Nat) (hX:X.length=κ.es) (hx:a.eval x = .slice (some ⟨g0,0,none⟩) 1 1) (hg0:wx.heap[g0]?=some (.cells X.toArray κ.te (0,0))) (h1:κ.ok X) (hlen:n+i≤2000000) (hB:B≤wx.heap.size)
    (k:∀ gv' w',Gw κ w w' B n (i+1) v gv' L (M++X)→(∃ a c,gv' = .slice a (n+i+1) c)→wpList Tryz.prog ops Q rest (a.put o.dst gv') w'):wpList Tryz.prog ops Q (o::rest) a wx:=by
  refine wpList_plain hgd fun K hK'=>?_
  obtain ⟨inf,z,hi1,hz,hsz,hb24,hzs⟩:=hK.elem
  obtain ⟨v',w',hr,h2,h3,h4⟩:=zaP (P:=Tryz.prog) wx B κ.tl o.type κ.te inf z κ.es inf.bytes hK.lst hi1 hz hsz rfl hzs hK.pos.1 gv (n+i) (L++M) h.own ⟨g0,0,none⟩ 1 1 X (by decide) (by rw [hX,Nat.one_mul]) (zbu hg0) (hK.one _ h1) (by unfold maxLen;omega) (by
    have:(n+i+1)*inf.bytes≤2000001*24:=Nat.mul_le_mul (by omega) hb24
    omega) hB
  unfold Oper.wp
  simp [execOp,ho,resolve,invoke,builtin,hs,hx,hr,Result.andThen]
  exact hK' _ _ (k v' w' (h.push hv h2 h3 h4) (own_sl h2))
end
end Go.Proofs.YtceigllifjgalaaGreatDoor.Bk
