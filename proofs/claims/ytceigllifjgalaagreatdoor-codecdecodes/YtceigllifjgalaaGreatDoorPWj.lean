import Derived.Test.YtceigllifjgalaaGreatDoorPTa
import Derived.Test.YtceigllifjgalaaGreatDoorPWe
namespace Go.Proofs.YtceigllifjgalaaGreatDoor.Pkt
open Go Go.RowKit
set_option linter.unusedSimpArgs false
set_option linter.unusedVariables false
set_option maxRecDepth 1000000
set_option maxHeartbeats 1000000
section
variable {w:World} {g k:Nat} {s:ByteArray}
def ix (r:Nat):Int:=if r=43 then 0 else if r=35 then 1 else -1
theorem ix_ascii:∀ r:Fin 128,Lib.indexByte (⟨#[43,35]⟩:ByteArray).data.toList ((r.val:Int)).toNat.toUInt8=ix r.val:=by decide
theorem zeK (r:Nat) (w:World):Calls Tryz.prog 325 #[.string ⟨#[43,35]⟩,.int .i32 (r:Int)] w fun e w'=>e = .returned (.int .i64 (ix r))/\Below w.heap.size w w':=by
 by_cases h:r<128;· have:=Tryz.strings_IndexRune_ascii ⟨#[43,35]⟩ (r:Int) w (by omega) (by omega);refine this.mono ?_;rintro e w' ⟨rfl,rfl⟩;refine ⟨?_,Below.refl _ _⟩;rw [<-ix_ascii ⟨r,h⟩]
 ·
  have e:ix r = -1:=by simp [ix];omega
  rw [e];by_cases h2:r=65533;· subst h2;exact rune_err w
  · cases hv:Lib.validRune (r:Int) with | false=>exact rune_bad r (by omega) (by omega) hv w;| true=>exact rune_good r (by omega) (by omega) hv w
def sgF (s:ByteArray):Nat->Nat->Bool | 0,_=>false | b+1,k=>if k<s.size then (if (Utf8.decode s k).1=43\/(Utf8.decode s k).1=35 then true else sgF s b (k+(Utf8.decode s k).2)) else false
theorem sgF_end (s:ByteArray) (b k:Nat) (h:¬ k<s.size):sgF s b k=false:=by cases b with | zero=>rfl | succ b=>simp [sgF,h]
theorem sgF_hit (s:ByteArray) (b k r n:Nat) (h:k<s.size) (hb:s.size<=k+b) (hd:Utf8.decode s k=(r,n)) (hr:r=43\/r=35):sgF s b k=true:=by cases b with | zero=>omega | succ b=>simp only [sgF,h,if_true,hd,hr]
theorem sgF_step (s:ByteArray) (b k r n:Nat) (h:k<s.size) (hb:s.size<=k+b) (hd:Utf8.decode s k=(r,n)) (hn:1<=n) (hr:¬ (r=43\/r=35)):∃ b',sgF s b k=sgF s b' (k+n)/\s.size<=k+n+b':=by cases b with | zero=>omega | succ b=>exact ⟨b,by simp only [sgF,h,if_true,hd,hr,if_false],by omega⟩
def setIt (w:World) (g:Nat) (s:ByteArray) (k:Nat):World:={ w with heap:=w.heap.setIfInBounds g (.stringIter s k) }
theorem zcg {k':Nat} (h:w.heap[g]?=some (.stringIter s k)):(setIt w g s k').heap[g]?=some (.stringIter s k'):=by
 have hg:g<w.heap.size:=by
  rcases Nat.lt_or_ge g w.heap.size with h1 | h1;· exact h1
  · rw [Array.getElem?_eq_none h1] at h;cases h
 show (w.heap.setIfInBounds g (.stringIter s k'))[g]?=_;rw [Array.getElem?_setIfInBounds];simp [hg]
theorem zbO {B:Nat} {w0:World} (hb:Below B w0 w) (g:Nat) (hg:B<=g) (s:ByteArray) (k:Nat):Below B w0 (setIt w g s k):=by refine hb.trans ⟨rfl,rfl,rfl,by simp [setIt],fun i hi=>?_⟩;show (w.heap.setIfInBounds g (.stringIter s k))[i]?=_;rw [Array.getElem?_setIfInBounds,if_neg (by omega)]
theorem zb2 {o:Obj} (h:w.heap[g]?=some o):g<w.heap.size:=by
 rcases Nat.lt_or_ge g w.heap.size with h1 | h1;· exact h1
 · rw [Array.getElem?_eq_none h1] at h;cases h
theorem zd7 (h:w.heap[g]?=some (.stringIter s k)):w.iterPos g=k:=by simp [World.iterPos,h]
theorem zea (hit:w.heap[g]?=some (.stringIter s k)) (ty:TypeId) (h:k<s.size) (r n:Nat) (hd:Utf8.decode s k=(r,n)) :
 (Instr.next (.pointer (some ⟨g,0,none⟩)) true ty).run Tryz.prog w = .ok (.tuple #[.bool true,.int .i64 k,.int .i32 r]) (setIt w g s (k+n)):=by
 simp only [Instr.next,getObj,setObj,Sem.run_bind,Sem.run,hit,Result.andThen,h,if_true,hd];simp [goInt,setIt]
theorem zdm (hit:w.heap[g]?=some (.stringIter s k)) (ty:TypeId) (h:¬ k<s.size) : (Instr.next (.pointer (some ⟨g,0,none⟩)) true ty).run Tryz.prog w = .ok (.tuple #[.bool false]) w:=by simp [Instr.next,getObj,Sem.run,hit,h]
theorem indexAny_short (s:ByteArray) (h8:s.size<=8) (w:World):Calls Tryz.prog 316 #[.string s,.string ⟨#[43,35]⟩] w fun e w'=>∃ x:Int,e = .returned (.int .i64 x)/\decide (0<=x)=sgF s s.size 0/\Below w.heap.size w w':=by
 have h8z:decide ((8:Int)<(s.size:Int))=false:=decide_eq_false (by omega);go_enter Tryz.func316,Tryz.ntmps316;go_wp2_with (go_at_call 326;refine (Tryz.strings_shouldUseASCIISet _ _).mono ?_;rintro e w' ⟨rfl,he⟩;obtain rfl:=he.symm;clear he;rw [h8z]);go_loopw [9,10] (fun i c w'=>∃ k b:Nat,Hid (Below w.heap.size w w')/\Hid (w'.heap[w.heap.size]?=some (.stringIter s k))/\Hid (sgF s s.size 0=sgF s b k)/\s.size<=k+b) (fun _ _ w'=>s.size-w'.iterPos w.heap.size);case atStart=>exact ⟨0,s.size,zaV _ _ _,World.iter_heap w s 0,rfl,by omega⟩
 case round =>
  obtain ⟨k,b,B,hit,hc,hb⟩:=hrel;have hpos:=zd7 hit.out;by_cases hlt:k<s.size;·
   obtain ⟨r,n,hd⟩:∃ r n,Utf8.decode s k=(r,n):=⟨_,_,rfl⟩;have hn:1<=n:=by have:=width_pos s k;rw [hd] at this;exact this
   have hnx:=fun ty=>zea hit.out ty hlt r n hd;have hit2:=zcg (k':=k+n) hit.out;have B2:=zbO B.out w.heap.size (Nat.le_refl _) s (k+n);generalize setIt wr w.heap.size s (k+n)=w2 at *;have HB2:=Hi B2;have HI2:=Hi hit2;clear B2 hit2;by_cases hr:r=43\/r=35;·
    have HS:=Hi (hc.out.trans (sgF_hit s b k r n hlt hb hd hr));have hx:(0:Int)<=ix r:=by rcases hr with rfl | rfl <;> decide
    have HK:=Hi (Int.natCast_nonneg k);clear hd hr hc;go_wp2_with (go_at_call 325;refine (zeK _ _).mono ?_;rintro e w3 ⟨rfl,hb3⟩;have B3:Hid (Below w.heap.size w w3):=HB2.out.trans (hb3.mono HB2.out.size);clear hb3);go_ret;exact ⟨_,rfl,by rw [HS.out];exact decide_eq_true HK.out,B3.out⟩
   ·
    obtain ⟨b',e1,e2⟩:=sgF_step s b k r n hlt hb hd hn hr;have HS:=Hi (hc.out.trans e1);have hx:¬ (0:Int)<=ix r:=by have h1:¬ r=43:=fun h=>hr (.inl h);have h2:¬ r=35:=fun h=>hr (.inr h);simp [ix,h1,h2]
    clear hd hr hc e1;go_wp2_with (go_at_call 325;refine (zeK _ _).mono ?_;rintro e w3 ⟨rfl,hb3⟩;have B3:Hid (Below w.heap.size w w3):=HB2.out.trans (hb3.mono HB2.out.size);have I3:Hid (w3.heap[w.heap.size]?=some (.stringIter s (k+n))):=(hb3.block _ (zb2 HI2.out)).trans HI2.out;clear hb3);go_roundw;case rel=>exact ⟨k+n,b',B3,I3,HS,e2⟩
    case measure=>rw [zd7 I3.out,hpos];omega
  · have hnx:=fun ty=>zdm hit.out ty hlt;have HS:=Hi (hc.out.trans (sgF_end s b k hlt));go_wp2;go_ret;exact ⟨_,rfl,by rw [HS.out];rfl,B.out⟩
end
end Go.Proofs.YtceigllifjgalaaGreatDoor.Pkt
set_option maxRecDepth 100000
namespace Go.Proofs.YtceigllifjgalaaGreatDoor.Pkt
open Go Go.RowKit
set_option linter.unusedSimpArgs false
set_option linter.unusedVariables false
def sgn (s:ByteArray):Bool:=if 8<s.size then decide (0<=Lib.indexAny s.data.toList [43,35]) else sgF s s.size 0
theorem indexAny_any (s:ByteArray) (hs:s.size<=65535) (w:World):Calls Tryz.prog 316 #[.string s,.string ⟨#[43,35]⟩] w fun e w'=>∃ x:Int,e = .returned (.int .i64 x)/\decide (0<=x)=sgn s/\Below w.heap.size w w':=by
 by_cases h:8<s.size;· have:=Tryz.strings_IndexAny_long (fun w=>(zero_of_info (P:=Tryz.prog) (t:=329) (n:=256) (by kernel_rfl)).1 w) s ⟨#[43,35]⟩ w (by decide) h (by omega) (by decide) (fun j b hj=>by match j,hj with | 0,hj=>simp at hj;subst hj;decide | 1,hj=>simp at hj;subst hj;decide | j+2,hj=>simp at hj);refine this.mono ?_;rintro e w' ⟨rfl,rfl⟩;exact ⟨_,rfl,by simp only [sgn,h,if_true],((Below.refl _ _).alloc (Nat.le_refl _) _).alloc (by simp) _⟩
 · rw [show sgn s=sgF s s.size 0 by simp [sgn,h]]
   exact indexAny_short s (by omega) w
theorem zbr (s:ByteArray) (hs:s.size<=65535) (w:World):Calls Tryz.prog 299 #[.string s,.string ⟨#[43,35]⟩] w fun e w'=>e = .returned (.bool (sgn s))/\Below w.heap.size w w':=by go_enter Tryz.func299,Tryz.ntmps299;go_wp2_with (go_at_call 316;refine (indexAny_any s hs _).mono ?_;rintro e w1 ⟨x,rfl,hx,hb⟩;have HX:Hid (decide (0<=x)=sgn s):=hx;have B1:Hid (Below w.heap.size w w1):=hb;clear hx hb);go_ret;exact ⟨by rw [<-HX.out];rfl,B1.out⟩
def ct (s:ByteArray):Int:=if s.size=0 then 50 else if txt s then 0 else 51
theorem zaE (s:ByteArray) (w:World):Calls Tryz.prog 298 #[.string s] w fun e w'=>e = .returned (.int .i64 (ct s))/\Below w.heap.size w w':=by
 by_cases h0:s.size=0;·
  have he:s.toList.isEmpty=true:=by
   have h:=zaY s;cases hx:s.toList.isEmpty with
   | true=>rfl;| false => rw [hx,h0] at h;cases h
  rw [show ct s=50 by simp [ct,h0]];go_enter Tryz.func298,Tryz.ntmps298;go_wp2;go_ret;exact ⟨rfl,Below.refl _ _⟩
 ·
  have he:s.toList.isEmpty=false:=by
   have h:=zaY s;cases hx:s.toList.isEmpty with
   | false=>rfl;| true =>
    rw [hx] at h;have hz:(s.size != 0)=true:=by simp [h0]
    rw [hz] at h;cases h
  cases ht:txt s with
  | true =>
   have hc:((chk s).2:Int)=0:=by have:=ht;unfold txt at this;simpa using this
   rw [show ct s=0 by simp [ct,h0,ht]];clear ht h0;go_enter Tryz.func298,Tryz.ntmps298;go_wp2_with (go_at_call 272;refine (zcI s _).mono ?_;rintro e w1 ⟨rfl,hb,_⟩;have B1:Hid (Below w.heap.size w w1):=hb;clear hb;rw [hc]);go_ret;exact ⟨rfl,B1.out⟩
  | false =>
   have hc:(((chk s).2:Int) != 0)=true:=by have:=ht;unfold txt at this;simpa using this
   rw [show ct s=51 by simp [ct,h0,ht]];clear ht h0;go_enter Tryz.func298,Tryz.ntmps298;go_wp2_with (go_at_call 272;refine (zcI s _).mono ?_;rintro e w1 ⟨rfl,hb,_⟩;have B1:Hid (Below w.heap.size w w1):=hb;clear hb);go_ret;exact ⟨rfl,B1.out⟩
theorem zds {s:ByteArray} (h:txt s=true):s.size<=65535:=by
 unfold txt chk at h;by_cases h1:65535<s.size;· simp [h1] at h
 · omega
set_option maxHeartbeats 2000000
section
variable {w:World} {base g k n:Nat} {s:ByteArray} {v:Value} {xs:List Value}
def lvs (s:ByteArray):Nat->Nat->Nat->List ByteArray | 0,f,_=>[s.extract f s.size] | b+1,f,i=>if i<s.size then (if atB s i=47 then s.extract f i::lvs s b (i+1) (i+1) else lvs s b f (i+1)) else [s.extract f s.size]
def levels (s:ByteArray):List ByteArray:=lvs s s.size 0 0
theorem zff (s:ByteArray) (b f i:Nat) (h:¬ i<s.size):lvs s b f i=[s.extract f s.size]:=by cases b with | zero=>rfl | succ b=>simp [lvs,h]
theorem zf5 (s:ByteArray) (b f i:Nat) (h:i<s.size) (hb:s.size<=i+b) (hc:atB s i=47):∃ b',lvs s b f i=s.extract f i::lvs s b' (i+1) (i+1)/\s.size<=i+1+b':=by cases b with | zero=>omega | succ b=>exact ⟨b,by simp [lvs,h,hc],by omega⟩
theorem lvs_on (s:ByteArray) (b f i:Nat) (h:i<s.size) (hb:s.size<=i+b) (hc:¬ atB s i=47):∃ b',lvs s b f i=lvs s b' f (i+1)/\s.size<=i+1+b':=by cases b with | zero=>omega | succ b=>exact ⟨b,by simp [lvs,h,hc],by omega⟩
def hsN (s:ByteArray):Nat->Bool | 0=>false | n+1=>hsN s n || (atB s n==43) || (atB s n==35)
def hasS (s:ByteArray):Bool:=hsN s s.size
theorem zcY (s:ByteArray) (n:Nat):hsN s n=true↔∃ i,i<n/\(atB s i=43\/atB s i=35):=by
 induction n with
 | zero=>simp [hsN];| succ n ih =>
  simp only [hsN,Bool.or_eq_true,beq_iff_eq,ih];constructor;·
   rintro ((⟨i,h1,h2⟩ | h) | h);· exact ⟨i,by omega,h2⟩
   · exact ⟨n,by omega,.inl h⟩
   · exact ⟨n,by omega,.inr h⟩
  ·
   rintro ⟨i,h1,h2⟩;by_cases e:i=n
   · subst e
     rcases h2 with h2 | h2;· exact .inl (.inr h2)
     · exact .inr h2
   · exact .inl (.inl ⟨i,by omega,h2⟩)
theorem dec_sg (c d e f:Nat):1<=(dec c d e f).2/\(dec c d e f).2<=4/\(((dec c d e f).1=43\/(dec c d e f).1=35)↔(c=43\/c=35))/\(2<=(dec c d e f).2->128<=d)/\(3<=(dec c d e f).2->128<=e)/\(4<=(dec c d e f).2->128<=f):=by
 unfold dec;by_cases k1:c<0x80;· rw [if_pos k1];simp
 rw [if_neg k1];by_cases k2:c / 32=6/\d / 64=2;·
  rw [if_pos k2];split;· simp only;omega
  · simp only;omega
 rw [if_neg k2];by_cases k3:c / 16=14/\d / 64=2/\e / 64=2;·
  rw [if_pos k3];split;· simp only;omega
  · simp only;omega
 rw [if_neg k3];by_cases k4:c / 8=30/\d / 64=2/\e / 64=2/\f / 64=2;·
  rw [if_pos k4];split;· simp only;omega
  · simp only;omega
 rw [if_neg k4];simp only;omega
theorem zcB (s:ByteArray):∀ (b f i:Nat) (t:ByteArray),t ∈ lvs s b f i->t.size<=s.size
 | 0,f,i,t,h=>by simp only [lvs,List.mem_singleton] at h;subst h;simp [ByteArray.size_extract];| b+1,f,i,t,h=>by
  unfold lvs at h;split at h;·
   rename_i hi;split at h
   · rcases List.mem_cons.1 h with h | h
     · subst h;simp [ByteArray.size_extract];omega
     · exact zcB s b _ _ t h
   · exact zcB s b _ _ t h
  · simp only [List.mem_singleton] at h
    subst h;simp [ByteArray.size_extract]
theorem zek (s:ByteArray):∀ (b f i:Nat),1<=(lvs s b f i).length
 | 0,f,i=>by simp [lvs];| b+1,f,i=>by
  unfold lvs;split
  · split
    · simp
    · exact zek s b _ _
  · simp
theorem zcq (s:ByteArray):∀ (b f i:Nat),(lvs s b f i).length<=b+1
 | 0,f,i=>by simp [lvs];| b+1,f,i=>by
  unfold lvs;split
  · split
    · have:=zcq s b (i+1) (i+1);simp;omega
    · have:=zcq s b f (i+1);omega
  · simp
theorem zaZ:(⟨#[35]⟩:ByteArray).toList=[35]:=by rw [Lib.toList_data]
def isHash (t:ByteArray):Bool:=t.toList==(⟨#[35]⟩:ByteArray).toList
def lvX (t:ByteArray) (more:Bool):Bool:=(hasS t && decide (1<t.size)) || (isHash t && more)
def lvAny:List ByteArray->Bool | []=>false | t::r=>lvX t (!r.isEmpty) || lvAny r
def rfc (s:ByteArray):Int:=if ct s=0 then (if lvAny (levels s) then 52 else 0) else ct s
abbrev Bs:=List UInt8
def unB (s:ByteArray):Bs:=s.data.toList
theorem zf1 (s:ByteArray):(unB s).length=s.size:=by simp [unB]
theorem atB_un (s:ByteArray) (i:Nat):atB s i=((unB s)[i]?.getD 0).toNat:=zcC s i
def Row (w:World) (v:Value) (xs:List ByteArray):Prop := ∃ a n cap,v = .slice a n cap/\n=xs.length/\n<=cap/\(xs≠[]->∃ g o,a=some ⟨g,o,none⟩/\g<w.heap.size/\∀ k x,xs[k]?=some x->w.cell? ⟨g,o+k,none⟩=some (.string x))
theorem zeM (s:ByteArray):s.toList=unB s:=Lib.toList_data s
theorem eq_two (s t:ByteArray):(s.toList==t.toList)=decide (unB s=unB t):=by rw [zeM,zeM];by_cases h:unB s=unB t <;> simp [h]
theorem eq_one (s:ByteArray) (c:UInt8):(s.toList==(⟨#[c]⟩:ByteArray).toList)=decide (unB s=[c]):=eq_two s ⟨#[c]⟩
theorem countB (s:ByteArray) (c:UInt8):Lib.countByte s.data.toList c<=s.size:=by unfold Lib.countByte;have:=List.count_le_length (a:=c) (l:=s.data.toList);simpa using this
theorem dec_sl (c d e f:Nat):((dec c d e f).1=47↔c=47)/\(c=47->(dec c d e f).2=1):=by
 unfold dec;by_cases k1:c<0x80;· rw [if_pos k1];simp
 rw [if_neg k1];by_cases k2:c / 32=6/\d / 64=2;·
  rw [if_pos k2];split;· simp only;omega
  · simp only;omega
 rw [if_neg k2];by_cases k3:c / 16=14/\d / 64=2/\e / 64=2;·
  rw [if_pos k3];split;· simp only;omega
  · simp only;omega
 rw [if_neg k3];by_cases k4:c / 8=30/\d / 64=2/\e / 64=2/\f / 64=2;·
  rw [if_pos k4];split;· simp only;omega
  · simp only;omega
 rw [if_neg k4];simp only;omega
theorem zeo (s:ByteArray) (f:Nat):∀ (n b k:Nat),k+n<=s.size->s.size<=k+b->(∀ j,k<=j->j<k+n->¬ atB s j=47)->∃ b',lvs s b f k=lvs s b' f (k+n)/\s.size<=k+n+b' | 0,b,k,_,hb,_=>⟨b,rfl,hb⟩ | n+1,b,k,hk,hb,h=>by obtain ⟨b1,e1,e2⟩:=lvs_on s b f k (by omega) hb (h k (Nat.le_refl _) (by omega));obtain ⟨b2,e3,e4⟩:=zeo s f n b1 (k+1) (by omega) e2 (fun j h1 h2=>h j (by omega) (by omega));exact ⟨b2,by rw [e1,e3,show k+1+n=k+(n+1) by omega],by omega⟩
theorem zf6 (s:ByteArray) (k r n:Nat) (hk:k<s.size) (hd:Utf8.decode s k=(r,n)):1<=n/\k+n<=s.size/\(r=47↔atB s k=47)/\(r=47->n=1)/\(¬ r=47->∀ j,k<=j->j<k+n->¬ atB s j=47):=by
 have h1:=dec_sl (atB s k) (atB s (k+1)) (atB s (k+2)) (atB s (k+3));have h2:=dec_sg (atB s k) (atB s (k+1)) (atB s (k+2)) (atB s (k+3));rw [<-zbJ,hd] at h1 h2;simp only at h1 h2;obtain ⟨n1,n4,_,g2,g3,g4⟩:=h2;have a1:=zbe s (k+1);have a2:=zbe s (k+2);have a3:=zbe s (k+3);refine ⟨n1,?_,h1.1,fun h=>h1.2 (h1.1.1 h),?_⟩;·
  have hc:n=1\/n=2\/n=3\/n=4:=by omega
  rcases hc with rfl | rfl | rfl | rfl;· omega
  · have:=a1 (by have:=g2 (by omega);omega);omega
  · have:=a2 (by have:=g3 (by omega);omega);omega
  · have:=a3 (by have:=g4 (by omega);omega);omega
 ·
  intro hr j j1 j2 hj;have hc:j=k\/j=k+1\/j=k+2\/j=k+3:=by omega
  rcases hc with rfl | rfl | rfl | rfl;· exact hr (h1.1.2 hj)
  · have:=g2 (by omega);omega
  · have:=g3 (by omega);omega
  · have:=g4 (by omega);omega
theorem iter_grown {w':World} {row:Option Nat} (h:w.heap[g]?=some (.stringIter s k)) (hg:w.grownBy w' row) (hne:some g≠row):w'.heap[g]?=some (.stringIter s k):=by rw [hg.block g (zb2 h) hne];exact h
theorem row_iter (h:w.ownsRow base 9 1 v n xs) (hi:w.heap[g]?=some (.stringIter s k)):some g≠v.ownBlock:=by
 rcases h.2 with ⟨rfl,_⟩|⟨q,cap,cur,rfl,_,hq,_⟩;· intro e;cases e
 · intro e;have e':g=q:=Option.some.inj e;subst e';rw [hi] at hq;cases hq
theorem row_setIt {k':Nat} (h:w.ownsRow base 9 1 v n xs) (hi:w.heap[g]?=some (.stringIter s k)):(setIt w g s k').ownsRow base 9 1 v n xs:=by
 refine ⟨h.1,?_⟩;rcases h.2 with h2 | ⟨q,cap,cur,rfl,hb,hq,h3⟩;· exact .inl h2
 ·
  refine .inr ⟨q,cap,cur,rfl,hb,?_,h3⟩;have hne:¬ g=q:=by rintro rfl;rw [hi] at hq;cases hq
  show (w.heap.setIfInBounds g (.stringIter s k'))[q]?=_;rw [Array.getElem?_setIfInBounds,if_neg hne];exact hq
theorem tlevels_any (s:ByteArray) (hs:s.size<=1000000) (w:World):Calls Tryz.prog 301 #[.string s] w fun e w'=>∃ v,e = .returned v/\w'.ownsRow w.heap.size 9 1 v (levels s).length ((levels s).map Value.string)/\Below w.heap.size w w':=by
 obtain ⟨i0,hi,hz0,hz1,hz2⟩:∃ i0,Tryz.prog.info? 9=some i0/\i0.zero=some (.string ⟨#[]⟩)/\i0.size=1/\i0.bytes=16:=⟨_,rfl,rfl,rfl,rfl⟩;have HS:=Hi hs;have HT:Hid (levels s=[]++lvs s s.size 0 0):=rfl;obtain ⟨n,hn,hn2⟩:∃ n:Nat,Lib.countByte s.data.toList 47=n/\n<=1000000:=⟨_,rfl,Nat.le_trans (countB s 47) hs⟩;have hw:IntKind.i64.wrap ((n:Int)+1)=(n:Int)+1:=by rw [IntKind.wrap_i64];omega
 obtain ⟨wm,hmk,hom,hgm⟩:=run_make_own (P:=Tryz.prog) w w.heap.size 27 9 i0 (.string ⟨#[]⟩) 1 Tryz.underlying27 hi hz0 hz1 .i64 .i64 (n+1) (by rw [hz2];omega) (by unfold maxLen;omega) (Nat.le_refl _);have hmk':(Instr.makeSlice 27 (.int .i64 0) (.int .i64 ((n:Int)+1))).run Tryz.prog w = .ok (.slice (some ⟨w.heap.size,0,none⟩) 0 (n+1)) wm:=hmk;have bm:Below w.heap.size w wm:=⟨hgm.os,hgm.tape,hgm.output,hgm.size,fun k hk=>hgm.block k hk (fun e=>by cases e)⟩;have I0:=Hi (World.iter_heap wm s 0);have B0:=Hi (bm.trans ((zaV wm s 0).mono bm.size));have O0:Hid ((wm.iter s 0).ownsRow w.heap.size 9 1 (.slice (some ⟨w.heap.size,0,none⟩) 0 (n+1)) 0 []):=hom.alloc _;have HL0:=Hi bm.size;clear hs hn2 hmk hom hgm bm;go_enter Tryz.func301,Tryz.ntmps301;go_wp2_with (go_at_call 317;refine (Tryz.strings_Count_one s 47 _).mono ?_;rintro e w' ⟨rfl,hee⟩;obtain rfl:=hee.symm;clear hee;rw [hn]);clear hmk';go_loopg [3,4] s.size (fun g s3 s4 wx=>∃ (f i b:Nat) (xs:List ByteArray),f<=i/\i<=s.size/\g=s.size-i/\s4 = .int .i64 f/\Hid (wx.heap[wm.heap.size]?=some (.stringIter s i))/\Hid (wx.ownsRow w.heap.size 9 1 s3 xs.length (xs.map Value.string))/\Hid (Below w.heap.size w wx)/\Hid (levels s=xs++lvs s b f i)/\Hid (s.size<=i+b)/\Hid (xs.length<=i));case atStart=>exact ⟨0,0,s.size,[],Nat.le_refl _,Nat.zero_le _,rfl,rfl,I0,O0,B0,HT,by show _<=_;omega,Nat.le_refl _⟩
 case round =>
  obtain ⟨f,i,b,xs,hfi,hisz,rfl,rfl,HI,HO,HB,HL,HF,HN⟩:=hrel;by_cases hlt:i<s.size;·
   obtain ⟨r,m,hd⟩:∃ r m,Utf8.decode s i=(r,m):=⟨_,_,rfl⟩;obtain ⟨m1,m2,m3,m4,m5⟩:=zf6 s i r m hlt hd;have hnx:=fun ty=>zea HI.out ty hlt r m hd;have hit2:=zcg (k':=i+m) HI.out;have B2:=zbO HB.out wm.heap.size HL0.out s (i+m);have O2:=row_setIt (k':=i+m) HO.out HI.out;generalize setIt wr wm.heap.size s (i+m)=w2 at *;have HB2:=Hi B2;have HI2:=Hi hit2;have HO2:=Hi O2;clear B2 hit2 O2 hd HI HO HB;have hw1:IntKind.i64.wrap ((i:Int)+1)=(i:Int)+1:=by rw [IntKind.wrap_i64];have:=HS.out;omega
   by_cases h47:r=47;·
    obtain rfl:=m4 h47;have HC:=Hi (m3.1 h47);subst h47;have hfi':(f:Int)<=i:=by omega
    have hisz':(i:Int)<=s.size:=by omega
    clear m1 m2 m3 m4 m5;go_wp2_with (at_builtin;refine wpList_append_own _ rfl (.tmp 19) (.tmp 24) 27 rfl w.heap.size 9 i0 (.string ⟨#[]⟩) 1 16 Tryz.underlying27 hi hz0 hz1 hz2 rfl (by decide) _ _ _ rfl (HO2.out.alloc _) ⟨_,0,none⟩ 1 1 [.string (s.extract f i)] rfl rfl ?d1 ?d2 ?d3 ?d4 ?d5 ?_);case d1=>exact cell_one_new _ _ _
    case d2=>intro u hu;simp at hu;subst hu;rfl
    case d3=>have:=HN.out;have:=HS.out;unfold maxLen;omega
    case d4=>have:=HN.out;have:=HS.out;omega
    case d5=>have:=HB2.out.size;simp;omega
    intro v2 w3 hown2 hgrow2 hnil2;have hb2:=(HB2.out.alloc HB2.out.size _).grown hgrow2 (by have:=HB2.out.size;simp;omega) (by intro q hq;exact (HO2.out.lt _ hq).1);have hi3:=iter_grown (g:=wm.heap.size) (k:=i+1) (s:=s) (by rw [heap_alloc_old _ _ (zb2 HI2.out)];exact HI2.out) hgrow2 (row_iter HO2.out HI2.out);obtain ⟨b',e1,e2⟩:=zf5 s b f i hlt HF.out HC.out;have HI3:=Hi hi3;have HO3:Hid (w3.ownsRow w.heap.size 9 1 v2 (xs++[s.extract f i]).length ((xs++[s.extract f i]).map Value.string)):=by show World.ownsRow _ _ _ _ _ _ _;simpa using hown2
    have HB3:=Hi hb2;have HL3:Hid (levels s=(xs++[s.extract f i])++lvs s b' (i+1) (i+1)):=by show _=_;rw [HL.out,e1];simp
    have HF3:=Hi e2;have HN3:Hid ((xs++[s.extract f i]).length<=i+1):=by show _<=_;have:=HN.out;simp;omega
    clear hown2 hgrow2 hnil2 hb2 e1 e2 hi3;go_wp2;go_roundg (s.size-(i+1));case measure=>omega
    case rel=>exact ⟨i+1,i+1,b',xs++[s.extract f i],Nat.le_refl _,by omega,by omega,by first | rfl | simp,HI3,HO3,HB3,HL3,HF3,HN3⟩
   ·
    have h47':((r:Int)==47)=false:=by rw [beq_eq_false_iff_ne];omega
    obtain ⟨b',e1,e2⟩:=zeo s f m b i m2 HF.out (m5 h47);have HL3:Hid (levels s=xs++lvs s b' f (i+m)):=by show _=_;rw [HL.out,e1]
    have HF3:=Hi e2;have HN3:Hid (xs.length<=i+m):=Nat.le_trans HN.out (by omega);have HM:Hid (1<=m/\i+m<=s.size):=⟨m1,m2⟩;clear h47 e1 e2 m1 m2 m3 m4 m5;go_wp2;go_roundg (s.size-(i+m));case measure=>have:=HM.out;omega
    case rel=>exact ⟨f,i+m,b',xs,by omega,HM.out.2,by omega,rfl,HI2,HO2,HB2,HL3,HF3,HN3⟩
  ·
   obtain rfl:i=s.size:=by omega
   have hnx:=fun ty=>zdm HI.out ty hlt;have hfi':(f:Int)<=s.size:=by omega
   have HE:Hid (levels s=xs++[s.extract f s.size]):=by show _=_;rw [HL.out,zff s b f _ hlt]
   go_wp2_with (at_builtin;refine wpList_append_own _ rfl (.tmp 28) (.tmp 32) 27 rfl w.heap.size 9 i0 (.string ⟨#[]⟩) 1 16 Tryz.underlying27 hi hz0 hz1 hz2 rfl (by decide) _ _ _ rfl (HO.out.alloc _) ⟨_,0,none⟩ 1 1 [.string (s.extract f s.size)] rfl rfl (cell_one_new _ _ _) ?x2 ?x3 ?x4 ?x5 ?_);any_goals first | rfl | (intro u hu;simp at hu;subst hu;rfl;done)|(have:=HN.out;have:=HS.out;unfold maxLen;omega;done)|(have:=HN.out;have:=HS.out;omega;done)|(have:=HB.out.size;simp;omega;done)
   intro v2 w2 hown2 hgrow2 hnil2;have hb2:=(HB.out.alloc HB.out.size _).grown hgrow2 (by have:=HB.out.size;simp;omega) (by intro q hq;exact (HO.out.lt _ hq).1);have HO2:Hid (w2.ownsRow w.heap.size 9 1 v2 (levels s).length ((levels s).map Value.string)):=by show World.ownsRow _ _ _ _ _ _ _;rw [HE.out];simpa using hown2
   have HB2:=Hi hb2;clear hown2 hgrow2 hnil2 hb2;go_wp2;go_ret;exact ⟨v2,rfl,HO2.out,HB2.out⟩
end
set_option maxHeartbeats 4000000
theorem zeO (v c d e f:Nat) (hv:v<128):((dec c d e f).1=v↔c=v):=by
 unfold dec;by_cases k1:c<0x80;· rw [if_pos k1]
 rw [if_neg k1];by_cases k2:c / 32=6/\d / 64=2;·
  rw [if_pos k2];split;· simp only;omega
  · simp only;omega
 rw [if_neg k2];by_cases k3:c / 16=14/\d / 64=2/\e / 64=2;·
  rw [if_pos k3];split;· simp only;omega
  · simp only;omega
 rw [if_neg k3];by_cases k4:c / 8=30/\d / 64=2/\e / 64=2/\f / 64=2;·
  rw [if_pos k4];split;· simp only;omega
  · simp only;omega
 rw [if_neg k4];simp only;omega
def NoS (s:ByteArray) (j:Nat):Prop:=¬ atB s j=43/\¬ atB s j=35
theorem rune_sign (s:ByteArray) (k r n:Nat) (hk:k<s.size) (hd:Utf8.decode s k=(r,n)):1<=n/\k+n<=s.size/\(r=43↔atB s k=43)/\(r=35↔atB s k=35)/\(¬ r=43->¬ r=35->∀ j,k<=j->j<k+n->NoS s j):=by
 have h1:=zeO 43 (atB s k) (atB s (k+1)) (atB s (k+2)) (atB s (k+3)) (by decide);have h1':=zeO 35 (atB s k) (atB s (k+1)) (atB s (k+2)) (atB s (k+3)) (by decide);have h2:=dec_sg (atB s k) (atB s (k+1)) (atB s (k+2)) (atB s (k+3));obtain ⟨g1,g5,_⟩:=zf6 s k r n hk hd;rw [<-zbJ,hd] at h1 h2 h1';simp only at h1 h2 h1';obtain ⟨_,n4,_,g2,g3,g4⟩:=h2;refine ⟨g1,g5,h1,h1',?_⟩;intro hr hr' j j1 j2;have hc:j=k\/j=k+1\/j=k+2\/j=k+3:=by omega
 rcases hc with rfl | rfl | rfl | rfl;· exact ⟨fun h=>hr (h1.2 h),fun h=>hr' (h1'.2 h)⟩
 · have:=g2 (by omega);exact ⟨by omega,by omega⟩
 · have:=g3 (by omega);exact ⟨by omega,by omega⟩
 · have:=g4 (by omega);exact ⟨by omega,by omega⟩
theorem zdj (t:ByteArray):isHash t=true↔unB t=[35]:=by unfold isHash;rw [eq_one];simp
theorem one_byte (t:ByteArray) (h:t.size=1):unB t=[UInt8.ofNat (atB t 0)]:=by
 have hl:(unB t).length=1:=by rw [zf1];exact h
 match hu:unB t,hl with | [c],_ => have:=atB_un t 0;rw [hu] at this;simp at this;rw [this];simp
theorem zdW (t:ByteArray) (h:isHash t=true):t.size=1/\atB t 0=35:=by
 have h1:=(zdj t).1 h;have h2:(unB t).length=1:=by rw [h1];rfl
 refine ⟨by rw [<-zf1];exact h2,?_⟩;rw [atB_un,h1];rfl
theorem zeB (t:ByteArray) (more:Bool) (h:∀ j,j<t.size->NoS t j):lvX t more=false:=by
 have h1:hasS t=false:=by
  cases hh:hasS t with
  | false=>rfl;| true =>
   obtain ⟨i,hi,h2⟩:=(zcY t t.size).1 hh;have:=h i hi;rcases h2 with h2 | h2;· exact absurd h2 this.1
   · exact absurd h2 this.2
 have h2:isHash t=false:=by cases hh:isHash t with | false=>rfl | true => obtain ⟨a,b⟩:=zdW t hh;exact absurd b (h 0 (by omega)).2
 simp [lvX,h1,h2]
theorem zej (t:ByteArray) (more:Bool) (k:Nat) (hk:k<t.size) (h:atB t k=43\/atB t k=35) (h1:1<t.size):lvX t more=true:=by have:hasS t=true:=(zcY t t.size).2 ⟨k,hk,h⟩;simp [lvX,this,h1]
theorem lvX_plus (t:ByteArray) (more:Bool) (hk:0<t.size) (h:atB t 0=43) (h1:¬ 1<t.size):lvX t more=false:=by
 have h2:isHash t=false:=by cases hh:isHash t with | false=>rfl | true => obtain ⟨a,b⟩:=zdW t hh;omega
 simp [lvX,h1,h2]
theorem lvX_hash (t:ByteArray) (more:Bool) (hk:0<t.size) (h:atB t 0=35) (h1:¬ 1<t.size):lvX t more=more:=by have h2:isHash t=true:=(zdj t).2 (by rw [one_byte t (by omega),h];rfl);simp [lvX,h1,h2]
theorem zc2 (l:List ByteArray) (v:Value) (w:World) (R:Row w v l) (hl:l.length<=1000001) (hz:∀ t ∈ l,t.size<=1000000):Calls Tryz.prog 300 #[v] w fun e w'=>e = .returned (.bool (lvAny l))/\Below w.heap.size w w':=by
 obtain ⟨x,hx⟩:∃ x,x=lvAny l:=⟨_,rfl⟩;rw [<-hx];have HX:=Hi hx;obtain ⟨a,n,cap,rfl,hn,hc,hrow⟩:=R;have HN:Hid (n=l.length/\n<=cap/\l.length<=1000001):=⟨hn,hc,hl⟩;have HZ:=Hi hz;have HA:=Hi hrow;clear hx hn hc hl hz hrow;go_enter Tryz.func300,Tryz.ntmps300;go_wp2_with fail;go_step3;go_wp2_with fail;go_step3;go_wp2_with fail;go_loopg [3,10] n (fun gg s3 s10 wx=>∃ k:Nat,k<=n/\gg=n-k/\s3 = .bool false/\s10 = .int .i64 k/\Hid (Below w.heap.size w wx)/\Hid (x=lvAny (l.drop k)));case atStart=>exact ⟨0,Nat.zero_le _,rfl,rfl,rfl,Below.refl _ _,HX⟩
 case round =>
  obtain ⟨k,hk,rfl,rfl,rfl,B,HE⟩:=hrel;by_cases hlt:k<n;·
   have hlt':(k:Int)<n:=by omega
   obtain ⟨t,ht⟩:∃ t,l[k]?=some t:=⟨_,List.getElem?_eq_getElem (by have:=HN.out.1;omega)⟩;obtain ⟨g,o,rfl,hg,hcells⟩:=HA.out (fun e=>by subst e;simp at ht);have c1:wr.cell? ⟨g,o+k,none⟩=some (.string t):=by rw [B.out.cell (by exact hg)];exact hcells k t ht
   have hcap:=HN.out.2.1;have hw:IntKind.i64.wrap ((k:Int)+1)=(k:Int)+1:=by rw [IntKind.wrap_i64];have:=HN.out;omega
   have hw2:IntKind.i64.wrap ((n:Int)-1)=(n:Int)-1:=by rw [IntKind.wrap_i64];have:=HN.out;omega
   have HS:Hid (lvAny (l.drop k)=(lvX t (decide (k+1<n)) || lvAny (l.drop (k+1)))):=by
    show _=_;obtain ⟨hi,e⟩:=List.getElem?_eq_some_iff.1 ht;have hnn:=HN.out.1;rw [List.drop_eq_getElem_cons hi,e];simp only [lvAny];congr 2;by_cases hm:k+1<n;· rw [decide_eq_true hm];cases hd:List.drop (k+1) l with | nil=>have:=congrArg List.length hd;simp at this;omega;| cons a r=>rfl
    · rw [decide_eq_false hm,List.drop_eq_nil_of_le (by omega)];rfl
   have HBad:Hid (lvX t (decide (k+1<n))=true->x=true):=fun h=>by rw [HE.out,HS.out,h];rfl
   have HOk:Hid (lvX t (decide (k+1<n))=false->x=lvAny (l.drop (k+1))):=fun h=>by rw [HE.out,HS.out,h];rfl
   have HTz:Hid (t.size<=1000000):=HZ.out t (List.mem_of_getElem? ht);obtain ⟨w0,hw0⟩:∃ w0,w0=wr:=⟨_,rfl⟩;have BI:Hid (Below w.heap.size w (w0.iter t 0)):=by show Below _ _ _;rw [hw0];exact B.out.trans ((zaV wr t 0).mono B.out.size)
   have BH:Hid (w.heap.size<=w0.heap.size):=by show w.heap.size<=w0.heap.size;rw [hw0];exact B.out.size
   have II:=Hi (World.iter_heap w0 t 0);rw [<-hw0] at c1 ⊢;clear hw0 B HS HE hcells ht hg;have P0:Hid ((0<t.size->∀ j,j<0->NoS t j)/\(¬ 0<t.size->lvX t (decide (k+1<n))=false)):=⟨fun _ j hj=>by omega,fun h=>zeB t _ (fun j hj=>by omega)⟩;obtain ⟨more,hmore⟩:∃ more,more=decide (k+1<n):=⟨_,rfl⟩;rw [<-hmore] at HBad HOk P0;have hmI:decide ((k:Int)<(n:Int)-1)=more:=by rw [hmore];exact decide_eq_decide.2 (by omega)
   clear hmore;go_wp2_with fail;go_loopg [3] t.size (fun g2 s3 wy=>∃ q:Nat,q<=t.size/\g2=t.size-q/\s3 = .bool false/\Hid (Below w.heap.size w wy)/\Hid (wy.heap[w0.heap.size]?=some (.stringIter t q))/\Hid ((q<t.size->∀ j,j<q->NoS t j)/\(¬ q<t.size->lvX t more=false)));case atStart=>exact ⟨0,Nat.zero_le _,rfl,rfl,BI,II,P0⟩
   case round =>
    obtain ⟨q,hq,rfl,rfl,B,HI,HP⟩:=hrel;by_cases hqt:q<t.size;·
     obtain ⟨r,m,hd⟩:∃ r m,Utf8.decode t q=(r,m):=⟨_,_,rfl⟩;obtain ⟨m1,m2,m3,m4,m5⟩:=rune_sign t q r m hqt hd;have hnx:=fun ty=>zea HI.out ty hqt r m hd;have hit2:=zcg (k':=q+m) HI.out;have B2:=zbO B.out w0.heap.size BH.out t (q+m);generalize setIt wr w0.heap.size t (q+m)=w2 at *;have HB2:=Hi B2;have HI2:=Hi hit2;clear B2 hit2 hd HI B;by_cases h43:r=43;·
      subst h43;have hat:=m3.1 rfl;by_cases h1:1<t.size
      · have h1':(1:Int)<t.size:=by omega
        have HR:Hid (x=true):=HBad.out (zej t _ q hqt (.inl hat) h1);clear m1 m2 m3 m4 m5 hat h1;go_wp2_with fail;try rw [Exit.noGoto_ret]
        go_ret;exact ⟨by rw [HR.out];rfl,HB2.out⟩
      ·
       have h1':¬ (1:Int)<t.size:=by omega
       obtain rfl:q=0:=by omega
       have HF:Hid (lvX t more=false):=lvX_plus t _ hqt hat h1;have HM:Hid (1<=m/\0+m<=t.size):=⟨m1,m2⟩;have HP2:Hid ((0+m<t.size->∀ j,j<0+m->NoS t j)/\(¬ 0+m<t.size->lvX t more=false)):=⟨fun h=>by omega,fun _=>HF.out⟩;clear m1 m2 m3 m4 m5 hat h1;go_wp2_with fail;go_roundg (t.size-(0+m));case measure=>have:=HM.out;omega
       case rel=>exact ⟨0+m,HM.out.2,rfl,rfl,HB2,HI2,HP2⟩
     have e43:((r:Int)==43)=false:=by rw [beq_eq_false_iff_ne];omega
     by_cases h35:r=35;·
      subst h35;have hat:=m4.1 rfl;by_cases h1:1<t.size
      · have h1':(1:Int)<t.size:=by omega
        have HR:Hid (x=true):=HBad.out (zej t _ q hqt (.inr hat) h1);clear m1 m2 m3 m4 m5 hat h1;go_wp2_with fail;try rw [Exit.noGoto_ret]
        go_ret;exact ⟨by rw [HR.out];rfl,HB2.out⟩
      ·
       have h1':¬ (1:Int)<t.size:=by omega
       obtain rfl:q=0:=by omega
       have HV:Hid (lvX t more=more):=lvX_hash t _ hqt hat h1;cases more with
       | true =>
        have hmI':(k:Int)<(n:Int)-1:=of_decide_eq_true hmI;have HR:=Hi (HBad.out HV.out);clear m1 m2 m3 m4 m5 hat h1;go_wp2_with fail;try rw [Exit.noGoto_ret]
        go_ret;exact ⟨by rw [HR.out];rfl,HB2.out⟩
       | false =>
        have hmI':¬ (k:Int)<(n:Int)-1:=of_decide_eq_false hmI;have HM:Hid (1<=m/\0+m<=t.size):=⟨m1,m2⟩;have HP2:Hid ((0+m<t.size->∀ j,j<0+m->NoS t j)/\(¬ 0+m<t.size->lvX t false=false)):=⟨fun h=>by omega,fun _=>HV.out⟩;clear m1 m2 m3 m4 m5 hat h1;go_wp2_with fail;go_roundg (t.size-(0+m));case measure=>have:=HM.out;omega
        case rel=>exact ⟨0+m,HM.out.2,rfl,rfl,HB2,HI2,HP2⟩
     have e35:((r:Int)==35)=false:=by rw [beq_eq_false_iff_ne];omega
     have HM:Hid (1<=m/\q+m<=t.size):=⟨m1,m2⟩;have hno:∀ j,j<q+m->NoS t j:=fun j hj=>by
      by_cases hjq:j<q;· exact HP.out.1 hqt j hjq
      · exact m5 h43 h35 j (by omega) hj
     have HP2:Hid ((q+m<t.size->∀ j,j<q+m->NoS t j)/\(¬ q+m<t.size->lvX t more=false)):=⟨fun _=>hno,fun h=>zeB t _ (fun j hj=>hno j (by omega))⟩;clear m1 m2 m3 m4 m5 hno h43 h35;go_wp2_with fail;go_roundg (t.size-(q+m));case measure=>have:=HM.out;omega
     case rel=>exact ⟨q+m,HM.out.2,rfl,rfl,HB2,HI2,HP2⟩
    ·
     have hnx:=fun ty=>zdm HI.out ty hqt;have HE2:=Hi (HOk.out (HP.out.2 hqt));go_wp2_with fail;go_roundg (n-(k+1));case measure=>omega
     case rel=>exact ⟨k+1,by omega,by omega,rfl,by first | rfl | simp,B,HE2⟩
  ·
   obtain rfl:k=n:=by omega
   have hlt':¬ (k:Int)<k:=by omega
   have HR:Hid (x=false):=by show _=_;rw [HE.out,List.drop_eq_nil_of_le (by have:=HN.out.1;omega)];rfl
   go_wp2_with fail;try rw [Exit.noGoto_ret]
   go_ret;exact ⟨by rw [HR.out];rfl,B.out⟩
theorem row_of {w:World} {B:Nat} {v:Value} {xs:List ByteArray} (ho:w.ownsRow B 9 1 v xs.length (xs.map Value.string)):Row w v xs:=by
 rcases ho.2 with ⟨rfl,h⟩|⟨g,cap,cur,rfl,hb,hg,hnc,hm,hcs,htk⟩;· exact ⟨none,0,0,rfl,h.symm,Nat.le_refl _,fun hne=>absurd (List.eq_nil_of_length_eq_zero h) hne⟩
 ·
  refine ⟨_,_,cap,rfl,rfl,hnc,fun hne=>⟨g,0,rfl,zb2 hg,fun k x hk=>?_⟩⟩;have hlt:k<xs.length:=by
   rcases Nat.lt_or_ge k xs.length with h | h;· exact h
   · rw [List.getElem?_eq_none h] at hk;cases hk
  rw [Nat.zero_add,ho.cellAt k (by omega)];simp [List.getElem?_map,hk]
theorem zd5 (s:ByteArray):(levels s).length<=s.size+1:=zcq s s.size 0 0
theorem zcP (s t:ByteArray) (h:t ∈ levels s):t.size<=s.size:=zcB s s.size 0 0 t h
theorem zcW (s:ByteArray) (hs:s.size<=1000000) (w:World):Calls Tryz.prog 301 #[.string s] w fun e w'=>∃ v,e = .returned v/\Row w' v (levels s)/\Below w.heap.size w w':=by refine (tlevels_any s hs w).mono ?_;rintro e w' ⟨v,rfl,ho,hb⟩;exact ⟨v,rfl,row_of ho,hb⟩
def tcode (s:ByteArray):Int:=if ct s=0 then (if sgn s then 52 else 0) else ct s
def fcode (s:ByteArray):Int:=rfc s
def flt (s:ByteArray):Bool:=fcode s==0
def topb (s:ByteArray):Bool:=tcode s==0
theorem zeS {s:ByteArray} (hc:ct s=0):s.size<=65535:=by
 unfold ct at hc;by_cases h0:s.size=0;· omega
 · cases h:txt s with | true=>exact zds h | false=>simp [h0,h] at hc
theorem zbl (s:ByteArray) (w:World):Calls Tryz.prog 273 #[.string s] w fun e w'=>e = .returned (.int .i64 (tcode s))/\Below w.heap.size w w':=by
 by_cases hc:ct s=0;·
  have hs:=zeS hc;cases hg:sgn s with
  | true => rw [show tcode s=52 by simp [tcode,hc,hg]];go_enter Tryz.func273,Tryz.ntmps273;go_wp2_with (go_at_call 298;refine (zaE s _).mono ?_;rintro e w1 ⟨rfl,hb⟩;have B1:Hid (Below w.heap.size w w1):=hb;clear hb;rw [hc]);go_must (go_at_call 299);refine (zbr s hs _).mono ?_;rintro e w2 ⟨rfl,hb⟩;have B2:=Hi (B1.out.trans (hb.mono B1.out.size));clear hb;rw [hg];go_wp2;go_ret;exact ⟨rfl,B2.out⟩;| false => rw [show tcode s=0 by simp [tcode,hc,hg]];go_enter Tryz.func273,Tryz.ntmps273;go_wp2_with (go_at_call 298;refine (zaE s _).mono ?_;rintro e w1 ⟨rfl,hb⟩;have B1:Hid (Below w.heap.size w w1):=hb;clear hb;rw [hc]);go_must (go_at_call 299);refine (zbr s hs _).mono ?_;rintro e w2 ⟨rfl,hb⟩;have B2:=Hi (B1.out.trans (hb.mono B1.out.size));clear hb;rw [hg];go_wp2;go_ret;exact ⟨rfl,B2.out⟩
 ·
  have hc':(ct s != 0)=true:=by simpa using hc
  rw [show tcode s=ct s by simp [tcode,hc]];go_enter Tryz.func273,Tryz.ntmps273;go_wp2_with (go_at_call 298;refine (zaE s _).mono ?_;rintro e w1 ⟨rfl,hb⟩;have B1:Hid (Below w.heap.size w w1):=hb;clear hb);go_ret;exact ⟨rfl,B1.out⟩
theorem zbD (s:ByteArray) (w:World) (m:Int) (HM:Hid (w.cell? ⟨3,0,none⟩=some (.int .i64 m))):Calls Tryz.prog 274 #[.string s] w fun e w'=>e = .returned (.int .i64 (fcode s))/\Below w.heap.size w w':=by
 by_cases hc:ct s=0;·
  have hs:=zeS hc;have HS:=Hi hs;obtain ⟨x,hx⟩:∃ x,x=lvAny (levels s):=⟨_,rfl⟩;have hr:fcode s=if x then 52 else 0:=by simp [fcode,rfc,hc,hx]
  have HX:=Hi hx;rw [hr];clear hr hx hs;cases x with
  | true => go_enter Tryz.func274,Tryz.ntmps274;go_wp2_with (go_at_call 298;refine (zaE s _).mono ?_;rintro e w1 ⟨rfl,hb⟩;have B1:Hid (Below w.heap.size w w1):=hb;clear hb;rw [hc]);go_must (go_at_call 301);refine (zcW s (by have:=HS.out;omega) _).mono ?_;rintro e w2 ⟨v,rfl,hr,hb⟩;have R2:=Hi hr;have B2:=Hi (B1.out.trans (hb.mono B1.out.size));clear hb hr;go_wp2_with fail;go_must (go_at_call 300);refine (zc2 (levels s) v _ R2.out (by have:=zd5 s;have:=HS.out;omega) (fun t ht=>by have:=zcP s t ht;have:=HS.out;omega)).mono ?_;rintro e w3 ⟨rfl,hb⟩;have B3:=Hi (B2.out.trans (hb.mono B2.out.size));clear hb;rw [<-HX.out];go_wp2_with fail;go_ret;exact ⟨rfl,B3.out⟩;| false => go_enter Tryz.func274,Tryz.ntmps274;go_wp2_with (go_at_call 298;refine (zaE s _).mono ?_;rintro e w1 ⟨rfl,hb⟩;have B1:Hid (Below w.heap.size w w1):=hb;clear hb;rw [hc]);go_must (go_at_call 301);refine (zcW s (by have:=HS.out;omega) _).mono ?_;rintro e w2 ⟨v,rfl,hr,hb⟩;have R2:=Hi hr;have B2:=Hi (B1.out.trans (hb.mono B1.out.size));clear hb hr;go_wp2_with fail;go_must (go_at_call 300);refine (zc2 (levels s) v _ R2.out (by have:=zd5 s;have:=HS.out;omega) (fun t ht=>by have:=zcP s t ht;have:=HS.out;omega)).mono ?_;rintro e w3 ⟨rfl,hb⟩;have B3:=Hi (B2.out.trans (hb.mono B2.out.size));clear hb;rw [<-HX.out];go_wp2_with fail;go_ret;exact ⟨rfl,B3.out⟩
 ·
  have hc':(ct s != 0)=true:=by simpa using hc
  rw [show fcode s=ct s by simp [fcode,rfc,hc]];go_enter Tryz.func274,Tryz.ntmps274;go_wp2_with (go_at_call 298;refine (zaE s _).mono ?_;rintro e w1 ⟨rfl,hb⟩;have B1:Hid (Below w.heap.size w w1):=hb;clear hb);go_ret;exact ⟨rfl,B1.out⟩
def TT:Tx:=⟨txt,topb,flt⟩
open Go Go.RowKit Go.Sort
set_option maxHeartbeats 1000000
structure Small (p:Pk) (c:Cn):Prop where
 cl:p.client.size<=1000000
 us:p.user.size<=1000000
 wt:p.wT.size<=1000000
 mt:p.mT.size<=1000000
 wp:p.wP.n<=1000000
 ps:p.pass.n<=1000000
 mp:p.mP.n<=1000000
 an:p.asks.n<=1000000
 cn:p.codes.n<=1000000
 fn:p.filters.n<=1000000
 sa:sumN (fun i=>3+(c.af i).size) p.asks.n<=100000000
 sf:sumN (fun i=>2+(c.fs i).size) p.filters.n<=100000000
theorem zan (p:Pk) (c:Cn) (h:Small p c) (w:World):Calls Tryz.prog 276 #[p.v] w fun e w'=>e = .returned (.int .i64 (szc p))/\Below w.heap.size w w':=by obtain ⟨kind,level,clean,keep,client,hasWill,wT,wP,wQ,wR,hasUser,user,hasPass,pass,present,code,dup,mT,mP,mQ,mR,id,asks,codes,filters⟩:=p;obtain ⟨wPa,wPn,wPc⟩:=wP;obtain ⟨pa,pn,pc⟩:=pass;obtain ⟨ma,mn,mc⟩:=mP;obtain ⟨aa,an,ac⟩:=asks;obtain ⟨ca,cn,cc⟩:=codes;obtain ⟨fa,fn,fc⟩:=filters;obtain ⟨h1,h2,h3,_,h5,h6,_,_,_,_,_,_⟩:=h;simp only at h1 h2 h3 h5 h6;have b0:Hid (Below w.heap.size w (w.alloc (Obj.cells #[.int .i64 kind,.int .i64 level,.bool clean,.int .i64 keep,.string client,.bool hasWill,.string wT,.slice wPa wPn wPc,.int .i64 wQ,.bool wR,.bool hasUser,.string user,.bool hasPass,.slice pa pn pc,.bool present,.int .i64 code,.bool dup,.string mT,.slice ma mn mc,.int .i64 mQ,.bool mR,.int .i64 id,.slice aa an ac,.slice ca cn cc,.slice fa fn fc] 29))):=(Below.refl _ _).alloc (Nat.le_refl _) _;simp only [Pk.v,Sl.v,szc];cases hasWill <;> cases hasUser <;> cases hasPass;all_goals go_enter Tryz.func276,Tryz.ntmps276;go_wp2;go_ret;refine ⟨congrArg (fun x=>Ending.returned (Value.int .i64 x)) ?_,b0.out⟩;first | rfl | (simp;done)|(simp;omega)
end Go.Proofs.YtceigllifjgalaaGreatDoor.Pkt
