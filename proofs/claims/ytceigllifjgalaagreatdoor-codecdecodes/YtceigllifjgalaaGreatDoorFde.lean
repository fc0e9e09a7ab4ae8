import Derived.Test.YtceigllifjgalaaGreatDoorRdc
import Derived.Test.YtceigllifjgalaaGreatDoorPWm
namespace Go.Proofs.YtceigllifjgalaaGreatDoor
open Go Go.RowKit
open Pkt (Pk Cn Sl In By Is Ss As pkCells)
set_option linter.unusedSimpArgs false
set_option linter.unusedVariables false
def Nx (B:Nat) (s:Sl):Prop:=∀ b off,s.a=some ⟨b,off,none⟩->B<=b
structure NxAll (B:Nat) (p:Pk):Prop where
 wP:Nx B p.wP
 pass:Nx B p.pass
 mP:Nx B p.mP
 asks:Nx B p.asks
 codes:Nx B p.codes
 filters:Nx B p.filters
def Keep (B:Nat) (w w':World):Prop:=∀ a v,w.cell? a=some v->B<=a.block->w'.cell? a=some v
theorem By.keep {B:Nat} {w w':World} {s:Sl} {z:Nat->Int} (h:By w s z) (hn:Nx B s) (hk:Keep B w w'):By w' s z:=by
 obtain ⟨h1,h2,h3 | ⟨b,off,e,hc⟩⟩:=h;· exact ⟨h1,h2,.inl h3⟩
 · exact ⟨h1,h2,.inr ⟨b,off,e,fun i hi=>hk _ _ (hc i hi) (hn b off e)⟩⟩
theorem Is.keep {B:Nat} {w w':World} {s:Sl} {z:Nat->Int} (h:Is w s z) (hn:Nx B s) (hk:Keep B w w'):Is w' s z:=by
 obtain ⟨h1,h3 | ⟨b,off,e,hc⟩⟩:=h;· exact ⟨h1,.inl h3⟩
 · exact ⟨h1,.inr ⟨b,off,e,fun i hi=>hk _ _ (hc i hi) (hn b off e)⟩⟩
theorem Ss.keep {B:Nat} {w w':World} {s:Sl} {z:Nat->ByteArray} (h:Ss w s z) (hn:Nx B s) (hk:Keep B w w'):Ss w' s z:=by
 obtain ⟨h1,h3 | ⟨b,off,e,hc⟩⟩:=h;· exact ⟨h1,.inl h3⟩
 · exact ⟨h1,.inr ⟨b,off,e,fun i hi=>hk _ _ (hc i hi) (hn b off e)⟩⟩
theorem As.keep {B:Nat} {w w':World} {s:Sl} {f:Nat->ByteArray} {q:Nat->Int} (h:As w s f q) (hn:Nx B s) (hk:Keep B w w'):As w' s f q:=by
 obtain ⟨h1,h3 | ⟨b,off,e,hc⟩⟩:=h;· exact ⟨h1,.inl h3⟩
 · exact ⟨h1,.inr ⟨b,off,e,fun i hi=>⟨hk _ _ (hc i hi).1 (hn b off e),hk _ _ (hc i hi).2 (hn b off e)⟩⟩⟩
theorem In.keep {B:Nat} {w w':World} {p:Pk} {c:Cn} (h:In w p c) (hn:NxAll B p) (hk:Keep B w w'):In w' p c := ⟨By.keep h.wP hn.wP hk,By.keep h.pass hn.pass hk,By.keep h.mP hn.mP hk,As.keep h.asks hn.asks hk,Is.keep h.codes hn.codes hk,Ss.keep h.filters hn.filters hk⟩
theorem zb8 {B rb:Nat} {w w':World} (hg:w.grownBy w' (some rb)) (hlt:rb<B):Keep B w w':=fun a v ha hb=>hg.cell ha (by simp;omega)
theorem zbC {B pb i:Nat} {w:World} {v:Value} (hlt:pb<B):Keep B w (w.setCell ⟨pb,i,none⟩ v):=fun a u ha hb=>by unfold World.cell? at ha ⊢;rw [Below.heap_setCell w _ v a.block (by show a.block≠pb;omega)];exact ha
theorem zdk {B:Nat} {w w':World} (h:Below w.heap.size w w'):Keep B w w':=fun a v ha _=>cell_later h ha
structure Cs (w0 w:World) (rb g n cp pb:Nat) (z:Nat->Int) (r:Rs) (p:Pk) (c:Cn):Prop where
 rd:Rdr w rb g n cp z r
 pk:w.heap[pb]?=some (.cells (pkCells p) 29 (0,0))
 lr:rb<w0.heap.size
 lp:pb<w0.heap.size
 n1:pb≠rb
 n2:pb≠g
 inn:In w p c
 nx:NxAll w0.heap.size p
 os:w.os=w0.os
 tape:w.tape=w0.tape
 output:w.output=w0.output
 size:w0.heap.size<=w.heap.size
 block:∀ k,k<w0.heap.size->k≠rb->k≠pb->w.heap[k]?=w0.heap[k]?
 ow:Ows w0.heap.size w p
section
variable {w0 w w':World} {rb g n cp pb:Nat} {z:Nat->Int} {r r':Rs} {p:Pk} {c:Cn}
theorem Cs.read (h:Cs w0 w rb g n cp pb z r p c) (hr:Rdr w' rb g n cp z r') (hg:w.grownBy w' (some rb)):Cs w0 w' rb g n cp pb z r' p c where
 rd:=hr
 pk:=(hg.block pb (lt_of_block h.pk) (by simpa using h.n1)).trans h.pk
 lr:=h.lr
 lp:=h.lp
 n1:=h.n1
 n2:=h.n2
 inn:=In.keep h.inn h.nx (zb8 hg h.lr)
 nx:=h.nx
 os:=hg.os.trans h.os
 tape:=hg.tape.trans h.tape
 output:=hg.output.trans h.output
 size:=Nat.le_trans h.size hg.size
 block:=fun k hk h1 h2=>(hg.block k (Nat.lt_of_lt_of_le hk h.size) (by simpa using h1)).trans (h.block k hk h1 h2)
 ow:=h.ow.grown hg h.lr
theorem Cs.below (h:Cs w0 w rb g n cp pb z r p c) (hb:Below w.heap.size w w'):Cs w0 w' rb g n cp pb z r p c:=h.read (h.rd.below hb) (zad hb)
theorem Rdr.other {i:Nat} {v:Value} (h:Rdr w rb g n cp z r) (n1:pb≠rb) (n2:pb≠g):Rdr (w.setCell ⟨pb,i,none⟩ v) rb g n cp z r:=by refine ⟨(Below.heap_setCell w _ v rb (by show rb≠pb;exact Ne.symm n1)).trans h.rd,⟨⟨h.rb.own.1,fun j hj=>?_⟩,h.rb.le,h.rb.few,h.rb.ne⟩,h.le⟩;have hc:=h.rb.own.2 j hj;unfold World.cell? at hc ⊢;rw [Below.heap_setCell w _ v g (by show g≠pb;exact Ne.symm n2)];exact hc
theorem Cs.set (h:Cs w0 w rb g n cp pb z r p c) (i:Nat) (v:Value) (p':Pk) (c':Cn) (hp:(pkCells p).setIfInBounds i v=pkCells p') (hin:Keep w0.heap.size w (w.setCell ⟨pb,i,none⟩ v)->In (w.setCell ⟨pb,i,none⟩ v) p' c') (hnx:NxAll w0.heap.size p') (how:Ows w0.heap.size w p'):Cs w0 (w.setCell ⟨pb,i,none⟩ v) rb g n cp pb z r p' c' where
 rd:=h.rd.other h.n1 h.n2
 pk:=by rw [<-hp];exact zag h.pk v
 lr:=h.lr
 lp:=h.lp
 n1:=h.n1
 n2:=h.n2
 inn:=hin (zbC h.lp)
 nx:=hnx
 os:=h.os
 tape:=h.tape
 output:=h.output
 size:=by
  have:(w.setCell ⟨pb,i,none⟩ v).heap.size=w.heap.size:=by simp [World.setCell]
  rw [this];exact h.size
 block:=fun k hk h1 h2=>(Below.heap_setCell w _ v k (by show k≠pb;exact h2)).trans (h.block k hk h1 h2)
 ow:=how.set h.lp
theorem Cs.cell (h:Cs w0 w rb g n cp pb z r p c) (k:Nat) (v:Value) (hk:(pkCells p)[k]?=some v):w.cell? ⟨pb,k,none⟩=some v:=by simp [World.cell?,h.pk,hk]
theorem Cs.frozen (h:Cs w0 w rb g n cp pb z r p c) (k:Nat):w.frozen? ⟨pb,k,none⟩=false:=by simp [World.frozen?,h.pk]
end
def ErrIs (w':World) (e:Ending) (a b:Int):Prop:=∃ g,e = .returned (.iface 200 (.pointer (some ⟨g,0,none⟩)))/\w'.heap[g]?=some (.cells #[.int .i64 a,.int .i64 b] 134 (0,0))
theorem zb0 (a b:Int) (w:World):Calls Tryz.prog 217 #[.int .i64 a,.int .i64 b] w fun e w'=>ErrIs w' e a b/\Below w.heap.size w w':=by go_enter Tryz.func217,Tryz.ntmps217;go_wp2;go_ret;exact ⟨⟨_,rfl,heap_alloc_new w _⟩,(Below.refl _ _).alloc (Nat.le_refl _) _⟩
set_option maxRecDepth 100000
set_option maxHeartbeats 2000000
section
variable {w w' w0:World} {cp g n pb rb:Nat} {z:Nat->Int} {r:Rs} {p:Pk} {c:Cn}
structure Fr2 (w0 w:World) (rb pb:Nat):Prop where
 os:w.os=w0.os
 tape:w.tape=w0.tape
 output:w.output=w0.output
 size:w0.heap.size<=w.heap.size
 block:∀ k,k<w0.heap.size->k≠rb->k≠pb->w.heap[k]?=w0.heap[k]?
theorem Cs.fr (h:Cs w0 w rb g n cp pb z r p c):Fr2 w0 w rb pb:=⟨h.os,h.tape,h.output,h.size,h.block⟩
theorem Fr2.below (h:Fr2 w0 w rb pb) (hb:Below w.heap.size w w'):Fr2 w0 w' rb pb:=⟨hb.os.trans h.os,hb.tape.trans h.tape,hb.output.trans h.output,Nat.le_trans h.size hb.size,fun k hk h1 h2=>(hb.block k (Nat.lt_of_lt_of_le hk h.size)).trans (h.block k hk h1 h2)⟩
def Alike (q p:Pk):Prop:=∃ s1 s2 s3 s4 s5 s6:Sl,q = { p with wP:=s1,pass:=s2,mP:=s3,asks:=s4,codes:=s5,filters:=s6 }/\s1.n=p.wP.n/\s2.n=p.pass.n/\s3.n=p.mP.n/\s4.n=p.asks.n/\s5.n=p.codes.n/\s6.n=p.filters.n
theorem Alike.refl (p:Pk):Alike p p:=⟨p.wP,p.pass,p.mP,p.asks,p.codes,p.filters,rfl,rfl,rfl,rfl,rfl,rfl,rfl⟩
def OutIs (w0 w':World) (e:Ending) (rb g n cp pb:Nat) (z:Nat->Int):Except (Int×Int) (Rs×Pk×Cn)->Prop | .error x=>ErrIs w' e x.1 x.2/\Fr2 w0 w' rb pb | .ok y=>e = .returned .nilIface/\∃ q:Pk,Cs w0 w' rb g n cp pb z y.1 q y.2.2/\Alike q y.2.1
theorem Cs.setS (h:Cs w0 w rb g n cp pb z r p c) (i:Nat) (v:Value) (p':Pk) (hp:(pkCells p).setIfInBounds i v=pkCells p') (e1:p'.wP=p.wP) (e2:p'.pass=p.pass) (e3:p'.mP=p.mP) (e4:p'.asks=p.asks) (e5:p'.codes=p.codes) (e6:p'.filters=p.filters):Cs w0 (w.setCell ⟨pb,i,none⟩ v) rb g n cp pb z r p' c := h.set i v p' c hp (fun hk=>by have q:=In.keep h.inn h.nx hk;exact ⟨by rw [e1];exact q.wP,by rw [e2];exact q.pass,by rw [e3];exact q.mP,by rw [e4];exact q.asks,by rw [e5];exact q.codes,by rw [e6];exact q.filters⟩) ⟨by rw [e1];exact h.nx.wP,by rw [e2];exact h.nx.pass,by rw [e3];exact h.nx.mP,by rw [e4];exact h.nx.asks,by rw [e5];exact h.nx.codes,by rw [e6];exact h.nx.filters⟩ (h.ow.congr e1 e2 e3 e4 e5 e6)
theorem bx_set {b i:Nat} {v u:Value} (h:w.cell? ⟨b,0,none⟩=some u) (hne:b≠pb):(w.setCell ⟨pb,i,none⟩ v).cell? ⟨b,0,none⟩=some u:=by unfold World.cell? at h ⊢;rw [Below.heap_setCell w _ v b (by show b≠pb;exact hne)];exact h
theorem OutIs.ret {e:Ending} {R:Except (Int×Int) (Rs×Pk×Cn)} (h:OutIs w0 w' e rb g n cp pb z R):∃ v,e = .returned v:=by cases R with | error x=>obtain ⟨⟨g,h,_⟩,_⟩:=h;exact ⟨_,h⟩ | ok y=>exact ⟨_,h.1⟩
theorem zaJ (h:Cs w0 w rb g n cp pb z r p c) (p':Pk) (ha:Alike p p') :
 Calls Tryz.prog 268 #[.pointer (some ⟨rb,0,none⟩)] w fun e w'=>OutIs w0 w' e rb g n cp pb z (if r.q≠0 then .error (r.p,r.q) else .ok (r,p',c)):=by
 by_cases hq:r.q≠0
 · rw [if_pos hq]
   refine (zdE rb _ _ _ _ w h.rd.rd hq).mono fun e w' ⟨h1,h2⟩=>⟨⟨_,h1,?_⟩,?_⟩;· rw [h2];exact heap_alloc_new w _
   · rw [h2];exact h.fr.below (((Below.refl _ _).alloc (Nat.le_refl _) _).drew)
 · rw [if_neg hq]
   have hR:=h.rd.rd;rw [alive hq] at hR;refine (zdA rb _ _ _ w hR).mono fun e w' ⟨h1,h2⟩=>⟨h1,p,by rw [h2];exact h,ha⟩
def connackP (z:Nat->Int) (n:Nat) (r:Rs) (p:Pk) (c:Cn):Except (Int×Int) (Rs×Pk×Cn) := if 1<(rByte z n r).1 then .error ((r.at0:Int),34) else if (rEnd n (rByte z n (rByte z n r).2).2).q≠0 then .error ((rEnd n (rByte z n (rByte z n r).2).2).p,(rEnd n (rByte z n (rByte z n r).2).2).q) else .ok (rEnd n (rByte z n (rByte z n r).2).2,{ p with present:=(rByte z n r).1==1,code:=(rByte z n (rByte z n r).2).1 },c)
theorem zbq (h:Rdr w rb g n cp z r):0<=(rByte z n r).1/\(rByte z n r).1<=255:=by
 unfold rByte;split;· simp
 ·
  split;· simp
  · exact h.rb.own.1 _
theorem connack_any (h:Cs w0 w rb g n cp pb z r p c) :
 Calls Tryz.prog 261 #[.agg #[.pointer (some ⟨rb,0,none⟩),.int .i64 n],.pointer (some ⟨pb,0,none⟩)] w fun e w'=>OutIs w0 w' e rb g n cp pb z (connackP z n r p c):=by
 have LW:=Hi h.size;have LR:Hid (rb<w0.heap.size/\pb<w0.heap.size):=⟨h.lr,h.lp⟩;obtain ⟨R,hR⟩:∃ R,R=connackP z n r p c:=⟨_,rfl⟩;rw [<-hR];have HR:=Hi hR;clear hR;obtain ⟨b1,hb1⟩:∃ x,x=rByte z n r:=⟨_,rfl⟩;have BB:=zbq h.rd;rw [<-hb1] at BB;obtain ⟨b2,hb2⟩:∃ x,x=rByte z n b1.2:=⟨_,rfl⟩;obtain ⟨r3,hr3⟩:∃ x,x=rEnd n b2.2:=⟨_,rfl⟩;have H1:=Hi hb1;have H2:=Hi hb2;have H3:=Hi hr3;have HS:Hid (R=if 1<b1.1 then .error ((r.at0:Int),34) else if r3.q≠0 then .error (r3.p,r3.q) else .ok (r3,{ p with present:=b1.1==1,code:=b2.1 },c)):=by show _=_;rw [HR.out,connackP,hr3,hb2,hb1]
 clear hb1 hb2 hr3 HR;obtain ⟨x1,r1⟩:=b1;obtain ⟨x2,r2⟩:=b2;simp only at BB H2 H3 HS;have X0:Hid (Cs w0 (w.alloc (.cells #[.pointer (some ⟨rb,0,none⟩),.int .i64 n] 244)) rb g n cp pb z r p c):=h.below ((Below.refl _ _).alloc (Nat.le_refl _) _);have c0:(w.alloc (.cells #[.pointer (some ⟨rb,0,none⟩),.int .i64 n] 244)).cell? ⟨w.heap.size,0,none⟩=some (.pointer (some ⟨rb,0,none⟩)):=by simp [go_sem]
 have bx0:=Hi c0;clear h c0;go_enter Tryz.func261,Tryz.ntmps261;go_wp2_with (first | (go_at_call 288;refine (at_any rb _ _ _ _ _ X0.out.rd.rd).mono ?_;rintro e w' ⟨rfl,hee⟩;obtain rfl:=hee.symm;clear hee) | fail);go_must (go_at_call 219);refine (zbh X0.out.rd).mono ?_;rw [<-H1.out];rintro e w1 ⟨rfl,hr,hg⟩;have X1:=Hi (X0.out.read hr hg);have bx1:=hg.cell bx0.out (by have:=LR.out;have:=LW.out;simp;omega);clear hr hg;by_cases hx:1<x1
 · have HE:Hid (R = .error ((r.at0:Int),34)):=by show _=_;rw [HS.out,if_pos hx]
   go_wp2_with fail;go_must (go_at_call 217);refine (zb0 _ _ _).mono ?_;rintro e w2 ⟨⟨gg,rfl,hgg⟩,hb⟩;have Z:Hid (w2.heap[gg]?=some (.cells #[.int .i64 (r.at0:Int),.int .i64 34] 134 (0,0))/\Fr2 w0 w2 rb pb):=⟨hgg,X1.out.fr.below hb⟩;clear hgg hb;go_wp2;go_ret;rw [HE.out];exact ⟨⟨gg,rfl,Z.out.1⟩,Z.out.2⟩
 have HE:Hid (R=if r3.q≠0 then .error (r3.p,r3.q) else .ok (r3,{ p with present:=x1==1,code:=x2 },c)):=by show _=_;rw [HS.out,if_neg hx]
 have e14:=X1.out.cell 14 (.bool p.present) rfl;have z14:=X1.out.frozen 14;obtain ⟨W2,hW2⟩:∃ W,W=w1.setCell ⟨pb,14,none⟩ (.bool (x1==1)):=⟨_,rfl⟩;have X2:=(show Hid _ from X1.out.setS 14 (.bool (x1==1)) { p with present:=x1==1 } rfl rfl rfl rfl rfl rfl rfl);rw [<-hW2] at X2;have bx2:W2.cell? ⟨w.heap.size,0,none⟩=some (.pointer (some ⟨rb,0,none⟩)):=by rw [hW2];exact bx_set bx1 (by have:=LR.out;have:=LW.out;omega)
 have BX2:=Hi bx2;go_upto_region 6 with fail;rw [<-hW2];clear hW2 e14 z14 bx1;have B2:=zbq X2.out.rd;rw [<-H2.out] at B2;simp only at B2;go_wp2_with fail;go_must (go_at_call 219);refine (zbh X2.out.rd).mono ?_;rw [<-H2.out];rintro e w3 ⟨rfl,hr,hg⟩;have X3:=Hi (X2.out.read hr hg);have bx3:=hg.cell BX2.out (by have:=LR.out;have:=LW.out;simp;omega);clear hr hg bx2;have e15:=X3.out.cell 15 (.int .i64 p.code) rfl;have z15:=X3.out.frozen 15;obtain ⟨W4,hW4⟩:∃ W,W=w3.setCell ⟨pb,15,none⟩ (.int .i64 x2):=⟨_,rfl⟩;have X4:=(show Hid _ from X3.out.setS 15 (.int .i64 x2) { p with present:=x1==1,code:=x2 } rfl rfl rfl rfl rfl rfl rfl);rw [<-hW4] at X4;have bx4:W4.cell? ⟨w.heap.size,0,none⟩=some (.pointer (some ⟨rb,0,none⟩)):=by rw [hW4];exact bx_set bx3 (by have:=LR.out;have:=LW.out;omega)
 have BX4:=Hi bx4;go_upto_region 7 with fail;rw [<-hW4];clear hW4 e15 z15 bx3;go_wp2_with fail;go_must (go_at_call 267);refine (zb1 X4.out.rd).mono ?_;rw [<-H3.out];rintro e w5 ⟨rfl,hr,hg⟩;have X5:=Hi (X4.out.read hr hg);have bx5:=hg.cell BX4.out (by have:=LR.out;have:=LW.out;simp;omega);clear hr hg bx4;go_wp2_with fail;go_must (go_at_call 268);have T:=zaJ X5.out { p with present:=x1==1,code:=x2 } (Alike.refl _);rw [<-HE.out] at T;refine T.mono ?_;rintro e w6 hO;obtain ⟨v,rfl⟩:=hO.ret;have HO:=(show Hid _ from hO);clear hO T;go_wp2;go_ret;exact HO.out
end
def Done (w0 w':World) (rb g n cp pb:Nat) (z:Nat->Int) (y:Rs×Pk×Cn):Prop:=∃ q:Pk,Cs w0 w' rb g n cp pb z y.1 q y.2.2/\Alike q y.2.1
def fD (fl:Int):Bool:=bits .and .i64 fl 8 != 0
def fQ (fl:Int):Int:=bits .and .i64 fl 6 / 2
def fR (fl:Int):Bool:=bits .and .i64 fl 1 != 0
def pubNum (z:Nat->Int) (n:Nat) (id fl:Int) (r:Rs):Int×Rs:=if 0<fQ fl then rNum z n r else (id,r)
def publishP (z:Nat->Int) (n:Nat) (r:Rs) (p:Pk) (c:Cn) (fl:Int):Rs×Pk×Cn := ((rRest z n (pubNum z n p.id fl (rText z n r).2).2).2, { p with dup:=fD fl,mQ:=fQ fl,mR:=fR fl,mT:=(rText z n r).1,id:=(pubNum z n p.id fl (rText z n r).2).1,mP:=⟨none,(rRest z n (pubNum z n p.id fl (rText z n r).2).2).1.1,0⟩ }, { c with mz:=(rRest z n (pubNum z n p.id fl (rText z n r).2).2).1.2 })
theorem publish_any {w0 w:World} {rb g n cp pb:Nat} {z:Nat->Int} {r:Rs} {p:Pk} {c:Cn} (fl:Int) (h:Cs w0 w rb g n cp pb z r p c) :
 Calls Tryz.prog 262 #[.agg #[.pointer (some ⟨rb,0,none⟩),.int .i64 n],.pointer (some ⟨pb,0,none⟩),.int .i64 fl] w fun e w'=>e = .returned (.tuple #[])/\Done w0 w' rb g n cp pb z (publishP z n r p c fl):=by
 have LW:=Hi h.size;have LR:Hid (rb<w0.heap.size/\pb<w0.heap.size):=⟨h.lr,h.lp⟩;obtain ⟨Y,hY⟩:∃ Y,Y=publishP z n r p c fl:=⟨_,rfl⟩;rw [<-hY];obtain ⟨t,ht⟩:∃ t,t=rText z n r:=⟨_,rfl⟩;obtain ⟨i,hi⟩:∃ i,i=pubNum z n p.id fl t.2:=⟨_,rfl⟩;obtain ⟨s,hs⟩:∃ s,s=rRest z n i.2:=⟨_,rfl⟩;obtain ⟨D,hD⟩:∃ D,(bits .and .i64 fl 8 != 0)=D:=⟨_,rfl⟩;obtain ⟨Q,hQ⟩:∃ Q,bits .and .i64 fl 6 / 2=Q:=⟨_,rfl⟩;obtain ⟨M,hM⟩:∃ M,(bits .and .i64 fl 1 != 0)=M:=⟨_,rfl⟩;have HS:Hid (Y=(s.2,{ p with dup:=D,mQ:=Q,mR:=M,mT:=t.1,id:=i.1,mP:=⟨none,s.1.1,0⟩ },{ c with mz:=s.1.2 })):=by show _=_;rw [hY,publishP,fD,fQ,fR,hD,hQ,hM,hs,hi,ht]
 have H1:=Hi ht;have H2:Hid (i=if 0<Q then rNum z n t.2 else (p.id,t.2)):=by show _=_;rw [hi,pubNum,fQ,hQ]
 have H3:=Hi hs;clear hY ht hi hs;obtain ⟨t,r1⟩:=t;obtain ⟨i,r2⟩:=i;obtain ⟨⟨sn,sz⟩,r3⟩:=s;simp only at H2 H3 HS;have X0:Hid (Cs w0 (w.alloc (.cells #[.pointer (some ⟨rb,0,none⟩),.int .i64 n] 244)) rb g n cp pb z r p c):=h.below ((Below.refl _ _).alloc (Nat.le_refl _) _);have BX0:Hid ((w.alloc (.cells #[.pointer (some ⟨rb,0,none⟩),.int .i64 n] 244)).cell? ⟨w.heap.size,0,none⟩=some (.pointer (some ⟨rb,0,none⟩))):=by show _=_;simp [go_sem]
 clear h;go_enter Tryz.func262,Tryz.ntmps262;go_upto_region 1 with fail;have e16:=X0.out.cell 16 (.bool p.dup) rfl;have z16:=X0.out.frozen 16;obtain ⟨v1,hW⟩:∃ W,W=(w.alloc (.cells #[.pointer (some ⟨rb,0,none⟩),.int .i64 n] 244)).setCell ⟨pb,16,none⟩ (.bool D):=⟨_,rfl⟩;have X1:=(show Hid _ from X0.out.setS 16 (.bool D) ({ p with dup:=D }) rfl rfl rfl rfl rfl rfl rfl);rw [<-hW] at X1;have BX1:Hid (v1.cell? ⟨w.heap.size,0,none⟩=some (.pointer (some ⟨rb,0,none⟩))):=by show _=_;rw [hW];exact bx_set BX0.out (by have:=LR.out;have:=LW.out;omega)
 go_upto_region 2 with fail;rw [<-hW];clear hW e16 z16;have e19:=X1.out.cell 19 (.int .i64 p.mQ) rfl;have z19:=X1.out.frozen 19;obtain ⟨v2,hW⟩:∃ W,W=v1.setCell ⟨pb,19,none⟩ (.int .i64 Q):=⟨_,rfl⟩;have X2:=(show Hid _ from X1.out.setS 19 (.int .i64 Q) ({ p with dup:=D,mQ:=Q }) rfl rfl rfl rfl rfl rfl rfl);rw [<-hW] at X2;have BX2:Hid (v2.cell? ⟨w.heap.size,0,none⟩=some (.pointer (some ⟨rb,0,none⟩))):=by show _=_;rw [hW];exact bx_set BX1.out (by have:=LR.out;have:=LW.out;omega)
 go_upto_region 3 with fail;rw [<-hW];clear hW e19 z19;have e20:=X2.out.cell 20 (.bool p.mR) rfl;have z20:=X2.out.frozen 20;obtain ⟨v3,hW⟩:∃ W,W=v2.setCell ⟨pb,20,none⟩ (.bool M):=⟨_,rfl⟩;have X3:=(show Hid _ from X2.out.setS 20 (.bool M) ({ p with dup:=D,mQ:=Q,mR:=M }) rfl rfl rfl rfl rfl rfl rfl);rw [<-hW] at X3;have BX3:Hid (v3.cell? ⟨w.heap.size,0,none⟩=some (.pointer (some ⟨rb,0,none⟩))):=by show _=_;rw [hW];exact bx_set BX2.out (by have:=LR.out;have:=LW.out;omega)
 go_upto_region 4 with fail;rw [<-hW];clear hW e20 z20;clear hD hQ hM;have bx:=BX3.out;go_wp2_with fail;go_must (go_at_call 289);clear bx;refine (zaR X3.out.rd).mono ?_;rw [<-H1.out];rintro e v4 ⟨rfl,hr,hg⟩;have X4:=Hi (X3.out.read hr hg);have BX4:Hid (v4.cell? ⟨w.heap.size,0,none⟩=some (.pointer (some ⟨rb,0,none⟩))):=hg.cell BX3.out (by have:=LR.out;have:=LW.out;simp;omega);clear hr hg;have e17:=X4.out.cell 17 (.string p.mT) rfl;have z17:=X4.out.frozen 17;obtain ⟨v5,hW⟩:∃ W,W=v4.setCell ⟨pb,17,none⟩ (.string t):=⟨_,rfl⟩;have X5:=(show Hid _ from X4.out.setS 17 (.string t) ({ p with dup:=D,mQ:=Q,mR:=M,mT:=t }) rfl rfl rfl rfl rfl rfl rfl);rw [<-hW] at X5;have BX5:Hid (v5.cell? ⟨w.heap.size,0,none⟩=some (.pointer (some ⟨rb,0,none⟩))):=by show _=_;rw [hW];exact bx_set BX4.out (by have:=LR.out;have:=LW.out;omega)
 go_upto_region 5 with fail;rw [<-hW];clear hW e17 z17;have e19:=X5.out.cell 19 (.int .i64 Q) rfl;by_cases hq:0<Q
 · have H4:Hid ((i,r2)=rNum z n r1):=by show _=_;rw [H2.out,if_pos hq]
   go_upto_region 6 with fail;clear e19 hq;have bx:=BX5.out;go_wp2_with fail;go_must (go_at_call 266);clear bx;refine (zaU X5.out.rd).mono ?_;rw [<-H4.out];rintro e v6 ⟨rfl,hr,hg⟩;have X6:=Hi (X5.out.read hr hg);have BX6:Hid (v6.cell? ⟨w.heap.size,0,none⟩=some (.pointer (some ⟨rb,0,none⟩))):=hg.cell BX5.out (by have:=LR.out;have:=LW.out;simp;omega);clear hr hg;have e21:=X6.out.cell 21 (.int .i64 p.id) rfl;have z21:=X6.out.frozen 21;obtain ⟨v7,hW⟩:∃ W,W=v6.setCell ⟨pb,21,none⟩ (.int .i64 i):=⟨_,rfl⟩;have X7:=(show Hid _ from X6.out.setS 21 (.int .i64 i) ({ p with dup:=D,mQ:=Q,mR:=M,mT:=t,id:=i }) rfl rfl rfl rfl rfl rfl rfl);rw [<-hW] at X7;have BX7:Hid (v7.cell? ⟨w.heap.size,0,none⟩=some (.pointer (some ⟨rb,0,none⟩))):=by show _=_;rw [hW];exact bx_set BX6.out (by have:=LR.out;have:=LW.out;omega)
   go_upto_region 7 with fail;rw [<-hW];clear hW e21 z21;have bx:=BX7.out;go_wp2_with fail;go_must (go_at_call 292);clear bx;refine (zdv X7.out.rd).mono ?_;rw [<-H3.out];rintro e v8 ⟨⟨s8,rfl,hs⟩,hr,hg⟩;have X8:=Hi (X7.out.read hr hg);have BX8:Hid (v8.cell? ⟨w.heap.size,0,none⟩=some (.pointer (some ⟨rb,0,none⟩))):=hg.cell BX7.out (by have:=LR.out;have:=LW.out;simp;omega);have NS8:=(show Hid _ from hs);clear hs;clear hr hg;have e18:=X8.out.cell 18 (.slice p.mP.a p.mP.n p.mP.c) rfl;have z18:=X8.out.frozen 18;obtain ⟨v9,hW⟩:∃ W,W=v8.setCell ⟨pb,18,none⟩ (.slice s8.a s8.n s8.c):=⟨_,rfl⟩;have X9:Hid (Cs w0 v9 rb g n cp pb z r3 ({ p with dup:=D,mQ:=Q,mR:=M,mT:=t,id:=i,mP:=s8 }) ({ c with mz:=sz })):=by have NX:Nx w0.heap.size s8:=fun b off e=>Nat.le_trans X7.out.size (NS8.out.2.2.1 b off e);have x:=X8.out.nx;show Cs _ _ _ _ _ _ _ _ _ _ _;rw [hW];refine X8.out.set 18 (.slice s8.a s8.n s8.c) ({ p with dup:=D,mQ:=Q,mR:=M,mT:=t,id:=i,mP:=s8 }) ({ c with mz:=sz }) rfl (fun hk=>?_) ⟨x.wP,x.pass,NX,x.asks,x.codes,x.filters⟩ ⟨X8.out.ow.wP,X8.out.ow.pass,(NS8.out.2.2.2.lower X7.out.size),X8.out.ow.asks,X8.out.ow.codes,X8.out.ow.filters,X7.out.ow.put (fun k e=>(NS8.out.2.2.2.blk e).1) 2 _ rfl⟩;have q:=In.keep X8.out.inn x hk;have Q:By (v8.setCell ⟨pb,18,none⟩ (.slice s8.a s8.n s8.c)) s8 sz:=By.keep NS8.out.2.1 NX hk;exact ⟨q.wP,q.pass,Q,q.asks,q.codes,q.filters⟩
   have BX9:Hid (v9.cell? ⟨w.heap.size,0,none⟩=some (.pointer (some ⟨rb,0,none⟩))):=by show _=_;rw [hW];exact bx_set BX8.out (by have:=LR.out;have:=LW.out;omega)
   go_wp2;rw [<-hW];go_end0;rw [HS.out];exact ⟨rfl,_,X9.out,p.wP,p.pass,s8,p.asks,p.codes,p.filters,rfl,rfl,rfl,NS8.out.1,rfl,rfl,rfl⟩
 · have H4:Hid (i=p.id/\r2=r1):=by have e:=H2.out;rw [if_neg hq] at e;exact ⟨congrArg Prod.fst e,congrArg Prod.snd e⟩
   have h41:=H4.out.1;have h42:=H4.out.2;subst h41 h42;clear H4;go_upto_region 7 with fail;clear e19 hq;have bx:=BX5.out;go_wp2_with fail;go_must (go_at_call 292);clear bx;refine (zdv X5.out.rd).mono ?_;rw [<-H3.out];rintro e v6 ⟨⟨s6,rfl,hs⟩,hr,hg⟩;have X6:=Hi (X5.out.read hr hg);have BX6:Hid (v6.cell? ⟨w.heap.size,0,none⟩=some (.pointer (some ⟨rb,0,none⟩))):=hg.cell BX5.out (by have:=LR.out;have:=LW.out;simp;omega);have NS6:=(show Hid _ from hs);clear hs;clear hr hg;have e18:=X6.out.cell 18 (.slice p.mP.a p.mP.n p.mP.c) rfl;have z18:=X6.out.frozen 18;obtain ⟨v7,hW⟩:∃ W,W=v6.setCell ⟨pb,18,none⟩ (.slice s6.a s6.n s6.c):=⟨_,rfl⟩;have X7:Hid (Cs w0 v7 rb g n cp pb z r3 ({ p with dup:=D,mQ:=Q,mR:=M,mT:=t,mP:=s6 }) ({ c with mz:=sz })):=by have NX:Nx w0.heap.size s6:=fun b off e=>Nat.le_trans X5.out.size (NS6.out.2.2.1 b off e);have x:=X6.out.nx;show Cs _ _ _ _ _ _ _ _ _ _ _;rw [hW];refine X6.out.set 18 (.slice s6.a s6.n s6.c) ({ p with dup:=D,mQ:=Q,mR:=M,mT:=t,mP:=s6 }) ({ c with mz:=sz }) rfl (fun hk=>?_) ⟨x.wP,x.pass,NX,x.asks,x.codes,x.filters⟩ ⟨X6.out.ow.wP,X6.out.ow.pass,(NS6.out.2.2.2.lower X5.out.size),X6.out.ow.asks,X6.out.ow.codes,X6.out.ow.filters,X5.out.ow.put (fun k e=>(NS6.out.2.2.2.blk e).1) 2 _ rfl⟩;have q:=In.keep X6.out.inn x hk;have Q:By (v6.setCell ⟨pb,18,none⟩ (.slice s6.a s6.n s6.c)) s6 sz:=By.keep NS6.out.2.1 NX hk;exact ⟨q.wP,q.pass,Q,q.asks,q.codes,q.filters⟩
   have BX7:Hid (v7.cell? ⟨w.heap.size,0,none⟩=some (.pointer (some ⟨rb,0,none⟩))):=by show _=_;rw [hW];exact bx_set BX6.out (by have:=LR.out;have:=LW.out;omega)
   go_wp2;rw [<-hW];go_end0;rw [HS.out];exact ⟨rfl,_,X7.out,p.wP,p.pass,s6,p.asks,p.codes,p.filters,rfl,rfl,rfl,NS6.out.1,rfl,rfl,rfl⟩
theorem and24 (x:Int) (h:0<=x/\x<=255):0<=bits .and .u8 x 24/\bits .and .u8 x 24<=24:=by
 obtain ⟨a,rfl⟩:=Int.eq_ofNat_of_zero_le h.1;have ha:a<2 ^ 8:=by have h2:=h.2;simp;omega
 have e:=(bits_nat .u8 8 (by decide) wraps_u8 a 24 ha (by decide)).1;have e':bits .and .u8 (a:Int) 24=((a &&& 24:Nat):Int):=e;rw [e'];have:=@Nat.and_le_right a 24;omega
def mk (m b:Int):Bool:=bits .and .u8 m b != 0
def marksP (p:Pk) (m:Int):Pk:={ p with hasUser:=mk m 128,hasPass:=mk m 64,wR:=mk m 32,wQ:=bits .and .u8 m 24 / 8,hasWill:=mk m 4,clean:=mk m 2 }
theorem zbT {w0 w:World} {rb g n cp pb:Nat} {z:Nat->Int} {r:Rs} {p:Pk} {c:Cn} (m:Int) (hm:0<=m/\m<=255) (h:Cs w0 w rb g n cp pb z r p c) :
 Calls Tryz.prog 290 #[.pointer (some ⟨pb,0,none⟩),.int .u8 m] w fun e w'=>e = .returned (.tuple #[])/\Cs w0 w' rb g n cp pb z r (marksP p m) c/\w.grownBy w' (some pb):=by
 obtain ⟨Y,hY⟩:∃ Y,Y=marksP p m:=⟨_,rfl⟩;rw [<-hY];have h24:=and24 m hm;obtain ⟨A,hA⟩:∃ A,(bits .and .u8 m 128 != 0)=A:=⟨_,rfl⟩;obtain ⟨B,hB⟩:∃ B,(bits .and .u8 m 64 != 0)=B:=⟨_,rfl⟩;obtain ⟨C,hC⟩:∃ C,(bits .and .u8 m 32 != 0)=C:=⟨_,rfl⟩;obtain ⟨D,hD⟩:∃ D,bits .and .u8 m 24=D:=⟨_,rfl⟩;rw [hD] at h24;obtain ⟨E,hE⟩:∃ E,(bits .and .u8 m 4 != 0)=E:=⟨_,rfl⟩;obtain ⟨F,hF⟩:∃ F,(bits .and .u8 m 2 != 0)=F:=⟨_,rfl⟩;have HS:Hid (Y = { p with hasUser:=A,hasPass:=B,wR:=C,wQ:=D / 8,hasWill:=E,clean:=F }):=by show _=_;rw [hY,marksP,mk,mk,mk,mk,mk,hA,hB,hC,hD,hE,hF]
 clear hY;have X0:=Hi h;have G0:Hid (w.grownBy w (some pb)):=zah _ _;have LP:=Hi (lt_of_block h.pk);clear h;go_enter Tryz.func290,Tryz.ntmps290;have e10:=X0.out.cell 10 (.bool p.hasUser) rfl;have z10:=X0.out.frozen 10;obtain ⟨v1,hW⟩:∃ W,W=w.setCell ⟨pb,10,none⟩ (.bool A):=⟨_,rfl⟩;have X1:=(show Hid _ from X0.out.setS 10 (.bool A) ({ p with hasUser:=A }) rfl rfl rfl rfl rfl rfl rfl);rw [<-hW] at X1;have G1:Hid (w.grownBy v1 (some pb)):=by show World.grownBy _ _ _;rw [hW];exact gb_set G0.out _ _
 go_upto_region 1 with fail;rw [<-hW];clear hW e10 z10;have e12:=X1.out.cell 12 (.bool p.hasPass) rfl;have z12:=X1.out.frozen 12;obtain ⟨v2,hW⟩:∃ W,W=v1.setCell ⟨pb,12,none⟩ (.bool B):=⟨_,rfl⟩;have X2:=(show Hid _ from X1.out.setS 12 (.bool B) ({ p with hasUser:=A,hasPass:=B }) rfl rfl rfl rfl rfl rfl rfl);rw [<-hW] at X2;have G2:Hid (w.grownBy v2 (some pb)):=by show World.grownBy _ _ _;rw [hW];exact gb_set G1.out _ _
 go_upto_region 2 with fail;rw [<-hW];clear hW e12 z12;have e9:=X2.out.cell 9 (.bool p.wR) rfl;have z9:=X2.out.frozen 9;obtain ⟨v3,hW⟩:∃ W,W=v2.setCell ⟨pb,9,none⟩ (.bool C):=⟨_,rfl⟩;have X3:=(show Hid _ from X2.out.setS 9 (.bool C) ({ p with hasUser:=A,hasPass:=B,wR:=C }) rfl rfl rfl rfl rfl rfl rfl);rw [<-hW] at X3;have G3:Hid (w.grownBy v3 (some pb)):=by show World.grownBy _ _ _;rw [hW];exact gb_set G2.out _ _
 go_upto_region 3 with fail;rw [<-hW];clear hW e9 z9;have e8:=X3.out.cell 8 (.int .i64 p.wQ) rfl;have z8:=X3.out.frozen 8;obtain ⟨v4,hW⟩:∃ W,W=v3.setCell ⟨pb,8,none⟩ (.int .i64 (D / 8)):=⟨_,rfl⟩;have X4:=(show Hid _ from X3.out.setS 8 (.int .i64 (D / 8)) ({ p with hasUser:=A,hasPass:=B,wR:=C,wQ:=D / 8 }) rfl rfl rfl rfl rfl rfl rfl);rw [<-hW] at X4;have G4:Hid (w.grownBy v4 (some pb)):=by show World.grownBy _ _ _;rw [hW];exact gb_set G3.out _ _
 go_upto_region 4 with fail;rw [<-hW];clear hW e8 z8;have e5:=X4.out.cell 5 (.bool p.hasWill) rfl;have z5:=X4.out.frozen 5;obtain ⟨v5,hW⟩:∃ W,W=v4.setCell ⟨pb,5,none⟩ (.bool E):=⟨_,rfl⟩;have X5:=(show Hid _ from X4.out.setS 5 (.bool E) ({ p with hasUser:=A,hasPass:=B,wR:=C,wQ:=D / 8,hasWill:=E }) rfl rfl rfl rfl rfl rfl rfl);rw [<-hW] at X5;have G5:Hid (w.grownBy v5 (some pb)):=by show World.grownBy _ _ _;rw [hW];exact gb_set G4.out _ _
 go_upto_region 5 with fail;rw [<-hW];clear hW e5 z5;have e2:=X5.out.cell 2 (.bool p.clean) rfl;have z2:=X5.out.frozen 2;obtain ⟨v6,hW⟩:∃ W,W=v5.setCell ⟨pb,2,none⟩ (.bool F):=⟨_,rfl⟩;have X6:=(show Hid _ from X5.out.setS 2 (.bool F) ({ p with hasUser:=A,hasPass:=B,wR:=C,wQ:=D / 8,hasWill:=E,clean:=F }) rfl rfl rfl rfl rfl rfl rfl);rw [<-hW] at X6;have G6:Hid (w.grownBy v6 (some pb)):=by show World.grownBy _ _ _;rw [hW];exact gb_set G5.out _ _
 go_wp2;rw [<-hW];clear hW e2 z2;go_end0;rw [HS.out];exact ⟨rfl,X6.out,G6.out⟩
set_option maxHeartbeats 4000000
section
variable {z:Nat->Int} {cp g n pb rb:Nat} {r:Rs} {w w0:World} {p:Pk} {c:Cn}
def cWill (z:Nat->Int) (n:Nat) (b:Bool) (r:Rs) (wt:ByteArray) (wl:Nat×(Nat->Int)):(ByteArray×(Nat×(Nat->Int)))×Rs := if b then (((rText z n r).1,(rData z n (rText z n r).2).1),(rData z n (rText z n r).2).2) else ((wt,wl),r)
def cUser (z:Nat->Int) (n:Nat) (b:Bool) (r:Rs) (u:ByteArray):ByteArray×Rs:=if b then rText z n r else (u,r)
def cPass (z:Nat->Int) (n:Nat) (b:Bool) (r:Rs) (l:Nat×(Nat->Int)):(Nat×(Nat->Int))×Rs:=if b then rData z n r else (l,r)
def isM (t:ByteArray):Bool:=t.toList==[77,81,84,84]
def cEnd (p:Pk) (c:Cn) (l m k:Int) (i:ByteArray) (x:ByteArray×(Nat×(Nat->Int))) (u:ByteArray) (s:Nat×(Nat->Int)) (e:Rs):Except (Int×Int) (Rs×Pk×Cn) := if e.q≠0 then .error (e.p,e.q) else .ok (e,{ p with level:=l,hasUser:=mk m 128,hasPass:=mk m 64,wR:=mk m 32,wQ:=bits .and .u8 m 24 / 8,hasWill:=mk m 4,clean:=mk m 2,keep:=k,client:=i,wT:=x.1,wP:=⟨none,x.2.1,0⟩,user:=u,pass:=⟨none,s.1,0⟩ },{ c with wz:=x.2.2,pz:=s.2 })
def badMarks (m:Int):Bool:=mk m 1 || (bits .and .u8 m 24==24)
def cMid (z:Nat->Int) (n:Nat) (p:Pk) (c:Cn) (l m:Int) (r:Rs):Except (Int×Int) (Rs×Pk×Cn) := cEnd p c l m (rNum z n r).1 (rText z n (rNum z n r).2).1 (cWill z n (mk m 4) (rText z n (rNum z n r).2).2 p.wT (p.wP.n,c.wz)).1 (cUser z n (mk m 128) (cWill z n (mk m 4) (rText z n (rNum z n r).2).2 p.wT (p.wP.n,c.wz)).2 p.user).1 (cPass z n (mk m 64) (cUser z n (mk m 128) (cWill z n (mk m 4) (rText z n (rNum z n r).2).2 p.wT (p.wP.n,c.wz)).2 p.user).2 (p.pass.n,c.pz)).1 (rEnd n (cPass z n (mk m 64) (cUser z n (mk m 128) (cWill z n (mk m 4) (rText z n (rNum z n r).2).2 p.wT (p.wP.n,c.wz)).2 p.user).2 (p.pass.n,c.pz)).2)
def connectP (z:Nat->Int) (n:Nat) (r:Rs) (p:Pk) (c:Cn):Except (Int×Int) (Rs×Pk×Cn) := if (rText z n r).2.q=0/\isM (rText z n r).1=false then .error ((r.at0:Int),33) else if badMarks (rByte z n (rByte z n (rText z n r).2).2).1 then .error (((rByte z n (rText z n r).2).2.at0:Int),34) else cMid z n p c (rByte z n (rText z n r).2).1 (rByte z n (rByte z n (rText z n r).2).2).1 (rByte z n (rByte z n (rText z n r).2).2).2
theorem zdP (h:r.q≠0):rByte z n r=(0,r):=if_pos h
theorem connect_odd (h:Cs w0 w rb g n cp pb z r p c) (hN:(rText z n r).2.q=0/\isM (rText z n r).1=false) :
 Calls Tryz.prog 260 #[.agg #[.pointer (some ⟨rb,0,none⟩),.int .i64 n],.pointer (some ⟨pb,0,none⟩)] w fun e w'=>OutIs w0 w' e rb g n cp pb z (connectP z n r p c):=by
 have LW:=Hi h.size;have LR:Hid (rb<w0.heap.size/\pb<w0.heap.size):=⟨h.lr,h.lp⟩;obtain ⟨R,hR⟩:∃ R,R=connectP z n r p c:=⟨_,rfl⟩;rw [<-hR];have HR:=Hi hR;clear hR;obtain ⟨t,ht⟩:∃ t,t=rText z n r:=⟨_,rfl⟩;rw [<-ht] at hN;have H1:=Hi ht;have HE:Hid (R = .error ((r.at0:Int),33)):=by show _=_;rw [HR.out,connectP,<-ht,if_pos hN]
 clear ht HR;obtain ⟨t,r1⟩:=t;simp only at hN;have hq:=hN.1;have HQ:=Hi hq;have ho:(t.toList==[77,81,84,84])=false:=hN.2;clear hN hq;have X0:Hid (Cs w0 (w.alloc (.cells #[.pointer (some ⟨rb,0,none⟩),.int .i64 n] 244)) rb g n cp pb z r p c):=h.below ((Below.refl _ _).alloc (Nat.le_refl _) _);have BX0:Hid ((w.alloc (.cells #[.pointer (some ⟨rb,0,none⟩),.int .i64 n] 244)).cell? ⟨w.heap.size,0,none⟩=some (.pointer (some ⟨rb,0,none⟩))):=by show _=_;simp [go_sem]
 clear h;go_enter Tryz.func260,Tryz.ntmps260;have bx:=BX0.out;go_wp2_with (first | (go_at_call 288;refine (at_any rb _ _ _ _ _ X0.out.rd.rd).mono ?_;rintro e w' ⟨rfl,hee⟩;obtain rfl:=hee.symm;clear hee) | fail);go_must (go_at_call 289);clear bx;refine (zaR X0.out.rd).mono ?_;rw [<-H1.out];rintro e v1 ⟨rfl,hr,hg⟩;have X1:=Hi (X0.out.read hr hg);have BX1:Hid (v1.cell? ⟨w.heap.size,0,none⟩=some (.pointer (some ⟨rb,0,none⟩))):=hg.cell BX0.out (by have:=LR.out;have:=LW.out;simp;omega);clear hr hg;have bx:=BX1.out;go_wp2_with fail;go_must (go_at_call 268);clear bx;refine (zdA rb _ _ _ _ (by have h:=X1.out.rd.rd;rw [HQ.out] at h;exact h)).mono ?_;rintro e w2 ⟨rfl,hee⟩;obtain rfl:=hee.symm;clear hee;go_wp2_with fail;go_must (go_at_call 217);refine (zb0 _ _ _).mono ?_;rintro e w2 ⟨⟨gg,rfl,hgg⟩,hb⟩;have Z:Hid (w2.heap[gg]?=some (.cells #[.int .i64 ((r.at0:Int):Int),.int .i64 33] 134 (0,0))/\Fr2 w0 w2 rb pb):=⟨hgg,X1.out.fr.below hb⟩;clear hgg hb;go_wp2;go_ret;rw [HE.out];exact ⟨⟨gg,rfl,Z.out.1⟩,Z.out.2⟩
theorem connect_dead (h:Cs w0 w rb g n cp pb z r p c) (hN:¬ ((rText z n r).2.q=0/\isM (rText z n r).1=false)) (hq:(rText z n r).2.q≠0) :
 Calls Tryz.prog 260 #[.agg #[.pointer (some ⟨rb,0,none⟩),.int .i64 n],.pointer (some ⟨pb,0,none⟩)] w fun e w'=>OutIs w0 w' e rb g n cp pb z (connectP z n r p c):=by
 have LW:=Hi h.size;have LR:Hid (rb<w0.heap.size/\pb<w0.heap.size):=⟨h.lr,h.lp⟩;obtain ⟨R,hR⟩:∃ R,R=connectP z n r p c:=⟨_,rfl⟩;rw [<-hR];have HR:=Hi hR;clear hR;obtain ⟨t,ht⟩:∃ t,t=rText z n r:=⟨_,rfl⟩;rw [<-ht] at hN hq;have H1:=Hi ht;obtain ⟨l,hl⟩:∃ y,y=rByte z n t.2:=⟨_,rfl⟩;obtain ⟨m,hm⟩:∃ y,y=rByte z n l.2:=⟨_,rfl⟩;obtain ⟨k,hk⟩:∃ y,y=rNum z n m.2:=⟨_,rfl⟩;obtain ⟨i,hi⟩:∃ y,y=rText z n k.2:=⟨_,rfl⟩;obtain ⟨A,hA⟩:∃ y,mk m.1 128=y:=⟨_,rfl⟩;obtain ⟨B,hB⟩:∃ y,mk m.1 64=y:=⟨_,rfl⟩;obtain ⟨C,hC⟩:∃ y,mk m.1 32=y:=⟨_,rfl⟩;obtain ⟨E,hE⟩:∃ y,mk m.1 4=y:=⟨_,rfl⟩;obtain ⟨F,hF⟩:∃ y,mk m.1 2=y:=⟨_,rfl⟩;obtain ⟨D,hD⟩:∃ y,bits .and .u8 m.1 24 / 8=y:=⟨_,rfl⟩;obtain ⟨x,hx⟩:∃ y,y=cWill z n E i.2 p.wT (p.wP.n,c.wz):=⟨_,rfl⟩;obtain ⟨u,hu⟩:∃ y,y=cUser z n A x.2 p.user:=⟨_,rfl⟩;obtain ⟨s,hs⟩:∃ y,y=cPass z n B u.2 (p.pass.n,c.pz):=⟨_,rfl⟩;obtain ⟨r9,hr9⟩:∃ y,y=rEnd n s.2:=⟨_,rfl⟩;have HS:Hid (R=if badMarks m.1 then .error ((l.2.at0:Int),34) else if r9.q≠0 then .error (r9.p,r9.q) else .ok (r9,{ p with level:=l.1,hasUser:=A,hasPass:=B,wR:=C,wQ:=D,hasWill:=E,clean:=F,keep:=k.1,client:=i.1,wT:=x.1.1,wP:=⟨none,x.1.2.1,0⟩,user:=u.1,pass:=⟨none,s.1.1,0⟩ },{ c with wz:=x.1.2.2,pz:=s.1.2 })):=by show _=_;rw [HR.out,connectP,<-ht,if_neg hN,<-hl,<-hm,cMid,<-hk,<-hi,hE,<-hx,hA,<-hu,hB,<-hs,<-hr9,cEnd,hA,hB,hC,hD,hE,hF]
 have H2:=Hi hl;have H3:=Hi hm;have H4:=Hi hk;have H5:=Hi hi;have H6:=Hi hx;have H7:=Hi hu;have H8:=Hi hs;have H9:=Hi hr9;have HM:Hid (mk m.1 128=A/\mk m.1 64=B/\mk m.1 32=C/\bits .and .u8 m.1 24 / 8=D/\mk m.1 4=E/\mk m.1 2=F):=⟨hA,hB,hC,hD,hE,hF⟩;clear ht hl hm hk hi hx hu hs hr9 hA hB hC hD hE hF HR;obtain ⟨t,r1⟩:=t;obtain ⟨l,r2⟩:=l;obtain ⟨m,r3⟩:=m;obtain ⟨k,r4⟩:=k;obtain ⟨i,r5⟩:=i;obtain ⟨⟨xt,xn,xz⟩,r6⟩:=x;obtain ⟨us,r7⟩:=u;obtain ⟨⟨sn,sz⟩,r8⟩:=s;simp only at H2 H3 H4 H5 H6 H7 H8 H9 HS HM hN;simp only at hq;have HQ:=Hi hq;clear hN hq;have X0:Hid (Cs w0 (w.alloc (.cells #[.pointer (some ⟨rb,0,none⟩),.int .i64 n] 244)) rb g n cp pb z r p c):=h.below ((Below.refl _ _).alloc (Nat.le_refl _) _);have BX0:Hid ((w.alloc (.cells #[.pointer (some ⟨rb,0,none⟩),.int .i64 n] 244)).cell? ⟨w.heap.size,0,none⟩=some (.pointer (some ⟨rb,0,none⟩))):=by show _=_;simp [go_sem]
 clear h;go_enter Tryz.func260,Tryz.ntmps260;have bx:=BX0.out;go_wp2_with (first | (go_at_call 288;refine (at_any rb _ _ _ _ _ X0.out.rd.rd).mono ?_;rintro e w' ⟨rfl,hee⟩;obtain rfl:=hee.symm;clear hee) | fail);go_must (go_at_call 289);clear bx;refine (zaR X0.out.rd).mono ?_;rw [<-H1.out];rintro e v1 ⟨rfl,hr,hg⟩;have X1:=Hi (X0.out.read hr hg);have BX1:Hid (v1.cell? ⟨w.heap.size,0,none⟩=some (.pointer (some ⟨rb,0,none⟩))):=hg.cell BX0.out (by have:=LR.out;have:=LW.out;simp;omega);clear hr hg;have bx:=BX1.out;go_wp2_with fail;go_must (go_at_call 268);clear bx;refine (zdE rb _ _ _ _ _ X1.out.rd.rd HQ.out).mono ?_;rintro e v2 ⟨rfl,hee⟩;have hb:Below v1.heap.size v1 v2:=by rw [hee];exact ((Below.refl _ _).alloc (Nat.le_refl _) _).drew
 have X2:=Hi (X1.out.below hb);have BX2:=Hi (cell_later hb BX1.out);clear hee hb;go_upto_region 5 with fail;have bx:=BX2.out;go_wp2_with fail;go_must (go_at_call 219);clear bx;refine (zbh X2.out.rd).mono ?_;rw [<-H2.out];rintro e v3 ⟨rfl,hr,hg⟩;have X3:=Hi (X2.out.read hr hg);have BX3:Hid (v3.cell? ⟨w.heap.size,0,none⟩=some (.pointer (some ⟨rb,0,none⟩))):=hg.cell BX2.out (by have:=LR.out;have:=LW.out;simp;omega);clear hr hg;have bl:0<=l/\l<=255:=by have h:=zbq (z:=z) (n:=n) X1.out.rd;rw [<-H2.out] at h;exact h
 have e1:=X3.out.cell 1 (.int .i64 p.level) rfl;have z1:=X3.out.frozen 1;obtain ⟨v4,hW⟩:∃ W,W=v3.setCell ⟨pb,1,none⟩ (.int .i64 l):=⟨_,rfl⟩;have X4:=(show Hid _ from X3.out.setS 1 (.int .i64 l) ({ p with level:=l }) rfl rfl rfl rfl rfl rfl rfl);rw [<-hW] at X4;have BX4:Hid (v4.cell? ⟨w.heap.size,0,none⟩=some (.pointer (some ⟨rb,0,none⟩))):=by show _=_;rw [hW];exact bx_set BX3.out (by have:=LR.out;have:=LW.out;omega)
 go_upto_region 6 with fail;rw [<-hW];clear hW e1 z1;clear bl;have bm:0<=m/\m<=255:=by have h:=zbq (z:=z) (n:=n) X4.out.rd;rw [<-H3.out] at h;exact h
 have BM:=Hi bm;clear bm;have bx:=BX4.out;go_wp2_with (first | (go_at_call 288;refine (at_any rb _ _ _ _ _ X4.out.rd.rd).mono ?_;rintro e w' ⟨rfl,hee⟩;obtain rfl:=hee.symm;clear hee) | fail);go_must (go_at_call 219);clear bx;refine (zbh X4.out.rd).mono ?_;rw [<-H3.out];rintro e v5 ⟨rfl,hr,hg⟩;have X5:=Hi (X4.out.read hr hg);have BX5:Hid (v5.cell? ⟨w.heap.size,0,none⟩=some (.pointer (some ⟨rb,0,none⟩))):=hg.cell BX4.out (by have:=LR.out;have:=LW.out;simp;omega);clear hr hg;obtain ⟨a1,h1⟩:∃ y,(bits .and .u8 m 1 != 0)=y:=⟨_,rfl⟩;obtain ⟨a2,h2⟩:∃ y,(bits .and .u8 m 24==24)=y:=⟨_,rfl⟩;have HB:Hid (badMarks m=(a1 || a2)):=by show _=_;rw [badMarks,mk,h1,h2]
 have hm0:m=0/\r3=r1:=by have e2:=H2.out.trans (zdP HQ.out);have e3:=H3.out;rw [(Prod.mk.inj e2).2] at e3;have e4:=e3.trans (zdP HQ.out);exact ⟨(Prod.mk.inj e4).1,(Prod.mk.inj e4).2⟩
 have hmz:=hm0.1;have hrz:=hm0.2.symm;clear hm0;have HAE:Hid (A=false/\B=false/\E=false):=by have h:=HM.out;rw [hmz] at h;exact ⟨h.1.symm.trans rfl,h.2.1.symm.trans rfl,h.2.2.2.2.1.symm.trans rfl⟩
 have a10:a1=false:=by rw [<-h1,hmz];rfl
 have a20:a2=false:=by rw [<-h2,hmz];rfl
 subst a10 a20;clear hmz hrz;have HE:Hid (R=if r9.q≠0 then .error (r9.p,r9.q) else .ok (r9,{ p with level:=l,hasUser:=A,hasPass:=B,wR:=C,wQ:=D,hasWill:=E,clean:=F,keep:=k,client:=i,wT:=xt,wP:=⟨none,xn,0⟩,user:=us,pass:=⟨none,sn,0⟩ },{ c with wz:=xz,pz:=sz })):=by show _=_;rw [HS.out,if_neg (by rw [HB.out];decide)]
 clear HS HB;go_upto_region 10 with fail;clear h1 h2;go_wp2_with fail;go_must (go_at_call 290);refine (zbT m BM.out X5.out).mono ?_;have EM:marksP ({ p with level:=l }) m = { p with level:=l,hasUser:=A,hasPass:=B,wR:=C,wQ:=D,hasWill:=E,clean:=F }:=by obtain ⟨a,b,cc,d,ee,f⟩:=HM.out;rw [marksP,a,b,cc,d,ee,f]
 rw [EM];clear EM;rintro e v6 ⟨rfl,hr,hg⟩;have X6:=Hi hr;have BX6:Hid (v6.cell? ⟨w.heap.size,0,none⟩=some (.pointer (some ⟨rb,0,none⟩))):=hg.cell BX5.out (by have:=LR.out;have:=LW.out;simp;omega);clear hr hg HM BM;have bx:=BX6.out;go_wp2_with fail;go_must (go_at_call 266);clear bx;refine (zaU X6.out.rd).mono ?_;rw [<-H4.out];rintro e v7 ⟨rfl,hr,hg⟩;have X7:=Hi (X6.out.read hr hg);have BX7:Hid (v7.cell? ⟨w.heap.size,0,none⟩=some (.pointer (some ⟨rb,0,none⟩))):=hg.cell BX6.out (by have:=LR.out;have:=LW.out;simp;omega);clear hr hg;have e3:=X7.out.cell 3 (.int .i64 p.keep) rfl;have z3:=X7.out.frozen 3;obtain ⟨v8,hW⟩:∃ W,W=v7.setCell ⟨pb,3,none⟩ (.int .i64 k):=⟨_,rfl⟩;have X8:=(show Hid _ from X7.out.setS 3 (.int .i64 k) ({ p with level:=l,hasUser:=A,hasPass:=B,wR:=C,wQ:=D,hasWill:=E,clean:=F,keep:=k }) rfl rfl rfl rfl rfl rfl rfl);rw [<-hW] at X8;have BX8:Hid (v8.cell? ⟨w.heap.size,0,none⟩=some (.pointer (some ⟨rb,0,none⟩))):=by show _=_;rw [hW];exact bx_set BX7.out (by have:=LR.out;have:=LW.out;omega)
 go_upto_region 12 with fail;rw [<-hW];clear hW e3 z3;have bx:=BX8.out;go_wp2_with fail;go_must (go_at_call 289);clear bx;refine (zaR X8.out.rd).mono ?_;rw [<-H5.out];rintro e v9 ⟨rfl,hr,hg⟩;have X9:=Hi (X8.out.read hr hg);have BX9:Hid (v9.cell? ⟨w.heap.size,0,none⟩=some (.pointer (some ⟨rb,0,none⟩))):=hg.cell BX8.out (by have:=LR.out;have:=LW.out;simp;omega);clear hr hg;have e4:=X9.out.cell 4 (.string p.client) rfl;have z4:=X9.out.frozen 4;obtain ⟨v10,hW⟩:∃ W,W=v9.setCell ⟨pb,4,none⟩ (.string i):=⟨_,rfl⟩;have X10:=(show Hid _ from X9.out.setS 4 (.string i) ({ p with level:=l,hasUser:=A,hasPass:=B,wR:=C,wQ:=D,hasWill:=E,clean:=F,keep:=k,client:=i }) rfl rfl rfl rfl rfl rfl rfl);rw [<-hW] at X10;have BX10:Hid (v10.cell? ⟨w.heap.size,0,none⟩=some (.pointer (some ⟨rb,0,none⟩))):=by show _=_;rw [hW];exact bx_set BX9.out (by have:=LR.out;have:=LW.out;omega)
 go_upto_region 13 with fail;rw [<-hW];clear hW e4 z4;have e5:=X10.out.cell 5 (.bool E) rfl;have hv:E=false:=HAE.out.2.2;subst hv;have eq6:=H6.out.trans (if_neg (by decide));simp only [Prod.mk.injEq] at eq6;obtain ⟨⟨rfl,rfl,rfl⟩,rfl⟩:=eq6;go_upto_region 16 with fail;clear e5;have e10:=X10.out.cell 10 (.bool A) rfl;have hv:A=false:=HAE.out.1;subst hv;have eq7:=H7.out.trans (if_neg (by decide));simp only [Prod.mk.injEq] at eq7;obtain ⟨rfl,rfl⟩:=eq7;go_upto_region 18 with fail;clear e10;have e12:=X10.out.cell 12 (.bool B) rfl;have hv:B=false:=HAE.out.2.1;subst hv;have eq8:=H8.out.trans (if_neg (by decide));simp only [Prod.mk.injEq] at eq8;obtain ⟨⟨rfl,rfl⟩,rfl⟩:=eq8;go_upto_region 20 with fail;clear e12;have bx:=BX10.out;go_wp2_with fail;go_must (go_at_call 267);clear bx;refine (zb1 X10.out.rd).mono ?_;rw [<-H9.out];rintro e v11 ⟨rfl,hr,hg⟩;have X11:=Hi (X10.out.read hr hg);have BX11:Hid (v11.cell? ⟨w.heap.size,0,none⟩=some (.pointer (some ⟨rb,0,none⟩))):=hg.cell BX10.out (by have:=LR.out;have:=LW.out;simp;omega);clear hr hg;have bx:=BX11.out;go_wp2_with fail;go_must (go_at_call 268);clear bx;have EE:R=if r9.q≠0 then .error (r9.p,r9.q) else .ok (r9,{ p with level:=l,hasUser:=false,hasPass:=false,wR:=C,wQ:=D,hasWill:=false,clean:=F,keep:=k,client:=i,wT:=p.wT,wP:=⟨none,p.wP.n,0⟩,user:=p.user,pass:=⟨none,p.pass.n,0⟩ },c):=HE.out;have T:=zaJ X11.out ({ p with level:=l,hasUser:=false,hasPass:=false,wR:=C,wQ:=D,hasWill:=false,clean:=F,keep:=k,client:=i,wT:=p.wT,wP:=⟨none,p.wP.n,0⟩,user:=p.user,pass:=⟨none,p.pass.n,0⟩ }) ⟨p.wP,p.pass,p.mP,p.asks,p.codes,p.filters,rfl,rfl,rfl,rfl,rfl,rfl,rfl⟩;rw [<-EE] at T;refine T.mono ?_;rintro e w6 hO;obtain ⟨v,rfl⟩:=hO.ret;have HO:=(show Hid _ from hO);clear hO T EE;go_wp2;go_ret;exact HO.out
end
end Go.Proofs.YtceigllifjgalaaGreatDoor
