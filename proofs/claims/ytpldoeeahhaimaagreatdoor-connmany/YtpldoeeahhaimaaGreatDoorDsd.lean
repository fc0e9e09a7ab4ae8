import Derived.Test.YtpldoeeahhaimaaGreatDoorDsa
import Derived.Deep.CutRange
namespace Go.Proofs.YtpldoeeahhaimaaGreatDoor.Dr
open Go Go.RowKit
open Pkt (Pk Cn Sl In By Is Ss As pkCells)
set_option linter.all false
structure Ds (w0 w:World) (mb pb:Nat) (a:Option Addr) (n cp:Nat) (z:Nat->Int) (r:Rs) (p:Pk) (c:Cn):Prop where
 rd:Rrd w mb a n cp z r
 pk:w.heap[pb]?=some (.cells (pkCells p) 39 (0,0))
 lr:mb<w0.heap.size
 lp:pb<w0.heap.size
 n1:pb≠mb
 n2:∀ g,a=some ⟨g,0,none⟩->pb≠g
 inn:In w p c
 nx:NxAll w0.heap.size p
 os:w.os=w0.os
 tape:w.tape=w0.tape
 output:w.output=w0.output
 size:w0.heap.size<=w.heap.size
 block:∀ k,k<w0.heap.size->k≠mb->k≠pb->w.heap[k]?=w0.heap[k]?
section
variable {w0 w w':World} {mb pb:Nat} {a:Option Addr} {n cp:Nat} {z:Nat->Int} {r r':Rs} {p:Pk} {c:Cn}
theorem Ds.read (h:Ds w0 w mb pb a n cp z r p c) (hr:Rrd w' mb a n cp z r') (hg:w.grownBy w' (some mb)):Ds w0 w' mb pb a n cp z r' p c where
 rd:=hr
 pk:=(hg.block pb (lt_of_block h.pk) (by simpa using h.n1)).trans h.pk
 lr:=h.lr
 lp:=h.lp
 n1:=h.n1
 n2:=h.n2
 inn:=In.keep h.inn h.nx (keep_grown hg h.lr)
 nx:=h.nx
 os:=hg.os.trans h.os
 tape:=hg.tape.trans h.tape
 output:=hg.output.trans h.output
 size:=Nat.le_trans h.size hg.size
 block:=fun k hk h1 h2=>(hg.block k (Nat.lt_of_lt_of_le hk h.size) (by simpa using h1)).trans (h.block k hk h1 h2)
theorem Rrd.below (h:Rrd w mb a n cp z r) (hb:Below w.heap.size w w'):Rrd w' mb a n cp z r:=h.next (gb_bel hb) (h.rr.below hb) h.le
theorem Ds.below (h:Ds w0 w mb pb a n cp z r p c) (hb:Below w.heap.size w w'):Ds w0 w' mb pb a n cp z r p c:=h.read (h.rd.below hb) (gb_bel hb)
theorem Rrd.other {i:Nat} {v:Value} (h:Rrd w mb a n cp z r) (n1:pb≠mb) (n2:∀ g,a=some ⟨g,0,none⟩->pb≠g):Rrd (w.setCell ⟨pb,i,none⟩ v) mb a n cp z r:=by
 refine ⟨?_,?_,h.ba,h.le,h.few⟩;· have:=h.rr;unfold Rr at this ⊢;rw [Below.heap_setCell w _ v mb (by show mb≠pb;exact Ne.symm n1)];exact this
 ·
  obtain ⟨h1,h2,h3 | ⟨ad,e,hc⟩⟩:=h.cm;· exact ⟨h1,h2,.inl h3⟩
  ·
   refine ⟨h1,h2,.inr ⟨ad,e,fun i hi=>?_⟩⟩;have hx:=hc i hi;rcases h.ba with q | ⟨g,q,-⟩;· rw [q] at e;cases e
   · rw [q] at e;cases e;rw [plain_add] at hx ⊢;unfold World.cell? at hx ⊢;rw [Below.heap_setCell w _ v g (by show g≠pb;exact Ne.symm (n2 g q))];exact hx
theorem Ds.set (h:Ds w0 w mb pb a n cp z r p c) (i:Nat) (v:Value) (p':Pk) (c':Cn) (hp:(pkCells p).setIfInBounds i v=pkCells p') (hin:Keep w0.heap.size w (w.setCell ⟨pb,i,none⟩ v)->In (w.setCell ⟨pb,i,none⟩ v) p' c') (hnx:NxAll w0.heap.size p'):Ds w0 (w.setCell ⟨pb,i,none⟩ v) mb pb a n cp z r p' c' where
 rd:=h.rd.other h.n1 h.n2
 pk:=by rw [<-hp];exact heap_set h.pk v
 lr:=h.lr
 lp:=h.lp
 n1:=h.n1
 n2:=h.n2
 inn:=hin (keep_set h.lp)
 nx:=hnx
 os:=h.os
 tape:=h.tape
 output:=h.output
 size:=by
  have:(w.setCell ⟨pb,i,none⟩ v).heap.size=w.heap.size:=by simp [World.setCell]
  rw [this];exact h.size
 block:=fun k hk h1 h2=>(Below.heap_setCell w _ v k (by show k≠pb;exact h2)).trans (h.block k hk h1 h2)
theorem Ds.cell (h:Ds w0 w mb pb a n cp z r p c) (k:Nat) (v:Value) (hk:(pkCells p)[k]?=some v):w.cell? ⟨pb,k,none⟩=some v:=by simp [World.cell?,h.pk,hk]
theorem Ds.frozen (h:Ds w0 w mb pb a n cp z r p c) (k:Nat):w.frozen? ⟨pb,k,none⟩=false:=by simp [World.frozen?,h.pk]
theorem Ds.setS (h:Ds w0 w mb pb a n cp z r p c) (i:Nat) (v:Value) (p':Pk) (hp:(pkCells p).setIfInBounds i v=pkCells p') (e1:p'.wP=p.wP) (e2:p'.pass=p.pass) (e3:p'.mP=p.mP) (e4:p'.asks=p.asks) (e5:p'.codes=p.codes) (e6:p'.filters=p.filters):Ds w0 (w.setCell ⟨pb,i,none⟩ v) mb pb a n cp z r p' c := h.set i v p' c hp (fun hk=>by have q:=In.keep h.inn h.nx hk;exact ⟨by rw [e1];exact q.wP,by rw [e2];exact q.pass,by rw [e3];exact q.mP,by rw [e4];exact q.asks,by rw [e5];exact q.codes,by rw [e6];exact q.filters⟩) ⟨by rw [e1];exact h.nx.wP,by rw [e2];exact h.nx.pass,by rw [e3];exact h.nx.mP,by rw [e4];exact h.nx.asks,by rw [e5];exact h.nx.codes,by rw [e6];exact h.nx.filters⟩
theorem Ds.fr (h:Ds w0 w mb pb a n cp z r p c):Fr2 w0 w mb pb:=⟨h.os,h.tape,h.output,h.size,h.block⟩
theorem Ds.err (h:Ds w0 w mb pb a n cp z r p c):w.cell? ⟨mb,2,none⟩=some (.int .i64 r.q)/\w.cell? ⟨mb,3,none⟩=some (.int .i64 r.p):=⟨h.rd.rr.facts.2.2.1,h.rd.rr.facts.2.2.2.1⟩
theorem Ds.kept (h:Ds w0 w mb pb a n cp z r p c) {j:Nat} {o:Obj} (hj:w0.heap[j]?=some o) (h1:j≠mb) (h2:j≠pb):w.heap[j]?=some o:=(h.block j (Array.getElem?_eq_some_iff.1 hj).1 h1 h2).trans hj
theorem ds_byte (h:Ds w0 w mb pb a n cp z r p c):Calls Tryz.prog 74 #[.pointer (some ⟨mb,0,none⟩)] w fun e w'=>e = .returned (.int .u8 (Go.Proofs.YtpldoeeahhaimaaGreatDoor.rByte z n r).1)/\Ds w0 w' mb pb a n cp z (Go.Proofs.YtpldoeeahhaimaaGreatDoor.rByte z n r).2 p c/\0<=(Go.Proofs.YtpldoeeahhaimaaGreatDoor.rByte z n r).1/\(Go.Proofs.YtpldoeeahhaimaaGreatDoor.rByte z n r).1<=255:=by
 refine (dbyte_any h.rd).mono ?_;rintro e w' ⟨rfl,h1,h2⟩;refine ⟨rfl,h.read h1 h2,?_⟩;have:=h.rd.cm.2.1 r.at0;unfold Go.Proofs.YtpldoeeahhaimaaGreatDoor.rByte;split;· simp
 ·
  split;· simp
  · exact this
theorem ds_num (h:Ds w0 w mb pb a n cp z r p c):Calls Tryz.prog 76 #[.pointer (some ⟨mb,0,none⟩)] w fun e w'=>e = .returned (.int .i64 (Go.Proofs.YtpldoeeahhaimaaGreatDoor.rNum z n r).1)/\Ds w0 w' mb pb a n cp z (Go.Proofs.YtpldoeeahhaimaaGreatDoor.rNum z n r).2 p c:=by refine (dnum_any h.rd).mono ?_;rintro e w' ⟨rfl,h1,h2⟩;exact ⟨rfl,h.read h1 h2⟩
theorem ds_text (h:Ds w0 w mb pb a n cp z r p c):Calls Tryz.prog 75 #[.pointer (some ⟨mb,0,none⟩)] w fun e w'=>e = .returned (.string (rText z n r).1)/\Ds w0 w' mb pb a n cp z (rText z n r).2 p c:=by refine (dtext_any h.rd).mono ?_;rintro e w' ⟨rfl,h1,h2⟩;exact ⟨rfl,h.read h1 h2⟩
theorem ds_end (h:Ds w0 w mb pb a n cp z r p c):Calls Tryz.prog 79 #[.pointer (some ⟨mb,0,none⟩)] w fun e w'=>e = .returned (.tuple #[])/\Ds w0 w' mb pb a n cp z (Go.Proofs.YtpldoeeahhaimaaGreatDoor.rEnd n r) p c:=by refine (dend_any h.rd).mono ?_;rintro e w' ⟨rfl,h1,h2⟩;exact ⟨rfl,h.read h1 h2⟩
theorem ds_at (h:Ds w0 w mb pb a n cp z r p c):Calls Tryz.prog 111 #[.pointer (some ⟨mb,0,none⟩)] w fun e w'=>e = .returned (.int .i64 r.at0)/\w'=w:=refAt_any h.rd
theorem ds_data (h:Ds w0 w mb pb a n cp z r p c):Calls Tryz.prog 112 #[.pointer (some ⟨mb,0,none⟩)] w fun e w'=>∃ s:Sl,e = .returned (.slice s.a s.n s.c)/\Nx w0.heap.size s/\s.n=(rData z n r).1.1/\By w' s (rData z n r).1.2/\Ds w0 w' mb pb a n cp z (rData z n r).2 p c:=by refine (ddata_any h.rd).mono ?_;rintro e w' ⟨⟨s,rfl,hs⟩,h1,h2⟩;exact ⟨s,rfl,fun b off e=>Nat.le_trans h.size (hs.2.2 b off e),hs.1,hs.2.1,h.read h1 h2⟩
theorem ds_rest (h:Ds w0 w mb pb a n cp z r p c):Calls Tryz.prog 77 #[.pointer (some ⟨mb,0,none⟩)] w fun e w'=>∃ s:Sl,e = .returned (.slice s.a s.n s.c)/\Nx w0.heap.size s/\s.n=(rRest z n r).1.1/\By w' s (rRest z n r).1.2/\Ds w0 w' mb pb a n cp z (rRest z n r).2 p c:=by refine (drest_any h.rd).mono ?_;rintro e w' ⟨⟨s,rfl,hs⟩,h1,h2⟩;exact ⟨s,rfl,fun b off e=>Nat.le_trans h.size (hs.2.2 b off e),hs.1,hs.2.1,h.read h1 h2⟩
theorem Ds.setW (h:Ds w0 w mb pb a n cp z r p c) {s:Sl} {y:Nat->Int} (hn:Nx w0.heap.size s) (hb:By w s y):Ds w0 (w.setCell ⟨pb,7,none⟩ (.slice s.a s.n s.c)) mb pb a n cp z r { p with wP:=s } { c with wz:=y } := h.set 7 _ _ _ rfl (fun hk=>by have q:=In.keep h.inn h.nx hk;exact ⟨By.keep hb hn hk,q.pass,q.mP,q.asks,q.codes,q.filters⟩) ⟨hn,h.nx.pass,h.nx.mP,h.nx.asks,h.nx.codes,h.nx.filters⟩
theorem Ds.setP (h:Ds w0 w mb pb a n cp z r p c) {s:Sl} {y:Nat->Int} (hn:Nx w0.heap.size s) (hb:By w s y):Ds w0 (w.setCell ⟨pb,13,none⟩ (.slice s.a s.n s.c)) mb pb a n cp z r { p with pass:=s } { c with pz:=y } := h.set 13 _ _ _ rfl (fun hk=>by have q:=In.keep h.inn h.nx hk;exact ⟨q.wP,By.keep hb hn hk,q.mP,q.asks,q.codes,q.filters⟩) ⟨h.nx.wP,hn,h.nx.mP,h.nx.asks,h.nx.codes,h.nx.filters⟩
theorem Ds.setM (h:Ds w0 w mb pb a n cp z r p c) {s:Sl} {y:Nat->Int} (hn:Nx w0.heap.size s) (hb:By w s y):Ds w0 (w.setCell ⟨pb,18,none⟩ (.slice s.a s.n s.c)) mb pb a n cp z r { p with mP:=s } { c with mz:=y } := h.set 18 _ _ _ rfl (fun hk=>by have q:=In.keep h.inn h.nx hk;exact ⟨q.wP,q.pass,By.keep hb hn hk,q.asks,q.codes,q.filters⟩) ⟨h.nx.wP,h.nx.pass,hn,h.nx.asks,h.nx.codes,h.nx.filters⟩
end
def DOut (w0 w':World) (e:Ending) (mb pb:Nat) (a:Option Addr) (n cp:Nat) (z:Nat->Int):Except (Int×Int) (Rs×Pk×Cn)->Prop | .error x=>e = .returned (.agg #[.int .i64 x.1,.int .i64 x.2])/\Fr2 w0 w' mb pb/\∃ q:Pk,w'.heap[pb]?=some (.cells (pkCells q) 39 (0,0)) | .ok y=>e = .returned (.agg #[.int .i64 0,.int .i64 0])/\∃ q:Pk,Ds w0 w' mb pb a n cp z y.1 q y.2.2/\Alike q y.2.1
open Go.Proofs.YtpldoeeahhaimaaGreatDoor renaming rByte → rB, rNum → rN
set_option maxRecDepth 100000
set_option maxHeartbeats 8000000
def cMid0 (z:Nat->Int) (n:Nat) (p:Pk) (c:Cn) (l m:Int) (r:Rs):Except (Int×Int) (Rs×Pk×Cn) := cEnd p c l m (rN z n r).1 (rText z n (rN z n r).2).1 (cWill z n (mk m 4) (rText z n (rN z n r).2).2 p.wT (p.wP.n,c.wz)).1 (cUser z n (mk m 128) (cWill z n (mk m 4) (rText z n (rN z n r).2).2 p.wT (p.wP.n,c.wz)).2 p.user).1 (cPass z n (mk m 64) (cUser z n (mk m 128) (cWill z n (mk m 4) (rText z n (rN z n r).2).2 p.wT (p.wP.n,c.wz)).2 p.user).2 (p.pass.n,c.pz)).1 (cPass z n (mk m 64) (cUser z n (mk m 128) (cWill z n (mk m 4) (rText z n (rN z n r).2).2 p.wT (p.wP.n,c.wz)).2 p.user).2 (p.pass.n,c.pz)).2
def connP0 (z:Nat->Int) (n:Nat) (r:Rs) (p:Pk) (c:Cn):Except (Int×Int) (Rs×Pk×Cn) := if (rText z n r).2.q=0/\isM (rText z n r).1=false then .error (0,33) else if (rB z n (rB z n (rText z n r).2).2).2.q=0/\badMarks (rB z n (rB z n (rText z n r).2).2).1=true then .error (((rB z n (rText z n r).2).2.at0:Int),34) else cMid0 z n p c (rB z n (rText z n r).2).1 (rB z n (rB z n (rText z n r).2).2).1 (rB z n (rB z n (rText z n r).2).2).2
theorem dcell {w:World} {g t:Nat} {cs:Array Value} {fz:Nat×Nat} (h:w.heap[g]?=some (.cells cs t fz)) (k:Nat) (v:Value) (hk:cs[k]?=some v):w.cell? ⟨g,k,none⟩=some v:=by simp [World.cell?,h,hk]
theorem dfroz {w:World} {g t:Nat} {cs:Array Value} (h:w.heap[g]?=some (.cells cs t (0,0))) (k:Nat):w.frozen? ⟨g,k,none⟩=false:=by simp [World.frozen?,h]
theorem f_info:(Tryz.prog.info? 73).map (·.size)=some 2:=by kernel_rfl
theorem fault_at {v:World} {b:Nat} (hb:v.heap[b]?=some (.cells #[.int .i64 0,.int .i64 0] 73 (0,0))) (x y:Int):((v.setCell ⟨b,0,none⟩ (.int .i64 x)).setCell ⟨b,1,none⟩ (.int .i64 y)).heap[b]?=some (.cells #[.int .i64 x,.int .i64 y] 73 (0,0)):=by have h1:=heap_set (i:=0) hb (.int .i64 x);exact heap_set (i:=1) h1 (.int .i64 y)
theorem fr2_set {w v:World} {mb pb b i:Nat} {u:Value} (h:Fr2 w v mb pb) (hb:w.heap.size<=b):Fr2 w (v.setCell ⟨b,i,none⟩ u) mb pb :=
 ⟨h.os, h.tape, h.output, by have : (v.setCell ⟨b, i, none⟩ u).heap.size = v.heap.size := by simp [World.setCell]
                             rw [this];exact h.size,fun k hk h1 h2=>(Below.heap_setCell v _ u k (by show k≠b;omega)).trans (h.block k hk h1 h2)⟩
theorem or_one (x y:Int) (h:x=1):true=(decide ((0:Int)=0) && (decide (x=1) || decide (y=3))):=by simp [h]
theorem or_two (x y:Int) (h:¬ x=1):(y==3)=(decide ((0:Int)=0) && (decide (x=1) || decide (y=3))):=by simp only [h,decide_false,Bool.false_or,decide_true,Bool.true_and];rfl
theorem mk_facts:∀ k:Nat,k<256->(bits .and .u8 (k:Int) 24 / 8=(k:Int) / 8 % 4)/\((bits .and .u8 (k:Int) 24==24)=decide ((k:Int) / 8 % 4=3))/\((bits .and .u8 (k:Int) 1 != 0)=decide ((k:Int) % 2=1))/\(0<=bits .and .u8 (k:Int) 128/\0<=bits .and .u8 (k:Int) 64/\0<=bits .and .u8 (k:Int) 32/\0<=bits .and .u8 (k:Int) 4/\0<=bits .and .u8 (k:Int) 2):=by decide +kernel
theorem mk_pos {m b:Int} (h:0<=bits .and .u8 m b):decide (0<bits .and .u8 m b)=mk m b:=by
 unfold mk;by_cases e:bits .and .u8 m b=0;· simp [e]
 · have:0<bits .and .u8 m b:=by omega
   simp [this,e]
theorem Rrd.fresh {w v:World} {mb b i:Nat} {a:Option Addr} {n cp:Nat} {z:Nat->Int} {r r0:Rs} {u:Value} (h:Rrd v mb a n cp z r) (h0:Rrd w mb a n cp z r0) (hm:mb<w.heap.size) (hb:w.heap.size<=b):Rrd (v.setCell ⟨b,i,none⟩ u) mb a n cp z r:=by
 refine ⟨?_,?_,h.ba,h.le,h.few⟩;· have:=h.rr;unfold Rr at this ⊢;rw [Below.heap_setCell v _ u mb (by show mb≠b;omega)];exact this
 ·
  obtain ⟨h1,h2,h3 | ⟨ad,e,hc⟩⟩:=h.cm;· exact ⟨h1,h2,.inl h3⟩
  ·
   refine ⟨h1,h2,.inr ⟨ad,e,fun j hj=>?_⟩⟩;have hx:=hc j hj;rcases h.ba with q | ⟨g,q,-⟩;· rw [q] at e;cases e
   ·
    rw [q] at e;cases e;have hg:g<w.heap.size:=by
     obtain ⟨-,-,k3 | ⟨ad',e',kc⟩⟩:=h0.cm;· rw [q] at k3;cases k3.1
     · rw [q] at e'
       cases e';have:=kc j hj;rw [plain_add] at this;exact lt_of_cell this
    rw [plain_add] at hx ⊢;unfold World.cell? at hx ⊢;rw [Below.heap_setCell v _ u g (by show g≠b;omega)];exact hx
theorem Nx.mono {B C:Nat} {s:Sl} (h:Nx C s) (hl:B<=C):Nx B s:=fun b off e=>Nat.le_trans hl (h b off e)
theorem Ds.home {w W1 v:World} {mb pb:Nat} {a:Option Addr} {n cp:Nat} {z:Nat->Int} {r r0:Rs} {p p0:Pk} {c c0:Cn} (h:Ds W1 v mb pb a n cp z r p c) (h0:Ds w w mb pb a n cp z r0 p0 c0) (b1:Below w.heap.size w W1) (sz1:W1.heap.size=w.heap.size+1) (u0 u1:Value):Ds w ((v.setCell ⟨w.heap.size,0,none⟩ u0).setCell ⟨w.heap.size,1,none⟩ u1) mb pb a n cp z r p c where
 rd:=(h.rd.fresh h0.rd h0.lr (Nat.le_refl _)).fresh h0.rd h0.lr (Nat.le_refl _)
 pk:=(Below.heap_setCell _ _ u1 pb (by have:=h0.lp;show pb≠w.heap.size;omega)).trans ((Below.heap_setCell v _ u0 pb (by have:=h0.lp;show pb≠w.heap.size;omega)).trans h.pk)
 lr:=h0.lr
 lp:=h0.lp
 n1:=h.n1
 n2:=h.n2
 inn:=In.keep (In.keep h.inn h.nx (keep_set (by omega))) h.nx (keep_set (by omega))
 nx:=⟨Nx.mono h.nx.wP (by omega),Nx.mono h.nx.pass (by omega),Nx.mono h.nx.mP (by omega),Nx.mono h.nx.asks (by omega),Nx.mono h.nx.codes (by omega),Nx.mono h.nx.filters (by omega)⟩
 os:=h.os.trans b1.os
 tape:=h.tape.trans b1.tape
 output:=h.output.trans b1.output
 size:=by
  have:((v.setCell ⟨w.heap.size,0,none⟩ u0).setCell ⟨w.heap.size,1,none⟩ u1).heap.size=v.heap.size:=by simp [World.setCell]
  rw [this];exact Nat.le_trans b1.size h.size
 block:=fun k hk h1 h2=>(Below.heap_setCell _ _ u1 k (by show k≠w.heap.size;omega)).trans ((Below.heap_setCell v _ u0 k (by show k≠w.heap.size;omega)).trans ((h.block k (by omega) h1 h2).trans (b1.block k hk)))
theorem Fr2.drew {w v:World} {mb pb:Nat} (h:Fr2 w v mb pb):Fr2 w v.drew mb pb:=⟨h.os,h.tape,h.output,h.size,h.block⟩
theorem pk_chain {p p7 p8 p9 p10 p11 p12:Pk} {l k q8:Int} {i xt us:ByteArray} {sw sp:Sl} {qA qB qC qE qF:Bool} (h7:p7 = { p with level:=l,hasUser:=qA,hasPass:=qB,hasWill:=qE,clean:=qF }) (h8:p8 = { p7 with wR:=qC,wQ:=q8 }) (h9:p9 = { p8 with keep:=k }) (h10:p10 = { p9 with client:=i }) (h11:p11 = { p10 with wT:=xt,wP:=sw }) (h12:p12 = { p11 with user:=us }) :
 ({ p12 with pass:=sp }:Pk) = { p with level:=l,hasUser:=qA,hasPass:=qB,wR:=qC,wQ:=q8,hasWill:=qE,clean:=qF,keep:=k,client:=i,wT:=xt,wP:=sw,user:=us,pass:=sp }:=by
 rw [h12];dsimp only;rw [h11];dsimp only;rw [h10];dsimp only;rw [h9];dsimp only;rw [h8];dsimp only;rw [h7]
theorem pk_after {v:World} {b pb:Nat} {u0 u1:Value} {o:Obj} (h:v.heap[pb]?=some o) (hne:pb≠b):((v.setCell ⟨b,0,none⟩ u0).setCell ⟨b,1,none⟩ u1).heap[pb]?=some o := (Below.heap_setCell _ _ u1 pb (by show pb≠b;exact hne)).trans ((Below.heap_setCell _ _ u0 pb (by show pb≠b;exact hne)).trans h)
theorem heap_drew {v:World} {b:Nat} {o:Obj} (h:v.heap[b]?=some o):v.drew.heap[b]?=some o:=h
theorem dconnect_any {w:World} {mb pb:Nat} {a:Option Addr} {n cp:Nat} {z:Nat->Int} {r:Rs} (h:Ds w w mb pb a n cp z r (blank 1) noCn) :
 Calls Tryz.prog 73 #[.pointer (some ⟨mb,0,none⟩),.pointer (some ⟨pb,0,none⟩)] w fun e w'=>DOut w w' e mb pb a n cp z (connP0 z n r (blank 1) noCn):=by
 obtain ⟨R,hR⟩:∃ R,R=connP0 z n r (blank 1) noCn:=⟨_,rfl⟩;rw [<-hR];obtain ⟨p,hp⟩:∃ p,p=blank 1:=⟨_,rfl⟩;obtain ⟨c,hc⟩:∃ c,c=noCn:=⟨_,rfl⟩;rw [<-hp,<-hc] at h hR;obtain ⟨W1,hW1⟩:∃ W1,W1=w.alloc (.cells #[.int .i64 0,.int .i64 0] 73):=⟨_,rfl⟩;have b1:Below w.heap.size w W1:=by rw [hW1];exact (Below.refl _ _).alloc (Nat.le_refl _) _
 have sz1:W1.heap.size=w.heap.size+1:=by rw [hW1];exact Array.size_push _
 have bx1:W1.heap[w.heap.size]?=some (.cells #[.int .i64 0,.int .i64 0] 73 (0,0)):=by rw [hW1];exact heap_alloc_new w _
 have nilp:NxAll W1.heap.size p:=by rw [hp];exact ⟨fun b off e=>(by simp [blank] at e),fun b off e=>(by simp [blank] at e),fun b off e=>(by simp [blank] at e),fun b off e=>(by simp [blank] at e),fun b off e=>(by simp [blank] at e),fun b off e=>(by simp [blank] at e)⟩
 have X0:=hidi (show Ds W1 W1 mb pb a n cp z r p c from ⟨h.rd.below b1,(h.below b1).pk,by have:=h.lr;omega,by have:=h.lp;omega,h.n1,h.n2,(h.below b1).inn,nilp,rfl,rfl,rfl,Nat.le_refl _,fun k _ _ _=>rfl⟩);-- the result's box,in every world of the state
 have BX:=hidi (show ∀ (v:World) (r:Rs) (p:Pk) (c:Cn),Ds W1 v mb pb a n cp z r p c->v.heap[w.heap.size]?=some (.cells #[.int .i64 0,.int .i64 0] 73 (0,0)) from fun v r p c hv=>hv.kept bx1 (by have:=h.lr;omega) (by have:=h.lp;omega));have LPB:=hidi h.lp;-- how it ends
 have EN:=hidi (show ∀ (v:World),Fr2 W1 v mb pb->Fr2 w v mb pb from fun v hv=>⟨hv.os.trans b1.os,hv.tape.trans b1.tape,hv.output.trans b1.output,Nat.le_trans b1.size hv.size,fun k hk h1 h2=>(hv.block k (by omega) h1 h2).trans (b1.block k hk)⟩);have HM:=hidi (show ∀ (v:World) (r:Rs) (p:Pk) (c:Cn),Ds W1 v mb pb a n cp z r p c->Ds w ((v.setCell ⟨w.heap.size,0,none⟩ (.int .i64 0)).setCell ⟨w.heap.size,1,none⟩ (.int .i64 0)) mb pb a n cp z r p c from fun v r p c hv=>hv.home h b1 sz1 _ _);-- the pure values
 obtain ⟨t,ht⟩:∃ t,t=rText z n r:=⟨_,rfl⟩;obtain ⟨l,hl⟩:∃ y,y=rB z n t.2:=⟨_,rfl⟩;obtain ⟨m,hm⟩:∃ y,y=rB z n l.2:=⟨_,rfl⟩;obtain ⟨k,hk⟩:∃ y,y=rN z n m.2:=⟨_,rfl⟩;obtain ⟨i,hi⟩:∃ y,y=rText z n k.2:=⟨_,rfl⟩;obtain ⟨x,hx⟩:∃ y,y=cWill z n (mk m.1 4) i.2 p.wT (p.wP.n,c.wz):=⟨_,rfl⟩;obtain ⟨u,hu⟩:∃ y,y=cUser z n (mk m.1 128) x.2 p.user:=⟨_,rfl⟩;obtain ⟨s,hs⟩:∃ y,y=cPass z n (mk m.1 64) u.2 (p.pass.n,c.pz):=⟨_,rfl⟩;have HR:=hidi (show R=if t.2.q=0/\isM t.1=false then .error (0,33) else if m.2.q=0/\badMarks m.1=true then .error ((l.2.at0:Int),34) else cEnd p c l.1 m.1 k.1 i.1 x.1 u.1 s.1 s.2 from by rw [hR,connP0,<-ht,<-hl,<-hm,cMid0,<-hk,<-hi,<-hx,<-hu,<-hs]);have H1:=hidi ht;have H2:=hidi hl;have H3:=hidi hm;have H4:=hidi hk;have H5:=hidi hi;have H6:=hidi hx;have H7:=hidi hu;have H8:=hidi hs;have HW1:=hidi hW1;have HNP:=hidi (show p.wP=⟨none,0,0⟩/\p.pass=⟨none,0,0⟩ from by rw [hp];exact ⟨rfl,rfl⟩);clear ht hl hm hk hi hx hu hs hR hW1 h b1 sz1 bx1 nilp hc hp;obtain ⟨t,r1⟩:=t;obtain ⟨l,r2⟩:=l;obtain ⟨m,r3⟩:=m;obtain ⟨k,r4⟩:=k;obtain ⟨i,r5⟩:=i;obtain ⟨⟨xt,xn,xz⟩,r6⟩:=x;obtain ⟨us,r7⟩:=u;obtain ⟨⟨sn,sz⟩,r8⟩:=s;simp only at H1 H2 H3 H4 H5 H6 H7 H8 HR;have D1:=hidi (ds_text X0.out);rw [<-H1.out] at D1;go_enter Tryz.func73,Tryz.ntmps73;go_upto_region 1 with fail;rw [<-HW1.out];go_wp2_with fail;go_must (go_at_call 75);refine D1.out.mono ?_;rintro e v1 ⟨rfl,hX⟩;have X1:=hidi hX;clear hX D1;by_cases hA:r1.q=0/\isM t=false
 · have c2:=X1.out.err.1
   rw [hA.1] at c2;have tq:(t.toList==[77,81,84,84])=false:=hA.2;have hb:=BX.out _ _ _ _ X1.out;have q0:=dcell hb 0 (.int .i64 0) rfl;have q1:=dcell hb 1 (.int .i64 0) rfl;have f0:=dfroz hb 0;have f1:=dfroz hb 1;clear hb;have HE:=hidi (show R = .error (0,33) from by rw [HR.out,if_pos hA]);clear hA;have HB:=hidi (And.intro (fault_at (BX.out _ _ _ _ X1.out) 0 33) (fr2_set (i:=1) (u:=.int .i64 33) (fr2_set (i:=0) (u:=.int .i64 0) (EN.out _ X1.out.fr) (Nat.le_refl _)) (Nat.le_refl _)));go_wp2_with fail;refine bodyPost_ret (results_cell_row rfl _ _ w.heap.size 73 #[.int .i64 0,.int .i64 33] (0,0) _ rfl HB.out.1 Tryz.underlying73 rfl f_info) rfl ?_;rw [HE.out];exact ⟨rfl,HB.out.2,p,pk_after X1.out.pk (by have:=LPB.out;omega)⟩
 · go_upto_region 2 with fail
   go_cut [18] from 10 to 18 (fun s18 wx=>s18 = .bool false/\Hid (Ds W1 wx mb pb a n cp z r1 p c));case first =>
    have c2:=X1.out.err.1;by_cases hq:r1.q=0
    · rw [hq] at c2
      have hM:isM t=true:=by cases e:isM t with | true=>rfl | false=>exact absurd ⟨hq,e⟩ hA
      have tq:(t.toList==[77,81,84,84])=true:=hM;clear hq hM hA;go_wp2_with fail;go_meet;case rel=>exact ⟨rfl,X1.out⟩
    · have hq':(r1.q==0)=false:=by simpa using hq
      clear hq hA;go_wp2_with fail;go_meet;case rel=>exact ⟨rfl,X1.out⟩
   case rest =>
    obtain ⟨rfl,X2⟩:=hcut;have hA':=hidi hA;clear hA X1;have D2:=hidi (ds_byte X2.out);rw [<-H2.out] at D2;go_wp2_with fail;go_must (go_at_call 74);refine D2.out.mono ?_;rintro e v3 ⟨rfl,hX,hl0,hl1⟩;have X3:=hidi hX;have e1:=hX.cell 1 (.int .i64 p.level) rfl;have z1:=hX.frozen 1;have wl:IntKind.i64.wrap l=l:=by rw [IntKind.wrap_i64];omega
    obtain ⟨v4,hv4⟩:∃ v4,v4=v3.setCell ⟨pb,1,none⟩ (.int .i64 l):=⟨_,rfl⟩;have X4:=hidi (show Ds W1 v4 mb pb a n cp z r2 { p with level:=l } c from by rw [hv4];exact hX.setS 1 _ _ rfl rfl rfl rfl rfl rfl rfl);clear hX D2 X2;go_upto_region 5 with fail;rw [<-hv4];clear hv4 e1 z1 wl hl0 hl1 X3;have D3:=hidi (ds_at X4.out);have D4:=hidi (ds_byte X4.out);rw [<-H3.out] at D4;go_wp2_with (go_at_call 111;refine D3.out.mono ?_;rintro e w' ⟨rfl,he⟩;obtain rfl:=he.symm;clear he);go_must (go_at_call 74);refine D4.out.mono ?_;rintro e v5 ⟨rfl,hX,hm0,hm1⟩;have X5:=hidi hX;clear hX D3 D4 X4;obtain ⟨mn,rfl⟩:∃ mn:Nat,m=(mn:Int):=⟨m.toNat,by omega⟩;have hmn:mn<256:=by omega
    obtain ⟨mf1,mf2,mf3,mf4,mf5,mf6,mf7,mf8⟩:=mk_facts mn hmn;have hbm:badMarks (mn:Int)=(decide ((mn:Int) % 2=1) || decide ((mn:Int) / 8 % 4=3)):=by unfold badMarks mk;rw [mf2,mf3]
    go_upto_region 7 with fail;go_cut [45] from 30 to 45 (fun s45 wx=>s45 = .bool (decide (r3.q=0) && badMarks (mn:Int))/\Hid (Ds W1 wx mb pb a n cp z r3 { p with level:=l } c));case first =>
     have c2:=X5.out.err.1;by_cases hq:r3.q=0
     · rw [hq] at c2
       have HBM:=hidi hbm;have HQ:=hidi hq;clear hq mf1 mf2 mf3 mf4 mf5 mf6 mf7 mf8 hbm hm0 hm1 hA';by_cases hm2:(mn:Int) % 2=1
       · have hm2':((mn:Int) % 2==1)=true:=by simpa using hm2
         have HM2:=hidi hm2;clear hm2;go_wp2_with fail;go_meet;case rel=>exact ⟨by rw [HBM.out,HQ.out];exact congrArg Value.bool (or_one _ _ HM2.out),X5.out⟩
       · have hm2':((mn:Int) % 2==1)=false:=by simpa using hm2
         have HM2:=hidi hm2;clear hm2;go_wp2_with fail;go_meet;case rel=>exact ⟨by rw [HBM.out,HQ.out];exact congrArg Value.bool (or_two _ _ HM2.out),X5.out⟩
     · have hq':(r3.q==0)=false:=by simpa using hq
       have HDC:=hidi (show decide (r3.q=0)=false from by simp [hq]);clear hq mf1 mf2 mf3 mf4 mf5 mf6 mf7 mf8 hbm hm0 hm1 hA';go_wp2_with fail;go_meet;case rel=>exact ⟨by rw [HDC.out];rfl,X5.out⟩
    case rest =>
     obtain ⟨hs45,X6⟩:=hcut;clear X5;obtain ⟨bb,hbb⟩:∃ bb:Bool,bb=(decide (r3.q=0) && badMarks (mn:Int)):=⟨_,rfl⟩;rw [<-hbb] at hs45;have HBB:=hidi hbb;clear hbb;cases bb with
     | true =>
      have hB:r3.q=0/\badMarks (mn:Int)=true:=by have:=HBB.out.symm;rw [Bool.and_eq_true,decide_eq_true_eq] at this;exact this
      have HE:=hidi (show R = .error ((r2.at0:Int),34) from by rw [HR.out,if_neg hA'.out,if_pos hB]);have hb:=BX.out _ _ _ _ X6.out;have q0:=dcell hb 0 (.int .i64 0) rfl;have q1:=dcell hb 1 (.int .i64 0) rfl;have f0:=dfroz hb 0;have f1:=dfroz hb 1;have HB:=hidi (And.intro (fault_at hb (r2.at0:Int) 34) (fr2_set (i:=1) (u:=.int .i64 34) (fr2_set (i:=0) (u:=.int .i64 (r2.at0:Int)) (EN.out _ X6.out.fr) (Nat.le_refl _)) (Nat.le_refl _)));clear hb hB mf1 mf2 mf3 mf4 mf5 mf6 mf7 mf8 hbm hm0 hm1 hA' hmn;subst hs45;go_wp2_with fail;refine bodyPost_ret (results_cell_row rfl _ _ w.heap.size 73 #[.int .i64 (r2.at0:Int),.int .i64 34] (0,0) _ rfl HB.out.1 Tryz.underlying73 rfl f_info) rfl ?_;rw [HE.out];exact ⟨rfl,HB.out.2,{ p with level:=l },pk_after X6.out.pk (by have:=LPB.out;omega)⟩
     | false =>
      have hB:¬ (r3.q=0/\badMarks (mn:Int)=true):=by intro hh;have:=HBB.out;rw [hh.1,hh.2] at this;exact absurd this (by decide)
      have HE:=hidi (show R=cEnd p c l (mn:Int) k i (xt,xn,xz) us (sn,sz) r8 from by rw [HR.out,if_neg hA'.out,if_neg hB]);clear hB hA' HR hbm mf2 mf3 hm0 hm1;subst hs45;have k128:=mk_pos (m:=(mn:Int)) (b:=128) mf4;have k64:=mk_pos (m:=(mn:Int)) (b:=64) mf5;have k32:=mk_pos (m:=(mn:Int)) (b:=32) mf6;have k4:=mk_pos (m:=(mn:Int)) (b:=4) mf7;have k2:=mk_pos (m:=(mn:Int)) (b:=2) mf8;have HQ8:=hidi (And.intro mf1 hmn);clear mf1 mf4 mf5 mf6 mf7 mf8 hmn;obtain ⟨qA,hqA⟩:∃ y,mk (mn:Int) 128=y:=⟨_,rfl⟩;obtain ⟨qB,hqB⟩:∃ y,mk (mn:Int) 64=y:=⟨_,rfl⟩;obtain ⟨qC,hqC⟩:∃ y,mk (mn:Int) 32=y:=⟨_,rfl⟩;obtain ⟨qE,hqE⟩:∃ y,mk (mn:Int) 4=y:=⟨_,rfl⟩;obtain ⟨qF,hqF⟩:∃ y,mk (mn:Int) 2=y:=⟨_,rfl⟩;rw [hqA] at k128 H7;rw [hqB] at k64 H8;rw [hqC] at k32;rw [hqE] at k4 H6;rw [hqF] at k2;have HMK:=hidi (And.intro hqA (And.intro hqB (And.intro hqC (And.intro hqE hqF))));clear hqA hqB hqC hqE hqF;have A1:=X6.out.setS 10 (.bool qA) { p with level:=l,hasUser:=qA } rfl rfl rfl rfl rfl rfl rfl;have A2:=A1.setS 12 (.bool qB) { p with level:=l,hasUser:=qA,hasPass:=qB } rfl rfl rfl rfl rfl rfl rfl;have A3:=A2.setS 5 (.bool qE) { p with level:=l,hasUser:=qA,hasPass:=qB,hasWill:=qE } rfl rfl rfl rfl rfl rfl rfl;have A4:=A3.setS 2 (.bool qF) { p with level:=l,hasUser:=qA,hasPass:=qB,hasWill:=qE,clean:=qF } rfl rfl rfl rfl rfl rfl rfl;have e10:=X6.out.cell 10 (.bool p.hasUser) rfl;have g10:=X6.out.frozen 10;have e12:=A1.cell 12 (.bool p.hasPass) rfl;have g12:=A1.frozen 12;have e5:=A2.cell 5 (.bool p.hasWill) rfl;have g5:=A2.frozen 5;have e2:=A3.cell 2 (.bool p.clean) rfl;have g2:=A3.frozen 2;obtain ⟨v7,hv7⟩:∃ v7,v7=(((wc.setCell ⟨pb,10,none⟩ (.bool qA)).setCell ⟨pb,12,none⟩ (.bool qB)).setCell ⟨pb,5,none⟩ (.bool qE)).setCell ⟨pb,2,none⟩ (.bool qF):=⟨_,rfl⟩;have X7:=hidi (show Ds W1 v7 mb pb a n cp z r3 { p with level:=l,hasUser:=qA,hasPass:=qB,hasWill:=qE,clean:=qF } c from by rw [hv7];exact A4);clear A1 A2 A3 A4;go_upto_region 10 with fail;rw [<-hv7];clear hv7 e10 g10 e12 g12 e5 g5 e2 g2 X6;obtain ⟨p7,hp7⟩:∃ y:Pk,y = { p with level:=l,hasUser:=qA,hasPass:=qB,hasWill:=qE,clean:=qF }:=⟨_,rfl⟩;have HP7:=hidi hp7;have X7':=hidi (show Ds W1 v7 mb pb a n cp z r3 p7 c from by rw [hp7];exact X7.out);clear hp7 X7 k128 k64 k4 k2;have B1:=X7'.out.setS 9 (.bool qC) { p7 with wR:=qC } rfl rfl rfl rfl rfl rfl rfl;have B2:=B1.setS 8 (.int .i64 ((mn:Int) / 8 % 4)) { p7 with wR:=qC,wQ:=(mn:Int) / 8 % 4 } rfl rfl rfl rfl rfl rfl rfl;have e9:=X7'.out.cell 9 (.bool p7.wR) rfl;have g9:=X7'.out.frozen 9;have e8:=B1.cell 8 (.int .i64 p7.wQ) rfl;have g8:=B1.frozen 8;have wq:IntKind.i64.wrap ((mn:Int) / 8 % 4)=(mn:Int) / 8 % 4:=by rw [IntKind.wrap_i64];omega
      obtain ⟨v8,hv8⟩:∃ v8,v8=(v7.setCell ⟨pb,9,none⟩ (.bool qC)).setCell ⟨pb,8,none⟩ (.int .i64 ((mn:Int) / 8 % 4)):=⟨_,rfl⟩;obtain ⟨p8,hp8⟩:∃ y:Pk,y = { p7 with wR:=qC,wQ:=(mn:Int) / 8 % 4 }:=⟨_,rfl⟩;have HP8:=hidi hp8;have X8:=hidi (show Ds W1 v8 mb pb a n cp z r3 p8 c from by rw [hv8,hp8];exact B2);clear B1 B2 hp8 X7';go_upto_region 11 with fail;rw [<-hv8];clear hv8 e9 g9 e8 g8 wq k32;have D5:=hidi (ds_num X8.out);rw [<-H4.out] at D5;go_wp2_with fail;go_must (go_at_call 76);refine D5.out.mono ?_;rintro e v9 ⟨rfl,hX⟩;have e3:=hX.cell 3 (.int .i64 p8.keep) rfl;have g3:=hX.frozen 3;obtain ⟨v10,hv10⟩:∃ v10,v10=v9.setCell ⟨pb,3,none⟩ (.int .i64 k):=⟨_,rfl⟩;obtain ⟨p9,hp9⟩:∃ y:Pk,y = { p8 with keep:=k }:=⟨_,rfl⟩;have HP9:=hidi hp9;have X9:=hidi (show Ds W1 v10 mb pb a n cp z r4 p9 c from by rw [hv10,hp9];exact hX.setS 3 _ _ rfl rfl rfl rfl rfl rfl rfl);clear hX D5 X8 hp9;go_upto_region 12 with fail;rw [<-hv10];clear hv10 e3 g3;have D6:=hidi (ds_text X9.out);rw [<-H5.out] at D6;go_wp2_with fail;go_must (go_at_call 75);refine D6.out.mono ?_;rintro e v11 ⟨rfl,hX⟩;have e4:=hX.cell 4 (.string p9.client) rfl;have g4:=hX.frozen 4;obtain ⟨v12,hv12⟩:∃ v12,v12=v11.setCell ⟨pb,4,none⟩ (.string i):=⟨_,rfl⟩;obtain ⟨p10,hp10⟩:∃ y:Pk,y = { p9 with client:=i }:=⟨_,rfl⟩;have HP10:=hidi hp10;have X10:=hidi (show Ds W1 v12 mb pb a n cp z r5 p10 c from by rw [hv12,hp10];exact hX.setS 4 _ _ rfl rfl rfl rfl rfl rfl rfl);clear hX D6 X9 hp10;go_upto_region 13 with fail;rw [<-hv12];clear hv12 e4 g4;have HW:=hidi (show p10.hasWill=qE/\p10.hasUser=qA/\p10.hasPass=qB/\p10.wT=p.wT/\p10.wP=p.wP/\p10.user=p.user/\p10.pass=p.pass from by rw [HP10.out,HP9.out,HP8.out,HP7.out];exact ⟨rfl,rfl,rfl,rfl,rfl,rfl,rfl⟩);have e5:=X10.out.cell 5 (.bool p10.hasWill) rfl;rw [HW.out.1] at e5;go_upto_if 100 with fail;clear e5;go_cut [] from 48 to 112 (fun wx=>∃ s:Sl,s.n=xn/\Hid (Ds W1 wx mb pb a n cp z r6 { p10 with wT:=xt,wP:=s } { c with wz:=xz }));case first => cases qE with | false => have HZ:=hidi (show xt=p.wT/\xn=p.wP.n/\xz=c.wz/\r6=r5 from by have:=H6.out;simp only [cWill,Bool.false_eq_true,if_false,Prod.mk.injEq] at this;exact ⟨this.1.1,this.1.2.1,this.1.2.2,this.2⟩);go_wp2_with fail;go_meet;case rel => refine ⟨p10.wP,by rw [HW.out.2.2.2.2.1,HZ.out.2.1],?_⟩;have q:=X10.out;rw [HZ.out.2.2.2,HZ.out.1,HZ.out.2.2.1,<-HW.out.2.2.2.1];exact q | true => have HZ:=hidi (show xt=(rText z n r5).1/\xn=(rData z n (rText z n r5).2).1.1/\xz=(rData z n (rText z n r5).2).1.2/\r6=(rData z n (rText z n r5).2).2 from by have:=H6.out;simp only [cWill,if_true,Prod.mk.injEq] at this;exact ⟨this.1.1,congrArg Prod.fst this.1.2,congrArg Prod.snd this.1.2,this.2⟩);have D7:=hidi (ds_text X10.out);rw [<-HZ.out.1] at D7;go_wp2_with fail;go_must (go_at_call 75);refine D7.out.mono ?_;rintro e v13 ⟨rfl,hX⟩;have e6:=hX.cell 6 (.string p10.wT) rfl;have g6:=hX.frozen 6;obtain ⟨v14,hv14⟩:∃ v14,v14=v13.setCell ⟨pb,6,none⟩ (.string xt):=⟨_,rfl⟩;have X11:=hidi (show Ds W1 v14 mb pb a n cp z (rText z n r5).2 { p10 with wT:=xt } c from by rw [hv14];exact hX.setS 6 _ _ rfl rfl rfl rfl rfl rfl rfl);clear hX D7;go_upto_region 15 with fail;rw [<-hv14];clear hv14 e6 g6;have D8:=hidi (ds_data X11.out);go_wp2_with fail;go_must (go_at_call 112);refine D8.out.mono ?_;rintro e v15 ⟨s,rfl,hs1,hs2,hs3,hX⟩;have e7:=hX.cell 7 (.slice p10.wP.a p10.wP.n p10.wP.c) rfl;have g7:=hX.frozen 7;have X12:=hidi (hX.setW hs1 hs3);have HS:=hidi hs2;clear hX D8 hs1 hs2 hs3;go_wp2_with fail;go_meet;case rel => refine ⟨s,by rw [HS.out,HZ.out.2.1],?_⟩;rw [HZ.out.2.2.2,HZ.out.2.2.1];exact X12.out
      case rest =>
       obtain ⟨sw,hsw,X11⟩:=hcut;have HSW:=hidi hsw;obtain ⟨p11,hp11⟩:∃ y:Pk,y = { p10 with wT:=xt,wP:=sw }:=⟨_,rfl⟩;obtain ⟨c1,hc1⟩:∃ y:Cn,y = { c with wz:=xz }:=⟨_,rfl⟩;have HP11:=hidi (And.intro hp11 hc1);have X12:=hidi (show Ds W1 wc mb pb a n cp z r6 p11 c1 from by rw [hp11,hc1];exact X11.out);have HV:=hidi (show p11.hasUser=qA/\p11.hasPass=qB/\p11.user=p.user/\p11.pass=p.pass/\c1.pz=c.pz from by rw [hp11,hc1];exact ⟨HW.out.2.1,HW.out.2.2.1,HW.out.2.2.2.2.2.1,HW.out.2.2.2.2.2.2,rfl⟩);clear hp11 hc1 X11 X10 hsw;have e10:=X12.out.cell 10 (.bool p11.hasUser) rfl;rw [HV.out.1] at e10;go_upto_if 116 with fail;clear e10;go_cut [] from 113 to 121 (fun wx=>Hid (Ds W1 wx mb pb a n cp z r7 { p11 with user:=us } c1));case first => cases qA with | false => have HZ:=hidi (show us=p.user/\r7=r6 from by have:=H7.out;simp only [cUser,Bool.false_eq_true,if_false,Prod.mk.injEq] at this;exact this);go_wp2_with fail;go_meet;case rel => have q:=X12.out;rw [HZ.out.2,HZ.out.1,<-HV.out.2.2.1];exact q | true => have HZ:=hidi (show (us,r7)=rText z n r6 from by have:=H7.out;simp only [cUser,if_true] at this;exact this);have D9:=hidi (ds_text X12.out);rw [<-HZ.out] at D9;go_wp2_with fail;go_must (go_at_call 75);refine D9.out.mono ?_;rintro e v13 ⟨rfl,hX⟩;have e11:=hX.cell 11 (.string p11.user) rfl;have g11:=hX.frozen 11;have X13:=hidi (hX.setS 11 (.string us) { p11 with user:=us } rfl rfl rfl rfl rfl rfl rfl);clear hX D9;go_wp2_with fail;go_meet;case rel=>exact X13.out
       case rest =>
        obtain ⟨p12,hp12⟩:∃ y:Pk,y = { p11 with user:=us }:=⟨_,rfl⟩;have HP12:=hidi hp12;have X13:=hidi (show Ds W1 wc mb pb a n cp z r7 p12 c1 from by rw [hp12];exact hcut.out);have HU:=hidi (show p12.hasPass=qB/\p12.pass=p.pass from by rw [hp12];exact ⟨HV.out.2.1,HV.out.2.2.2.1⟩);clear hp12 hcut X12;have e12:=X13.out.cell 12 (.bool p12.hasPass) rfl;rw [HU.out.1] at e12;go_upto_if 125 with fail;clear e12;go_cut [] from 122 to 130 (fun wx=>∃ s:Sl,s.n=sn/\Hid (Ds W1 wx mb pb a n cp z r8 { p12 with pass:=s } { c1 with pz:=sz }));case first => cases qB with | false => have HZ:=hidi (show sn=p.pass.n/\sz=c.pz/\r8=r7 from by have:=H8.out;simp only [cPass,Bool.false_eq_true,if_false,Prod.mk.injEq] at this;exact ⟨this.1.1,this.1.2,this.2⟩);go_wp2_with fail;go_meet;case rel => refine ⟨p12.pass,by rw [HU.out.2,HZ.out.1],?_⟩;have q:=X13.out;rw [HZ.out.2.2,HZ.out.2.1,<-HV.out.2.2.2.2];exact q | true => have HZ:=hidi (show ((sn,sz),r8)=rData z n r7 from by have:=H8.out;simp only [cPass,if_true] at this;exact this);have D9:=hidi (ds_data X13.out);rw [<-HZ.out] at D9;go_wp2_with fail;go_must (go_at_call 112);refine D9.out.mono ?_;rintro e v15 ⟨s,rfl,hs1,hs2,hs3,hX⟩;have e13:=hX.cell 13 (.slice p12.pass.a p12.pass.n p12.pass.c) rfl;have g13:=hX.frozen 13;have X14:=hidi (hX.setP hs1 hs3);have HS:=hidi hs2;clear hX D9 hs1 hs2 hs3;go_wp2_with fail;go_meet;case rel=>exact ⟨s,HS.out,X14.out⟩
        case rest =>
         obtain ⟨sp,hsp,X14⟩:=hcut;have HSP:=hidi hsp;clear hsp X13;have c2:=X14.out.err.1;have hb:=BX.out _ _ _ _ X14.out;have q0:=dcell hb 0 (.int .i64 0) rfl;have q1:=dcell hb 1 (.int .i64 0) rfl;have f0:=dfroz hb 0;have f1:=dfroz hb 1;by_cases hq:r8.q=0
         · rw [hq] at c2
           have HQ:=hidi hq;have HB:=hidi (And.intro (fault_at hb 0 0) (HM.out _ _ _ _ X14.out));have HO:=hidi (show DOut w ((wc.setCell ⟨w.heap.size,0,none⟩ (.int .i64 0)).setCell ⟨w.heap.size,1,none⟩ (.int .i64 0)) (.returned (.agg #[.int .i64 0,.int .i64 0])) mb pb a n cp z R from by
            rw [HE.out,cEnd,if_neg (by rw [hq];exact fun q=>q rfl)];refine ⟨rfl,{ p12 with pass:=sp },?_,sw,sp,p.mP,p.asks,p.codes,p.filters,?_,HSW.out,HSP.out,rfl,rfl,rfl,rfl⟩;rotate_left
            · refine (pk_chain HP7.out HP8.out HP9.out HP10.out HP11.out.1 HP12.out).trans ?_
              rw [HQ8.out.1,HMK.out.1,HMK.out.2.1,HMK.out.2.2.1,HMK.out.2.2.2.1,HMK.out.2.2.2.2]
            · have:=HB.out.2
              rw [HP11.out.2] at this;exact this)
           clear hb hq;go_wp2_with fail;exact bodyPost_ret (results_cell_row rfl _ _ w.heap.size 73 #[.int .i64 0,.int .i64 0] (0,0) _ rfl HB.out.1 Tryz.underlying73 rfl f_info) rfl HO.out
         · have hq':(r8.q==0)=false:=by simpa using hq
           have c3:=X14.out.err.2;have HQ:=hidi (show R = .error (r8.p,r8.q) from by rw [HE.out,cEnd,if_pos hq]);have HB:=hidi (And.intro (fault_at hb r8.p r8.q) (fr2_set (i:=1) (u:=.int .i64 r8.q) (fr2_set (i:=0) (u:=.int .i64 r8.p) (EN.out _ X14.out.fr) (Nat.le_refl _)) (Nat.le_refl _)));clear hb hq;go_upto_region 21 with fail;go_region;go_wp2_with fail;refine bodyPost_ret (results_cell_row rfl _ _ w.heap.size 73 #[.int .i64 r8.p,.int .i64 r8.q] (0,0) _ rfl (heap_drew HB.out.1) Tryz.underlying73 rfl f_info) rfl ?_;rw [HQ.out];exact ⟨rfl,Fr2.drew HB.out.2,{ p12 with pass:=sp },heap_drew (pk_after X14.out.pk (by have:=LPB.out;omega))⟩
structure Do (w0 w:World) (mb pb:Nat) (a:Option Addr) (n cp:Nat) (z:Nat->Int) (r:Rs) (p:Pk):Prop where
 rd:Rrd w mb a n cp z r
 pk:w.heap[pb]?=some (.cells (pkCells p) 39 (0,0))
 lr:mb<w0.heap.size
 lp:pb<w0.heap.size
 n1:pb≠mb
 n2:∀ g,a=some ⟨g,0,none⟩->pb≠g
 os:w.os=w0.os
 tape:w.tape=w0.tape
 output:w.output=w0.output
 size:w0.heap.size<=w.heap.size
 block:∀ k,k<w0.heap.size->k≠mb->k≠pb->w.heap[k]?=w0.heap[k]?
section
variable {w0 w w':World} {mb pb:Nat} {a:Option Addr} {n cp:Nat} {z:Nat->Int} {r r':Rs} {p:Pk} {c:Cn}
theorem Ds.co (h:Ds w0 w mb pb a n cp z r p c):Do w0 w mb pb a n cp z r p:=⟨h.rd,h.pk,h.lr,h.lp,h.n1,h.n2,h.os,h.tape,h.output,h.size,h.block⟩
theorem Do.ds (h:Do w0 w mb pb a n cp z r p) (hi:In w p c) (hn:NxAll w0.heap.size p):Ds w0 w mb pb a n cp z r p c:=⟨h.rd,h.pk,h.lr,h.lp,h.n1,h.n2,hi,hn,h.os,h.tape,h.output,h.size,h.block⟩
theorem Do.read (h:Do w0 w mb pb a n cp z r p) (hr:Rrd w' mb a n cp z r') (hg:w.grownBy w' (some mb)):Do w0 w' mb pb a n cp z r' p where
 rd:=hr
 pk:=(hg.block pb (lt_of_block h.pk) (by simpa using h.n1)).trans h.pk
 lr:=h.lr
 lp:=h.lp
 n1:=h.n1
 n2:=h.n2
 os:=hg.os.trans h.os
 tape:=hg.tape.trans h.tape
 output:=hg.output.trans h.output
 size:=Nat.le_trans h.size hg.size
 block:=fun k hk h1 h2=>(hg.block k (Nat.lt_of_lt_of_le hk h.size) (by simpa using h1)).trans (h.block k hk h1 h2)
theorem Do.set (h:Do w0 w mb pb a n cp z r p) (i:Nat) (v:Value) (p':Pk) (hp:(pkCells p).setIfInBounds i v=pkCells p'):Do w0 (w.setCell ⟨pb,i,none⟩ v) mb pb a n cp z r p' where
 rd:=h.rd.other h.n1 h.n2
 pk:=by rw [<-hp];exact heap_set h.pk v
 lr:=h.lr
 lp:=h.lp
 n1:=h.n1
 n2:=h.n2
 os:=h.os
 tape:=h.tape
 output:=h.output
 size:=by
  have:(w.setCell ⟨pb,i,none⟩ v).heap.size=w.heap.size:=by simp [World.setCell]
  rw [this];exact h.size
 block:=fun k hk h1 h2=>(Below.heap_setCell w _ v k (by show k≠pb;exact h2)).trans (h.block k hk h1 h2)
theorem Do.grow {B:Nat} {b:Option Nat} (h:Do w0 w mb pb a n cp z r p) (hg:w.grownBy w' b) (hb:∀ x,b=some x->B<=x) (hB:w0.heap.size<=B) (hgB:0<n->∀ g,a=some ⟨g,0,none⟩->g<B):Do w0 w' mb pb a n cp z r p where
 rd:=by
  have lr:=h.lr;refine ⟨?_,?_,h.rd.ba,h.rd.le,h.rd.few⟩;· have:=h.rd.rr;unfold Rr at this ⊢;rw [hg.block mb (lt_of_block this) (fun e=>by have:=hb _ e.symm;omega)];exact this
  ·
   obtain ⟨h1,h2,h3 | ⟨ad,e,hc⟩⟩:=h.rd.cm;· exact ⟨h1,h2,.inl h3⟩
   ·
    refine ⟨h1,h2,.inr ⟨ad,e,fun i hi=>?_⟩⟩;have hx:=hc i hi;rcases h.rd.ba with q | ⟨g,q,-⟩;· rw [q] at e;cases e
    · rw [q] at e
      cases e;rw [plain_add] at hx ⊢;exact hg.cell hx (fun e=>by have:=hb _ e.symm;have:=hgB (by omega) g q;simp at *;omega)
 pk:=(hg.block pb (lt_of_block h.pk) (fun e=>by have:=hb _ e.symm;have:=h.lp;omega)).trans h.pk
 lr:=h.lr
 lp:=h.lp
 n1:=h.n1
 n2:=h.n2
 os:=hg.os.trans h.os
 tape:=hg.tape.trans h.tape
 output:=hg.output.trans h.output
 size:=Nat.le_trans h.size hg.size
 block:=fun k hk h1 h2=>(hg.block k (Nat.lt_of_lt_of_le hk h.size) (fun e=>by have:=hb _ e.symm;omega)).trans (h.block k hk h1 h2)
theorem Do.cell (h:Do w0 w mb pb a n cp z r p) (k:Nat) (v:Value) (hk:(pkCells p)[k]?=some v):w.cell? ⟨pb,k,none⟩=some v:=by simp [World.cell?,h.pk,hk]
theorem Do.frozen (h:Do w0 w mb pb a n cp z r p) (k:Nat):w.frozen? ⟨pb,k,none⟩=false:=by simp [World.frozen?,h.pk]
theorem Do.err (h:Do w0 w mb pb a n cp z r p):w.cell? ⟨mb,2,none⟩=some (.int .i64 r.q):=h.rd.rr.facts.2.2.1
theorem Rrd.blocks (h:Rrd w mb a n cp z r):0<n->∀ g,a=some ⟨g,0,none⟩->g<w.heap.size:=fun hn g e=>by
 obtain ⟨-,-,k3 | ⟨ad',e',kc⟩⟩:=h.cm;· rw [e] at k3;cases k3.1
 · rw [e] at e';cases e';have:=kc 0 hn;rw [plain_add] at this;exact lt_of_cell this
end
structure Du (w0 w wx:World) (mb pb:Nat) (a:Option Addr) (n cp:Nat) (z:Nat->Int) (r:Rs) (P:Pk) (s:Sl) (e k m:Nat) (xs:List Value):Prop where
 co:Do w0 wx mb pb a n cp z r P
 own:wx.ownsRow w.heap.size e k (.slice s.a s.n s.c) m xs
 keep:Keep w0.heap.size w wx
 big:w0.heap.size<=w.heap.size
 gb:0<n->∀ g,a=some ⟨g,0,none⟩->g<w.heap.size
 grown:w.heap.size<=wx.heap.size
section
variable {w0 w wx w':World} {mb pb:Nat} {a:Option Addr} {n cp:Nat} {z:Nat->Int} {r r':Rs} {P P':Pk} {s s':Sl} {e k m m':Nat} {xs xs':List Value}
theorem Du.read (h:Du w0 w wx mb pb a n cp z r P s e k m xs) (hr:Rrd w' mb a n cp z r') (hg:wx.grownBy w' (some mb)):Du w0 w w' mb pb a n cp z r' P s e k m xs where
 co:=h.co.read hr hg
 own:=own_grown h.own hg (fun x q=>by cases q;have:=h.co.lr;have:=h.big;omega)
 keep:=h.keep.trans (keep_grown hg h.co.lr)
 big:=h.big
 gb:=h.gb
 grown:=Nat.le_trans h.grown hg.size
theorem Du.below (h:Du w0 w wx mb pb a n cp z r P s e k m xs) (hb:Below wx.heap.size wx w'):Du w0 w w' mb pb a n cp z r P s e k m xs:=h.read (Rrd.below h.co.rd hb) (gb_bel hb)
theorem Du.set (h:Du w0 w wx mb pb a n cp z r P s e k m xs) (i:Nat) (v:Value) (P':Pk) (hp:(pkCells P).setIfInBounds i v=pkCells P'):Du w0 w (wx.setCell ⟨pb,i,none⟩ v) mb pb a n cp z r P' s e k m xs where
 co:=h.co.set i v P' hp
 own:=own_grown h.own gb_pset (fun x q=>by cases q;have:=h.co.lp;have:=h.big;omega)
 keep:=h.keep.trans (keep_set h.co.lp)
 big:=h.big
 gb:=h.gb
 grown:=by
  have:(wx.setCell ⟨pb,i,none⟩ v).heap.size=wx.heap.size:=by simp [World.setCell]
  rw [this];exact h.grown
theorem Du.app (h:Du w0 w wx mb pb a n cp z r P s e k m xs) (ho:w'.ownsRow w.heap.size e k (.slice s'.a s'.n s'.c) m' xs') (hg:wx.grownBy w' (Value.slice s.a s.n s.c).ownBlock):Du w0 w w' mb pb a n cp z r P s' e k m' xs' where
 co:=h.co.grow (B:=w.heap.size) hg (own_lt h.own) h.big h.gb
 own:=ho
 keep:=h.keep.grow (B:=w.heap.size) hg (own_lt h.own) (Nat.le_refl _)
 big:=h.big
 gb:=h.gb
 grown:=Nat.le_trans h.grown hg.size
end
end Go.Proofs.YtpldoeeahhaimaaGreatDoor.Dr
