import Derived.Test.YtpldoeeahhaimaaGreatDoorFdg
import Derived.Deep.Onto
namespace Go.Proofs.YtpldoeeahhaimaaGreatDoor
open Go Go.RowKit
open Pkt (Pk Cn Sl In By Is Ss As pkCells)
set_option linter.all false
set_option maxRecDepth 100000
set_option maxHeartbeats 1000000
theorem push_run {P:Program} (w:World) (base:Nat) (t ty e:TypeId) (i:TypeInfo) (z:Value) (size bytes:Nat) (ht:P.underlying t=some (.slice e)) (hi:P.info? e=some i) (hz:i.zero=some z)
 (hsize:i.size=size) (hby:i.bytes=bytes) (hzs:z.cells.size=size) (hsz:0<size) (v:Value) (n:Nat) (xs:List Value) (hown:w.ownsRow base e size v n xs) (a:Addr) (m c:Nat) (news:List Value) (hm:0<m) (hl:news.length=m*size) (hnews:∀ j u,news[j]?=some u->w.cell? (a.add j)=some u) (h1:∀ u ∈ news,u.oneCell'=true)
 (h63:n+m<=maxLen) (hbytes:(n+m)*bytes<=140737488355328) (hbase:base<=w.heap.size) :
 ∃ v' w',(Builtin.append_ #[t,t] ty #[v,.slice (some a) m c]).run P w = .ok v' w'/\w'.ownsRow base e size v' (n+m) (xs++news)/\w.grownBy w' v.ownBlock/\v'≠.slice none 0 0/\(v'.ownBlock=v.ownBlock\/v'.ownBlock=some w.heap.size):=by
 obtain ⟨v',w',hr,h2,h3,h4⟩:=run_append_own (P:=P) w base t ty e i z size bytes ht hi hz hsize hby hzs hsz v n xs hown a m c news hl hnews h1 h63 hbytes hbase;refine ⟨v',w',hr,h2,h3,fun q=>by have:=(h4.1 q).2;omega,?_⟩;subst hsize hby;have hsm:n+m<=9223372036854775807:=by simp only [maxLen] at h63;omega
 rcases hown.2 with ⟨rfl,rfl⟩|⟨g,cap,cur,rfl,_,hg,hnc,_,hcs,_⟩
 · have q:=run_append_nil (P:=P) w t ty e i z ht hi hz a m c news hl hnews hm (by omega) (by have hb:=hbytes;simp only [Nat.zero_add] at hb;omega)
   rw [q] at hr;cases hr;exact .inr rfl
 · by_cases hroom:n+m<=cap
   · have q:=run_append_room (P:=P) w t ty e i ht hi g n cap cur hg a m c news hl hnews h1 hroom (by rw [hl,hcs,<-Nat.add_mul];exact Nat.mul_le_mul_right _ hroom)
     rw [q] at hr;cases hr;exact .inl rfl
   · have q:=run_append_grow (P:=P) w t ty e i z ht hi hz ⟨g,0,none⟩ n cap xs hown.1 (hown.cells (g:=g) rfl) a m c news hl hnews (by omega) (by omega) (growslice_fits (by omega) hbytes)
     rw [q] at hr;cases hr;exact .inr rfl
theorem wpList_push {P:Program} {w:World} {ops:Array Oper} {rest:List Oper} {o:Oper} {a:Act} {Q:Exit->Act->World->Prop} (hgd:o.guard=none) (s x:Operand) (t:TypeId)
 (ho:o.op = .call { callee:=.builtin .append,args:=#[s,x],argTypes:=#[t,t] }) (base:Nat) (e:TypeId) (i:TypeInfo) (z:Value) (size bytes:Nat) (ht:P.underlying t=some (.slice e)) (hi:P.info? e=some i) (hz:i.zero=some z)
 (hsize:i.size=size) (hby:i.bytes=bytes) (hzs:z.cells.size=size) (hsz:0<size) (v:Value) (n:Nat) (xs:List Value) (hs:a.eval s=v) (hown:w.ownsRow base e size v n xs)
 (ad:Addr) (m c:Nat) (news:List Value) (hx:a.eval x = .slice (some ad) m c) (hm:0<m) (hl:news.length=m*size) (hnews:∀ j u,news[j]?=some u->w.cell? (ad.add j)=some u) (h1:∀ u ∈ news,u.oneCell'=true) (h63:n+m<=maxLen) (hbytes:(n+m)*bytes<=140737488355328) (hbase:base<=w.heap.size)
 (h:∀ v' w',w'.ownsRow base e size v' (n+m) (xs++news)->w.grownBy w' v.ownBlock->v'≠.slice none 0 0->(v'.ownBlock=v.ownBlock\/v'.ownBlock=some w.heap.size)->wpList P ops Q rest (a.put o.dst v') w'):wpList P ops Q (o::rest) a w:=by
 refine wpList_plain hgd fun K hK=>?_;obtain ⟨v',w',hr,h2,h3,h4,h5⟩:=push_run (P:=P) w base t o.type e i z size bytes ht hi hz hsize hby hzs hsz v n xs hown ad m c news hm hl hnews h1 h63 hbytes hbase;unfold Oper.wp;simp [execOp,ho,resolve,invoke,builtin,hs,hx,hr,Result.andThen];exact hK _ _ (h v' w' h2 h3 h4 h5)
theorem step_push {P:Program} {w:World} {ops:Array Oper} {o:Oper} {a:Act} {K:Act->World->Prop} {Q:Exit->Act->World->Prop} {E:Prop} (hgd:o.guard=none) (s x:Operand) (t:TypeId)
 (ho:o.op = .call { callee:=.builtin .append,args:=#[s,x],argTypes:=#[t,t] })
 (base:Nat) (e:TypeId) (i:TypeInfo) (z:Value) (size bytes:Nat) (ht:P.underlying t=some (.slice e)) (hi:P.info? e=some i) (hz:i.zero=some z) (hsize:i.size=size) (hby:i.bytes=bytes) (hzs:z.cells.size=size) (hsz:0<size) (v:Value) (n:Nat) (xs:List Value) (hs:a.eval s=v) (hown:w.ownsRow base e size v n xs)
 (ad:Addr) (m c:Nat) (news:List Value) (hx:a.eval x = .slice (some ad) m c) (hm:0<m) (hl:news.length=m*size) (hnews:∀ j u,news[j]?=some u->w.cell? (ad.add j)=some u) (h1:∀ u ∈ news,u.oneCell'=true)
 (h63:n+m<=maxLen) (hbytes:(n+m)*bytes<=140737488355328) (hbase:base<=w.heap.size) (h:∀ v' w',w'.ownsRow base e size v' (n+m) (xs++news)->w.grownBy w' v.ownBlock->v'≠.slice none 0 0->(v'.ownBlock=v.ownBlock\/v'.ownBlock=some w.heap.size)->K (a.put o.dst v') w') :
 if Region.wanted o (yielded ops a.tmps)=true then Oper.wp P o a w K Q else E:=by
 have hw:Region.wanted o (yielded ops a.tmps)=true:=by simp [Region.wanted,hgd]
 rw [if_pos hw];obtain ⟨v',w',hr,h2,h3,h4,h5⟩:=push_run (P:=P) w base t o.type e i z size bytes ht hi hz hsize hby hzs hsz v n xs hown ad m c news hm hl hnews h1 h63 hbytes hbase;unfold Oper.wp;simp [execOp,ho,resolve,invoke,builtin,hs,hx,hr,Result.andThen];exact h v' w' h2 h3 h4 h5
def more (n:Nat) (r:Rs):Bool:=decide (r.q=0) && decide (r.at0<n)
theorem left_dead (rb n:Nat) (bv:Value) (at0 p0 q0:Int) (w:World) (h:RdAt w rb bv at0 p0 q0) (hq:¬ q0=0) :
 Calls Tryz.prog 127 #[.agg #[.pointer (some ⟨rb,0,none⟩),.int .i64 n]] w fun e w'=>e = .returned (.bool false)/\Below w.heap.size w w':=by
 have R0:Hid (RdAt (w.alloc (.cells #[.pointer (some ⟨rb,0,none⟩),.int .i64 n] 129)).drew rb bv at0 p0 q0):=h.kept ((Below.refl _ _).alloc (Nat.le_refl _) _).drew;have HQ:Hid (¬ q0=0):=hq;have BB:Hid (∀ w1,w1=(((w.alloc (.cells #[.pointer (some ⟨rb,0,none⟩),.int .i64 n] 129)).drew.alloc (.cells #[.int .i64 p0,.int .i64 q0] 81)).drew)->Below w.heap.size w w1):=fun w1 e=>by rw [e];exact (((((Below.refl _ _).alloc (Nat.le_refl _) _).drew).alloc (by simp) _).drew)
 clear h hq;go_enter Tryz.func127,Tryz.ntmps127;go_wp2;first | go_region_with (go_at_call 101;refine (err_some rb bv at0 p0 q0 _ R0.out HQ.out).mono ?_;rintro e w1 ⟨rfl,hee⟩;have B1:=(show Hid _ from BB.out _ hee);clear hee) | fail
 all_goals (go_wp2;go_ret;exact ⟨rfl,B1.out⟩)
theorem left_fine (rb n at0:Nat) (bv:Value) (p0:Int) (w:World) (h:RdAt w rb bv at0 p0 0) :
 Calls Tryz.prog 127 #[.agg #[.pointer (some ⟨rb,0,none⟩),.int .i64 n]] w fun e w'=>e = .returned (.bool (decide (at0<n)))/\Below w.heap.size w w':=by
 have R0:Hid (RdAt (w.alloc (.cells #[.pointer (some ⟨rb,0,none⟩),.int .i64 n] 129)) rb bv at0 p0 0):=h.kept ((Below.refl _ _).alloc (Nat.le_refl _) _);have BB:Hid (Below w.heap.size w (w.alloc (.cells #[.pointer (some ⟨rb,0,none⟩),.int .i64 n] 129))):=(Below.refl _ _).alloc (Nat.le_refl _) _;clear h;go_enter Tryz.func127,Tryz.ntmps127;go_wp2;go_quiet (first | (go_at_call 101;exact Calls.quiet_of_same (err_nil rb bv at0 p0 _ R0.out))|(go_at_call 122;exact Calls.quiet_of_same (at_any rb bv at0 p0 0 _ R0.out)));go_wp2;go_ret;exact ⟨by simp,BB.out.os,BB.out.tape,BB.out.output,BB.out.size,BB.out.block⟩
theorem left_any {w:World} {rb g n cp:Nat} {z:Nat->Int} {r:Rs} (h:Rdr w rb g n cp z r) :
 Calls Tryz.prog 127 #[.agg #[.pointer (some ⟨rb,0,none⟩),.int .i64 n]] w fun e w'=>e = .returned (.bool (more n r))/\Below w.heap.size w w':=by
 unfold more;by_cases hq:r.q≠0
 · rw [decide_eq_false hq,Bool.false_and]
   exact left_dead rb n _ _ _ _ w h.rd hq
 · have hR:=h.rd
   rw [alive hq] at hR;rw [decide_eq_true (alive hq),Bool.true_and];exact left_fine rb n _ _ _ w hR
structure Co (w0 w:World) (rb g n cp pb:Nat) (z:Nat->Int) (r:Rs) (p:Pk):Prop where
 rd:Rdr w rb g n cp z r
 pk:w.heap[pb]?=some (.cells (pkCells p) 39 (0,0))
 lr:rb<w0.heap.size
 lp:pb<w0.heap.size
 n1:pb≠rb
 n2:pb≠g
 os:w.os=w0.os
 tape:w.tape=w0.tape
 output:w.output=w0.output
 size:w0.heap.size<=w.heap.size
 block:∀ k,k<w0.heap.size->k≠rb->k≠pb->w.heap[k]?=w0.heap[k]?
section
variable {w0 w w':World} {rb g n cp pb:Nat} {z:Nat->Int} {r r':Rs} {p:Pk} {c:Cn}
theorem Cs.co (h:Cs w0 w rb g n cp pb z r p c):Co w0 w rb g n cp pb z r p:=⟨h.rd,h.pk,h.lr,h.lp,h.n1,h.n2,h.os,h.tape,h.output,h.size,h.block⟩
theorem Co.cs (h:Co w0 w rb g n cp pb z r p) (hi:In w p c) (hn:NxAll w0.heap.size p):Cs w0 w rb g n cp pb z r p c:=⟨h.rd,h.pk,h.lr,h.lp,h.n1,h.n2,hi,hn,h.os,h.tape,h.output,h.size,h.block⟩
theorem Co.read (h:Co w0 w rb g n cp pb z r p) (hr:Rdr w' rb g n cp z r') (hg:w.grownBy w' (some rb)):Co w0 w' rb g n cp pb z r' p where
 rd:=hr
 pk:=(hg.block pb (lt_of_block h.pk) (by simpa using h.n1)).trans h.pk
 lr:=h.lr
 lp:=h.lp
 n1:=h.n1
 n2:=h.n2
 os:=hg.os.trans h.os
 tape:=hg.tape.trans h.tape
 output:=hg.output.trans h.output
 size:=Nat.le_trans h.size hg.size
 block:=fun k hk h1 h2=>(hg.block k (Nat.lt_of_lt_of_le hk h.size) (by simpa using h1)).trans (h.block k hk h1 h2)
theorem Co.set (h:Co w0 w rb g n cp pb z r p) (i:Nat) (v:Value) (p':Pk) (hp:(pkCells p).setIfInBounds i v=pkCells p'):Co w0 (w.setCell ⟨pb,i,none⟩ v) rb g n cp pb z r p' where
 rd:=h.rd.other h.n1 h.n2
 pk:=by rw [<-hp];exact heap_set h.pk v
 lr:=h.lr
 lp:=h.lp
 n1:=h.n1
 n2:=h.n2
 os:=h.os
 tape:=h.tape
 output:=h.output
 size:=by
  have:(w.setCell ⟨pb,i,none⟩ v).heap.size=w.heap.size:=by simp [World.setCell]
  rw [this];exact h.size
 block:=fun k hk h1 h2=>(Below.heap_setCell w _ v k (by show k≠pb;exact h2)).trans (h.block k hk h1 h2)
theorem Co.grow {B:Nat} {b:Option Nat} (h:Co w0 w rb g n cp pb z r p) (hg:w.grownBy w' b) (hb:∀ x,b=some x->B<=x) (hB:w0.heap.size<=B) (hgB:0<n->g<B):Co w0 w' rb g n cp pb z r p where
 rd:=by have lr:=h.lr;refine ⟨(hg.block rb (lt_of_block h.rd.rd) (fun e=>by have:=hb _ e.symm;omega)).trans h.rd.rd,⟨⟨h.rd.rb.own.1,fun j hj=>?_⟩,h.rd.rb.le,h.rd.rb.few,h.rd.rb.ne⟩,h.rd.le⟩;exact hg.cell (h.rd.rb.own.2 j hj) (fun e=>by have:=hb _ e.symm;have:=hgB (by omega);simp at *;omega)
 pk:=(hg.block pb (lt_of_block h.pk) (fun e=>by have:=hb _ e.symm;have:=h.lp;omega)).trans h.pk
 lr:=h.lr
 lp:=h.lp
 n1:=h.n1
 n2:=h.n2
 os:=hg.os.trans h.os
 tape:=hg.tape.trans h.tape
 output:=hg.output.trans h.output
 size:=Nat.le_trans h.size hg.size
 block:=fun k hk h1 h2=>(hg.block k (Nat.lt_of_lt_of_le hk h.size) (fun e=>by have:=hb _ e.symm;omega)).trans (h.block k hk h1 h2)
theorem Co.cell (h:Co w0 w rb g n cp pb z r p) (k:Nat) (v:Value) (hk:(pkCells p)[k]?=some v):w.cell? ⟨pb,k,none⟩=some v:=by simp [World.cell?,h.pk,hk]
theorem Co.frozen (h:Co w0 w rb g n cp pb z r p) (k:Nat):w.frozen? ⟨pb,k,none⟩=false:=by simp [World.frozen?,h.pk]
theorem Keep.trans {B:Nat} {w1 w2 w3:World} (h:Keep B w1 w2) (h':Keep B w2 w3):Keep B w1 w3:=fun a v ha hb=>h' a v (h a v ha hb) hb
theorem Keep.grow {D B:Nat} {w1 w2 w3:World} {b:Option Nat} (h:Keep D w1 w2) (hg:w2.grownBy w3 b) (hb:∀ x,b=some x->B<=x) (hB:w1.heap.size<=B):Keep D w1 w3:=fun a v ha hd => hg.cell (h a v ha hd) (fun e=>by have:=hb _ e.symm;have:=World.block_lt_of_cell? _ _ ha;omega)
end
theorem own_grown {w w':World} {base e size m:Nat} {v:Value} {xs:List Value} {b:Option Nat} (h:w.ownsRow base e size v m xs) (hg:w.grownBy w' b) (hb:∀ x,b=some x->x<base):w'.ownsRow base e size v m xs:=by
 refine ⟨h.1,?_⟩;rcases h.2 with hn | ⟨gg,cap,cur,rfl,h1,h2,rest⟩;· exact .inl hn
 · exact .inr ⟨gg,cap,cur,rfl,h1,(hg.block gg (lt_of_block h2) (fun e=>by have:=hb _ e.symm;omega)).trans h2,rest⟩
theorem gb_pset {w:World} {pb i:Nat} {v:Value}:w.grownBy (w.setCell ⟨pb,i,none⟩ v) (some pb):=gb_set (gb_refl _ _) _ _
theorem own_lt {w:World} {base e size m:Nat} {v:Value} {xs:List Value} (h:w.ownsRow base e size v m xs):∀ x,v.ownBlock=some x->base<=x:=by
 rcases h.2 with ⟨rfl,_⟩|⟨gg,cap,cur,rfl,h1,_⟩;· intro x e;cases e
 · intro x e;cases e;exact h1
theorem own_some {w:World} {base e size m:Nat} {v:Value} {xs:List Value} (h:w.ownsRow base e size v m xs) (hn:v≠.slice none 0 0):∃ s:Sl,v = .slice s.a s.n s.c/\s.n=m/\Nx base s:=by
 rcases h.2 with ⟨e,_⟩|⟨gg,cap,cur,rfl,h1,_⟩;· exact absurd e hn
 · exact ⟨⟨some ⟨gg,0,none⟩,m,cap⟩,rfl,rfl,fun b off e=>by cases e;exact h1⟩
set_option maxHeartbeats 4000000
theorem Tryz.info9:(Tryz.prog.info? 9).map (fun i=>(i.zero,i.size,i.bytes))=some (some (.string ⟨#[]⟩),1,16):=by kernel_rfl
structure Un (w0 w wx:World) (rb g n cp pb:Nat) (z:Nat->Int) (r:Rs) (P:Pk) (s:Sl) (e k m:Nat) (xs:List Value):Prop where
 co:Co w0 wx rb g n cp pb z r P
 own:wx.ownsRow (w.heap.size+1) e k (.slice s.a s.n s.c) m xs
 keep:Keep w0.heap.size w wx
 box:wx.heap[w.heap.size]?=some (.cells #[.pointer (some ⟨rb,0,none⟩),.int .i64 n] 129 (0,0))
 big:w0.heap.size<=w.heap.size
 gb:0<n->g<w.heap.size
section
variable {w0 w wx w':World} {rb g n cp pb:Nat} {z:Nat->Int} {r r':Rs} {P P':Pk} {s s':Sl} {e k m m':Nat} {xs xs':List Value}
theorem Un.read (h:Un w0 w wx rb g n cp pb z r P s e k m xs) (hr:Rdr w' rb g n cp z r') (hg:wx.grownBy w' (some rb)):Un w0 w w' rb g n cp pb z r' P s e k m xs where
 co:=h.co.read hr hg
 own:=own_grown h.own hg (fun x q=>by cases q;have:=h.co.lr;have:=h.big;omega)
 keep:=h.keep.trans (keep_grown hg h.co.lr)
 box:=(hg.block _ (lt_of_block h.box) (fun q=>by cases q;have:=h.co.lr;have:=h.big;omega)).trans h.box
 big:=h.big
 gb:=h.gb
theorem Un.below (h:Un w0 w wx rb g n cp pb z r P s e k m xs) (hb:Below wx.heap.size wx w'):Un w0 w w' rb g n cp pb z r P s e k m xs:=h.read (h.co.rd.below hb) (gb_below hb)
theorem Un.set (h:Un w0 w wx rb g n cp pb z r P s e k m xs) (i:Nat) (v:Value) (P':Pk) (hp:(pkCells P).setIfInBounds i v=pkCells P'):Un w0 w (wx.setCell ⟨pb,i,none⟩ v) rb g n cp pb z r P' s e k m xs where
 co:=h.co.set i v P' hp
 own:=own_grown h.own gb_pset (fun x q=>by cases q;have:=h.co.lp;have:=h.big;omega)
 keep:=h.keep.trans (keep_set h.co.lp)
 box:=(gb_pset.block _ (lt_of_block h.box) (fun q=>by cases q;have:=h.co.lp;have:=h.big;omega)).trans h.box
 big:=h.big
 gb:=h.gb
theorem Un.app (h:Un w0 w wx rb g n cp pb z r P s e k m xs) (ho:w'.ownsRow (w.heap.size+1) e k (.slice s'.a s'.n s'.c) m' xs') (hg:wx.grownBy w' (Value.slice s.a s.n s.c).ownBlock):Un w0 w w' rb g n cp pb z r P s' e k m' xs' where
 co:=h.co.grow (B:=w.heap.size+1) hg (own_lt h.own) (by have:=h.big;omega) (fun q=>by have:=h.gb q;omega)
 own:=ho
 keep:=h.keep.grow (B:=w.heap.size+1) hg (own_lt h.own) (by omega)
 box:=(hg.block _ (lt_of_block h.box) (fun q=>by have:=own_lt h.own _ q.symm;omega)).trans h.box
 big:=h.big
 gb:=h.gb
theorem Un.bx (h:Un w0 w wx rb g n cp pb z r P s e k m xs):wx.cell? ⟨w.heap.size,0,none⟩=some (.pointer (some ⟨rb,0,none⟩)):=by simp [World.cell?,h.box]
end
theorem own_ss {w:World} {base:Nat} {s:Sl} {fs:List ByteArray} (h:w.ownsRow base 9 1 (.slice s.a s.n s.c) fs.length (fs.map .string)):Ss w s (fun i=>fs.getD i ⟨#[]⟩)/\s.n=fs.length/\Nx base s:=by
 obtain ⟨a,m,c⟩:=s;rcases h.2 with ⟨e,hl⟩|⟨gg,cap,cur,e,h1,h2,h3,_,_,h6⟩
 · cases e
   exact ⟨⟨Nat.le_refl _,.inl rfl⟩,hl.symm,fun b off e=>by cases e⟩
 ·
  cases e;refine ⟨⟨h3,.inr ⟨gg,0,rfl,fun i hi=>?_⟩⟩,rfl,fun b off e=>by cases e;exact h1⟩;have hi':i<fs.length:=hi;have q:(fs.map Value.string)[i]?=some (.string (fs.getD i ⟨#[]⟩)):=by simp [hi']
  rw [<-h6,List.getElem?_take] at q;simp only [Nat.mul_one,hi',if_true,Array.getElem?_toList] at q;simp [World.cell?,h2,q]
def unsF (z:Nat->Int) (n:Nat):Nat->Rs->List ByteArray->Rs×List ByteArray | 0,r,fs=>(r,fs) | b+1,r,fs=>if more n r=true then unsF z n b (rText z n r).2 (fs++[(rText z n r).1]) else (r,fs)
theorem unsF_end {z:Nat->Int} {n:Nat} (b:Nat) (r:Rs) (fs:List ByteArray) (h:more n r=false):unsF z n b r fs=(r,fs):=by cases b with | zero=>rfl | succ b=>simp [unsF,h]
theorem more_at {n:Nat} {r:Rs} (h:more n r=true):r.q=0/\r.at0<n:=by simpa [more] using h
theorem rText_on {z:Nat->Int} {n:Nat} {r:Rs} (h:more n r=true) (h':more n (rText z n r).2=true):r.at0+2<=(rText z n r).2.at0:=by
 obtain ⟨hq,hlt⟩:=more_at h;have hq':=(more_at h').1;revert hq';unfold rText;rw [if_neg (by simpa using hq)];split;· intro q;cases q
 split;· intro q;cases q
 split;· rename_i hc;intro q;have q':((chk (txtAt z r.at0 (two z r.at0))).2:Int)=0:=q;exact absurd (by omega) hc
 · intro _;show r.at0+2<=r.at0+(2+two z r.at0);omega
def unsP (z:Nat->Int) (n:Nat) (r:Rs) (p:Pk) (c:Cn):Rs×Pk×Cn := ((unsF z n n (rNum z n r).2 []).1,{ p with id:=(rNum z n r).1,filters:=⟨none,(unsF z n n (rNum z n r).2 []).2.length,0⟩ },{ c with fs:=fun i=>(unsF z n n (rNum z n r).2 []).2.getD i ⟨#[]⟩ })
theorem uns_any {w0 w:World} {rb g n cp pb:Nat} {z:Nat->Int} {r:Rs} {p:Pk} {c:Cn} (h:Cs w0 w rb g n cp pb z r p c) (hf:p.filters=⟨none,0,0⟩) :
 Calls Tryz.prog 98 #[.agg #[.pointer (some ⟨rb,0,none⟩),.int .i64 n],.pointer (some ⟨pb,0,none⟩)] w fun e w'=>e = .returned (.tuple #[])/\Done w0 w' rb g n cp pb z (unsP z n r p c):=by
 have LW:Hid (w0.heap.size<=w.heap.size):=h.size;have LR:Hid (rb<w0.heap.size/\pb<w0.heap.size):=⟨h.lr,h.lp⟩;have NF:Hid (n<=1000000):=by have:=h.rd.rb.few;show n<=1000000;omega
 have XS:Hid (Cs w0 w rb g n cp pb z r p c):=h;have FN:Hid (p.filters=⟨none,0,0⟩):=hf;obtain ⟨Y,hY⟩:∃ Y,Y=unsP z n r p c:=⟨_,rfl⟩;rw [<-hY];obtain ⟨t,ht⟩:∃ t,t=rNum z n r:=⟨_,rfl⟩;obtain ⟨U,hU⟩:∃ s,s=unsF z n n t.2 []:=⟨_,rfl⟩;have HS:Hid (Y=(U.1,{ p with id:=t.1,filters:=⟨none,U.2.length,0⟩ },{ c with fs:=fun i=>U.2.getD i ⟨#[]⟩ })):=by show _=_;rw [hY,unsP,hU,ht]
 have H1:Hid (t=rNum z n r):=ht;have H2:Hid (U=unsF z n n t.2 []):=hU;clear hY ht hU hf;obtain ⟨t,r1⟩:=t;simp only at H2 HS;have X0:Hid (Cs w0 (w.alloc (.cells #[.pointer (some ⟨rb,0,none⟩),.int .i64 n] 129)) rb g n cp pb z r p c):=h.below ((Below.refl _ _).alloc (Nat.le_refl _) _);have BX0:Hid ((w.alloc (.cells #[.pointer (some ⟨rb,0,none⟩),.int .i64 n] 129)).cell? ⟨w.heap.size,0,none⟩=some (.pointer (some ⟨rb,0,none⟩))):=by show _=_;simp [go_sem]
 have GB:Hid (0<n->g<w.heap.size):=fun q=>World.block_lt_of_cell? _ _ (h.rd.rb.own.2 0 q);clear h;obtain ⟨i0,hi,hz0,hz1,hz2⟩:=info_parts Tryz.info9;go_enter Tryz.func98,Tryz.ntmps98;have bx:=BX0.out;go_wp2_with fail;go_must (go_at_call 99);clear bx;refine (number_any X0.out.rd).mono ?_;rw [<-H1.out];rintro e v1 ⟨rfl,hr,hg⟩;have X1:Hid (Cs w0 v1 rb g n cp pb z r1 (p) (c)):=X0.out.read hr hg;have BX1:Hid (v1.cell? ⟨w.heap.size,0,none⟩=some (.pointer (some ⟨rb,0,none⟩))):=hg.cell BX0.out (by have:=LR.out;have:=LW.out;simp;omega);have KP1:Hid (Keep w0.heap.size w v1):=(keep_below ((Below.refl _ _).alloc (Nat.le_refl _) _)).trans (keep_grown hg LR.out.1);have BB1:Hid (v1.heap[w.heap.size]?=some (.cells #[.pointer (some ⟨rb,0,none⟩),.int .i64 n] 129 (0,0))):=(hg.block w.heap.size (by simp) (fun q=>by cases q;have:=LR.out;have:=LW.out;omega)).trans (heap_alloc_new w _);clear hr hg;have e21:=X1.out.cell 21 (.int .i64 p.id) rfl;have z21:=X1.out.frozen 21;have U1:Hid (Un w0 w v1 rb g n cp pb z r1 p ⟨none,0,0⟩ 9 1 0 []):=⟨X1.out.co,⟨rfl,.inl ⟨rfl,rfl⟩⟩,KP1.out,BB1.out,LW.out,GB.out⟩;have U2:Hid (Un w0 w (v1.setCell ⟨pb,21,none⟩ (.int .i64 t)) rb g n cp pb z r1 { p with id:=t } ⟨none,0,0⟩ 9 1 0 []):=U1.out.set 21 _ _ rfl;go_wp2_with fail;clear e21 z21;go_loopg [] n (fun gg wx=>∃ (r':Rs) (fs:List ByteArray) (s:Sl),Hid (Un w0 w wx rb g n cp pb z r' { p with id:=t,filters:=s } s 9 1 fs.length (fs.map .string))/\Hid (U=unsF z n gg r' fs)/\Hid (more n r'=true->n<=r'.at0+gg)/\Hid (more n r'=true->fs.length<=r'.at0));case atStart=>exact ⟨r1,[],⟨none,0,0⟩,by rw [<-FN.out];exact FN.out ▸ U2.out,H2.out,fun _=>by omega,fun _=>Nat.zero_le _⟩
 case round =>
  obtain ⟨r',fs,s,C0,E0,M0,L0⟩:=hrel;have b0:=C0.out.bx;have b1:wr.cell? ⟨w.heap.size,1,none⟩=some (.int .i64 n):=by have q:=C0.out.box;simp [World.cell?,q]
  go_wp2_with fail;go_must (go_at_call 127);refine (left_any C0.out.co.rd).mono ?_;rintro e u1 ⟨rfl,hb⟩;have C1:Hid (Un w0 w u1 rb g n cp pb z r' { p with id:=t,filters:=s } s 9 1 fs.length (fs.map .string)):=C0.out.below hb;clear hb C0 b0 b1;cases hm:more n r' with
  | true =>
   obtain ⟨tx,htx⟩:∃ y,y=rText z n r':=⟨_,rfl⟩;have HM:Hid (more n r'=true):=hm;have HT:Hid (tx=rText z n r'):=htx;obtain ⟨gg,hgg⟩:∃ gg,gk=gg+1:=⟨gk-1,by have:=M0.out hm;have:=(more_at hm).2;omega⟩;have E1:Hid (U=unsF z n gg tx.2 (fs++[tx.1])):=by show _=_;rw [E0.out,hgg,unsF,if_pos hm,htx]
   have N1:Hid ((more n tx.2=true->n<=tx.2.at0+gg)/\(more n tx.2=true->(fs++[tx.1]).length<=tx.2.at0)):=by
    refine ⟨fun q=>?_,fun q=>?_⟩;· have a:=M0.out hm;rw [htx] at q ⊢;have b:=rText_on hm q;omega
    · have a:=L0.out hm;rw [htx] at q ⊢;have b:=rText_on hm q;simp only [List.length_append,List.length_singleton];omega
   have ML:Hid (fs.length<=1000000):=by have a:=L0.out hm;have b:=(more_at hm).2;have:=NF.out;show fs.length<=1000000;omega
   clear htx hm E0 M0 L0;obtain ⟨tx,r2⟩:=tx;simp only at E1 N1;have TX:Hid (Calls Tryz.prog 123 #[.pointer (some ⟨rb,0,none⟩)] u1.drew fun e w'=>e = .returned (.string tx)/\Un w0 w w' rb g n cp pb z r2 { p with id:=t,filters:=s } s 9 1 fs.length (fs.map .string)):=by have D1:=C1.out.below ((Below.refl _ _).drew);refine (text_any D1.co.rd).mono ?_;rw [<-HT.out];exact fun e w' ⟨h1,h2,h3⟩=>⟨h1,D1.read h2 h3⟩
   have c24:u1.cell? ⟨pb,24,none⟩=some (.slice s.a s.n s.c):=C1.out.co.cell 24 _ rfl;have bx:u1.cell? ⟨w.heap.size,0,none⟩=some (.pointer (some ⟨rb,0,none⟩)):=C1.out.bx;go_wp2;first | go_region_law (first | (refine step_push rfl (.tmp 16) (.tmp 20) 37 rfl (w.heap.size+1) 9 i0 (.string ⟨#[]⟩) 1 16 Tryz.underlying37 hi hz0 hz1 hz2 rfl (by decide) (.slice s.a s.n s.c) fs.length (fs.map .string) rfl (C2.out.below ((Below.refl _ _).alloc (Nat.le_refl _) _)).own ⟨u2.heap.size,0,none⟩ 1 1 [.string tx] rfl (by decide) rfl (cell_one_new _ _ _) (by intro u hu;simp at hu;subst hu;rfl) (by have:=ML.out;unfold maxLen;omega) (by have:=ML.out;omega) (by have:=lt_of_block C2.out.box;simp;omega) ?_;intro v3 u3 ho hg hne _;obtain ⟨s3,rfl,hs3,hn3⟩:=own_some ho hne;have C3:Hid (Un w0 w u3 rb g n cp pb z r2 { p with id:=t,filters:=s } s3 9 1 (fs.length+1) (fs.map .string++[.string tx])):=(C2.out.below ((Below.refl _ _).alloc (Nat.le_refl _) _)).app ho hg;clear ho hg hne hs3 hn3;have c24d:u3.cell? ⟨pb,24,none⟩=some (.slice s.a s.n s.c):=C3.out.co.cell 24 _ rfl;have z24d:=C3.out.co.frozen 24)|(go_simp;go_wp2_with (go_at_call 123;refine TX.out.mono ?_;rintro e u2 ⟨rfl,hX⟩;have C2:Hid (Un w0 w u2 rb g n cp pb z r2 { p with id:=t,filters:=s } s 9 1 fs.length (fs.map .string)):=hX;clear hX;have c24b:u2.cell? ⟨pb,24,none⟩=some (.slice s.a s.n s.c):=C2.out.co.cell 24 _ rfl;have c24c:(u2.alloc (.cells #[.string tx] 9)).cell? ⟨pb,24,none⟩=some (.slice s.a s.n s.c):=(C2.out.below ((Below.refl _ _).alloc (Nat.le_refl _) _)).co.cell 24 _ rfl))) | fail
   all_goals go_wp2
   all_goals go_roundg gg
   all_goals first | omega | exact ⟨r2,fs++[tx],s3,by show Un _ _ _ _ _ _ _ _ _ _ _ _ _ _ _ _;rw [List.length_append,List.map_append];exact C3.out.set 24 _ _ rfl,E1.out,N1.out.1,N1.out.2⟩
  | false =>
   have HU:Hid (U=(r',fs)):=by show _=_;rw [E0.out];exact unsF_end _ _ _ hm
   clear hm;go_wp2;go_end0;rw [HS.out,HU.out];obtain ⟨q1,q2,q3⟩:=own_ss C1.out.own;have q:=In.keep XS.out.inn XS.out.nx C1.out.keep;have x:=XS.out.nx;exact ⟨rfl,{ p with id:=t,filters:=s },C1.out.co.cs ⟨q.wP,q.pass,q.mP,q.asks,q.codes,q1⟩ ⟨x.wP,x.pass,x.mP,x.asks,x.codes,fun b off e=>by have:=q3 b off e;have:=LW.out;omega⟩,p.wP,p.pass,p.mP,p.asks,p.codes,s,rfl,rfl,rfl,rfl,rfl,rfl,q2⟩
theorem Tryz.info99:(Tryz.prog.info? 99).map (fun i=>(i.zero,i.size,i.bytes))=some (some (.agg #[.string ⟨#[]⟩,.int .i64 0]),2,24):=by kernel_rfl
theorem agg_two:(Value.agg #[.string ⟨#[]⟩,.int .i64 0]).cells.size=2:=by first | rfl | kernel_rfl | simp [go_sem]
theorem cell_two_new (w:World) (x y:Value) (t:TypeId):∀ j u,[x,y][j]?=some u->(w.alloc (.cells #[x,y] t)).cell? (Addr.add ⟨w.heap.size,0,none⟩ j)=some u:=by
 intro j u h;match j with
 | 0=>simp at h;subst h;unfold World.cell?;rw [show (Addr.add ⟨w.heap.size,0,none⟩ 0).block=w.heap.size from rfl,heap_alloc_new];rfl;| 1=>simp at h;subst h;unfold World.cell?;rw [show (Addr.add ⟨w.heap.size,0,none⟩ 1).block=w.heap.size from rfl,heap_alloc_new];rfl;| k+2=>simp at h
def askCells (L:List (ByteArray×Int)):List Value:=L.flatMap fun x=>[.string x.1,.int .i64 x.2]
theorem askCells_at (L:List (ByteArray×Int)) (i:Nat) (hi:i<L.length):(askCells L)[i*2]?=some (.string (L.getD i (⟨#[]⟩,0)).1)/\(askCells L)[i*2+1]?=some (.int .i64 (L.getD i (⟨#[]⟩,0)).2):=by induction L generalizing i with | nil=>simp at hi | cons x L ih => cases i with | zero=>exact ⟨rfl,rfl⟩ | succ i => have h:=ih i (by simpa using hi);have e:askCells (x::L) = .string x.1 :: .int .i64 x.2::askCells L:=rfl;rw [e,show (i+1)*2=i*2+1+1 by omega];simp only [List.getElem?_cons_succ,List.getD_cons_succ];exact h
theorem askCells_append (L:List (ByteArray×Int)) (x:ByteArray×Int):askCells (L++[x])=askCells L++[.string x.1,.int .i64 x.2]:=by simp [askCells]
theorem own_as {w:World} {base:Nat} {s:Sl} {L:List (ByteArray×Int)} (h:w.ownsRow base 99 2 (.slice s.a s.n s.c) L.length (askCells L)):As w s (fun i=>(L.getD i (⟨#[]⟩,0)).1) (fun i=>(L.getD i (⟨#[]⟩,0)).2)/\s.n=L.length/\Nx base s:=by
 obtain ⟨a,m,c⟩:=s;rcases h.2 with ⟨e,hl⟩|⟨gg,cap,cur,e,h1,h2,h3,_,_,h6⟩
 · cases e
   exact ⟨⟨Nat.le_refl _,.inl rfl⟩,hl.symm,fun b off e=>by cases e⟩
 ·
  cases e;refine ⟨⟨h3,.inr ⟨gg,0,rfl,fun i hi=>?_⟩⟩,rfl,fun b off e=>by cases e;exact h1⟩;have hi':i<L.length:=hi;obtain ⟨q1,q2⟩:=askCells_at L i hi';rw [<-h6,List.getElem?_take] at q1 q2;have l1:i*2<L.length*2:=by omega
  have l2:i*2+1<L.length*2:=by omega
  simp only [l1,if_true,Array.getElem?_toList] at q1;simp only [l2,if_true,Array.getElem?_toList] at q2;simp only [Nat.zero_add];exact ⟨by simp [World.cell?,h2,q1],by simp [World.cell?,h2,q2]⟩
def subF (z:Nat->Int) (n:Nat):Nat->Rs->List (ByteArray×Int)->Rs×List (ByteArray×Int) | 0,r,L=>(r,L) | b+1,r,L=>if more n r=true then subF z n b (rByte z n (rText z n r).2).2 (L++[((rText z n r).1,(rByte z n (rText z n r).2).1)]) else (r,L)
theorem subF_end {z:Nat->Int} {n:Nat} (b:Nat) (r:Rs) (L:List (ByteArray×Int)) (h:more n r=false):subF z n b r L=(r,L):=by cases b with | zero=>rfl | succ b=>simp [subF,h]
theorem rByte_on {z:Nat->Int} {n:Nat} {r:Rs} (h':more n (rByte z n r).2=true):more n r=true/\r.at0<=(rByte z n r).2.at0:=by
 obtain ⟨hq',hl'⟩:=more_at h';revert hq' hl';unfold rByte;split;· rename_i hq;intro q;exact absurd q hq
 ·
  rename_i hq;split;· intro q;cases q
  · intro _ hl;have hl2:r.at0+1<n:=hl;refine ⟨?_,Nat.le_add_right _ _⟩;unfold more;rw [decide_eq_true (alive hq),decide_eq_true (by omega)];rfl
theorem sub_on {z:Nat->Int} {n:Nat} {r:Rs} (h:more n r=true) (h':more n (rByte z n (rText z n r).2).2=true):r.at0+2<=(rByte z n (rText z n r).2).2.at0:=by obtain ⟨h1,h2⟩:=rByte_on h';have:=rText_on h h1;omega
def subP (z:Nat->Int) (n:Nat) (r:Rs) (p:Pk) (c:Cn):Rs×Pk×Cn := ((subF z n n (rNum z n r).2 []).1,{ p with id:=(rNum z n r).1,asks:=⟨none,(subF z n n (rNum z n r).2 []).2.length,0⟩ },{ c with af:=fun i=>((subF z n n (rNum z n r).2 []).2.getD i (⟨#[]⟩,0)).1,aq:=fun i=>((subF z n n (rNum z n r).2 []).2.getD i (⟨#[]⟩,0)).2 })
theorem sub_any {w0 w:World} {rb g n cp pb:Nat} {z:Nat->Int} {r:Rs} {p:Pk} {c:Cn} (h:Cs w0 w rb g n cp pb z r p c) (hf:p.asks=⟨none,0,0⟩) :
 Calls Tryz.prog 96 #[.agg #[.pointer (some ⟨rb,0,none⟩),.int .i64 n],.pointer (some ⟨pb,0,none⟩)] w fun e w'=>e = .returned (.tuple #[])/\Done w0 w' rb g n cp pb z (subP z n r p c):=by
 have LW:Hid (w0.heap.size<=w.heap.size):=h.size;have LR:Hid (rb<w0.heap.size/\pb<w0.heap.size):=⟨h.lr,h.lp⟩;have NF:Hid (n<=1000000):=by have:=h.rd.rb.few;show n<=1000000;omega
 have XS:Hid (Cs w0 w rb g n cp pb z r p c):=h;have FN:Hid (p.asks=⟨none,0,0⟩):=hf;obtain ⟨Y,hY⟩:∃ Y,Y=subP z n r p c:=⟨_,rfl⟩;rw [<-hY];obtain ⟨t,ht⟩:∃ t,t=rNum z n r:=⟨_,rfl⟩;obtain ⟨U,hU⟩:∃ s,s=subF z n n t.2 []:=⟨_,rfl⟩;have HS:Hid (Y=(U.1,{ p with id:=t.1,asks:=⟨none,U.2.length,0⟩ },{ c with af:=fun i=>(U.2.getD i (⟨#[]⟩,0)).1,aq:=fun i=>(U.2.getD i (⟨#[]⟩,0)).2 })):=by show _=_;rw [hY,subP,hU,ht]
 have H1:Hid (t=rNum z n r):=ht;have H2:Hid (U=subF z n n t.2 []):=hU;clear hY ht hU hf;obtain ⟨t,r1⟩:=t;simp only at H2 HS;have X0:Hid (Cs w0 (w.alloc (.cells #[.pointer (some ⟨rb,0,none⟩),.int .i64 n] 129)) rb g n cp pb z r p c):=h.below ((Below.refl _ _).alloc (Nat.le_refl _) _);have BX0:Hid ((w.alloc (.cells #[.pointer (some ⟨rb,0,none⟩),.int .i64 n] 129)).cell? ⟨w.heap.size,0,none⟩=some (.pointer (some ⟨rb,0,none⟩))):=by show _=_;simp [go_sem]
 have GB:Hid (0<n->g<w.heap.size):=fun q=>World.block_lt_of_cell? _ _ (h.rd.rb.own.2 0 q);clear h;obtain ⟨i0,hi,hz0,hz1,hz2⟩:=info_parts Tryz.info99;go_enter Tryz.func96,Tryz.ntmps96;have bx:=BX0.out;go_wp2_with fail;go_must (go_at_call 99);clear bx;refine (number_any X0.out.rd).mono ?_;rw [<-H1.out];rintro e v1 ⟨rfl,hr,hg⟩;have X1:Hid (Cs w0 v1 rb g n cp pb z r1 (p) (c)):=X0.out.read hr hg;have BX1:Hid (v1.cell? ⟨w.heap.size,0,none⟩=some (.pointer (some ⟨rb,0,none⟩))):=hg.cell BX0.out (by have:=LR.out;have:=LW.out;simp;omega);have KP1:Hid (Keep w0.heap.size w v1):=(keep_below ((Below.refl _ _).alloc (Nat.le_refl _) _)).trans (keep_grown hg LR.out.1);have BB1:Hid (v1.heap[w.heap.size]?=some (.cells #[.pointer (some ⟨rb,0,none⟩),.int .i64 n] 129 (0,0))):=(hg.block w.heap.size (by simp) (fun q=>by cases q;have:=LR.out;have:=LW.out;omega)).trans (heap_alloc_new w _);clear hr hg;have e21:=X1.out.cell 21 (.int .i64 p.id) rfl;have z21:=X1.out.frozen 21;have U1:Hid (Un w0 w v1 rb g n cp pb z r1 p ⟨none,0,0⟩ 99 2 0 []):=⟨X1.out.co,⟨rfl,.inl ⟨rfl,rfl⟩⟩,KP1.out,BB1.out,LW.out,GB.out⟩;have U2:Hid (Un w0 w (v1.setCell ⟨pb,21,none⟩ (.int .i64 t)) rb g n cp pb z r1 { p with id:=t } ⟨none,0,0⟩ 99 2 0 []):=U1.out.set 21 _ _ rfl;go_wp2_with fail;clear e21 z21;go_loopg [] n (fun gg wx=>∃ (r':Rs) (fs:List (ByteArray×Int)) (s:Sl),Hid (Un w0 w wx rb g n cp pb z r' { p with id:=t,asks:=s } s 99 2 fs.length (askCells fs))/\Hid (U=subF z n gg r' fs)/\Hid (more n r'=true->n<=r'.at0+gg)/\Hid (more n r'=true->fs.length<=r'.at0));case atStart=>exact ⟨r1,[],⟨none,0,0⟩,by rw [<-FN.out];exact FN.out ▸ U2.out,H2.out,fun _=>by omega,fun _=>Nat.zero_le _⟩
 case round =>
  obtain ⟨r',fs,s,C0,E0,M0,L0⟩:=hrel;have b0:=C0.out.bx;have b1:wr.cell? ⟨w.heap.size,1,none⟩=some (.int .i64 n):=by have q:=C0.out.box;simp [World.cell?,q]
  go_wp2_with fail;go_must (go_at_call 127);refine (left_any C0.out.co.rd).mono ?_;rintro e u1 ⟨rfl,hb⟩;have C1:Hid (Un w0 w u1 rb g n cp pb z r' { p with id:=t,asks:=s } s 99 2 fs.length (askCells fs)):=C0.out.below hb;clear hb C0 b0 b1;cases hm:more n r' with
  | true =>
   obtain ⟨tx,htx⟩:∃ y,y=rText z n r':=⟨_,rfl⟩;obtain ⟨qx,hqx⟩:∃ y,y=rByte z n tx.2:=⟨_,rfl⟩;have HT:Hid (tx=rText z n r'):=htx;have HQ:Hid (qx=rByte z n tx.2):=hqx;obtain ⟨gg,hgg⟩:∃ gg,gk=gg+1:=⟨gk-1,by have:=M0.out hm;have:=(more_at hm).2;omega⟩;have E1:Hid (U=subF z n gg qx.2 (fs++[(tx.1,qx.1)])):=by show _=_;rw [E0.out,hgg,subF,if_pos hm,hqx,htx]
   have N1:Hid ((more n qx.2=true->n<=qx.2.at0+gg)/\(more n qx.2=true->(fs++[(tx.1,qx.1)]).length<=qx.2.at0)):=by
    refine ⟨fun q=>?_,fun q=>?_⟩;· have a:=M0.out hm;rw [hqx,htx] at q ⊢;have b:=sub_on hm q;omega
    · have a:=L0.out hm;have b:r'.at0+2<=qx.2.at0:=(by rw [hqx,htx] at q ⊢;exact sub_on hm q);simp only [List.length_append,List.length_singleton];omega
   have ML:Hid (fs.length<=1000000):=by have a:=L0.out hm;have b:=(more_at hm).2;have:=NF.out;show fs.length<=1000000;omega
   clear htx hqx E0 M0 L0;obtain ⟨tx,r2⟩:=tx;obtain ⟨qx,r3⟩:=qx;simp only at E1 N1 HQ;have bx:=C1.out.bx;go_wp2_with fail;go_must (go_at_call 123);clear bx;refine (text_any C1.out.co.rd).mono ?_;rw [<-HT.out];rintro e u2 ⟨rfl,hr,hg⟩;have C2:Hid (Un w0 w u2 rb g n cp pb z r2 { p with id:=t,asks:=s } s 99 2 fs.length (askCells fs)):=C1.out.read hr hg;clear hr hg hm;have bq:0<=qx/\qx<=255:=by have h:=rByte_bd (z:=z) (n:=n) C2.out.co.rd;rw [<-HQ.out] at h;exact h
   have hwr:IntKind.i64.wrap qx=qx:=wraps_i64 qx bq.1 (by have:=bq.2;simp;omega);have TX:Hid (Calls Tryz.prog 65 #[.pointer (some ⟨rb,0,none⟩)] u2.drew fun e w'=>e = .returned (.int .u8 qx)/\Un w0 w w' rb g n cp pb z r3 { p with id:=t,asks:=s } s 99 2 fs.length (askCells fs)):=by have D1:=C2.out.below ((Below.refl _ _).drew);refine (byte_any D1.co.rd).mono ?_;rw [<-HQ.out];exact fun e w' ⟨h1,h2,h3⟩=>⟨h1,D1.read h2 h3⟩
   have c24:u2.cell? ⟨pb,22,none⟩=some (.slice s.a s.n s.c):=C2.out.co.cell 22 _ rfl;have bx:u2.cell? ⟨w.heap.size,0,none⟩=some (.pointer (some ⟨rb,0,none⟩)):=C2.out.bx;go_wp2;first | go_region_law (first | (refine step_push rfl (.tmp 20) (.tmp 27) 35 rfl (w.heap.size+1) 99 i0 (.agg #[.string ⟨#[]⟩,.int .i64 0]) 2 24 Tryz.underlying35 hi hz0 hz1 hz2 agg_two (by decide) (.slice s.a s.n s.c) fs.length (askCells fs) rfl (C3.out.below ((Below.refl _ _).alloc (Nat.le_refl _) _)).own ⟨u3.heap.size,0,none⟩ 1 1 [.string tx,.int .i64 qx] rfl (by decide) rfl (cell_two_new _ _ _ _) (by intro u hu;simp at hu;rcases hu with rfl | rfl <;> rfl) (by have:=ML.out;unfold maxLen;omega) (by have:=ML.out;omega) (by have:=lt_of_block C3.out.box;simp;omega) ?_;intro v3 u4 ho hg hne _;obtain ⟨s3,rfl,hs3,hn3⟩:=own_some ho hne;have C4:Hid (Un w0 w u4 rb g n cp pb z r3 { p with id:=t,asks:=s } s3 99 2 (fs.length+1) (askCells fs++[.string tx,.int .i64 qx])):=(C3.out.below ((Below.refl _ _).alloc (Nat.le_refl _) _)).app ho hg;clear ho hg hne hs3 hn3;have c24d:u4.cell? ⟨pb,22,none⟩=some (.slice s.a s.n s.c):=C4.out.co.cell 22 _ rfl;have z24d:=C4.out.co.frozen 22)|(go_simp;go_wp2_with (go_at_call 65;refine TX.out.mono ?_;rintro e u3 ⟨rfl,hX⟩;have C3:Hid (Un w0 w u3 rb g n cp pb z r3 { p with id:=t,asks:=s } s 99 2 fs.length (askCells fs)):=hX;clear hX;have c24b:u3.cell? ⟨pb,22,none⟩=some (.slice s.a s.n s.c):=C3.out.co.cell 22 _ rfl;have c24c:(u3.alloc (.cells #[.string tx,.int .i64 qx] 99)).cell? ⟨pb,22,none⟩=some (.slice s.a s.n s.c):=(C3.out.below ((Below.refl _ _).alloc (Nat.le_refl _) _)).co.cell 22 _ rfl))) | fail
   all_goals go_wp2
   all_goals go_roundg gg
   all_goals first | omega | exact ⟨r3,fs++[(tx,qx)],s3,by show Un _ _ _ _ _ _ _ _ _ _ _ _ _ _ _ _;rw [List.length_append,askCells_append];exact C4.out.set 22 _ _ rfl,E1.out,N1.out.1,N1.out.2⟩
  | false =>
   have HU:Hid (U=(r',fs)):=by show _=_;rw [E0.out];exact subF_end _ _ _ hm
   clear hm;go_wp2;go_end0;rw [HS.out,HU.out];obtain ⟨q1,q2,q3⟩:=own_as C1.out.own;have q:=In.keep XS.out.inn XS.out.nx C1.out.keep;have x:=XS.out.nx;exact ⟨rfl,{ p with id:=t,asks:=s },C1.out.co.cs ⟨q.wP,q.pass,q.mP,q1,q.codes,q.filters⟩ ⟨x.wP,x.pass,x.mP,fun b off e=>by have:=q3 b off e;have:=LW.out;omega,x.codes,x.filters⟩,p.wP,p.pass,p.mP,s,p.codes,p.filters,rfl,rfl,rfl,rfl,q2,rfl,rfl⟩
end Go.Proofs.YtpldoeeahhaimaaGreatDoor
