import Derived.Test.YtpldoeeahhaimaaGreatDoorGf
namespace Go.Proofs.YtpldoeeahhaimaaGreatDoor
open Go Go.RowKit
open Pkt (Pk Cn Sl In By Is Ss As pkCells Gd)
set_option linter.all false
theorem run_append_empty {P:Program} {w:World} (base:Nat) (t ty e:TypeId) (i:TypeInfo) (size:Nat) (ht:P.underlying t=some (.slice e)) (hi:P.info? e=some i)
 (v:Value) (n:Nat) (xs:List Value) (hown:w.ownsRow base e size v n xs) (hv:v≠.slice none 0 0) (a:Option Addr) (c:Nat) : (Builtin.append_ #[t,t] ty #[v,.slice a 0 c]).run P w = .ok v w:=by
 rcases hown.2 with ⟨rfl,rfl⟩|⟨g,cap,cur,rfl,_,_,hnc,_⟩;· exact absurd rfl hv
 · cases a with | none=>simp [Builtin.append_,run_underlying ht,sizeOf,typeInfo,hi,Builtin.lenOf,Builtin.firstCells,hnc,storeCells];| some a => have hf:=run_firstCells_some (P:=P) w i.size 0 a 0 c [] (by simp) (by intro j v h;simp at h);simp [Builtin.append_,run_underlying ht,sizeOf,typeInfo,hi,Builtin.lenOf,hf,hnc,storeCells]
structure Lay (B:Nat) (v0:Value) (W w:World) (v:Value) (n:Nat) (xs:List Value):Prop where
 own:w.ownsRow B 5 1 v n xs
 ne:v≠.slice none 0 0
 gb:W.grownBy w v0.ownBlock
 at_:∀ k,v.ownBlock=some k->v0.ownBlock=some k\/W.heap.size<=k
theorem Lay.add {B:Nat} {v0 v v':Value} {W w w':World} {n m:Nat} {xs ys:List Value} (h:Lay B v0 W w v n xs) (ha:Adds B v w w' (.returned v') m ys):Lay B v0 W w' v' m ys:=by obtain ⟨v2,e,o,ne,g,a⟩:=ha;cases e;exact ⟨o,ne,grown_on h.gb h.at_ g,own_on h.gb.size h.at_ a⟩
theorem Lay.block {B:Nat} {v0 v:Value} {W w:World} {n:Nat} {xs:List Value} (h:Lay B v0 W w v n xs) {g:Nat} {o:Obj} (hg:W.heap[g]?=some o) (hv:v0.ownBlock≠some g):w.heap[g]?=some o:=gb_block h.gb hg hv
open Pkt (Pk Cn Sl In By pkCells Gd box_below)
set_option maxRecDepth 100000
set_option maxHeartbeats 1000000
def frCells (most:Int) (lv:Value) (done gone fa fe:Int):Array Value:=#[.int .i64 most,lv,.int .i64 done,.int .i64 gone,.int .i64 fa,.int .i64 fe]
def FrAt (w:World) (fb:Nat) (most:Int) (lv:Value) (done gone fa fe:Int):Prop:=w.heap[fb]?=some (.cells (frCells most lv done gone fa fe) 83 (0,0))
theorem FrAt.cell {w:World} {fb:Nat} {most:Int} {lv:Value} {done gone fa fe:Int} (h:FrAt w fb most lv done gone fa fe) (k:Nat) (v:Value) (hk:(frCells most lv done gone fa fe)[k]?=some v):w.cell? ⟨fb,k,none⟩=some v:=box_cells h k v hk
theorem new_any (most:Int) (w:World):Calls Tryz.prog 27 #[.int .i64 most] w fun e w'=>e = .returned (.pointer (some ⟨w.heap.size,0,none⟩))/\w'=w.alloc (.cells (frCells most (.slice none 0 0) 0 0 0 0) 83):=by
 have hb:Tryz.prog.built 83 [(0,.int .i64 most)]=some (frCells most (.slice none 0 0) 0 0 0 0):=by kernel_rfl
 go_enter Tryz.func27,Tryz.ntmps27;go_wp2_with (first | (refine wpList_build_to rfl 83 _ rfl (frCells most (.slice none 0 0) 0 0 0 0) hb ?_) | fail);go_ret;exact ⟨rfl,rfl⟩
theorem dead_any {fb:Nat} {most:Int} {lv:Value} {done gone fa fe:Int} (w:World) (h:FrAt w fb most lv done gone fa fe):Calls Tryz.prog 39 #[.pointer (some ⟨fb,0,none⟩)] w fun e w'=>e = .returned (.bool (fe != 0))/\w'=w:=by have c5:w.cell? ⟨fb,5,none⟩=some (.int .i64 fe):=h.cell 5 _ rfl;clear h;go_enter Tryz.func39,Tryz.ntmps39;go_wp2_with fail;go_ret;exact ⟨rfl,rfl⟩
theorem why_any {fb:Nat} {most:Int} {lv:Value} {done gone fa fe:Int} (w:World) (h:FrAt w fb most lv done gone fa fe):Calls Tryz.prog 40 #[.pointer (some ⟨fb,0,none⟩)] w fun e w'=>e = .returned (.iface 91 (.pointer (some ⟨w.heap.size,0,none⟩)))/\w'=w.alloc (.cells #[.int .i64 fa,.int .i64 fe] 81):=by have c4:w.cell? ⟨fb,4,none⟩=some (.int .i64 fa):=h.cell 4 _ rfl;have c5:w.cell? ⟨fb,5,none⟩=some (.int .i64 fe):=h.cell 5 _ rfl;clear h;go_enter Tryz.func40,Tryz.ntmps40;go_wp2_with fail;go_ret;exact ⟨rfl,rfl⟩
theorem held_some {fb:Nat} {most:Int} {g n cap:Nat} {gone fa fe:Int} (d:Nat) (w:World) (h:FrAt w fb most (.slice (some ⟨g,0,none⟩) n cap) d gone fa fe) (hd:d<=n) (hn:n<=cap):Calls Tryz.prog 42 #[.pointer (some ⟨fb,0,none⟩)] w fun e w'=>e = .returned (.slice (if n=d then some ⟨g,0,none⟩ else some ⟨g,d,none⟩) (n-d) (n-d))/\Below w.heap.size w w':=by
 have c1:w.cell? ⟨fb,1,none⟩=some (.slice (some ⟨g,0,none⟩) n cap):=h.cell 1 _ rfl;have c2:w.cell? ⟨fb,2,none⟩=some (.int .i64 d):=h.cell 2 _ rfl;clear h;go_enter Tryz.func42,Tryz.ntmps42;have q1:(0:Int)<=d:=by omega
 have q2:(d:Int)<=n:=by omega
 have q3:(n:Int)<=cap:=by omega
 go_wp2_with fail;go_quiet (fail);have B:Hid (Below w.heap.size w (w.drewN nq)):=below_drewN (Below.refl _ _) nq;go_wp2_with fail;all_goals go_ret
 all_goals first | exact ⟨rfl,B.out⟩|(refine ⟨?_,B.out⟩;first | rfl | simp_all)
theorem held_nil {fb:Nat} {most:Int} {gone fa fe:Int} (w:World) (h:FrAt w fb most (.slice none 0 0) 0 gone fa fe):Calls Tryz.prog 42 #[.pointer (some ⟨fb,0,none⟩)] w fun e w'=>e = .returned (.slice none 0 0)/\Below w.heap.size w w':=by have c1:w.cell? ⟨fb,1,none⟩=some (.slice none 0 0):=h.cell 1 _ rfl;have c2:w.cell? ⟨fb,2,none⟩=some (.int .i64 0):=h.cell 2 _ rfl;clear h;go_enter Tryz.func42,Tryz.ntmps42;go_wp2_with fail;go_quiet (fail);have B:Hid (Below w.heap.size w (w.drewN nq)):=below_drewN (Below.refl _ _) nq;go_wp2_with fail;go_ret;exact ⟨rfl,B.out⟩
set_option maxHeartbeats 2000000
theorem cellsOf_cat (z z':Nat->Int) (n:Nat):∀ m,cellsOf (cat z n z') (n+m)=cellsOf z n++cellsOf z' m
 | 0=>by rw [Nat.add_zero,cellsOf_zero,List.append_nil];exact cellsOf_congr _ _ _ fun i hi=>by simp [cat,hi];| m+1=>by
  rw [<-Nat.add_assoc,cellsOf_succ,cellsOf_succ,cellsOf_cat z z' n m,List.append_assoc];congr 2;have:cat z n z' (n+m)=z' m:=by unfold cat;rw [if_neg (by omega),show n+m-n=m by omega]
  rw [this]
theorem run_append_empty' {P:Program} {w:World} (base:Nat) (t ty e:TypeId) (i:TypeInfo) (size:Nat) (ht:P.underlying t=some (.slice e)) (hi:P.info? e=some i)
 (v:Value) (n:Nat) (xs:List Value) (hown:w.ownsRow base e size v n xs) (a:Option Addr) (c:Nat) : (Builtin.append_ #[t,t] ty #[v,.slice a 0 c]).run P w = .ok v w:=by
 by_cases hv:v = .slice none 0 0
 · subst hv
   cases a with
   | none=>simp [Builtin.append_,run_underlying ht,sizeOf,typeInfo,hi,Builtin.lenOf,Builtin.firstCells];| some a => have hf:=run_firstCells_some (P:=P) w i.size 0 a 0 c [] (by simp) (by intro j v h;simp at h);simp [Builtin.append_,run_underlying ht,sizeOf,typeInfo,hi,Builtin.lenOf,hf]
 · exact run_append_empty base t ty e i size ht hi v n xs hown hv a c
theorem wpList_push_any {w:World} {ops:Array Oper} {rest:List Oper} {o:Oper} {a:Act} {Q:Exit->Act->World->Prop} (hgd:o.guard=none) (s x:Operand)
 (ho:o.op = .call { callee:=.builtin .append,args:=#[s,x],argTypes:=#[32,32] }) (B n:Nat) (v:Value) (xs:List Value) (hs:a.eval s=v) (hown:w.ownsRow B 5 1 v n xs)
 (l:Sl) (z:Nat->Int) (hx:a.eval x = .slice l.a l.n l.c) (hl:By w l z) (hn:n<=400000) (hln:l.n<=400000) (hB:B<=w.heap.size) (h:∀ v' w',w'.ownsRow B 5 1 v' (n+l.n) (xs++cellsOf z l.n)->w.grownBy w' v.ownBlock->(v'.ownBlock=v.ownBlock\/v'.ownBlock=some w.heap.size)->wpList Tryz.prog ops Q rest (a.put o.dst v') w'):wpList Tryz.prog ops Q (o::rest) a w:=by
 obtain ⟨i0,hi,hz0,hz1,hz2⟩:=info_parts Tryz.info5;by_cases h0:l.n=0
 · refine wpList_plain hgd fun K hK=>?_
   have hrun:=run_append_empty' (P:=Tryz.prog) B 32 o.type 5 i0 1 Tryz.underlying32 hi v n xs hown l.a l.c;rw [h0] at hx;unfold Oper.wp;simp [execOp,ho,resolve,invoke,builtin,hs,hx,hrun,Result.andThen];refine hK _ _ (h v w ?_ (World.grownBy.refl _ _) (.inl rfl));rw [h0];simpa [cellsOf_zero] using hown
 · obtain ⟨b,off,ha,hc⟩:=hl.2.2.resolve_left h0
   rw [ha] at hx;refine wpList_push hgd s x 32 ho B 5 i0 (.int .u8 0) 1 1 Tryz.underlying32 hi hz0 hz1 hz2 rfl (by decide) v n xs hs hown ⟨b,off,none⟩ l.n l.c (cellsOf z l.n) hx (by omega) (by rw [cellsOf_length,Nat.mul_one]) (fun j u hu=>?_) (fun u hu=>cellsOf_one _ _ _ hu) (by unfold maxLen;omega) (by omega) hB ?_
   · obtain ⟨hj,rfl⟩:=cellsOf_get _ _ _ _ hu
     rw [plain_add];exact hc j hj
   · intro v' w' o1 g1 n1 wh
     exact h v' w' o1 g1 wh
structure Fr (w:World) (fb:Nat) (most:Int) (v:Value) (B n:Nat) (z:Nat->Int) (d:Nat) (gone fa fe:Int):Prop where
 at_:FrAt w fb most v d gone fa fe
 own:w.ownsRow B 5 1 v n (cellsOf z n)
 dn:d<=n
theorem own_ne {w:World} {fb:Nat} {most:Int} {v v0:Value} {B n:Nat} {xs:List Value} {d gone fa fe:Int} (hat:FrAt w fb most v0 d gone fa fe) (ho:w.ownsRow B 5 1 v n xs):v.ownBlock≠some fb:=by
 intro e;rcases ho.2 with ⟨rfl,_⟩|⟨g,cap,cur,rfl,_,hg,_⟩;· cases e
 ·
  have e':g=fb:=by simpa [Value.ownBlock] using e
  subst e';have h1:=hat;unfold FrAt at h1;rw [hg] at h1;simp at h1
theorem Fr.ne {w:World} {fb:Nat} {most:Int} {v:Value} {B n:Nat} {z:Nat->Int} {d:Nat} {gone fa fe:Int} (h:Fr w fb most v B n z d gone fa fe):v.ownBlock≠some fb:=own_ne h.at_ h.own
structure Kq (fb:Nat) (row:Option Nat) (w w':World):Prop where
 os:w'.os=w.os
 tape:w'.tape=w.tape
 output:w'.output=w.output
 size:w.heap.size<=w'.heap.size
 block:∀ k,k<w.heap.size->k≠fb->row≠some k->w'.heap[k]?=w.heap[k]?
theorem set_list {w:World} {fb:Nat} {most:Int} {v v':Value} {d:Int} {gone fa fe:Int} (h:FrAt w fb most v d gone fa fe):FrAt (w.setCell ⟨fb,1,none⟩ v') fb most v' d gone fa fe:=by unfold FrAt at h ⊢;have:=heap_setCell_same w fb 1 _ _ v' h;rw [this];rfl
theorem Fr.frozen {w:World} {fb:Nat} {most:Int} {v:Value} {d:Int} {gone fa fe:Int} (h:FrAt w fb most v d gone fa fe) (k:Nat):w.frozen? ⟨fb,k,none⟩=false:=frozen_of_row w fb k _ _ h
theorem FrAt.lt {w:World} {fb:Nat} {most:Int} {v:Value} {d:Int} {gone fa fe:Int} (h:FrAt w fb most v d gone fa fe):fb<w.heap.size:=by unfold FrAt at h;exact (Array.getElem?_eq_some_iff.1 h).1
theorem put_any {w:World} {fb:Nat} {most:Int} {v:Value} {B n:Nat} {z:Nat->Int} {d:Nat} {gone fa:Int} (h:Fr w fb most v B n z d gone fa 0) (l:Sl) (zb:Nat->Int) (hl:By w l zb) (hn:n<=400000) (hln:l.n<=400000) (hB:B<=w.heap.size) :
 Calls Tryz.prog 25 #[.pointer (some ⟨fb,0,none⟩),.slice l.a l.n l.c] w fun e w'=>e = .returned (.tuple #[])/\∃ v',Fr w' fb most v' B (n+l.n) (cat z n zb) d gone fa 0/\Kq fb v.ownBlock w w'/\(v'.ownBlock=v.ownBlock\/v'.ownBlock=some w.heap.size):=by
 have HF:Hid (Fr w fb most v B n z d gone fa 0):=h;have HL:Hid (By w l zb):=hl;have HN:Hid (n<=400000/\l.n<=400000/\B<=w.heap.size):=⟨hn,hln,hB⟩;have HD:Hid (Calls Tryz.prog 39 #[.pointer (some ⟨fb,0,none⟩)] w fun e w'=>e = .returned (.bool false)/\w'=w):=by have:=dead_any w h.at_;have e0:((0:Int) != 0)=false:=rfl;rw [e0] at this;exact this
 have c1:w.cell? ⟨fb,1,none⟩=some v:=h.at_.cell 1 _ rfl;clear h hl hn hln hB;go_enter Tryz.func25,Tryz.ntmps25;go_wp2_with fail;go_must (go_at_call 39);refine HD.out.mono ?_;rintro e w0 ⟨rfl,hw0⟩;have hw1:=hw0.symm;clear hw0;subst hw1;go_wp2_with (at_builtin;refine wpList_push_any rfl (.tmp 11) (.tmp 12) rfl B n v _ rfl HF.out.own l zb rfl HL.out HN.out.1 HN.out.2.1 HN.out.2.2 ?_);intro v' w1 ho hg hw;have hat:FrAt w1 fb most v d gone fa 0:=by have h1:=HF.out.at_;unfold FrAt at h1 ⊢;rw [hg.block fb (FrAt.lt HF.out.at_) (fun e=>HF.out.ne e.symm)];exact h1
 have c1':w1.cell? ⟨fb,1,none⟩=some v:=hat.cell 1 _ rfl;have z1:w1.frozen? ⟨fb,1,none⟩=false:=Fr.frozen hat 1;have HA:Hid (FrAt (w1.setCell ⟨fb,1,none⟩ v') fb most v' d gone fa 0):=set_list hat;have HO:Hid (w1.ownsRow B 5 1 v' (n+l.n) (cellsOf (cat z n zb) (n+l.n))):=by rw [cellsOf_cat];exact ho
 have HNE:Hid (v'.ownBlock≠some fb):=own_ne hat HO.out;have HK:Hid (Kq fb v.ownBlock w (w1.setCell ⟨fb,1,none⟩ v')):=by
  refine ⟨hg.os,hg.tape,hg.output,?_,fun k hk h1 h2=>?_⟩;· have:=hg.size;simpa [World.setCell] using this
  · rw [Below.heap_setCell _ _ _ _ h1]
    exact hg.block k hk (fun e=>h2 e.symm)
 have HW:Hid (v'.ownBlock=v.ownBlock\/v'.ownBlock=some w.heap.size):=hw;obtain ⟨av,nv,cv,hvv⟩:∃ a n c,v' = .slice a n c:=by
  rcases HO.out.2 with ⟨h1,_⟩|⟨g,cp,_,h1,_⟩;· exact ⟨_,_,_,h1⟩
  · exact ⟨_,_,_,h1⟩
 subst hvv;clear ho hg hw hat c1;go_wp2_with fail;go_end0;refine ⟨rfl,_,⟨HA.out,?_,by have:=HF.out.dn;omega⟩,HK.out,HW.out⟩;exact ownsRow_setCell_other HO.out HNE.out _
theorem set_gone {w:World} {fb:Nat} {most:Int} {v:Value} {d gone fa fe:Int} (x:Int) (h:FrAt w fb most v d gone fa fe):FrAt (w.setCell ⟨fb,3,none⟩ (.int .i64 x)) fb most v d x fa fe:=by unfold FrAt at h ⊢;have:=heap_setCell_same w fb 3 _ _ (.int .i64 x) h;rw [this];rfl
theorem set_done {w:World} {fb:Nat} {most:Int} {v:Value} {d gone fa fe:Int} (x:Int) (h:FrAt w fb most v d gone fa fe):FrAt (w.setCell ⟨fb,2,none⟩ (.int .i64 x)) fb most v x gone fa fe:=by unfold FrAt at h ⊢;have:=heap_setCell_same w fb 2 _ _ (.int .i64 x) h;rw [this];rfl
theorem held_by {w:World} {fb:Nat} {most:Int} {v:Value} {B n:Nat} {z:Nat->Int} {d:Nat} {gone fa fe:Int} (h:Fr w fb most v B n z d gone fa fe) (hz:∀ i,0<=z i/\z i<=255) :
 ∃ l:Sl,l.n=n-d/\By w l (fun i=>z (d+i))/\Calls Tryz.prog 42 #[.pointer (some ⟨fb,0,none⟩)] w fun e w'=>e = .returned (.slice l.a l.n l.c)/\Below w.heap.size w w':=by
 have hd:=h.dn;rcases h.own.2 with ⟨rfl,h0⟩|⟨g,cap,cur,rfl,_,hg,hnc,_,hcs,ht⟩
 · have hd0:d=0:=by omega
   subst hd0;refine ⟨⟨none,0,0⟩,by show 0=n-0;omega,⟨Nat.le_refl _,fun i=>hz _,.inl rfl⟩,?_⟩;exact held_nil w h.at_
 · refine ⟨⟨if n=d then some ⟨g,0,none⟩ else some ⟨g,d,none⟩,n-d,n-d⟩,rfl,⟨Nat.le_refl _,fun i=>hz _,?_⟩,held_some d w h.at_ hd hnc⟩
   by_cases e:n=d;· left;show n-d=0;omega
   · right
     refine ⟨g,d,by simp [e],fun i hi=>?_⟩;have hi':i<n-d:=hi;have:=h.own.cellAt (d+i) (by omega);rw [this,cellsOf_at z n (d+i) (by omega)]
theorem renew_any {w:World} {fb:Nat} {most:Int} {v:Value} {B n:Nat} {z:Nat->Int} {d:Nat} {gone fa fe:Int} (h:Fr w fb most v B n z d gone fa fe) (hz:∀ i,0<=z i/\z i<=255) (hn:n<=400000) (hB:B<=w.heap.size) (hg0:0<=gone) (hg1:gone<=1000000000) :
 Calls Tryz.prog 52 #[.pointer (some ⟨fb,0,none⟩)] w fun e w'=>e = .returned (.tuple #[])/\∃ v',Fr w' fb most v' B (n-d) (fun i=>z (d+i)) 0 (gone+d) fa fe/\Kq fb none w w'/\(v'.ownBlock=none\/∃ k,v'.ownBlock=some k/\w.heap.size<=k):=by
 obtain ⟨l,hln,hl,hc⟩:=held_by h hz;have HF:Hid (Fr w fb most v B n z d gone fa fe):=h;have HL:Hid (By w l (fun i=>z (d+i))):=hl;have HC:Hid (Calls Tryz.prog 42 #[.pointer (some ⟨fb,0,none⟩)] w fun e w'=>e = .returned (.slice l.a l.n l.c)/\Below w.heap.size w w'):=hc;have HN:Hid (n<=400000/\l.n=n-d/\B<=w.heap.size/\0<=gone/\gone<=1000000000/\d<=n):=⟨hn,hln,hB,hg0,hg1,h.dn⟩;have hwg:IntKind.i64.wrap (gone+(d:Int))=gone+(d:Int):=by rw [IntKind.wrap_i64];have:=HN.out;omega
 clear h hl hc hn hln hB hg0 hg1 hz;go_enter Tryz.func52,Tryz.ntmps52;go_wp2_with fail;go_must (go_at_call 42);refine HC.out.mono ?_;rintro e w1 ⟨rfl,hb⟩;have B1:Hid (Below w.heap.size w w1):=hb;have L1:Hid (By w1 l (fun i=>z (d+i))):=HL.out.below hb;clear hb;go_wp2_with (at_builtin;refine wpList_push_any rfl (.const (.slice none 0 0)) (.tmp 4) rfl w1.heap.size 0 (.slice none 0 0) [] rfl (World.ownsRow_nil _ _ _ _) l _ rfl L1.out (by omega) (by have:=HN.out;omega) (Nat.le_refl _) ?_);intro v' w2 ho hg hw;have hat:FrAt w2 fb most v d gone fa fe:=by have h1:=HF.out.at_;have h2:=FrAt.lt HF.out.at_;unfold FrAt at h1 ⊢;rw [hg.block fb (by have:=B1.out.size;omega) (fun e=>by cases e),B1.out.block fb h2];exact h1
 have c1:w2.cell? ⟨fb,1,none⟩=some v:=hat.cell 1 _ rfl;have z1:w2.frozen? ⟨fb,1,none⟩=false:=Fr.frozen hat 1;have HA:Hid (FrAt (w2.setCell ⟨fb,1,none⟩ v') fb most v' d gone fa fe):=set_list hat;have HO:Hid (w2.ownsRow w1.heap.size 5 1 v' l.n (cellsOf (fun i=>z (d+i)) l.n)):=ho;have HNE:Hid (v'.ownBlock≠some fb):=own_ne hat ho;have HG:Hid (w1.grownBy w2 none):=hg;obtain ⟨av,nv,cv,hvv⟩:∃ a n c,v' = .slice a n c:=by
  rcases HO.out.2 with ⟨h1,_⟩|⟨g,cp,_,h1,_⟩;· exact ⟨_,_,_,h1⟩
  · exact ⟨_,_,_,h1⟩
 subst hvv;clear ho hg hw hat;go_upto_region 1 with fail;obtain ⟨w3,hw3⟩:∃ w3,w3=w2.setCell ⟨fb,1,none⟩ (.slice av nv cv):=⟨_,rfl⟩;rw [<-hw3] at HA ⊢;have HW3:Hid (w3=w2.setCell ⟨fb,1,none⟩ (.slice av nv cv)):=hw3;clear hw3 c1 z1;have c2:w3.cell? ⟨fb,2,none⟩=some (.int .i64 d):=HA.out.cell 2 _ rfl;have c3:w3.cell? ⟨fb,3,none⟩=some (.int .i64 gone):=HA.out.cell 3 _ rfl;have z3:w3.frozen? ⟨fb,3,none⟩=false:=Fr.frozen HA.out 3;go_region;have HA4:Hid (FrAt (w3.setCell ⟨fb,3,none⟩ (.int .i64 (gone+d))).drew fb most (.slice av nv cv) d (gone+d) fa fe):=set_gone (gone+d) HA.out;obtain ⟨w4,hw4⟩:∃ w4,w4=(w3.setCell ⟨fb,3,none⟩ (.int .i64 (gone+d))).drew:=⟨_,rfl⟩;rw [<-hw4] at HA4 ⊢;have HW4:Hid (w4=(w3.setCell ⟨fb,3,none⟩ (.int .i64 (gone+d))).drew):=hw4;clear hw4 c2 c3 z3;have c2:w4.cell? ⟨fb,2,none⟩=some (.int .i64 d):=HA4.out.cell 2 _ rfl;have z2:w4.frozen? ⟨fb,2,none⟩=false:=Fr.frozen HA4.out 2;go_wp2_with fail;go_end0;have hheap:∀ k,k≠fb->(w4.setCell ⟨fb,2,none⟩ (.int .i64 0)).heap[k]?=w2.heap[k]?:=by intro k hk;rw [Below.heap_setCell _ _ _ _ hk,HW4.out];show (w3.setCell ⟨fb,3,none⟩ (.int .i64 (gone+d))).heap[k]?=_;rw [Below.heap_setCell _ _ _ _ hk,HW3.out,Below.heap_setCell _ _ _ _ hk]
 have hsz:(w4.setCell ⟨fb,2,none⟩ (.int .i64 0)).heap.size=w2.heap.size:=by rw [HW4.out,HW3.out];simp [World.setCell,World.drew]
 refine ⟨rfl,_,⟨set_done 0 HA4.out,?_,Nat.zero_le _⟩,?_,?_⟩
 · have h1:=HO.out
   rw [HN.out.2.1] at h1;have h2:w2.ownsRow B 5 1 (.slice av nv cv) (n-d) (cellsOf (fun i=>z (d+i)) (n-d)):=h1.mono (by have:=HN.out;have:=B1.out.size;omega);have hne:=HNE.out;have h3:w3.ownsRow B 5 1 (.slice av nv cv) (n-d) (cellsOf (fun i=>z (d+i)) (n-d)):=by rw [HW3.out];exact ownsRow_setCell_other h2 hne _
   have h4:w4.ownsRow B 5 1 (.slice av nv cv) (n-d) (cellsOf (fun i=>z (d+i)) (n-d)):=by rw [HW4.out];exact (ownsRow_setCell_other h3 hne _).drew
   exact ownsRow_setCell_other h4 hne _
 · have e1:(w4.setCell ⟨fb,2,none⟩ (.int .i64 0)).os=w2.os/\(w4.setCell ⟨fb,2,none⟩ (.int .i64 0)).tape=w2.tape/\(w4.setCell ⟨fb,2,none⟩ (.int .i64 0)).output=w2.output:=by rw [HW4.out,HW3.out];exact ⟨rfl,rfl,rfl⟩
   refine ⟨e1.1.trans (HG.out.os.trans B1.out.os),e1.2.1.trans (HG.out.tape.trans B1.out.tape),e1.2.2.trans (HG.out.output.trans B1.out.output),?_,fun k hk h1 h2=>?_⟩;· rw [hsz];exact Nat.le_trans B1.out.size HG.out.size
   · rw [hheap k h1,HG.out.block k (by have:=B1.out.size;omega) (fun e=>by cases e),B1.out.block k hk]
 · cases e:(Value.slice av nv cv).ownBlock with | none=>exact .inl rfl;| some k=>exact .inr ⟨k,rfl,by have:=(HO.out.lt k e).1;have:=B1.out.size;omega⟩
theorem heldq_some {fb:Nat} {most:Int} {g n cap:Nat} {gone fa fe:Int} (d:Nat) (w:World) (h:FrAt w fb most (.slice (some ⟨g,0,none⟩) n cap) d gone fa fe) (hd:d<=n) (hn:n<=cap):Calls Tryz.prog 42 #[.pointer (some ⟨fb,0,none⟩)] w fun e w'=>(∃ q,w'=w.drewN q)/\e = .returned (.slice (if n=d then some ⟨g,0,none⟩ else some ⟨g,d,none⟩) (n-d) (n-d)):=by
 have c1:w.cell? ⟨fb,1,none⟩=some (.slice (some ⟨g,0,none⟩) n cap):=h.cell 1 _ rfl;have c2:w.cell? ⟨fb,2,none⟩=some (.int .i64 d):=h.cell 2 _ rfl;clear h;go_enter Tryz.func42,Tryz.ntmps42;have q1:(0:Int)<=d:=by omega
 have q2:(d:Int)<=n:=by omega
 have q3:(n:Int)<=cap:=by omega
 go_wp2_with fail;go_quiet (fail);go_wp2_with fail;all_goals go_ret
 all_goals first | exact ⟨⟨nq,rfl⟩,rfl⟩|(refine ⟨⟨nq,rfl⟩,?_⟩;first | rfl | simp_all)
theorem heldq_nil {fb:Nat} {most:Int} {gone fa fe:Int} (w:World) (h:FrAt w fb most (.slice none 0 0) 0 gone fa fe):Calls Tryz.prog 42 #[.pointer (some ⟨fb,0,none⟩)] w fun e w'=>(∃ q,w'=w.drewN q)/\e = .returned (.slice none 0 0):=by have c1:w.cell? ⟨fb,1,none⟩=some (.slice none 0 0):=h.cell 1 _ rfl;have c2:w.cell? ⟨fb,2,none⟩=some (.int .i64 0):=h.cell 2 _ rfl;clear h;go_enter Tryz.func42,Tryz.ntmps42;go_wp2_with fail;go_quiet (fail);go_wp2_with fail;go_ret;exact ⟨⟨nq,rfl⟩,rfl⟩
theorem heldNq_any {w:World} {fb:Nat} {most:Int} {v:Value} {B n:Nat} {z:Nat->Int} {d:Nat} {gone fa fe:Int} (h:Fr w fb most v B n z d gone fa fe) :
 Calls Tryz.prog 51 #[.pointer (some ⟨fb,0,none⟩)] w fun e w'=>(∃ q,w'=w.drewN q)/\e = .returned (.int .i64 ((n-d:Nat):Int)):=by
 have HH:∃ a m c,m=n-d/\Hid (Calls Tryz.prog 42 #[.pointer (some ⟨fb,0,none⟩)] w fun e w'=>(∃ q,w'=w.drewN q)/\e = .returned (.slice a m c)):=by
  have hd:=h.dn;rcases h.own.2 with ⟨rfl,h0⟩|⟨g,cap,cur,rfl,_,hg,hnc,_⟩
  · have hd0:d=0:=by omega
    subst hd0;exact ⟨none,0,0,by omega,heldq_nil w h.at_⟩
  · exact ⟨_,_,_,rfl,heldq_some d w h.at_ hd hnc⟩
 obtain ⟨a,m,c,hm,HH⟩:=HH;rw [<-hm];clear hm h;go_enter Tryz.func51,Tryz.ntmps51;go_wp2_with fail;go_must (go_at_call 42);refine HH.out.mono ?_;rintro e w1 ⟨⟨q,rfl⟩,rfl⟩;go_wp2_with fail;go_ret;exact ⟨⟨q,rfl⟩,rfl⟩
theorem Fr.drewN {w:World} {fb:Nat} {most:Int} {v:Value} {B n:Nat} {z:Nat->Int} {d:Nat} {gone fa fe:Int} (h:Fr w fb most v B n z d gone fa fe) (q:Nat):Fr (w.drewN q) fb most v B n z d gone fa fe:=⟨h.at_,h.own,h.dn⟩
theorem drop_any {w:World} {fb:Nat} {most:Int} {v:Value} {B n:Nat} {z:Nat->Int} {d:Nat} {gone fa fe:Int} (h:Fr w fb most v B n z d gone fa fe) (hz:∀ i,0<=z i/\z i<=255) (m:Nat) (hm:d+m<=n) (hn:n<=400000) (hB:B<=w.heap.size) (hg0:0<=gone) (hg1:gone<=1000000000) :
 Calls Tryz.prog 44 #[.pointer (some ⟨fb,0,none⟩),.int .i64 (m:Int)] w fun e w'=>e = .returned (.tuple #[])/\∃ v' n' z' d' gone',Fr w' fb most v' B n' z' d' gone' fa fe/\gone'+(d':Int)=gone+(d+m:Nat)/\n'-d'=n-(d+m)/\n'<=n/\(∀ i,z' (d'+i)=z (d+m+i))/\(∀ i,0<=z' i/\z' i<=255)/\Kq fb none w w'/\(v'=v\/v'.ownBlock=none\/∃ k,v'.ownBlock=some k/\w.heap.size<=k):=by
 obtain ⟨D,hD⟩:∃ D,d+m=D:=⟨_,rfl⟩;rw [hD] at hm;have hwd:IntKind.i64.wrap ((d:Int)+(m:Int))=(D:Int):=by rw [IntKind.wrap_i64];omega
 have c2:w.cell? ⟨fb,2,none⟩=some (.int .i64 d):=h.at_.cell 2 _ rfl;have z2:w.frozen? ⟨fb,2,none⟩=false:=Fr.frozen h.at_ 2;have hF1:Fr (w.setCell ⟨fb,2,none⟩ (.int .i64 D)) fb most v B n z D gone fa fe:=⟨set_done D h.at_,ownsRow_setCell_other h.own h.ne _,hm⟩;have HLT:Hid (fb<w.heap.size):=FrAt.lt h.at_;have HZ:Hid (∀ i,0<=z i/\z i<=255):=hz;have HN:Hid (n<=400000/\B<=w.heap.size/\0<=gone/\gone<=1000000000/\D<=n):=⟨hn,hB,hg0,hg1,hm⟩;have HD:Hid (d+m=D):=hD;obtain ⟨w1,hw1⟩:∃ w1,w1=w.setCell ⟨fb,2,none⟩ (.int .i64 D):=⟨_,rfl⟩;rw [<-hw1] at hF1;have HF1:Hid (Fr w1 fb most v B n z D gone fa fe):=hF1;have HW1:Hid (w1=w.setCell ⟨fb,2,none⟩ (.int .i64 D)):=hw1;have K1:Hid (∀ q,Kq fb none w (w1.drewN q)):=by intro q;rw [HW1.out];exact ⟨rfl,rfl,rfl,by simp [World.setCell,World.drewN],fun k hk h1 _=>Below.heap_setCell _ _ _ _ h1⟩
 have S1:Hid (∀ q,(w1.drewN q).heap.size=w.heap.size):=by intro q;rw [HW1.out];simp [World.setCell,World.drewN]
 have c2':w1.cell? ⟨fb,2,none⟩=some (.int .i64 D):=hF1.at_.cell 2 _ rfl;obtain ⟨H,hH⟩:∃ H,n-D=H:=⟨_,rfl⟩;have HC:Hid (∀ q,Calls Tryz.prog 51 #[.pointer (some ⟨fb,0,none⟩)] (w1.drewN q) fun e w'=>e = .returned (.int .i64 (H:Int))/\∃ p,w'=(w1.drewN q).drewN p):=by intro q;refine (heldNq_any (HF1.out.drewN q)).mono ?_;rintro e w' ⟨h1,h2⟩;rw [hH] at h2;exact ⟨h2,h1⟩
 have HH:Hid (n-D=H):=hH;clear h hF1 hz hm hn hB hg0 hg1 hD hH;rw [HD.out];go_enter Tryz.func44,Tryz.ntmps44;go_upto_region 1 with fail;rw [<-hw1];clear hw1 c2 z2;go_quiet ((go_at_call 51;exact Calls.quiet_of (HC.out _)));by_cases hgt:H<D
 · have p1:(H:Int)<(D:Int):=by omega
   go_wp2_with fail;go_must (go_at_call 52);refine (renew_any (HF1.out.drewN nq) HZ.out HN.out.1 (by have:=HN.out;have:=S1.out nq;omega) HN.out.2.2.1 HN.out.2.2.2.1).mono ?_;rintro e w2 ⟨rfl,v',hf,hk,hv⟩;have R:Hid (Fr w2 fb most v' B (n-D) (fun i=>z (D+i)) 0 (gone+D) fa fe/\Kq fb none (w1.drewN nq) w2/\(v'.ownBlock=none\/∃ k,v'.ownBlock=some k/\(w1.drewN nq).heap.size<=k)):=⟨hf,hk,hv⟩;clear hf hk hv;go_wp2_with fail;go_end0;obtain ⟨hf,hk,hv⟩:=R.out;refine ⟨rfl,v',_,_,0,_,hf,by simp,by omega,by omega,fun i=>by simp,fun i=>HZ.out _,?_,?_⟩
   · have k1:=K1.out nq
     exact ⟨hk.os.trans k1.os,hk.tape.trans k1.tape,hk.output.trans k1.output,Nat.le_trans k1.size hk.size,fun k h0 h1 h2=>(hk.block k (by have:=k1.size;omega) h1 h2).trans (k1.block k h0 h1 h2)⟩
   · rcases hv with h1 | ⟨k,h1,h2⟩
     · exact .inr (.inl h1)
     · exact .inr (.inr ⟨k,h1,by have:=S1.out nq;omega⟩)
 · have p1:¬ (H:Int)<(D:Int):=by omega
   go_wp2_with fail;go_end0;exact ⟨rfl,v,n,z,D,gone,HF1.out.drewN nq,rfl,rfl,Nat.le_refl _,fun i=>rfl,HZ.out,K1.out nq,.inl rfl⟩
end Go.Proofs.YtpldoeeahhaimaaGreatDoor
