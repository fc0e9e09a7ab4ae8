import Derived.Test.YtceigllifjgalaaGreatDoorTda
import Derived.Test.YtceigllifjgalaaGreatDoorDcd
namespace Go.Proofs.YtceigllifjgalaaGreatDoor.Dr
open Go Go.RowKit
open Bk (bk0 zdS)
set_option linter.unusedSimpArgs false
set_option linter.unusedVariables false
set_option maxRecDepth 100000
set_option maxHeartbeats 4000000
theorem wpList_nil {w:World} {ops:Array Oper} {rest:List Oper} {o:Oper} {a:Act} {Q:Exit->Act->World->Prop} (hgd:o.guard=none) (s x:Operand) (ho:o.op = .call { callee:=.builtin .append,args:=#[s,x],argTypes:=#[22,22] })
 (hs:a.eval s = .slice none 0 0) (sa:Option Addr) (n c:Nat) (L:List Value) (hx:a.eval x = .slice sa n c) (hc:CL w sa n c L) (h1:∀ u ∈ L,u.oneCell'=true) (hn:n<=1000000)
 (k:∀ a' k' w',w'.ownsRow w.heap.size 5 1 (.slice a' n k') n L->Below w.heap.size w w'->wpList Tryz.prog ops Q rest (a.put o.dst (.slice a' n k')) w'):wpList Tryz.prog ops Q (o::rest) a w:=by
 refine wpList_plain hgd fun K hK'=>?_;obtain ⟨a',k',w',hr,h2,h3⟩:=zee (w:=w) o.type sa n c L hc h1 hn;unfold Oper.wp;simp [execOp,ho,resolve,invoke,builtin,hs,hx,hr,Result.andThen];exact hK' _ _ (k a' k' w' h2 h3)
theorem cdec_walk {w:World} {ao:Option Addr} {n cap:Nat} {top:Int} {z z':Nat->Int} (hn:¬ 150000<n) (Po:Ending->World->Prop)
 (St:Nat->Nat->World->Prop) {K3:Nat->Nat->World->Prop} (L1:Nat->Nat->World->Prop) {K7:Nat->Option Addr->Nat->World->Prop} {K9 K10:World->Prop} (h1:Calls Tryz.prog 19 #[.pointer (some ⟨w.heap.size,0,none⟩),.slice ao n cap] ((w.alloc (.cells Rm.nil28 48)).alloc (.cells bk0 55)) fun r w'=>∃ g,r = .returned (.slice (some ⟨g,0,none⟩) n (n+600))/\St g 0 w')
 (h3:∀ g i W,i<3->St g i W->Calls Tryz.prog 20 #[.pointer (some ⟨w.heap.size+1,0,none⟩),.slice (some ⟨g,0,none⟩) n (n+600),.slice ao n cap,.int .i64 top,.int .i64 (300*(i:Int))] W fun r w'=>r = .returned (.bool true)/\K3 g i w') (h6:∀ g i W,K3 g i W->Calls Tryz.prog 18 #[.pointer (some ⟨w.heap.size,0,none⟩)] W fun r w'=>r = .returned (.bool true)/\St g (i+1) w')
 (h7:∀ g W,St g 3 W->L1 g (n / 2) W) (h8:∀ g i W,n / 2<=i->i<n->L1 g i W->W.cell? ⟨g,i,none⟩=some (.int .u8 (z i))/\W.frozen? ⟨g,i,none⟩=false/\L1 g (i+1) (W.setCell ⟨g,i,none⟩ (.int .u8 (bits .xor .u8 (z i) 1))))
 (h9:∀ g W,L1 g n W->CL W (some ⟨g,0,none⟩) n (n+600) (cellsOf z' n)/\∀ a c w',w'.ownsRow W.heap.size 5 1 (.slice a n c) n (cellsOf z' n)->Below W.heap.size W w'->K7 g a c w')
 (h13:∀ g a c W,K7 g a c W->Calls Tryz.prog 20 #[.pointer (some ⟨w.heap.size+1,0,none⟩),.slice (some ⟨g,0,none⟩) n (n+600),.slice a n c,.int .i64 top,.int .i64 2000] W fun r w'=>r = .returned (.bool true)/\K9 w') (h14:∀ W,K9 W->Calls Tryz.prog 16 #[.pointer (some ⟨w.heap.size+1,0,none⟩)] W fun r w'=>r = .returned (.bool true)/\K10 w')
 (h15:∀ W,K10 W->Calls Tryz.prog 18 #[.pointer (some ⟨w.heap.size,0,none⟩)] W fun r w'=>r = .returned (.bool true)/\Po (.returned (.bool true)) w') : Calls Tryz.prog 4 #[.slice ao n cap,.int .i64 top] w Po:=by
 have H1:=hidi h1;have H3:=hidi h3;have H6:=hidi h6;have H7:=hidi h7;have H8:=hidi h8;have H9:=hidi h9;have H13:=hidi h13;have H14:=hidi h14;have H15:=hidi h15;clear h1 h3 h6 h7 h8 h9 h13 h14 h15;have e0:¬ (150000:Int)<(n:Int):=by omega
 have HLL:=Hi hn;clear hn;unfold Rm.nil28 at H1;go_enter Tryz.func4,Tryz.ntmps4;go_wp2_with fail;refine zdS rfl ?_;go_at_K;go_wp2_with fail;go_must (go_at_call 19);refine (H1.out).mono ?_;rintro r w1 ⟨g,rfl,hk⟩;have J2:=hidi hk;clear hk H1;go_wp2_with fail;go_loopg [8] 3 (fun gk s8 wx=>∃ i:Nat,i+gk=3/\s8 = .int .i64 i/\Hid (St g i wx));case atStart=>exact ⟨0,by omega,rfl,J2.out⟩
 case round =>
  obtain ⟨i,hi,rfl,HH⟩:=hrel;cases gk with
  | zero =>
   obtain rfl:i=3:=by omega
   have hz:¬ ((3:Nat):Int)<3:=by decide
   have J3:=hidi (H7.out _ _ HH.out);clear HH J2;go_wp2_with fail;go_loopg [9] (n-n / 2) (fun gk s9 wx=>∃ i:Nat,i+gk=n/\n / 2<=i/\s9 = .int .i64 i/\Hid (L1 g i wx));case atStart=>exact ⟨n / 2,by omega,Nat.le_refl _,by simp,J3.out⟩
   case round =>
    obtain ⟨i,hi,hi2,rfl,HH⟩:=hrel;clear J3;cases gk with
    | zero =>
     obtain rfl:i=n:=by omega
     have hz:¬ (i:Int)<(i:Int):=by omega
     obtain ⟨cl,kk⟩:=H9.out _ _ HH.out;have CC:=hidi cl;have KK:=hidi kk;clear HH cl kk;go_wp2_with (at_builtin;refine wpList_nil rfl (.tmp 55) (.tmp 56) rfl rfl _ _ _ _ rfl CC.out (fun u hu=>zaT z' i u hu) (by have:=HLL.out;omega) ?_);intro a' k' w2 q1 q2;have J6:=hidi (H13.out _ _ _ _ (KK.out a' k' w2 q1 q2));clear q1 q2 KK CC;go_wp2_with fail;go_must (go_at_call 20);refine (J6.out).mono ?_;rintro r w9 ⟨rfl,hk⟩;have J8:=hidi (H14.out _ hk);clear hk J6;go_wp2_with fail;go_must (go_at_call 16);refine (J8.out).mono ?_;rintro r w10 ⟨rfl,hk⟩;have J9:=hidi (H15.out _ hk);clear hk J8;go_wp2_with fail;go_must (go_at_call 18);refine (J9.out).mono ?_;rintro r w11 ⟨rfl,hk⟩;have Z:=hidi hk;clear hk J9;go_wp2_with fail;all_goals (try go_ret)
     all_goals exact Z.out
    | succ gk =>
     have hz:(i:Int)<(n:Int):=by omega
     have hz0:(0:Int)<=(i:Int):=by omega
     have hwi:IntKind.i64.wrap ((i:Int)+1)=(i:Int)+1:=by rw [IntKind.wrap_i64];have:=HLL.out;omega
     obtain ⟨c1,c2,c3⟩:=H8.out _ _ _ hi2 (by omega) HH.out;have J4:=hidi c3;clear c3 HH;go_wp2_with fail;go_roundg gk;case measure=>omega
     case rel=>exact ⟨i+1,by omega,by omega,by simp,J4.out⟩
  | succ gk =>
   have hz:(i:Int)<3:=by omega
   have hm:IntKind.i64.wrap (300*(i:Int))=300*(i:Int):=by rw [IntKind.wrap_i64];omega
   have hwi:IntKind.i64.wrap ((i:Int)+1)=(i:Int)+1:=by rw [IntKind.wrap_i64];omega
   have J3:=hidi (H3.out _ _ _ (by omega) HH.out);clear HH J2;go_wp2_with fail;go_must (go_at_call 20);refine (J3.out).mono ?_;rintro r w3 ⟨rfl,hk⟩;have J4:=hidi (H6.out _ _ _ hk);clear hk J3;go_wp2_with fail;go_must (go_at_call 18);refine (J4.out).mono ?_;rintro r w4 ⟨rfl,hk⟩;have J5:=hidi hk;clear hk J4;go_wp2_with fail;go_roundg gk;case measure=>omega
   case rel=>exact ⟨i+1,by omega,by simp,J5.out⟩
open Pkt (Gd)
open Bk (Bk ItS bk0 Tab its_of bk_new zf4)
open Rm (RoomOk)
set_option maxHeartbeats 1000000
structure SW (w:World) (n g gb cb ga ca cp N:Nat) (z:Nat->Int) (V:Nat->Prop) (W:World):Prop where
 bk:Bk W (w.heap.size+1) N V
 rm:RoomOk W w.heap.size 1 gb cb ga ca (fun _=>g) (fun _=>n) (fun _=>cp)
 cm:Came W (some ⟨g,0,none⟩) n (n+600) z
 be:Below w.heap.size w W
 vs:∀ k,V k->w.heap.size<=k
 rs:∀ k,Rm.Rb w.heap.size gb ga g k->w.heap.size<=k/\k<W.heap.size/\¬ V k
 ne:g≠w.heap.size/\g≠gb/\g≠ga
 row:∃ cur:Array Value,W.heap[g]?=some (.cells cur 5 (0,0))/\n<=cur.size
theorem came_block {W W':World} {g n c:Nat} {z:Nat->Int} (h:Came W (some ⟨g,0,none⟩) n c z) (hk:W'.heap[g]?=W.heap[g]?):Came W' (some ⟨g,0,none⟩) n c z:=by
 obtain ⟨h1,h2,⟨e,_⟩|⟨ad,e,hc⟩⟩:=h;· cases e
 · cases e;refine ⟨h1,h2,.inr ⟨_,rfl,fun i hi=>?_⟩⟩;rw [<-hc i hi,za9];unfold World.cell?;rw [show (⟨g,0+i,none⟩:Addr).block=g from rfl,hk]
section
variable {w W W':World} {n g gb cb ga ca cp N:Nat} {z:Nat->Int} {V V':Nat->Prop}
theorem SW.step (h:SW w n g gb cb ga ca cp N z V W) {M:Nat} (hb:Bk W' (w.heap.size+1) M V') (hc:Bk.Ch V W W') (hv:∀ k,V' k->V k\/W.heap.size<=k):SW w n g gb cb ga ca cp M z V' W':=by
 have kept:∀ k,Rm.Rb w.heap.size gb ga g k->W'.heap[k]?=W.heap[k]?:=fun k q=>hc.block k (h.rs k q).2.1 (h.rs k q).2.2;have kg:=kept g (.inr (.inr (.inr rfl)));refine ⟨hb,h.rm.keep kept,came_block h.cm kg,⟨hc.os.trans h.be.os,hc.tape.trans h.be.tape,hc.output.trans h.be.output,Nat.le_trans h.be.size hc.size,fun k hk=>(hc.block k (by have:=h.be.size;omega) (fun q=>by have:=h.vs k q;omega)).trans (h.be.block k hk)⟩,fun k q=>?_,fun k q=>⟨(h.rs k q).1,by have:=(h.rs k q).2.1;have:=hc.size;omega,fun r=>?_⟩,h.ne,?_⟩;·
  rcases hv k q with q | q;· exact h.vs k q
  · have:=h.be.size;omega
 ·
  rcases hv k r with r | r;· exact (h.rs k q).2.2 r
  · have:=(h.rs k q).2.1;omega
 · obtain ⟨cur,e,l⟩:=h.row
   exact ⟨cur,kg.trans e,l⟩
theorem SW.below (h:SW w n g gb cb ga ca cp N z V W) (hb:Below W.heap.size W W'):SW w n g gb cb ga ca cp N z V W' := h.step (h.bk.below hb) (Bk.Below.ch hb) (fun k q=>.inl q)
theorem SW.put (h:SW w n g gb cb ga ca cp N z V W) {i:Nat} (hi:i<n) {v:Int} (hv:0<=v/\v<=255):SW w n g gb cb ga ca cp N (fun j=>if j=i then v else z j) V (W.setCell ⟨g,i,none⟩ (.int .u8 v)):=by
 have gn:=h.rs g (.inr (.inr (.inr rfl)));have sz:(W.setCell ⟨g,i,none⟩ (.int .u8 v)).heap.size=W.heap.size:=by simp [World.setCell]
 refine ⟨h.bk.keep (fun k q=>Below.heap_setCell W _ _ k (fun e=>gn.2.2 (by subst e;exact q))),h.rm.put h.ne.1 h.ne.2.1 h.ne.2.2 i hi _,?_,h.be.setCell (by exact gn.1) _,h.vs,fun k q=>by rw [sz];exact h.rs k q,h.ne,?_⟩;·
  obtain ⟨h1,h2,⟨e,_⟩|⟨ad,e,hc⟩⟩:=h.cm;· cases e
  ·
   cases e;refine ⟨h1,fun j=>?_,.inr ⟨_,rfl,fun j hj=>?_⟩⟩
   · dsimp only;split
     · exact hv
     · exact h2 j
   ·
    have e1:=hc j hj;rw [za9,Nat.zero_add] at e1 ⊢;dsimp only;by_cases q:j=i
    · subst q
      rw [if_pos rfl];exact World.cell?_setCell_same _ _ _ e1
    ·
     rw [if_neg q,<-e1];have hne:(⟨g,i,none⟩:Addr)≠⟨g,j,none⟩:=by intro e;injection e with _ e2 _;omega
     exact World.cell?_setCell_other _ _ _ _ hne
 · obtain ⟨cur,e,l⟩:=h.row
   exact ⟨_,zag (i:=i) e _,by simpa using l⟩
end
def tz (z:Nat->Int) (m i:Nat):Nat->Int:=fun j=>if m<=j/\j<i then bits .xor .u8 (z j) 1 else z j
theorem xor_bd:∀ k:Nat,k<256->0<=bits .xor .u8 (k:Int) 1/\bits .xor .u8 (k:Int) 1<=255:=by decide +kernel
theorem tz_first (z:Nat->Int) (m:Nat):tz z m m=z:=by funext j;unfold tz;rw [if_neg (by omega)]
theorem tz_next (z:Nat->Int) {m i:Nat} (hm:m<=i):tz z m (i+1)=fun j=>if j=i then bits .xor .u8 (z i) 1 else tz z m i j:=by
 funext j;unfold tz;by_cases e:j=i
 · subst e
   rw [if_pos ⟨hm,by omega⟩,if_pos rfl]
 ·
  rw [if_neg e];by_cases q:m<=j/\j<i;· rw [if_pos q,if_pos ⟨q.1,by omega⟩]
  · rw [if_neg q,if_neg (by omega)]
theorem tz_at (z:Nat->Int) (m i:Nat):tz z m i i=z i:=by unfold tz;rw [if_neg (by omega)]
theorem tz_bd {z:Nat->Int} (hz:∀ i,0<=z i/\z i<=255) (m i j:Nat):0<=tz z m i j/\tz z m i j<=255:=by
 unfold tz;split;· have:=xor_bd (z j).toNat (by have:=hz j;omega);rw [show (((z j).toNat:Nat):Int)=z j from by have:=hz j;omega] at this;exact this
 · exact hz j
theorem cdec_long {w:World} {ao:Option Addr} {n cap:Nat} {top:Int} (h:150000<n):Calls Tryz.prog 4 #[.slice ao n cap,.int .i64 top] w fun e w'=>e = .returned (.bool true)/\Below w.heap.size w w':=by
 have B0:Hid (Below w.heap.size w w):=Below.refl _ _;have i1':(150000:Int)<n:=by omega
 go_enter Tryz.func4,Tryz.ntmps4;go_wp2_with fail;(try go_ret);exact ⟨rfl,B0.out⟩
theorem zen {w:World} {ao:Option Addr} {n cap:Nat} {z:Nat->Int} (top:Int) (hc:Came w ao n cap z) (hp:Plain ao) (hg:Gd w) (ht:Tab w) :
 Calls Tryz.prog 4 #[.slice ao n cap,.int .i64 top] w fun e w'=>e = .returned (.bool true)/\Below w.heap.size w w':=by
 by_cases hlong:150000<n;· exact cdec_long hlong
 have cb:∀ W,Below w.heap.size w W->Came W ao n cap z:=fun W b=>zaq (B:=0) hc b;have its:∀ W (V:Nat->Prop),Below w.heap.size w W->(∀ k,V k->w.heap.size<=k)->ItS V W:=fun W V b hv=>its_of (ht.keep (b.block 2 ht.lt)) (fun q=>by have:=hv 2 q;have:=ht.lt;omega);have pg:∀ g:Nat,Plain (some (⟨g,0,none⟩:Addr)):=fun g ad e=>by cases e;exact ⟨g,0,rfl⟩
 have hz:=hc.2.1;refine cdec_walk (z:=z) (z':=tz z (n / 2) n) hlong _ (fun g i W=>∃ gb cb ga ca cp V,SW w n g gb cb ga ca cp (6*i) z V W) (K3:=fun g i W=>∃ gb cb ga ca cp V,SW w n g gb cb ga ca cp (6*(i+1)) z V W) (fun g i W=>∃ gb cb ga ca cp V,SW w n g gb cb ga ca cp 18 (tz z (n / 2) i) V W) (K7:=fun g a c W=>(∃ gb cb ga ca cp V,SW w n g gb cb ga ca cp 18 (tz z (n / 2) n) V W)/\Came W a n c (tz z (n / 2) n)/\Plain a) (K9:=fun W=>∃ g gb cb ga ca cp V,SW w n g gb cb ga ca cp 24 (tz z (n / 2) n) V W) (K10:=fun W=>∃ g gb cb ga ca cp V,SW w n g gb cb ga ca cp 24 (tz z (n / 2) n) V W) ?_ ?_ ?_ ?_ ?_ ?_ ?_ ?_ ?_
 · have hB:Below w.heap.size w ((w.alloc (.cells Rm.nil28 48)).alloc (.cells bk0 55)):=((Below.refl _ _).alloc (Nat.le_refl _) _).alloc (by simp) _
   refine (Rm.bytes_at ao n cap z (by omega) (cb _ hB) (zed w _ _) (zec w _ _)).mono ?_;rintro e w' ⟨g,cp,gb,cb',ga,ca,rfl,q1,q2,q3,q4,⟨cur,q5,q6⟩,q7,q8,q9⟩;refine ⟨g,rfl,gb,cb',ga,ca,cp,fun k=>k=w.heap.size+1,bk_new q4,q1,q2,hB.trans q3,fun k q=>by omega,fun k q=>⟨?_,(q9 k q).1,(q9 k q).2⟩,q8,cur,q5,by omega⟩;rcases q with q | q | q | q <;> omega
 · rintro g i W hi ⟨gb,cb',ga,ca,cp,V,h⟩
   refine (zcK top _ h.bk (by omega) h.cm (cb W h.be) (pg g) hp (by omega) (hg.below h.be) (its W V h.be h.vs)).mono ?_;rintro e w' ⟨rfl,V',q1,q2,q3⟩;exact ⟨rfl,gb,cb',ga,ca,cp,V',h.step (by rw [show 6*(i+1)=6*i+6 by omega];exact q1) q2 q3⟩
 · rintro g i W ⟨gb,cb',ga,ca,cp,V,h⟩
   refine (Rm.zcv _ _ _ _ _ _ _ _ _ W h.rm).mono ?_;rintro e w' ⟨rfl,rfl⟩;exact ⟨rfl,gb,cb',ga,ca,cp,V,h⟩
 · rintro g W ⟨gb,cb',ga,ca,cp,V,h⟩
   exact ⟨gb,cb',ga,ca,cp,V,by rw [tz_first];exact h⟩
 · rintro g i W h2 hi ⟨gb,cb',ga,ca,cp,V,h⟩
   have hx:=xor_bd (z i).toNat (by have:=hz i;omega);rw [show (((z i).toNat:Nat):Int)=z i from by have:=hz i;omega] at hx;refine ⟨?_,?_,gb,cb',ga,ca,cp,V,by rw [tz_next z h2];exact h.put hi hx⟩
   · rcases h.cm.2.2 with ⟨e,_⟩|⟨ad,e,c⟩
     · cases e
     · cases e
       have:=c i hi;rw [za9,Nat.zero_add,tz_at] at this;exact this
   · obtain ⟨cur,e,l⟩:=h.row
     exact dfroz e i
 · rintro g W ⟨gb,cb',ga,ca,cp,V,h⟩
   refine ⟨zeL h.cm,fun a c w' q1 q2=>⟨⟨gb,cb',ga,ca,cp,V,h.below q2⟩,came_own q1 (fun i=>tz_bd hz _ _ i),own_plain q1⟩⟩
 · rintro g a c W ⟨⟨gb,cb',ga,ca,cp,V,h⟩,q1,q2⟩
   refine (zcK top _ h.bk (by omega) h.cm q1 (pg g) q2 (by omega) (hg.below h.be) (its W V h.be h.vs)).mono ?_;rintro e w' ⟨rfl,V',r1,r2,r3⟩;exact ⟨rfl,g,gb,cb',ga,ca,cp,V',h.step r1 r2 r3⟩
 · rintro W ⟨g,gb,cb',ga,ca,cp,V,h⟩
   refine (zf4 h.bk (by omega)).mono ?_;rintro e w' ⟨rfl,q⟩;exact ⟨rfl,g,gb,cb',ga,ca,cp,V,h.below q⟩
 · rintro W ⟨g,gb,cb',ga,ca,cp,V,h⟩
   refine (Rm.zcv _ _ _ _ _ _ _ _ _ W h.rm).mono ?_;rintro e w' ⟨rfl,rfl⟩;exact ⟨rfl,rfl,h.be⟩
end Go.Proofs.YtceigllifjgalaaGreatDoor.Dr
