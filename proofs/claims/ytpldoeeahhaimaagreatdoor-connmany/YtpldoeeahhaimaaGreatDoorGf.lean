import Derived.Test.YtpldoeeahhaimaaGreatDoorFdo
import Derived.Laws.CopyOwn
import Derived.Lib.AppendZerosOnto
namespace Go.Proofs.YtpldoeeahhaimaaGreatDoor.Dr
open Go Go.RowKit
set_option linter.all false
theorem hidi {p:Prop} (h:p):Hid p:=h
def CL (w:World) (a:Option Addr) (l c:Nat) (L:List Value):Prop := l<=c/\L.length=l/\(l=0\/∃ g off,a=some ⟨g,off,none⟩/\∀ j,j<l->w.cell? ⟨g,off+j,none⟩=L[j]?)
theorem binfo5:(Tryz.prog.info? 5).map (fun i=>(i.zero,i.size,i.bytes))=some (some (.int .u8 0),1,1):=by kernel_rfl
theorem ownv_came {w':World} {a:Option Addr} {n c base:Nat} {xs:List Value} {Z:Nat->Int} (ho:w'.ownsRow base 5 1 (.slice a n c) n xs) (hx:xs=cellsOf Z n) (hz:∀ i,0<=Z i/\Z i<=255):Came w' a n c Z:=by
 subst hx;rcases ho.2 with ⟨q,h0⟩|⟨g,cap,cur,q,_⟩;· injection q with q1 q2 q3;subst q1 q2 q3;exact ⟨Nat.le_refl _,hz,.inl ⟨rfl,rfl,rfl⟩⟩
 · injection q with q1 q2 q3;subst q1 q3;exact made_came (w:=w') ho hz
theorem cell_alike {w w':World} {g k:Nat} (h:w'.heap[g]?=w.heap[g]?):w'.cell? ⟨g,k,none⟩=w.cell? ⟨g,k,none⟩:=by unfold World.cell?;simp only [h]
theorem own_zero {w:World} {B e s n:Nat} {v:Value} {xs:List Value} (h:w.ownsRow B e s v n xs):w.ownsRow 0 e s v n xs:=by
 refine ⟨h.1,?_⟩;rcases h.2 with q | ⟨g,cap,cur,e1,_,e3⟩;· exact .inl q
 · exact .inr ⟨g,cap,cur,e1,Nat.zero_le _,e3⟩
theorem came_heap {w w':World} {g n c:Nat} {z:Nat->Int} (h:Came w (some ⟨g,0,none⟩) n c z) (hk:w'.heap[g]?=w.heap[g]?):Came w' (some ⟨g,0,none⟩) n c z:=by
 refine ⟨h.1,h.2.1,?_⟩;rcases h.2.2 with ⟨q,_⟩|⟨ad,q,hc⟩;· cases q
 · obtain rfl:=Option.some.inj q;refine .inr ⟨_,rfl,fun i hi=>?_⟩;have:=hc i hi;rw [plain_add] at this ⊢;exact (cell_alike hk).trans this
theorem came_cell {w:World} {g n c:Nat} {z:Nat->Int} (h:Came w (some ⟨g,0,none⟩) n c z) {i:Nat} (hi:i<n):w.cell? ⟨g,i,none⟩=some (.int .u8 (z i)):=by
 rcases h.2.2 with ⟨q,_⟩|⟨ad,q,hc⟩;· cases q
 · obtain rfl:=Option.some.inj q;have:=hc i hi;rw [plain_add,Nat.zero_add] at this;exact this
theorem came_of {w:World} {g n c:Nat} {z:Nat->Int} (hn:n<=c) (hz:∀ i,0<=z i/\z i<=255) (h:∀ i,i<n->w.cell? ⟨g,i,none⟩=some (.int .u8 (z i))):Came w (some ⟨g,0,none⟩) n c z := ⟨hn,hz,.inr ⟨_,rfl,fun i hi=>by rw [plain_add,Nat.zero_add];exact h i hi⟩⟩
theorem own_keep {w w':World} {B e s n:Nat} {v:Value} {xs:List Value} (h:w.ownsRow B e s v n xs) (hk:∀ j,v.ownBlock=some j->w'.heap[j]?=w.heap[j]?):w'.ownsRow B e s v n xs:=by
 refine ⟨h.1,?_⟩;rcases h.2 with q | ⟨g,cap,cur,e1,e2,e3,e4⟩;· exact .inl q
 · exact .inr ⟨g,cap,cur,e1,e2,(hk g (by rw [e1];rfl)).trans e3,e4⟩
theorem chkF_rm (s:ByteArray) (b k:Nat):Rm.chkF s b k=chkF s b k:=by induction b generalizing k with | zero=>rfl | succ n ih=>simp only [Rm.chkF,chkF,ih]
theorem chk_rm (s:ByteArray):Rm.chk s=chk s:=by simp only [Rm.chk,chk,chkF_rm]
set_option maxRecDepth 100000
set_option maxHeartbeats 1000000
def Rr (w:World) (mb:Nat) (v:Value) (at0 q p:Int):Prop:=w.heap[mb]?=some (.cells #[v,.int .i64 at0,.int .i64 q,.int .i64 p] 153 (0,0))
theorem Rr.facts {w:World} {mb:Nat} {v:Value} {at0 q p:Int} (h:Rr w mb v at0 q p):w.cell? ⟨mb,0,none⟩=some v/\w.cell? ⟨mb,1,none⟩=some (.int .i64 at0)/\w.cell? ⟨mb,2,none⟩=some (.int .i64 q)/\w.cell? ⟨mb,3,none⟩=some (.int .i64 p)/\∀ k,w.frozen? ⟨mb,k,none⟩=false:=by unfold Rr at h;refine ⟨?_,?_,?_,?_,fun k=>?_⟩ <;> simp [World.cell?,World.frozen?,h]
theorem Rr.set1 {w:World} {mb:Nat} {v:Value} {at0 q p:Int} (h:Rr w mb v at0 q p) (x:Int):Rr (w.setCell ⟨mb,1,none⟩ (.int .i64 x)) mb v x q p:=by have:=heap_set (i:=1) h (.int .i64 x);exact this
theorem Rr.set2 {w:World} {mb:Nat} {v:Value} {at0 q p:Int} (h:Rr w mb v at0 q p) (x:Int):Rr (w.setCell ⟨mb,2,none⟩ (.int .i64 x)) mb v at0 x p:=by have:=heap_set (i:=2) h (.int .i64 x);exact this
theorem Rr.set3 {w:World} {mb:Nat} {v:Value} {at0 q p:Int} (h:Rr w mb v at0 q p) (x:Int):Rr (w.setCell ⟨mb,3,none⟩ (.int .i64 x)) mb v at0 q x:=by have:=heap_set (i:=3) h (.int .i64 x);exact this
theorem Rr.drew {w:World} {mb:Nat} {v:Value} {at0 q p:Int} (h:Rr w mb v at0 q p):Rr w.drew mb v at0 q p:=h
theorem rr_gb1 (w:World) (mb:Nat) (i:Nat) (v:Value):w.grownBy (w.setCell ⟨mb,i,none⟩ v) (some mb):=⟨rfl,rfl,rfl,by simp [World.setCell],fun k hk hn=>Below.heap_setCell _ _ _ _ (fun e=>hn (by rw [e]))⟩
theorem rfail_any {w:World} {mb:Nat} {v:Value} {at0 q p:Int} (h:Rr w mb v at0 q p) (x y:Int):Calls Tryz.prog 115 #[.pointer (some ⟨mb,0,none⟩),.int .i64 x,.int .i64 y] w fun e w'=>e = .returned (.tuple #[])/\w'=(w.setCell ⟨mb,2,none⟩ (.int .i64 y)).setCell ⟨mb,3,none⟩ (.int .i64 x):=by
 obtain ⟨c0,c1,c2,c3,f⟩:=h.facts;have f2:=f 2;obtain ⟨d0,d1,d2,d3,g⟩:=(h.set2 y).facts;have g3:=g 3;clear h f g;go_enter Tryz.func115,Tryz.ntmps115;go_wp2_with fail;all_goals (try go_end0)
 all_goals exact ⟨rfl,rfl⟩
theorem rtake_dead {w:World} {mb:Nat} {v:Value} {at0 q p:Int} (h:Rr w mb v at0 q p) (hq:q≠0) (n:Int):Calls Tryz.prog 113 #[.pointer (some ⟨mb,0,none⟩),.int .i64 n] w fun e w'=>e = .returned (.tuple #[.slice none 0 0,.bool false])/\w'=w:=by
 obtain ⟨c0,c1,c2,c3,f⟩:=h.facts;have e1:(q != 0)=true:=by simpa using hq
 clear h hq f;go_enter Tryz.func113,Tryz.ntmps113;go_wp2_with fail;all_goals (try go_ret2)
 all_goals exact ⟨rfl,rfl⟩
theorem rtake_short {w:World} {mb:Nat} {a:Option Addr} {l c:Nat} {at0:Nat} {p:Int} (h:Rr w mb (.slice a l c) at0 0 p) (hl:l<=300000) (ha:at0<=l) {n:Nat} (hn:l<at0+n):Calls Tryz.prog 113 #[.pointer (some ⟨mb,0,none⟩),.int .i64 n] w fun e w'=>e = .returned (.tuple #[.slice none 0 0,.bool false])/\w'=(w.drew.setCell ⟨mb,2,none⟩ (.int .i64 10)).setCell ⟨mb,3,none⟩ (.int .i64 l):=by
 obtain ⟨c0,c1,c2,c3,f⟩:=h.facts;have F0:=hidi (rfail_any h.drew (l:Int) 10);have e2:IntKind.i64.wrap ((l:Int)-(at0:Int))=(l:Int)-at0:=by rw [IntKind.wrap_i64];omega
 have e3:wrap64 ((l:Int)-(at0:Int))=(l:Int)-at0:=by unfold wrap64;omega
 have e4:(l:Int)-(at0:Int)<(n:Int):=by omega
 clear h hn f hl ha;go_enter Tryz.func113,Tryz.ntmps113;go_wp2_with fail;go_region;all_goals go_wp2_with fail
 all_goals go_must (go_at_call 115)
 all_goals refine (F0.out).mono ?_
 all_goals rintro e w' ⟨rfl,rfl⟩
 all_goals go_wp2_with fail
 all_goals (try go_ret2)
 all_goals exact ⟨rfl,rfl⟩
end Go.Proofs.YtpldoeeahhaimaaGreatDoor.Dr
namespace Go.Proofs.YtpldoeeahhaimaaGreatDoor
open Go Go.RowKit
open Pkt (Pk Cn Sl In By Is Ss As pkCells Gd KindsAt form isK isKind_any Small ck TT sumN Tx wpList_load_wanted)
set_option linter.all false
set_option maxRecDepth 100000
set_option maxHeartbeats 4000000
theorem results_row_tmp {P:Program} {fn:Func} {p u:Tmp} {ty:TypeId} (h:fn.results = #[.cell p ty,.tmp u]) (tmps:Array Value) (w:World) (g:Nat) (t:TypeId) (cs:Array Value) (fr:Nat×Nat) (d:TypeDesc)
 (hp:tmps.getD p undef = .pointer (some ⟨g,0,none⟩)) (hg:w.heap[g]?=some (.cells cs t fr)) (hu:P.underlying ty=some d) (hd:(match d with | .struct _ | .array _ _=>true | _=>false)=true) (hi:(P.info? ty).map (·.size)=some cs.size) :
 (results fn tmps).run P w = .ok (.tuple #[.agg cs,tmps.getD u undef]) w:=by
 have hp':tmps[p]?.getD undef = .pointer (some ⟨g,0,none⟩):=by simpa using hp
 simp [results,h,hp',asAddr,run_loadVar_row w g t ty cs fr d hg hu hd hi]
theorem wpList_build_to {ops:Array Oper} {rest:List Oper} {o:Oper} {a:Act} {w:World} {Q:Exit->Act->World->Prop} (hg:o.guard=none) (t:TypeId) (parts:Array (Nat×Operand)) (ho:o.op = .build t parts) (cells:Array Value) (hf:Tryz.prog.built t (parts.map fun (i,x)=>(i,a.eval x)).toList=some cells) (h:wpList Tryz.prog ops Q rest (a.put o.dst (.agg cells)) w):wpList Tryz.prog ops Q (o::rest) a w := wpList_build hg t parts ho (by rw [hf];rfl) (by rw [hf];exact h)
theorem pk_one (p:Pk):(pkCells p).all (·.oneCell')=true:=by simp [pkCells,Value.oneCell']
theorem pk_size (p:Pk):(pkCells p).size=25:=rfl
theorem pk_info:(Tryz.prog.info? 39).map (·.size)=some 25:=by kernel_rfl
def noCn:Cn:=⟨fun _=>0,fun _=>0,fun _=>0,fun _=>⟨#[]⟩,fun _=>0,fun _=>0,fun _=>⟨#[]⟩⟩
theorem in_blank (w:World) (k:Int):In w (blank k) noCn:=⟨⟨Nat.le_refl _,fun _=>by simp [noCn],.inl rfl⟩,⟨Nat.le_refl _,fun _=>by simp [noCn],.inl rfl⟩,⟨Nat.le_refl _,fun _=>by simp [noCn],.inl rfl⟩,⟨Nat.le_refl _,.inl rfl⟩,⟨Nat.le_refl _,.inl rfl⟩,⟨Nat.le_refl _,.inl rfl⟩⟩
def packP (z:Nat->Int) (n h:Nat):Except (Int×Int) (Pk×Cn) := match intoP z n ⟨h,0,0⟩ (z 0 / 16) noCn (z 0 % 16) with | .error x=>.error x | .ok y=>if ck TT y.2.1 y.2.2=0 then .ok (y.2.1,y.2.2) else .error (0,(ck TT y.2.1 y.2.2:Int))
def PackIs (w w':World) (e:Ending):Except (Int×Int) (Pk×Cn)->Prop | .error x=>(∃ gg,e = .returned (.tuple #[.agg (pkCells (blank 0)),.iface 91 (.pointer (some ⟨gg,0,none⟩))])/\w'.heap[gg]?=some (.cells #[.int .i64 x.1,.int .i64 x.2] 81 (0,0)))/\Below w.heap.size w w' | .ok y=>(∃ q:Pk,e = .returned (.tuple #[.agg (pkCells q),.nilIface])/\In w' q y.2/\Alike q y.1/\NxAll w.heap.size q)/\Below w.heap.size w w'
theorem rByte_first {z:Nat->Int} {n k:Nat} (h:k<n):rByte z n ⟨k,0,0⟩=(z k,⟨k+1,0,0⟩):=by unfold rByte;rw [if_neg (by simp),if_neg (by show ¬ n<k+1;omega)];rfl
theorem fr2_below {w W4 w5:World} {rb pb:Nat} (hb:Below w.heap.size w W4) (hf:Fr2 W4 w5 rb pb) (h1:w.heap.size<=rb) (h2:w.heap.size<=pb):Below w.heap.size w w5 := ⟨hf.os.trans hb.os,hf.tape.trans hb.tape,hf.output.trans hb.output,Nat.le_trans hb.size hf.size,fun k hk=>(hf.block k (Nat.lt_of_lt_of_le hk hb.size) (by omega) (by omega)).trans (hb.block k hk)⟩
theorem packet_any (gb off n cpb h:Nat) (z:Nat->Int) (w:World) (hc:Came w (some ⟨gb,off,none⟩) n cpb z) (hn:n<=700000) (h1:1<=h) (hh:h<=n) (hk:1<=z 0 / 16/\z 0 / 16<=14) (hg:Gd w) :
 Calls Tryz.prog 50 #[.slice (some ⟨gb,off,none⟩) n cpb,.int .i64 h] w fun e w'=>PackIs w w' e (packP z n h):=by
 obtain ⟨R,hR⟩:∃ R,R=packP z n h:=⟨_,rfl⟩;rw [<-hR];have HR:Hid (R=packP z n h):=hR;have HC:Hid (Came w (some ⟨gb,off,none⟩) n cpb z):=hc;have HG:Hid (Gd w):=hg;have HN:Hid (n<=700000/\1<=h/\h<=n):=⟨hn,h1,hh⟩;have HK:Hid (1<=z 0 / 16/\z 0 / 16<=14):=hk;have c00:Hid (w.cell? ⟨gb,off,none⟩=some (.int .u8 (z 0))):=by
  rcases hc.2.2 with ⟨e,_⟩|⟨ad,e,q⟩;· cases e
  · cases e;have q0:=q 0 (by omega);rw [plain_add,Nat.add_zero] at q0;exact q0
 have hz:=hc.2.1 0;have HZ:Hid (0<=z 0/\z 0<=255):=hz;clear hc hg hk hR hz hn;obtain ⟨W1,hW1⟩:∃ W,W=w.alloc (.cells (pkCells (blank 0)) 39):=⟨_,rfl⟩;have B1:Hid (Below w.heap.size w W1):=by show Below _ _ _;rw [hW1];exact (Below.refl _ _).alloc (Nat.le_refl _) _
 have RZ:Hid (W1.heap[w.heap.size]?=some (.cells (pkCells (blank 0)) 39 (0,0))):=by show _=_;rw [hW1];exact heap_alloc_new w _
 have S1:Hid (W1.heap.size=w.heap.size+1):=by show _=_;rw [hW1];simp
 go_enter Tryz.func50,Tryz.ntmps50;go_upto_region 1 with fail;have eW:w.alloc (.cells #[.int .i64 0,.int .i64 0,.bool false,.int .i64 0,.string ⟨#[]⟩,.bool false,.string ⟨#[]⟩,.slice none 0 0,.int .i64 0,.bool false,.bool false,.string ⟨#[]⟩,.bool false,.slice none 0 0,.bool false,.int .i64 0,.bool false,.string ⟨#[]⟩,.slice none 0 0,.int .i64 0,.bool false,.int .i64 0,.slice none 0 0,.slice none 0 0,.slice none 0 0] 39)=W1:=hW1.symm;rw [eW];clear eW hW1;go_wp2_with fail;go_must (go_at_call 64);refine (read_some ⟨gb,off,none⟩ n cpb z W1 (came_below (B:=0) HC.out B1.out) (by have:=HN.out;omega)).mono ?_;rintro e w2 ⟨rb,g,cp,rfl,hRd,hOwn,hgr,hcp,hg1,hrb1,hb2⟩;have R2:Hid (Rdr w2 rb g n cp z ⟨0,0,0⟩):=⟨hRd,⟨hOwn,hcp,HN.out.1,hgr⟩,Nat.zero_le _⟩;have L2:Hid (w.heap.size+1<=g/\w.heap.size+1<=rb):=by have:=S1.out;exact ⟨by omega,by omega⟩
 have B2:Hid (Below w.heap.size w w2):=B1.out.trans (hb2.mono (by have:=S1.out;omega));have Z2:Hid (w2.heap[w.heap.size]?=some (.cells (pkCells (blank 0)) 39 (0,0))):=(hb2.block _ (lt_of_block RZ.out)).trans RZ.out;clear hRd hOwn hgr hcp hg1 hrb1 hb2 RZ B1 S1;obtain ⟨W3,hW3⟩:∃ W,W=w2.alloc (.cells #[.pointer (some ⟨rb,0,none⟩),.int .i64 n] 129):=⟨_,rfl⟩;have bb3:Below w2.heap.size w2 W3:=by rw [hW3];exact (Below.refl _ _).alloc (Nat.le_refl _) _
 have R3:Hid (Rdr W3 rb g n cp z ⟨0,0,0⟩):=R2.out.below bb3;have B3:Hid (Below w.heap.size w W3):=B2.out.trans (bb3.mono B2.out.size);have Z3:Hid (W3.heap[w.heap.size]?=some (.cells (pkCells (blank 0)) 39 (0,0))):=(bb3.block _ (lt_of_block Z2.out)).trans Z2.out;have X3:Hid (W3.heap[w2.heap.size]?=some (.cells #[.pointer (some ⟨rb,0,none⟩),.int .i64 n] 129 (0,0))):=by show _=_;rw [hW3];exact heap_alloc_new w2 _
 have L3:Hid (rb<w2.heap.size/\w.heap.size<w2.heap.size/\W3.heap.size=w2.heap.size+1):=⟨lt_of_block R2.out.rd,lt_of_block Z2.out,by rw [hW3];simp⟩;clear bb3;go_upto_region 2 with fail;rw [<-hW3];clear hW3 R2 B2 Z2;go_wp2_with fail;go_loopg [18] h (fun gg s18 wx=>∃ k:Nat,s18 = .int .i64 k/\k+gg=h/\Hid (Rdr wx rb g n cp z ⟨k,0,0⟩)/\Hid (W3.grownBy wx (some rb)));case atStart=>exact ⟨0,rfl,by omega,R3.out,gb_refl _ _⟩
 case round =>
  obtain ⟨k,rfl,hkg,R4,G4⟩:=hrel;have bx:wr.cell? ⟨w2.heap.size,0,none⟩=some (.pointer (some ⟨rb,0,none⟩)):=G4.out.cell (by simp [World.cell?,X3.out]) (by have:=L3.out;simp;omega);by_cases hkh:k<h
  · obtain ⟨gg,rfl⟩:∃ gg,gk=gg+1:=⟨gk-1,by omega⟩
    go_wp2_with fail;go_must (go_at_call 65);clear bx;refine (byte_any R4.out).mono ?_;rw [rByte_first (by have:=HN.out;omega)];rintro e w4 ⟨rfl,hr,hg⟩;have R5:Hid (Rdr w4 rb g n cp z ⟨k+1,0,0⟩):=hr;have G5:Hid (W3.grownBy w4 (some rb)):=gb_trans G4.out hg;have HJ:Hid (k+1+gg=h):=by show _=_;omega
    have kb:(k:Int)<=700000:=by have:=HN.out;omega
    clear hr hg;go_wp2;go_roundg gg;case measure=>omega
    case rel=>exact ⟨k+1,by simp,HJ.out,R5.out,G5.out⟩
  · have hk':k=h:=by omega
    subst hk';clear hkh bx R3;have cb:wr.cell? ⟨gb,off,none⟩=some (.int .u8 (z 0)):=G4.out.cell (cell_later B3.out c00.out) (by have:=World.block_lt_of_cell? _ _ c00.out;have:=L2.out;simp at *;omega);have n0:(0:Int)<n:=by have:=HN.out;omega
    go_wp2_with fail;go_must (go_at_call 66);refine (split_any (z 0) HZ.out wr).mono ?_;rintro e w' ⟨rfl,hee⟩;obtain rfl:=hee.symm;clear hee cb n0;obtain ⟨kd,hkd⟩:∃ x,x=z 0 / 16:=⟨_,rfl⟩;obtain ⟨fl,hfl⟩:∃ x,x=z 0 % 16:=⟨_,rfl⟩;rw [<-hkd] at HK;have HP:Hid (R=match intoP z n ⟨k,0,0⟩ kd noCn fl with | .error x=>.error x | .ok y=>if ck TT y.2.1 y.2.2=0 then .ok (y.2.1,y.2.2) else .error (0,(ck TT y.2.1 y.2.2:Int))):=by show _=_;rw [HR.out,packP,<-hkd,<-hfl]
    rw [<-hkd,<-hfl];clear hkd hfl HR;obtain ⟨W4,hW4⟩:∃ W,W=wr.alloc (.cells (pkCells (blank kd)) 39):=⟨_,rfl⟩;go_upto_region 8 with (first | (refine wpList_build_to rfl 39 _ rfl (pkCells (blank kd)) (built_blank kd) ?_)|(refine wpList_store_row rfl 39 _ _ rfl wr.heap.size (pkCells (blank kd)) rfl rfl 39 _ (heap_alloc_new wr _) pk_info rfl (pk_one _) ?_));rw [World.setRow_alloc_new,<-hW4];have bb4:Below wr.heap.size wr W4:=by rw [hW4];exact (Below.refl _ _).alloc (Nat.le_refl _) _
    have L4:Hid (W3.heap.size<=wr.heap.size/\W4.heap.size=wr.heap.size+1):=⟨G4.out.size,by rw [hW4];simp⟩;have C4:Hid (Cs W4 W4 rb g n cp wr.heap.size z ⟨k,0,0⟩ (blank kd) noCn):=by have a1:=L3.out;have a2:=L4.out;have a3:=World.block_lt_of_cell? _ _ (R4.out.rb.own.2 0 (by have:=HN.out;omega));simp only at a3;exact ⟨R4.out.below bb4,by rw [hW4];exact heap_alloc_new wr _,lt_of_block (R4.out.below bb4).rd,by omega,by omega,by omega,in_blank _ _,nx_blank _ _,rfl,rfl,rfl,Nat.le_refl _,fun _ _ _ _=>rfl⟩
    have Z4:Hid (W4.heap[w.heap.size]?=some (.cells (pkCells (blank 0)) 39 (0,0))):=(bb4.block _ (by have:=L3.out;have:=L4.out;omega)).trans ((G4.out.block _ (lt_of_block Z3.out) (by have:=L2.out;simp;omega)).trans Z3.out);have X4:Hid (W4.heap[w2.heap.size]?=some (.cells #[.pointer (some ⟨rb,0,none⟩),.int .i64 n] 129 (0,0))):=(bb4.block _ (by have:=L3.out;have:=L4.out;omega)).trans ((G4.out.block _ (lt_of_block X3.out) (by have:=L3.out;simp;omega)).trans X3.out);have B4:Hid (Below w.heap.size w W4):=by have q:Below w.heap.size w wr:=B3.out.grown G4.out B3.out.size (by intro q hq;cases hq;have:=L2.out;omega);exact q.trans (bb4.mono q.size)
    have b0:W4.cell? ⟨w2.heap.size,0,none⟩=some (.pointer (some ⟨rb,0,none⟩)):=by simp [World.cell?,X4.out]
    have b1:W4.cell? ⟨w2.heap.size,1,none⟩=some (.int .i64 n):=by simp [World.cell?,X4.out]
    clear bb4 hW4 R4 G4 B3 Z3 X3;go_wp2_with fail;go_must (go_at_call 67);clear b0 b1;refine (into_any fl kd HK.out C4.out).mono ?_;rintro e w5 hO;obtain ⟨I,hI⟩:∃ I,I=intoP z n ⟨k,0,0⟩ kd noCn fl:=⟨_,rfl⟩;rw [<-hI] at hO HP;cases I with
    | error x => obtain ⟨⟨gg,rfl,hgg⟩,hF⟩:=hO;have HR2:Hid (R = .error x):=HP.out;have Z5:Hid (w5.heap[w.heap.size]?=some (.cells (pkCells (blank 0)) 39 (0,0))):=(hF.block _ (lt_of_block Z4.out) (by have:=L2.out;omega) (by have:=L3.out;have:=L4.out;omega)).trans Z4.out;have B5:Hid (Below w.heap.size w w5):=fr2_below B4.out hF (by have:=L2.out;omega) (by have:=L3.out;have:=L4.out;omega);have E5:Hid (w5.heap[gg]?=some (.cells #[.int .i64 x.1,.int .i64 x.2] 81 (0,0))):=hgg;clear hgg hF HP hI;go_wp2_with (first | (refine wpList_build_to rfl 39 _ rfl (pkCells (blank 0)) built_zero ?_)|(refine wpList_store_row rfl 39 _ _ rfl w.heap.size (pkCells (blank 0)) rfl rfl 39 (pkCells (blank 0)) Z5.out pk_info rfl (pk_one _) ?_));rw [setRow_self w5 w.heap.size _ 39 (0,0) Z5.out];refine bodyPost_ret (results_row_tmp rfl _ _ w.heap.size 39 (pkCells (blank 0)) (0,0) _ rfl Z5.out Tryz.underlying39 rfl pk_info) rfl ?_;rw [HR2.out];exact ⟨⟨gg,rfl,E5.out⟩,B5.out⟩;| ok y =>
     obtain ⟨rfl,q,hq,ha⟩:=hO;have SM:Small q y.2.2:=small_alike ha (into_small HN.out.1 HN.out.2.2 hI.symm);have hck:ck TT q y.2.2=ck TT y.2.1 y.2.2:=ck_alike ha TT _;have B5:Hid (Below w.heap.size w w5):=fr2_below B4.out hq.fr (by have:=L2.out;omega) (by have:=L3.out;have:=L4.out;omega);have Z5:Hid (w5.heap[w.heap.size]?=some (.cells (pkCells (blank 0)) 39 (0,0))):=(hq.block _ (lt_of_block Z4.out) (by have:=L2.out;omega) (by have:=L3.out;have:=L4.out;omega)).trans Z4.out;have C5:Hid (Cs W4 w5 rb g n cp wr.heap.size z y.1 q y.2.2):=hq;have AL:Hid (Alike q y.2.1):=ha;have CH:=Pkt.check_any q y.2.2 w5 (HG.out.below B5.out) hq.inn SM;rw [hck] at CH;obtain ⟨cd,hcd⟩:∃ cd,cd=ck TT y.2.1 y.2.2:=⟨_,rfl⟩;rw [<-hcd] at CH;have HR2:Hid (R=if cd=0 then .ok (y.2.1,y.2.2) else .error (0,(cd:Int))):=by have q:=HP.out;simp only at q;show _=_;rw [q,hcd]
     have HH:Hid (Calls Tryz.prog 68 #[.agg (pkCells q)] w5 fun e w'=>e = .returned (.int .i64 (cd:Int))/\Below w5.heap.size w5 w'):=CH;clear CH hck SM hq ha hcd HP hI;go_wp2_with (first | (refine wpList_load_wanted rfl _ rfl wr.heap.size rfl _ (0,0) C5.out.pk (pk_size _) ?_) | fail);go_must (go_at_call 68);refine HH.out.mono ?_;rintro e w6 ⟨rfl,hb6⟩;have B6:Hid (Below w.heap.size w w6):=B5.out.trans (hb6.mono B5.out.size);have Z6:Hid (w6.heap[w.heap.size]?=some (.cells (pkCells (blank 0)) 39 (0,0))):=(hb6.block _ (lt_of_block Z5.out)).trans Z5.out;have P6:Hid (w6.heap[wr.heap.size]?=some (.cells (pkCells q) 39 (0,0))):=(hb6.block _ (lt_of_block C5.out.pk)).trans C5.out.pk;have I6:Hid (In w6 q y.2.2):=C5.out.inn.below hb6;have NX:Hid (NxAll W4.heap.size q):=C5.out.nx;clear hb6 HH;by_cases h0:cd=0
     · have HR3:Hid (R = .ok (y.2.1,y.2.2)):=by show _=_;rw [HR2.out,if_pos h0]
       have h0':((cd:Int) != 0)=false:=by simp [h0]
       clear h0;go_wp2_with (first | (refine wpList_load_wanted rfl _ rfl wr.heap.size rfl _ (0,0) P6.out (pk_size _) ?_)|(refine wpList_store_row rfl 39 _ _ rfl w.heap.size (pkCells q) rfl rfl 39 (pkCells (blank 0)) Z6.out pk_info rfl (pk_one _) ?_));refine bodyPost_ret (results_row_tmp rfl _ _ w.heap.size 39 (pkCells q) (0,0) _ rfl (setRow_heap w6 w.heap.size _ _ 39 (0,0) Z6.out) Tryz.underlying39 rfl pk_info) rfl ?_;rw [HR3.out];have x:=NX.out;have lw:w.heap.size<=W4.heap.size:=by have:=L3.out;have:=L4.out;omega
       refine ⟨⟨q,rfl,In.keep I6.out NX.out (fun a v hav hb=>?_),AL.out,⟨x.wP.lower lw,x.pass.lower lw,x.mP.lower lw,x.asks.lower lw,x.codes.lower lw,x.filters.lower lw⟩⟩,below_setRow B6.out (Nat.le_refl _) _⟩;rw [cell_setRow_other _ _ _ _ (by have:=L3.out;have:=L4.out;omega)];exact hav
     · have HR3:Hid (R = .error (0,(cd:Int))):=by show _=_;rw [HR2.out,if_neg h0]
       have h0':((cd:Int) != 0)=true:=by simp [h0]
       clear h0;go_wp2_with (first | (refine wpList_build_to rfl 39 _ rfl (pkCells (blank 0)) built_zero ?_) | fail);go_must (go_at_call 63);refine (fault_any _ _ _).mono ?_;rintro e w7 ⟨⟨gg,rfl,hgg⟩,hb7⟩;have B7:Hid (Below w.heap.size w w7):=B6.out.trans (hb7.mono B6.out.size);have Z7:Hid (w7.heap[w.heap.size]?=some (.cells (pkCells (blank 0)) 39 (0,0))):=(hb7.block _ (lt_of_block Z6.out)).trans Z6.out;have E7:Hid (w7.heap[gg]?=some (.cells #[.int .i64 0,.int .i64 (cd:Int)] 81 (0,0))):=hgg;clear hgg hb7;go_wp2_with (first | (refine wpList_store_row rfl 39 _ _ rfl w.heap.size (pkCells (blank 0)) rfl rfl 39 (pkCells (blank 0)) Z7.out pk_info rfl (pk_one _) ?_));rw [setRow_self w7 w.heap.size _ 39 (0,0) Z7.out];refine bodyPost_ret (results_row_tmp rfl _ _ w.heap.size 39 (pkCells (blank 0)) (0,0) _ rfl Z7.out Tryz.underlying39 rfl pk_info) rfl ?_;rw [HR3.out];exact ⟨⟨gg,rfl,E7.out⟩,B7.out⟩
theorem results_row_tmp2 {P:Program} {fn:Func} {p u v:Tmp} {ty:TypeId} (h:fn.results = #[.cell p ty,.tmp u,.tmp v]) (tmps:Array Value) (w:World) (g:Nat) (t:TypeId) (cs:Array Value) (fr:Nat×Nat) (d:TypeDesc)
 (hp:tmps.getD p undef = .pointer (some ⟨g,0,none⟩)) (hg:w.heap[g]?=some (.cells cs t fr)) (hu:P.underlying ty=some d) (hd:(match d with | .struct _ | .array _ _=>true | _=>false)=true) (hi:(P.info? ty).map (·.size)=some cs.size) :
 (results fn tmps).run P w = .ok (.tuple #[.agg cs,tmps.getD u undef,tmps.getD v undef]) w:=by
 have hp':tmps[p]?.getD undef = .pointer (some ⟨g,0,none⟩):=by simpa using hp
 simp [results,h,hp',asAddr,run_loadVar_row w g t ty cs fr d hg hu hd hi]
theorem lenF_out (z:Nat->Int) (n:Nat) (most:Int) (hz:∀ i,0<=z i/\z i<=255) (f k:Nat) (acc hd l:Int) (ha:0<=acc) (h:lenF z n most f k acc=(hd,l,none)) (h0:hd≠0):∃ j:Nat,hd=((j+1:Nat):Int)/\k<=j/\0<=l/\j+1<=k+f:=by
 induction f generalizing k acc with
 | zero=>cases h;| succ f ih =>
  unfold lenF at h;have hp:(0:Int)<=z k % 128*128 ^ (k-1):=Int.mul_nonneg (by omega) (Int.pow_nonneg (by decide));split at h;· cases h;exact absurd rfl h0
  split at h
  · split at h
    · cases h
    · cases h;exact ⟨k,rfl,Nat.le_refl _,by omega,by omega⟩
  · obtain ⟨j,a,b,c,d⟩:=ih (k+1) _ (by omega) h
    exact ⟨j,a,by omega,c,by omega⟩
theorem firstP_kind {b:Int} (h:firstP b=0):1<=b / 16/\b / 16<=14:=by
 unfold firstP at h;split at h;· cases h
 · omega
theorem headP_out (z:Nat->Int) (n:Nat) (most:Int) (hz:∀ i,0<=z i/\z i<=255) (hd l:Int) (h:headP z n most=(hd,l,none)) (h0:hd≠0):∃ j:Nat,hd=((j+1:Nat):Int)/\1<=j/\0<=l/\j<=4/\1<=z 0 / 16/\z 0 / 16<=14:=by
 unfold headP at h;split at h;· cases h;exact absurd rfl h0
 split at h;· cases h
 · rename_i hf;obtain ⟨j,a,b,c,d⟩:=lenF_out z n most hz 4 1 0 hd l (by omega) h h0;have q:=firstP_kind (b:=z 0) (by simpa using hf);exact ⟨j,a,b,c,by omega,q⟩
inductive DecR where | fault (x:Int×Int) | more | ok (p:Pk) (c:Cn) (n:Nat)
def decH (z:Nat->Int) (n:Nat) (H:Int×Int×Option (Int×Int)):DecR := match H.2.2 with | some x=>.fault x | none=>if H.1=0\/(n:Int)-H.1<H.2.1 then .more else match packP z (H.1+H.2.1).toNat H.1.toNat with | .error x=>.fault x | .ok y=>.ok y.1 y.2 (H.1+H.2.1).toNat
def clampM (most:Int):Int:=min (max most 2) 268435455
def decP (z:Nat->Int) (n:Nat) (most:Int):DecR:=decH z n (headP z n (clampM most))
def DecIs (w w':World) (e:Ending):DecR->Prop | .fault x=>(∃ gg,e = .returned (.tuple #[.agg (pkCells (blank 0)),.int .i64 0,.iface 91 (.pointer (some ⟨gg,0,none⟩))])/\w'.heap[gg]?=some (.cells #[.int .i64 x.1,.int .i64 x.2] 81 (0,0)))/\Below w.heap.size w w' | .more=>e = .returned (.tuple #[.agg (pkCells (blank 0)),.int .i64 0,.nilIface])/\Below w.heap.size w w' | .ok p c n=>(∃ q:Pk,e = .returned (.tuple #[.agg (pkCells q),.int .i64 n,.nilIface])/\In w' q c/\Alike q p/\NxAll w.heap.size q)/\Below w.heap.size w w'
theorem decode_any (gb off n cpb:Nat) (z:Nat->Int) (most:Int) (w:World) (hc:Came w (some ⟨gb,off,none⟩) n cpb z) (hn:n<=700000) (hg:Gd w) :
 Calls Tryz.prog 41 #[.slice (some ⟨gb,off,none⟩) n cpb,.int .i64 most] w fun e w'=>DecIs w w' e (decP z n most):=by
 obtain ⟨R,hR⟩:∃ R,R=decP z n most:=⟨_,rfl⟩;rw [<-hR];obtain ⟨W1,hW1⟩:∃ W,W=w.alloc (.cells (pkCells (blank 0)) 39):=⟨_,rfl⟩;have B1:Hid (Below w.heap.size w W1):=by show Below _ _ _;rw [hW1];exact (Below.refl _ _).alloc (Nat.le_refl _) _
 have Z1:Hid (W1.heap[w.heap.size]?=some (.cells (pkCells (blank 0)) 39 (0,0))):=by show _=_;rw [hW1];exact heap_alloc_new w _
 have S1:Hid (W1.heap.size=w.heap.size+1):=by show _=_;rw [hW1];simp
 obtain ⟨H,hH⟩:∃ H,H=headP z n (clampM most):=⟨_,rfl⟩;have HZ:Hid (∀ i,0<=z i/\z i<=255):=hc.2.1;have HC:Hid (Came w (some ⟨gb,off,none⟩) n cpb z):=hc;have HCP:Hid (n<=cpb):=hc.1;have HG:Hid (Gd w):=hg;have HN:Hid (n<=700000):=hn;have T:Hid (Calls Tryz.prog 49 #[.slice (some ⟨gb,off,none⟩) n cpb,.int .i64 (min (max most 2) 268435455)] W1 fun e w'=>HeadIs w' e H/\Below W1.heap.size W1 w'):=by
  rw [hH];refine head_any gb off n cpb z (clampM most) W1 (fun j hj=>?_) hc.2.1 (by omega) (hg.below B1.out);rcases hc.2.2 with ⟨e,_⟩|⟨ad,e,q⟩;· cases e
  · cases e
    have q2:=q j hj;rw [plain_add] at q2;exact cell_later B1.out q2
 have HR:Hid (R=decH z n H):=by show _=_;rw [hR,decP,hH]
 have HO:Hid (∀ hd l,H=(hd,l,none)->hd≠0->∃ j:Nat,hd=((j+1:Nat):Int)/\1<=j/\0<=l/\j<=4/\1<=z 0 / 16/\z 0 / 16<=14):=fun hd l e h0=>headP_out z n (clampM most) hc.2.1 hd l (by rw [<-hH];exact e) h0;clear hR hH hc hg hn;obtain ⟨hd,l,o⟩:=H;go_enter Tryz.func41,Tryz.ntmps41;go_upto_region 1 with fail;have eW:w.alloc (.cells #[.int .i64 0,.int .i64 0,.bool false,.int .i64 0,.string ⟨#[]⟩,.bool false,.string ⟨#[]⟩,.slice none 0 0,.int .i64 0,.bool false,.bool false,.string ⟨#[]⟩,.bool false,.slice none 0 0,.bool false,.int .i64 0,.bool false,.string ⟨#[]⟩,.slice none 0 0,.int .i64 0,.bool false,.int .i64 0,.slice none 0 0,.slice none 0 0,.slice none 0 0] 39)=W1:=hW1.symm;rw [eW];clear eW hW1;go_wp2_with fail;go_must (go_at_call 49);refine T.out.mono ?_;clear T;cases o with
 | some x => have HV:Hid (R = .fault x):=HR.out;rintro e w2 ⟨⟨gg,rfl,hgg⟩,hb2⟩;have B2:Hid (Below w.heap.size w w2):=B1.out.trans (hb2.mono B1.out.size);have Z2:Hid (w2.heap[w.heap.size]?=some (.cells (pkCells (blank 0)) 39 (0,0))):=(hb2.block _ (lt_of_block Z1.out)).trans Z1.out;have E2:Hid (w2.heap[gg]?=some (.cells #[.int .i64 x.1,.int .i64 x.2] 81 (0,0))):=hgg;clear hgg hb2;go_wp2_with (first | (refine wpList_build_to rfl 39 _ rfl (pkCells (blank 0)) built_zero ?_)|(refine wpList_store_row rfl 39 _ _ rfl w.heap.size (pkCells (blank 0)) rfl rfl 39 (pkCells (blank 0)) Z2.out pk_info rfl (pk_one _) ?_));rw [setRow_self w2 w.heap.size _ 39 (0,0) Z2.out];refine bodyPost_ret (results_row_tmp2 rfl _ _ w.heap.size 39 (pkCells (blank 0)) (0,0) _ rfl Z2.out Tryz.underlying39 rfl pk_info) rfl ?_;rw [HV.out];exact ⟨⟨gg,rfl,E2.out⟩,B2.out⟩;| none =>
  rintro e w2 ⟨he,hb2⟩;obtain rfl:e = .returned (.tuple #[.int .i64 hd,.int .i64 l,.nilIface]):=he;have B2:Hid (Below w.heap.size w w2):=B1.out.trans (hb2.mono B1.out.size);have Z2:Hid (w2.heap[w.heap.size]?=some (.cells (pkCells (blank 0)) 39 (0,0))):=(hb2.block _ (lt_of_block Z1.out)).trans Z1.out;have S2:Hid (w.heap.size<w2.heap.size):=lt_of_block Z2.out;have HR2:Hid (R=if hd=0\/(n:Int)-hd<l then .more else match packP z (hd+l).toNat hd.toNat with | .error x=>.fault x | .ok y=>.ok y.1 y.2 (hd+l).toNat):=HR.out;clear hb2 HR;by_cases h0:hd=0
  · have HV:Hid (R = .more):=by show _=_;rw [HR2.out,if_pos (.inl h0)]
    subst h0;clear HR2;go_wp2_with (first | (refine wpList_build_to rfl 39 _ rfl (pkCells (blank 0)) built_zero ?_)|(refine wpList_store_row rfl 39 _ _ rfl w.heap.size (pkCells (blank 0)) rfl rfl 39 (pkCells (blank 0)) Z2.out pk_info rfl (pk_one _) ?_));rw [setRow_self w2 w.heap.size _ 39 (0,0) Z2.out];refine bodyPost_ret (results_row_tmp2 rfl _ _ w.heap.size 39 (pkCells (blank 0)) (0,0) _ rfl Z2.out Tryz.underlying39 rfl pk_info) rfl ?_;rw [HV.out];exact ⟨rfl,B2.out⟩
  obtain ⟨j,hj,hj1,hl0,hj4,hk⟩:=HO.out hd l rfl h0;obtain ⟨a,ha⟩:∃ a:Nat,a=j+1:=⟨_,rfl⟩;obtain ⟨L,hL⟩:∃ L:Nat,l=(L:Int):=⟨l.toNat,by omega⟩;rw [<-ha] at hj;subst hj hL;have A1:Hid (2<=a/\a<=5):=⟨by omega,by omega⟩;have ab:(a:Int)<=5:=by omega
  have a0:((a:Int)==0)=false:=by have:=A1.out;simp;omega
  have HK:Hid (1<=z 0 / 16/\z 0 / 16<=14):=hk;have nb:(n:Int)<=700000:=by have:=HN.out;omega
  clear ha hj1 hl0 hk HO hj4 h0;by_cases hl:(n:Int)-a<L
  · have HV:Hid (R = .more):=by show _=_;rw [HR2.out,if_pos (.inr hl)]
    clear HR2;go_wp2_with (first | (refine wpList_build_to rfl 39 _ rfl (pkCells (blank 0)) built_zero ?_)|(refine wpList_store_row rfl 39 _ _ rfl w.heap.size (pkCells (blank 0)) rfl rfl 39 (pkCells (blank 0)) Z2.out pk_info rfl (pk_one _) ?_));rw [setRow_self w2 w.heap.size _ 39 (0,0) Z2.out];refine bodyPost_ret (results_row_tmp2 rfl _ _ w.heap.size 39 (pkCells (blank 0)) (0,0) _ rfl Z2.out Tryz.underlying39 rfl pk_info) rfl ?_;rw [HV.out];exact ⟨rfl,B2.out⟩
  obtain ⟨N,hN⟩:∃ N:Nat,((a:Int)+(L:Int)).toNat=N:=⟨_,rfl⟩;have NN:Hid (N=a+L/\N<=n):=⟨by omega,by omega⟩;have HR3:Hid (R=match packP z N a with | .error x=>.fault x | .ok y=>.ok y.1 y.2 N):=by
   show _=_;have na:¬ ((a:Int)=0\/(n:Int)-a<L):=by have:=A1.out;omega
   rw [HR2.out,if_neg na,hN];rfl
  have lb:(L:Int)<=700000:=by omega
  have hlb:decide ((n:Int)-a<L)=false:=decide_eq_false hl;have u0:¬ (a:Int)+L<0:=by omega
  have u1:(a:Int)+L<=cpb:=by have:=HCP.out;omega
  have u2:¬ (cpb:Int)<(a:Int)+L:=by omega
  have PK:Hid (Calls Tryz.prog 50 #[.slice (some ⟨gb,off,none⟩) N cpb,.int .i64 a] w2 fun e w'=>PackIs w2 w' e (packP z N a)):=by
   refine packet_any gb off N cpb a z w2 ?_ (by have:=HN.out;have:=NN.out;omega) (by have:=A1.out;omega) (by have:=NN.out;omega) HK.out (HG.out.below B2.out);have q:=came_below (B:=0) HC.out B2.out;refine ⟨by have:=NN.out;have:=HCP.out;omega,q.2.1,?_⟩;rcases q.2.2 with ⟨e,_⟩|⟨ad,e,c⟩;· cases e
   · exact .inr ⟨ad,e,fun i hi=>c i (by have:=NN.out;omega)⟩
  obtain ⟨I,hI⟩:∃ I,I=packP z N a:=⟨_,rfl⟩;rw [<-hI] at PK HR3;clear HR2 hI;go_wp2_with fail;go_must (go_at_call 50);refine PK.out.mono ?_;clear PK;cases I with
  | error x => have HV:Hid (R = .fault x):=HR3.out;rintro e w3 ⟨⟨gg,rfl,hgg⟩,hb3⟩;have b4:Below w3.heap.size w3 (w3.alloc (.cells (pkCells (blank 0)) 39)):=(Below.refl _ _).alloc (Nat.le_refl _) _;obtain ⟨w4,hw4⟩:∃ W,W=w3.alloc (.cells (pkCells (blank 0)) 39):=⟨_,rfl⟩;rw [<-hw4] at b4;have B3:Below w.heap.size w w3:=B2.out.trans (hb3.mono B2.out.size);have B4:Hid (Below w.heap.size w w4):=B3.trans (b4.mono B3.size);have Z3:=(hb3.block _ (lt_of_block Z2.out)).trans Z2.out;have Z4:Hid (w4.heap[w.heap.size]?=some (.cells (pkCells (blank 0)) 39 (0,0))):=(b4.block _ (lt_of_block Z3)).trans Z3;have E4:Hid (w4.heap[gg]?=some (.cells #[.int .i64 x.1,.int .i64 x.2] 81 (0,0))):=(b4.block _ (lt_of_block hgg)).trans hgg;clear hgg hb3 b4 B3 Z3;go_upto_region 5 with (first | (refine wpList_store_row rfl 39 _ _ rfl w3.heap.size (pkCells (blank 0)) rfl rfl 39 _ (heap_alloc_new w3 _) pk_info rfl (pk_one _) ?_));rw [World.setRow_alloc_new,<-hw4];clear hw4;go_wp2_with (first | (refine wpList_build_to rfl 39 _ rfl (pkCells (blank 0)) built_zero ?_)|(refine wpList_store_row rfl 39 _ _ rfl w.heap.size (pkCells (blank 0)) rfl rfl 39 (pkCells (blank 0)) Z4.out pk_info rfl (pk_one _) ?_));rw [setRow_self w4 w.heap.size _ 39 (0,0) Z4.out];refine bodyPost_ret (results_row_tmp2 rfl _ _ w.heap.size 39 (pkCells (blank 0)) (0,0) _ rfl Z4.out Tryz.underlying39 rfl pk_info) rfl ?_;rw [HV.out];exact ⟨⟨gg,rfl,E4.out⟩,B4.out⟩;| ok y =>
   have HV:Hid (R = .ok y.1 y.2 N):=HR3.out;rintro e w3 ⟨⟨q,rfl,hin,hal,hnx⟩,hb3⟩;obtain ⟨w4,hw4⟩:∃ W,W=w3.alloc (.cells (pkCells q) 39):=⟨_,rfl⟩;have b4:Below w3.heap.size w3 w4:=by rw [hw4];exact (Below.refl _ _).alloc (Nat.le_refl _) _
   have B3:Below w.heap.size w w3:=B2.out.trans (hb3.mono B2.out.size);have B4:Hid (Below w.heap.size w w4):=B3.trans (b4.mono B3.size);have Z3:=(hb3.block _ (lt_of_block Z2.out)).trans Z2.out;have Z4:Hid (w4.heap[w.heap.size]?=some (.cells (pkCells (blank 0)) 39 (0,0))):=(b4.block _ (lt_of_block Z3)).trans Z3;have P4:Hid (w4.heap[w3.heap.size]?=some (.cells (pkCells q) 39 (0,0))):=by show _=_;rw [hw4];exact heap_alloc_new w3 _
   have I4:Hid (In w4 q y.2):=hin.below b4;have AL:Hid (Alike q y.1):=hal;have NX:Hid (NxAll w2.heap.size q):=hnx;clear hin hal hnx hb3 b4 B3 Z3;go_upto_region 5 with (first | (refine wpList_store_row rfl 39 _ _ rfl w3.heap.size (pkCells q) rfl rfl 39 _ (heap_alloc_new w3 _) pk_info rfl (pk_one _) ?_));rw [World.setRow_alloc_new,<-hw4];clear hw4;go_wp2_with (first | (refine wpList_load_wanted rfl _ rfl w3.heap.size rfl _ (0,0) P4.out (pk_size _) ?_)|(refine wpList_store_row rfl 39 _ _ rfl w.heap.size (pkCells q) rfl rfl 39 (pkCells (blank 0)) Z4.out pk_info rfl (pk_one _) ?_));refine bodyPost_ret (results_row_tmp2 rfl _ _ w.heap.size 39 (pkCells q) (0,0) _ rfl (setRow_heap w4 w.heap.size _ _ 39 (0,0) Z4.out) Tryz.underlying39 rfl pk_info) rfl ?_;rw [HV.out];have x:=NX.out;have lw:w.heap.size<=w2.heap.size:=Nat.le_of_lt S2.out;have ea:(a:Int)+(L:Int)=(N:Int):=by have:=NN.out;omega
   refine ⟨⟨q,by rw [<-ea];rfl,In.keep I4.out NX.out (fun ad v hav hb=>?_),AL.out,⟨x.wP.lower lw,x.pass.lower lw,x.mP.lower lw,x.asks.lower lw,x.codes.lower lw,x.filters.lower lw⟩⟩,below_setRow B4.out (Nat.le_refl _) _⟩;rw [cell_setRow_other _ _ _ _ (by have:=S2.out;omega)];exact hav
set_option maxHeartbeats 1000000
theorem came_nil {w:World} {l k:Nat} {z:Nat->Int} (h:Came w none l k z):l=0/\k=0:=by
 obtain ⟨_,_,⟨_,h1,h2⟩|⟨_,h,_⟩⟩:=h;· exact ⟨h1,h2⟩
 · cases h
theorem cellsOf_congr (z z':Nat->Int) (n:Nat) (h:∀ i,i<n->z i=z' i):cellsOf z n=cellsOf z' n:=by unfold cellsOf;apply List.map_congr_left;intro i hi;rw [h i (List.mem_range.1 hi)]
def cat (z:Nat->Int) (n:Nat) (z':Nat->Int):Nat->Int:=fun i=>if i<n then z i else z' (i-n)
theorem cat_bd {z z':Nat->Int} {n:Nat} (h:∀ i,0<=z i/\z i<=255) (h':∀ i,0<=z' i/\z' i<=255) (i:Nat):0<=cat z n z' i/\cat z n z' i<=255:=by
 unfold cat;split;· exact h i
 · exact h' _
theorem head_nil (most:Int) (w:World):Calls Tryz.prog 49 #[.slice none 0 0,.int .i64 most] w fun e w'=>e = .returned (.tuple #[.int .i64 0,.int .i64 0,.nilIface])/\w'=w:=by
 go_enter Tryz.func49,Tryz.ntmps49;go_wp2;go_step3;go_wp2;try rw [Exit.noGoto_ret]
 go_ret3;exact ⟨rfl,rfl⟩
theorem decode_nil (most:Int) (w:World):Calls Tryz.prog 41 #[.slice none 0 0,.int .i64 most] w fun e w'=>DecIs w w' e .more:=by
 obtain ⟨W1,hW1⟩:∃ W,W=w.alloc (.cells (pkCells (blank 0)) 39):=⟨_,rfl⟩;have B1:Hid (Below w.heap.size w W1):=by show Below _ _ _;rw [hW1];exact (Below.refl _ _).alloc (Nat.le_refl _) _
 have Z1:Hid (W1.heap[w.heap.size]?=some (.cells (pkCells (blank 0)) 39 (0,0))):=by show _=_;rw [hW1];exact heap_alloc_new w _
 go_enter Tryz.func41,Tryz.ntmps41;go_upto_region 1 with fail;have eW:w.alloc (.cells #[.int .i64 0,.int .i64 0,.bool false,.int .i64 0,.string ⟨#[]⟩,.bool false,.string ⟨#[]⟩,.slice none 0 0,.int .i64 0,.bool false,.bool false,.string ⟨#[]⟩,.bool false,.slice none 0 0,.bool false,.int .i64 0,.bool false,.string ⟨#[]⟩,.slice none 0 0,.int .i64 0,.bool false,.int .i64 0,.slice none 0 0,.slice none 0 0,.slice none 0 0] 39)=W1:=hW1.symm;rw [eW];clear eW hW1;go_wp2_with fail;go_must (go_at_call 49);refine (head_nil _ W1).mono ?_;rintro e w' ⟨rfl,hee⟩;obtain rfl:=hee.symm;clear hee;go_wp2_with (first | (refine wpList_build_to rfl 39 _ rfl (pkCells (blank 0)) built_zero ?_)|(refine wpList_store_row rfl 39 _ _ rfl w.heap.size (pkCells (blank 0)) rfl rfl 39 (pkCells (blank 0)) Z1.out pk_info rfl (pk_one _) ?_));rw [setRow_self W1 w.heap.size _ 39 (0,0) Z1.out];refine bodyPost_ret (results_row_tmp2 rfl _ _ w.heap.size 39 (pkCells (blank 0)) (0,0) _ rfl Z1.out Tryz.underlying39 rfl pk_info) rfl ?_;exact ⟨rfl,B1.out⟩
def Plain (ao:Option Addr):Prop:=∀ ad,ao=some ad->∃ g off,ad=⟨g,off,none⟩
theorem decode_came (ao:Option Addr) (n cpb:Nat) (z:Nat->Int) (most:Int) (w:World) (hc:Came w ao n cpb z) (hp:Plain ao) (hn:n<=700000) (hg:Gd w) :
 Calls Tryz.prog 41 #[.slice ao n cpb,.int .i64 most] w fun e w'=>DecIs w w' e (decP z n most):=by
 cases ao with
 | none =>
  obtain ⟨rfl,rfl⟩:=came_nil hc;have e:decP z 0 most = .more:=by simp [decP,headP,decH]
  rw [e];exact decode_nil most w
 | some ad => obtain ⟨g,off,rfl⟩:=hp ad rfl;exact decode_any g off n cpb z most w hc hn hg
section
variable {z:Nat->Int} {n:Nat}
theorem errOut_err {y:Rs×Pk×Cn} {x:Int×Int} (h:errOut y = .error x):x.2≠0:=by
 unfold errOut at h;split at h;· rename_i hq;cases h;exact hq
 · cases h
theorem connect_err {r:Rs} {p:Pk} {c:Cn} {x:Int×Int} (h:connectP z n r p c = .error x):x.2≠0:=by
 unfold connectP at h;split at h;· cases h;simp
 split at h;· cases h;simp
 unfold cMid cEnd at h;split at h;· rename_i hq;cases h;exact hq
 · cases h
theorem connack_err {r:Rs} {p:Pk} {c:Cn} {x:Int×Int} (h:connackP z n r p c = .error x):x.2≠0:=by
 unfold connackP at h;split at h;· cases h;simp
 split at h;· rename_i hq;cases h;exact hq
 · cases h
theorem into_err {r:Rs} {k fl:Int} {c:Cn} {x:Int×Int} (h:intoP z n r k c fl = .error x):x.2≠0:=by
 unfold intoP at h;split at h;· exact connect_err h
 split at h;· exact connack_err h
 repeat (first | exact errOut_err h | split at h)
theorem pack_err {h:Nat} {x:Int×Int} (e:packP z n h = .error x):x.2≠0:=by
 unfold packP at e;split at e;· rename_i y hy;cases e;exact into_err hy
 ·
  split at e;· cases e
  · rename_i hc;cases e;intro q;have q':((ck TT _ _:Nat):Int)=0:=q;exact hc (by omega)
theorem pack_ok {h:Nat} {y:Pk×Cn} (hn:n<=700000) (hh:h<=n) (e:packP z n h = .ok y):Small y.1 y.2:=by
 unfold packP at e;split at e;· cases e
 ·
  rename_i y' hy;split at e;· cases e;exact into_small hn hh hy
  · cases e
theorem len_err (most:Int) (f k:Nat) (acc:Int) {a b:Int} {x:Int×Int} (h:lenF z n most f k acc=(a,b,some x)):x.2≠0:=by
 induction f generalizing k acc with
 | zero=>cases h;decide;| succ f ih =>
  unfold lenF at h;split at h;· cases h
  split at h
  · split at h
    · cases h;simp
    · cases h
  · exact ih _ _ h
theorem head_err (most:Int) {a b:Int} {x:Int×Int} (h:headP z n most=(a,b,some x)):x.2≠0:=by
 unfold headP at h;split at h;· cases h
 split at h;· rename_i hf;cases h;exact hf
 · exact len_err most 4 1 0 h
theorem dec_fault (most:Int) {x:Int×Int} (h:decP z n most = .fault x):x.2≠0:=by
 unfold decP at h;cases e:headP z n (clampM most) with | mk hd t =>
  obtain ⟨l,o⟩:=t;rw [e] at h;cases o with
  | some y=>cases h;exact head_err _ e;| none =>
   unfold decH at h;simp only at h;split at h;· cases h
   · split at h
     · rename_i y hy;cases h;exact pack_err hy
     · cases h
theorem dec_ok (most:Int) (hz:∀ i,0<=z i/\z i<=255) (hn:n<=700000) {p:Pk} {c:Cn} {N:Nat} (h:decP z n most = .ok p c N):0<N/\N<=n/\Small p c:=by
 unfold decP at h;cases e:headP z n (clampM most) with | mk hd t =>
  obtain ⟨l,o⟩:=t;rw [e] at h;cases o with
  | some y=>cases h;| none =>
   unfold decH at h;simp only at h;split at h;· cases h
   ·
    rename_i hc;split at h;· cases h
    · rename_i y hy;have h0:hd≠0:=fun q=>hc (.inl q);obtain ⟨j,a1,a2,a3,a4,_⟩:=headP_out z n _ hz hd l e h0;have hl:¬ (n:Int)-hd<l:=fun q=>hc (.inr q);cases h;refine ⟨by omega,by omega,pack_ok (by omega) (by omega) hy⟩
end
def listZ (L:List Int):Nat->Int:=fun i=>L.getD i 0
theorem ck_ping:ck TT (blank 12) noCn=0:=by kernel_rfl
theorem listZ_bd (L:List Int) (h:∀ x ∈ L,0<=x/\x<=255) (i:Nat):0<=listZ L i/\listZ L i<=255:=by
 unfold listZ;by_cases hi:i<L.length
 · have:L.getD i 0 ∈ L:=by simp [hi]
   exact h _ this
 · simp [List.getD,List.getElem?_eq_none (by omega:L.length<=i)]
open Pkt (Pk Cn Sl In By Small)
def sh (z:Nat->Int) (k:Nat):Nat->Int:=fun i=>z (k+i)
theorem sh_zero (z:Nat->Int):sh z 0=z:=by funext i;simp [sh]
open Pkt (Pk Cn Sl In By Is Ss As pkCells Gd KindsAt Small ck TT)
def conP (k:Int):Pk:={ blank 1 with level:=4,clean:=true,keep:=k }
theorem gv_con (k:Int) (h0:k≠0):Pkt.gv (conP k)=7:=by
 have e:((conP k).keep != 0)=true:=by show (k != 0)=true;simpa using h0
 unfold Pkt.gv;generalize ((conP k).keep != 0)=x at e ⊢;subst e;change (_:Nat)=_;kernel_rfl
theorem bnd_con (k:Int) (h:0<=k/\k<=65535):Pkt.bnd (conP k)=true:=by have e1:decide (0<=(conP k).keep)=true:=decide_eq_true h.1;have e2:decide ((conP k).keep<=65535)=true:=decide_eq_true h.2;unfold Pkt.bnd;generalize decide (0<=(conP k).keep)=x at e1 ⊢;generalize decide ((conP k).keep<=65535)=y at e2 ⊢;subst e1 e2;change (_:Bool)=_;kernel_rfl
theorem con_ck (k:Int) (h:0<=k/\k<=65535):ck TT (conP k) noCn=0:=by
 by_cases h0:k=0;· subst h0;kernel_rfl
 ·
  have g:=gv_con k h0;have b:=bnd_con k h;have e1:Pkt.bad1 (conP k)=false:=by unfold Pkt.bad1;generalize Pkt.gv (conP k)=x at g ⊢;generalize Pkt.bnd (conP k)=y at b ⊢;subst g b;kernel_rfl
  have e8:Pkt.bad8 (conP k)=false:=by unfold Pkt.bad8;generalize Pkt.gv (conP k)=x at g ⊢;subst g;kernel_rfl
  have e2:Pkt.bad2 TT (conP k)=false:=by kernel_rfl
  have e3:Pkt.tps TT (conP k)=true:=by kernel_rfl
  have e4:Pkt.flts TT (conP k) noCn=true:=by kernel_rfl
  have e5:Pkt.qls (conP k) noCn=true:=by kernel_rfl
  have e6:Pkt.bad6 (conP k)=false:=by kernel_rfl
  have e7:Pkt.bad7 (conP k) noCn=false:=by kernel_rfl
  have e9:Pkt.bad9 (conP k)=false:=by kernel_rfl
  have e0:Pkt.isK (conP k).kind=true:=by kernel_rfl
  unfold ck;rw [e0,e1,e2,e3,e4,e5,e6,e7,e8,e9];simp
theorem dec_of {z:Nat->Int} {n:Nat} {most:Int} {h l:Nat} {p:Pk} {c:Cn} (hh:headP z n (clampM most)=((h:Int),(l:Int),none)) (h0:h≠0) (hl:h+l<=n) (hp:packP z (h+l) h = .ok (p,c)):decP z n most = .ok p c (h+l):=by unfold decP decH;rw [hh];simp only;rw [if_neg (by omega),show ((h:Int)+(l:Int)).toNat=h+l by omega,show ((h:Int)).toNat=h by omega,hp]
def Adds (B:Nat) (v0:Value) (w w':World) (e:Ending) (n:Nat) (xs:List Value):Prop:=∃ v,e = .returned v/\w'.ownsRow B 5 1 v n xs/\v≠.slice none 0 0/\w.grownBy w' v0.ownBlock/\(∀ k,v.ownBlock=some k->v0.ownBlock=some k\/w.heap.size<=k)
theorem grown_on {w w1 w2:World} {v0 v1:Value} (h1:w.grownBy w1 v0.ownBlock) (hv:∀ k,v1.ownBlock=some k->v0.ownBlock=some k\/w.heap.size<=k) (h2:w1.grownBy w2 v1.ownBlock):w.grownBy w2 v0.ownBlock :=
 ⟨h2.os.trans h1.os,h2.tape.trans h1.tape,h2.output.trans h1.output,Nat.le_trans h1.size h2.size,fun k hk hne=>by
  rw [h2.block k (Nat.lt_of_lt_of_le hk h1.size) (fun e=>by
   rcases hv k e.symm with h | h;· exact hne h.symm
   · omega)]
  exact h1.block k hk hne⟩
theorem own_on {w w1:World} {v0 v1 v2:Value} (hs:w.heap.size<=w1.heap.size) (h1:∀ k,v1.ownBlock=some k->v0.ownBlock=some k\/w.heap.size<=k) (h2:∀ k,v2.ownBlock=some k->v1.ownBlock=some k\/w1.heap.size<=k):∀ k,v2.ownBlock=some k->v0.ownBlock=some k\/w.heap.size<=k:=fun k e=>by
 rcases h2 k e with h | h;· exact h1 k h
 · exact .inr (Nat.le_trans hs h)
open Pkt (Pk Cn Sl In By Is Ss As pkCells Gd wpList_load_wanted box_below)
theorem box_cells {w:World} {g t:Nat} {cs:Array Value} (h:w.heap[g]?=some (.cells cs t (0,0))) (k:Nat) (v:Value) (hk:cs[k]?=some v):w.cell? ⟨g,k,none⟩=some v:=by simp only [World.cell?,h];simpa using hk
theorem heap_in {w:World} {g:Nat} {o:Obj} (h:w.heap[g]?=some o):g<w.heap.size:=by
 rcases Nat.lt_or_ge g w.heap.size with h1 | h1;· exact h1
 · rw [Array.getElem?_eq_none h1] at h;cases h
theorem gb_block {w w':World} {v:Value} {g:Nat} {o:Obj} (hg:w.grownBy w' v.ownBlock) (h:w.heap[g]?=some o) (hv:v.ownBlock≠some g):w'.heap[g]?=some o:=by rw [hg.block g (heap_in h) (fun e=>hv e.symm)];exact h
end Go.Proofs.YtpldoeeahhaimaaGreatDoor
