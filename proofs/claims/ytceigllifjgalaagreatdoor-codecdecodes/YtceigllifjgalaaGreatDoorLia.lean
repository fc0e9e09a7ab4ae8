import Derived.Test.YtceigllifjgalaaGreatDoorReh
import Derived.Laws.CopyOwn
import Derived.Test.YtceigllifjgalaaGreatDoorRmb
namespace Go.Proofs.YtceigllifjgalaaGreatDoor.Dr
open Go Go.RowKit
set_option linter.unusedSimpArgs false
set_option linter.unusedVariables false
set_option maxRecDepth 100000
set_option maxHeartbeats 1000000
section
variable {w:World} {k l:Nat} {z:Nat->Int}
theorem built153 (a:Option Addr) (n k:Nat):Tryz.prog.built 236 [(0,.slice a n k)]=some #[.slice a n k,.int .i64 0,.int .i64 0,.int .i64 0]:=by kernel_rfl
theorem zeL {a:Option Addr} (h:Came w a l k z):CL w a l k (cellsOf z l):=by
 obtain ⟨h1,h2,h3⟩:=zeE h;refine ⟨h1,by simp [cellsOf],?_⟩;rcases h3 with q | ⟨b,off,e,hc⟩;· exact .inl q
 · refine .inr ⟨b,off,e,fun j hj=>?_⟩
   rw [hc j hj,zba z l j hj]
theorem refRead_any {ao:Option Addr} (h:Came w ao l k z) (hl:l<=300000):Calls Tryz.prog 208 #[.slice ao l k] w fun e w'=>∃ mb a c,e = .returned (.pointer (some ⟨mb,0,none⟩))/\Rrd w' mb a l c z ⟨0,0,0⟩/\w.heap.size<=mb/\(∀ g,a=some ⟨g,0,none⟩->w.heap.size<=g/\g<w'.heap.size)/\Below w.heap.size w w':=by
 obtain ⟨a,c,w1,hr,ho,hb⟩:=zee (w:=w) 22 ao l k (cellsOf z l) (zeL h) (fun u hu=>zaT z l u hu) (by omega);have HRUN:=hidi hr;have hb83:∀ w',(Instr.build 236 #[(0,.slice a l c)]).run Tryz.prog w' = .ok (.agg #[.slice a l c,.int .i64 0,.int .i64 0,.int .i64 0]) w':=fun w'=>run_build w' 236 _ _ (built153 a l c);have hbel:Below w.heap.size w (w1.alloc (.cells #[.slice a l c,.int .i64 0,.int .i64 0,.int .i64 0] 236)):=hb.alloc hb.size _;have hcm:Came (w1.alloc (.cells #[.slice a l c,.int .i64 0,.int .i64 0,.int .i64 0] 236)) a l c z:=zaq (B:=0) (zdO (zdr ho) rfl h.2.1) ((Below.refl _ _).alloc (Nat.le_refl _) _);have hsh:a=none\/∃ g,a=some ⟨g,0,none⟩/\w.heap.size<=g/\g<w1.heap.size:=by
  rcases ho.2 with ⟨q,_⟩|⟨g,cap,cur,q,e1,hg,_⟩
  · injection q with q1 q2 q3
    exact .inl q1
  · injection q with q1 q2 q3
    exact .inr ⟨g,q1,e1,lt_of_block hg⟩
 have Z:Hid (∃ mb a' c',(.returned (.pointer (some ⟨w1.heap.size,0,none⟩)):Ending) = .returned (.pointer (some ⟨mb,0,none⟩))/\Rrd (w1.alloc (.cells #[.slice a l c,.int .i64 0,.int .i64 0,.int .i64 0] 236)) mb a' l c' z ⟨0,0,0⟩/\w.heap.size<=mb/\(∀ g,a'=some ⟨g,0,none⟩->w.heap.size<=g/\g<(w1.alloc (.cells #[.slice a l c,.int .i64 0,.int .i64 0,.int .i64 0] 236)).heap.size)/\Below w.heap.size w (w1.alloc (.cells #[.slice a l c,.int .i64 0,.int .i64 0,.int .i64 0] 236))):=by
  refine ⟨w1.heap.size,a,c,rfl,⟨heap_alloc_new w1 _,hcm,?_,Nat.zero_le _,hl⟩,hb.size,fun g e=>?_,hbel⟩
  · rcases hsh with q | ⟨g,q,_,q2⟩
    · exact .inl q
    · exact .inr ⟨g,q,by omega⟩
  ·
   rcases hsh with q | ⟨g',q,q1,q2⟩
   · rw [q] at e
     cases e
   · rw [q] at e
     cases e;have hs:(w1.alloc (.cells #[.slice a l c,.int .i64 0,.int .i64 0,.int .i64 0] 236)).heap.size=w1.heap.size+1:=Array.size_push _;exact ⟨q1,by omega⟩
 clear h hl hr ho hb hbel hcm hsh;go_enter Tryz.func208,Tryz.ntmps208;go_wp2_with (at_builtin;refine Lib.wpList_append_run _ rfl (.tmp 4) (.tmp 5) 22 22 rfl _ _ rfl rfl _ w1 HRUN.out ?_);all_goals (try go_ret)
 all_goals exact Z.out
end
open Pkt (Pk Cn Sl In By Is Ss As pkCells)
theorem byte_eq (z:Nat->Int) (l:Nat) (r:Rs):rByte z l r=Go.Proofs.YtceigllifjgalaaGreatDoor.rByte z l r:=by
 unfold rByte Go.Proofs.YtceigllifjgalaaGreatDoor.rByte rTake;by_cases h:r.q≠0;· simp [h]
 ·
  rw [if_neg h,if_neg h];by_cases k:l<r.at0+1;· simp [k]
  · simp [k]
theorem num_eq (z:Nat->Int) (l:Nat) (r:Rs):rNum z l r=Go.Proofs.YtceigllifjgalaaGreatDoor.rNum z l r:=by
 unfold rNum Go.Proofs.YtceigllifjgalaaGreatDoor.rNum rTake;by_cases h:r.q≠0;· simp [h]
 ·
  rw [if_neg h,if_neg h];by_cases k:l<r.at0+2;· simp [k]
  · simp [k]
theorem rst_eq (z:Nat->Int) (l:Nat) (r:Rs) (hl:r.at0<=l):(rRst l r).1=(rRest z l r).1.1/\(rRst l r).2=(rRest z l r).2/\(∀ i,i<(rRest z l r).1.1->z (r.at0+i)=(rRest z l r).1.2 i):=by
 unfold rRst rRest rTake;by_cases h:r.q≠0;· simp [h]
 ·
  have hk:¬ l<r.at0+(l-r.at0):=by omega
  rw [if_neg h,if_neg h];simp only [if_neg hk,if_true];refine ⟨trivial,?_,fun i _=>trivial⟩;unfold Rs.on;rw [show r.at0+(l-r.at0)=l by omega]
theorem dat_eq (z:Nat->Int) (hz:∀ i,0<=z i/\z i<=255) (l:Nat) (r:Rs):(rDat z l r).1.1=(rData z l r).1.1/\(rDat z l r).2=(rData z l r).2/\(∀ i,i<(rData z l r).1.1->z ((rDat z l r).1.2+i)=(rData z l r).1.2 i):=by
 have h0:=hz r.at0;have h1:=hz (r.at0+1);unfold rDat rData;rw [num_eq];unfold Go.Proofs.YtceigllifjgalaaGreatDoor.rNum rTake;by_cases h:r.q≠0;· simp [h]
 ·
  rw [if_neg h,if_neg h];by_cases k:l<r.at0+2;· simp [k,Rs.gaveUp]
  ·
   rw [if_neg k,if_neg k];simp only [Rs.on];have et:(z r.at0*256+z (r.at0+1)).toNat=two z r.at0:=rfl;rw [et];by_cases m:l<r.at0+2+two z r.at0;· simp [m,Rs.gaveUp]
   · simp [m]
     omega
theorem txt_eq (z:Nat->Int) (hz:∀ i,0<=z i/\z i<=255) (l:Nat) (r:Rs):rTxt z l r=rText z l r:=by
 have h0:=hz r.at0;have h1:=hz (r.at0+1);unfold rTxt rText rTxtS rDat;rw [num_eq];unfold Go.Proofs.YtceigllifjgalaaGreatDoor.rNum rTake;by_cases h:r.q≠0;· simp [h]
 ·
  rw [if_neg h,if_neg h];by_cases k:l<r.at0+2;· simp [k,Rs.gaveUp]
  ·
   rw [if_neg k,if_neg k];simp only [Rs.on];have et:(z r.at0*256+z (r.at0+1)).toNat=two z r.at0:=rfl;rw [et];by_cases m:l<r.at0+2+two z r.at0;· simp [m,Rs.gaveUp]
   · have m2:¬ l<r.at0+(2+two z r.at0):=by omega
     simp [m,m2,Rs.gaveUp,txtAt,Nat.add_assoc]
section
variable {w:World} {mb:Nat} {a:Option Addr} {l c:Nat} {z:Nat->Int} {r:Rs}
theorem zcU (h:Rrd w mb a l c z r):Calls Tryz.prog 210 #[.pointer (some ⟨mb,0,none⟩)] w fun e w'=>e = .returned (.int .u8 (Go.Proofs.YtceigllifjgalaaGreatDoor.rByte z l r).1)/\Rrd w' mb a l c z (Go.Proofs.YtceigllifjgalaaGreatDoor.rByte z l r).2/\w.grownBy w' (some mb):=by rw [<-byte_eq];exact refByte_any h
theorem dnum_any (h:Rrd w mb a l c z r):Calls Tryz.prog 212 #[.pointer (some ⟨mb,0,none⟩)] w fun e w'=>e = .returned (.int .i64 (Go.Proofs.YtceigllifjgalaaGreatDoor.rNum z l r).1)/\Rrd w' mb a l c z (Go.Proofs.YtceigllifjgalaaGreatDoor.rNum z l r).2/\w.grownBy w' (some mb):=by rw [<-num_eq];exact zdi h
theorem zcO (h:Rrd w mb a l c z r):Calls Tryz.prog 211 #[.pointer (some ⟨mb,0,none⟩)] w fun e w'=>e = .returned (.string (rText z l r).1)/\Rrd w' mb a l c z (rText z l r).2/\w.grownBy w' (some mb):=by rw [<-txt_eq z h.cm.2.1];exact refText_any h
theorem dend_any (h:Rrd w mb a l c z r):Calls Tryz.prog 215 #[.pointer (some ⟨mb,0,none⟩)] w fun e w'=>e = .returned (.tuple #[])/\Rrd w' mb a l c z (Go.Proofs.YtceigllifjgalaaGreatDoor.rEnd l r)/\w.grownBy w' (some mb):=refEnd_any h
def NewBy (w w':World) (s:Sl) (x:Nat×(Nat->Int)):Prop:=s.n=x.1/\By w' s x.2/\∀ b off,s.a=some ⟨b,off,none⟩->w.heap.size<=b
theorem zeu {w':World} {a':Option Addr} {n k:Nat} {Z:Nat->Int} {x:Nat×(Nat->Int)} (hn:n=x.1) (ho:w'.ownsRow 0 5 1 (.slice a' n k) n (cellsOf Z n)) (hg:∀ g,a'=some ⟨g,0,none⟩->w.heap.size<=g) (he:∀ i,i<x.1->Z i=x.2 i) (hx:∀ i,0<=x.2 i/\x.2 i<=255):NewBy w w' ⟨a',n,k⟩ x:=by
 rcases ho.2 with ⟨q,h0⟩|⟨g,cap,cur,q,h1,h2,h3,h4⟩;· injection q with q1 q2 q3;subst q1 q3;exact ⟨hn,⟨by simp [h0],hx,.inl (by simpa using h0)⟩,fun b off e=>by cases e⟩
 ·
  injection q with q1 q2 q3;subst q1 q3;refine ⟨hn,⟨h3,hx,.inr ⟨g,0,rfl,fun i hi=>?_⟩⟩,fun b off e=>?_⟩
  · have:=ho.cellAt i (by simpa using hi)
    rw [Nat.zero_add,this,zba Z n i hi,he i (by rw [<-hn];exact hi)]
  · injection e with e;injection e with e1 e2 e3;subst e1;exact hg _ rfl
theorem rData_bd (hz:∀ i,0<=z i/\z i<=255) (l:Nat) (r:Rs) (i:Nat):0<=(rData z l r).1.2 i/\(rData z l r).1.2 i<=255:=by
 unfold rData;split;· simp
 ·
  split;· simp
  · split
    · simp
    · exact hz _
theorem rRest_bd (hz:∀ i,0<=z i/\z i<=255) (l:Nat) (r:Rs) (i:Nat):0<=(rRest z l r).1.2 i/\(rRest z l r).1.2 i<=255:=by
 unfold rRest;split;· simp
 · exact hz _
theorem ddata_any (h:Rrd w mb a l c z r):Calls Tryz.prog 251 #[.pointer (some ⟨mb,0,none⟩)] w fun e w'=>(∃ s:Sl,e = .returned (.slice s.a s.n s.c)/\NewBy w w' s (rData z l r).1)/\Rrd w' mb a l c z (rData z l r).2/\w.grownBy w' (some mb):=by obtain ⟨d1,d2,d3⟩:=dat_eq z h.cm.2.1 l r;refine (zcT h).mono ?_;rintro e w' ⟨a',k,rfl,h1,h2,h3,h4⟩;rw [d2] at h3;exact ⟨⟨⟨a',(rDat z l r).1.1,k⟩,rfl,zeu d1 h1 h2 d3 (rData_bd h.cm.2.1 l r)⟩,h3,h4⟩
theorem drest_any (h:Rrd w mb a l c z r):Calls Tryz.prog 213 #[.pointer (some ⟨mb,0,none⟩)] w fun e w'=>(∃ s:Sl,e = .returned (.slice s.a s.n s.c)/\NewBy w w' s (rRest z l r).1)/\Rrd w' mb a l c z (rRest z l r).2/\w.grownBy w' (some mb):=by obtain ⟨d1,d2,d3⟩:=rst_eq z l r h.le;refine (refRest_any h).mono ?_;rintro e w' ⟨a',k,rfl,h1,h2,h3,h4⟩;rw [d2] at h3;exact ⟨⟨⟨a',(rRst l r).1,k⟩,rfl,zeu d1 h1 h2 d3 (rRest_bd h.cm.2.1 l r)⟩,h3,h4⟩
end
end Go.Proofs.YtceigllifjgalaaGreatDoor.Dr
namespace Go.Proofs.YtceigllifjgalaaGreatDoor
open Go Go.RowKit
open Pkt (Pk Cn Sl In By Is Ss As pkCells Gd KindsAt form isK zar Small ck TT sumN Tx za0)
set_option linter.unusedSimpArgs false
set_option linter.unusedVariables false
set_option maxRecDepth 100000
set_option maxHeartbeats 4000000
theorem zaD {P:Program} {fn:Func} {p u:Tmp} {ty:TypeId} (h:fn.results = #[.cell p ty,.tmp u]) (tmps:Array Value) (w:World) (g:Nat) (t:TypeId) (cs:Array Value) (fr:Nat×Nat) (d:TypeDesc)
 (hp:tmps.getD p undef = .pointer (some ⟨g,0,none⟩)) (hg:w.heap[g]?=some (.cells cs t fr)) (hu:P.underlying ty=some d) (hd:(match d with | .struct _ | .array _ _=>true | _=>false)=true) (hi:(P.info? ty).map (·.size)=some cs.size) :
 (results fn tmps).run P w = .ok (.tuple #[.agg cs,tmps.getD u undef]) w:=by
 have hp':tmps[p]?.getD undef = .pointer (some ⟨g,0,none⟩):=by simpa using hp
 simp [results,h,hp',asAddr,run_loadVar_row w g t ty cs fr d hg hu hd hi]
theorem zaf {ops:Array Oper} {rest:List Oper} {o:Oper} {a:Act} {w:World} {Q:Exit->Act->World->Prop} (hg:o.guard=none) (t:TypeId) (parts:Array (Nat×Operand)) (ho:o.op = .build t parts) (cells:Array Value) (hf:Tryz.prog.built t (parts.map fun (i,x)=>(i,a.eval x)).toList=some cells) (h:wpList Tryz.prog ops Q rest (a.put o.dst (.agg cells)) w):wpList Tryz.prog ops Q (o::rest) a w := wpList_build hg t parts ho (by rw [hf];rfl) (by rw [hf];exact h)
theorem pk_one (p:Pk):(pkCells p).all (·.oneCell')=true:=by simp [pkCells,Value.oneCell']
theorem zav (p:Pk):(pkCells p).size=25:=rfl
theorem zaa:(Tryz.prog.info? 29).map (·.size)=some 25:=by kernel_rfl
def noCn:Cn:=⟨fun _=>0,fun _=>0,fun _=>0,fun _=>⟨#[]⟩,fun _=>0,fun _=>0,fun _=>⟨#[]⟩⟩
theorem zbE (w:World) (k:Int):In w (blank k) noCn:=⟨⟨Nat.le_refl _,fun _=>by simp [noCn],.inl rfl⟩,⟨Nat.le_refl _,fun _=>by simp [noCn],.inl rfl⟩,⟨Nat.le_refl _,fun _=>by simp [noCn],.inl rfl⟩,⟨Nat.le_refl _,.inl rfl⟩,⟨Nat.le_refl _,.inl rfl⟩,⟨Nat.le_refl _,.inl rfl⟩⟩
def packP (z:Nat->Int) (n h:Nat):Except (Int×Int) (Pk×Cn) := match intoP z n ⟨h,0,0⟩ (z 0 / 16) noCn (z 0 % 16) with | .error x=>.error x | .ok y=>if ck TT y.2.1 y.2.2=0 then .ok (y.2.1,y.2.2) else .error (0,(ck TT y.2.1 y.2.2:Int))
def PackIs (w w':World) (e:Ending):Except (Int×Int) (Pk×Cn)->Prop | .error x=>(∃ gg,e = .returned (.tuple #[.agg (pkCells (blank 0)),.iface 200 (.pointer (some ⟨gg,0,none⟩))])/\w'.heap[gg]?=some (.cells #[.int .i64 x.1,.int .i64 x.2] 134 (0,0)))/\Below w.heap.size w w' | .ok y=>(∃ q:Pk,e = .returned (.tuple #[.agg (pkCells q),.nilIface])/\In w' q y.2/\Alike q y.1/\NxAll w.heap.size q/\Ows w.heap.size w' q)/\Below w.heap.size w w'
theorem rByte_first {z:Nat->Int} {n k:Nat} (h:k<n):rByte z n ⟨k,0,0⟩=(z k,⟨k+1,0,0⟩):=by unfold rByte;rw [if_neg (by simp),if_neg (by show ¬ n<k+1;omega)];rfl
theorem zdV {w W4 w5:World} {rb pb:Nat} (hb:Below w.heap.size w W4) (hf:Fr2 W4 w5 rb pb) (h1:w.heap.size<=rb) (h2:w.heap.size<=pb):Below w.heap.size w w5 := ⟨hf.os.trans hb.os,hf.tape.trans hb.tape,hf.output.trans hb.output,Nat.le_trans hb.size hf.size,fun k hk=>(hf.block k (Nat.lt_of_lt_of_le hk hb.size) (by omega) (by omega)).trans (hb.block k hk)⟩
theorem zcc (gb off n cpb h:Nat) (z:Nat->Int) (w:World) (hc:Came w (some ⟨gb,off,none⟩) n cpb z) (hn:n<=700000) (h1:1<=h) (hh:h<=n) (hk:1<=z 0 / 16/\z 0 / 16<=14) (hg:Gd w) :
 Calls Tryz.prog 139 #[.slice (some ⟨gb,off,none⟩) n cpb,.int .i64 h] w fun e w'=>PackIs w w' e (packP z n h):=by
 obtain ⟨R,hR⟩:∃ R,R=packP z n h:=⟨_,rfl⟩;rw [<-hR];have HR:=Hi hR;have HC:=Hi hc;have HG:=Hi hg;have HN:Hid (n<=700000/\1<=h/\h<=n):=⟨hn,h1,hh⟩;have HK:=Hi hk;have c00:Hid (w.cell? ⟨gb,off,none⟩=some (.int .u8 (z 0))):=by
  rcases hc.2.2 with ⟨e,_⟩|⟨ad,e,q⟩;· cases e
  · cases e;have q0:=q 0 (by omega);rw [za9,Nat.add_zero] at q0;exact q0
 have hz:=hc.2.1 0;have HZ:=Hi hz;clear hc hg hk hR hz hn;obtain ⟨W1,hW1⟩:∃ W,W=w.alloc (.cells (pkCells (blank 0)) 29):=⟨_,rfl⟩;have B1:Hid (Below w.heap.size w W1):=by show Below _ _ _;rw [hW1];exact (Below.refl _ _).alloc (Nat.le_refl _) _
 have RZ:Hid (W1.heap[w.heap.size]?=some (.cells (pkCells (blank 0)) 29 (0,0))):=by show _=_;rw [hW1];exact heap_alloc_new w _
 have S1:Hid (W1.heap.size=w.heap.size+1):=by show _=_;rw [hW1];simp
 go_enter Tryz.func139,Tryz.ntmps139;go_upto_region 1 with fail;have eW:w.alloc (.cells #[.int .i64 0,.int .i64 0,.bool false,.int .i64 0,.string ⟨#[]⟩,.bool false,.string ⟨#[]⟩,.slice none 0 0,.int .i64 0,.bool false,.bool false,.string ⟨#[]⟩,.bool false,.slice none 0 0,.bool false,.int .i64 0,.bool false,.string ⟨#[]⟩,.slice none 0 0,.int .i64 0,.bool false,.int .i64 0,.slice none 0 0,.slice none 0 0,.slice none 0 0] 29)=W1:=hW1.symm;rw [eW];clear eW hW1;go_wp2_with fail;go_must (go_at_call 218);refine (read_some ⟨gb,off,none⟩ n cpb z W1 (zaq (B:=0) HC.out B1.out) (by have:=HN.out;omega)).mono ?_;rintro e w2 ⟨rb,g,cp,rfl,hRd,hOwn,hgr,hcp,hg1,hrb1,hb2⟩;have R2:Hid (Rdr w2 rb g n cp z ⟨0,0,0⟩):=⟨hRd,⟨hOwn,hcp,HN.out.1,hgr⟩,Nat.zero_le _⟩;have L2:Hid (w.heap.size+1<=g/\w.heap.size+1<=rb):=by have:=S1.out;exact ⟨by omega,by omega⟩
 have B2:Hid (Below w.heap.size w w2):=B1.out.trans (hb2.mono (by have:=S1.out;omega));have Z2:Hid (w2.heap[w.heap.size]?=some (.cells (pkCells (blank 0)) 29 (0,0))):=(hb2.block _ (lt_of_block RZ.out)).trans RZ.out;clear hRd hOwn hgr hcp hg1 hrb1 hb2 RZ B1 S1;obtain ⟨W3,hW3⟩:∃ W,W=w2.alloc (.cells #[.pointer (some ⟨rb,0,none⟩),.int .i64 n] 244):=⟨_,rfl⟩;have bb3:Below w2.heap.size w2 W3:=by rw [hW3];exact (Below.refl _ _).alloc (Nat.le_refl _) _
 have R3:=Hi (R2.out.below bb3);have B3:=Hi (B2.out.trans (bb3.mono B2.out.size));have Z3:Hid (W3.heap[w.heap.size]?=some (.cells (pkCells (blank 0)) 29 (0,0))):=(bb3.block _ (lt_of_block Z2.out)).trans Z2.out;have X3:Hid (W3.heap[w2.heap.size]?=some (.cells #[.pointer (some ⟨rb,0,none⟩),.int .i64 n] 244 (0,0))):=by show _=_;rw [hW3];exact heap_alloc_new w2 _
 have L3:Hid (rb<w2.heap.size/\w.heap.size<w2.heap.size/\W3.heap.size=w2.heap.size+1):=⟨lt_of_block R2.out.rd,lt_of_block Z2.out,by rw [hW3];simp⟩;clear bb3;go_upto_region 2 with fail;rw [<-hW3];clear hW3 R2 B2 Z2;go_wp2_with fail;go_loopg [18] h (fun gg s18 wx=>∃ k:Nat,s18 = .int .i64 k/\k+gg=h/\Hid (Rdr wx rb g n cp z ⟨k,0,0⟩)/\Hid (W3.grownBy wx (some rb)));case atStart=>exact ⟨0,rfl,by omega,R3.out,zah _ _⟩
 case round =>
  obtain ⟨k,rfl,hkg,R4,G4⟩:=hrel;have bx:wr.cell? ⟨w2.heap.size,0,none⟩=some (.pointer (some ⟨rb,0,none⟩)):=G4.out.cell (by simp [World.cell?,X3.out]) (by have:=L3.out;simp;omega);by_cases hkh:k<h
  · obtain ⟨gg,rfl⟩:∃ gg,gk=gg+1:=⟨gk-1,by omega⟩
    go_wp2_with fail;go_must (go_at_call 219);clear bx;refine (zbh R4.out).mono ?_;rw [rByte_first (by have:=HN.out;omega)];rintro e w4 ⟨rfl,hr,hg⟩;have R5:=Hi hr;have G5:=Hi (za4 G4.out hg);have HJ:Hid (k+1+gg=h):=by show _=_;omega
    have kb:(k:Int)<=700000:=by have:=HN.out;omega
    clear hr hg;go_wp2;go_roundg gg;case measure=>omega
    case rel=>exact ⟨k+1,by simp,HJ.out,R5.out,G5.out⟩
  · have hk':k=h:=by omega
    subst hk';clear hkh bx R3;have cb:wr.cell? ⟨gb,off,none⟩=some (.int .u8 (z 0)):=G4.out.cell (cell_later B3.out c00.out) (by have:=World.block_lt_of_cell? _ _ c00.out;have:=L2.out;simp at *;omega);have n0:(0:Int)<n:=by have:=HN.out;omega
    go_wp2_with fail;go_must (go_at_call 220);refine (zdU (z 0) HZ.out wr).mono ?_;rintro e w' ⟨rfl,hee⟩;obtain rfl:=hee.symm;clear hee cb n0;obtain ⟨kd,hkd⟩:∃ x,x=z 0 / 16:=⟨_,rfl⟩;obtain ⟨fl,hfl⟩:∃ x,x=z 0 % 16:=⟨_,rfl⟩;rw [<-hkd] at HK;have HP:Hid (R=match intoP z n ⟨k,0,0⟩ kd noCn fl with | .error x=>.error x | .ok y=>if ck TT y.2.1 y.2.2=0 then .ok (y.2.1,y.2.2) else .error (0,(ck TT y.2.1 y.2.2:Int))):=by show _=_;rw [HR.out,packP,<-hkd,<-hfl]
    rw [<-hkd,<-hfl];clear hkd hfl HR;obtain ⟨W4,hW4⟩:∃ W,W=wr.alloc (.cells (pkCells (blank kd)) 29):=⟨_,rfl⟩;go_upto_region 8 with (first | (refine zaf rfl 29 _ rfl (pkCells (blank kd)) (built_blank kd) ?_)|(refine wpList_store_row rfl 29 _ _ rfl wr.heap.size (pkCells (blank kd)) rfl rfl 29 _ (heap_alloc_new wr _) zaa rfl (pk_one _) ?_));rw [World.setRow_alloc_new,<-hW4];have bb4:Below wr.heap.size wr W4:=by rw [hW4];exact (Below.refl _ _).alloc (Nat.le_refl _) _
    have L4:Hid (W3.heap.size<=wr.heap.size/\W4.heap.size=wr.heap.size+1):=⟨G4.out.size,by rw [hW4];simp⟩;have C4:Hid (Cs W4 W4 rb g n cp wr.heap.size z ⟨k,0,0⟩ (blank kd) noCn):=by have a1:=L3.out;have a2:=L4.out;have a3:=World.block_lt_of_cell? _ _ (R4.out.rb.own.2 0 (by have:=HN.out;omega));simp only at a3;exact ⟨R4.out.below bb4,by rw [hW4];exact heap_alloc_new wr _,lt_of_block (R4.out.below bb4).rd,by omega,by omega,by omega,zbE _ _,zaX _ _,rfl,rfl,rfl,Nat.le_refl _,fun _ _ _ _=>rfl,zaQ _ _ _⟩
    have Z4:Hid (W4.heap[w.heap.size]?=some (.cells (pkCells (blank 0)) 29 (0,0))):=(bb4.block _ (by have:=L3.out;have:=L4.out;omega)).trans ((G4.out.block _ (lt_of_block Z3.out) (by have:=L2.out;simp;omega)).trans Z3.out);have X4:Hid (W4.heap[w2.heap.size]?=some (.cells #[.pointer (some ⟨rb,0,none⟩),.int .i64 n] 244 (0,0))):=(bb4.block _ (by have:=L3.out;have:=L4.out;omega)).trans ((G4.out.block _ (lt_of_block X3.out) (by have:=L3.out;simp;omega)).trans X3.out);have B4:Hid (Below w.heap.size w W4):=by have q:Below w.heap.size w wr:=B3.out.grown G4.out B3.out.size (by intro q hq;cases hq;have:=L2.out;omega);exact q.trans (bb4.mono q.size)
    have b0:W4.cell? ⟨w2.heap.size,0,none⟩=some (.pointer (some ⟨rb,0,none⟩)):=by simp [World.cell?,X4.out]
    have b1:W4.cell? ⟨w2.heap.size,1,none⟩=some (.int .i64 n):=by simp [World.cell?,X4.out]
    clear bb4 hW4 R4 G4 B3 Z3 X3;go_wp2_with fail;go_must (go_at_call 221);clear b0 b1;refine (into_any fl kd HK.out C4.out).mono ?_;rintro e w5 hO;obtain ⟨I,hI⟩:∃ I,I=intoP z n ⟨k,0,0⟩ kd noCn fl:=⟨_,rfl⟩;rw [<-hI] at hO HP;cases I with
    | error x => obtain ⟨⟨gg,rfl,hgg⟩,hF⟩:=hO;have HR2:=Hi HP.out;have Z5:Hid (w5.heap[w.heap.size]?=some (.cells (pkCells (blank 0)) 29 (0,0))):=(hF.block _ (lt_of_block Z4.out) (by have:=L2.out;omega) (by have:=L3.out;have:=L4.out;omega)).trans Z4.out;have B5:Hid (Below w.heap.size w w5):=zdV B4.out hF (by have:=L2.out;omega) (by have:=L3.out;have:=L4.out;omega);have E5:=Hi hgg;clear hgg hF HP hI;go_wp2_with (first | (refine zaf rfl 29 _ rfl (pkCells (blank 0)) built_zero ?_)|(refine wpList_store_row rfl 29 _ _ rfl w.heap.size (pkCells (blank 0)) rfl rfl 29 (pkCells (blank 0)) Z5.out zaa rfl (pk_one _) ?_));rw [setRow_self w5 w.heap.size _ 29 (0,0) Z5.out];refine bodyPost_ret (zaD rfl _ _ w.heap.size 29 (pkCells (blank 0)) (0,0) _ rfl Z5.out Tryz.underlying29 rfl zaa) rfl ?_;rw [HR2.out];exact ⟨⟨gg,rfl,E5.out⟩,B5.out⟩;| ok y =>
     obtain ⟨rfl,q,hq,ha⟩:=hO;have SM:Small q y.2.2:=zbo ha (zcd HN.out.1 HN.out.2.2 hI.symm);have hck:ck TT q y.2.2=ck TT y.2.1 y.2.2:=zez ha TT _;have B5:Hid (Below w.heap.size w w5):=zdV B4.out hq.fr (by have:=L2.out;omega) (by have:=L3.out;have:=L4.out;omega);have Z5:Hid (w5.heap[w.heap.size]?=some (.cells (pkCells (blank 0)) 29 (0,0))):=(hq.block _ (lt_of_block Z4.out) (by have:=L2.out;omega) (by have:=L3.out;have:=L4.out;omega)).trans Z4.out;have C5:=Hi hq;have AL:=Hi ha;have CH:=Pkt.check_any q y.2.2 w5 (HG.out.below B5.out) hq.inn SM;rw [hck] at CH;obtain ⟨cd,hcd⟩:∃ cd,cd=ck TT y.2.1 y.2.2:=⟨_,rfl⟩;rw [<-hcd] at CH;have HR2:Hid (R=if cd=0 then .ok (y.2.1,y.2.2) else .error (0,(cd:Int))):=by have q:=HP.out;simp only at q;show _=_;rw [q,hcd]
     have HH:=Hi CH;clear CH hck SM hq ha hcd HP hI;go_wp2_with (first | (refine za0 rfl _ rfl wr.heap.size rfl _ (0,0) C5.out.pk (zav _) ?_) | fail);go_must (go_at_call 158);refine HH.out.mono ?_;rintro e w6 ⟨rfl,hb6⟩;have B6:=Hi (B5.out.trans (hb6.mono B5.out.size));have Z6:Hid (w6.heap[w.heap.size]?=some (.cells (pkCells (blank 0)) 29 (0,0))):=(hb6.block _ (lt_of_block Z5.out)).trans Z5.out;have P6:Hid (w6.heap[wr.heap.size]?=some (.cells (pkCells q) 29 (0,0))):=(hb6.block _ (lt_of_block C5.out.pk)).trans C5.out.pk;have I6:=Hi (C5.out.inn.below hb6);have NX:=Hi C5.out.nx;have OW:=Hi (C5.out.ow.below hb6);clear hb6 HH;by_cases h0:cd=0
     · have HR3:Hid (R = .ok (y.2.1,y.2.2)):=by show _=_;rw [HR2.out,if_pos h0]
       have h0':((cd:Int) != 0)=false:=by simp [h0]
       clear h0;go_wp2_with (first | (refine za0 rfl _ rfl wr.heap.size rfl _ (0,0) P6.out (zav _) ?_)|(refine wpList_store_row rfl 29 _ _ rfl w.heap.size (pkCells q) rfl rfl 29 (pkCells (blank 0)) Z6.out zaa rfl (pk_one _) ?_));refine bodyPost_ret (zaD rfl _ _ w.heap.size 29 (pkCells q) (0,0) _ rfl (setRow_heap w6 w.heap.size _ _ 29 (0,0) Z6.out) Tryz.underlying29 rfl zaa) rfl ?_;rw [HR3.out];have x:=NX.out;have lw:w.heap.size<=W4.heap.size:=by have:=L3.out;have:=L4.out;omega
       refine ⟨⟨q,rfl,In.keep I6.out NX.out (fun a v hav hb=>?_),AL.out,⟨x.wP.lower lw,x.pass.lower lw,x.mP.lower lw,x.asks.lower lw,x.codes.lower lw,x.filters.lower lw⟩,(OW.out.keep (fun k hb hk=>zde (by have:=L3.out;have:=L4.out;omega))).lower lw⟩,below_setRow B6.out (Nat.le_refl _) _⟩;rw [cell_setRow_other _ _ _ _ (by have:=L3.out;have:=L4.out;omega)];exact hav
     · have HR3:Hid (R = .error (0,(cd:Int))):=by show _=_;rw [HR2.out,if_neg h0]
       have h0':((cd:Int) != 0)=true:=by simp [h0]
       clear h0;go_wp2_with (first | (refine zaf rfl 29 _ rfl (pkCells (blank 0)) built_zero ?_) | fail);go_must (go_at_call 217);refine (zb0 _ _ _).mono ?_;rintro e w7 ⟨⟨gg,rfl,hgg⟩,hb7⟩;have B7:=Hi (B6.out.trans (hb7.mono B6.out.size));have Z7:Hid (w7.heap[w.heap.size]?=some (.cells (pkCells (blank 0)) 29 (0,0))):=(hb7.block _ (lt_of_block Z6.out)).trans Z6.out;have E7:=Hi hgg;clear hgg hb7;go_wp2_with (first | (refine wpList_store_row rfl 29 _ _ rfl w.heap.size (pkCells (blank 0)) rfl rfl 29 (pkCells (blank 0)) Z7.out zaa rfl (pk_one _) ?_));rw [setRow_self w7 w.heap.size _ 29 (0,0) Z7.out];refine bodyPost_ret (zaD rfl _ _ w.heap.size 29 (pkCells (blank 0)) (0,0) _ rfl Z7.out Tryz.underlying29 rfl zaa) rfl ?_;rw [HR3.out];exact ⟨⟨gg,rfl,E7.out⟩,B7.out⟩
theorem zap {P:Program} {fn:Func} {p u v:Tmp} {ty:TypeId} (h:fn.results = #[.cell p ty,.tmp u,.tmp v]) (tmps:Array Value) (w:World) (g:Nat) (t:TypeId) (cs:Array Value) (fr:Nat×Nat) (d:TypeDesc)
 (hp:tmps.getD p undef = .pointer (some ⟨g,0,none⟩)) (hg:w.heap[g]?=some (.cells cs t fr)) (hu:P.underlying ty=some d) (hd:(match d with | .struct _ | .array _ _=>true | _=>false)=true) (hi:(P.info? ty).map (·.size)=some cs.size) :
 (results fn tmps).run P w = .ok (.tuple #[.agg cs,tmps.getD u undef,tmps.getD v undef]) w:=by
 have hp':tmps[p]?.getD undef = .pointer (some ⟨g,0,none⟩):=by simpa using hp
 simp [results,h,hp',asAddr,run_loadVar_row w g t ty cs fr d hg hu hd hi]
theorem lenF_out (z:Nat->Int) (n:Nat) (most:Int) (hz:∀ i,0<=z i/\z i<=255) (f k:Nat) (acc hd l:Int) (ha:0<=acc) (h:lenF z n most f k acc=(hd,l,none)) (h0:hd≠0):∃ j:Nat,hd=((j+1:Nat):Int)/\k<=j/\0<=l/\j+1<=k+f:=by
 induction f generalizing k acc with
 | zero=>cases h;| succ f ih =>
  unfold lenF at h;have hp:(0:Int)<=z k % 128*128 ^ (k-1):=Int.mul_nonneg (by omega) (Int.pow_nonneg (by decide));split at h;· cases h;exact absurd rfl h0
  split at h
  · split at h
    · cases h
    · cases h;exact ⟨k,rfl,Nat.le_refl _,by omega,by omega⟩
  · obtain ⟨j,a,b,c,d⟩:=ih (k+1) _ (by omega) h
    exact ⟨j,a,by omega,c,by omega⟩
theorem firstP_kind {b:Int} (h:firstP b=0):1<=b / 16/\b / 16<=14:=by
 unfold firstP at h;split at h;· cases h
 · omega
theorem zdN (z:Nat->Int) (n:Nat) (most:Int) (hz:∀ i,0<=z i/\z i<=255) (hd l:Int) (h:headP z n most=(hd,l,none)) (h0:hd≠0):∃ j:Nat,hd=((j+1:Nat):Int)/\1<=j/\0<=l/\j<=4/\1<=z 0 / 16/\z 0 / 16<=14:=by
 unfold headP at h;split at h;· cases h;exact absurd rfl h0
 split at h;· cases h
 · rename_i hf;obtain ⟨j,a,b,c,d⟩:=lenF_out z n most hz 4 1 0 hd l (by omega) h h0;have q:=firstP_kind (b:=z 0) (by simpa using hf);exact ⟨j,a,b,c,by omega,q⟩
inductive DecR where | fault (x:Int×Int) | more | ok (p:Pk) (c:Cn) (n:Nat)
def decH (z:Nat->Int) (n:Nat) (H:Int×Int×Option (Int×Int)):DecR := match H.2.2 with | some x=>.fault x | none=>if H.1=0\/(n:Int)-H.1<H.2.1 then .more else match packP z (H.1+H.2.1).toNat H.1.toNat with | .error x=>.fault x | .ok y=>.ok y.1 y.2 (H.1+H.2.1).toNat
def clampM (most:Int):Int:=min (max most 2) 268435455
def decP (z:Nat->Int) (n:Nat) (most:Int):DecR:=decH z n (headP z n (clampM most))
def DecIs (w w':World) (e:Ending):DecR->Prop | .fault x=>(∃ gg,e = .returned (.tuple #[.agg (pkCells (blank 0)),.int .i64 0,.iface 200 (.pointer (some ⟨gg,0,none⟩))])/\w'.heap[gg]?=some (.cells #[.int .i64 x.1,.int .i64 x.2] 134 (0,0)))/\Below w.heap.size w w' | .more=>e = .returned (.tuple #[.agg (pkCells (blank 0)),.int .i64 0,.nilIface])/\Below w.heap.size w w' | .ok p c n=>(∃ q:Pk,e = .returned (.tuple #[.agg (pkCells q),.int .i64 n,.nilIface])/\In w' q c/\Alike q p/\NxAll w.heap.size q/\Ows w.heap.size w' q)/\Below w.heap.size w w'
theorem decode_any (gb off n cpb:Nat) (z:Nat->Int) (most:Int) (w:World) (hc:Came w (some ⟨gb,off,none⟩) n cpb z) (hn:n<=700000) (hg:Gd w) :
 Calls Tryz.prog 89 #[.slice (some ⟨gb,off,none⟩) n cpb,.int .i64 most] w fun e w'=>DecIs w w' e (decP z n most):=by
 obtain ⟨R,hR⟩:∃ R,R=decP z n most:=⟨_,rfl⟩;rw [<-hR];obtain ⟨W1,hW1⟩:∃ W,W=w.alloc (.cells (pkCells (blank 0)) 29):=⟨_,rfl⟩;have B1:Hid (Below w.heap.size w W1):=by show Below _ _ _;rw [hW1];exact (Below.refl _ _).alloc (Nat.le_refl _) _
 have Z1:Hid (W1.heap[w.heap.size]?=some (.cells (pkCells (blank 0)) 29 (0,0))):=by show _=_;rw [hW1];exact heap_alloc_new w _
 have S1:Hid (W1.heap.size=w.heap.size+1):=by show _=_;rw [hW1];simp
 obtain ⟨H,hH⟩:∃ H,H=headP z n (clampM most):=⟨_,rfl⟩;have HZ:Hid (∀ i,0<=z i/\z i<=255):=hc.2.1;have HC:Hid (Came w (some ⟨gb,off,none⟩) n cpb z):=hc;have HCP:Hid (n<=cpb):=hc.1;have HG:Hid (Gd w):=hg;have HN:Hid (n<=700000):=hn;have T:Hid (Calls Tryz.prog 138 #[.slice (some ⟨gb,off,none⟩) n cpb,.int .i64 (min (max most 2) 268435455)] W1 fun e w'=>HeadIs w' e H/\Below W1.heap.size W1 w'):=by
  rw [hH];refine head_any gb off n cpb z (clampM most) W1 (fun j hj=>?_) hc.2.1 (by omega) (hg.below B1.out);rcases hc.2.2 with ⟨e,_⟩|⟨ad,e,q⟩;· cases e
  · cases e
    have q2:=q j hj;rw [za9] at q2;exact cell_later B1.out q2
 have HR:Hid (R=decH z n H):=by show _=_;rw [hR,decP,hH]
 have HO:Hid (∀ hd l,H=(hd,l,none)->hd≠0->∃ j:Nat,hd=((j+1:Nat):Int)/\1<=j/\0<=l/\j<=4/\1<=z 0 / 16/\z 0 / 16<=14):=fun hd l e h0=>zdN z n (clampM most) hc.2.1 hd l (by rw [<-hH];exact e) h0;clear hR hH hc hg hn;obtain ⟨hd,l,o⟩:=H;go_enter Tryz.func89,Tryz.ntmps89;go_upto_region 1 with fail;have eW:w.alloc (.cells #[.int .i64 0,.int .i64 0,.bool false,.int .i64 0,.string ⟨#[]⟩,.bool false,.string ⟨#[]⟩,.slice none 0 0,.int .i64 0,.bool false,.bool false,.string ⟨#[]⟩,.bool false,.slice none 0 0,.bool false,.int .i64 0,.bool false,.string ⟨#[]⟩,.slice none 0 0,.int .i64 0,.bool false,.int .i64 0,.slice none 0 0,.slice none 0 0,.slice none 0 0] 29)=W1:=hW1.symm;rw [eW];clear eW hW1;go_wp2_with fail;go_must (go_at_call 138);refine T.out.mono ?_;clear T;cases o with
 | some x => have HV:Hid (R = .fault x):=HR.out;rintro e w2 ⟨⟨gg,rfl,hgg⟩,hb2⟩;have B2:Hid (Below w.heap.size w w2):=B1.out.trans (hb2.mono B1.out.size);have Z2:Hid (w2.heap[w.heap.size]?=some (.cells (pkCells (blank 0)) 29 (0,0))):=(hb2.block _ (lt_of_block Z1.out)).trans Z1.out;have E2:Hid (w2.heap[gg]?=some (.cells #[.int .i64 x.1,.int .i64 x.2] 134 (0,0))):=hgg;clear hgg hb2;go_wp2_with (first | (refine zaf rfl 29 _ rfl (pkCells (blank 0)) built_zero ?_)|(refine wpList_store_row rfl 29 _ _ rfl w.heap.size (pkCells (blank 0)) rfl rfl 29 (pkCells (blank 0)) Z2.out zaa rfl (pk_one _) ?_));rw [setRow_self w2 w.heap.size _ 29 (0,0) Z2.out];refine bodyPost_ret (zap rfl _ _ w.heap.size 29 (pkCells (blank 0)) (0,0) _ rfl Z2.out Tryz.underlying29 rfl zaa) rfl ?_;rw [HV.out];exact ⟨⟨gg,rfl,E2.out⟩,B2.out⟩;| none =>
  rintro e w2 ⟨he,hb2⟩;obtain rfl:e = .returned (.tuple #[.int .i64 hd,.int .i64 l,.nilIface]):=he;have B2:Hid (Below w.heap.size w w2):=B1.out.trans (hb2.mono B1.out.size);have Z2:Hid (w2.heap[w.heap.size]?=some (.cells (pkCells (blank 0)) 29 (0,0))):=(hb2.block _ (lt_of_block Z1.out)).trans Z1.out;have S2:Hid (w.heap.size<w2.heap.size):=lt_of_block Z2.out;have HR2:Hid (R=if hd=0\/(n:Int)-hd<l then .more else match packP z (hd+l).toNat hd.toNat with | .error x=>.fault x | .ok y=>.ok y.1 y.2 (hd+l).toNat):=HR.out;clear hb2 HR;by_cases h0:hd=0
  · have HV:Hid (R = .more):=by show _=_;rw [HR2.out,if_pos (.inl h0)]
    subst h0;clear HR2;go_wp2_with (first | (refine zaf rfl 29 _ rfl (pkCells (blank 0)) built_zero ?_)|(refine wpList_store_row rfl 29 _ _ rfl w.heap.size (pkCells (blank 0)) rfl rfl 29 (pkCells (blank 0)) Z2.out zaa rfl (pk_one _) ?_));rw [setRow_self w2 w.heap.size _ 29 (0,0) Z2.out];refine bodyPost_ret (zap rfl _ _ w.heap.size 29 (pkCells (blank 0)) (0,0) _ rfl Z2.out Tryz.underlying29 rfl zaa) rfl ?_;rw [HV.out];exact ⟨rfl,B2.out⟩
  obtain ⟨j,hj,hj1,hl0,hj4,hk⟩:=HO.out hd l rfl h0;obtain ⟨a,ha⟩:∃ a:Nat,a=j+1:=⟨_,rfl⟩;obtain ⟨L,hL⟩:∃ L:Nat,l=(L:Int):=⟨l.toNat,by omega⟩;rw [<-ha] at hj;subst hj hL;have A1:Hid (2<=a/\a<=5):=⟨by omega,by omega⟩;have ab:(a:Int)<=5:=by omega
  have a0:((a:Int)==0)=false:=by have:=A1.out;simp;omega
  have HK:Hid (1<=z 0 / 16/\z 0 / 16<=14):=hk;have nb:(n:Int)<=700000:=by have:=HN.out;omega
  clear ha hj1 hl0 hk HO hj4 h0;by_cases hl:(n:Int)-a<L
  · have HV:Hid (R = .more):=by show _=_;rw [HR2.out,if_pos (.inr hl)]
    clear HR2;go_wp2_with (first | (refine zaf rfl 29 _ rfl (pkCells (blank 0)) built_zero ?_)|(refine wpList_store_row rfl 29 _ _ rfl w.heap.size (pkCells (blank 0)) rfl rfl 29 (pkCells (blank 0)) Z2.out zaa rfl (pk_one _) ?_));rw [setRow_self w2 w.heap.size _ 29 (0,0) Z2.out];refine bodyPost_ret (zap rfl _ _ w.heap.size 29 (pkCells (blank 0)) (0,0) _ rfl Z2.out Tryz.underlying29 rfl zaa) rfl ?_;rw [HV.out];exact ⟨rfl,B2.out⟩
  obtain ⟨N,hN⟩:∃ N:Nat,((a:Int)+(L:Int)).toNat=N:=⟨_,rfl⟩;have NN:Hid (N=a+L/\N<=n):=⟨by omega,by omega⟩;have HR3:Hid (R=match packP z N a with | .error x=>.fault x | .ok y=>.ok y.1 y.2 N):=by
   show _=_;have na:¬ ((a:Int)=0\/(n:Int)-a<L):=by have:=A1.out;omega
   rw [HR2.out,if_neg na,hN];rfl
  have lb:(L:Int)<=700000:=by omega
  have hlb:decide ((n:Int)-a<L)=false:=decide_eq_false hl;have u0:¬ (a:Int)+L<0:=by omega
  have u1:(a:Int)+L<=cpb:=by have:=HCP.out;omega
  have u2:¬ (cpb:Int)<(a:Int)+L:=by omega
  have PK:Hid (Calls Tryz.prog 139 #[.slice (some ⟨gb,off,none⟩) N cpb,.int .i64 a] w2 fun e w'=>PackIs w2 w' e (packP z N a)):=by
   refine zcc gb off N cpb a z w2 ?_ (by have:=HN.out;have:=NN.out;omega) (by have:=A1.out;omega) (by have:=NN.out;omega) HK.out (HG.out.below B2.out);have q:=zaq (B:=0) HC.out B2.out;refine ⟨by have:=NN.out;have:=HCP.out;omega,q.2.1,?_⟩;rcases q.2.2 with ⟨e,_⟩|⟨ad,e,c⟩;· cases e
   · exact .inr ⟨ad,e,fun i hi=>c i (by have:=NN.out;omega)⟩
  obtain ⟨I,hI⟩:∃ I,I=packP z N a:=⟨_,rfl⟩;rw [<-hI] at PK HR3;clear HR2 hI;go_wp2_with fail;go_must (go_at_call 139);refine PK.out.mono ?_;clear PK;cases I with
  | error x => have HV:Hid (R = .fault x):=HR3.out;rintro e w3 ⟨⟨gg,rfl,hgg⟩,hb3⟩;have b4:Below w3.heap.size w3 (w3.alloc (.cells (pkCells (blank 0)) 29)):=(Below.refl _ _).alloc (Nat.le_refl _) _;obtain ⟨w4,hw4⟩:∃ W,W=w3.alloc (.cells (pkCells (blank 0)) 29):=⟨_,rfl⟩;rw [<-hw4] at b4;have B3:Below w.heap.size w w3:=B2.out.trans (hb3.mono B2.out.size);have B4:Hid (Below w.heap.size w w4):=B3.trans (b4.mono B3.size);have Z3:=(hb3.block _ (lt_of_block Z2.out)).trans Z2.out;have Z4:Hid (w4.heap[w.heap.size]?=some (.cells (pkCells (blank 0)) 29 (0,0))):=(b4.block _ (lt_of_block Z3)).trans Z3;have E4:Hid (w4.heap[gg]?=some (.cells #[.int .i64 x.1,.int .i64 x.2] 134 (0,0))):=(b4.block _ (lt_of_block hgg)).trans hgg;clear hgg hb3 b4 B3 Z3;go_upto_region 5 with (first | (refine wpList_store_row rfl 29 _ _ rfl w3.heap.size (pkCells (blank 0)) rfl rfl 29 _ (heap_alloc_new w3 _) zaa rfl (pk_one _) ?_));rw [World.setRow_alloc_new,<-hw4];clear hw4;go_wp2_with (first | (refine zaf rfl 29 _ rfl (pkCells (blank 0)) built_zero ?_)|(refine wpList_store_row rfl 29 _ _ rfl w.heap.size (pkCells (blank 0)) rfl rfl 29 (pkCells (blank 0)) Z4.out zaa rfl (pk_one _) ?_));rw [setRow_self w4 w.heap.size _ 29 (0,0) Z4.out];refine bodyPost_ret (zap rfl _ _ w.heap.size 29 (pkCells (blank 0)) (0,0) _ rfl Z4.out Tryz.underlying29 rfl zaa) rfl ?_;rw [HV.out];exact ⟨⟨gg,rfl,E4.out⟩,B4.out⟩;| ok y =>
   have HV:Hid (R = .ok y.1 y.2 N):=HR3.out;rintro e w3 ⟨⟨q,rfl,hin,hal,hnx,how⟩,hb3⟩;obtain ⟨w4,hw4⟩:∃ W,W=w3.alloc (.cells (pkCells q) 29):=⟨_,rfl⟩;have b4:Below w3.heap.size w3 w4:=by rw [hw4];exact (Below.refl _ _).alloc (Nat.le_refl _) _
   have B3:Below w.heap.size w w3:=B2.out.trans (hb3.mono B2.out.size);have B4:Hid (Below w.heap.size w w4):=B3.trans (b4.mono B3.size);have Z3:=(hb3.block _ (lt_of_block Z2.out)).trans Z2.out;have Z4:Hid (w4.heap[w.heap.size]?=some (.cells (pkCells (blank 0)) 29 (0,0))):=(b4.block _ (lt_of_block Z3)).trans Z3;have P4:Hid (w4.heap[w3.heap.size]?=some (.cells (pkCells q) 29 (0,0))):=by show _=_;rw [hw4];exact heap_alloc_new w3 _
   have I4:Hid (In w4 q y.2):=hin.below b4;have AL:Hid (Alike q y.1):=hal;have NX:Hid (NxAll w2.heap.size q):=hnx;have OW:Hid (Ows w2.heap.size w4 q):=how.below b4;clear hin hal hnx how hb3 b4 B3 Z3;go_upto_region 5 with (first | (refine wpList_store_row rfl 29 _ _ rfl w3.heap.size (pkCells q) rfl rfl 29 _ (heap_alloc_new w3 _) zaa rfl (pk_one _) ?_));rw [World.setRow_alloc_new,<-hw4];clear hw4;go_wp2_with (first | (refine za0 rfl _ rfl w3.heap.size rfl _ (0,0) P4.out (zav _) ?_)|(refine wpList_store_row rfl 29 _ _ rfl w.heap.size (pkCells q) rfl rfl 29 (pkCells (blank 0)) Z4.out zaa rfl (pk_one _) ?_));refine bodyPost_ret (zap rfl _ _ w.heap.size 29 (pkCells q) (0,0) _ rfl (setRow_heap w4 w.heap.size _ _ 29 (0,0) Z4.out) Tryz.underlying29 rfl zaa) rfl ?_;rw [HV.out];have x:=NX.out;have lw:w.heap.size<=w2.heap.size:=Nat.le_of_lt S2.out;have ea:(a:Int)+(L:Int)=(N:Int):=by have:=NN.out;omega
   refine ⟨⟨q,by rw [<-ea];rfl,In.keep I4.out NX.out (fun ad v hav hb=>?_),AL.out,⟨x.wP.lower lw,x.pass.lower lw,x.mP.lower lw,x.asks.lower lw,x.codes.lower lw,x.filters.lower lw⟩,(OW.out.keep (fun k hb hk=>zde (by have:=S2.out;omega))).lower lw⟩,below_setRow B4.out (Nat.le_refl _) _⟩;rw [cell_setRow_other _ _ _ _ (by have:=S2.out;omega)];exact hav
theorem came_nil {w:World} {l k:Nat} {z:Nat->Int} (h:Came w none l k z):l=0/\k=0:=by
 obtain ⟨_,_,⟨_,h1,h2⟩|⟨_,h,_⟩⟩:=h;· exact ⟨h1,h2⟩
 · cases h
theorem came_own {w:World} {base n:Nat} {a:Option Addr} {c:Nat} {z:Nat->Int} (h:w.ownsRow base 5 1 (.slice a n c) n (cellsOf z n)) (hz:∀ i,0<=z i/\z i<=255):Came w a n c z:=by
 rcases h.2 with ⟨e,hl⟩|⟨g,cap,cur,e,_,hb,hc,_,_,ht⟩
 · cases e
   exact ⟨Nat.le_refl _,hz,.inl ⟨rfl,rfl,rfl⟩⟩
 ·
  cases e;refine ⟨hc,hz,.inr ⟨_,rfl,fun i hi=>?_⟩⟩;rw [za9,Nat.zero_add];have q:(cellsOf z n)[i]?=some (.int .u8 (z i)):=by simp [cellsOf,hi]
  rw [<-ht,List.getElem?_take] at q;simp only [Nat.mul_one,hi,if_true,Array.getElem?_toList] at q;simp [World.cell?,hb,q]
set_option maxHeartbeats 1000000
theorem head_nil (most:Int) (w:World):Calls Tryz.prog 138 #[.slice none 0 0,.int .i64 most] w fun e w'=>e = .returned (.tuple #[.int .i64 0,.int .i64 0,.nilIface])/\w'=w:=by
 go_enter Tryz.func138,Tryz.ntmps138;go_wp2;go_step3;go_wp2;try rw [Exit.noGoto_ret]
 go_ret3;exact ⟨rfl,rfl⟩
theorem decode_nil (most:Int) (w:World):Calls Tryz.prog 89 #[.slice none 0 0,.int .i64 most] w fun e w'=>DecIs w w' e .more:=by
 obtain ⟨W1,hW1⟩:∃ W,W=w.alloc (.cells (pkCells (blank 0)) 29):=⟨_,rfl⟩;have B1:Hid (Below w.heap.size w W1):=by show Below _ _ _;rw [hW1];exact (Below.refl _ _).alloc (Nat.le_refl _) _
 have Z1:Hid (W1.heap[w.heap.size]?=some (.cells (pkCells (blank 0)) 29 (0,0))):=by show _=_;rw [hW1];exact heap_alloc_new w _
 go_enter Tryz.func89,Tryz.ntmps89;go_upto_region 1 with fail;have eW:w.alloc (.cells #[.int .i64 0,.int .i64 0,.bool false,.int .i64 0,.string ⟨#[]⟩,.bool false,.string ⟨#[]⟩,.slice none 0 0,.int .i64 0,.bool false,.bool false,.string ⟨#[]⟩,.bool false,.slice none 0 0,.bool false,.int .i64 0,.bool false,.string ⟨#[]⟩,.slice none 0 0,.int .i64 0,.bool false,.int .i64 0,.slice none 0 0,.slice none 0 0,.slice none 0 0] 29)=W1:=hW1.symm;rw [eW];clear eW hW1;go_wp2_with fail;go_must (go_at_call 138);refine (head_nil _ W1).mono ?_;rintro e w' ⟨rfl,hee⟩;obtain rfl:=hee.symm;clear hee;go_wp2_with (first | (refine zaf rfl 29 _ rfl (pkCells (blank 0)) built_zero ?_)|(refine wpList_store_row rfl 29 _ _ rfl w.heap.size (pkCells (blank 0)) rfl rfl 29 (pkCells (blank 0)) Z1.out zaa rfl (pk_one _) ?_));rw [setRow_self W1 w.heap.size _ 29 (0,0) Z1.out];refine bodyPost_ret (zap rfl _ _ w.heap.size 29 (pkCells (blank 0)) (0,0) _ rfl Z1.out Tryz.underlying29 rfl zaa) rfl ?_;exact ⟨rfl,B1.out⟩
def Plain (ao:Option Addr):Prop:=∀ ad,ao=some ad->∃ g off,ad=⟨g,off,none⟩
theorem decode_came (ao:Option Addr) (n cpb:Nat) (z:Nat->Int) (most:Int) (w:World) (hc:Came w ao n cpb z) (hp:Plain ao) (hn:n<=700000) (hg:Gd w) :
 Calls Tryz.prog 89 #[.slice ao n cpb,.int .i64 most] w fun e w'=>DecIs w w' e (decP z n most):=by
 cases ao with
 | none =>
  obtain ⟨rfl,rfl⟩:=came_nil hc;have e:decP z 0 most = .more:=by simp [decP,headP,decH]
  rw [e];exact decode_nil most w
 | some ad => obtain ⟨g,off,rfl⟩:=hp ad rfl;exact decode_any g off n cpb z most w hc hn hg
theorem same_alike (p q q':Pk) (c:Cn) (w:World) (h:Alike q p) (h':Alike q' p) (hi:In w q c) (hi':In w q' c) (hs:Small p c) :
 Calls Tryz.prog 11 #[.agg (pkCells q),.agg (pkCells q')] w fun e w'=>e = .returned (.bool true)/\Below w.heap.size w w':=by
 have hs':Small q' c:=zbo h' hs;obtain ⟨s1,s2,s3,s4,s5,s6,rfl,h1,h2,h3,h4,h5,h6⟩:=h;obtain ⟨t1,t2,t3,t4,t5,t6,rfl,g1,g2,g3,g4,g5,g6⟩:=h';exact Pkt.rsame_eq { p with wP:=t1,pass:=t2,mP:=t3,asks:=t4,codes:=t5,filters:=t6 } c s1 s2 s3 s4 s5 s6 w hi' hi (h1.trans g1.symm) (h2.trans g2.symm) (h3.trans g3.symm) (h4.trans g4.symm) (h5.trans g5.symm) (h6.trans g6.symm) hs'
section
variable {z:Nat->Int} {n:Nat}
theorem errOut_err {y:Rs×Pk×Cn} {x:Int×Int} (h:errOut y = .error x):x.2≠0:=by
 unfold errOut at h;split at h;· rename_i hq;cases h;exact hq
 · cases h
theorem connect_err {r:Rs} {p:Pk} {c:Cn} {x:Int×Int} (h:connectP z n r p c = .error x):x.2≠0:=by
 unfold connectP at h;split at h;· cases h;simp
 split at h;· cases h;simp
 unfold cMid cEnd at h;split at h;· rename_i hq;cases h;exact hq
 · cases h
theorem connack_err {r:Rs} {p:Pk} {c:Cn} {x:Int×Int} (h:connackP z n r p c = .error x):x.2≠0:=by
 unfold connackP at h;split at h;· cases h;simp
 split at h;· rename_i hq;cases h;exact hq
 · cases h
theorem into_err {r:Rs} {k fl:Int} {c:Cn} {x:Int×Int} (h:intoP z n r k c fl = .error x):x.2≠0:=by
 unfold intoP at h;split at h;· exact connect_err h
 split at h;· exact connack_err h
 repeat (first | exact errOut_err h | split at h)
theorem pack_err {h:Nat} {x:Int×Int} (e:packP z n h = .error x):x.2≠0:=by
 unfold packP at e;split at e;· rename_i y hy;cases e;exact into_err hy
 ·
  split at e;· cases e
  · rename_i hc;cases e;intro q;have q':((ck TT _ _:Nat):Int)=0:=q;exact hc (by omega)
theorem pack_ok {h:Nat} {y:Pk×Cn} (hn:n<=700000) (hh:h<=n) (e:packP z n h = .ok y):Small y.1 y.2:=by
 unfold packP at e;split at e;· cases e
 ·
  rename_i y' hy;split at e;· cases e;exact zcd hn hh hy
  · cases e
theorem len_err (most:Int) (f k:Nat) (acc:Int) {a b:Int} {x:Int×Int} (h:lenF z n most f k acc=(a,b,some x)):x.2≠0:=by
 induction f generalizing k acc with
 | zero=>cases h;decide;| succ f ih =>
  unfold lenF at h;split at h;· cases h
  split at h
  · split at h
    · cases h;simp
    · cases h
  · exact ih _ _ h
theorem head_err (most:Int) {a b:Int} {x:Int×Int} (h:headP z n most=(a,b,some x)):x.2≠0:=by
 unfold headP at h;split at h;· cases h
 split at h;· rename_i hf;cases h;exact hf
 · exact len_err most 4 1 0 h
theorem dec_fault (most:Int) {x:Int×Int} (h:decP z n most = .fault x):x.2≠0:=by
 unfold decP at h;cases e:headP z n (clampM most) with | mk hd t =>
  obtain ⟨l,o⟩:=t;rw [e] at h;cases o with
  | some y=>cases h;exact head_err _ e;| none =>
   unfold decH at h;simp only at h;split at h;· cases h
   · split at h
     · rename_i y hy;cases h;exact pack_err hy
     · cases h
theorem dec_ok (most:Int) (hz:∀ i,0<=z i/\z i<=255) (hn:n<=700000) {p:Pk} {c:Cn} {N:Nat} (h:decP z n most = .ok p c N):0<N/\N<=n/\Small p c:=by
 unfold decP at h;cases e:headP z n (clampM most) with | mk hd t =>
  obtain ⟨l,o⟩:=t;rw [e] at h;cases o with
  | some y=>cases h;| none =>
   unfold decH at h;simp only at h;split at h;· cases h
   ·
    rename_i hc;split at h;· cases h
    · rename_i y hy;have h0:hd≠0:=fun q=>hc (.inl q);obtain ⟨j,a1,a2,a3,a4,_⟩:=zdN z n _ hz hd l e h0;have hl:¬ (n:Int)-hd<l:=fun q=>hc (.inr q);cases h;refine ⟨by omega,by omega,pack_ok (by omega) (by omega) hy⟩
end
theorem own_plain {w:World} {base n m c:Nat} {ao:Option Addr} {xs:List Value} (h:w.ownsRow base 5 1 (.slice ao n c) m xs):Plain ao:=by
 intro ad e;rcases h.2 with ⟨q,_⟩|⟨g,cap,cur,q,_⟩;· injection q with q1;rw [q1] at e;cases e
 · injection q with q1;rw [q1] at e;cases e;exact ⟨_,_,rfl⟩
end Go.Proofs.YtceigllifjgalaaGreatDoor
namespace Go.Proofs.YtceigllifjgalaaGreatDoor.Dr
open Go Go.RowKit
open Pkt (Pk Cn Sl In By Is Ss As pkCells)
set_option linter.unusedSimpArgs false
set_option linter.unusedVariables false
structure Ds (w0 w:World) (mb pb:Nat) (a:Option Addr) (n cp:Nat) (z:Nat->Int) (r:Rs) (p:Pk) (c:Cn):Prop where
 rd:Rrd w mb a n cp z r
 pk:w.heap[pb]?=some (.cells (pkCells p) 29 (0,0))
 lr:mb<w0.heap.size
 lp:pb<w0.heap.size
 n1:pb≠mb
 n2:∀ g,a=some ⟨g,0,none⟩->pb≠g
 inn:In w p c
 nx:NxAll w0.heap.size p
 os:w.os=w0.os
 tape:w.tape=w0.tape
 output:w.output=w0.output
 size:w0.heap.size<=w.heap.size
 block:∀ k,k<w0.heap.size->k≠mb->k≠pb->w.heap[k]?=w0.heap[k]?
section
variable {w0 w w':World} {mb pb:Nat} {a:Option Addr} {n cp:Nat} {z:Nat->Int} {r r':Rs} {p:Pk} {c:Cn}
theorem Ds.read (h:Ds w0 w mb pb a n cp z r p c) (hr:Rrd w' mb a n cp z r') (hg:w.grownBy w' (some mb)):Ds w0 w' mb pb a n cp z r' p c where
 rd:=hr
 pk:=(hg.block pb (lt_of_block h.pk) (by simpa using h.n1)).trans h.pk
 lr:=h.lr
 lp:=h.lp
 n1:=h.n1
 n2:=h.n2
 inn:=In.keep h.inn h.nx (zb8 hg h.lr)
 nx:=h.nx
 os:=hg.os.trans h.os
 tape:=hg.tape.trans h.tape
 output:=hg.output.trans h.output
 size:=Nat.le_trans h.size hg.size
 block:=fun k hk h1 h2=>(hg.block k (Nat.lt_of_lt_of_le hk h.size) (by simpa using h1)).trans (h.block k hk h1 h2)
theorem Rrd.below (h:Rrd w mb a n cp z r) (hb:Below w.heap.size w w'):Rrd w' mb a n cp z r:=h.next (gb_bel hb) (h.rr.below hb) h.le
theorem Ds.below (h:Ds w0 w mb pb a n cp z r p c) (hb:Below w.heap.size w w'):Ds w0 w' mb pb a n cp z r p c:=h.read (h.rd.below hb) (gb_bel hb)
theorem Rrd.other {i:Nat} {v:Value} (h:Rrd w mb a n cp z r) (n1:pb≠mb) (n2:∀ g,a=some ⟨g,0,none⟩->pb≠g):Rrd (w.setCell ⟨pb,i,none⟩ v) mb a n cp z r:=by
 refine ⟨?_,?_,h.ba,h.le,h.few⟩;· have:=h.rr;unfold Rr at this ⊢;rw [Below.heap_setCell w _ v mb (by show mb≠pb;exact Ne.symm n1)];exact this
 ·
  obtain ⟨h1,h2,h3 | ⟨ad,e,hc⟩⟩:=h.cm;· exact ⟨h1,h2,.inl h3⟩
  ·
   refine ⟨h1,h2,.inr ⟨ad,e,fun i hi=>?_⟩⟩;have hx:=hc i hi;rcases h.ba with q | ⟨g,q,-⟩;· rw [q] at e;cases e
   · rw [q] at e;cases e;rw [za9] at hx ⊢;unfold World.cell? at hx ⊢;rw [Below.heap_setCell w _ v g (by show g≠pb;exact Ne.symm (n2 g q))];exact hx
theorem Ds.set (h:Ds w0 w mb pb a n cp z r p c) (i:Nat) (v:Value) (p':Pk) (c':Cn) (hp:(pkCells p).setIfInBounds i v=pkCells p') (hin:Keep w0.heap.size w (w.setCell ⟨pb,i,none⟩ v)->In (w.setCell ⟨pb,i,none⟩ v) p' c') (hnx:NxAll w0.heap.size p'):Ds w0 (w.setCell ⟨pb,i,none⟩ v) mb pb a n cp z r p' c' where
 rd:=h.rd.other h.n1 h.n2
 pk:=by rw [<-hp];exact zag h.pk v
 lr:=h.lr
 lp:=h.lp
 n1:=h.n1
 n2:=h.n2
 inn:=hin (zbC h.lp)
 nx:=hnx
 os:=h.os
 tape:=h.tape
 output:=h.output
 size:=by
  have:(w.setCell ⟨pb,i,none⟩ v).heap.size=w.heap.size:=by simp [World.setCell]
  rw [this];exact h.size
 block:=fun k hk h1 h2=>(Below.heap_setCell w _ v k (by show k≠pb;exact h2)).trans (h.block k hk h1 h2)
theorem Ds.cell (h:Ds w0 w mb pb a n cp z r p c) (k:Nat) (v:Value) (hk:(pkCells p)[k]?=some v):w.cell? ⟨pb,k,none⟩=some v:=by simp [World.cell?,h.pk,hk]
theorem Ds.frozen (h:Ds w0 w mb pb a n cp z r p c) (k:Nat):w.frozen? ⟨pb,k,none⟩=false:=by simp [World.frozen?,h.pk]
theorem Ds.setS (h:Ds w0 w mb pb a n cp z r p c) (i:Nat) (v:Value) (p':Pk) (hp:(pkCells p).setIfInBounds i v=pkCells p') (e1:p'.wP=p.wP) (e2:p'.pass=p.pass) (e3:p'.mP=p.mP) (e4:p'.asks=p.asks) (e5:p'.codes=p.codes) (e6:p'.filters=p.filters):Ds w0 (w.setCell ⟨pb,i,none⟩ v) mb pb a n cp z r p' c := h.set i v p' c hp (fun hk=>by have q:=In.keep h.inn h.nx hk;exact ⟨by rw [e1];exact q.wP,by rw [e2];exact q.pass,by rw [e3];exact q.mP,by rw [e4];exact q.asks,by rw [e5];exact q.codes,by rw [e6];exact q.filters⟩) ⟨by rw [e1];exact h.nx.wP,by rw [e2];exact h.nx.pass,by rw [e3];exact h.nx.mP,by rw [e4];exact h.nx.asks,by rw [e5];exact h.nx.codes,by rw [e6];exact h.nx.filters⟩
theorem Ds.fr (h:Ds w0 w mb pb a n cp z r p c):Fr2 w0 w mb pb:=⟨h.os,h.tape,h.output,h.size,h.block⟩
theorem Ds.err (h:Ds w0 w mb pb a n cp z r p c):w.cell? ⟨mb,2,none⟩=some (.int .i64 r.q)/\w.cell? ⟨mb,3,none⟩=some (.int .i64 r.p):=⟨h.rd.rr.facts.2.2.1,h.rd.rr.facts.2.2.2.1⟩
theorem Ds.kept (h:Ds w0 w mb pb a n cp z r p c) {j:Nat} {o:Obj} (hj:w0.heap[j]?=some o) (h1:j≠mb) (h2:j≠pb):w.heap[j]?=some o:=(h.block j (Array.getElem?_eq_some_iff.1 hj).1 h1 h2).trans hj
theorem zcM (h:Ds w0 w mb pb a n cp z r p c):Calls Tryz.prog 210 #[.pointer (some ⟨mb,0,none⟩)] w fun e w'=>e = .returned (.int .u8 (Go.Proofs.YtceigllifjgalaaGreatDoor.rByte z n r).1)/\Ds w0 w' mb pb a n cp z (Go.Proofs.YtceigllifjgalaaGreatDoor.rByte z n r).2 p c/\0<=(Go.Proofs.YtceigllifjgalaaGreatDoor.rByte z n r).1/\(Go.Proofs.YtceigllifjgalaaGreatDoor.rByte z n r).1<=255:=by
 refine (zcU h.rd).mono ?_;rintro e w' ⟨rfl,h1,h2⟩;refine ⟨rfl,h.read h1 h2,?_⟩;have:=h.rd.cm.2.1 r.at0;unfold Go.Proofs.YtceigllifjgalaaGreatDoor.rByte;split;· simp
 ·
  split;· simp
  · exact this
theorem ds_num (h:Ds w0 w mb pb a n cp z r p c):Calls Tryz.prog 212 #[.pointer (some ⟨mb,0,none⟩)] w fun e w'=>e = .returned (.int .i64 (Go.Proofs.YtceigllifjgalaaGreatDoor.rNum z n r).1)/\Ds w0 w' mb pb a n cp z (Go.Proofs.YtceigllifjgalaaGreatDoor.rNum z n r).2 p c:=by refine (dnum_any h.rd).mono ?_;rintro e w' ⟨rfl,h1,h2⟩;exact ⟨rfl,h.read h1 h2⟩
theorem zcR (h:Ds w0 w mb pb a n cp z r p c):Calls Tryz.prog 211 #[.pointer (some ⟨mb,0,none⟩)] w fun e w'=>e = .returned (.string (rText z n r).1)/\Ds w0 w' mb pb a n cp z (rText z n r).2 p c:=by refine (zcO h.rd).mono ?_;rintro e w' ⟨rfl,h1,h2⟩;exact ⟨rfl,h.read h1 h2⟩
theorem ds_end (h:Ds w0 w mb pb a n cp z r p c):Calls Tryz.prog 215 #[.pointer (some ⟨mb,0,none⟩)] w fun e w'=>e = .returned (.tuple #[])/\Ds w0 w' mb pb a n cp z (Go.Proofs.YtceigllifjgalaaGreatDoor.rEnd n r) p c:=by refine (dend_any h.rd).mono ?_;rintro e w' ⟨rfl,h1,h2⟩;exact ⟨rfl,h.read h1 h2⟩
theorem ds_at (h:Ds w0 w mb pb a n cp z r p c):Calls Tryz.prog 250 #[.pointer (some ⟨mb,0,none⟩)] w fun e w'=>e = .returned (.int .i64 r.at0)/\w'=w:=zbX h.rd
theorem zeU (h:Ds w0 w mb pb a n cp z r p c):Calls Tryz.prog 251 #[.pointer (some ⟨mb,0,none⟩)] w fun e w'=>∃ s:Sl,e = .returned (.slice s.a s.n s.c)/\Nx w0.heap.size s/\s.n=(rData z n r).1.1/\By w' s (rData z n r).1.2/\Ds w0 w' mb pb a n cp z (rData z n r).2 p c:=by refine (ddata_any h.rd).mono ?_;rintro e w' ⟨⟨s,rfl,hs⟩,h1,h2⟩;exact ⟨s,rfl,fun b off e=>Nat.le_trans h.size (hs.2.2 b off e),hs.1,hs.2.1,h.read h1 h2⟩
theorem zfe (h:Ds w0 w mb pb a n cp z r p c):Calls Tryz.prog 213 #[.pointer (some ⟨mb,0,none⟩)] w fun e w'=>∃ s:Sl,e = .returned (.slice s.a s.n s.c)/\Nx w0.heap.size s/\s.n=(rRest z n r).1.1/\By w' s (rRest z n r).1.2/\Ds w0 w' mb pb a n cp z (rRest z n r).2 p c:=by refine (drest_any h.rd).mono ?_;rintro e w' ⟨⟨s,rfl,hs⟩,h1,h2⟩;exact ⟨s,rfl,fun b off e=>Nat.le_trans h.size (hs.2.2 b off e),hs.1,hs.2.1,h.read h1 h2⟩
theorem Ds.setW (h:Ds w0 w mb pb a n cp z r p c) {s:Sl} {y:Nat->Int} (hn:Nx w0.heap.size s) (hb:By w s y):Ds w0 (w.setCell ⟨pb,7,none⟩ (.slice s.a s.n s.c)) mb pb a n cp z r { p with wP:=s } { c with wz:=y } := h.set 7 _ _ _ rfl (fun hk=>by have q:=In.keep h.inn h.nx hk;exact ⟨By.keep hb hn hk,q.pass,q.mP,q.asks,q.codes,q.filters⟩) ⟨hn,h.nx.pass,h.nx.mP,h.nx.asks,h.nx.codes,h.nx.filters⟩
theorem Ds.setP (h:Ds w0 w mb pb a n cp z r p c) {s:Sl} {y:Nat->Int} (hn:Nx w0.heap.size s) (hb:By w s y):Ds w0 (w.setCell ⟨pb,13,none⟩ (.slice s.a s.n s.c)) mb pb a n cp z r { p with pass:=s } { c with pz:=y } := h.set 13 _ _ _ rfl (fun hk=>by have q:=In.keep h.inn h.nx hk;exact ⟨q.wP,By.keep hb hn hk,q.mP,q.asks,q.codes,q.filters⟩) ⟨h.nx.wP,hn,h.nx.mP,h.nx.asks,h.nx.codes,h.nx.filters⟩
theorem Ds.setM (h:Ds w0 w mb pb a n cp z r p c) {s:Sl} {y:Nat->Int} (hn:Nx w0.heap.size s) (hb:By w s y):Ds w0 (w.setCell ⟨pb,18,none⟩ (.slice s.a s.n s.c)) mb pb a n cp z r { p with mP:=s } { c with mz:=y } := h.set 18 _ _ _ rfl (fun hk=>by have q:=In.keep h.inn h.nx hk;exact ⟨q.wP,q.pass,By.keep hb hn hk,q.asks,q.codes,q.filters⟩) ⟨h.nx.wP,h.nx.pass,hn,h.nx.asks,h.nx.codes,h.nx.filters⟩
end
def DOut (w0 w':World) (e:Ending) (mb pb:Nat) (a:Option Addr) (n cp:Nat) (z:Nat->Int):Except (Int×Int) (Rs×Pk×Cn)->Prop | .error x=>e = .returned (.agg #[.int .i64 x.1,.int .i64 x.2])/\Fr2 w0 w' mb pb/\∃ q:Pk,w'.heap[pb]?=some (.cells (pkCells q) 29 (0,0)) | .ok y=>e = .returned (.agg #[.int .i64 0,.int .i64 0])/\∃ q:Pk,Ds w0 w' mb pb a n cp z y.1 q y.2.2/\Alike q y.2.1
end Go.Proofs.YtceigllifjgalaaGreatDoor.Dr
namespace Go.Proofs.YtceigllifjgalaaGreatDoor.Bk
open Go Go.RowKit
open Pkt (Pk Cn Sl In By Is Ss As pkCells Small)
set_option linter.unusedSimpArgs false
set_option linter.unusedVariables false
theorem ow_get {B e k:Nat} {w:World} {s:Sl} {L:List Value} (h:w.ownsRow B e k (.slice s.a s.n s.c) s.n L) {b off:Nat} (ea:s.a=some ⟨b,off,none⟩) {j:Nat} (hj:j<s.n*k):w.cell? ⟨b,off+j,none⟩=L[j]?:=by
 rcases h.2 with ⟨q,_⟩|⟨g,cap,cur,q,_,hg,_,_,_,ht⟩
 · injection q with q1 q2 q3
   rw [q1] at ea;cases ea
 · injection q with q1 q2 q3;rw [q1] at ea;cases ea;rw [<-ht,List.getElem?_take_of_lt hj,Nat.zero_add];simp [World.cell?,hg]
theorem ow_len {B e k:Nat} {w:World} {s:Sl} {L:List Value} (h:w.ownsRow B e k (.slice s.a s.n s.c) s.n L):L.length=s.n*k:=h.1
section
variable {B:Nat} {w:World} {s:Sl}
theorem low {e k:Nat} {L:List Value} (h:w.ownsRow B e k (.slice s.a s.n s.c) s.n L):w.ownsRow 0 e k (.slice s.a s.n s.c) s.n L:=by
 refine ⟨h.1,?_⟩;rcases h.2 with q | ⟨g,cap,cur,q,_,r⟩;· exact .inl q
 · exact .inr ⟨g,cap,cur,q,Nat.zero_le _,r⟩
theorem mem_at {L:List Value} {u:Value} (h:u ∈ L):∃ j,j<L.length/\L[j]?=some u:=by obtain ⟨j,hj,e⟩:=List.mem_iff_getElem.1 h;exact ⟨j,hj,by rw [List.getElem?_eq_getElem hj,e]⟩
theorem li_by {z:Nat->Int} (ho:Ow B 5 1 w s) (hb:By w s z) (hn:s.n<=1000000):Li kB w (.slice s.a s.n s.c):=by
 obtain ⟨L,h⟩:=ho;refine ⟨_,_,_,L,rfl,low h,fun u hu=>?_,by omega⟩;obtain ⟨j,hj,e⟩:=mem_at hu;have hl:=ow_len h;rcases hb.2.2 with h0 | ⟨b,off,ea,hc⟩;· rw [h0] at hl;omega
 · rw [<-ow_get h ea (by omega),hc j (by omega)] at e
   exact ⟨z j,(Option.some.inj e).symm⟩
theorem li_is {z:Nat->Int} (ho:Ow B 3 1 w s) (hb:Is w s z) (hn:s.n<=1000000):Li kI w (.slice s.a s.n s.c):=by
 obtain ⟨L,h⟩:=ho;refine ⟨_,_,_,L,rfl,low h,fun u hu=>?_,by omega⟩;obtain ⟨j,hj,e⟩:=mem_at hu;have hl:=ow_len h;rcases hb.2 with h0 | ⟨b,off,ea,hc⟩;· rw [h0] at hl;omega
 · rw [<-ow_get h ea (by omega),hc j (by omega)] at e
   exact ⟨z j,(Option.some.inj e).symm⟩
theorem li_ss {z:Nat->ByteArray} (ho:Ow B 9 1 w s) (hb:Ss w s z) (hn:s.n<=1000000):Li kT w (.slice s.a s.n s.c):=by
 obtain ⟨L,h⟩:=ho;refine ⟨_,_,_,L,rfl,low h,fun u hu=>?_,by omega⟩;obtain ⟨j,hj,e⟩:=mem_at hu;have hl:=ow_len h;rcases hb.2 with h0 | ⟨b,off,ea,hc⟩;· rw [h0] at hl;omega
 · rw [<-ow_get h ea (by omega),hc j (by omega)] at e
   exact ⟨z j,(Option.some.inj e).symm⟩
theorem okA_of:∀ (m:Nat) (L:List Value) (f:Nat->ByteArray) (q:Nat->Int),L.length=m*2->(∀ i,i<m->L[i*2]?=some (.string (f i))/\L[i*2+1]?=some (.int .i64 (q i)))->okA L | 0,L,f,q,hl,_=>⟨[],List.eq_nil_of_length_eq_zero (by omega)⟩ | m+1,L,f,q,hl,h=>by match L,hl,h with | a::b::L,hl,h => obtain ⟨l,e⟩:=okA_of m L (fun i=>f (i+1)) (fun i=>q (i+1)) (by simp at hl;omega) (fun i hi=>by have:=h (i+1) (by omega);rw [show (i+1)*2=i*2+1+1 by omega] at this;simpa using this);have h0:=h 0 (by omega);simp at h0;exact ⟨(f 0,q 0)::l,by rw [h0.1,h0.2,e];rfl⟩ | [a],hl,h=>simp at hl;omega | [],hl,h=>simp at hl
theorem li_as {f:Nat->ByteArray} {q:Nat->Int} (ho:Ow B 98 2 w s) (hb:As w s f q) (hn:s.n<=1000000):Li kA w (.slice s.a s.n s.c):=by
 obtain ⟨L,h⟩:=ho;refine ⟨_,_,_,L,rfl,low h,?_,by omega⟩;have hl:=ow_len h;refine okA_of s.n L f q hl (fun i hi=>?_);rcases hb.2 with h0 | ⟨b,off,ea,hc⟩;· omega
 · have:=hc i hi
   exact ⟨by rw [<-ow_get h ea (by omega)];exact this.1,by rw [<-ow_get h ea (by omega)];exact this.2⟩
end
theorem bk_got {w:World} {bb N B:Nat} {V:Nat->Prop} (h:Bk w bb N V) (hN:N+6<=90000) (q:Pk) (c:Cn) (hi:In w q c) (ho:Ows B w q) (hs:Small q c) (hV:∀ k,V k->k<B) (hB:B<=w.heap.size) (mark:Int) (hI:ItS (fun k=>V k\/B<=k) w) :
 Calls Tryz.prog 15 #[.pointer (some ⟨bb,0,none⟩),.agg (pkCells q),.int .i64 mark] w fun e w'=>e = .returned (.tuple #[])/\∃ V',Bk w' bb (N+6) V'/\Ch (fun k=>V k\/B<=k) w w'/\∀ k,V' k->V k\/B<=k:=by
 have up:∀ g,T6 (.slice q.wP.a q.wP.n q.wP.c) (.slice q.pass.a q.pass.n q.pass.c) (.slice q.mP.a q.mP.n q.mP.c) (.slice q.asks.a q.asks.n q.asks.c) (.slice q.codes.a q.codes.n q.codes.c) (.slice q.filters.a q.filters.n q.filters.c) g->B<=g:=fun g e=>by
  rcases e with e | e | e | e | e | e;· exact (ho.wP.blk e).1
  · exact (ho.pass.blk e).1
  · exact (ho.mP.blk e).1
  · exact (ho.asks.blk e).1
  · exact (ho.codes.blk e).1
  · exact (ho.filters.blk e).1
 refine (bk_packet h hN _ _ _ _ _ _ _ (.slice q.wP.a q.wP.n q.wP.c) _ _ _ _ _ (.slice q.pass.a q.pass.n q.pass.c) _ _ _ _ (.slice q.mP.a q.mP.n q.mP.c) _ _ _ (.slice q.asks.a q.asks.n q.asks.c) (.slice q.codes.a q.codes.n q.codes.c) (.slice q.filters.a q.filters.n q.filters.c) mark (li_by ho.wP hi.wP hs.wp) (li_by ho.pass hi.pass hs.ps) (li_by ho.mP hi.mP hs.mp) (li_as ho.asks hi.asks hs.an) (li_is ho.codes hi.codes hs.cn) (li_ss ho.filters hi.filters hs.fn) ho.ps (fun g e r=>by have:=up g e;have:=hV g r;omega) (hI.mono (fun k e=>e.imp id (up k)))).mono ?_;rintro e w' ⟨rfl,V',h1,h2,h3⟩;refine ⟨rfl,V',h1,h2.mono (fun k _ e=>e.imp id (up k)),fun k e=>?_⟩;rcases h3 k e with (e | e) | e;· exact .inl e
 · exact .inr (up k e)
 · exact .inr (by omega)
end Go.Proofs.YtceigllifjgalaaGreatDoor.Bk
