import Derived.Test.YtpldoeeahhaimaaGreatDoorDsrb
import Derived.Test.YtpldoeeahhaimaaGreatDoorCnh
namespace Go.Proofs.YtpldoeeahhaimaaGreatDoor.Dr
open Go Go.RowKit
open Pkt (Pk Cn Sl In By Is Ss As pkCells Small ck TT)
set_option linter.all false
set_option maxRecDepth 100000
set_option maxHeartbeats 2000000
def dfC (most:Int) (v:Value) (t a e:Int):Array Value:=#[.int .i64 most,v,.int .i64 t,.int .i64 a,.int .i64 e]
def DfAt (w:World) (gb:Nat) (most:Int) (v:Value) (t a e:Int):Prop:=w.heap[gb]?=some (.cells (dfC most v t a e) 85 (0,0))
theorem DfAt.lt {w:World} {gb:Nat} {most:Int} {v:Value} {t a e:Int} (h:DfAt w gb most v t a e):gb<w.heap.size:=(Array.getElem?_eq_some_iff.1 h).1
theorem DfAt.cell {w:World} {gb:Nat} {most:Int} {v:Value} {t a e:Int} (h:DfAt w gb most v t a e) (k:Nat) (u:Value) (hk:(dfC most v t a e)[k]?=some u):w.cell? ⟨gb,k,none⟩=some u:=dcell h k u hk
theorem DfAt.frozen {w:World} {gb:Nat} {most:Int} {v:Value} {t a e:Int} (h:DfAt w gb most v t a e) (k:Nat):w.frozen? ⟨gb,k,none⟩=false:=dfroz h k
theorem DfAt.keep {w w':World} {gb:Nat} {most:Int} {v:Value} {t a e:Int} (h:DfAt w gb most v t a e) (hk:w'.heap[gb]?=w.heap[gb]?):DfAt w' gb most v t a e:=hk.trans h
theorem DfAt.setV {w:World} {gb:Nat} {most:Int} {v:Value} {t a e:Int} (h:DfAt w gb most v t a e) (v':Value):DfAt (w.setCell ⟨gb,1,none⟩ v') gb most v' t a e:=heap_set (i:=1) h v'
theorem DfAt.setT {w:World} {gb:Nat} {most:Int} {v:Value} {t a e:Int} (h:DfAt w gb most v t a e) (t':Int):DfAt (w.setCell ⟨gb,2,none⟩ (.int .i64 t')) gb most v t' a e:=heap_set (i:=2) h (.int .i64 t')
theorem dfown_ne {w:World} {gb:Nat} {most:Int} {v v0:Value} {t a e:Int} {B n:Nat} {xs:List Value} (hat:DfAt w gb most v0 t a e) (ho:w.ownsRow B 5 1 v n xs):v.ownBlock≠some gb:=by
 intro e;rcases ho.2 with ⟨rfl,_⟩|⟨g,cap,cur,rfl,_,hg,_⟩;· cases e
 ·
  have e':g=gb:=by simpa [Value.ownBlock] using e
  subst e';have h1:=hat;unfold DfAt at h1;rw [hg] at h1;simp at h1
theorem own_slice {w:World} {B e s n:Nat} {v:Value} {xs:List Value} (h:w.ownsRow B e s v n xs):∃ a c,v = .slice a n c:=by
 rcases h.2 with ⟨h1,h2⟩|⟨g,cp,_,h1,_⟩;· exact ⟨none,0,by rw [h1,h2]⟩
 · exact ⟨_,_,h1⟩
theorem dfnew_any (most:Int) (w:World):Calls Tryz.prog 33 #[.int .i64 most] w fun e w'=>e = .returned (.pointer (some ⟨w.heap.size,0,none⟩))/\w'=w.alloc (.cells (dfC most (.slice none 0 0) 0 0 0) 85):=by go_enter Tryz.func33,Tryz.ntmps33;go_wp2;go_ret;exact ⟨by simp,rfl⟩
theorem dfput_any {w:World} {gb:Nat} {most:Int} {v:Value} {t a0:Int} {B n:Nat} {z:Nat->Int} (h:DfAt w gb most v t a0 0) (ho:w.ownsRow B 5 1 v n (cellsOf z n)) (l:Sl) (zb:Nat->Int) (hl:By w l zb) (hn:n<=400000) (hln:l.n<=400000) (hB:B<=w.heap.size) :
 Calls Tryz.prog 26 #[.pointer (some ⟨gb,0,none⟩),.slice l.a l.n l.c] w fun e w'=>e = .returned (.tuple #[])/\∃ v',DfAt w' gb most v' t a0 0/\w'.ownsRow B 5 1 v' (n+l.n) (cellsOf (cat z n zb) (n+l.n))/\Ch (fun k=>k=gb\/v.ownBlock=some k) w w'/\(v'.ownBlock=v.ownBlock\/v'.ownBlock=some w.heap.size):=by
 have HF:=hidi h;have HO0:=hidi ho;have HL:=hidi hl;have HN:=hidi (show n<=400000/\l.n<=400000/\B<=w.heap.size from ⟨hn,hln,hB⟩);have c1:=h.cell 1 v rfl;have c4:=h.cell 4 (.int .i64 0) rfl;clear h hl hn hln hB ho;go_enter Tryz.func26,Tryz.ntmps26;go_wp2_with (at_builtin;refine wpList_push_any rfl (.tmp 14) (.tmp 15) rfl B n v _ rfl HO0.out l zb rfl HL.out HN.out.1 HN.out.2.1 HN.out.2.2 ?_);intro v' w1 ho hg hw;have hat:DfAt w1 gb most v t a0 0:=HF.out.keep (hg.block gb HF.out.lt (fun e=>dfown_ne HF.out HO0.out e.symm));have c1':w1.cell? ⟨gb,1,none⟩=some v:=hat.cell 1 v rfl;have z1:w1.frozen? ⟨gb,1,none⟩=false:=hat.frozen 1;have HA:=hidi (hat.setV v');have HO:Hid (w1.ownsRow B 5 1 v' (n+l.n) (cellsOf (cat z n zb) (n+l.n))):=by rw [cellsOf_cat];exact ho
 have HNE:=hidi (dfown_ne hat HO.out);have HK:Hid (Ch (fun k=>k=gb\/v.ownBlock=some k) w (w1.setCell ⟨gb,1,none⟩ v')):=by
  refine ⟨hg.os,hg.tape,hg.output,?_,fun k hk h1=>?_⟩;· have:=hg.size;simpa [World.setCell] using this
  · rw [Below.heap_setCell _ _ _ _ (fun e=>h1 (.inl e))]
    exact hg.block k hk (fun e=>h1 (.inr e.symm))
 have HW:=hidi hw;obtain ⟨av,cv,hvv⟩:=own_slice HO.out;subst hvv;clear ho hg hw hat c1 c4;go_wp2_with fail;go_end0;exact ⟨rfl,_,HA.out,ownsRow_setCell_other HO.out HNE.out _,HK.out,HW.out⟩
def okD:DecR->Option (Pk×Cn) | .ok p c _=>some (p,c) | _=>none
def DFl (q:Pk) (N:Int) (x:Int×Int):DecR->Prop | .fault y=>x.2=y.2/\y.2≠0 | .more=>q=blank 0/\N=0/\x.2=0 | .ok _ _ n=>N=n/\x.2=0
theorem doc_got {w w':World} {e:Ending} {R:DecR} (H:DocIs w w' e R) : ∃ v,e = .returned v/\∃ (q:Pk) (N:Int) (x:Int×Int),v = .tuple #[.agg (pkCells q),.int .i64 N,.agg #[.int .i64 x.1,.int .i64 x.2]]/\Hid (Got w.heap.size w' q (okD R))/\Hid (DFl q N x R)/\Hid (Below w.heap.size w w'):=by cases R with | fault y => obtain ⟨⟨t,rfl⟩,hy,hb⟩:=H;exact ⟨_,rfl,blank 0,0,(t,y.2),rfl,trivial,⟨rfl,hy⟩,hb⟩ | more => obtain ⟨rfl,hb⟩:=H;exact ⟨_,rfl,blank 0,0,(0,0),rfl,trivial,⟨rfl,rfl,rfl⟩,hb⟩ | ok p c n => obtain ⟨⟨q,rfl,h1,h2,h3⟩,hb⟩:=H;exact ⟨_,rfl,q,n,(0,0),rfl,⟨h1,h2,h3⟩,⟨rfl,rfl⟩,hb⟩
theorem came_own {w:World} {B n:Nat} {a:Option Addr} {c:Nat} {z:Nat->Int} (h:w.ownsRow B 5 1 (.slice a n c) n (cellsOf z n)) (hz:∀ i,0<=z i/\z i<=255):Came w a n c z/\(a=none\/∃ g,a=some ⟨g,0,none⟩):=by
 rcases h.2 with ⟨e,h0⟩|⟨g,cap,cur,e,_,hg,hc,_,_,ht⟩
 · cases e
   exact ⟨⟨Nat.le_refl _,hz,.inl ⟨rfl,rfl,rfl⟩⟩,.inl rfl⟩
 ·
  cases e;refine ⟨⟨hc,hz,.inr ⟨_,rfl,fun i hi=>?_⟩⟩,.inr ⟨g,rfl⟩⟩;rw [plain_add,Nat.zero_add];have q:(cellsOf z n)[i]?=some (.int .u8 (z i)):=by simp [cellsOf,hi]
  rw [<-ht,List.getElem?_take,Nat.mul_one,if_pos hi,Array.getElem?_toList] at q;simp [World.cell?,hg,q]
theorem ddecode_any {w:World} {a:Option Addr} {n cp:Nat} {z:Nat->Int} (most:Int) (hc:Came w a n cp z) (ha:a=none\/∃ g,a=some ⟨g,0,none⟩) (hn:n<=300000):Calls Tryz.prog 46 #[.slice a n cp,.int .i64 most] w fun e w'=>DocIs w w' e (decP z n most):=by
 by_cases h0:n=0;·
  subst h0;have e:decP z 0 most = .more:=by unfold decP headP;rw [if_pos rfl];rfl
  rw [e];exact ddecode_zero most a cp w
 ·
  rcases ha with rfl | ⟨g,rfl⟩
  · rcases hc.2.2 with ⟨_,e,_⟩|⟨ad,e,_⟩
    · exact absurd e h0
    · cases e
  · exact ddecode_some most hc h0 hn
end Go.Proofs.YtpldoeeahhaimaaGreatDoor.Dr
