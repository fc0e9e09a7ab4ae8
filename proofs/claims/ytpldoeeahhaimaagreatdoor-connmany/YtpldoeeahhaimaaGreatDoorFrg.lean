import Derived.Test.YtpldoeeahhaimaaGreatDoorFrd
import Derived.Test.YtpldoeeahhaimaaGreatDoorAsf
namespace Go.Proofs.YtpldoeeahhaimaaGreatDoor
open Go Go.RowKit
open Pkt (Pk Cn Sl In By pkCells Gd box_below)
set_option linter.all false
set_option maxRecDepth 100000
set_option maxHeartbeats 2000000
def Et (w:World):Prop:=w.cell? ⟨0,0,none⟩=some (.iface 137 (.agg #[.pointer (some ⟨3,65,none⟩)]))
theorem Et.below {w w':World} (h:Et w) (hb:Below w.heap.size w w'):Et w':=cell_later hb h
theorem set_fault {w:World} {fb:Nat} {most:Int} {v:Value} {d gone fa fe:Int} (a e:Int) (h:FrAt w fb most v d gone fa fe):FrAt ((w.setCell ⟨fb,4,none⟩ (.int .i64 a)).setCell ⟨fb,5,none⟩ (.int .i64 e)) fb most v d gone a e:=by unfold FrAt at h ⊢;have h1:=heap_setCell_same w fb 4 _ _ (.int .i64 a) h;have h2:=heap_setCell_same (w.setCell ⟨fb,4,none⟩ (.int .i64 a)) fb 5 _ _ (.int .i64 e) h1;rw [h2];rfl
theorem as_any (gg:Nat) (w:World) (het:Et w):Calls Tryz.prog 45 #[.iface 91 (.pointer (some ⟨gg,0,none⟩)),.iface 93 (.pointer (some ⟨w.heap.size,0,none⟩))] (w.alloc (.cells #[.pointer none] 91)) fun e w'=>e = .returned (.bool true)/\Below w.heap.size w w'/\w'.cell? ⟨w.heap.size,0,none⟩=some (.pointer (some ⟨gg,0,none⟩)):=by
 have hb:Below w.heap.size w (w.alloc (.cells #[.pointer none] 91)):=(Below.refl _ _).alloc (Nat.le_refl _) _;have hn:=heap_alloc_new w (.cells #[.pointer none] 91);refine (as_hit ⟨gg,0,none⟩ ⟨w.heap.size,0,none⟩ (.pointer none) (w.alloc (.cells #[.pointer none] 91)) (het.below hb) (box_cells hn 0 _ rfl) (frozen_of_row _ _ 0 _ _ hn)).mono ?_;rintro e w' ⟨rfl,rfl⟩;refine ⟨rfl,?_,?_⟩;· refine ⟨rfl,rfl,rfl,by simp [World.setCell];omega,fun k hk=>?_⟩;rw [Below.heap_setCell _ _ _ _ (show k≠w.heap.size by omega)];exact ((((hb.alloc (by simp) _).alloc (by simp;omega) _).alloc (by simp;omega) _).alloc (by simp;omega) _).block k hk
 ·
  have h2:∀ (W:World),W.heap[w.heap.size]?=some (.cells #[.pointer none] 91 (0,0))->(W.setCell ⟨w.heap.size,0,none⟩ (.pointer (some ⟨gg,0,none⟩))).cell? ⟨w.heap.size,0,none⟩=some (.pointer (some ⟨gg,0,none⟩)):=by intro W hW;have:=heap_setCell_same W w.heap.size 0 _ _ (.pointer (some ⟨gg,0,none⟩)) hW;simp [World.cell?,this]
  refine h2 _ ?_;refine ((((((Below.refl _ _).alloc (Nat.le_refl _) _).alloc (by simp) _).alloc (by simp) _).alloc (by simp) _).block _ ?_).trans hn;simp
theorem die_any {w:World} {fb:Nat} {most:Int} {v:Value} {d gone fa fe x y:Int} {gg:Nat} (h:FrAt w fb most v d gone fa fe) (hg:w.heap[gg]?=some (.cells #[.int .i64 x,.int .i64 y] 81 (0,0))) (het:Et w) :
 Calls Tryz.prog 43 #[.pointer (some ⟨fb,0,none⟩),.iface 91 (.pointer (some ⟨gg,0,none⟩))] w fun e w'=>e = .returned (.tuple #[])/\FrAt w' fb most (.slice none 0 0) 0 gone (wrap64 (wrap64 (gone+d)+x)) y/\Kq fb none w w':=by
 have HF:Hid (FrAt w fb most v d gone fa fe):=h;have HG:Hid (w.heap[gg]?=some (.cells #[.int .i64 x,.int .i64 y] 81 (0,0))):=hg;have HC:Hid (Calls Tryz.prog 45 #[.iface 91 (.pointer (some ⟨gg,0,none⟩)),.iface 93 (.pointer (some ⟨w.heap.size,0,none⟩))] (w.alloc (.cells #[.pointer none] 91)) fun e w'=>e = .returned (.bool true)/\Below w.heap.size w w'/\w'.cell? ⟨w.heap.size,0,none⟩=some (.pointer (some ⟨gg,0,none⟩))):=as_any gg w het;have HL:Hid (fb<w.heap.size):=FrAt.lt h;clear h hg het;go_enter Tryz.func43,Tryz.ntmps43;go_wp2_with fail;go_must (go_at_call 45);refine HC.out.mono ?_;rintro e w2 ⟨rfl,hb,hx⟩;have B2:Hid (Below w.heap.size w w2):=hb;have F2:Hid (FrAt w2 fb most v d gone fa fe):=by have h1:=HF.out;unfold FrAt at h1;show FrAt _ _ _ _ _ _ _ _;unfold FrAt;rw [hb.block fb HL.out];exact h1
 have g2:w2.heap[gg]?=some (.cells #[.int .i64 x,.int .i64 y] 81 (0,0)):=(hb.block gg (lt_of_block HG.out)).trans HG.out;clear hb;have cg:w2.cell? ⟨gg,0,none⟩=some (.int .i64 x):=by simp [World.cell?,g2]
 have ce:w2.cell? ⟨gg,1,none⟩=some (.int .i64 y):=by simp [World.cell?,g2]
 have c2:w2.cell? ⟨fb,2,none⟩=some (.int .i64 d):=F2.out.cell 2 _ rfl;have c3:w2.cell? ⟨fb,3,none⟩=some (.int .i64 gone):=F2.out.cell 3 _ rfl;have c4:w2.cell? ⟨fb,4,none⟩=some (.int .i64 fa):=F2.out.cell 4 _ rfl;have c5:w2.cell? ⟨fb,5,none⟩=some (.int .i64 fe):=F2.out.cell 5 _ rfl;have z4:w2.frozen? ⟨fb,4,none⟩=false:=Fr.frozen F2.out 4;have z5:w2.frozen? ⟨fb,5,none⟩=false:=Fr.frozen F2.out 5;clear g2;go_wp2_with fail;go_region;obtain ⟨w3,hw3⟩:∃ w3,w3=((w2.setCell ⟨fb,4,none⟩ (.int .i64 (wrap64 (wrap64 (gone+d)+x)))).setCell ⟨fb,5,none⟩ (.int .i64 y)).drew:=⟨_,rfl⟩;have F3:Hid (FrAt w3 fb most v d gone (wrap64 (wrap64 (gone+d)+x)) y):=by show FrAt _ _ _ _ _ _ _ _;rw [hw3];exact set_fault _ _ F2.out
 have K3:Hid (∀ k,k≠fb->w3.heap[k]?=w2.heap[k]?):=by intro k hk;rw [hw3];show ((w2.setCell ⟨fb,4,none⟩ _).setCell ⟨fb,5,none⟩ _).heap[k]?=_;rw [Below.heap_setCell _ _ _ _ hk,Below.heap_setCell _ _ _ _ hk]
 have E3:Hid (w3.os=w2.os/\w3.tape=w2.tape/\w3.output=w2.output/\w3.heap.size=w2.heap.size):=by rw [hw3];exact ⟨rfl,rfl,rfl,by simp [World.setCell,World.drew]⟩
 rw [<-hw3];clear hw3 cg ce c2 c3 c4 c5 z4 z5 hx;have c1:w3.cell? ⟨fb,1,none⟩=some v:=F3.out.cell 1 _ rfl;have c2:w3.cell? ⟨fb,2,none⟩=some (.int .i64 d):=F3.out.cell 2 _ rfl;have z1:w3.frozen? ⟨fb,1,none⟩=false:=Fr.frozen F3.out 1;have z2:w3.frozen? ⟨fb,2,none⟩=false:=Fr.frozen F3.out 2;go_wp2_with fail;go_end0;refine ⟨rfl,?_,?_⟩;· exact set_done 0 (set_list F3.out)
 · refine ⟨E3.out.1.trans B2.out.os,E3.out.2.1.trans B2.out.tape,E3.out.2.2.1.trans B2.out.output,?_,fun k hk h1 _=>?_⟩
   · have:=B2.out.size;have:=E3.out.2.2.2;simp [World.setCell];omega
   · rw [Below.heap_setCell _ _ _ _ h1,Below.heap_setCell _ _ _ _ h1,K3.out k h1,B2.out.block k hk]
open Pkt (Pk Cn Sl In By Is Ss As pkCells Gd KindsAt Small)
def Uses (q:Pk) (b:Nat):Prop:=∃ s:Sl,(s=q.wP\/s=q.pass\/s=q.mP\/s=q.asks\/s=q.codes\/s=q.filters)/\s.n≠0/\∃ off,s.a=some ⟨b,off,none⟩
theorem cell_congr {w w':World} {b off:Nat} (h:w'.heap[b]?=w.heap[b]?):w'.cell? ⟨b,off,none⟩=w.cell? ⟨b,off,none⟩:=by unfold World.cell?;rw [show (⟨b,off,none⟩:Addr).block=b from rfl,h]
theorem lt_of_cell {w:World} {b off:Nat} {v:Value} (h:w.cell? ⟨b,off,none⟩=some v):b<w.heap.size:=by
 rcases Nat.lt_or_ge b w.heap.size with h1 | h1;· exact h1
 · simp [World.cell?,Array.getElem?_eq_none h1] at h
theorem By.congr {w w':World} {s:Sl} {z:Nat->Int} (h:By w s z) (hu:∀ b off,s.n≠0->s.a=some ⟨b,off,none⟩->w'.heap[b]?=w.heap[b]?):By w' s z:=by
 refine ⟨h.1,h.2.1,?_⟩;by_cases h0:s.n=0;· exact .inl h0
 · obtain ⟨b,off,e,hc⟩:=h.2.2.resolve_left h0
   exact .inr ⟨b,off,e,fun i hi=>(cell_congr (hu b off h0 e)).trans (hc i hi)⟩
theorem Is.congr {w w':World} {s:Sl} {z:Nat->Int} (h:Is w s z) (hu:∀ b off,s.n≠0->s.a=some ⟨b,off,none⟩->w'.heap[b]?=w.heap[b]?):Is w' s z:=by
 refine ⟨h.1,?_⟩;by_cases h0:s.n=0;· exact .inl h0
 · obtain ⟨b,off,e,hc⟩:=h.2.resolve_left h0
   exact .inr ⟨b,off,e,fun i hi=>(cell_congr (hu b off h0 e)).trans (hc i hi)⟩
theorem Ss.congr {w w':World} {s:Sl} {z:Nat->ByteArray} (h:Ss w s z) (hu:∀ b off,s.n≠0->s.a=some ⟨b,off,none⟩->w'.heap[b]?=w.heap[b]?):Ss w' s z:=by
 refine ⟨h.1,?_⟩;by_cases h0:s.n=0;· exact .inl h0
 · obtain ⟨b,off,e,hc⟩:=h.2.resolve_left h0
   exact .inr ⟨b,off,e,fun i hi=>(cell_congr (hu b off h0 e)).trans (hc i hi)⟩
theorem As.congr {w w':World} {s:Sl} {f:Nat->ByteArray} {q:Nat->Int} (h:As w s f q) (hu:∀ b off,s.n≠0->s.a=some ⟨b,off,none⟩->w'.heap[b]?=w.heap[b]?):As w' s f q:=by
 refine ⟨h.1,?_⟩;by_cases h0:s.n=0;· exact .inl h0
 · obtain ⟨b,off,e,hc⟩:=h.2.resolve_left h0
   exact .inr ⟨b,off,e,fun i hi=>⟨(cell_congr (hu b off h0 e)).trans (hc i hi).1,(cell_congr (hu b off h0 e)).trans (hc i hi).2⟩⟩
theorem In.congr {w w':World} {q:Pk} {c:Cn} (h:In w q c) (hu:∀ b,Uses q b->w'.heap[b]?=w.heap[b]?):In w' q c where
 wP:=By.congr h.wP fun b off h0 e=>hu b ⟨_,.inl rfl,h0,off,e⟩
 pass:=By.congr h.pass fun b off h0 e=>hu b ⟨_,.inr (.inl rfl),h0,off,e⟩
 mP:=By.congr h.mP fun b off h0 e=>hu b ⟨_,.inr (.inr (.inl rfl)),h0,off,e⟩
 asks:=As.congr h.asks fun b off h0 e=>hu b ⟨_,.inr (.inr (.inr (.inl rfl))),h0,off,e⟩
 codes:=Is.congr h.codes fun b off h0 e=>hu b ⟨_,.inr (.inr (.inr (.inr (.inl rfl)))),h0,off,e⟩
 filters:=Ss.congr h.filters fun b off h0 e=>hu b ⟨_,.inr (.inr (.inr (.inr (.inr rfl)))),h0,off,e⟩
theorem In.lt {w:World} {q:Pk} {c:Cn} (h:In w q c) {b:Nat} (hu:Uses q b):b<w.heap.size:=by
 obtain ⟨s,hs,h0,off,e⟩:=hu;have one:∀ {b' off':Nat},s.a=some ⟨b',off',none⟩->b'=b:=fun e'=>by rw [e] at e';injection e' with e1;injection e1 with e2 e3;exact e2.symm
 rcases hs with rfl | rfl | rfl | rfl | rfl | rfl;· obtain ⟨b',off',e',hc⟩:=h.wP.2.2.resolve_left h0;have:=one e';subst this;exact lt_of_cell (hc 0 (by omega))
 · obtain ⟨b',off',e',hc⟩:=h.pass.2.2.resolve_left h0;have:=one e';subst this;exact lt_of_cell (hc 0 (by omega))
 · obtain ⟨b',off',e',hc⟩:=h.mP.2.2.resolve_left h0;have:=one e';subst this;exact lt_of_cell (hc 0 (by omega))
 · obtain ⟨b',off',e',hc⟩:=h.asks.2.resolve_left h0;have:=one e';subst this;exact lt_of_cell (hc 0 (by omega)).1
 · obtain ⟨b',off',e',hc⟩:=h.codes.2.resolve_left h0;have:=one e';subst this;exact lt_of_cell (hc 0 (by omega))
 · obtain ⟨b',off',e',hc⟩:=h.filters.2.resolve_left h0;have:=one e';subst this;exact lt_of_cell (hc 0 (by omega))
theorem NxAll.uses {B:Nat} {q:Pk} (h:NxAll B q) {b:Nat} (hu:Uses q b):B<=b:=by
 obtain ⟨s,hs,h0,off,e⟩:=hu;rcases hs with rfl | rfl | rfl | rfl | rfl | rfl;· exact h.wP b off e
 · exact h.pass b off e
 · exact h.mP b off e
 · exact h.asks b off e
 · exact h.codes b off e
 · exact h.filters b off e
def FS (w:World) (fb:Nat) (most:Int) (B:Nat) (rf:Option Nat) (P:Nat) (z:Nat->Int) (H:Nat):Prop := ∃ v n z0 d gone fa,Fr w fb most v B n z0 d gone fa 0/\v.ownBlock=rf/\gone+(d:Int)=(P:Int)/\n-d=H/\(∀ i,i<H->z0 (d+i)=z i)/\(∀ i,0<=z0 i/\z0 i<=255)/\0<=gone
def FD (w:World) (fb:Nat) (most:Int) (a e:Int):Prop:=∃ gone,FrAt w fb most (.slice none 0 0) 0 gone a e
def Gw (w:World):Prop:=Gd w/\Et w
theorem Gw.keep {w w':World} (h:Gw w) (hk:∀ k,k<3->w'.heap[k]?=w.heap[k]?):Gw w':=by
 refine ⟨⟨fun i hi=>?_,?_⟩,(cell_congr (hk 0 (by omega))).trans h.2⟩
 · obtain ⟨h1,h2,h3⟩:=h.1.kinds i hi
   exact ⟨(cell_congr (hk 1 (by omega))).trans h1,(cell_congr (hk 1 (by omega))).trans h2,(cell_congr (hk 1 (by omega))).trans h3⟩
 · obtain ⟨m,hm⟩:=h.1.mx
   exact ⟨m,(cell_congr (hk 2 (by omega))).trans hm⟩
theorem Gw.three {w:World} (h:Gw w):3<=w.heap.size:=by obtain ⟨m,hm⟩:=h.1.mx;have:=lt_of_cell hm;omega
theorem Gw.below {w w':World} (h:Gw w) (hb:Below w.heap.size w w'):Gw w':=h.keep fun k hk=>hb.block k (by have:=h.three;omega)
theorem FrAt.keep {w w':World} {fb:Nat} {most:Int} {v:Value} {d gone fa fe:Int} (h:FrAt w fb most v d gone fa fe) (hk:w'.heap[fb]?=w.heap[fb]?):FrAt w' fb most v d gone fa fe:=by unfold FrAt at h ⊢;rw [hk];exact h
theorem own_keep {w w':World} {B e s n:Nat} {v:Value} {xs:List Value} (h:w.ownsRow B e s v n xs) (hk:∀ k,v.ownBlock=some k->w'.heap[k]?=w.heap[k]?):w'.ownsRow B e s v n xs:=by
 refine ⟨h.1,?_⟩;rcases h.2 with h0 | ⟨g,cap,cur,rfl,h1,hg,h2⟩;· exact .inl h0
 · exact .inr ⟨g,cap,cur,rfl,h1,(hk g rfl).trans hg,h2⟩
theorem FS.keep {w w':World} {fb:Nat} {most:Int} {B:Nat} {rf:Option Nat} {P:Nat} {z:Nat->Int} {H:Nat} (h:FS w fb most B rf P z H) (h1:w'.heap[fb]?=w.heap[fb]?) (h2:∀ k,rf=some k->w'.heap[k]?=w.heap[k]?):FS w' fb most B rf P z H:=by obtain ⟨v,n,z0,d,gone,fa,hf,hr,rest⟩:=h;exact ⟨v,n,z0,d,gone,fa,⟨hf.at_.keep h1,own_keep hf.own (fun k e=>h2 k (hr ▸ e)),hf.dn⟩,hr,rest⟩
theorem FS.lt {w:World} {fb:Nat} {most:Int} {B:Nat} {rf:Option Nat} {P:Nat} {z:Nat->Int} {H:Nat} (h:FS w fb most B rf P z H):fb<w.heap.size/\∀ k,rf=some k->k<w.heap.size:=by obtain ⟨v,n,z0,d,gone,fa,hf,hr,rest⟩:=h;exact ⟨FrAt.lt hf.at_,fun k e=>(hf.own.lt k (hr ▸ e)).2⟩
theorem FS.below {w w':World} {fb:Nat} {most:Int} {B:Nat} {rf:Option Nat} {P:Nat} {z:Nat->Int} {H:Nat} (h:FS w fb most B rf P z H) (hb:Below w.heap.size w w'):FS w' fb most B rf P z H := h.keep (hb.block _ h.lt.1) (fun k e=>hb.block _ (h.lt.2 k e))
end Go.Proofs.YtpldoeeahhaimaaGreatDoor
