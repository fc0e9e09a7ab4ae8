import Derived.Test.YtceigllifjgalaaGreatDoorRows
import Derived.Test.YtceigllifjgalaaGreatDoorPPkc
import Derived.WalkSpells
import Derived.Lib.LaidTab
import Derived.Deep.Strs
namespace Go.Proofs.YtceigllifjgalaaGreatDoor.Pkt
open Go Go.RowKit
set_option linter.unusedSimpArgs false
set_option linter.unusedVariables false
def forms:List (List UInt8×Int×Int):=[([],0,0),([67,111,110,110,101,99,116],0,1023),([67,111,110,110,97,99,107],0,3072),([80,117,98,108,105,115,104],0,28672),([80,117,98,97,99,107],0,16384),([80,117,98,114,101,99],0,16384),([80,117,98,114,101,108],2,16384),([80,117,98,99,111,109,112],0,16384),([83,117,98,115,99,114,105,98,101],2,49152),([83,117,98,97,99,107],0,81920),([85,110,115,117,98,115,99,114,105,98,101],2,147456),([85,110,115,117,98,97,99,107],0,16384),([80,105,110,103,114,101,113],0,0),([80,105,110,103,114,101,115,112],0,0),([68,105,115,99,111,110,110,101,99,116],0,0)]
def form (i:Nat):List UInt8×Int×Int:=forms.getD i ([],0,0)
theorem cells_of_forms {H:Type} {enc:TypeId×Value->H} {P:Program} {w:World} {base:Nat} {sp:Nat->Bool} {held:Bool} {fuel:Nat} {t e:TypeId} {f0 f1 f2:Field} {n:Nat} {cs:List Value} {L:List (List UInt8×Int×Int)} {p:List MemPlace}
 (ht:P.underlying t=some (.array n e)) (he:P.underlying e=some (.struct #[f0,f1,f2])) (hs:P.underlying f0.type=some .string) (h1:P.underlying f1.type=some (.int .i64)) (h2:P.underlying f2.type=some (.int .i64))
 (o0:f0.offset=0) (o1:f1.offset=1) (o2:f2.offset=2) (c0:P.cellsOf f0.type=1) (c1:P.cellsOf f1.type=1) (c2:P.cellsOf f2.type=1) (hce:P.cellsOf e=3) (hct:P.cellsOf t=n*3) (h:DataW.trod enc P w base sp held fuel t cs=some (.agg (L.map fun x=>.agg [.lit (.string x.1),.lit (.int .i64 x.2.1),.lit (.int .i64 x.2.2)]),p)) :
 ∀ i x,L[i]?=some x->∃ s:ByteArray,cs[i*3]?=some (.string s)/\s.data.toList=x.1/\cs[i*3+1]?=some (.int .i64 x.2.1)/\cs[i*3+2]?=some (.int .i64 x.2.2):=by cases fuel with
 | zero=>simp [DataW.trod] at h;| succ fuel =>
  simp only [DataW.trod,ht,hce,hct] at h;split at h
  · rename_i hl
    obtain ⟨xs,hm,hx⟩:=Option.map_eq_some_iff.1 h;have hxs:xs.map (·.1)=L.map fun x=>(DataW.agg [.lit (.string x.1),.lit (.int .i64 x.2.1),.lit (.int .i64 x.2.2)]:DataW H):=by have:=congrArg Prod.fst hx;simpa using this
    have hxl:xs.length=n:=by simpa using Lib.mapM_length hm
    have hLl:L.length=n:=by have:=congrArg List.length hxs;simp at this;omega
    intro i x hix;have hi:i<n:=by rw [<-hLl];exact (List.getElem?_eq_some_iff.1 hix).1
    obtain ⟨b,hb,hf⟩:=Lib.mapM_at hm i i (by simp [hi]);have hbx:b.1 = .agg [.lit (.string x.1),.lit (.int .i64 x.2.1),.lit (.int .i64 x.2.2)]:=by
     have e1:(xs.map (·.1))[i]?=some b.1:=by simp [hb]
     rw [hxs] at e1;simpa [hix] using e1.symm
    obtain ⟨y0,y1,y2,m,hy,_,t0,t1,t2⟩:=Deep.trod_struct3 he hf;rw [o0,c0] at t0;rw [o1,c1] at t1;rw [o2,c2] at t2;obtain ⟨s,hs1,hs2,_⟩:=DataW.trod_string hs t0;obtain ⟨z1,hz1,hz2,_⟩:=DataW.trod_int h1 t1;obtain ⟨z2,hw1,hw2,_⟩:=DataW.trod_int h2 t2;rw [hy,hs2,hz2,hw2] at hbx;simp at hbx;obtain ⟨b1,b2,b3⟩:=hbx;refine ⟨s,?_,b1,?_,?_⟩
    · have:=congrArg (·[0]?) hs1
      simpa [List.getElem?_take,List.getElem?_drop] using this
    · have:=congrArg (·[0]?) hz1
      rw [<-b2];simpa [List.getElem?_take,List.getElem?_drop,Nat.add_comm] using this
    · have:=congrArg (·[0]?) hw1
      rw [<-b3];simpa [List.getElem?_take,List.getElem?_drop,Nat.add_comm] using this
  · cases h
def KindsAt (w:World):Prop:=∀ i,i<15->(w.cell? ⟨0,i*3,none⟩=some (.string ⟨(form i).1.toArray⟩)/\w.cell? ⟨0,i*3+1,none⟩=some (.int .i64 (form i).2.1)/\w.cell? ⟨0,i*3+2,none⟩=some (.int .i64 (form i).2.2))
theorem Tryz.gk:Tryz.prog.globalNamed "crier/packet.kinds" = some 0:=by kernel_rfl
theorem Tryz.gkt:(Tryz.prog.globals[0]?).map (·.type)=some 257:=by kernel_rfl
theorem zc4 {W:World} (h:laidMetH Tryz.prog [("crier/packet.kinds",Rows.laid_crier_packet_kinds)] W):KindsAt W:=by
 have h':laidMet Tryz.prog [("crier/packet.kinds",Rows.laid_crier_packet_kinds)] W:=h;obtain ⟨ps,⟨g',t',cs,fuel,p,q,hg',ht',hvar,hd,_,_⟩,_⟩:=h';obtain rfl:=Option.some.inj (Tryz.gk.symm.trans hg');obtain rfl:=Option.some.inj (Tryz.gkt.symm.trans ht');have hx:=cells_of_forms (L:=forms) Tryz.underlying257 Tryz.underlying256 Tryz.underlying9 Tryz.underlying3 Tryz.underlying3 rfl rfl rfl (by kernel_rfl) (by kernel_rfl) (by kernel_rfl) (by kernel_rfl) (by kernel_rfl) hd;intro i hi;have hf:forms[i]?=some (form i):=by have:i<forms.length:=hi;simp [form,List.getD,this]
 obtain ⟨s,e1,e2,e3,e4⟩:=hx i _ hf;have hs:s=⟨(form i).1.toArray⟩:=by rw [<-e2]
 refine ⟨?_,?_,?_⟩;· rw [World.var?_cell Tryz.gk hvar (i*3),<-hs];simpa using e1
 · rw [World.var?_cell Tryz.gk hvar (i*3+1)];simpa using e3
 · rw [World.var?_cell Tryz.gk hvar (i*3+2)];simpa using e4
theorem KindsAt.below {w w':World} (h:KindsAt w) (hb:Below w.heap.size w w'):KindsAt w':=fun i hi => ⟨cell_later hb (h i hi).1,cell_later hb (h i hi).2.1,cell_later hb (h i hi).2.2⟩
end Go.Proofs.YtceigllifjgalaaGreatDoor.Pkt
