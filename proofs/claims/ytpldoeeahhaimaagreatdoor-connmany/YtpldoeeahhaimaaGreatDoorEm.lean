import Derived.Test.YtpldoeeahhaimaaGreatDoorNb
import Derived.Deep.SlicePairs
namespace Go.Proofs.YtpldoeeahhaimaaGreatDoor.Dr
open Go Go.RowKit Go.ChangeShapes Go.WideShapes
open Pkt (Pk Cn Sl In By Is Ss As pkCells Small ck TT)
open Co (inC)
set_option linter.all false
set_option maxRecDepth 100000
section
variable {H:Type} {enc:TypeId×Value->H} {W:World} {base:Nat} {held:Bool}
def Wk (t:TypeId) (d:DataW H):Prop:=∀ x ∈ d.weights Tryz.prog t,x<=reachBytes
theorem wtrod_field {t:TypeId} {fs:Array Field} {fuel:Nat} {cs:List Value} {x:DataW H×List MemPlace} (ht:Tryz.prog.underlying t=some (.struct fs)) (h:DataW.trod enc Tryz.prog W base (fun _=>true) held fuel t cs=some x) (hw:Wk t x.1)
 (i ty off size:Nat) (hf:∃ f,fs[i]?=some f/\f.type=ty/\f.offset=off) (hs:Tryz.prog.cellsOf ty=size):∃ n y,DataW.trod enc Tryz.prog W base (fun _=>true) held n ty ((cs.drop off).take size)=some y/\Wk ty y.1:=by
 obtain ⟨xs,n,_,hx0,_,hl,hx⟩:=DataW.trod_struct ht h;obtain ⟨f,hf,rfl,rfl⟩:=hf;subst hs;have hi:i<fs.size:=(Array.getElem?_eq_some_iff.1 hf).1;refine ⟨n,xs[i]'(by omega),by rw [hx i f hf,List.getElem?_eq_getElem],fun z hz=>hw z ?_⟩;rw [hx0];have e:(DataW.agg (xs.map (·.1)):DataW H).weights Tryz.prog t=DataW.weightsEach Tryz.prog (fs.toList.map (·.type)) (xs.map (·.1)):=by simp [DataW.weights,ht]
 rw [show ((DataW.agg (xs.map (·.1)):DataW H),xs.flatMap (·.2)).1=DataW.agg (xs.map (·.1)) from rfl,e];refine DataW.weights_mem_each (j:=i) (t:=f.type) (d:=(xs[i]'(by omega)).1) ?_ ?_ z hz;· simp [hf]
 · simp [show i<xs.length by omega]
theorem wk_len {t e:TypeId} {el sp:List (DataW H)} (ht:Tryz.prog.underlying t=some (.slice e)) (hw:Wk t (.slice el sp)):(el.length+sp.length)*Tryz.prog.bytesOf e<=reachBytes:=hw _ (by simp [DataW.weights,ht])
theorem wk_all {e:TypeId}:∀ {el:List (DataW H)} {d:DataW H},d ∈ el->∀ x ∈ d.weights Tryz.prog e,x ∈ DataW.weightsAll Tryz.prog e el
 | d0::r,d,hd,x,hx=>by
  rw [DataW.weightsAll];rcases List.mem_cons.1 hd with rfl | h;· exact List.mem_append.2 (.inl hx)
  · exact List.mem_append.2 (.inr (wk_all h x hx))
theorem wk_elem {t e:TypeId} {el sp:List (DataW H)} {d:DataW H} (ht:Tryz.prog.underlying t=some (.slice e)) (hw:Wk t (.slice el sp)) (hd:d ∈ el):Wk e d:=fun x hx=>hw x (by have:=wk_all hd x hx;simp only [DataW.weights,ht];exact List.mem_cons_of_mem _ (List.mem_append.2 (.inl this)))
theorem plain_cell {x:Addr} {v:Value} (h:W.cell? (x.add 0)=some v):∃ b off,x=⟨b,off,none⟩:=by
 obtain ⟨b,off,spot⟩:=x;cases spot with
 | none=>exact ⟨b,off,rfl⟩;| some s => unfold World.cell? Addr.add at h;simp at h;split at h <;> simp at h
theorem bytes5:Tryz.prog.bytesOf 5=1:=by kernel_rfl
theorem bytes3:Tryz.prog.bytesOf 3=8:=by kernel_rfl
theorem bytes9:Tryz.prog.bytesOf 9=16:=by kernel_rfl
theorem bytes99:Tryz.prog.bytesOf 99=24:=by kernel_rfl
theorem reach_is:reachBytes=140737488351232:=by decide
theorem by_rd {s:Sl} {z:Nat->Int} (h:By W s z):Rd W s 1:=by
 rcases h.2.2 with e | ⟨b,off,e1,e2⟩;· exact .inl e
 · exact .inr ⟨b,off,fun j=>.int .u8 (z j),e1,fun j hj=>⟨e2 j (by omega),rfl⟩⟩
theorem sby {v:Value} {n:Nat} {y:DataW H×List MemPlace} (h:DataW.trod enc Tryz.prog W base (fun _=>true) held n 32 [v]=some y) (hw:Wk 32 y.1):∃ s z,v = .slice s.a s.n s.c/\By W s z/\s.n<=140737488351232:=by
 rcases open_ints Tryz.underlying32 Tryz.underlying5 (by kernel_rfl) h with ⟨hcs,_⟩|⟨x,l,c,zs,hcs,_,hl,hm,hz,hy,hcell,hwz⟩
 · simp only [List.cons.injEq,and_true] at hcs
   exact ⟨⟨none,0,0⟩,fun _=>0,hcs,⟨Nat.le_refl _,fun _=>⟨Int.le_refl 0,by show (0:Int)<=255;decide⟩,.inl rfl⟩,Nat.zero_le _⟩
 ·
  simp only [List.cons.injEq,and_true] at hcs;simp at hz;rw [hy] at hw;have hb:=wk_len Tryz.underlying32 hw;rw [bytes5,reach_is] at hb;simp only [lits,List.length_map,List.length_take,List.length_drop] at hb;refine ⟨⟨some x,l,c⟩,fun i=>zs.getD i 0,hcs,⟨hl,fun i=>?_,?_⟩,by show l<=_;omega⟩;·
   by_cases hi:i<zs.length;·
    have:=hwz (zs.getD i 0) (by simp [List.getD,hi]);simp only [Lit.wf,Bool.and_eq_true,decide_eq_true_eq] at this;have e1:IntKind.u8.min=0:=by decide
    have e2:IntKind.u8.max=255:=by decide
    rw [e1,e2] at this;exact this
   · simp [List.getD,hi]
  ·
   by_cases h0:l=0;· exact .inl h0
   · obtain ⟨b,off,rfl⟩:=plain_cell (hcell 0 (by omega));refine .inr ⟨b,off,rfl,fun i hi=>?_⟩;have hi':i<l:=hi;have:=hcell i (by omega);rw [plain_add] at this;exact this
theorem sis {v:Value} {n:Nat} {y:DataW H×List MemPlace} (h:DataW.trod enc Tryz.prog W base (fun _=>true) held n 36 [v]=some y) (hw:Wk 36 y.1):∃ s:Sl,v = .slice s.a s.n s.c/\Rd W s 1/\s.n*8<=140737488351232:=by
 rcases open_ints Tryz.underlying36 Tryz.underlying3 (by kernel_rfl) h with ⟨hcs,_⟩|⟨x,l,c,zs,hcs,_,hl,hm,hz,hy,hcell,hwz⟩
 · simp only [List.cons.injEq,and_true] at hcs
   exact ⟨⟨none,0,0⟩,hcs,.inl rfl,by decide⟩
 ·
  simp only [List.cons.injEq,and_true] at hcs;simp at hz;rw [hy] at hw;have hb:=wk_len Tryz.underlying36 hw;rw [bytes3,reach_is] at hb;simp only [lits,List.length_map,List.length_take,List.length_drop] at hb;refine ⟨⟨some x,l,c⟩,hcs,?_,by show l*8<=_;omega⟩;by_cases h0:l=0;· exact .inl h0
  · obtain ⟨b,off,rfl⟩:=plain_cell (hcell 0 (by omega));refine .inr ⟨b,off,fun i=>.int .i64 (zs.getD i 0),rfl,fun i hi=>⟨?_,rfl⟩⟩;have hi':i<l*1:=hi;have:=hcell i (by omega);rw [plain_add] at this;exact this
theorem sss {v:Value} {n:Nat} {y:DataW H×List MemPlace} (h:DataW.trod enc Tryz.prog W base (fun _=>true) held n 37 [v]=some y) (hw:Wk 37 y.1):∃ s:Sl,v = .slice s.a s.n s.c/\Rd W s 1/\s.n*16<=140737488351232:=by
 rcases Go.Deep.open_strs Tryz.underlying37 Tryz.underlying9 (by kernel_rfl) h with ⟨hcs,_⟩|⟨x,l,c,m,zs,hcs,_,hl,hm,hz,hy,hcell⟩
 · simp only [List.cons.injEq,and_true] at hcs
   exact ⟨⟨none,0,0⟩,hcs,.inl rfl,by decide⟩
 ·
  simp only [List.cons.injEq,and_true] at hcs;simp at hz;rw [hy] at hw;have hb:=wk_len Tryz.underlying37 hw;rw [bytes9,reach_is] at hb;simp only [List.length_map,List.length_range] at hb;refine ⟨⟨some x,l,c⟩,hcs,?_,by show l*16<=_;omega⟩;by_cases h0:l=0;· exact .inl h0
  · obtain ⟨b,off,rfl⟩:=plain_cell (hcell 0 (by omega)).1;refine .inr ⟨b,off,fun i=>.string (zs i),rfl,fun i hi=>⟨?_,rfl⟩⟩;have hi':i<l*1:=hi;have:=(hcell i (by omega)).1;rw [plain_add] at this;exact this
theorem sas {v:Value} {n:Nat} {y:DataW H×List MemPlace} (h:DataW.trod enc Tryz.prog W base (fun _=>true) held n 35 [v]=some y) (hw:Wk 35 y.1):∃ s:Sl,v = .slice s.a s.n s.c/\Rd W s 2/\s.n*24<=140737488351232:=by
 rcases Go.Deep.open_slice_pairs Tryz.underlying35 Tryz.underlying99 (by kernel_rfl) rfl rfl (by kernel_rfl) (by kernel_rfl) h with ⟨hcs,_⟩|⟨x,l,c,m,k,V0,V1,D0,D1,P0,P1,hcs,_,hl,hm,hz,hy,hcell⟩
 · simp only [List.cons.injEq,and_true] at hcs
   exact ⟨⟨none,0,0⟩,hcs,.inl rfl,by decide⟩
 ·
  simp only [List.cons.injEq,and_true] at hcs;simp at hz;rw [hy] at hw;have hb:=wk_len Tryz.underlying35 hw;rw [bytes99,reach_is] at hb;simp only [List.length_map,List.length_range] at hb;refine ⟨⟨some x,l,c⟩,hcs,?_,by show l*24<=_;omega⟩;by_cases h0:l=0;· exact .inl h0
  ·
   have hc0:=(hcell 0 (by omega)).1;rw [Nat.zero_mul] at hc0;obtain ⟨b,off,rfl⟩:=plain_cell hc0;refine .inr ⟨b,off,fun j=>if j % 2=0 then V0 (j / 2) else V1 (j / 2),rfl,fun j hj=>?_⟩;have hj':j<l*2:=hj;obtain ⟨g0,g1,h0',h1'⟩:=hcell (j / 2) (by omega);obtain ⟨sa,ha,_,_⟩:=DataW.trod_string Tryz.underlying9 h0';obtain ⟨sb,hb',_⟩:=DataW.trod_int Tryz.underlying3 h1';have ea:V0 (j / 2) = .string sa:=by simpa using ha
   have eb:V1 (j / 2) = .int .i64 sb:=by simpa using hb'
   dsimp only;by_cases hm2:j % 2=0;· rw [if_pos hm2];rw [plain_add] at g0;refine ⟨?_,by rw [ea];rfl⟩;rw [show off+j=off+j / 2*2 by omega];exact g0
   · rw [if_neg hm2];rw [plain_add] at g1;refine ⟨?_,by rw [eb];rfl⟩;rw [show off+j=off+(j / 2*2+1) by omega];exact g1
theorem wcells3:Tryz.prog.cellsOf 3=1:=by kernel_rfl
theorem wcells4:Tryz.prog.cellsOf 4=1:=by kernel_rfl
theorem wcells9:Tryz.prog.cellsOf 9=1:=by kernel_rfl
theorem wcells32:Tryz.prog.cellsOf 32=1:=by kernel_rfl
theorem wcells34:Tryz.prog.cellsOf 34=4:=by kernel_rfl
theorem wcells35:Tryz.prog.cellsOf 35=1:=by kernel_rfl
theorem wcells36:Tryz.prog.cellsOf 36=1:=by kernel_rfl
theorem wcells37:Tryz.prog.cellsOf 37=1:=by kernel_rfl
theorem wcells39:Tryz.prog.cellsOf 39=25:=by kernel_rfl
theorem wcells40:Tryz.prog.cellsOf 40=1:=by kernel_rfl
theorem wcells42:Tryz.prog.cellsOf 42=28:=by kernel_rfl
theorem open_pk {cs:List Value} (hl:cs.length=25) {n:Nat} {y:DataW H×List MemPlace} (h:DataW.trod enc Tryz.prog W base (fun _=>true) held n 39 cs=some y) (hw:Wk 39 y.1):∃ p:Pk,cs=(pkCells p).toList/\PkR W p:=by
 match cs,hl with
 | [c0,c1,c2,c3,c4,c5,c6,c7,c8,c9,c10,c11,c12,c13,c14,c15,c16,c17,c18,c19,c20,c21,c22,c23,c24],_ =>
  obtain ⟨n0,y0,t0,w0⟩:=wtrod_field Tryz.underlying39 h hw 0 3 0 _ ⟨_,rfl,rfl,rfl⟩ wcells3;obtain ⟨n1,y1,t1,w1⟩:=wtrod_field Tryz.underlying39 h hw 1 3 1 _ ⟨_,rfl,rfl,rfl⟩ wcells3;obtain ⟨n2,y2,t2,w2⟩:=wtrod_field Tryz.underlying39 h hw 2 4 2 _ ⟨_,rfl,rfl,rfl⟩ wcells4;obtain ⟨n3,y3,t3,w3⟩:=wtrod_field Tryz.underlying39 h hw 3 3 3 _ ⟨_,rfl,rfl,rfl⟩ wcells3;obtain ⟨n4,y4,t4,w4⟩:=wtrod_field Tryz.underlying39 h hw 4 9 4 _ ⟨_,rfl,rfl,rfl⟩ wcells9;obtain ⟨n5,y5,t5,w5⟩:=wtrod_field Tryz.underlying39 h hw 5 4 5 _ ⟨_,rfl,rfl,rfl⟩ wcells4;obtain ⟨n6,y6,t6,w6⟩:=wtrod_field Tryz.underlying39 h hw 6 34 6 _ ⟨_,rfl,rfl,rfl⟩ wcells34;obtain ⟨n6_0,y6_0,t6_0,w6_0⟩:=wtrod_field Tryz.underlying34 t6 w6 0 9 0 _ ⟨_,rfl,rfl,rfl⟩ wcells9;obtain ⟨n6_1,y6_1,t6_1,w6_1⟩:=wtrod_field Tryz.underlying34 t6 w6 1 32 1 _ ⟨_,rfl,rfl,rfl⟩ wcells32;obtain ⟨n6_2,y6_2,t6_2,w6_2⟩:=wtrod_field Tryz.underlying34 t6 w6 2 3 2 _ ⟨_,rfl,rfl,rfl⟩ wcells3;obtain ⟨n6_3,y6_3,t6_3,w6_3⟩:=wtrod_field Tryz.underlying34 t6 w6 3 4 3 _ ⟨_,rfl,rfl,rfl⟩ wcells4;obtain ⟨n7,y7,t7,w7⟩:=wtrod_field Tryz.underlying39 h hw 7 4 10 _ ⟨_,rfl,rfl,rfl⟩ wcells4;obtain ⟨n8,y8,t8,w8⟩:=wtrod_field Tryz.underlying39 h hw 8 9 11 _ ⟨_,rfl,rfl,rfl⟩ wcells9;obtain ⟨n9,y9,t9,w9⟩:=wtrod_field Tryz.underlying39 h hw 9 4 12 _ ⟨_,rfl,rfl,rfl⟩ wcells4;obtain ⟨n10,y10,t10,w10⟩:=wtrod_field Tryz.underlying39 h hw 10 32 13 _ ⟨_,rfl,rfl,rfl⟩ wcells32;obtain ⟨n11,y11,t11,w11⟩:=wtrod_field Tryz.underlying39 h hw 11 4 14 _ ⟨_,rfl,rfl,rfl⟩ wcells4;obtain ⟨n12,y12,t12,w12⟩:=wtrod_field Tryz.underlying39 h hw 12 3 15 _ ⟨_,rfl,rfl,rfl⟩ wcells3;obtain ⟨n13,y13,t13,w13⟩:=wtrod_field Tryz.underlying39 h hw 13 4 16 _ ⟨_,rfl,rfl,rfl⟩ wcells4;obtain ⟨n14,y14,t14,w14⟩:=wtrod_field Tryz.underlying39 h hw 14 34 17 _ ⟨_,rfl,rfl,rfl⟩ wcells34;obtain ⟨n14_0,y14_0,t14_0,w14_0⟩:=wtrod_field Tryz.underlying34 t14 w14 0 9 0 _ ⟨_,rfl,rfl,rfl⟩ wcells9;obtain ⟨n14_1,y14_1,t14_1,w14_1⟩:=wtrod_field Tryz.underlying34 t14 w14 1 32 1 _ ⟨_,rfl,rfl,rfl⟩ wcells32;obtain ⟨n14_2,y14_2,t14_2,w14_2⟩:=wtrod_field Tryz.underlying34 t14 w14 2 3 2 _ ⟨_,rfl,rfl,rfl⟩ wcells3;obtain ⟨n14_3,y14_3,t14_3,w14_3⟩:=wtrod_field Tryz.underlying34 t14 w14 3 4 3 _ ⟨_,rfl,rfl,rfl⟩ wcells4;obtain ⟨n15,y15,t15,w15⟩:=wtrod_field Tryz.underlying39 h hw 15 3 21 _ ⟨_,rfl,rfl,rfl⟩ wcells3;obtain ⟨n16,y16,t16,w16⟩:=wtrod_field Tryz.underlying39 h hw 16 35 22 _ ⟨_,rfl,rfl,rfl⟩ wcells35;obtain ⟨n17,y17,t17,w17⟩:=wtrod_field Tryz.underlying39 h hw 17 36 23 _ ⟨_,rfl,rfl,rfl⟩ wcells36;obtain ⟨n18,y18,t18,w18⟩:=wtrod_field Tryz.underlying39 h hw 18 37 24 _ ⟨_,rfl,rfl,rfl⟩ wcells37;obtain ⟨x0,e0,_⟩:=DataW.trod_int Tryz.underlying3 (show DataW.trod enc Tryz.prog W base (fun _=>true) held _ 3 [c0]=_ from t0);obtain rfl:c0 = .int .i64 x0:=by simpa using e0
  obtain ⟨x1,e1,_⟩:=DataW.trod_int Tryz.underlying3 (show DataW.trod enc Tryz.prog W base (fun _=>true) held _ 3 [c1]=_ from t1);obtain rfl:c1 = .int .i64 x1:=by simpa using e1
  obtain ⟨x2,e2,_⟩:=DataW.trod_bool Tryz.underlying4 (show DataW.trod enc Tryz.prog W base (fun _=>true) held _ 4 [c2]=_ from t2);obtain rfl:c2 = .bool x2:=by simpa using e2
  obtain ⟨x3,e3,_⟩:=DataW.trod_int Tryz.underlying3 (show DataW.trod enc Tryz.prog W base (fun _=>true) held _ 3 [c3]=_ from t3);obtain rfl:c3 = .int .i64 x3:=by simpa using e3
  obtain ⟨x4,e4,_,_⟩:=DataW.trod_string Tryz.underlying9 (show DataW.trod enc Tryz.prog W base (fun _=>true) held _ 9 [c4]=_ from t4);obtain rfl:c4 = .string x4:=by simpa using e4
  obtain ⟨x5,e5,_⟩:=DataW.trod_bool Tryz.underlying4 (show DataW.trod enc Tryz.prog W base (fun _=>true) held _ 4 [c5]=_ from t5);obtain rfl:c5 = .bool x5:=by simpa using e5
  obtain ⟨x6,e6,_,_⟩:=DataW.trod_string Tryz.underlying9 (show DataW.trod enc Tryz.prog W base (fun _=>true) held _ 9 [c6]=_ from t6_0);obtain rfl:c6 = .string x6:=by simpa using e6
  obtain ⟨x7,z7,e7,b7,s7⟩:=sby (show DataW.trod enc Tryz.prog W base (fun _=>true) held _ 32 [c7]=_ from t6_1) w6_1;subst e7;obtain ⟨x8,e8,_⟩:=DataW.trod_int Tryz.underlying3 (show DataW.trod enc Tryz.prog W base (fun _=>true) held _ 3 [c8]=_ from t6_2);obtain rfl:c8 = .int .i64 x8:=by simpa using e8
  obtain ⟨x9,e9,_⟩:=DataW.trod_bool Tryz.underlying4 (show DataW.trod enc Tryz.prog W base (fun _=>true) held _ 4 [c9]=_ from t6_3);obtain rfl:c9 = .bool x9:=by simpa using e9
  obtain ⟨x10,e10,_⟩:=DataW.trod_bool Tryz.underlying4 (show DataW.trod enc Tryz.prog W base (fun _=>true) held _ 4 [c10]=_ from t7);obtain rfl:c10 = .bool x10:=by simpa using e10
  obtain ⟨x11,e11,_,_⟩:=DataW.trod_string Tryz.underlying9 (show DataW.trod enc Tryz.prog W base (fun _=>true) held _ 9 [c11]=_ from t8);obtain rfl:c11 = .string x11:=by simpa using e11
  obtain ⟨x12,e12,_⟩:=DataW.trod_bool Tryz.underlying4 (show DataW.trod enc Tryz.prog W base (fun _=>true) held _ 4 [c12]=_ from t9);obtain rfl:c12 = .bool x12:=by simpa using e12
  obtain ⟨x13,z13,e13,b13,s13⟩:=sby (show DataW.trod enc Tryz.prog W base (fun _=>true) held _ 32 [c13]=_ from t10) w10;subst e13;obtain ⟨x14,e14,_⟩:=DataW.trod_bool Tryz.underlying4 (show DataW.trod enc Tryz.prog W base (fun _=>true) held _ 4 [c14]=_ from t11);obtain rfl:c14 = .bool x14:=by simpa using e14
  obtain ⟨x15,e15,_⟩:=DataW.trod_int Tryz.underlying3 (show DataW.trod enc Tryz.prog W base (fun _=>true) held _ 3 [c15]=_ from t12);obtain rfl:c15 = .int .i64 x15:=by simpa using e15
  obtain ⟨x16,e16,_⟩:=DataW.trod_bool Tryz.underlying4 (show DataW.trod enc Tryz.prog W base (fun _=>true) held _ 4 [c16]=_ from t13);obtain rfl:c16 = .bool x16:=by simpa using e16
  obtain ⟨x17,e17,_,_⟩:=DataW.trod_string Tryz.underlying9 (show DataW.trod enc Tryz.prog W base (fun _=>true) held _ 9 [c17]=_ from t14_0);obtain rfl:c17 = .string x17:=by simpa using e17
  obtain ⟨x18,z18,e18,b18,s18⟩:=sby (show DataW.trod enc Tryz.prog W base (fun _=>true) held _ 32 [c18]=_ from t14_1) w14_1;subst e18;obtain ⟨x19,e19,_⟩:=DataW.trod_int Tryz.underlying3 (show DataW.trod enc Tryz.prog W base (fun _=>true) held _ 3 [c19]=_ from t14_2);obtain rfl:c19 = .int .i64 x19:=by simpa using e19
  obtain ⟨x20,e20,_⟩:=DataW.trod_bool Tryz.underlying4 (show DataW.trod enc Tryz.prog W base (fun _=>true) held _ 4 [c20]=_ from t14_3);obtain rfl:c20 = .bool x20:=by simpa using e20
  obtain ⟨x21,e21,_⟩:=DataW.trod_int Tryz.underlying3 (show DataW.trod enc Tryz.prog W base (fun _=>true) held _ 3 [c21]=_ from t15);obtain rfl:c21 = .int .i64 x21:=by simpa using e21
  obtain ⟨x22,e22,b22,s22⟩:=sas (show DataW.trod enc Tryz.prog W base (fun _=>true) held _ 35 [c22]=_ from t16) w16;subst e22;obtain ⟨x23,e23,b23,s23⟩:=sis (show DataW.trod enc Tryz.prog W base (fun _=>true) held _ 36 [c23]=_ from t17) w17;subst e23;obtain ⟨x24,e24,b24,s24⟩:=sss (show DataW.trod enc Tryz.prog W base (fun _=>true) held _ 37 [c24]=_ from t18) w18;subst e24;exact ⟨⟨x0,x1,x2,x3,x4,x5,x6,x7,x8,x9,x10,x11,x12,x13,x14,x15,x16,x17,x18,x19,x20,x21,x22,x23,x24⟩,rfl,⟨by_rd b7,by_rd b13,by_rd b18,b22,b23,b24,s7,s13,s18,s22,s23,s24⟩⟩
theorem open_op {cs:List Value} (hl:cs.length=30) {n:Nat} {y:DataW H×List MemPlace} (h:DataW.trod enc Tryz.prog W base (fun _=>true) held n 44 cs=some y) (hw:Wk 44 y.1):∃ o:Opx,cs=o.cs.toList/\By W o.d o.zb/\PkR W o.q/\o.d.n<=140737488351232:=by
 match cs,hl with
 | [d0,d1,d2,d3,d4,d5,d6,d7,d8,d9,d10,d11,d12,d13,d14,d15,d16,d17,d18,d19,d20,d21,d22,d23,d24,d25,d26,d27,d28,d29],_ =>
  obtain ⟨n0,y0,t0,w0⟩:=wtrod_field Tryz.underlying44 h hw 0 3 0 _ ⟨_,rfl,rfl,rfl⟩ wcells3;obtain ⟨n1,y1,t1,w1⟩:=wtrod_field Tryz.underlying44 h hw 1 32 1 _ ⟨_,rfl,rfl,rfl⟩ wcells32;obtain ⟨n2,y2,t2,w2⟩:=wtrod_field Tryz.underlying44 h hw 2 42 2 _ ⟨_,rfl,rfl,rfl⟩ wcells42;obtain ⟨m0,z0,u0,v0⟩:=wtrod_field Tryz.underlying42 t2 w2 0 3 0 _ ⟨_,rfl,rfl,rfl⟩ wcells3;obtain ⟨m1,z1,u1,v1⟩:=wtrod_field Tryz.underlying42 t2 w2 1 39 1 _ ⟨_,rfl,rfl,rfl⟩ wcells39;obtain ⟨m2,z2,u2,v2⟩:=wtrod_field Tryz.underlying42 t2 w2 2 3 26 _ ⟨_,rfl,rfl,rfl⟩ wcells3;obtain ⟨m3,z3,u3,v3⟩:=wtrod_field Tryz.underlying42 t2 w2 3 40 27 _ ⟨_,rfl,rfl,rfl⟩ wcells40;obtain ⟨x0,e0,_⟩:=DataW.trod_int Tryz.underlying3 (show DataW.trod enc Tryz.prog W base (fun _=>true) held _ 3 [d0]=_ from t0);obtain rfl:d0 = .int .i64 x0:=by simpa using e0
  obtain ⟨sd,zd,e1,b1,s1⟩:=sby (show DataW.trod enc Tryz.prog W base (fun _=>true) held _ 32 [d1]=_ from t1) w1;subst e1;obtain ⟨x2,e2,_⟩:=DataW.trod_int Tryz.underlying3 (show DataW.trod enc Tryz.prog W base (fun _=>true) held _ 3 [d2]=_ from u0);obtain rfl:d2 = .int .i64 x2:=by simpa using e2
  obtain ⟨x28,e28,_⟩:=DataW.trod_int Tryz.underlying3 (show DataW.trod enc Tryz.prog W base (fun _=>true) held _ 3 [d28]=_ from u2);obtain rfl:d28 = .int .i64 x28:=by simpa using e28
  obtain ⟨x29,e29,_⟩:=DataW.trod_int Tryz.underlying40 (show DataW.trod enc Tryz.prog W base (fun _=>true) held _ 40 [d29]=_ from u3);obtain rfl:d29 = .int .i64 x29:=by simpa using e29
  obtain ⟨p,ep,hp⟩:=open_pk (cs:=[d3,d4,d5,d6,d7,d8,d9,d10,d11,d12,d13,d14,d15,d16,d17,d18,d19,d20,d21,d22,d23,d24,d25,d26,d27]) rfl (show DataW.trod enc Tryz.prog W base (fun _=>true) held _ 39 [d3,d4,d5,d6,d7,d8,d9,d10,d11,d12,d13,d14,d15,d16,d17,d18,d19,d20,d21,d22,d23,d24,d25,d26,d27]=_ from u1) v1;refine ⟨⟨x0,sd,zd,x2,p,x28,x29⟩,?_,b1,hp,s1⟩;have:[d3,d4,d5,d6,d7,d8,d9,d10,d11,d12,d13,d14,d15,d16,d17,d18,d19,d20,d21,d22,d23,d24,d25,d26,d27]=(pkCells p).toList:=ep;simp only [pkCells,List.cons.injEq,and_true] at this;obtain ⟨rfl,rfl,rfl,rfl,rfl,rfl,rfl,rfl,rfl,rfl,rfl,rfl,rfl,rfl,rfl,rfl,rfl,rfl,rfl,rfl,rfl,rfl,rfl,rfl,rfl⟩:=this;rfl
theorem open_script {a:Option Addr} {len cap:Nat} {d:DataW H} {p:List MemPlace} (hp:∀ ad,a=some ad->∃ b off,ad=⟨b,off,none⟩) (h:DataW.Trod enc Tryz.prog W base (fun _=>true) held 22 (.slice a len cap) d p) (hw:Wk 22 d):∃ ops:Nat->Opx,Scr W a len ops:=by
 obtain ⟨fuel,hf⟩:=h;have hf':DataW.trod enc Tryz.prog W base (fun _=>true) held fuel 22 [.slice a len cap]=some (d,p):=hf;rcases Go.Deep.open_slice Tryz.underlying22 hf' with ⟨hcs,_⟩|⟨x,l,c,m,n,D,Q,hcs,_,hl,hm,hmm,hx0,hx⟩;· simp only [List.cons.injEq,Value.slice.injEq,and_true] at hcs;obtain ⟨rfl,rfl,rfl⟩:=hcs;exact ⟨fun _=>⟨0,⟨none,0,0⟩,fun _=>0,0,blank 0,0,0⟩,.inl rfl,fun i hi=>absurd hi (Nat.not_lt_zero _),fun i hi=>absurd hi (Nat.not_lt_zero _),fun i hi=>absurd hi (Nat.not_lt_zero _),Nat.zero_le _⟩
 ·
  simp only [List.cons.injEq,Value.slice.injEq,and_true] at hcs;obtain ⟨rfl,rfl,rfl⟩:=hcs;simp at hmm;obtain ⟨b,off,rfl⟩:=hp x rfl;have hd:d = .slice ((List.range len).map D) ((List.range (m-len)).map fun j=>D (len+j)):=congrArg Prod.fst hx0;rw [hd] at hw;have each:∀ i,i<len->∃ o:Opx,W.rangeAt b (off+i*30) o.cs.toList/\By W o.d o.zb/\PkR W o.q/\o.d.n<=140737488351232:=fun i hi=>by
   obtain ⟨cs',h1,h2⟩:=hx i (by omega);rw [show Tryz.prog.cellsOf 44=30 by kernel_rfl,plain_add] at h1;obtain ⟨_,hlen,hcell⟩:=World.cells?_some h1;obtain ⟨o,e,r⟩:=open_op hlen h2 (wk_elem Tryz.underlying22 hw (List.mem_map.2 ⟨i,List.mem_range.2 hi,rfl⟩));refine ⟨o,fun j v hv=>?_,r⟩;rw [<-e] at hv;have hj:j<30:=by have:=(List.getElem?_eq_some_iff.1 hv).1;omega
   have h3:=hcell j hj;rw [plain_add] at h3;rw [h3];exact hv
  haveI:Inhabited Opx:=⟨⟨0,⟨none,0,0⟩,fun _=>0,0,blank 0,0,0⟩⟩;obtain ⟨ops,ho⟩:=Go.Deep.choose_lt each;exact ⟨ops,.inr ⟨b,off,rfl,fun i hi=>(ho i hi).1⟩,fun i hi=>(ho i hi).2.1,fun i hi=>(ho i hi).2.2.1,fun i hi=>(ho i hi).2.2.2,by unfold maxLen at hm;omega⟩
end
end Go.Proofs.YtpldoeeahhaimaaGreatDoor.Dr
