import Derived.Test.YtceigllifjgalaaGreatDoorXd
import Derived.Deep.RegionHeld3
namespace Go.Proofs.YtceigllifjgalaaGreatDoor.Pkt
open Go Go.RowKit Go.Sort
set_option linter.unusedSimpArgs false
set_option linter.unusedVariables false
set_option maxRecDepth 100000
set_option maxHeartbeats 4000000
structure Hit (t g:Nat) (w w':World) (F:Nat→Option Value):Prop where
 os:w'.os=w.os
 tape:w'.tape=w.tape
 output:w'.output=w.output
 size:w'.heap.size=w.heap.size
 other:∀ k,k≠g→w'.heap[k]?=w.heap[k]?
 kind:∃ cs,w'.heap[g]?=some (.cells cs t (0,0))
 cell:∀ j,w'.cell? ⟨g,j,none⟩=F j
theorem Hit.start {t g:Nat} {w:World} (h:∃ cs,w.heap[g]?=some (.cells cs t (0,0))):Hit t g w w (fun j=>w.cell? ⟨g,j,none⟩):=⟨rfl,rfl,rfl,rfl,fun _ _=>rfl,h,fun _=>rfl⟩
theorem Hit.drew {t g:Nat} {w w':World} {F:Nat→Option Value} (h:Hit t g w w' F):Hit t g w w'.drew F:=⟨h.os,h.tape,h.output,h.size,h.other,h.kind,h.cell⟩
theorem Hit.frozen {t g:Nat} {w w':World} {F:Nat→Option Value} (h:Hit t g w w' F) (j:Nat):w'.frozen? ⟨g,j,none⟩=false:=by
 obtain ⟨cs,h⟩:=h.kind
 simp [World.frozen?,h]
theorem Hit.store {t g:Nat} {w w':World} {F:Nat→Option Value} (h:Hit t g w w' F) (i:Nat) (v u:Value) (hi:F i=some u):Hit t g w (w'.setCell ⟨g,i,none⟩ v) (fun j=>if j=i then some v else F j):=by
 obtain ⟨cs,hk⟩:=h.kind
 have hc:=h.cell
 have hi':i<cs.size:=by
  have:=hc i
  rw [hi] at this
  simp only [World.cell?,hk] at this
  exact (Array.getElem?_eq_some_iff.1 this).1
 have hn:=zab (i:=i) hk v
 refine ⟨h.os,h.tape,h.output,?_,fun k hk'=>(Below.heap_setCell w' _ v k (by simpa using hk')).trans (h.other k hk'),⟨_,hn⟩,fun j=>?_⟩
 · rw [← h.size];simp [World.setCell]
 ·
  simp only [World.cell?,hn]
  by_cases hj:j=i
  · subst hj;rw [if_pos rfl];simp [hi']
  · rw [if_neg hj,← hc j]
    simp only [World.cell?,hk]
    exact Array.getElem?_setIfInBounds_ne (Ne.symm hj)
theorem Hit.told {t g:Nat} {w w':World} {F G:Nat→Option Value} (h:Hit t g w w' F) (hF:∀ j,F j=G j):Hit t g w w' G:=⟨h.os,h.tape,h.output,h.size,h.other,h.kind,fun j=>(h.cell j).trans (hF j)⟩
def Upto (w:World) (g:Nat) (v:Nat→Value) (k:Nat):Nat→Option Value:=fun j=>if j<k then some (v j) else w.cell? ⟨g,j,none⟩
theorem Hit.one' {t g k:Nat} {w w':World} {v:Nat→Value} (h:Hit t g w w' (Upto w g v k)) {u:Value} (hu:w.cell? ⟨g,k,none⟩=some u):Hit t g w (w'.setCell ⟨g,k,none⟩ (v k)) (Upto w g v (k+1)):=by
 refine (h.store k (v k) u (by simp [Upto,hu])).told (fun j=>?_)
 unfold Upto
 by_cases h1:j=k
 · subst h1;simp
 ·
  by_cases h2:j<k
  · rw [if_neg h1,if_pos h2,if_pos (by omega)]
  · rw [if_neg h1,if_neg h2,if_neg (by omega)]
theorem Hit.one {t g k:Nat} {w w':World} {v:Nat→Value} (h:Hit t g w w' (Upto w g v k)) {u:Value} (hu:w.cell? ⟨g,k,none⟩=some u):Hit t g w (w'.setCell ⟨g,k,none⟩ (v k)).drew (Upto w g v (k+1)):=(h.one' hu).drew
def Uptw (w:World) (g:Nat) (v:Nat→Value) (k:Nat):Nat→Option Value:=fun j=>if j % 2=1∧j / 2<k then some (v (j / 2)) else w.cell? ⟨g,j,none⟩
theorem Hit.two {t g k:Nat} {w w':World} {v:Nat→Value} (h:Hit t g w w' (Uptw w g v k)) {u:Value} (hu:w.cell? ⟨g,k*2+1,none⟩=some u):Hit t g w (w'.setCell ⟨g,k*2+1,none⟩ (v k)).drew (Uptw w g v (k+1)):=by
 have h0:¬ ((k*2+1) % 2=1∧(k*2+1) / 2<k):=by omega
 refine ((h.store (k*2+1) (v k) u (by unfold Uptw;rw [if_neg h0,hu])).told (fun j=>?_)).drew
 unfold Uptw
 by_cases h1:j=k*2+1
 · subst h1
   rw [if_pos rfl,if_pos (by omega),show (k*2+1) / 2=k by omega]
 ·
  rw [if_neg h1]
  by_cases h2:j % 2=1∧j / 2<k
  · rw [if_pos h2,if_pos (by omega)]
  · rw [if_neg h2,if_neg (by omega)]
theorem Hit.atw {t g k:Nat} {w w':World} {v:Nat→Value} (h:Hit t g w w' (Uptw w g v k)) {u:Value} (hu:w.cell? ⟨g,k*2+1,none⟩=some u):w'.cell? ⟨g,k*2+1,none⟩=some u:=by
 have h0:¬ ((k*2+1) % 2=1∧(k*2+1) / 2<k):=by omega
 rw [h.cell (k*2+1)]
 unfold Uptw
 rw [if_neg h0,hu]
theorem za9 {w w':World} {b:Nat} (h:w'.heap[b]?=w.heap[b]?) (i:Nat):w'.cell? ⟨b,i,none⟩=w.cell? ⟨b,i,none⟩:=by simp only [World.cell?,h]
theorem by_at {w:World} {g n cp:Nat} {z:Nat→Int} (h:By w ⟨some ⟨g,0,none⟩,n,cp⟩ z) (i:Nat) (hi:i<n):w.cell? ⟨g,i,none⟩=some (.int .u8 (z i)):=by
 obtain ⟨_,_,h0 | ⟨b,off,e,hc⟩⟩:=h
 · have h0':n=0:=h0
   omega
 ·
  have e':(⟨g,0,none⟩:Addr)=⟨b,off,none⟩:=Option.some.inj e
  injection e' with e1 e2
  subst e1 e2
  have:=hc i hi
  rwa [Nat.zero_add] at this
theorem is_at {w:World} {g n cp:Nat} {z:Nat→Int} (h:Is w ⟨some ⟨g,0,none⟩,n,cp⟩ z) (i:Nat) (hi:i<n):w.cell? ⟨g,i,none⟩=some (.int .i64 (z i)):=by
 obtain ⟨_,h0 | ⟨b,off,e,hc⟩⟩:=h
 · have h0':n=0:=h0
   omega
 ·
  have e':(⟨g,0,none⟩:Addr)=⟨b,off,none⟩:=Option.some.inj e
  injection e' with e1 e2
  subst e1 e2
  have:=hc i hi
  rwa [Nat.zero_add] at this
theorem ss_at {w:World} {g n cp:Nat} {z:Nat→ByteArray} (h:Ss w ⟨some ⟨g,0,none⟩,n,cp⟩ z) (i:Nat) (hi:i<n):w.cell? ⟨g,i,none⟩=some (.string (z i)):=by
 obtain ⟨_,h0 | ⟨b,off,e,hc⟩⟩:=h
 · have h0':n=0:=h0
   omega
 ·
  have e':(⟨g,0,none⟩:Addr)=⟨b,off,none⟩:=Option.some.inj e
  injection e' with e1 e2
  subst e1 e2
  have:=hc i hi
  rwa [Nat.zero_add] at this
theorem as_at {w:World} {g n cp:Nat} {f:Nat→ByteArray} {q:Nat→Int} (h:As w ⟨some ⟨g,0,none⟩,n,cp⟩ f q) (i:Nat) (hi:i<n):w.cell? ⟨g,i*2,none⟩=some (.string (f i))∧w.cell? ⟨g,i*2+1,none⟩=some (.int .i64 (q i)):=by
 obtain ⟨_,h0 | ⟨b,off,e,hc⟩⟩:=h
 · have h0':n=0:=h0
   omega
 ·
  have e':(⟨g,0,none⟩:Addr)=⟨b,off,none⟩:=Option.some.inj e
  injection e' with e1 e2
  subst e1 e2
  have:=hc i hi
  rwa [Nat.zero_add] at this
theorem Hit.at {t g k:Nat} {w w':World} {v:Nat→Value} (h:Hit t g w w' (Upto w g v k)) {u:Value} (hu:w.cell? ⟨g,k,none⟩=some u):w'.cell? ⟨g,k,none⟩=some u:=by rw [h.cell k];simp [Upto,hu]
theorem Hit.keep {t g b i:Nat} {w w':World} {F:Nat→Option Value} (h:Hit t g w w' F) (hb:b≠g):w'.cell? ⟨b,i,none⟩=w.cell? ⟨b,i,none⟩:=by simp only [World.cell?,h.other b hb]
def spB (z:Nat→Int) (i:Nat):Int:=IntKind.u8.wrap (z i+1)
def spQ (q:Nat→Int) (i:Nat):Int:=wrap64 (q i+1)
def spI (z:Nat→Int) (i:Nat):Int:=wrap64 (z i+1)
def spF (f:Nat→ByteArray) (i:Nat):ByteArray:=f i++⟨#[47]⟩
def Cn.spoilt (c:Cn):Cn:={ c with wz:=spB c.wz,pz:=spB c.pz,mz:=spB c.mz,aq:=spQ c.aq,cs:=spI c.cs,fs:=spF c.fs }
structure Spo (p:Pk) (c:Cn) (g1 g2 g3 g4 g5 g6:Nat) (w w':World):Prop where
 os:w'.os=w.os
 tape:w'.tape=w.tape
 output:w'.output=w.output
 size:w.heap.size≤w'.heap.size
 other:∀ k,k<w.heap.size→k≠g1→k≠g2→k≠g3→k≠g4→k≠g5→k≠g6→w'.heap[k]?=w.heap[k]?
 inn:In w' (p.laid g1 g2 g3 g4 g5 g6) c.spoilt
 marks:Mks w p g1 g2 g3 g4 g5 g6→Mks w' p g1 g2 g3 g4 g5 g6
 ty:(∃ cs,w'.heap[g1]?=some (.cells cs 5 (0,0)))∧(∃ cs,w'.heap[g2]?=some (.cells cs 5 (0,0)))∧(∃ cs,w'.heap[g3]?=some (.cells cs 5 (0,0)))∧(∃ cs,w'.heap[g4]?=some (.cells cs 98 (0,0)))∧(∃ cs,w'.heap[g5]?=some (.cells cs 3 (0,0)))∧(∃ cs,w'.heap[g6]?=some (.cells cs 9 (0,0)))
theorem zaG {w w':World} {g:Nat} (h:w'.heap[g]?=w.heap[g]?) (v:Nat→Value) (n j:Nat):Upto w' g v n j=Upto w g v n j:=by unfold Upto;rw [za9 h]
theorem uptw_same {w w':World} {g:Nat} (h:w'.heap[g]?=w.heap[g]?) (v:Nat→Value) (n j:Nat):Uptw w' g v n j=Uptw w g v n j:=by unfold Uptw;rw [za9 h]
theorem zbe {w:World} {g n j:Nat} {v:Nat→Value} (h:j<n):Upto w g v n j=some (v j):=by unfold Upto;rw [if_pos h]
theorem zaU {w:World} {g n j:Nat} {v:Nat→Value} (h:n≤j):Upto w g v n j=w.cell? ⟨g,j,none⟩:=by unfold Upto;rw [if_neg (by omega)]
theorem spB_in (z:Nat→Int) (i:Nat):0≤spB z i∧spB z i≤255:=by unfold spB;rw [IntKind.wrap_u8];omega
theorem spo_end {p:Pk} {c:Cn} {w W W1 W2 W3 W4 W5 V:World} {g1 g2 g3 g4 g5 g6:Nat} (b0:Below w.heap.size w W) (hin:In W (p.laid g1 g2 g3 g4 g5 g6) c) (H0:Hit 5 g3 W W1 (Upto W g3 (fun j=>.int .u8 (spB c.pz j)) p.pass.n)) (H1:Hit 5 g1 W1 W2 (Upto W1 g1 (fun j=>.int .u8 (spB c.wz j)) p.wP.n)) (H2:Hit 5 g2 W2 W3 (Upto W2 g2 (fun j=>.int .u8 (spB c.mz j)) p.mP.n)) (H3:Hit 98 g4 W3 W4 (Uptw W3 g4 (fun j=>.int .i64 (spQ c.aq j)) p.asks.n)) (H4:Hit 3 g5 W4 W5 (Upto W4 g5 (fun j=>.int .i64 (spI c.cs j)) p.codes.n)) (H5:Hit 9 g6 W5 V (Upto W5 g6 (fun j=>.string (spF c.fs j)) p.filters.n)) (D13:g1≠g3) (D23:g2≠g3) (D21:g2≠g1) (D43:g4≠g3) (D41:g4≠g1) (D42:g4≠g2) (D53:g5≠g3) (D51:g5≠g1) (D52:g5≠g2) (D54:g5≠g4) (D63:g6≠g3) (D61:g6≠g1) (D62:g6≠g2) (D64:g6≠g4) (D65:g6≠g5):Spo p c g1 g2 g3 g4 g5 g6 w V:=by
 have b3:W.heap[g3]?=W.heap[g3]?:=rfl
 have a3:V.heap[g3]?=W1.heap[g3]?:=(H5.other g3 (Ne.symm D63)).trans ((H4.other g3 (Ne.symm D53)).trans ((H3.other g3 (Ne.symm D43)).trans ((H2.other g3 (Ne.symm D23)).trans ((H1.other g3 (Ne.symm D13)).trans (rfl)))))
 have c3:∀ j,V.cell? ⟨g3,j,none⟩=Upto W g3 (fun j=>.int .u8 (spB c.pz j)) p.pass.n j:=fun j=>((za9 a3 j).trans (H0.cell j)).trans (zaG b3 _ _ _)
 have b1:W1.heap[g1]?=W.heap[g1]?:=(H0.other g1 D13).trans (rfl)
 have a1:V.heap[g1]?=W2.heap[g1]?:=(H5.other g1 (Ne.symm D61)).trans ((H4.other g1 (Ne.symm D51)).trans ((H3.other g1 (Ne.symm D41)).trans ((H2.other g1 (Ne.symm D21)).trans (rfl))))
 have c1:∀ j,V.cell? ⟨g1,j,none⟩=Upto W g1 (fun j=>.int .u8 (spB c.wz j)) p.wP.n j:=fun j=>((za9 a1 j).trans (H1.cell j)).trans (zaG b1 _ _ _)
 have b2:W2.heap[g2]?=W.heap[g2]?:=(H1.other g2 D21).trans ((H0.other g2 D23).trans (rfl))
 have a2:V.heap[g2]?=W3.heap[g2]?:=(H5.other g2 (Ne.symm D62)).trans ((H4.other g2 (Ne.symm D52)).trans ((H3.other g2 (Ne.symm D42)).trans (rfl)))
 have c2:∀ j,V.cell? ⟨g2,j,none⟩=Upto W g2 (fun j=>.int .u8 (spB c.mz j)) p.mP.n j:=fun j=>((za9 a2 j).trans (H2.cell j)).trans (zaG b2 _ _ _)
 have b4:W3.heap[g4]?=W.heap[g4]?:=(H2.other g4 D42).trans ((H1.other g4 D41).trans ((H0.other g4 D43).trans (rfl)))
 have a4:V.heap[g4]?=W4.heap[g4]?:=(H5.other g4 (Ne.symm D64)).trans ((H4.other g4 (Ne.symm D54)).trans (rfl))
 have c4:∀ j,V.cell? ⟨g4,j,none⟩=Uptw W g4 (fun j=>.int .i64 (spQ c.aq j)) p.asks.n j:=fun j=>((za9 a4 j).trans (H3.cell j)).trans (uptw_same b4 _ _ _)
 have b5:W4.heap[g5]?=W.heap[g5]?:=(H3.other g5 D54).trans ((H2.other g5 D52).trans ((H1.other g5 D51).trans ((H0.other g5 D53).trans (rfl))))
 have a5:V.heap[g5]?=W5.heap[g5]?:=(H5.other g5 (Ne.symm D65)).trans (rfl)
 have c5:∀ j,V.cell? ⟨g5,j,none⟩=Upto W g5 (fun j=>.int .i64 (spI c.cs j)) p.codes.n j:=fun j=>((za9 a5 j).trans (H4.cell j)).trans (zaG b5 _ _ _)
 have b6:W5.heap[g6]?=W.heap[g6]?:=(H4.other g6 D65).trans ((H3.other g6 D64).trans ((H2.other g6 D62).trans ((H1.other g6 D61).trans ((H0.other g6 D63).trans (rfl)))))
 have a6:V.heap[g6]?=V.heap[g6]?:=rfl
 have c6:∀ j,V.cell? ⟨g6,j,none⟩=Upto W g6 (fun j=>.string (spF c.fs j)) p.filters.n j:=fun j=>((za9 a6 j).trans (H5.cell j)).trans (zaG b6 _ _ _)
 refine ⟨H5.os.trans (H4.os.trans (H3.os.trans (H2.os.trans (H1.os.trans (H0.os.trans (b0.os)))))),H5.tape.trans (H4.tape.trans (H3.tape.trans (H2.tape.trans (H1.tape.trans (H0.tape.trans (b0.tape)))))),H5.output.trans (H4.output.trans (H3.output.trans (H2.output.trans (H1.output.trans (H0.output.trans (b0.output)))))),?_,fun k hk h1 h2 h3 h4 h5 h6=>(H5.other k h6).trans ((H4.other k h5).trans ((H3.other k h4).trans ((H2.other k h2).trans ((H1.other k h1).trans ((H0.other k h3).trans (b0.block k hk)))))),⟨?_,?_,?_,?_,?_,?_⟩,fun m=>⟨?_,?_,?_,?_,?_,?_⟩,by rw [a1];exact H1.kind,by rw [a2];exact H2.kind,by rw [a3];exact H0.kind,by rw [a4];exact H3.kind,by rw [a5];exact H4.kind,by rw [a6];exact H5.kind⟩
 · rw [H5.size,H4.size,H3.size,H2.size,H1.size,H0.size];exact b0.size
 · exact ⟨by simp [Pk.laid,Pk.re],spB_in _,.inr ⟨g1,0,rfl,fun i hi=>by rw [Nat.zero_add];exact (c1 i).trans (zbe hi)⟩⟩
 · exact ⟨by simp [Pk.laid,Pk.re],spB_in _,.inr ⟨g3,0,rfl,fun i hi=>by rw [Nat.zero_add];exact (c3 i).trans (zbe hi)⟩⟩
 · exact ⟨by simp [Pk.laid,Pk.re],spB_in _,.inr ⟨g2,0,rfl,fun i hi=>by rw [Nat.zero_add];exact (c2 i).trans (zbe hi)⟩⟩
 ·
  refine ⟨by simp [Pk.laid,Pk.re],.inr ⟨g4,0,rfl,fun i hi=>?_⟩⟩
  have hi':i<p.asks.n:=hi
  rw [Nat.zero_add,c4,c4]
  unfold Uptw
  rw [if_neg (by omega),if_pos (by omega),show (i*2+1) / 2=i by omega]
  exact ⟨(as_at hin.asks i hi).1,rfl⟩
 · exact ⟨by simp [Pk.laid,Pk.re],.inr ⟨g5,0,rfl,fun i hi=>by rw [Nat.zero_add];exact (c5 i).trans (zbe hi)⟩⟩
 · exact ⟨by simp [Pk.laid,Pk.re],.inr ⟨g6,0,rfl,fun i hi=>by rw [Nat.zero_add];exact (c6 i).trans (zbe hi)⟩⟩
 · intro k hk;exact ((c1 _).trans (zaU (by omega))).trans (cell_later b0 (m.m1 k hk))
 · intro k hk;exact ((c2 _).trans (zaU (by omega))).trans (cell_later b0 (m.m2 k hk))
 · intro k hk;exact ((c3 _).trans (zaU (by omega))).trans (cell_later b0 (m.m3 k hk))
 ·
  intro k hk
  have q:=m.m4 k hk
  refine ⟨((c4 _).trans ?_).trans (cell_later b0 q.1),((c4 _).trans ?_).trans (cell_later b0 q.2)⟩
  · unfold Uptw;rw [if_neg (by omega)]
  · unfold Uptw;rw [if_neg (by omega)]
 · intro k hk;exact ((c5 _).trans (zaU (by omega))).trans (cell_later b0 (m.m5 k hk))
 · intro k hk;exact ((c6 _).trans (zaU (by omega))).trans (cell_later b0 (m.m6 k hk))
theorem spoil_any (p:Pk) (c:Cn) (w:World) (g1 g2 g3 g4 g5 g6:Nat) (hin:In w (p.laid g1 g2 g3 g4 g5 g6) c) (hs:Small p c)
    (t1:∃ cs,w.heap[g1]?=some (.cells cs 5 (0,0))) (t2:∃ cs,w.heap[g2]?=some (.cells cs 5 (0,0))) (t3:∃ cs,w.heap[g3]?=some (.cells cs 5 (0,0))) (t4:∃ cs,w.heap[g4]?=some (.cells cs 98 (0,0))) (t5:∃ cs,w.heap[g5]?=some (.cells cs 3 (0,0))) (t6:∃ cs,w.heap[g6]?=some (.cells cs 9 (0,0))) (d12:g1≠g2) (d13:g1≠g3) (d23:g2≠g3) :
    Calls Tryz.prog 17 #[(p.laid g1 g2 g3 g4 g5 g6).v] w fun e w'=>e = .returned (.tuple #[])∧Spo p c g1 g2 g3 g4 g5 g6 w w':=by
  rw [show (p.laid g1 g2 g3 g4 g5 g6).v = .agg (pkCells (p.laid g1 g2 g3 g4 g5 g6)) from rfl]
  obtain ⟨cs,hcs⟩:∃ cs,cs=pkCells (p.laid g1 g2 g3 g4 g5 g6):=⟨_,rfl⟩
  rw [← hcs]
  obtain ⟨W,hW⟩:∃ W,W=w.alloc (.cells cs 29):=⟨_,rfl⟩
  have gX:W.heap[w.heap.size]?=some (.cells cs 29 (0,0)):=by rw [hW];exact heap_alloc_new w _
  have b0:Below w.heap.size w W:=by rw [hW];exact below1 _ _
  have B0:Hid (Below w.heap.size w W):=b0
  have HI:Hid (In W (p.laid g1 g2 g3 g4 g5 g6) c):=hin.below b0
  have SM:Hid (Small p c):=hs
  have e3:Hid (W.cell? ⟨w.heap.size,13,none⟩=some (.slice (some ⟨g3,0,none⟩) p.pass.n (p.pass.n+600))):=by show _=_;simp only [World.cell?,gX];rw [hcs];rfl
  obtain ⟨c3,t3⟩:=t3
  have q3:=(b0.block _ (za4 t3)).trans t3
  have T3:Hid (∃ cs,W.heap[g3]?=some (.cells cs 5 (0,0))):=⟨_,q3⟩
  have N3:Hid (w.heap.size≠g3):=ne_ty gX q3 (by decide)
  have e1:Hid (W.cell? ⟨w.heap.size,7,none⟩=some (.slice (some ⟨g1,0,none⟩) p.wP.n (p.wP.n+600))):=by show _=_;simp only [World.cell?,gX];rw [hcs];rfl
  obtain ⟨c1,t1⟩:=t1
  have q1:=(b0.block _ (za4 t1)).trans t1
  have T1:Hid (∃ cs,W.heap[g1]?=some (.cells cs 5 (0,0))):=⟨_,q1⟩
  have N1:Hid (w.heap.size≠g1):=ne_ty gX q1 (by decide)
  have e2:Hid (W.cell? ⟨w.heap.size,18,none⟩=some (.slice (some ⟨g2,0,none⟩) p.mP.n (p.mP.n+600))):=by show _=_;simp only [World.cell?,gX];rw [hcs];rfl
  obtain ⟨c2,t2⟩:=t2
  have q2:=(b0.block _ (za4 t2)).trans t2
  have T2:Hid (∃ cs,W.heap[g2]?=some (.cells cs 5 (0,0))):=⟨_,q2⟩
  have N2:Hid (w.heap.size≠g2):=ne_ty gX q2 (by decide)
  have e4:Hid (W.cell? ⟨w.heap.size,22,none⟩=some (.slice (some ⟨g4,0,none⟩) p.asks.n (p.asks.n+40))):=by show _=_;simp only [World.cell?,gX];rw [hcs];rfl
  obtain ⟨c4,t4⟩:=t4
  have q4:=(b0.block _ (za4 t4)).trans t4
  have T4:Hid (∃ cs,W.heap[g4]?=some (.cells cs 98 (0,0))):=⟨_,q4⟩
  have N4:Hid (w.heap.size≠g4):=ne_ty gX q4 (by decide)
  have e5:Hid (W.cell? ⟨w.heap.size,23,none⟩=some (.slice (some ⟨g5,0,none⟩) p.codes.n (p.codes.n+40))):=by show _=_;simp only [World.cell?,gX];rw [hcs];rfl
  obtain ⟨c5,t5⟩:=t5
  have q5:=(b0.block _ (za4 t5)).trans t5
  have T5:Hid (∃ cs,W.heap[g5]?=some (.cells cs 3 (0,0))):=⟨_,q5⟩
  have N5:Hid (w.heap.size≠g5):=ne_ty gX q5 (by decide)
  have e6:Hid (W.cell? ⟨w.heap.size,24,none⟩=some (.slice (some ⟨g6,0,none⟩) p.filters.n (p.filters.n+40))):=by show _=_;simp only [World.cell?,gX];rw [hcs];rfl
  obtain ⟨c6,t6⟩:=t6
  have q6:=(b0.block _ (za4 t6)).trans t6
  have T6:Hid (∃ cs,W.heap[g6]?=some (.cells cs 9 (0,0))):=⟨_,q6⟩
  have N6:Hid (w.heap.size≠g6):=ne_ty gX q6 (by decide)
  have D13:Hid (g1≠g3):=d13
  have D23:Hid (g2≠g3):=d23
  have D21:Hid (g2≠g1):=Ne.symm d12
  have D43:Hid (g4≠g3):=ne_ty q4 q3 (by decide)
  have D41:Hid (g4≠g1):=ne_ty q4 q1 (by decide)
  have D42:Hid (g4≠g2):=ne_ty q4 q2 (by decide)
  have D53:Hid (g5≠g3):=ne_ty q5 q3 (by decide)
  have D51:Hid (g5≠g1):=ne_ty q5 q1 (by decide)
  have D52:Hid (g5≠g2):=ne_ty q5 q2 (by decide)
  have D54:Hid (g5≠g4):=ne_ty q5 q4 (by decide)
  have D63:Hid (g6≠g3):=ne_ty q6 q3 (by decide)
  have D61:Hid (g6≠g1):=ne_ty q6 q1 (by decide)
  have D62:Hid (g6≠g2):=ne_ty q6 q2 (by decide)
  have D64:Hid (g6≠g4):=ne_ty q6 q4 (by decide)
  have D65:Hid (g6≠g5):=ne_ty q6 q5 (by decide)
  clear hcs gX b0 hin hs t1 t2 t3 t4 t5 t6 q1 q2 q3 q4 q5 q6 d12 d13 d23
  go_enter Tryz.func17,Tryz.ntmps17
  go_upto_region 1 with fail
  rw [← hW]
  clear hW
  go_wp2
  have hb0:Hid (W.heap[g3]?=W.heap[g3]?):=rfl
  have a0:Hid (W.cell? ⟨w.heap.size,13,none⟩=some (.slice (some ⟨g3,0,none⟩) p.pass.n (p.pass.n+600))):=(za9 (rfl) _).trans e3.out
  have z0:Hid (∀ i,i<p.pass.n→W.cell? ⟨g3,i,none⟩=some (.int .u8 (c.pz i))):=fun i hi=>(za9 hb0.out _).trans (by_at HI.out.pass i hi)
  go_loopw [2] (fun i wr=>∃ k:Nat,k≤p.pass.n∧i = .int .i64 k∧Hit 5 g3 W wr (Upto W g3 (fun j=>.int .u8 (spB c.pz j)) k)) (fun i _=>p.pass.n-(intOf i).toNat)
  case atStart=>exact ⟨0,Nat.zero_le _,rfl,(Hit.start (by rw [hb0.out];exact T3.out)).told (fun j=>by simp [Upto])⟩
  case round =>
    obtain ⟨k,hk,rfl,hh⟩:=hrel
    have H0:=(show Hid _ from hh)
    clear hh
    have qa:=(H0.out.keep N3.out).trans a0.out
    by_cases hlt:k<p.pass.n
    · have qi:(k:Int)<(p.pass.n:Int):=by omega
      have q0:(0:Int)≤(k:Int):=by omega
      have qw:IntKind.i64.wrap ((k:Int)+1)=((k+1:Nat):Int):=by have:=SM.out.ps;rw [IntKind.wrap_i64];omega
      have qk:=H0.out.at (z0.out k hlt)
      have qf:=H0.out.frozen (k)
      have S:=(show Hid _ from H0.out.one (z0.out k hlt))
      go_wp2
      go_region
      all_goals go_wp2
      go_roundw
      case rel=>exact ⟨k+1,by omega,by first | rfl | (rw [qw]) | go_num,S.out⟩
      case measure=>first | (rw [qw];simp [intOf];omega)|(simp [intOf];omega)
    · obtain rfl:k=p.pass.n:=by omega
      have qi:¬ (p.pass.n:Int)<(p.pass.n:Int):=by omega
      clear hk hlt
      go_wp2
      clear qa qi
      obtain ⟨W1,hW1⟩:∃ W',W'=wr:=⟨_,rfl⟩
      rw [← hW1] at H0 ⊢
      clear hW1
      have hc1:Hid (∀ k,k≠g3→W1.heap[k]?=W.heap[k]?):=fun k h3=>(H0.out.other k h3).trans (rfl)
      have hb1:Hid (W1.heap[g1]?=W.heap[g1]?):=hc1.out _ D13.out
      have a1:Hid (W1.cell? ⟨w.heap.size,7,none⟩=some (.slice (some ⟨g1,0,none⟩) p.wP.n (p.wP.n+600))):=(za9 (hc1.out _ N3.out) _).trans e1.out
      have z1:Hid (∀ i,i<p.wP.n→W1.cell? ⟨g1,i,none⟩=some (.int .u8 (c.wz i))):=fun i hi=>(za9 hb1.out _).trans (by_at HI.out.wP i hi)
      go_loopw [3] (fun i wr=>∃ k:Nat,k≤p.wP.n∧i = .int .i64 k∧Hit 5 g1 W1 wr (Upto W1 g1 (fun j=>.int .u8 (spB c.wz j)) k)) (fun i _=>p.wP.n-(intOf i).toNat)
      case atStart=>exact ⟨0,Nat.zero_le _,rfl,(Hit.start (by rw [hb1.out];exact T1.out)).told (fun j=>by simp [Upto])⟩
      case round =>
        obtain ⟨k,hk,rfl,hh⟩:=hrel
        have H1:=(show Hid _ from hh)
        clear hh
        have qa:=(H1.out.keep N1.out).trans a1.out
        by_cases hlt:k<p.wP.n
        · have qi:(k:Int)<(p.wP.n:Int):=by omega
          have q0:(0:Int)≤(k:Int):=by omega
          have qw:IntKind.i64.wrap ((k:Int)+1)=((k+1:Nat):Int):=by have:=SM.out.wp;rw [IntKind.wrap_i64];omega
          have qk:=H1.out.at (z1.out k hlt)
          have qf:=H1.out.frozen (k)
          have S:=(show Hid _ from H1.out.one (z1.out k hlt))
          go_wp2
          go_region
          all_goals go_wp2
          go_roundw
          case rel=>exact ⟨k+1,by omega,by first | rfl | (rw [qw]) | go_num,S.out⟩
          case measure=>first | (rw [qw];simp [intOf];omega)|(simp [intOf];omega)
        · obtain rfl:k=p.wP.n:=by omega
          have qi:¬ (p.wP.n:Int)<(p.wP.n:Int):=by omega
          clear hk hlt
          go_wp2
          clear qa qi
          obtain ⟨W2,hW2⟩:∃ W',W'=wr:=⟨_,rfl⟩
          rw [← hW2] at H1 ⊢
          clear hW2
          have hc2:Hid (∀ k,k≠g3→k≠g1→W2.heap[k]?=W.heap[k]?):=fun k h3 h1=>(H1.out.other k h1).trans (hc1.out k h3)
          have hb2:Hid (W2.heap[g2]?=W.heap[g2]?):=hc2.out _ D23.out D21.out
          have a2:Hid (W2.cell? ⟨w.heap.size,18,none⟩=some (.slice (some ⟨g2,0,none⟩) p.mP.n (p.mP.n+600))):=(za9 (hc2.out _ N3.out N1.out) _).trans e2.out
          have z2:Hid (∀ i,i<p.mP.n→W2.cell? ⟨g2,i,none⟩=some (.int .u8 (c.mz i))):=fun i hi=>(za9 hb2.out _).trans (by_at HI.out.mP i hi)
          go_loopw [4] (fun i wr=>∃ k:Nat,k≤p.mP.n∧i = .int .i64 k∧Hit 5 g2 W2 wr (Upto W2 g2 (fun j=>.int .u8 (spB c.mz j)) k)) (fun i _=>p.mP.n-(intOf i).toNat)
          case atStart=>exact ⟨0,Nat.zero_le _,rfl,(Hit.start (by rw [hb2.out];exact T2.out)).told (fun j=>by simp [Upto])⟩
          case round =>
            obtain ⟨k,hk,rfl,hh⟩:=hrel
            have H2:=(show Hid _ from hh)
            clear hh
            have qa:=(H2.out.keep N2.out).trans a2.out
            by_cases hlt:k<p.mP.n
            · have qi:(k:Int)<(p.mP.n:Int):=by omega
              have q0:(0:Int)≤(k:Int):=by omega
              have qw:IntKind.i64.wrap ((k:Int)+1)=((k+1:Nat):Int):=by have:=SM.out.mp;rw [IntKind.wrap_i64];omega
              have qk:=H2.out.at (z2.out k hlt)
              have qf:=H2.out.frozen (k)
              have S:=(show Hid _ from H2.out.one (z2.out k hlt))
              go_wp2
              go_region
              all_goals go_wp2
              go_roundw
              case rel=>exact ⟨k+1,by omega,by first | rfl | (rw [qw]) | go_num,S.out⟩
              case measure=>first | (rw [qw];simp [intOf];omega)|(simp [intOf];omega)
            · obtain rfl:k=p.mP.n:=by omega
              have qi:¬ (p.mP.n:Int)<(p.mP.n:Int):=by omega
              clear hk hlt
              go_wp2
              clear qa qi
              obtain ⟨W3,hW3⟩:∃ W',W'=wr:=⟨_,rfl⟩
              rw [← hW3] at H2 ⊢
              clear hW3
              have hc3:Hid (∀ k,k≠g3→k≠g1→k≠g2→W3.heap[k]?=W.heap[k]?):=fun k h3 h1 h2=>(H2.out.other k h2).trans (hc2.out k h3 h1)
              have hb3:Hid (W3.heap[g4]?=W.heap[g4]?):=hc3.out _ D43.out D41.out D42.out
              have a3:Hid (W3.cell? ⟨w.heap.size,22,none⟩=some (.slice (some ⟨g4,0,none⟩) p.asks.n (p.asks.n+40))):=(za9 (hc3.out _ N3.out N1.out N2.out) _).trans e4.out
              have z3:Hid (∀ i,i<p.asks.n→W3.cell? ⟨g4,i*2+1,none⟩=some (.int .i64 (c.aq i))):=fun i hi=>(za9 hb3.out _).trans (as_at HI.out.asks i hi).2
              go_loopw [5] (fun i wr=>∃ k:Nat,k≤p.asks.n∧i = .int .i64 k∧Hit 98 g4 W3 wr (Uptw W3 g4 (fun j=>.int .i64 (spQ c.aq j)) k)) (fun i _=>p.asks.n-(intOf i).toNat)
              case atStart=>exact ⟨0,Nat.zero_le _,rfl,(Hit.start (by rw [hb3.out];exact T4.out)).told (fun j=>by simp [Uptw])⟩
              case round =>
                obtain ⟨k,hk,rfl,hh⟩:=hrel
                have H3:=(show Hid _ from hh)
                clear hh
                have qa:=(H3.out.keep N4.out).trans a3.out
                by_cases hlt:k<p.asks.n
                · have qi:(k:Int)<(p.asks.n:Int):=by omega
                  have q0:(0:Int)≤(k:Int):=by omega
                  have qw:IntKind.i64.wrap ((k:Int)+1)=((k+1:Nat):Int):=by have:=SM.out.an;rw [IntKind.wrap_i64];omega
                  have qk:=H3.out.atw (z3.out k hlt)
                  have qf:=H3.out.frozen (k*2+1)
                  have S:=(show Hid _ from H3.out.two (z3.out k hlt))
                  go_wp2
                  go_region
                  all_goals go_wp2
                  go_roundw
                  case rel=>exact ⟨k+1,by omega,by first | rfl | (rw [qw]) | go_num,S.out⟩
                  case measure=>first | (rw [qw];simp [intOf];omega)|(simp [intOf];omega)
                · obtain rfl:k=p.asks.n:=by omega
                  have qi:¬ (p.asks.n:Int)<(p.asks.n:Int):=by omega
                  clear hk hlt
                  go_wp2
                  clear qa qi
                  obtain ⟨W4,hW4⟩:∃ W',W'=wr:=⟨_,rfl⟩
                  rw [← hW4] at H3 ⊢
                  clear hW4
                  have hc4:Hid (∀ k,k≠g3→k≠g1→k≠g2→k≠g4→W4.heap[k]?=W.heap[k]?):=fun k h3 h1 h2 h4=>(H3.out.other k h4).trans (hc3.out k h3 h1 h2)
                  have hb4:Hid (W4.heap[g5]?=W.heap[g5]?):=hc4.out _ D53.out D51.out D52.out D54.out
                  have a4:Hid (W4.cell? ⟨w.heap.size,23,none⟩=some (.slice (some ⟨g5,0,none⟩) p.codes.n (p.codes.n+40))):=(za9 (hc4.out _ N3.out N1.out N2.out N4.out) _).trans e5.out
                  have z4:Hid (∀ i,i<p.codes.n→W4.cell? ⟨g5,i,none⟩=some (.int .i64 (c.cs i))):=fun i hi=>(za9 hb4.out _).trans (is_at HI.out.codes i hi)
                  go_loopw [6] (fun i wr=>∃ k:Nat,k≤p.codes.n∧i = .int .i64 k∧Hit 3 g5 W4 wr (Upto W4 g5 (fun j=>.int .i64 (spI c.cs j)) k)) (fun i _=>p.codes.n-(intOf i).toNat)
                  case atStart=>exact ⟨0,Nat.zero_le _,rfl,(Hit.start (by rw [hb4.out];exact T5.out)).told (fun j=>by simp [Upto])⟩
                  case round =>
                    obtain ⟨k,hk,rfl,hh⟩:=hrel
                    have H4:=(show Hid _ from hh)
                    clear hh
                    have qa:=(H4.out.keep N5.out).trans a4.out
                    by_cases hlt:k<p.codes.n
                    · have qi:(k:Int)<(p.codes.n:Int):=by omega
                      have q0:(0:Int)≤(k:Int):=by omega
                      have qw:IntKind.i64.wrap ((k:Int)+1)=((k+1:Nat):Int):=by have:=SM.out.cn;rw [IntKind.wrap_i64];omega
                      have qk:=H4.out.at (z4.out k hlt)
                      have qf:=H4.out.frozen (k)
                      have S:=(show Hid _ from H4.out.one (z4.out k hlt))
                      go_wp2
                      go_region
                      all_goals go_wp2
                      go_roundw
                      case rel=>exact ⟨k+1,by omega,by first | rfl | (rw [qw]) | go_num,S.out⟩
                      case measure=>first | (rw [qw];simp [intOf];omega)|(simp [intOf];omega)
                    · obtain rfl:k=p.codes.n:=by omega
                      have qi:¬ (p.codes.n:Int)<(p.codes.n:Int):=by omega
                      clear hk hlt
                      go_wp2
                      clear qa qi
                      obtain ⟨W5,hW5⟩:∃ W',W'=wr:=⟨_,rfl⟩
                      rw [← hW5] at H4 ⊢
                      clear hW5
                      have hc5:Hid (∀ k,k≠g3→k≠g1→k≠g2→k≠g4→k≠g5→W5.heap[k]?=W.heap[k]?):=fun k h3 h1 h2 h4 h5=>(H4.out.other k h5).trans (hc4.out k h3 h1 h2 h4)
                      have hb5:Hid (W5.heap[g6]?=W.heap[g6]?):=hc5.out _ D63.out D61.out D62.out D64.out D65.out
                      have a5:Hid (W5.cell? ⟨w.heap.size,24,none⟩=some (.slice (some ⟨g6,0,none⟩) p.filters.n (p.filters.n+40))):=(za9 (hc5.out _ N3.out N1.out N2.out N4.out N5.out) _).trans e6.out
                      have z5:Hid (∀ i,i<p.filters.n→W5.cell? ⟨g6,i,none⟩=some (.string (c.fs i))):=fun i hi=>(za9 hb5.out _).trans (ss_at HI.out.filters i hi)
                      go_loopw [7] (fun i wr=>∃ k:Nat,k≤p.filters.n∧i = .int .i64 k∧Hit 9 g6 W5 wr (Upto W5 g6 (fun j=>.string (spF c.fs j)) k)) (fun i _=>p.filters.n-(intOf i).toNat)
                      case atStart=>exact ⟨0,Nat.zero_le _,rfl,(Hit.start (by rw [hb5.out];exact T6.out)).told (fun j=>by simp [Upto])⟩
                      case round =>
                        obtain ⟨k,hk,rfl,hh⟩:=hrel
                        have H5:=(show Hid _ from hh)
                        clear hh
                        have qa:=(H5.out.keep N6.out).trans a5.out
                        by_cases hlt:k<p.filters.n
                        · have qi:(k:Int)<(p.filters.n:Int):=by omega
                          have q0:(0:Int)≤(k:Int):=by omega
                          have qw:IntKind.i64.wrap ((k:Int)+1)=((k+1:Nat):Int):=by have:=SM.out.fn;rw [IntKind.wrap_i64];omega
                          have qk:=H5.out.at (z5.out k hlt)
                          have qz:(c.fs k).size+(⟨#[47]⟩:ByteArray).size≤9223372036854775807:=by have h1:=sumN_step (fun i=>2+(c.fs i).size) p.filters.n k hlt;have h2:=SM.out.sf;have h3:(⟨#[47]⟩:ByteArray).size=1:=rfl;omega
                          have qf:=H5.out.frozen (k)
                          have S:=(show Hid _ from H5.out.one (z5.out k hlt))
                          go_wp2
                          go_region
                          all_goals go_wp2
                          go_roundw
                          case rel=>exact ⟨k+1,by omega,by first | rfl | (rw [qw]) | go_num,S.out⟩
                          case measure=>first | (rw [qw];simp [intOf];omega)|(simp [intOf];omega)
                        · obtain rfl:k=p.filters.n:=by omega
                          have qi:¬ (p.filters.n:Int)<(p.filters.n:Int):=by omega
                          clear hk hlt
                          go_wp2
                          go_end0
                          exact ⟨rfl,spo_end B0.out HI.out H0.out H1.out H2.out H3.out H4.out H5.out D13.out D23.out D21.out D43.out D41.out D42.out D53.out D51.out D52.out D54.out D63.out D61.out D62.out D64.out D65.out⟩
end Go.Proofs.YtceigllifjgalaaGreatDoor.Pkt
