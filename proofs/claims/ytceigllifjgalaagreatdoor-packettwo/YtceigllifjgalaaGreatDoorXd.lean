import Derived.Test.YtceigllifjgalaaGreatDoorPUk
import Derived.Laws.CopyOwn
import Derived.Lib.AppendZerosOnto
import Derived.Test.YtceigllifjgalaaGreatDoorKz
namespace Go.Proofs.YtceigllifjgalaaGreatDoor.Pkt
open Go Go.RowKit Go.Sort
set_option linter.unusedSimpArgs false
set_option linter.unusedVariables false
set_option maxRecDepth 100000
set_option maxHeartbeats 4000000
structure Nils (p:Pk):Prop where
 wp:Nil p.wP
 ps:Nil p.pass
 mp:Nil p.mP
 an:Nil p.asks
 cn:Nil p.codes
 fn:Nil p.filters
theorem nil28_at:∀ i,i<28→nil28[i]?=some (.slice none 0 0):=by
 intro i hi
 match i,hi with
 | 0,_=>rfl
 | 1,_=>rfl
 | 2,_=>rfl
 | 3,_=>rfl
 | 4,_=>rfl
 | 5,_=>rfl
 | 6,_=>rfl
 | 7,_=>rfl
 | 8,_=>rfl
 | 9,_=>rfl
 | 10,_=>rfl
 | 11,_=>rfl
 | 12,_=>rfl
 | 13,_=>rfl
 | 14,_=>rfl
 | 15,_=>rfl
 | 16,_=>rfl
 | 17,_=>rfl
 | 18,_=>rfl
 | 19,_=>rfl
 | 20,_=>rfl
 | 21,_=>rfl
 | 22,_=>rfl
 | 23,_=>rfl
 | 24,_=>rfl
 | 25,_=>rfl
 | 26,_=>rfl
 | 27,_=>rfl
 | n+28,h=>omega
structure Mks (w:World) (p:Pk) (g1 g2 g3 g4 g5 g6:Nat):Prop where
 m1:∀ k,k<600→markB w g1 (p.wP.n+k) k
 m2:∀ k,k<600→markB w g2 (p.mP.n+k) k
 m3:∀ k,k<600→markB w g3 (p.pass.n+k) k
 m4:∀ k,k<40→markA w g4 (p.asks.n+k) k
 m5:∀ k,k<40→markI w g5 (p.codes.n+k) k
 m6:∀ k,k<40→markS w g6 (p.filters.n+k) k
structure Rx (w:World) (R K:Nat) (p:Pk) (g1 g2 g3 g4 g5 g6:Nat):Prop where
 t1:∃ cs,w.heap[g1]?=some (.cells cs 5 (0,0))
 t2:∃ cs,w.heap[g2]?=some (.cells cs 5 (0,0))
 t3:∃ cs,w.heap[g3]?=some (.cells cs 5 (0,0))
 t4:∃ cs,w.heap[g4]?=some (.cells cs 98 (0,0))
 t5:∃ cs,w.heap[g5]?=some (.cells cs 3 (0,0))
 t6:∃ cs,w.heap[g6]?=some (.cells cs 9 (0,0))
 d12:g1≠g2
 d13:g1≠g3
 d23:g2≠g3
 ms:Mks w p g1 g2 g3 g4 g5 g6
 re:∀ w':World,(∀ k,k<w.heap.size→k≠K→k≠g1→k≠g2→k≠g3→k≠g4→k≠g5→k≠g6→w'.heap[k]?=w.heap[k]?)→Mks w' p g1 g2 g3 g4 g5 g6→RoomOk w' R 3 1 1 1
theorem ne_ty {w:World} {a b t u:Nat} {cs ds:Array Value} (ha:w.heap[a]?=some (.cells cs t (0,0))) (hb:w.heap[b]?=some (.cells ds u (0,0))) (h:t≠u):a≠b:=by
 rintro rfl
 rw [ha] at hb
 simp at hb
 exact h hb.2
def Pk.laid (p:Pk) (g1 g2 g3 g4 g5 g6:Nat):Pk:=p.re ⟨some ⟨g1,0,none⟩,p.wP.n,p.wP.n+600⟩ ⟨some ⟨g3,0,none⟩,p.pass.n,p.pass.n+600⟩ ⟨some ⟨g2,0,none⟩,p.mP.n,p.mP.n+600⟩ ⟨some ⟨g4,0,none⟩,p.asks.n,p.asks.n+40⟩ ⟨some ⟨g5,0,none⟩,p.codes.n,p.codes.n+40⟩ ⟨some ⟨g6,0,none⟩,p.filters.n,p.filters.n+40⟩
theorem packet_laid (p:Pk) (c:Cn) (w0 w:World) (R K:Nat) (curK:Array Value) (hin:In w0 p c) (hs:Small p c) (hn:Nils p) (hw:Below w0.heap.size w0 w) (hRl:w0.heap.size≤R) (hR:w.heap[R]?=some (.cells nil28 48 (0,0))) (hK:w.heap[K]?=some (.cells curK 55 (0,0))) :
    Calls Tryz.prog 12 #[.pointer (some ⟨R,0,none⟩),p.v] w fun e w'=>∃ g1 g2 g3 g4 g5 g6:Nat,e = .returned (Pk.laid p g1 g2 g3 g4 g5 g6).v∧Below w0.heap.size w0 w'∧In w' (Pk.laid p g1 g2 g3 g4 g5 g6) c∧w'.heap[K]?=some (.cells curK 55 (0,0))∧Rx w' R K p g1 g2 g3 g4 g5 g6∧(w0.heap.size≤g1∧w0.heap.size≤g2∧w0.heap.size≤g3∧w0.heap.size≤g4∧w0.heap.size≤g5∧w0.heap.size≤g6):=by
  have HI:Hid (In w0 p c):=hin
  have HS:Hid (Small p c):=hs
  have HN:Hid (Nils p):=hn
  clear hin hs hn
  rw [show p.v = .agg (pkCells p) from rfl]
  obtain ⟨c0,hc0⟩:∃ cs,cs=pkCells p:=⟨_,rfl⟩
  rw [← hc0]
  have HC0:Hid (c0=pkCells p):=hc0
  clear hc0
  obtain ⟨Z,hZ⟩:∃ Z:Array Value,Z = #[.int .i64 0,.int .i64 0,.bool false,.int .i64 0,.string ⟨#[]⟩,.bool false,.string ⟨#[]⟩,.slice none 0 0,.int .i64 0,.bool false,.bool false,.string ⟨#[]⟩,.bool false,.slice none 0 0,.bool false,.int .i64 0,.bool false,.string ⟨#[]⟩,.slice none 0 0,.int .i64 0,.bool false,.int .i64 0,.slice none 0 0,.slice none 0 0,.slice none 0 0]:=⟨_,rfl⟩
  have HZ:Hid (Z=zeroPk):=hZ
  have HR:Hid (w0.heap.size≤R):=hRl
  obtain ⟨X,hsz⟩:∃ X,w.heap.size=X:=⟨_,rfl⟩
  obtain ⟨W0,hW0⟩:∃ W0,W0=(w.alloc (.cells c0 29)).alloc (.cells Z 29):=⟨_,rfl⟩
  have S0:Hid (Pst w0 R X nil28 c0 (.slice none 0 0) (.slice none 0 0) 0 [] [] [(K,curK,55)] W0):=by
    have bb:=below2 w (.cells c0 29) (.cells Z 29)
    rw [← hW0] at bb
    refine ⟨by rw [← hsz];exact hw.size,hw.trans (bb.mono hw.size),(bb.block _ (za4 hR)).trans hR,?_,?_,World.ownsRow_nil _ _ _ _,World.ownsRow_nil _ _ _ _,fun x hx=>?_⟩
    · rw [← hsz,hW0];exact heap_alloc2_old w _ _
    · rw [← hsz,hW0,HZ.out];exact heap_alloc2_new w _ _
    · obtain rfl:=List.mem_singleton.1 hx
      exact (bb.block _ (za4 hK)).trans hK
  clear hw hRl hR hK
  go_enter Tryz.func12,Tryz.ntmps12
  go_upto_region 1 with fail
  rw [← hZ,← hW0]
  clear hZ hW0 hsz
  have e6:=S0.out.cell 6 (.string p.wT) (by (repeat rw [Array.getElem?_setIfInBounds_ne (by decide)]);(rw [HC0.out];rfl))
  have e7:=S0.out.cell 7 (.slice p.wP.a p.wP.n p.wP.c) (by (repeat rw [Array.getElem?_setIfInBounds_ne (by decide)]);(rw [HC0.out];rfl))
  have e8:=S0.out.cell 8 (.int .i64 p.wQ) (by (repeat rw [Array.getElem?_setIfInBounds_ne (by decide)]);(rw [HC0.out];rfl))
  have e9:=S0.out.cell 9 (.bool p.wR) (by (repeat rw [Array.getElem?_setIfInBounds_ne (by decide)]);(rw [HC0.out];rfl))
  go_wp2_with fail
  go_must (go_at_call 42)
  clear e6 e7 e8 e9
  refine (zb9 R w0.heap.size 0 nil28 (.slice none 0 0) (.slice none 0 0) [] [] p.wT p.wP p.wQ p.wR (cB c.wz p.wP.n) _ HS.out.wp (by decide) (cB_len _ _) (cB_one _ _) (S0.out.src (HI.out.wP.src HN.out.wp)) S0.out.rm (by simp [nil28]) (by simp [nil28]) HR.out S0.out.ob S0.out.oa).mono ?_
  rintro e V1 ⟨g1,cp1,cur1,vb1,va1,rfl,hL⟩
  have LO1:Hid (w0.heap.size≤g1):=Nat.le_trans S0.out.below.size hL.new
  have L1:Hid (cur1.size=cp1*1∧p.wP.n+600≤cp1∧cur1.toList.take ((p.wP.n+600)*1)=cB c.wz p.wP.n++mB 600):=⟨hL.sz,hL.cap,hL.cells⟩
  have T1:=(show Hid _ from S0.out.layB hL (by simp))
  clear hL
  have e6:=T1.out.cell 6 (.string p.wT) (by (repeat rw [Array.getElem?_setIfInBounds_ne (by decide)]);(rw [HC0.out];rfl))
  have z6:=T1.out.frozen 6
  have e7:=T1.out.cell 7 (.slice p.wP.a p.wP.n p.wP.c) (by (repeat rw [Array.getElem?_setIfInBounds_ne (by decide)]);(rw [HC0.out];rfl))
  have z7:=T1.out.frozen 7
  have e8:=T1.out.cell 8 (.int .i64 p.wQ) (by (repeat rw [Array.getElem?_setIfInBounds_ne (by decide)]);(rw [HC0.out];rfl))
  have z8:=T1.out.frozen 8
  have e9:=T1.out.cell 9 (.bool p.wR) (by (repeat rw [Array.getElem?_setIfInBounds_ne (by decide)]);(rw [HC0.out];rfl))
  have z9:=T1.out.frozen 9
  obtain ⟨W1,hW1⟩:∃ W,W=((((V1.setCell ⟨X,6,none⟩ (.string p.wT)).setCell ⟨X,7,none⟩ (.slice (some ⟨g1,0,none⟩) p.wP.n (p.wP.n+600))).setCell ⟨X,8,none⟩ (.int .i64 p.wQ)).setCell ⟨X,9,none⟩ (.bool p.wR)):=⟨_,rfl⟩
  have S1:=(show Hid _ from ((((T1.out.set 6 (.string p.wT) (by simp)).set 7 (.slice (some ⟨g1,0,none⟩) p.wP.n (p.wP.n+600)) (by simp)).set 8 (.int .i64 p.wQ) (by simp)).set 9 (.bool p.wR) (by simp)))
  rw [← hW1] at S1
  go_upto_region 2 with fail
  rw [← hW1]
  clear hW1 e6 z6 e7 z7 e8 z8 e9 z9 S0 T1
  have e17:=S1.out.cell 17 (.string p.mT) (by (repeat rw [Array.getElem?_setIfInBounds_ne (by decide)]);(rw [HC0.out];rfl))
  have e18:=S1.out.cell 18 (.slice p.mP.a p.mP.n p.mP.c) (by (repeat rw [Array.getElem?_setIfInBounds_ne (by decide)]);(rw [HC0.out];rfl))
  have e19:=S1.out.cell 19 (.int .i64 p.mQ) (by (repeat rw [Array.getElem?_setIfInBounds_ne (by decide)]);(rw [HC0.out];rfl))
  have e20:=S1.out.cell 20 (.bool p.mR) (by (repeat rw [Array.getElem?_setIfInBounds_ne (by decide)]);(rw [HC0.out];rfl))
  go_wp2_with fail
  go_must (go_at_call 42)
  clear e17 e18 e19 e20
  refine (zb9 R w0.heap.size 1 ((nil28.setIfInBounds 0 vb1).setIfInBounds 1 va1) vb1 va1 ([]++[.slice (some ⟨g1,0,none⟩) (p.wP.n+600) cp1]) ([]++[.int .i64 p.wP.n]) p.mT p.mP p.mQ p.mR (cB c.mz p.mP.n) _ HS.out.mp (by decide) (cB_len _ _) (cB_one _ _) (S1.out.src (HI.out.mP.src HN.out.mp)) S1.out.rm (by simp [nil28]) (by simp [nil28]) HR.out S1.out.ob S1.out.oa).mono ?_
  rintro e V2 ⟨g2,cp2,cur2,vb2,va2,rfl,hL⟩
  have LO2:Hid (w0.heap.size≤g2):=Nat.le_trans S1.out.below.size hL.new
  have L2:Hid (cur2.size=cp2*1∧p.mP.n+600≤cp2∧cur2.toList.take ((p.mP.n+600)*1)=cB c.mz p.mP.n++mB 600):=⟨hL.sz,hL.cap,hL.cells⟩
  have F2:Hid (g1≠g2):=by have a:=za4 (S1.out.ls (g1,cur1,5) (by simp));have b:=hL.new;intro e;simp at a;omega
  have T2:=(show Hid _ from S1.out.layB hL (by simp))
  clear hL
  have e17:=T2.out.cell 17 (.string p.mT) (by (repeat rw [Array.getElem?_setIfInBounds_ne (by decide)]);(rw [HC0.out];rfl))
  have z17:=T2.out.frozen 17
  have e18:=T2.out.cell 18 (.slice p.mP.a p.mP.n p.mP.c) (by (repeat rw [Array.getElem?_setIfInBounds_ne (by decide)]);(rw [HC0.out];rfl))
  have z18:=T2.out.frozen 18
  have e19:=T2.out.cell 19 (.int .i64 p.mQ) (by (repeat rw [Array.getElem?_setIfInBounds_ne (by decide)]);(rw [HC0.out];rfl))
  have z19:=T2.out.frozen 19
  have e20:=T2.out.cell 20 (.bool p.mR) (by (repeat rw [Array.getElem?_setIfInBounds_ne (by decide)]);(rw [HC0.out];rfl))
  have z20:=T2.out.frozen 20
  obtain ⟨W2,hW2⟩:∃ W,W=((((V2.setCell ⟨X,17,none⟩ (.string p.mT)).setCell ⟨X,18,none⟩ (.slice (some ⟨g2,0,none⟩) p.mP.n (p.mP.n+600))).setCell ⟨X,19,none⟩ (.int .i64 p.mQ)).setCell ⟨X,20,none⟩ (.bool p.mR)):=⟨_,rfl⟩
  have S2:=(show Hid _ from ((((T2.out.set 17 (.string p.mT) (by simp)).set 18 (.slice (some ⟨g2,0,none⟩) p.mP.n (p.mP.n+600)) (by simp)).set 19 (.int .i64 p.mQ) (by simp)).set 20 (.bool p.mR) (by simp)))
  rw [← hW2] at S2
  go_upto_region 3 with fail
  rw [← hW2]
  clear hW2 e17 z17 e18 z18 e19 z19 e20 z20 S1 T2
  have e13:=S2.out.cell 13 (.slice p.pass.a p.pass.n p.pass.c) (by (repeat rw [Array.getElem?_setIfInBounds_ne (by decide)]);(rw [HC0.out];rfl))
  go_wp2_with fail
  go_must (go_at_call 19)
  clear e13
  refine (wrapB _ _ _ _ _ _ ((layB' R w0.heap.size 2 ((((nil28.setIfInBounds 0 vb1).setIfInBounds 1 va1).setIfInBounds 0 vb2).setIfInBounds 1 va2) vb2 va2 (([]++[.slice (some ⟨g1,0,none⟩) (p.wP.n+600) cp1])++[.slice (some ⟨g2,0,none⟩) (p.mP.n+600) cp2]) (([]++[.int .i64 p.wP.n])++[.int .i64 p.mP.n]) p.pass (cB c.pz p.pass.n) _ HS.out.ps (by decide) (cB_len _ _) (cB_one _ _) (S2.out.src (HI.out.pass.src HN.out.ps)) S2.out.rm (by simp [nil28]) (by simp [nil28]) HR.out S2.out.ob S2.out.oa).mono fun e w'' ⟨g,cp,cur,vb',va',he,hL⟩=>(⟨g,_,_,he,g,cp,cur,vb',va',he,hL⟩:∃ g n c',e = .returned (.slice (some ⟨g,0,none⟩) n c')∧∃ g cp cur vb' va',e = .returned (.slice (some ⟨g,0,none⟩) p.pass.n (p.pass.n+600))∧Laid 5 22 1 0 600 (mB 600) _ w'' R w0.heap.size 2 ((((nil28.setIfInBounds 0 vb1).setIfInBounds 1 va1).setIfInBounds 0 vb2).setIfInBounds 1 va2) vb2 va2 (([]++[.slice (some ⟨g1,0,none⟩) (p.wP.n+600) cp1])++[.slice (some ⟨g2,0,none⟩) (p.mP.n+600) cp2]) (([]++[.int .i64 p.wP.n])++[.int .i64 p.mP.n]) p.pass.n (cB c.pz p.pass.n) g cp cur vb' va'))).mono ?_
  rintro e V3 ⟨g3,cp3,cur3,vb3,va3,rfl,hL⟩
  have LO3:Hid (w0.heap.size≤g3):=Nat.le_trans S2.out.below.size hL.new
  have L3:Hid (cur3.size=cp3*1∧p.pass.n+600≤cp3∧cur3.toList.take ((p.pass.n+600)*1)=cB c.pz p.pass.n++mB 600):=⟨hL.sz,hL.cap,hL.cells⟩
  have F3:Hid (g1≠g3∧g2≠g3):=by have a:=za4 (S2.out.ls (g1,cur1,5) (by simp));have a':=za4 (S2.out.ls (g2,cur2,5) (by simp));have b:=hL.new;simp at a a';exact ⟨by omega,by omega⟩
  have T3:=(show Hid _ from S2.out.layB hL (by simp))
  clear hL
  have e13:=T3.out.cell 13 (.slice p.pass.a p.pass.n p.pass.c) (by (repeat rw [Array.getElem?_setIfInBounds_ne (by decide)]);(rw [HC0.out];rfl))
  have z13:=T3.out.frozen 13
  obtain ⟨W3,hW3⟩:∃ W,W=(V3.setCell ⟨X,13,none⟩ (.slice (some ⟨g3,0,none⟩) p.pass.n (p.pass.n+600))):=⟨_,rfl⟩
  have S3:=(show Hid _ from (T3.out.set 13 (.slice (some ⟨g3,0,none⟩) p.pass.n (p.pass.n+600)) (by simp)))
  rw [← hW3] at S3
  go_upto_region 4 with fail
  rw [← hW3]
  clear hW3 e13 z13 S2 T3
  have e22:=S3.out.cell 22 (.slice p.asks.a p.asks.n p.asks.c) (by (repeat rw [Array.getElem?_setIfInBounds_ne (by decide)]);(rw [HC0.out];rfl))
  go_wp2_with fail
  go_must (go_at_call 43)
  clear e22
  refine (wrapA _ _ _ _ _ _ ((layA' R w0.heap.size 0 ((((((nil28.setIfInBounds 0 vb1).setIfInBounds 1 va1).setIfInBounds 0 vb2).setIfInBounds 1 va2).setIfInBounds 0 vb3).setIfInBounds 1 va3) (.slice none 0 0) (.slice none 0 0) [] [] p.asks (cA c.af c.aq p.asks.n) _ HS.out.an (by decide) (cA_len _ _ _) (cA_one _ _ _) (S3.out.src (HI.out.asks.src HN.out.an)) S3.out.rm (by simp [nil28]) (by simp [nil28]) HR.out (World.ownsRow_nil _ _ _ _) (World.ownsRow_nil _ _ _ _)).mono fun e w'' ⟨g,cp,cur,vb',va',he,hL⟩=>(⟨g,_,_,he,g,cp,cur,vb',va',he,hL⟩:∃ g n c',e = .returned (.slice (some ⟨g,0,none⟩) n c')∧∃ g cp cur vb' va',e = .returned (.slice (some ⟨g,0,none⟩) p.asks.n (p.asks.n+40))∧Laid 98 25 2 6 40 (mA 40) _ w'' R w0.heap.size 0 ((((((nil28.setIfInBounds 0 vb1).setIfInBounds 1 va1).setIfInBounds 0 vb2).setIfInBounds 1 va2).setIfInBounds 0 vb3).setIfInBounds 1 va3) (.slice none 0 0) (.slice none 0 0) [] [] p.asks.n (cA c.af c.aq p.asks.n) g cp cur vb' va'))).mono ?_
  rintro e V4 ⟨g4,cp4,cur4,vb4,va4,rfl,hL⟩
  have LO4:Hid (w0.heap.size≤g4):=Nat.le_trans S3.out.below.size hL.new
  have L4:Hid (cur4.size=cp4*2∧p.asks.n+40≤cp4∧cur4.toList.take ((p.asks.n+40)*2)=cA c.af c.aq p.asks.n++mA 40):=⟨hL.sz,hL.cap,hL.cells⟩
  obtain ⟨gb4,cb4,curb4,ga4,ca4,cura4,rfl,rfl,hr1,hr2,hr3,hr4,hT⟩:=S3.out.layN hL (by simp)
  have N4:Hid (1≤cb4∧1≤ca4∧curb4[0]?=some (.slice (some ⟨g4,0,none⟩) (p.asks.n+40) cp4)∧cura4[0]?=some (.int .i64 p.asks.n)):=⟨hr1,hr2,hr3,hr4⟩
  have T4:=(show Hid _ from hT)
  clear hr1 hr2 hr3 hr4 hT
  clear hL
  have e22:=T4.out.cell 22 (.slice p.asks.a p.asks.n p.asks.c) (by (repeat rw [Array.getElem?_setIfInBounds_ne (by decide)]);(rw [HC0.out];rfl))
  have z22:=T4.out.frozen 22
  obtain ⟨W4,hW4⟩:∃ W,W=(V4.setCell ⟨X,22,none⟩ (.slice (some ⟨g4,0,none⟩) p.asks.n (p.asks.n+40))):=⟨_,rfl⟩
  have S4:=(show Hid _ from (T4.out.set 22 (.slice (some ⟨g4,0,none⟩) p.asks.n (p.asks.n+40)) (by simp)))
  rw [← hW4] at S4
  go_upto_region 5 with fail
  rw [← hW4]
  clear hW4 e22 z22 S3 T4
  have e23:=S4.out.cell 23 (.slice p.codes.a p.codes.n p.codes.c) (by (repeat rw [Array.getElem?_setIfInBounds_ne (by decide)]);(rw [HC0.out];rfl))
  go_wp2_with fail
  go_must (go_at_call 44)
  clear e23
  refine (wrapI _ _ _ _ _ _ ((layI' R w0.heap.size 0 ((((((((nil28.setIfInBounds 0 vb1).setIfInBounds 1 va1).setIfInBounds 0 vb2).setIfInBounds 1 va2).setIfInBounds 0 vb3).setIfInBounds 1 va3).setIfInBounds 6 (.slice (some ⟨gb4,0,none⟩) 1 cb4)).setIfInBounds 7 (.slice (some ⟨ga4,0,none⟩) 1 ca4)) (.slice none 0 0) (.slice none 0 0) [] [] p.codes (cI c.cs p.codes.n) _ HS.out.cn (by decide) (cI_len _ _) (cI_one _ _) (S4.out.src (HI.out.codes.src HN.out.cn)) S4.out.rm (by simp [nil28]) (by simp [nil28]) HR.out (World.ownsRow_nil _ _ _ _) (World.ownsRow_nil _ _ _ _)).mono fun e w'' ⟨g,cp,cur,vb',va',he,hL⟩=>(⟨g,_,_,he,g,cp,cur,vb',va',he,hL⟩:∃ g n c',e = .returned (.slice (some ⟨g,0,none⟩) n c')∧∃ g cp cur vb' va',e = .returned (.slice (some ⟨g,0,none⟩) p.codes.n (p.codes.n+40))∧Laid 3 26 1 2 40 (mI 40) _ w'' R w0.heap.size 0 ((((((((nil28.setIfInBounds 0 vb1).setIfInBounds 1 va1).setIfInBounds 0 vb2).setIfInBounds 1 va2).setIfInBounds 0 vb3).setIfInBounds 1 va3).setIfInBounds 6 (.slice (some ⟨gb4,0,none⟩) 1 cb4)).setIfInBounds 7 (.slice (some ⟨ga4,0,none⟩) 1 ca4)) (.slice none 0 0) (.slice none 0 0) [] [] p.codes.n (cI c.cs p.codes.n) g cp cur vb' va'))).mono ?_
  rintro e V5 ⟨g5,cp5,cur5,vb5,va5,rfl,hL⟩
  have LO5:Hid (w0.heap.size≤g5):=Nat.le_trans S4.out.below.size hL.new
  have L5:Hid (cur5.size=cp5*1∧p.codes.n+40≤cp5∧cur5.toList.take ((p.codes.n+40)*1)=cI c.cs p.codes.n++mI 40):=⟨hL.sz,hL.cap,hL.cells⟩
  have F5:Hid ((∀ k,va3.ownBlock=some k→k≠g5)∧ga4≠g5):=by have a:=za4 (S4.out.ls (ga4,cura4,3) (by simp));have b:=hL.new;simp at a;exact ⟨fun k hk=>by have:=(S4.out.oa.lt k hk).2;omega,by omega⟩
  have G5:=(show Hid _ from hL.fr)
  obtain ⟨gb5,cb5,curb5,ga5,ca5,cura5,rfl,rfl,hr1,hr2,hr3,hr4,hT⟩:=S4.out.layN hL (by simp)
  have N5:Hid (1≤cb5∧1≤ca5∧curb5[0]?=some (.slice (some ⟨g5,0,none⟩) (p.codes.n+40) cp5)∧cura5[0]?=some (.int .i64 p.codes.n)):=⟨hr1,hr2,hr3,hr4⟩
  have T5:=(show Hid _ from hT)
  clear hr1 hr2 hr3 hr4 hT
  clear hL
  have e23:=T5.out.cell 23 (.slice p.codes.a p.codes.n p.codes.c) (by (repeat rw [Array.getElem?_setIfInBounds_ne (by decide)]);(rw [HC0.out];rfl))
  have z23:=T5.out.frozen 23
  obtain ⟨W5,hW5⟩:∃ W,W=(V5.setCell ⟨X,23,none⟩ (.slice (some ⟨g5,0,none⟩) p.codes.n (p.codes.n+40))):=⟨_,rfl⟩
  have S5:=(show Hid _ from (T5.out.set 23 (.slice (some ⟨g5,0,none⟩) p.codes.n (p.codes.n+40)) (by simp)))
  rw [← hW5] at S5
  go_upto_region 6 with fail
  rw [← hW5]
  clear hW5 e23 z23 S4 T5
  have e24:=S5.out.cell 24 (.slice p.filters.a p.filters.n p.filters.c) (by (repeat rw [Array.getElem?_setIfInBounds_ne (by decide)]);(rw [HC0.out];rfl))
  go_wp2_with fail
  go_must (go_at_call 45)
  clear e24
  refine (wrapS _ _ _ _ _ _ ((layS' R w0.heap.size 0 ((((((((((nil28.setIfInBounds 0 vb1).setIfInBounds 1 va1).setIfInBounds 0 vb2).setIfInBounds 1 va2).setIfInBounds 0 vb3).setIfInBounds 1 va3).setIfInBounds 6 (.slice (some ⟨gb4,0,none⟩) 1 cb4)).setIfInBounds 7 (.slice (some ⟨ga4,0,none⟩) 1 ca4)).setIfInBounds 2 (.slice (some ⟨gb5,0,none⟩) 1 cb5)).setIfInBounds 3 (.slice (some ⟨ga5,0,none⟩) 1 ca5)) (.slice none 0 0) (.slice none 0 0) [] [] p.filters (cS c.fs p.filters.n) _ HS.out.fn (by decide) (cS_len _ _) (cS_one _ _) (S5.out.src (HI.out.filters.src HN.out.fn)) S5.out.rm (by simp [nil28]) (by simp [nil28]) HR.out (World.ownsRow_nil _ _ _ _) (World.ownsRow_nil _ _ _ _)).mono fun e w'' ⟨g,cp,cur,vb',va',he,hL⟩=>(⟨g,_,_,he,g,cp,cur,vb',va',he,hL⟩:∃ g n c',e = .returned (.slice (some ⟨g,0,none⟩) n c')∧∃ g cp cur vb' va',e = .returned (.slice (some ⟨g,0,none⟩) p.filters.n (p.filters.n+40))∧Laid 9 27 1 4 40 (mS 40) _ w'' R w0.heap.size 0 ((((((((((nil28.setIfInBounds 0 vb1).setIfInBounds 1 va1).setIfInBounds 0 vb2).setIfInBounds 1 va2).setIfInBounds 0 vb3).setIfInBounds 1 va3).setIfInBounds 6 (.slice (some ⟨gb4,0,none⟩) 1 cb4)).setIfInBounds 7 (.slice (some ⟨ga4,0,none⟩) 1 ca4)).setIfInBounds 2 (.slice (some ⟨gb5,0,none⟩) 1 cb5)).setIfInBounds 3 (.slice (some ⟨ga5,0,none⟩) 1 ca5)) (.slice none 0 0) (.slice none 0 0) [] [] p.filters.n (cS c.fs p.filters.n) g cp cur vb' va'))).mono ?_
  rintro e V6 ⟨g6,cp6,cur6,vb6,va6,rfl,hL⟩
  have LO6:Hid (w0.heap.size≤g6):=Nat.le_trans S5.out.below.size hL.new
  have L6:Hid (cur6.size=cp6*1∧p.filters.n+40≤cp6∧cur6.toList.take ((p.filters.n+40)*1)=cS c.fs p.filters.n++mS 40):=⟨hL.sz,hL.cap,hL.cells⟩
  have a5:=za4 (S5.out.ls (g5,cur5,3) (by simp))
  have F6:Hid (∀ k,va6.ownBlock=some k→k≠g5):=fun k hk=>(hL.fr k hk).elim (fun q=>by simp [Value.ownBlock] at q) (fun q=>by have b:=q.1;simp at a5;omega)
  clear a5
  obtain ⟨gb6,cb6,curb6,ga6,ca6,cura6,rfl,rfl,hr1,hr2,hr3,hr4,hT⟩:=S5.out.layN hL (by simp)
  have N6:Hid (1≤cb6∧1≤ca6∧curb6[0]?=some (.slice (some ⟨g6,0,none⟩) (p.filters.n+40) cp6)∧cura6[0]?=some (.int .i64 p.filters.n)):=⟨hr1,hr2,hr3,hr4⟩
  have T6:=(show Hid _ from hT)
  clear hr1 hr2 hr3 hr4 hT
  clear hL
  have e24:=T6.out.cell 24 (.slice p.filters.a p.filters.n p.filters.c) (by (repeat rw [Array.getElem?_setIfInBounds_ne (by decide)]);(rw [HC0.out];rfl))
  have z24:=T6.out.frozen 24
  obtain ⟨W6,hW6⟩:∃ W,W=(V6.setCell ⟨X,24,none⟩ (.slice (some ⟨g6,0,none⟩) p.filters.n (p.filters.n+40))):=⟨_,rfl⟩
  have S6:=(show Hid _ from (T6.out.set 24 (.slice (some ⟨g6,0,none⟩) p.filters.n (p.filters.n+40)) (by simp)))
  rw [← hW6] at S6
  go_upto_region 7 with fail
  rw [← hW6]
  clear hW6 e24 z24 S5 T6
  obtain ⟨c6,hc6⟩:∃ c6,c6=((((((((((((c0.setIfInBounds 6 (.string p.wT)).setIfInBounds 7 (.slice (some ⟨g1,0,none⟩) p.wP.n (p.wP.n+600))).setIfInBounds 8 (.int .i64 p.wQ)).setIfInBounds 9 (.bool p.wR)).setIfInBounds 17 (.string p.mT)).setIfInBounds 18 (.slice (some ⟨g2,0,none⟩) p.mP.n (p.mP.n+600))).setIfInBounds 19 (.int .i64 p.mQ)).setIfInBounds 20 (.bool p.mR)).setIfInBounds 13 (.slice (some ⟨g3,0,none⟩) p.pass.n (p.pass.n+600))).setIfInBounds 22 (.slice (some ⟨g4,0,none⟩) p.asks.n (p.asks.n+40))).setIfInBounds 23 (.slice (some ⟨g5,0,none⟩) p.codes.n (p.codes.n+40))).setIfInBounds 24 (.slice (some ⟨g6,0,none⟩) p.filters.n (p.filters.n+40))):=⟨_,rfl⟩
  rw [← hc6] at S6
  have P6:Hid (c6=pkCells (p.re (⟨some ⟨g1,0,none⟩,p.wP.n,p.wP.n+600⟩:Sl) (⟨some ⟨g3,0,none⟩,p.pass.n,p.pass.n+600⟩:Sl) (⟨some ⟨g2,0,none⟩,p.mP.n,p.mP.n+600⟩:Sl) (⟨some ⟨g4,0,none⟩,p.asks.n,p.asks.n+40⟩:Sl) (⟨some ⟨g5,0,none⟩,p.codes.n,p.codes.n+40⟩:Sl) (⟨some ⟨g6,0,none⟩,p.filters.n,p.filters.n+40⟩:Sl))):=by show _=_;rw [hc6,HC0.out];simp [pkCells,Pk.re]
  clear hc6
  have Z6:Hid (c6.size=25):=by show _=_;rw [P6.out];rfl
  have HZ1:Hid (zeroPk.size=25):=rfl
  have H1:Hid (c6.all (·.oneCell')=true):=by show _=_;rw [P6.out];simp [pkCells,Sl.v,Value.oneCell']
  obtain ⟨W7,hW7⟩:∃ W,W=W6.setRow (X+1) c6:=⟨_,rfl⟩
  have R7:Hid (W7.heap[X+1]?=some (.cells c6 29)):=by show _=_;rw [hW7];exact setRow_heap W6 _ zeroPk c6 29 (0,0) S6.out.zx
  have O7:Hid (∀ k,k≠X+1→W7.heap[k]?=W6.heap[k]?):=fun k hk=>by rw [hW7];exact setRow_other W6 _ k c6 hk
  have B7:Hid (Below w0.heap.size w0 W7):=by
    refine ⟨?_,?_,?_,?_,fun k hk=>?_⟩
    · rw [hW7];exact S6.out.below.os
    · rw [hW7];exact S6.out.below.tape
    · rw [hW7];exact S6.out.below.output
    · rw [hW7]
      show w0.heap.size≤(W6.heap.modify _ _).size
      have:=S6.out.below.size
      simpa using this
    · rw [O7.out k (by have:=S6.out.lX;omega)]
      exact S6.out.below.block k hk
  have KE:Hid (∀ (k:Nat) (cs:Array Value) (t:Nat),W6.heap[k]?=some (.cells cs t (0,0))→t≠29→W7.heap[k]?=some (.cells cs t (0,0))):=fun k cs t hk ht=>by
    refine (O7.out k ?_).trans hk
    rintro rfl
    rw [S6.out.zx] at hk
    simp at hk
    exact ht hk.2.symm
  have Y1:=(show Hid _ from zbH (HI.out.wP.2.1) (KE.out g1 cur1 5 (S6.out.ls (g1,cur1,5) (by simp)) (by decide)) L1.out.1 L1.out.2.1 L1.out.2.2)
  have Y2:=(show Hid _ from zbH (HI.out.mP.2.1) (KE.out g2 cur2 5 (S6.out.ls (g2,cur2,5) (by simp)) (by decide)) L2.out.1 L2.out.2.1 L2.out.2.2)
  have Y3:=(show Hid _ from zbH (HI.out.pass.2.1) (KE.out g3 cur3 5 (S6.out.ls (g3,cur3,5) (by simp)) (by decide)) L3.out.1 L3.out.2.1 L3.out.2.2)
  have Y4:=(show Hid _ from laid_as (KE.out g4 cur4 98 (S6.out.ls (g4,cur4,98) (by simp)) (by decide)) L4.out.1 L4.out.2.1 L4.out.2.2)
  have Y5:=(show Hid _ from laid_is (KE.out g5 cur5 3 (S6.out.ls (g5,cur5,3) (by simp)) (by decide)) L5.out.1 L5.out.2.1 L5.out.2.2)
  have Y6:=(show Hid _ from laid_ss (KE.out g6 cur6 9 (S6.out.ls (g6,cur6,9) (by simp)) (by decide)) L6.out.1 L6.out.2.1 L6.out.2.2)
  have IN:Hid (In W7 (p.re (⟨some ⟨g1,0,none⟩,p.wP.n,p.wP.n+600⟩:Sl) (⟨some ⟨g3,0,none⟩,p.pass.n,p.pass.n+600⟩:Sl) (⟨some ⟨g2,0,none⟩,p.mP.n,p.mP.n+600⟩:Sl) (⟨some ⟨g4,0,none⟩,p.asks.n,p.asks.n+40⟩:Sl) (⟨some ⟨g5,0,none⟩,p.codes.n,p.codes.n+40⟩:Sl) (⟨some ⟨g6,0,none⟩,p.filters.n,p.filters.n+40⟩:Sl)) c):=⟨Y1.out.1,Y3.out.1,Y2.out.1,Y4.out.1,Y5.out.1,Y6.out.1⟩
  have RM:Hid (W7.heap[R]?=some (.cells ((((((((((((nil28.setIfInBounds 0 vb1).setIfInBounds 1 va1).setIfInBounds 0 vb2).setIfInBounds 1 va2).setIfInBounds 0 vb3).setIfInBounds 1 va3).setIfInBounds 6 (.slice (some ⟨gb4,0,none⟩) 1 cb4)).setIfInBounds 7 (.slice (some ⟨ga4,0,none⟩) 1 ca4)).setIfInBounds 2 (.slice (some ⟨gb5,0,none⟩) 1 cb5)).setIfInBounds 3 (.slice (some ⟨ga5,0,none⟩) 1 ca5)).setIfInBounds 4 (.slice (some ⟨gb6,0,none⟩) 1 cb6)).setIfInBounds 5 (.slice (some ⟨ga6,0,none⟩) 1 ca6)) 48 (0,0))):=KE.out _ _ _ S6.out.rm (by decide)
  obtain ⟨gb,cb,curb,hvb,hb1,hb2,hb3⟩:=zaT S6.out.ob
  obtain ⟨ga,ca,cura,hva,ha1,ha2,ha3⟩:=zaT S6.out.oa
  subst hvb hva
  have hb4:=KE.out _ _ _ hb2 (by decide)
  have ha4:=KE.out _ _ _ ha2 (by decide)
  have MK:Hid (Mks W7 p g1 g2 g3 g4 g5 g6):=⟨Y1.out.2,Y2.out.2,Y3.out.2,Y4.out.2,Y5.out.2,Y6.out.2⟩
  have q1:=KE.out g1 cur1 5 (S6.out.ls (g1,cur1,5) (by simp)) (by decide)
  have q2:=KE.out g2 cur2 5 (S6.out.ls (g2,cur2,5) (by simp)) (by decide)
  have q3:=KE.out g3 cur3 5 (S6.out.ls (g3,cur3,5) (by simp)) (by decide)
  have q4:=KE.out g4 cur4 98 (S6.out.ls (g4,cur4,98) (by simp)) (by decide)
  have q5:=KE.out g5 cur5 3 (S6.out.ls (g5,cur5,3) (by simp)) (by decide)
  have q6:=KE.out g6 cur6 9 (S6.out.ls (g6,cur6,9) (by simp)) (by decide)
  have qK:=KE.out K curK 55 (S6.out.ls (K,curK,55) (by simp)) (by decide)
  have QK:Hid (W7.heap[K]?=some (.cells curK 55 (0,0))):=qK
  have RX:Hid (Rx W7 R K p g1 g2 g3 g4 g5 g6):=by
    refine ⟨⟨_,q1⟩,⟨_,q2⟩,⟨_,q3⟩,⟨_,q4⟩,⟨_,q5⟩,⟨_,q6⟩,F2.out,F3.out.1,F3.out.2,MK.out,fun w' hk mk=>?_⟩
    have ke:∀ (k:Nat) (cs:Array Value) (t:Nat),W7.heap[k]?=some (.cells cs t (0,0))→t≠5→t≠98→t≠9→t≠55→(t=3→k≠g5)→w'.heap[k]?=some (.cells cs t (0,0)):=by
      intro k cs t h h1 h2 h3 h4 h5
      refine (hk k (za4 h) (ne_ty h qK h4) (ne_ty h q1 h1) (ne_ty h q2 h1) (ne_ty h q3 h1) (ne_ty h q4 h2) ?_ (ne_ty h q6 h3)).trans h
      by_cases h6:t=3
      · exact h5 h6
      · exact ne_ty h q5 h6
    have rm:=ke _ _ _ RM.out (by decide) (by decide) (by decide) (by decide) (fun q=>absurd q (by decide))
    have hb4:=ke _ _ _ hb4 (by decide) (by decide) (by decide) (by decide) (fun q=>absurd q (by decide))
    have ha4:=ke _ _ _ ha4 (by decide) (by decide) (by decide) (by decide) (fun _=>F5.out.1 _ rfl)
    refine ⟨?_,?_,?_,?_,?_⟩
    · refine ⟨gb,cb,ga,ca,(fun i=>if i=0 then g1 else if i=1 then g2 else g3),(fun i=>if i=0 then p.wP.n else if i=1 then p.mP.n else p.pass.n),(fun i=>if i=0 then cp1 else if i=1 then cp2 else cp3),by decide,?_,hb1,ha1,by simp [World.cell?,rm,nil28],by simp [World.cell?,rm,nil28],?_,?_,?_⟩
      · intro i hi
        match i,hi with
        | 0,_=>exact ⟨HS.out.wp,L1.out.2.1⟩
        | 1,_=>exact ⟨HS.out.mp,L2.out.2.1⟩
        | 2,_=>exact ⟨HS.out.ps,L3.out.2.1⟩
      · intro i hi
        match i,hi with
        | 0,_=>have q:=hb3 0 _ rfl;simpa [World.cell?,hb4] using q
        | 1,_=>have q:=hb3 1 _ rfl;simpa [World.cell?,hb4] using q
        | 2,_=>have q:=hb3 2 _ rfl;simpa [World.cell?,hb4] using q
      · intro i hi
        match i,hi with
        | 0,_=>have q:=ha3 0 _ rfl;simpa [World.cell?,ha4] using q
        | 1,_=>have q:=ha3 1 _ rfl;simpa [World.cell?,ha4] using q
        | 2,_=>have q:=ha3 2 _ rfl;simpa [World.cell?,ha4] using q
      · intro i hi k hk
        match i,hi with
        | 0,_=>exact mk.m1 k hk
        | 1,_=>exact mk.m2 k hk
        | 2,_=>exact mk.m3 k hk
    · have rb:=ke _ _ _ (KE.out gb5 curb5 26 (S6.out.ls (gb5,curb5,26) (by simp)) (by decide)) (by decide) (by decide) (by decide) (by decide) (fun q=>absurd q (by decide))
      have ra:=ke _ _ _ (KE.out ga5 cura5 3 (S6.out.ls (ga5,cura5,3) (by simp)) (by decide)) (by decide) (by decide) (by decide) (by decide) (fun _=>(G5.out ga5 rfl).elim (fun q=>by simp [Value.ownBlock] at q) (fun q=>q.2))
      refine ⟨gb5,cb5,ga5,ca5,fun _=>g5,fun _=>p.codes.n,fun _=>cp5,by decide,fun _ _=>⟨HS.out.cn,L5.out.2.1⟩,N5.out.1,N5.out.2.1,by simp [World.cell?,rm,nil28],by simp [World.cell?,rm,nil28],?_,?_,fun _ _=>mk.m5⟩
      · intro j hj
        obtain rfl:j=0:=by omega
        have q:=N5.out.2.2.1
        simpa [World.cell?,rb] using q
      · intro j hj
        obtain rfl:j=0:=by omega
        have q:=N5.out.2.2.2
        simpa [World.cell?,ra] using q
    · have rb:=ke _ _ _ (KE.out gb6 curb6 27 (S6.out.ls (gb6,curb6,27) (by simp)) (by decide)) (by decide) (by decide) (by decide) (by decide) (fun q=>absurd q (by decide))
      have ra:=ke _ _ _ (KE.out ga6 cura6 3 (S6.out.ls (ga6,cura6,3) (by simp)) (by decide)) (by decide) (by decide) (by decide) (by decide) (fun _=>F6.out _ rfl)
      refine ⟨gb6,cb6,ga6,ca6,fun _=>g6,fun _=>p.filters.n,fun _=>cp6,by decide,fun _ _=>⟨HS.out.fn,L6.out.2.1⟩,N6.out.1,N6.out.2.1,by simp [World.cell?,rm,nil28],by simp [World.cell?,rm,nil28],?_,?_,fun _ _=>mk.m6⟩
      · intro j hj
        obtain rfl:j=0:=by omega
        have q:=N6.out.2.2.1
        simpa [World.cell?,rb] using q
      · intro j hj
        obtain rfl:j=0:=by omega
        have q:=N6.out.2.2.2
        simpa [World.cell?,ra] using q
    · have rb:=ke _ _ _ (KE.out gb4 curb4 25 (S6.out.ls (gb4,curb4,25) (by simp)) (by decide)) (by decide) (by decide) (by decide) (by decide) (fun q=>absurd q (by decide))
      have ra:=ke _ _ _ (KE.out ga4 cura4 3 (S6.out.ls (ga4,cura4,3) (by simp)) (by decide)) (by decide) (by decide) (by decide) (by decide) (fun _=>F5.out.2)
      refine ⟨gb4,cb4,ga4,ca4,fun _=>g4,fun _=>p.asks.n,fun _=>cp4,by decide,fun _ _=>⟨HS.out.an,L4.out.2.1⟩,N4.out.1,N4.out.2.1,by simp [World.cell?,rm,nil28],by simp [World.cell?,rm,nil28],?_,?_,fun _ _=>mk.m4⟩
      · intro j hj
        obtain rfl:j=0:=by omega
        have q:=N4.out.2.2.1
        simpa [World.cell?,rb] using q
      · intro j hj
        obtain rfl:j=0:=by omega
        have q:=N4.out.2.2.2
        simpa [World.cell?,ra] using q
    · intro i h8 h28
      have q:nil28[i]?=some (.slice none 0 0):=nil28_at i h28
      simp [World.cell?,rm,Array.getElem?_setIfInBounds,show ¬ 0=i by omega,show ¬ 1=i by omega,show ¬ 2=i by omega,show ¬ 3=i by omega,show ¬ 4=i by omega,show ¬ 5=i by omega,show ¬ 6=i by omega,show ¬ 7=i by omega,q]
  clear q1 q2 q3 q4 q5 q6 qK
  clear hb1 hb2 hb3 hb4 ha1 ha2 ha3 ha4
  go_wp2_with (first | (refine za2 rfl _ rfl (X) rfl _ (0,0) S6.out.bx Z6.out ?_)|(refine wpList_store_row rfl 29 _ _ rfl (X+1) c6 rfl rfl 29 zeroPk S6.out.zx (by rw [Z6.out];kernel_rfl) (by rw [HZ1.out,Z6.out]) H1.out ?_))
  rw [← hW7]
  exact bodyPost_ret (results_cell_row rfl _ _ _ _ _ _ _ rfl R7.out Tryz.underlying29 rfl (by rw [Z6.out];kernel_rfl)) rfl ⟨g1,g2,g3,g4,g5,g6,by rw [P6.out];rfl,B7.out,IN.out,QK.out,RX.out,LO1.out,LO2.out,LO3.out,LO4.out,LO5.out,LO6.out⟩
end Go.Proofs.YtceigllifjgalaaGreatDoor.Pkt
namespace Go.Proofs.YtceigllifjgalaaGreatDoor
open Go Go.RowKit
open Pkt (Pk Cn Sl In By Is Ss As pkCells)
set_option linter.unusedSimpArgs false
set_option linter.unusedVariables false
structure Co (w0 w:World) (rb g n cp pb:Nat) (z:Nat→Int) (r:Rs) (p:Pk):Prop where
 rd:Rdr w rb g n cp z r
 pk:w.heap[pb]?=some (.cells (pkCells p) 29 (0,0))
 lr:rb<w0.heap.size
 lp:pb<w0.heap.size
 n1:pb≠rb
 n2:pb≠g
 os:w.os=w0.os
 tape:w.tape=w0.tape
 output:w.output=w0.output
 size:w0.heap.size≤w.heap.size
 block:∀ k,k<w0.heap.size→k≠rb→k≠pb→w.heap[k]?=w0.heap[k]?
section
variable {w0 w w':World} {rb g n cp pb:Nat} {z:Nat→Int} {r r':Rs} {p:Pk} {c:Cn}
end
theorem own_grown {w w':World} {base e size m:Nat} {v:Value} {xs:List Value} {b:Option Nat} (h:w.ownsRow base e size v m xs) (hg:w.grownBy w' b) (hb:∀ x,b=some x→x<base):w'.ownsRow base e size v m xs:=by
 refine ⟨h.1,?_⟩
 rcases h.2 with hn | ⟨gg,cap,cur,rfl,h1,h2,rest⟩
 · exact .inl hn
 · exact .inr ⟨gg,cap,cur,rfl,h1,(hg.block gg (lt_of_block h2) (fun e=>by have:=hb _ e.symm;omega)).trans h2,rest⟩
structure Un (w0 w wx:World) (rb g n cp pb:Nat) (z:Nat→Int) (r:Rs) (P:Pk) (s:Sl) (e k m:Nat) (xs:List Value):Prop where
 co:Co w0 wx rb g n cp pb z r P
 own:wx.ownsRow (w.heap.size+1) e k (.slice s.a s.n s.c) m xs
 keep:Keep w0.heap.size w wx
 box:wx.heap[w.heap.size]?=some (.cells #[.pointer (some ⟨rb,0,none⟩),.int .i64 n] 244 (0,0))
 big:w0.heap.size≤w.heap.size
 gb:0<n→g<w.heap.size
section
variable {w0 w wx w':World} {rb g n cp pb:Nat} {z:Nat→Int} {r r':Rs} {P P':Pk} {s s':Sl} {e k m m':Nat} {xs xs':List Value}
end
section
variable {w0 v w':World} {rb g n cp pb:Nat} {z:Nat→Int} {r r':Rs} {p p':Pk} {c c':Cn}
end
def blank (k:Int):Pk:=⟨k,0,false,0,⟨#[]⟩,false,⟨#[]⟩,⟨none,0,0⟩,0,false,false,⟨#[]⟩,false,⟨none,0,0⟩,false,0,false,⟨#[]⟩,⟨none,0,0⟩,0,false,0,⟨none,0,0⟩,⟨none,0,0⟩,⟨none,0,0⟩⟩
open Pkt (Pk Cn Sl In By Is Ss As pkCells Small sumN Tx za2)
theorem pk_one (p:Pk):(pkCells p).all (·.oneCell')=true:=by simp [pkCells,Value.oneCell']
theorem zc5 (p:Pk):(pkCells p).size=25:=rfl
theorem zbY:(Tryz.prog.info? 29).map (·.size)=some 25:=by kernel_rfl
open Pkt (Pk Cn Sl In By Is Ss As pkCells za2 zag)
theorem zam {w:World} {g t:Nat} {cs:Array Value} (h:w.heap[g]?=some (.cells cs t (0,0))) (k:Nat) (v:Value) (hk:cs[k]?=some v):w.cell? ⟨g,k,none⟩=some v:=by
 simp only [World.cell?,h];simpa using hk
end Go.Proofs.YtceigllifjgalaaGreatDoor
namespace Go.Proofs.YtceigllifjgalaaGreatDoor.Bk
open Go Go.RowKit
open Pkt (Pk Cn Sl In By Is Ss As pkCells Small)
set_option linter.unusedSimpArgs false
set_option linter.unusedVariables false
theorem ow_get {B e k:Nat} {w:World} {s:Sl} {L:List Value} (h:w.ownsRow B e k (.slice s.a s.n s.c) s.n L) {b off:Nat} (ea:s.a=some ⟨b,off,none⟩) {j:Nat} (hj:j<s.n*k):w.cell? ⟨b,off+j,none⟩=L[j]?:=by
 rcases h.2 with ⟨q,_⟩|⟨g,cap,cur,q,_,hg,_,_,_,ht⟩
 · injection q with q1 q2 q3
   rw [q1] at ea;cases ea
 ·
  injection q with q1 q2 q3
  rw [q1] at ea
  cases ea
  rw [← ht,List.getElem?_take_of_lt hj,Nat.zero_add]
  simp [World.cell?,hg]
theorem ow_len {B e k:Nat} {w:World} {s:Sl} {L:List Value} (h:w.ownsRow B e k (.slice s.a s.n s.c) s.n L):L.length=s.n*k:=h.1
section
variable {B:Nat} {w:World} {s:Sl}
theorem low {e k:Nat} {L:List Value} (h:w.ownsRow B e k (.slice s.a s.n s.c) s.n L):w.ownsRow 0 e k (.slice s.a s.n s.c) s.n L:=by
 refine ⟨h.1,?_⟩
 rcases h.2 with q | ⟨g,cap,cur,q,_,r⟩
 · exact .inl q
 · exact .inr ⟨g,cap,cur,q,Nat.zero_le _,r⟩
theorem mem_at {L:List Value} {u:Value} (h:u ∈ L):∃ j,j<L.length∧L[j]?=some u:=by
 obtain ⟨j,hj,e⟩:=List.mem_iff_getElem.1 h
 exact ⟨j,hj,by rw [List.getElem?_eq_getElem hj,e]⟩
theorem li_by {z:Nat→Int} (ho:Ow B 5 1 w s) (hb:By w s z) (hn:s.n≤1000000):Li kB w (.slice s.a s.n s.c):=by
 obtain ⟨L,h⟩:=ho
 refine ⟨_,_,_,L,rfl,low h,fun u hu=>?_,by omega⟩
 obtain ⟨j,hj,e⟩:=mem_at hu
 have hl:=ow_len h
 rcases hb.2.2 with h0 | ⟨b,off,ea,hc⟩
 · rw [h0] at hl;omega
 · rw [← ow_get h ea (by omega),hc j (by omega)] at e
   exact ⟨z j,(Option.some.inj e).symm⟩
theorem li_is {z:Nat→Int} (ho:Ow B 3 1 w s) (hb:Is w s z) (hn:s.n≤1000000):Li kI w (.slice s.a s.n s.c):=by
 obtain ⟨L,h⟩:=ho
 refine ⟨_,_,_,L,rfl,low h,fun u hu=>?_,by omega⟩
 obtain ⟨j,hj,e⟩:=mem_at hu
 have hl:=ow_len h
 rcases hb.2 with h0 | ⟨b,off,ea,hc⟩
 · rw [h0] at hl;omega
 · rw [← ow_get h ea (by omega),hc j (by omega)] at e
   exact ⟨z j,(Option.some.inj e).symm⟩
theorem li_ss {z:Nat→ByteArray} (ho:Ow B 9 1 w s) (hb:Ss w s z) (hn:s.n≤1000000):Li kT w (.slice s.a s.n s.c):=by
 obtain ⟨L,h⟩:=ho
 refine ⟨_,_,_,L,rfl,low h,fun u hu=>?_,by omega⟩
 obtain ⟨j,hj,e⟩:=mem_at hu
 have hl:=ow_len h
 rcases hb.2 with h0 | ⟨b,off,ea,hc⟩
 · rw [h0] at hl;omega
 · rw [← ow_get h ea (by omega),hc j (by omega)] at e
   exact ⟨z j,(Option.some.inj e).symm⟩
theorem okA_of:∀ (m:Nat) (L:List Value) (f:Nat→ByteArray) (q:Nat→Int),L.length=m*2→(∀ i,i<m→L[i*2]?=some (.string (f i))∧L[i*2+1]?=some (.int .i64 (q i)))→okA L
 | 0,L,f,q,hl,_=>⟨[],List.eq_nil_of_length_eq_zero (by omega)⟩
 | m+1,L,f,q,hl,h=>by
  match L,hl,h with
  | a::b::L,hl,h =>
   obtain ⟨l,e⟩:=okA_of m L (fun i=>f (i+1)) (fun i=>q (i+1)) (by simp at hl;omega) (fun i hi=>by
    have:=h (i+1) (by omega)
    rw [show (i+1)*2=i*2+1+1 by omega] at this
    simpa using this)
   have h0:=h 0 (by omega)
   simp at h0
   exact ⟨(f 0,q 0)::l,by rw [h0.1,h0.2,e];rfl⟩
  | [a],hl,h=>simp at hl;omega
  | [],hl,h=>simp at hl
theorem li_as {f:Nat→ByteArray} {q:Nat→Int} (ho:Ow B 98 2 w s) (hb:As w s f q) (hn:s.n≤1000000):Li kA w (.slice s.a s.n s.c):=by
 obtain ⟨L,h⟩:=ho
 refine ⟨_,_,_,L,rfl,low h,?_,by omega⟩
 have hl:=ow_len h
 refine okA_of s.n L f q hl (fun i hi=>?_)
 rcases hb.2 with h0 | ⟨b,off,ea,hc⟩
 · omega
 · have:=hc i hi
   exact ⟨by rw [← ow_get h ea (by omega)];exact this.1,by rw [← ow_get h ea (by omega)];exact this.2⟩
end
theorem bk_got {w:World} {bb N B:Nat} {V:Nat→Prop} (h:Bk w bb N V) (hN:N+6≤90000) (q:Pk) (c:Cn) (hi:In w q c) (ho:Ows B w q) (hs:Small q c) (hV:∀ k,V k→k<B) (hB:B≤w.heap.size) (mark:Int) (hI:ItS (fun k=>V k∨B≤k) w) :
    Calls Tryz.prog 15 #[.pointer (some ⟨bb,0,none⟩),.agg (pkCells q),.int .i64 mark] w fun e w'=>e = .returned (.tuple #[])∧∃ V',Bk w' bb (N+6) V'∧Ch (fun k=>V k∨B≤k) w w'∧∀ k,V' k→V k∨B≤k:=by
  have up:∀ g,T6 (.slice q.wP.a q.wP.n q.wP.c) (.slice q.pass.a q.pass.n q.pass.c) (.slice q.mP.a q.mP.n q.mP.c) (.slice q.asks.a q.asks.n q.asks.c) (.slice q.codes.a q.codes.n q.codes.c) (.slice q.filters.a q.filters.n q.filters.c) g→B≤g:=fun g e=>by
    rcases e with e | e | e | e | e | e
    · exact (ho.wP.blk e).1
    · exact (ho.pass.blk e).1
    · exact (ho.mP.blk e).1
    · exact (ho.asks.blk e).1
    · exact (ho.codes.blk e).1
    · exact (ho.filters.blk e).1
  refine (bk_packet h hN _ _ _ _ _ _ _ (.slice q.wP.a q.wP.n q.wP.c) _ _ _ _ _ (.slice q.pass.a q.pass.n q.pass.c) _ _ _ _ (.slice q.mP.a q.mP.n q.mP.c) _ _ _ (.slice q.asks.a q.asks.n q.asks.c) (.slice q.codes.a q.codes.n q.codes.c) (.slice q.filters.a q.filters.n q.filters.c) mark
    (li_by ho.wP hi.wP hs.wp) (li_by ho.pass hi.pass hs.ps) (li_by ho.mP hi.mP hs.mp) (li_as ho.asks hi.asks hs.an) (li_is ho.codes hi.codes hs.cn) (li_ss ho.filters hi.filters hs.fn) ho.ps (fun g e r=>by have:=up g e;have:=hV g r;omega) (hI.mono (fun k e=>e.imp id (up k)))).mono ?_
  rintro e w' ⟨rfl,V',h1,h2,h3⟩
  refine ⟨rfl,V',h1,h2.mono (fun k _ e=>e.imp id (up k)),fun k e=>?_⟩
  rcases h3 k e with (e | e) | e
  · exact .inl e
  · exact .inr (up k e)
  · exact .inr (by omega)
end Go.Proofs.YtceigllifjgalaaGreatDoor.Bk
namespace Go.Proofs.YtceigllifjgalaaGreatDoor.Tw
open Go Go.RowKit
open Pkt (Pk Cn Sl In By Is Ss As pkCells zag Small za2 zab)
set_option linter.unusedSimpArgs false
set_option linter.unusedVariables false
theorem hidx {p:Prop} (h:p):Hid p:=h
theorem zaz {w w':World} {g t:Nat} {cs:Array Value} (h:w.heap[g]?=some (.cells cs t (0,0))) (hb:Below w.heap.size w w'):w'.heap[g]?=some (.cells cs t (0,0)):=(hb.block g (Array.getElem?_eq_some_iff.1 h).1).trans h
theorem own_less {w:World} {B B' n:Nat} {v:Value} {xs:List Value} (h:w.ownsRow B 5 1 v n xs) (hb:B'≤B):w.ownsRow B' 5 1 v n xs:=by
 refine ⟨h.1,?_⟩
 rcases h.2 with q | ⟨g,cap,cur,e1,e2,e3⟩
 · exact .inl q
 · exact .inr ⟨g,cap,cur,e1,Nat.le_trans hb e2,e3⟩
theorem zbx (w:World) (a b:Array Value):((w.alloc (.cells a 29)).alloc (.cells b 29)).heap[w.heap.size]?=some (.cells a 29)∧((w.alloc (.cells a 29)).alloc (.cells b 29)).heap[w.heap.size+1]?=some (.cells b 29)∧Below w.heap.size w ((w.alloc (.cells a 29)).alloc (.cells b 29)):=by
 have hz:(w.alloc (.cells a 29)).heap.size=w.heap.size+1:=by simp
 have h1:=heap_alloc_new w (.cells a 29)
 have h2:=heap_alloc_new (w.alloc (.cells a 29)) (.cells b 29)
 have hb:Below (w.alloc (.cells a 29)).heap.size (w.alloc (.cells a 29)) ((w.alloc (.cells a 29)).alloc (.cells b 29)):=(Below.refl _ _).alloc (Nat.le_refl _) _
 have ha:Below w.heap.size w (w.alloc (.cells a 29)):=(Below.refl _ _).alloc (Nat.le_refl _) _
 exact ⟨(hb.block _ (by omega)).trans h1,hz ▸ h2,ha.trans (hb.mono ha.size)⟩
theorem run_none_none {P:Program} {w:World} (t ty e:TypeId) (i:TypeInfo) (ht:P.underlying t=some (.slice e)) (hi:P.info? e=some i) (a:Option Addr) (c:Nat) :
    (Builtin.append_ #[t,t] ty #[.slice none 0 0,.slice a 0 c]).run P w = .ok (.slice none 0 0) w:=by
  cases a with
  | none=>simp [Builtin.append_,run_underlying ht,sizeOf,typeInfo,hi,Builtin.lenOf,Builtin.firstCells,storeCells]
  | some a =>
    have hf:=run_firstCells_some (P:=P) w i.size 0 a 0 c [] (by simp) (by intro j v h;simp at h)
    simp [Builtin.append_,run_underlying ht,sizeOf,typeInfo,hi,Builtin.lenOf,hf,storeCells]
def Cl (w:World) (s:Sl) (xs:List Value):Prop:=s.n=0∨∃ b off,s.a=some ⟨b,off,none⟩∧∀ (j:Nat) u,xs[j]?=some u→w.cell? ⟨b,off+j,none⟩=some u
theorem zaj {w:World} {ops:Array Oper} {rest:List Oper} {o:Oper} {a:Act} {Q:Exit→Act→World→Prop} (hgd:o.guard=none) (s x:Operand) (t e:TypeId)
    (ho:o.op = .call { callee:=.builtin .append,args:=#[s,x],argTypes:=#[t,t] }) (z:Value) (size bytes:Nat) (ht:Tryz.prog.underlying t=some (.slice e)) (hinf:(Tryz.prog.info? e).map (fun i=>(i.zero,i.size,i.bytes))=some (some z,size,bytes)) (hzs:z.cells.size=size) (hsz:0<size) (hby:bytes≤100)
    (hs:a.eval s = .slice none 0 0) (l:Sl) (xs:List Value) (hx:a.eval x = .slice l.a l.n l.c) (hl:xs.length=l.n*size) (hc:Cl w l xs) (h1:∀ u ∈ xs,u.oneCell'=true) (hn:l.n≤1000000)
    (h:∀ (l':Sl) w',w'.ownsRow w.heap.size e size (.slice l'.a l'.n l'.c) l'.n xs→l'.n=l.n→Pkt.Nil l'→Below w.heap.size w w'→wpList Tryz.prog ops Q rest (a.put o.dst (.slice l'.a l'.n l'.c)) w'):wpList Tryz.prog ops Q (o::rest) a w:=by
  obtain ⟨i0,hi,hz0,hz1,hz2⟩:=info_parts hinf
  by_cases h0:l.n=0
  · refine wpList_plain hgd fun K hK=>?_
    have hrun:=run_none_none (P:=Tryz.prog) (w:=w) t o.type e i0 ht hi l.a l.c
    rw [h0] at hx
    have hxs:xs=[]:=List.eq_nil_of_length_eq_zero (by rw [hl,h0,Nat.zero_mul])
    unfold Oper.wp
    simp [execOp,ho,resolve,invoke,builtin,hs,hx,hrun,Result.andThen]
    exact hK _ _ (h ⟨none,0,0⟩ w (by rw [hxs];exact ⟨by simp,.inl ⟨rfl,rfl⟩⟩) h0.symm (fun _=>⟨rfl,rfl⟩) (Below.refl _ _))
  · obtain ⟨b,off,ha,hcell⟩:=hc.resolve_left h0
    rw [ha] at hx
    refine zaw hgd s x t ho w.heap.size e i0 z size bytes ht hi hz0 hz1 hz2 hzs hsz (.slice none 0 0) 0 [] hs ⟨by simp,.inl ⟨rfl,rfl⟩⟩ ⟨b,off,none⟩ l.n l.c xs hx (by omega) hl (fun j u hu=>by rw [zae];exact hcell j u hu) h1 (by unfold maxLen;omega) (by rw [Nat.zero_add];exact Nat.le_trans (Nat.mul_le_mul hn hby) (by decide)) (Nat.le_refl _) ?_
    intro v' w' o1 g1 n1 _
    rw [Nat.zero_add,List.nil_append] at o1
    have hb:Below w.heap.size w w':=⟨g1.os,g1.tape,g1.output,g1.size,fun k hk=>g1.block k hk (by simp [Value.ownBlock])⟩
    rcases o1.2 with ⟨q,_⟩|⟨g,cap,cur,q,_⟩
    · exact absurd q n1
    · subst q
      exact h ⟨some ⟨g,0,none⟩,l.n,cap⟩ w' o1 rfl (fun q=>by cases q) hb
theorem by_cl {w:World} {s:Sl} {z:Nat→Int} (h:By w s z):Cl w s (Pkt.cB z s.n):=by
 rcases h.2.2 with q | ⟨b,off,e,hc⟩
 · exact .inl q
 ·
  refine .inr ⟨b,off,e,fun j u hu=>?_⟩
  obtain ⟨hj,rfl⟩:=Pkt.zaW _ _ _ _ hu
  exact hc j hj
theorem is_cl {w:World} {s:Sl} {z:Nat→Int} (h:Is w s z):Cl w s (Pkt.cI z s.n):=by
 rcases h.2 with q | ⟨b,off,e,hc⟩
 · exact .inl q
 ·
  refine .inr ⟨b,off,e,fun j u hu=>?_⟩
  obtain ⟨hj,rfl⟩:=Pkt.zaW _ _ _ _ hu
  exact hc j hj
theorem ss_cl {w:World} {s:Sl} {z:Nat→ByteArray} (h:Ss w s z):Cl w s (Pkt.cS z s.n):=by
 rcases h.2 with q | ⟨b,off,e,hc⟩
 · exact .inl q
 ·
  refine .inr ⟨b,off,e,fun j u hu=>?_⟩
  obtain ⟨hj,rfl⟩:=Pkt.zaW _ _ _ _ hu
  exact hc j hj
theorem as_cl {w:World} {s:Sl} {f:Nat→ByteArray} {q:Nat→Int} (h:As w s f q):Cl w s (Pkt.cA f q s.n):=by
 rcases h.2 with q | ⟨b,off,e,hc⟩
 · exact .inl q
 ·
  refine .inr ⟨b,off,e,fun j u hu=>?_⟩
  obtain ⟨i,hi,⟨rfl,rfl⟩|⟨rfl,rfl⟩⟩:=Pkt.zbQ _ _ _ _ _ hu
  · exact (hc i hi).1
  · exact (hc i hi).2
theorem zbo {w:World} {B e size n:Nat} {a:Option Addr} {cp:Nat} {xs:List Value} (h:w.ownsRow B e size (.slice a n cp) n xs) (hs:0<size):n≤cp∧(n=0∨∃ g,a=some ⟨g,0,none⟩∧∀ j,j<n*size→w.cell? ⟨g,j,none⟩=xs[j]?):=by
 rcases h.2 with ⟨q,h0⟩|⟨g,cap,cur,q,_,hg,hnc,_⟩
 · injection q with q1 q2 q3
   exact ⟨by omega,.inl h0⟩
 ·
  injection q with q1 q2 q3
  subst q1 q3
  exact ⟨hnc,.inr ⟨g,rfl,fun j hj=>h.cellAt j hj⟩⟩
theorem zax {w w':World} {B e s n:Nat} {v:Value} {xs:List Value} (h:w.ownsRow B e s v n xs) (hk:∀ k,v.ownBlock=some k→w'.heap[k]?=w.heap[k]?):w'.ownsRow B e s v n xs:=by
 refine ⟨h.1,?_⟩
 rcases h.2 with h0 | ⟨g,cap,cur,rfl,h1,hg,h2⟩
 · exact .inl h0
 · exact .inr ⟨g,cap,cur,rfl,h1,(hk g rfl).trans hg,h2⟩
theorem zaX {w:World} {B:Nat} {s:Sl} {z:Nat→Int} (h:w.ownsRow B 5 1 (.slice s.a s.n s.c) s.n (Pkt.cB z s.n)) (hz:∀ i,0≤z i∧z i≤255):By w s z:=by
 obtain ⟨h1,h2⟩:=zbo h (by decide)
 refine ⟨h1,hz,?_⟩
 rcases h2 with q | ⟨g,e,hc⟩
 · exact .inl q
 ·
  refine .inr ⟨g,0,e,fun i hi=>?_⟩
  rw [Nat.zero_add,hc i (by omega)]
  exact Pkt.map_at _ _ _ hi
theorem zbW {w:World} {B:Nat} {s:Sl} {z:Nat→Int} (h:w.ownsRow B 3 1 (.slice s.a s.n s.c) s.n (Pkt.cI z s.n)):Is w s z:=by
 obtain ⟨h1,h2⟩:=zbo h (by decide)
 refine ⟨h1,?_⟩
 rcases h2 with q | ⟨g,e,hc⟩
 · exact .inl q
 ·
  refine .inr ⟨g,0,e,fun i hi=>?_⟩
  rw [Nat.zero_add,hc i (by omega)]
  exact Pkt.map_at _ _ _ hi
theorem zc4 {w:World} {B:Nat} {s:Sl} {z:Nat→ByteArray} (h:w.ownsRow B 9 1 (.slice s.a s.n s.c) s.n (Pkt.cS z s.n)):Ss w s z:=by
 obtain ⟨h1,h2⟩:=zbo h (by decide)
 refine ⟨h1,?_⟩
 rcases h2 with q | ⟨g,e,hc⟩
 · exact .inl q
 ·
  refine .inr ⟨g,0,e,fun i hi=>?_⟩
  rw [Nat.zero_add,hc i (by omega)]
  exact Pkt.map_at _ _ _ hi
theorem zcb {w:World} {B:Nat} {s:Sl} {f:Nat→ByteArray} {q:Nat→Int} (h:w.ownsRow B 98 2 (.slice s.a s.n s.c) s.n (Pkt.cA f q s.n)):As w s f q:=by
 obtain ⟨h1,h2⟩:=zbo h (by decide)
 refine ⟨h1,?_⟩
 rcases h2 with r | ⟨g,e,hc⟩
 · exact .inl r
 ·
  refine .inr ⟨g,0,e,fun i hi=>?_⟩
  have hp:=Pkt.zbm (fun i=>Value.string (f i)) (fun i=>Value.int .i64 (q i)) s.n i hi
  rw [Nat.zero_add]
  exact ⟨by rw [hc (i*2) (by omega)];exact hp.1,by rw [hc (i*2+1) (by omega)];exact hp.2⟩
end Go.Proofs.YtceigllifjgalaaGreatDoor.Tw
