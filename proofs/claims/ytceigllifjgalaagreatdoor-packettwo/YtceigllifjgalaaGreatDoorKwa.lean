import Derived.Lib.QuietBelow
import Derived.Test.YtceigllifjgalaaGreatDoorKmb
import Derived.Test.YtceigllifjgalaaGreatDoorKgb
import Derived.Test.YtceigllifjgalaaGreatDoorKmi
import Derived.Test.YtceigllifjgalaaGreatDoorKgi
import Derived.Test.YtceigllifjgalaaGreatDoorKmt
import Derived.Test.YtceigllifjgalaaGreatDoorKgt
import Derived.Test.YtceigllifjgalaaGreatDoorKma
import Derived.Test.YtceigllifjgalaaGreatDoorKga
namespace Go.Proofs.YtceigllifjgalaaGreatDoor.Bk
open Go Go.RowKit Go.Sort
set_option linter.unusedSimpArgs false
set_option linter.unusedVariables false
set_option maxRecDepth 100000
set_option maxHeartbeats 1000000
theorem hold_kB {k0:Array Value} {w0 w:World} {bb B:Nat} {S:Nat→Prop} {D:Nat→Nat→Prop} {cs:Array Value} {rv:Nat→Value} {xs:Nat→List Value} {t deep seen:Int} (h:Bo kB k0 w0 w bb B S D cs rv xs t deep seen) (h0:(xs 0).length≤1000000) (h2:(xs 2).length≤1000000) :
    Calls Tryz.prog 56 #[.pointer (some ⟨bb,0,none⟩)] w fun e w1=>e = .returned (.bool true)∧Below w.heap.size w w1:=by
  have br:=h.bq.br
  have e1:(xs 1).length=(xs 0).length:=h.mi.pd.1.symm
  have e3:=h.len.1
  have row:∀ i j,i<8→j<(xs i).length→∃ g c,rv i = .slice (some ⟨g,0,none⟩) (xs i).length c∧(xs i).length≤c∧w.cell? ⟨g,j,none⟩=(xs i)[j]?:=fun i j hi hj=>by
    have o:=br.own i hi
    rcases o.2 with ⟨q,q0⟩|⟨g,cap,cur,q,_,_,hc,_⟩
    · omega
    · refine ⟨g,cap,q,hc,?_⟩
      rw [q] at o
      exact o.cellAt j (by omega)
  obtain ⟨a4,k4,e4⟩:=row_sl (br.own 0 (by decide))
  obtain ⟨a6,k6,e6⟩:=row_sl (br.own 2 (by decide))
  have P1:Hid (∀ i,i<(xs 0).length→∃ g c g' c' a b l k k',Value.slice a4 (xs 0).length k4 = .slice (some ⟨g,0,none⟩) (xs 0).length c∧(xs 0).length≤c∧rv 1 = .slice (some ⟨g',0,none⟩) (xs 0).length c'∧(xs 0).length≤c'∧w.cell? ⟨g,i,none⟩=some (.slice a l k)∧w.cell? ⟨g',i,none⟩=some (.slice b l k')∧∀ W,Below w.heap.size w W→Calls Tryz.prog 115 #[.slice a l k,.slice b l k'] W fun e w'=>e = .returned (.bool true)∧Below W.heap.size W w'):=fun i hi=>by
    obtain ⟨a,b,l,k,k',L,q1,q2,hl,q4,q5,_,_,q8⟩:=h.mi.pd.2 i hi
    obtain ⟨g,c,r1,r2,r3⟩:=row 0 i (by decide) hi
    obtain ⟨g',c',s1,s2,s3⟩:=row 1 i (by decide) (by omega)
    rw [e1] at s1 s2
    exact ⟨g,c,g',c',a,b,l,k,k',e4 ▸ r1,r2,s1,s2,r3.trans q1,s3.trans q2,fun W hW=>zbK a b l k k' L W (q4.below hW) (q5.below hW) q8 hl⟩
  have P2:Hid (∀ i,i<(xs 2).length→∃ g c g' c' a b l k k',Value.slice a6 (xs 2).length k6 = .slice (some ⟨g,0,none⟩) (xs 2).length c∧(xs 2).length≤c∧rv 3 = .slice (some ⟨g',0,none⟩) (xs 2).length c'∧(xs 2).length≤c'∧w.cell? ⟨g,i,none⟩=some (.slice a l k)∧w.cell? ⟨g',i,none⟩=some (.slice b l k')∧∀ W,Below w.heap.size w W→Calls Tryz.prog 115 #[.slice a l k,.slice b l k'] W fun e w'=>e = .returned (.bool true)∧Below W.heap.size W w'):=fun i hi=>by
    obtain ⟨v,hv⟩:∃ v,(xs 2)[i]?=some v:=⟨_,List.getElem?_eq_getElem hi⟩
    obtain ⟨vn,hvn⟩:∃ v,(xs 3)[i]?=some v:=⟨_,List.getElem?_eq_getElem (by omega)⟩
    obtain ⟨n,L,b,c',hn,ho,rfl,hc,_,hb⟩:=(h.mi.rt i v vn (Nat.zero_le _) hv hvn).ex
    obtain ⟨a,c,rfl⟩:=own_sl ho
    obtain ⟨g,d,r1,r2,r3⟩:=row 2 i (by decide) hi
    obtain ⟨g',d',s1,s2,s3⟩:=row 3 i (by decide) (by omega)
    rw [e3] at s1 s2
    exact ⟨g,d,g',d',a,b,n,c,c',e6 ▸ r1,r2,s1,s2,r3.trans hv,s3.trans hvn,fun W hW=>zbK a b n c c' L W ((zaa ho).below hW) (hc.below hW) hb (by omega)⟩
  have X:Hid (∀ w',Below w.heap.size w w'→w'.cell? ⟨bb,4,none⟩=some (.slice a4 (xs 0).length k4)∧w'.cell? ⟨bb,5,none⟩=some (rv 1)∧w'.cell? ⟨bb,6,none⟩=some (.slice a6 (xs 2).length k6)∧w'.cell? ⟨bb,7,none⟩=some (rv 3)):=fun w' hb=>⟨cell_later hb (e4 ▸ (br.cell 0 (by decide)).1),cell_later hb (br.cell 1 (by decide)).1,cell_later hb (e6 ▸ (br.cell 2 (by decide)).1),cell_later hb (br.cell 3 (by decide)).1⟩
  obtain ⟨n,hn⟩:∃ n,n=(xs 0).length:=⟨_,rfl⟩
  obtain ⟨m,hm⟩:∃ m,m=(xs 2).length:=⟨_,rfl⟩
  obtain ⟨vt,hvt⟩:∃ v,v=rv 1:=⟨_,rfl⟩
  obtain ⟨vn,hvn⟩:∃ v,v=rv 3:=⟨_,rfl⟩
  rw [← hn,← hvt] at P1
  rw [← hm,← hvn] at P2
  rw [← hn,← hm,← hvt,← hvn] at X
  rw [← hn] at h0
  rw [← hm] at h2
  have B0:Hid (Below w.heap.size w w):=Below.refl _ _
  clear h br row e1 e3 e4 e6 hn hm hvt hvn
  obtain ⟨x4,x5,x6,x7⟩:=X.out _ B0.out
  go_enter Tryz.func56,Tryz.ntmps56
  go_wp2
  clear x4 x5 x6 x7
  go_loopw [3] (fun i wr=>∃ k:Nat,i = .int .i64 k∧k≤n∧Hid (Below w.heap.size w wr)) (fun i _=>n-(intOf i).toNat)
  case atStart=>exact ⟨0,rfl,by omega,B0⟩
  case round =>
    obtain ⟨k,rfl,hk,HB⟩:=hrel
    obtain ⟨x4,x5,x6,x7⟩:=X.out _ HB.out
    by_cases hlt:k<n
    · obtain ⟨g,c,g',c',a,b,l,q,q',h1,h2',h3,h4,h5,h6,h7⟩:=P1.out k hlt
      have hk':(k:Int)<n:=by omega
      have C1:Hid (∀ d os,Calls Tryz.prog 115 #[.slice a l q,.slice b l q'] (grow (redrawn wr d) os) fun e w'=>e = .returned (.bool true)∧Below (grow (redrawn wr d) os).heap.size (grow (redrawn wr d) os) w'):=fun d os=>h7 _ (HB.out.trans ((below_regrown wr d os).mono HB.out.size))
      have B2:Hid (∀ d os,Below w.heap.size w (grow (redrawn wr d) os)):=fun d os=>HB.out.trans ((below_regrown wr d os).mono HB.out.size)
      rw [h1] at x4
      rw [h3] at x5
      have y4:∀ d os,(grow (redrawn wr d) os).cell? ⟨bb,4,none⟩=some (.slice (some ⟨g,0,none⟩) n c):=fun d os=>cell_later (below_regrown wr d os) x4
      have y5:∀ d os,(grow (redrawn wr d) os).cell? ⟨bb,5,none⟩=some (.slice (some ⟨g',0,none⟩) n c'):=fun d os=>cell_later (below_regrown wr d os) x5
      have y8:∀ d os,(grow (redrawn wr d) os).cell? ⟨g,k,none⟩=some (.slice a l q):=fun d os=>cell_later (B2.out d os) h5
      have y9:∀ d os,(grow (redrawn wr d) os).cell? ⟨g',k,none⟩=some (.slice b l q'):=fun d os=>cell_later (B2.out d os) h6
      clear h7 h1 h3 x5 x6 x7 h5 h6
      go_wp2
      clear x4
      refine wp_region_quiet_below (by kernel_rfl) (by kernel_rfl) ?_
      repeat (quiet_step ((go_at_call 115;exact Calls.regrown_of (C1.out _ _))))
      refine wpQuiet_nil ?_
      rintro _ ⟨⟨d,os⟩,rfl⟩
      have B3:Hid (Below w.heap.size w (grow (redrawn wr d) os)):=B2.out d os
      clear y4 y5 y8 y9
      go_wp2
      go_roundw
      case rel=>exact ⟨k+1,by simp,by omega,B3⟩
      case measure=>simp [intOf];omega
    · have hk':¬ (k:Int)<n:=by omega
      go_wp2
      clear x4 x5 x6 x7
      go_loopw [4] (fun i wr=>∃ k:Nat,i = .int .i64 k∧k≤m∧Hid (Below w.heap.size w wr)) (fun i _=>m-(intOf i).toNat)
      case atStart=>exact ⟨0,rfl,by omega,HB⟩
      case round =>
        clear HB
        obtain ⟨k,rfl,hk,HB⟩:=hrel
        obtain ⟨x4,x5,x6,x7⟩:=X.out _ HB.out
        by_cases hlt:k<m
        · obtain ⟨g,c,g',c',a,b,l,q,q',h1,h2',h3,h4,h5,h6,h7⟩:=P2.out k hlt
          have hk':(k:Int)<m:=by omega
          have C1:Hid (∀ d os,Calls Tryz.prog 115 #[.slice a l q,.slice b l q'] (grow (redrawn wr d) os) fun e w'=>e = .returned (.bool true)∧Below (grow (redrawn wr d) os).heap.size (grow (redrawn wr d) os) w'):=fun d os=>h7 _ (HB.out.trans ((below_regrown wr d os).mono HB.out.size))
          have B2:Hid (∀ d os,Below w.heap.size w (grow (redrawn wr d) os)):=fun d os=>HB.out.trans ((below_regrown wr d os).mono HB.out.size)
          rw [h1] at x6
          rw [h3] at x7
          have y4:∀ d os,(grow (redrawn wr d) os).cell? ⟨bb,6,none⟩=some (.slice (some ⟨g,0,none⟩) m c):=fun d os=>cell_later (below_regrown wr d os) x6
          have y5:∀ d os,(grow (redrawn wr d) os).cell? ⟨bb,7,none⟩=some (.slice (some ⟨g',0,none⟩) m c'):=fun d os=>cell_later (below_regrown wr d os) x7
          have y8:∀ d os,(grow (redrawn wr d) os).cell? ⟨g,k,none⟩=some (.slice a l q):=fun d os=>cell_later (B2.out d os) h5
          have y9:∀ d os,(grow (redrawn wr d) os).cell? ⟨g',k,none⟩=some (.slice b l q'):=fun d os=>cell_later (B2.out d os) h6
          clear h7 h1 h3 x4 x5 x7 h5 h6
          go_wp2
          clear x6
          refine wp_region_quiet_below (by kernel_rfl) (by kernel_rfl) ?_
          repeat (quiet_step ((go_at_call 115;exact Calls.regrown_of (C1.out _ _))))
          refine wpQuiet_nil ?_
          rintro _ ⟨⟨d,os⟩,rfl⟩
          have B3:Hid (Below w.heap.size w (grow (redrawn wr d) os)):=B2.out d os
          clear y4 y5 y8 y9
          go_wp2
          go_roundw
          case rel=>exact ⟨k+1,by simp,by omega,B3⟩
          case measure=>simp [intOf];omega
        · have hk':¬ (k:Int)<m:=by omega
          go_wp2
          go_ret
          exact ⟨rfl,HB.out⟩
theorem hold_kI {k0:Array Value} {w0 w:World} {bb B:Nat} {S:Nat→Prop} {D:Nat→Nat→Prop} {cs:Array Value} {rv:Nat→Value} {xs:Nat→List Value} {t deep seen:Int} (h:Bo kI k0 w0 w bb B S D cs rv xs t deep seen) (h0:(xs 0).length≤1000000) (h2:(xs 2).length≤1000000) :
    Calls Tryz.prog 57 #[.pointer (some ⟨bb,0,none⟩)] w fun e w1=>e = .returned (.bool true)∧Below w.heap.size w w1:=by
  have br:=h.bq.br
  have e1:(xs 1).length=(xs 0).length:=h.mi.pd.1.symm
  have e3:=h.len.1
  have row:∀ i j,i<8→j<(xs i).length→∃ g c,rv i = .slice (some ⟨g,0,none⟩) (xs i).length c∧(xs i).length≤c∧w.cell? ⟨g,j,none⟩=(xs i)[j]?:=fun i j hi hj=>by
    have o:=br.own i hi
    rcases o.2 with ⟨q,q0⟩|⟨g,cap,cur,q,_,_,hc,_⟩
    · omega
    · refine ⟨g,cap,q,hc,?_⟩
      rw [q] at o
      exact o.cellAt j (by omega)
  obtain ⟨a4,k4,e4⟩:=row_sl (br.own 0 (by decide))
  obtain ⟨a6,k6,e6⟩:=row_sl (br.own 2 (by decide))
  have P1:Hid (∀ i,i<(xs 0).length→∃ g c g' c' a b l k k',Value.slice a4 (xs 0).length k4 = .slice (some ⟨g,0,none⟩) (xs 0).length c∧(xs 0).length≤c∧rv 1 = .slice (some ⟨g',0,none⟩) (xs 0).length c'∧(xs 0).length≤c'∧w.cell? ⟨g,i,none⟩=some (.slice a l k)∧w.cell? ⟨g',i,none⟩=some (.slice b l k')∧∀ W,Below w.heap.size w W→Calls Tryz.prog 116 #[.slice a l k,.slice b l k'] W fun e w'=>e = .returned (.bool true)∧Below W.heap.size W w'):=fun i hi=>by
    obtain ⟨a,b,l,k,k',L,q1,q2,hl,q4,q5,_,_,q8⟩:=h.mi.pd.2 i hi
    obtain ⟨g,c,r1,r2,r3⟩:=row 0 i (by decide) hi
    obtain ⟨g',c',s1,s2,s3⟩:=row 1 i (by decide) (by omega)
    rw [e1] at s1 s2
    exact ⟨g,c,g',c',a,b,l,k,k',e4 ▸ r1,r2,s1,s2,r3.trans q1,s3.trans q2,fun W hW=>zbC a b l k k' L W (q4.below hW) (q5.below hW) q8 hl⟩
  have P2:Hid (∀ i,i<(xs 2).length→∃ g c g' c' a b l k k',Value.slice a6 (xs 2).length k6 = .slice (some ⟨g,0,none⟩) (xs 2).length c∧(xs 2).length≤c∧rv 3 = .slice (some ⟨g',0,none⟩) (xs 2).length c'∧(xs 2).length≤c'∧w.cell? ⟨g,i,none⟩=some (.slice a l k)∧w.cell? ⟨g',i,none⟩=some (.slice b l k')∧∀ W,Below w.heap.size w W→Calls Tryz.prog 116 #[.slice a l k,.slice b l k'] W fun e w'=>e = .returned (.bool true)∧Below W.heap.size W w'):=fun i hi=>by
    obtain ⟨v,hv⟩:∃ v,(xs 2)[i]?=some v:=⟨_,List.getElem?_eq_getElem hi⟩
    obtain ⟨vn,hvn⟩:∃ v,(xs 3)[i]?=some v:=⟨_,List.getElem?_eq_getElem (by omega)⟩
    obtain ⟨n,L,b,c',hn,ho,rfl,hc,_,hb⟩:=(h.mi.rt i v vn (Nat.zero_le _) hv hvn).ex
    obtain ⟨a,c,rfl⟩:=own_sl ho
    obtain ⟨g,d,r1,r2,r3⟩:=row 2 i (by decide) hi
    obtain ⟨g',d',s1,s2,s3⟩:=row 3 i (by decide) (by omega)
    rw [e3] at s1 s2
    exact ⟨g,d,g',d',a,b,n,c,c',e6 ▸ r1,r2,s1,s2,r3.trans hv,s3.trans hvn,fun W hW=>zbC a b n c c' L W ((zaa ho).below hW) (hc.below hW) hb (by omega)⟩
  have X:Hid (∀ w',Below w.heap.size w w'→w'.cell? ⟨bb,13,none⟩=some (.slice a4 (xs 0).length k4)∧w'.cell? ⟨bb,14,none⟩=some (rv 1)∧w'.cell? ⟨bb,15,none⟩=some (.slice a6 (xs 2).length k6)∧w'.cell? ⟨bb,16,none⟩=some (rv 3)):=fun w' hb=>⟨cell_later hb (e4 ▸ (br.cell 0 (by decide)).1),cell_later hb (br.cell 1 (by decide)).1,cell_later hb (e6 ▸ (br.cell 2 (by decide)).1),cell_later hb (br.cell 3 (by decide)).1⟩
  obtain ⟨n,hn⟩:∃ n,n=(xs 0).length:=⟨_,rfl⟩
  obtain ⟨m,hm⟩:∃ m,m=(xs 2).length:=⟨_,rfl⟩
  obtain ⟨vt,hvt⟩:∃ v,v=rv 1:=⟨_,rfl⟩
  obtain ⟨vn,hvn⟩:∃ v,v=rv 3:=⟨_,rfl⟩
  rw [← hn,← hvt] at P1
  rw [← hm,← hvn] at P2
  rw [← hn,← hm,← hvt,← hvn] at X
  rw [← hn] at h0
  rw [← hm] at h2
  have B0:Hid (Below w.heap.size w w):=Below.refl _ _
  clear h br row e1 e3 e4 e6 hn hm hvt hvn
  obtain ⟨x4,x5,x6,x7⟩:=X.out _ B0.out
  go_enter Tryz.func57,Tryz.ntmps57
  go_wp2
  clear x4 x5 x6 x7
  go_loopw [3] (fun i wr=>∃ k:Nat,i = .int .i64 k∧k≤n∧Hid (Below w.heap.size w wr)) (fun i _=>n-(intOf i).toNat)
  case atStart=>exact ⟨0,rfl,by omega,B0⟩
  case round =>
    obtain ⟨k,rfl,hk,HB⟩:=hrel
    obtain ⟨x4,x5,x6,x7⟩:=X.out _ HB.out
    by_cases hlt:k<n
    · obtain ⟨g,c,g',c',a,b,l,q,q',h1,h2',h3,h4,h5,h6,h7⟩:=P1.out k hlt
      have hk':(k:Int)<n:=by omega
      have C1:Hid (∀ d os,Calls Tryz.prog 116 #[.slice a l q,.slice b l q'] (grow (redrawn wr d) os) fun e w'=>e = .returned (.bool true)∧Below (grow (redrawn wr d) os).heap.size (grow (redrawn wr d) os) w'):=fun d os=>h7 _ (HB.out.trans ((below_regrown wr d os).mono HB.out.size))
      have B2:Hid (∀ d os,Below w.heap.size w (grow (redrawn wr d) os)):=fun d os=>HB.out.trans ((below_regrown wr d os).mono HB.out.size)
      rw [h1] at x4
      rw [h3] at x5
      have y4:∀ d os,(grow (redrawn wr d) os).cell? ⟨bb,13,none⟩=some (.slice (some ⟨g,0,none⟩) n c):=fun d os=>cell_later (below_regrown wr d os) x4
      have y5:∀ d os,(grow (redrawn wr d) os).cell? ⟨bb,14,none⟩=some (.slice (some ⟨g',0,none⟩) n c'):=fun d os=>cell_later (below_regrown wr d os) x5
      have y8:∀ d os,(grow (redrawn wr d) os).cell? ⟨g,k,none⟩=some (.slice a l q):=fun d os=>cell_later (B2.out d os) h5
      have y9:∀ d os,(grow (redrawn wr d) os).cell? ⟨g',k,none⟩=some (.slice b l q'):=fun d os=>cell_later (B2.out d os) h6
      clear h7 h1 h3 x5 x6 x7 h5 h6
      go_wp2
      clear x4
      refine wp_region_quiet_below (by kernel_rfl) (by kernel_rfl) ?_
      repeat (quiet_step ((go_at_call 116;exact Calls.regrown_of (C1.out _ _))))
      refine wpQuiet_nil ?_
      rintro _ ⟨⟨d,os⟩,rfl⟩
      have B3:Hid (Below w.heap.size w (grow (redrawn wr d) os)):=B2.out d os
      clear y4 y5 y8 y9
      go_wp2
      go_roundw
      case rel=>exact ⟨k+1,by simp,by omega,B3⟩
      case measure=>simp [intOf];omega
    · have hk':¬ (k:Int)<n:=by omega
      go_wp2
      clear x4 x5 x6 x7
      go_loopw [4] (fun i wr=>∃ k:Nat,i = .int .i64 k∧k≤m∧Hid (Below w.heap.size w wr)) (fun i _=>m-(intOf i).toNat)
      case atStart=>exact ⟨0,rfl,by omega,HB⟩
      case round =>
        clear HB
        obtain ⟨k,rfl,hk,HB⟩:=hrel
        obtain ⟨x4,x5,x6,x7⟩:=X.out _ HB.out
        by_cases hlt:k<m
        · obtain ⟨g,c,g',c',a,b,l,q,q',h1,h2',h3,h4,h5,h6,h7⟩:=P2.out k hlt
          have hk':(k:Int)<m:=by omega
          have C1:Hid (∀ d os,Calls Tryz.prog 116 #[.slice a l q,.slice b l q'] (grow (redrawn wr d) os) fun e w'=>e = .returned (.bool true)∧Below (grow (redrawn wr d) os).heap.size (grow (redrawn wr d) os) w'):=fun d os=>h7 _ (HB.out.trans ((below_regrown wr d os).mono HB.out.size))
          have B2:Hid (∀ d os,Below w.heap.size w (grow (redrawn wr d) os)):=fun d os=>HB.out.trans ((below_regrown wr d os).mono HB.out.size)
          rw [h1] at x6
          rw [h3] at x7
          have y4:∀ d os,(grow (redrawn wr d) os).cell? ⟨bb,15,none⟩=some (.slice (some ⟨g,0,none⟩) m c):=fun d os=>cell_later (below_regrown wr d os) x6
          have y5:∀ d os,(grow (redrawn wr d) os).cell? ⟨bb,16,none⟩=some (.slice (some ⟨g',0,none⟩) m c'):=fun d os=>cell_later (below_regrown wr d os) x7
          have y8:∀ d os,(grow (redrawn wr d) os).cell? ⟨g,k,none⟩=some (.slice a l q):=fun d os=>cell_later (B2.out d os) h5
          have y9:∀ d os,(grow (redrawn wr d) os).cell? ⟨g',k,none⟩=some (.slice b l q'):=fun d os=>cell_later (B2.out d os) h6
          clear h7 h1 h3 x4 x5 x7 h5 h6
          go_wp2
          clear x6
          refine wp_region_quiet_below (by kernel_rfl) (by kernel_rfl) ?_
          repeat (quiet_step ((go_at_call 116;exact Calls.regrown_of (C1.out _ _))))
          refine wpQuiet_nil ?_
          rintro _ ⟨⟨d,os⟩,rfl⟩
          have B3:Hid (Below w.heap.size w (grow (redrawn wr d) os)):=B2.out d os
          clear y4 y5 y8 y9
          go_wp2
          go_roundw
          case rel=>exact ⟨k+1,by simp,by omega,B3⟩
          case measure=>simp [intOf];omega
        · have hk':¬ (k:Int)<m:=by omega
          go_wp2
          go_ret
          exact ⟨rfl,HB.out⟩
theorem hold_kT {k0:Array Value} {w0 w:World} {bb B:Nat} {S:Nat→Prop} {D:Nat→Nat→Prop} {cs:Array Value} {rv:Nat→Value} {xs:Nat→List Value} {t deep seen:Int} (h:Bo kT k0 w0 w bb B S D cs rv xs t deep seen) (h0:(xs 0).length≤1000000) (h2:(xs 2).length≤1000000) :
    Calls Tryz.prog 58 #[.pointer (some ⟨bb,0,none⟩)] w fun e w1=>e = .returned (.bool true)∧Below w.heap.size w w1:=by
  have br:=h.bq.br
  have e1:(xs 1).length=(xs 0).length:=h.mi.pd.1.symm
  have e3:=h.len.1
  have row:∀ i j,i<8→j<(xs i).length→∃ g c,rv i = .slice (some ⟨g,0,none⟩) (xs i).length c∧(xs i).length≤c∧w.cell? ⟨g,j,none⟩=(xs i)[j]?:=fun i j hi hj=>by
    have o:=br.own i hi
    rcases o.2 with ⟨q,q0⟩|⟨g,cap,cur,q,_,_,hc,_⟩
    · omega
    · refine ⟨g,cap,q,hc,?_⟩
      rw [q] at o
      exact o.cellAt j (by omega)
  obtain ⟨a4,k4,e4⟩:=row_sl (br.own 0 (by decide))
  obtain ⟨a6,k6,e6⟩:=row_sl (br.own 2 (by decide))
  have P1:Hid (∀ i,i<(xs 0).length→∃ g c g' c' a b l k k',Value.slice a4 (xs 0).length k4 = .slice (some ⟨g,0,none⟩) (xs 0).length c∧(xs 0).length≤c∧rv 1 = .slice (some ⟨g',0,none⟩) (xs 0).length c'∧(xs 0).length≤c'∧w.cell? ⟨g,i,none⟩=some (.slice a l k)∧w.cell? ⟨g',i,none⟩=some (.slice b l k')∧∀ W,Below w.heap.size w W→Calls Tryz.prog 117 #[.slice a l k,.slice b l k'] W fun e w'=>e = .returned (.bool true)∧Below W.heap.size W w'):=fun i hi=>by
    obtain ⟨a,b,l,k,k',L,q1,q2,hl,q4,q5,_,_,q8⟩:=h.mi.pd.2 i hi
    obtain ⟨g,c,r1,r2,r3⟩:=row 0 i (by decide) hi
    obtain ⟨g',c',s1,s2,s3⟩:=row 1 i (by decide) (by omega)
    rw [e1] at s1 s2
    exact ⟨g,c,g',c',a,b,l,k,k',e4 ▸ r1,r2,s1,s2,r3.trans q1,s3.trans q2,fun W hW=>zbE a b l k k' L W (q4.below hW) (q5.below hW) q8 hl⟩
  have P2:Hid (∀ i,i<(xs 2).length→∃ g c g' c' a b l k k',Value.slice a6 (xs 2).length k6 = .slice (some ⟨g,0,none⟩) (xs 2).length c∧(xs 2).length≤c∧rv 3 = .slice (some ⟨g',0,none⟩) (xs 2).length c'∧(xs 2).length≤c'∧w.cell? ⟨g,i,none⟩=some (.slice a l k)∧w.cell? ⟨g',i,none⟩=some (.slice b l k')∧∀ W,Below w.heap.size w W→Calls Tryz.prog 117 #[.slice a l k,.slice b l k'] W fun e w'=>e = .returned (.bool true)∧Below W.heap.size W w'):=fun i hi=>by
    obtain ⟨v,hv⟩:∃ v,(xs 2)[i]?=some v:=⟨_,List.getElem?_eq_getElem hi⟩
    obtain ⟨vn,hvn⟩:∃ v,(xs 3)[i]?=some v:=⟨_,List.getElem?_eq_getElem (by omega)⟩
    obtain ⟨n,L,b,c',hn,ho,rfl,hc,_,hb⟩:=(h.mi.rt i v vn (Nat.zero_le _) hv hvn).ex
    obtain ⟨a,c,rfl⟩:=own_sl ho
    obtain ⟨g,d,r1,r2,r3⟩:=row 2 i (by decide) hi
    obtain ⟨g',d',s1,s2,s3⟩:=row 3 i (by decide) (by omega)
    rw [e3] at s1 s2
    exact ⟨g,d,g',d',a,b,n,c,c',e6 ▸ r1,r2,s1,s2,r3.trans hv,s3.trans hvn,fun W hW=>zbE a b n c c' L W ((zaa ho).below hW) (hc.below hW) hb (by omega)⟩
  have X:Hid (∀ w',Below w.heap.size w w'→w'.cell? ⟨bb,22,none⟩=some (.slice a4 (xs 0).length k4)∧w'.cell? ⟨bb,23,none⟩=some (rv 1)∧w'.cell? ⟨bb,24,none⟩=some (.slice a6 (xs 2).length k6)∧w'.cell? ⟨bb,25,none⟩=some (rv 3)):=fun w' hb=>⟨cell_later hb (e4 ▸ (br.cell 0 (by decide)).1),cell_later hb (br.cell 1 (by decide)).1,cell_later hb (e6 ▸ (br.cell 2 (by decide)).1),cell_later hb (br.cell 3 (by decide)).1⟩
  obtain ⟨n,hn⟩:∃ n,n=(xs 0).length:=⟨_,rfl⟩
  obtain ⟨m,hm⟩:∃ m,m=(xs 2).length:=⟨_,rfl⟩
  obtain ⟨vt,hvt⟩:∃ v,v=rv 1:=⟨_,rfl⟩
  obtain ⟨vn,hvn⟩:∃ v,v=rv 3:=⟨_,rfl⟩
  rw [← hn,← hvt] at P1
  rw [← hm,← hvn] at P2
  rw [← hn,← hm,← hvt,← hvn] at X
  rw [← hn] at h0
  rw [← hm] at h2
  have B0:Hid (Below w.heap.size w w):=Below.refl _ _
  clear h br row e1 e3 e4 e6 hn hm hvt hvn
  obtain ⟨x4,x5,x6,x7⟩:=X.out _ B0.out
  go_enter Tryz.func58,Tryz.ntmps58
  go_wp2
  clear x4 x5 x6 x7
  go_loopw [3] (fun i wr=>∃ k:Nat,i = .int .i64 k∧k≤n∧Hid (Below w.heap.size w wr)) (fun i _=>n-(intOf i).toNat)
  case atStart=>exact ⟨0,rfl,by omega,B0⟩
  case round =>
    obtain ⟨k,rfl,hk,HB⟩:=hrel
    obtain ⟨x4,x5,x6,x7⟩:=X.out _ HB.out
    by_cases hlt:k<n
    · obtain ⟨g,c,g',c',a,b,l,q,q',h1,h2',h3,h4,h5,h6,h7⟩:=P1.out k hlt
      have hk':(k:Int)<n:=by omega
      have C1:Hid (∀ d os,Calls Tryz.prog 117 #[.slice a l q,.slice b l q'] (grow (redrawn wr d) os) fun e w'=>e = .returned (.bool true)∧Below (grow (redrawn wr d) os).heap.size (grow (redrawn wr d) os) w'):=fun d os=>h7 _ (HB.out.trans ((below_regrown wr d os).mono HB.out.size))
      have B2:Hid (∀ d os,Below w.heap.size w (grow (redrawn wr d) os)):=fun d os=>HB.out.trans ((below_regrown wr d os).mono HB.out.size)
      rw [h1] at x4
      rw [h3] at x5
      have y4:∀ d os,(grow (redrawn wr d) os).cell? ⟨bb,22,none⟩=some (.slice (some ⟨g,0,none⟩) n c):=fun d os=>cell_later (below_regrown wr d os) x4
      have y5:∀ d os,(grow (redrawn wr d) os).cell? ⟨bb,23,none⟩=some (.slice (some ⟨g',0,none⟩) n c'):=fun d os=>cell_later (below_regrown wr d os) x5
      have y8:∀ d os,(grow (redrawn wr d) os).cell? ⟨g,k,none⟩=some (.slice a l q):=fun d os=>cell_later (B2.out d os) h5
      have y9:∀ d os,(grow (redrawn wr d) os).cell? ⟨g',k,none⟩=some (.slice b l q'):=fun d os=>cell_later (B2.out d os) h6
      clear h7 h1 h3 x5 x6 x7 h5 h6
      go_wp2
      clear x4
      refine wp_region_quiet_below (by kernel_rfl) (by kernel_rfl) ?_
      repeat (quiet_step ((go_at_call 117;exact Calls.regrown_of (C1.out _ _))))
      refine wpQuiet_nil ?_
      rintro _ ⟨⟨d,os⟩,rfl⟩
      have B3:Hid (Below w.heap.size w (grow (redrawn wr d) os)):=B2.out d os
      clear y4 y5 y8 y9
      go_wp2
      go_roundw
      case rel=>exact ⟨k+1,by simp,by omega,B3⟩
      case measure=>simp [intOf];omega
    · have hk':¬ (k:Int)<n:=by omega
      go_wp2
      clear x4 x5 x6 x7
      go_loopw [4] (fun i wr=>∃ k:Nat,i = .int .i64 k∧k≤m∧Hid (Below w.heap.size w wr)) (fun i _=>m-(intOf i).toNat)
      case atStart=>exact ⟨0,rfl,by omega,HB⟩
      case round =>
        clear HB
        obtain ⟨k,rfl,hk,HB⟩:=hrel
        obtain ⟨x4,x5,x6,x7⟩:=X.out _ HB.out
        by_cases hlt:k<m
        · obtain ⟨g,c,g',c',a,b,l,q,q',h1,h2',h3,h4,h5,h6,h7⟩:=P2.out k hlt
          have hk':(k:Int)<m:=by omega
          have C1:Hid (∀ d os,Calls Tryz.prog 117 #[.slice a l q,.slice b l q'] (grow (redrawn wr d) os) fun e w'=>e = .returned (.bool true)∧Below (grow (redrawn wr d) os).heap.size (grow (redrawn wr d) os) w'):=fun d os=>h7 _ (HB.out.trans ((below_regrown wr d os).mono HB.out.size))
          have B2:Hid (∀ d os,Below w.heap.size w (grow (redrawn wr d) os)):=fun d os=>HB.out.trans ((below_regrown wr d os).mono HB.out.size)
          rw [h1] at x6
          rw [h3] at x7
          have y4:∀ d os,(grow (redrawn wr d) os).cell? ⟨bb,24,none⟩=some (.slice (some ⟨g,0,none⟩) m c):=fun d os=>cell_later (below_regrown wr d os) x6
          have y5:∀ d os,(grow (redrawn wr d) os).cell? ⟨bb,25,none⟩=some (.slice (some ⟨g',0,none⟩) m c'):=fun d os=>cell_later (below_regrown wr d os) x7
          have y8:∀ d os,(grow (redrawn wr d) os).cell? ⟨g,k,none⟩=some (.slice a l q):=fun d os=>cell_later (B2.out d os) h5
          have y9:∀ d os,(grow (redrawn wr d) os).cell? ⟨g',k,none⟩=some (.slice b l q'):=fun d os=>cell_later (B2.out d os) h6
          clear h7 h1 h3 x4 x5 x7 h5 h6
          go_wp2
          clear x6
          refine wp_region_quiet_below (by kernel_rfl) (by kernel_rfl) ?_
          repeat (quiet_step ((go_at_call 117;exact Calls.regrown_of (C1.out _ _))))
          refine wpQuiet_nil ?_
          rintro _ ⟨⟨d,os⟩,rfl⟩
          have B3:Hid (Below w.heap.size w (grow (redrawn wr d) os)):=B2.out d os
          clear y4 y5 y8 y9
          go_wp2
          go_roundw
          case rel=>exact ⟨k+1,by simp,by omega,B3⟩
          case measure=>simp [intOf];omega
        · have hk':¬ (k:Int)<m:=by omega
          go_wp2
          go_ret
          exact ⟨rfl,HB.out⟩
theorem hold_kA {k0:Array Value} {w0 w:World} {bb B:Nat} {S:Nat→Prop} {D:Nat→Nat→Prop} {cs:Array Value} {rv:Nat→Value} {xs:Nat→List Value} {t deep seen:Int} (h:Bo kA k0 w0 w bb B S D cs rv xs t deep seen) (h0:(xs 0).length≤1000000) (h2:(xs 2).length≤1000000) :
    Calls Tryz.prog 60 #[.pointer (some ⟨bb,0,none⟩)] w fun e w1=>e = .returned (.bool true)∧Below w.heap.size w w1:=by
  have br:=h.bq.br
  have e1:(xs 1).length=(xs 0).length:=h.mi.pd.1.symm
  have e3:=h.len.1
  have row:∀ i j,i<8→j<(xs i).length→∃ g c,rv i = .slice (some ⟨g,0,none⟩) (xs i).length c∧(xs i).length≤c∧w.cell? ⟨g,j,none⟩=(xs i)[j]?:=fun i j hi hj=>by
    have o:=br.own i hi
    rcases o.2 with ⟨q,q0⟩|⟨g,cap,cur,q,_,_,hc,_⟩
    · omega
    · refine ⟨g,cap,q,hc,?_⟩
      rw [q] at o
      exact o.cellAt j (by omega)
  obtain ⟨a4,k4,e4⟩:=row_sl (br.own 0 (by decide))
  obtain ⟨a6,k6,e6⟩:=row_sl (br.own 2 (by decide))
  have P1:Hid (∀ i,i<(xs 0).length→∃ g c g' c' a b l k k',Value.slice a4 (xs 0).length k4 = .slice (some ⟨g,0,none⟩) (xs 0).length c∧(xs 0).length≤c∧rv 1 = .slice (some ⟨g',0,none⟩) (xs 0).length c'∧(xs 0).length≤c'∧w.cell? ⟨g,i,none⟩=some (.slice a l k)∧w.cell? ⟨g',i,none⟩=some (.slice b l k')∧∀ W,Below w.heap.size w W→Calls Tryz.prog 119 #[.slice a l k,.slice b l k'] W fun e w'=>e = .returned (.bool true)∧Below W.heap.size W w'):=fun i hi=>by
    obtain ⟨a,b,l,k,k',L,q1,q2,hl,q4,q5,_,_,q8⟩:=h.mi.pd.2 i hi
    obtain ⟨g,c,r1,r2,r3⟩:=row 0 i (by decide) hi
    obtain ⟨g',c',s1,s2,s3⟩:=row 1 i (by decide) (by omega)
    rw [e1] at s1 s2
    exact ⟨g,c,g',c',a,b,l,k,k',e4 ▸ r1,r2,s1,s2,r3.trans q1,s3.trans q2,fun W hW=>zbG a b l k k' L W (q4.below hW) (q5.below hW) q8 hl⟩
  have P2:Hid (∀ i,i<(xs 2).length→∃ g c g' c' a b l k k',Value.slice a6 (xs 2).length k6 = .slice (some ⟨g,0,none⟩) (xs 2).length c∧(xs 2).length≤c∧rv 3 = .slice (some ⟨g',0,none⟩) (xs 2).length c'∧(xs 2).length≤c'∧w.cell? ⟨g,i,none⟩=some (.slice a l k)∧w.cell? ⟨g',i,none⟩=some (.slice b l k')∧∀ W,Below w.heap.size w W→Calls Tryz.prog 119 #[.slice a l k,.slice b l k'] W fun e w'=>e = .returned (.bool true)∧Below W.heap.size W w'):=fun i hi=>by
    obtain ⟨v,hv⟩:∃ v,(xs 2)[i]?=some v:=⟨_,List.getElem?_eq_getElem hi⟩
    obtain ⟨vn,hvn⟩:∃ v,(xs 3)[i]?=some v:=⟨_,List.getElem?_eq_getElem (by omega)⟩
    obtain ⟨n,L,b,c',hn,ho,rfl,hc,_,hb⟩:=(h.mi.rt i v vn (Nat.zero_le _) hv hvn).ex
    obtain ⟨a,c,rfl⟩:=own_sl ho
    obtain ⟨g,d,r1,r2,r3⟩:=row 2 i (by decide) hi
    obtain ⟨g',d',s1,s2,s3⟩:=row 3 i (by decide) (by omega)
    rw [e3] at s1 s2
    exact ⟨g,d,g',d',a,b,n,c,c',e6 ▸ r1,r2,s1,s2,r3.trans hv,s3.trans hvn,fun W hW=>zbG a b n c c' L W ((zaa ho).below hW) (hc.below hW) hb (by omega)⟩
  have X:Hid (∀ w',Below w.heap.size w w'→w'.cell? ⟨bb,40,none⟩=some (.slice a4 (xs 0).length k4)∧w'.cell? ⟨bb,41,none⟩=some (rv 1)∧w'.cell? ⟨bb,42,none⟩=some (.slice a6 (xs 2).length k6)∧w'.cell? ⟨bb,43,none⟩=some (rv 3)):=fun w' hb=>⟨cell_later hb (e4 ▸ (br.cell 0 (by decide)).1),cell_later hb (br.cell 1 (by decide)).1,cell_later hb (e6 ▸ (br.cell 2 (by decide)).1),cell_later hb (br.cell 3 (by decide)).1⟩
  obtain ⟨n,hn⟩:∃ n,n=(xs 0).length:=⟨_,rfl⟩
  obtain ⟨m,hm⟩:∃ m,m=(xs 2).length:=⟨_,rfl⟩
  obtain ⟨vt,hvt⟩:∃ v,v=rv 1:=⟨_,rfl⟩
  obtain ⟨vn,hvn⟩:∃ v,v=rv 3:=⟨_,rfl⟩
  rw [← hn,← hvt] at P1
  rw [← hm,← hvn] at P2
  rw [← hn,← hm,← hvt,← hvn] at X
  rw [← hn] at h0
  rw [← hm] at h2
  have B0:Hid (Below w.heap.size w w):=Below.refl _ _
  clear h br row e1 e3 e4 e6 hn hm hvt hvn
  obtain ⟨x4,x5,x6,x7⟩:=X.out _ B0.out
  go_enter Tryz.func60,Tryz.ntmps60
  go_wp2
  clear x4 x5 x6 x7
  go_loopw [3] (fun i wr=>∃ k:Nat,i = .int .i64 k∧k≤n∧Hid (Below w.heap.size w wr)) (fun i _=>n-(intOf i).toNat)
  case atStart=>exact ⟨0,rfl,by omega,B0⟩
  case round =>
    obtain ⟨k,rfl,hk,HB⟩:=hrel
    obtain ⟨x4,x5,x6,x7⟩:=X.out _ HB.out
    by_cases hlt:k<n
    · obtain ⟨g,c,g',c',a,b,l,q,q',h1,h2',h3,h4,h5,h6,h7⟩:=P1.out k hlt
      have hk':(k:Int)<n:=by omega
      have C1:Hid (∀ d os,Calls Tryz.prog 119 #[.slice a l q,.slice b l q'] (grow (redrawn wr d) os) fun e w'=>e = .returned (.bool true)∧Below (grow (redrawn wr d) os).heap.size (grow (redrawn wr d) os) w'):=fun d os=>h7 _ (HB.out.trans ((below_regrown wr d os).mono HB.out.size))
      have B2:Hid (∀ d os,Below w.heap.size w (grow (redrawn wr d) os)):=fun d os=>HB.out.trans ((below_regrown wr d os).mono HB.out.size)
      rw [h1] at x4
      rw [h3] at x5
      have y4:∀ d os,(grow (redrawn wr d) os).cell? ⟨bb,40,none⟩=some (.slice (some ⟨g,0,none⟩) n c):=fun d os=>cell_later (below_regrown wr d os) x4
      have y5:∀ d os,(grow (redrawn wr d) os).cell? ⟨bb,41,none⟩=some (.slice (some ⟨g',0,none⟩) n c'):=fun d os=>cell_later (below_regrown wr d os) x5
      have y8:∀ d os,(grow (redrawn wr d) os).cell? ⟨g,k,none⟩=some (.slice a l q):=fun d os=>cell_later (B2.out d os) h5
      have y9:∀ d os,(grow (redrawn wr d) os).cell? ⟨g',k,none⟩=some (.slice b l q'):=fun d os=>cell_later (B2.out d os) h6
      clear h7 h1 h3 x5 x6 x7 h5 h6
      go_wp2
      clear x4
      refine wp_region_quiet_below (by kernel_rfl) (by kernel_rfl) ?_
      repeat (quiet_step ((go_at_call 119;exact Calls.regrown_of (C1.out _ _))))
      refine wpQuiet_nil ?_
      rintro _ ⟨⟨d,os⟩,rfl⟩
      have B3:Hid (Below w.heap.size w (grow (redrawn wr d) os)):=B2.out d os
      clear y4 y5 y8 y9
      go_wp2
      go_roundw
      case rel=>exact ⟨k+1,by simp,by omega,B3⟩
      case measure=>simp [intOf];omega
    · have hk':¬ (k:Int)<n:=by omega
      go_wp2
      clear x4 x5 x6 x7
      go_loopw [4] (fun i wr=>∃ k:Nat,i = .int .i64 k∧k≤m∧Hid (Below w.heap.size w wr)) (fun i _=>m-(intOf i).toNat)
      case atStart=>exact ⟨0,rfl,by omega,HB⟩
      case round =>
        clear HB
        obtain ⟨k,rfl,hk,HB⟩:=hrel
        obtain ⟨x4,x5,x6,x7⟩:=X.out _ HB.out
        by_cases hlt:k<m
        · obtain ⟨g,c,g',c',a,b,l,q,q',h1,h2',h3,h4,h5,h6,h7⟩:=P2.out k hlt
          have hk':(k:Int)<m:=by omega
          have C1:Hid (∀ d os,Calls Tryz.prog 119 #[.slice a l q,.slice b l q'] (grow (redrawn wr d) os) fun e w'=>e = .returned (.bool true)∧Below (grow (redrawn wr d) os).heap.size (grow (redrawn wr d) os) w'):=fun d os=>h7 _ (HB.out.trans ((below_regrown wr d os).mono HB.out.size))
          have B2:Hid (∀ d os,Below w.heap.size w (grow (redrawn wr d) os)):=fun d os=>HB.out.trans ((below_regrown wr d os).mono HB.out.size)
          rw [h1] at x6
          rw [h3] at x7
          have y4:∀ d os,(grow (redrawn wr d) os).cell? ⟨bb,42,none⟩=some (.slice (some ⟨g,0,none⟩) m c):=fun d os=>cell_later (below_regrown wr d os) x6
          have y5:∀ d os,(grow (redrawn wr d) os).cell? ⟨bb,43,none⟩=some (.slice (some ⟨g',0,none⟩) m c'):=fun d os=>cell_later (below_regrown wr d os) x7
          have y8:∀ d os,(grow (redrawn wr d) os).cell? ⟨g,k,none⟩=some (.slice a l q):=fun d os=>cell_later (B2.out d os) h5
          have y9:∀ d os,(grow (redrawn wr d) os).cell? ⟨g',k,none⟩=some (.slice b l q'):=fun d os=>cell_later (B2.out d os) h6
          clear h7 h1 h3 x4 x5 x7 h5 h6
          go_wp2
          clear x6
          refine wp_region_quiet_below (by kernel_rfl) (by kernel_rfl) ?_
          repeat (quiet_step ((go_at_call 119;exact Calls.regrown_of (C1.out _ _))))
          refine wpQuiet_nil ?_
          rintro _ ⟨⟨d,os⟩,rfl⟩
          have B3:Hid (Below w.heap.size w (grow (redrawn wr d) os)):=B2.out d os
          clear y4 y5 y8 y9
          go_wp2
          go_roundw
          case rel=>exact ⟨k+1,by simp,by omega,B3⟩
          case measure=>simp [intOf];omega
        · have hk':¬ (k:Int)<m:=by omega
          go_wp2
          go_ret
          exact ⟨rfl,HB.out⟩
open Go Go.RowKit
theorem markF_kB {w:World} {bb N:Nat} {cs:Array Value} {t d:Int} {U:Nat→Prop} (h:Fx false kB w bb cs t d N U) (hN:N≤90000) :
    Calls Tryz.prog 169 #[.pointer (some ⟨bb,0,none⟩)] w fun e w'=>e = .returned (.tuple #[])∧St true kB w w' bb cs t d N U (fun _=>False):=by
  obtain ⟨D,rv,xs,sn,hb,hU,hl,hs⟩:=h.bo
  refine (mark_kB cs bb 0 _ D cs rv xs t d sn w w hb (Nat.zero_le _) (by omega)).mono ?_
  rintro e w' ⟨rfl,hm⟩
  exact ⟨rfl,Fx.of_done hm hl rfl hs⟩
theorem growF_kB {w:World} {bb N:Nat} {cs:Array Value} {t d:Int} {U:Nat→Prop} (h:Fx true kB w bb cs t d N U) (hN:N≤90000) :
    Calls Tryz.prog 186 #[.pointer (some ⟨bb,0,none⟩)] w fun e w'=>e = .returned (.tuple #[])∧St false kB w w' bb cs t d N U (fun _=>False):=by
  obtain ⟨D,rv,xs,xs0,K,sn,hq,hm,hn,h4,hU,h5,h6⟩:=h.ex
  refine (grow_kB cs bb 0 _ D cs rv xs xs0 [] [] 0 K t d sn w w hq hm hn (Nat.zero_le _) (by omega)).mono ?_
  rintro e w' ⟨rfl,D',cs',rv',xs',hb,_,hl⟩
  exact ⟨rfl,Fx.of_bo (hb.more (fun k q=>q.imp id .inr)) (by omega) h6⟩
theorem holdF_kB {w:World} {bb N:Nat} {cs:Array Value} {t d:Int} {U:Nat→Prop} (h:Fx false kB w bb cs t d N U) (hN:N≤90000) :
    Calls Tryz.prog 56 #[.pointer (some ⟨bb,0,none⟩)] w fun e w'=>e = .returned (.bool true)∧Below w.heap.size w w':=by
  obtain ⟨D,rv,xs,sn,hb,hU,hl,hs⟩:=h.bo
  exact hold_kB hb (by omega) (by omega)
theorem zbp {w:World} {bb N t d:Nat} {cs:Array Value} {U:Nat→Prop} (h:Fx false kB w bb cs t d N U) (hN:N≤90000) (ht:t≤100000) (hd:d≤100000) (va:Option Addr) (n vc:Nat) (L:List Value) (mark:Int) (ho:w.ownsRow 0 5 1 (.slice va n vc) n L) (hok:Kd.ok kB L) (hn:n≤1900000) (hoff:∀ g,(Value.slice va n vc).ownBlock=some g→¬ U g∧g≠bb) (Q:World→Prop)
    (hk:∀ wx,St false kB w wx bb cs t (d+1:Nat) (N+1) U (fun k=>(Value.slice va n vc).ownBlock=some k)→Calls Tryz.prog 55 #[.pointer (some ⟨bb,0,none⟩)] wx fun e w'=>e = .returned (.tuple #[])∧Q w') :
    Calls Tryz.prog 51 #[.pointer (some ⟨bb,0,none⟩),.slice va n vc,.int .i64 mark] w fun e w'=>e = .returned (.tuple #[])∧Q w':=by
  obtain ⟨D,rv,xs,sn,hb,hU,hl,hs⟩:=h.bo
  have hb':=hb.more (S':=fun k=>U k∨(Value.slice va n vc).ownBlock=some k∨k=bb) (fun k q=>q.imp id .inr)
  have voff:∀ g,(Value.slice va n vc).ownBlock=some g→(∀ j,¬ D g j)∧Off bb rv g:=fun g e=>⟨fun j q=>(hoff g e).1 ((hU g).2 (.inr (.inr ⟨j,q⟩))),(hoff g e).2,fun i hi q=>(hoff g e).1 ((hU g).2 (.inl ⟨i,hi,q⟩))⟩
  refine note_kB cs bb 0 _ cs rv xs t sn d va n vc L mark w w Q hb'.bq (Nat.zero_le _) (hb.few (by omega)) ht (by omega) hd (zaa ho) (fun g off e=>?_) hok (by omega) ?_
  · have e':(Value.slice va n vc).ownBlock=some g:=by rw [e];rfl
    exact ⟨(ho.lt g e').2,(voff g e').2⟩
  · intro wx cs' rv' a4 k4 due hq h47 hnl hf
    exact hk wx (hb'.noted hq h47 hnl hf ho voff (fun u hu k e q=>(hoff k q).1 ((hU k).2 (.inr (.inl ⟨u,.inl hu,e⟩)))) (fun g e=>.inl (.inr (.inl e))) hok hn hl hs)
theorem markF_kI {w:World} {bb N:Nat} {cs:Array Value} {t d:Int} {U:Nat→Prop} (h:Fx false kI w bb cs t d N U) (hN:N≤90000) :
    Calls Tryz.prog 170 #[.pointer (some ⟨bb,0,none⟩)] w fun e w'=>e = .returned (.tuple #[])∧St true kI w w' bb cs t d N U (fun _=>False):=by
  obtain ⟨D,rv,xs,sn,hb,hU,hl,hs⟩:=h.bo
  refine (mark_kI cs bb 0 _ D cs rv xs t d sn w w hb (Nat.zero_le _) (by omega)).mono ?_
  rintro e w' ⟨rfl,hm⟩
  exact ⟨rfl,Fx.of_done hm hl rfl hs⟩
theorem growF_kI {w:World} {bb N:Nat} {cs:Array Value} {t d:Int} {U:Nat→Prop} (h:Fx true kI w bb cs t d N U) (hN:N≤90000) :
    Calls Tryz.prog 187 #[.pointer (some ⟨bb,0,none⟩)] w fun e w'=>e = .returned (.tuple #[])∧St false kI w w' bb cs t d N U (fun _=>False):=by
  obtain ⟨D,rv,xs,xs0,K,sn,hq,hm,hn,h4,hU,h5,h6⟩:=h.ex
  refine (grow_kI cs bb 0 _ D cs rv xs xs0 [] [] 0 K t d sn w w hq hm hn (Nat.zero_le _) (by omega)).mono ?_
  rintro e w' ⟨rfl,D',cs',rv',xs',hb,_,hl⟩
  exact ⟨rfl,Fx.of_bo (hb.more (fun k q=>q.imp id .inr)) (by omega) h6⟩
theorem holdF_kI {w:World} {bb N:Nat} {cs:Array Value} {t d:Int} {U:Nat→Prop} (h:Fx false kI w bb cs t d N U) (hN:N≤90000) :
    Calls Tryz.prog 57 #[.pointer (some ⟨bb,0,none⟩)] w fun e w'=>e = .returned (.bool true)∧Below w.heap.size w w':=by
  obtain ⟨D,rv,xs,sn,hb,hU,hl,hs⟩:=h.bo
  exact hold_kI hb (by omega) (by omega)
theorem noteF_kI {w:World} {bb N t d:Nat} {cs:Array Value} {U:Nat→Prop} (h:Fx false kI w bb cs t d N U) (hN:N≤90000) (ht:t≤100000) (hd:d≤100000) (va:Option Addr) (n vc:Nat) (L:List Value) (mark:Int) (ho:w.ownsRow 0 3 1 (.slice va n vc) n L) (hok:Kd.ok kI L) (hn:n≤1900000) (hoff:∀ g,(Value.slice va n vc).ownBlock=some g→¬ U g∧g≠bb) (Q:World→Prop)
    (hk:∀ wx,St false kI w wx bb cs t (d+1:Nat) (N+1) U (fun k=>(Value.slice va n vc).ownBlock=some k)→Calls Tryz.prog 55 #[.pointer (some ⟨bb,0,none⟩)] wx fun e w'=>e = .returned (.tuple #[])∧Q w') :
    Calls Tryz.prog 53 #[.pointer (some ⟨bb,0,none⟩),.slice va n vc,.int .i64 mark] w fun e w'=>e = .returned (.tuple #[])∧Q w':=by
  obtain ⟨D,rv,xs,sn,hb,hU,hl,hs⟩:=h.bo
  have hb':=hb.more (S':=fun k=>U k∨(Value.slice va n vc).ownBlock=some k∨k=bb) (fun k q=>q.imp id .inr)
  have voff:∀ g,(Value.slice va n vc).ownBlock=some g→(∀ j,¬ D g j)∧Off bb rv g:=fun g e=>⟨fun j q=>(hoff g e).1 ((hU g).2 (.inr (.inr ⟨j,q⟩))),(hoff g e).2,fun i hi q=>(hoff g e).1 ((hU g).2 (.inl ⟨i,hi,q⟩))⟩
  refine note_kI cs bb 0 _ cs rv xs t sn d va n vc L mark w w Q hb'.bq (Nat.zero_le _) (hb.few (by omega)) ht (by omega) hd (zaa ho) (fun g off e=>?_) hok (by omega) ?_
  · have e':(Value.slice va n vc).ownBlock=some g:=by rw [e];rfl
    exact ⟨(ho.lt g e').2,(voff g e').2⟩
  · intro wx cs' rv' a4 k4 due hq h47 hnl hf
    exact hk wx (hb'.noted hq h47 hnl hf ho voff (fun u hu k e q=>(hoff k q).1 ((hU k).2 (.inr (.inl ⟨u,.inl hu,e⟩)))) (fun g e=>.inl (.inr (.inl e))) hok hn hl hs)
theorem markF_kT {w:World} {bb N:Nat} {cs:Array Value} {t d:Int} {U:Nat→Prop} (h:Fx false kT w bb cs t d N U) (hN:N≤90000) (hI:ItS (fun k=>U k∨k=bb) w) :
    Calls Tryz.prog 171 #[.pointer (some ⟨bb,0,none⟩)] w fun e w'=>e = .returned (.tuple #[])∧St true kT w w' bb cs t d N U (fun _=>False):=by
  obtain ⟨D,rv,xs,sn,hb,hU,hl,hs⟩:=h.bo
  refine (mark_kT cs bb 0 _ D cs rv xs t d sn w w hb (Nat.zero_le _) (by omega) hI).mono ?_
  rintro e w' ⟨rfl,hm⟩
  exact ⟨rfl,Fx.of_done hm hl rfl hs⟩
theorem growF_kT {w:World} {bb N:Nat} {cs:Array Value} {t d:Int} {U:Nat→Prop} (h:Fx true kT w bb cs t d N U) (hN:N≤90000) (hI:ItS (fun k=>U k∨k=bb) w) :
    Calls Tryz.prog 188 #[.pointer (some ⟨bb,0,none⟩)] w fun e w'=>e = .returned (.tuple #[])∧St false kT w w' bb cs t d N U (fun _=>False):=by
  obtain ⟨D,rv,xs,xs0,K,sn,hq,hm,hn,h4,hU,h5,h6⟩:=h.ex
  refine (grow_kT cs bb 0 _ D cs rv xs xs0 [] [] 0 K t d sn w w hq hm hn (Nat.zero_le _) (by omega) hI).mono ?_
  rintro e w' ⟨rfl,D',cs',rv',xs',hb,_,hl⟩
  exact ⟨rfl,Fx.of_bo (hb.more (fun k q=>q.imp id .inr)) (by omega) h6⟩
theorem holdF_kT {w:World} {bb N:Nat} {cs:Array Value} {t d:Int} {U:Nat→Prop} (h:Fx false kT w bb cs t d N U) (hN:N≤90000) :
    Calls Tryz.prog 58 #[.pointer (some ⟨bb,0,none⟩)] w fun e w'=>e = .returned (.bool true)∧Below w.heap.size w w':=by
  obtain ⟨D,rv,xs,sn,hb,hU,hl,hs⟩:=h.bo
  exact hold_kT hb (by omega) (by omega)
theorem noteF_kT {w:World} {bb N t d:Nat} {cs:Array Value} {U:Nat→Prop} (h:Fx false kT w bb cs t d N U) (hN:N≤90000) (ht:t≤100000) (hd:d≤100000) (va:Option Addr) (n vc:Nat) (L:List Value) (mark:Int) (ho:w.ownsRow 0 9 1 (.slice va n vc) n L) (hok:Kd.ok kT L) (hn:n≤1900000) (hoff:∀ g,(Value.slice va n vc).ownBlock=some g→¬ U g∧g≠bb) (Q:World→Prop)
    (hk:∀ wx,St false kT w wx bb cs t (d+1:Nat) (N+1) U (fun k=>(Value.slice va n vc).ownBlock=some k)→Calls Tryz.prog 55 #[.pointer (some ⟨bb,0,none⟩)] wx fun e w'=>e = .returned (.tuple #[])∧Q w') :
    Calls Tryz.prog 54 #[.pointer (some ⟨bb,0,none⟩),.slice va n vc,.int .i64 mark] w fun e w'=>e = .returned (.tuple #[])∧Q w':=by
  obtain ⟨D,rv,xs,sn,hb,hU,hl,hs⟩:=h.bo
  have hb':=hb.more (S':=fun k=>U k∨(Value.slice va n vc).ownBlock=some k∨k=bb) (fun k q=>q.imp id .inr)
  have voff:∀ g,(Value.slice va n vc).ownBlock=some g→(∀ j,¬ D g j)∧Off bb rv g:=fun g e=>⟨fun j q=>(hoff g e).1 ((hU g).2 (.inr (.inr ⟨j,q⟩))),(hoff g e).2,fun i hi q=>(hoff g e).1 ((hU g).2 (.inl ⟨i,hi,q⟩))⟩
  refine note_kT cs bb 0 _ cs rv xs t sn d va n vc L mark w w Q hb'.bq (Nat.zero_le _) (hb.few (by omega)) ht (by omega) hd (zaa ho) (fun g off e=>?_) hok (by omega) ?_
  · have e':(Value.slice va n vc).ownBlock=some g:=by rw [e];rfl
    exact ⟨(ho.lt g e').2,(voff g e').2⟩
  · intro wx cs' rv' a4 k4 due hq h47 hnl hf
    exact hk wx (hb'.noted hq h47 hnl hf ho voff (fun u hu k e q=>(hoff k q).1 ((hU k).2 (.inr (.inl ⟨u,.inl hu,e⟩)))) (fun g e=>.inl (.inr (.inl e))) hok hn hl hs)
theorem markF_kA {w:World} {bb N:Nat} {cs:Array Value} {t d:Int} {U:Nat→Prop} (h:Fx false kA w bb cs t d N U) (hN:N≤90000) (hI:ItS (fun k=>U k∨k=bb) w) :
    Calls Tryz.prog 173 #[.pointer (some ⟨bb,0,none⟩)] w fun e w'=>e = .returned (.tuple #[])∧St true kA w w' bb cs t d N U (fun _=>False):=by
  obtain ⟨D,rv,xs,sn,hb,hU,hl,hs⟩:=h.bo
  refine (mark_kA cs bb 0 _ D cs rv xs t d sn w w hb (Nat.zero_le _) (by omega) hI).mono ?_
  rintro e w' ⟨rfl,hm⟩
  exact ⟨rfl,Fx.of_done hm hl rfl hs⟩
theorem growF_kA {w:World} {bb N:Nat} {cs:Array Value} {t d:Int} {U:Nat→Prop} (h:Fx true kA w bb cs t d N U) (hN:N≤90000) (hI:ItS (fun k=>U k∨k=bb) w) :
    Calls Tryz.prog 190 #[.pointer (some ⟨bb,0,none⟩)] w fun e w'=>e = .returned (.tuple #[])∧St false kA w w' bb cs t d N U (fun _=>False):=by
  obtain ⟨D,rv,xs,xs0,K,sn,hq,hm,hn,h4,hU,h5,h6⟩:=h.ex
  refine (grow_kA cs bb 0 _ D cs rv xs xs0 [] [] 0 K t d sn w w hq hm hn (Nat.zero_le _) (by omega) hI).mono ?_
  rintro e w' ⟨rfl,D',cs',rv',xs',hb,_,hl⟩
  exact ⟨rfl,Fx.of_bo (hb.more (fun k q=>q.imp id .inr)) (by omega) h6⟩
theorem holdF_kA {w:World} {bb N:Nat} {cs:Array Value} {t d:Int} {U:Nat→Prop} (h:Fx false kA w bb cs t d N U) (hN:N≤90000) :
    Calls Tryz.prog 60 #[.pointer (some ⟨bb,0,none⟩)] w fun e w'=>e = .returned (.bool true)∧Below w.heap.size w w':=by
  obtain ⟨D,rv,xs,sn,hb,hU,hl,hs⟩:=h.bo
  exact hold_kA hb (by omega) (by omega)
theorem noteF_kA {w:World} {bb N t d:Nat} {cs:Array Value} {U:Nat→Prop} (h:Fx false kA w bb cs t d N U) (hN:N≤90000) (ht:t≤100000) (hd:d≤100000) (va:Option Addr) (n vc:Nat) (L:List Value) (mark:Int) (ho:w.ownsRow 0 98 2 (.slice va n vc) n L) (hok:Kd.ok kA L) (hn:n≤1900000) (hoff:∀ g,(Value.slice va n vc).ownBlock=some g→¬ U g∧g≠bb) (Q:World→Prop)
    (hk:∀ wx,St false kA w wx bb cs t (d+1:Nat) (N+1) U (fun k=>(Value.slice va n vc).ownBlock=some k)→Calls Tryz.prog 55 #[.pointer (some ⟨bb,0,none⟩)] wx fun e w'=>e = .returned (.tuple #[])∧Q w') :
    Calls Tryz.prog 52 #[.pointer (some ⟨bb,0,none⟩),.slice va n vc,.int .i64 mark] w fun e w'=>e = .returned (.tuple #[])∧Q w':=by
  obtain ⟨D,rv,xs,sn,hb,hU,hl,hs⟩:=h.bo
  have hb':=hb.more (S':=fun k=>U k∨(Value.slice va n vc).ownBlock=some k∨k=bb) (fun k q=>q.imp id .inr)
  have voff:∀ g,(Value.slice va n vc).ownBlock=some g→(∀ j,¬ D g j)∧Off bb rv g:=fun g e=>⟨fun j q=>(hoff g e).1 ((hU g).2 (.inr (.inr ⟨j,q⟩))),(hoff g e).2,fun i hi q=>(hoff g e).1 ((hU g).2 (.inl ⟨i,hi,q⟩))⟩
  refine note_kA cs bb 0 _ cs rv xs t sn d va n vc L mark w w Q hb'.bq (Nat.zero_le _) (hb.few (by omega)) ht (by omega) hd (zaa ho) (fun g off e=>?_) hok (by omega) ?_
  · have e':(Value.slice va n vc).ownBlock=some g:=by rw [e];rfl
    exact ⟨(ho.lt g e').2,(voff g e').2⟩
  · intro wx cs' rv' a4 k4 due hq h47 hnl hf
    exact hk wx (hb'.noted hq h47 hnl hf ho voff (fun u hu k e q=>(hoff k q).1 ((hU k).2 (.inr (.inl ⟨u,.inl hu,e⟩)))) (fun g e=>.inl (.inr (.inl e))) hok hn hl hs)
end Go.Proofs.YtceigllifjgalaaGreatDoor.Bk
