import Derived.Test.YtceigllifjgalaaGreatDoorPWm
namespace Go.Proofs.YtceigllifjgalaaGreatDoor.Pkt
open Go Go.RowKit Go.Sort
set_option linter.unusedSimpArgs false
set_option linter.unusedVariables false
theorem zdJ (f:Nat->Nat) (n:Nat) (h:∀ i,i<n->1<=f i):n<=sumN f n:=by induction n with | zero=>simp [sumN] | succ n ih => have h1:=ih (fun i hi=>h i (by omega));have h2:=h n (by omega);simp only [sumN];omega
theorem Right.q2 {T:Tx} {p:Pk} {c:Cn} (h:Right T p c):p.mQ=0\/p.mQ=1\/p.mQ=2:=by have:=h.ql;simp [qls,isQ] at this;omega
set_option maxHeartbeats 1000000
theorem zcm (s s':Sl) (z:Nat->Int) (w:World) (h:By w s z) (h':By w s' z) (hn:s.n=s'.n) (hm:s.n<=1000000) :
 Calls Tryz.prog 41 #[.slice s.a s.n s.c,.slice s'.a s'.n s'.c] w fun e w'=>e = .returned (.bool true)/\Below w.heap.size w w':=by
 obtain ⟨a,n,c⟩:=s;obtain ⟨a',n',c'⟩:=s';simp only at hn hm;subst hn;have HA:=Hi h;have HB:=Hi h';have B0:Hid (Below w.heap.size w w):=Below.refl _ _;clear h h';go_enter Tryz.func41,Tryz.ntmps41;go_wp2_with fail;go_loopg [5] n (fun gg s5 wx=>∃ (k:Nat),s5 = .int .i64 k/\k+gg=n/\Hid (Below w.heap.size w wx));case atStart=>exact ⟨0,rfl,by omega,B0⟩
 case round =>
  obtain ⟨k,rfl,hkg,B1⟩:=hrel;by_cases hk:k<n
  · have hk':(k:Int)<n:=by omega
    obtain ⟨b,off,he,hc⟩:∃ b off,a=some ⟨b,off,none⟩/\∀ i,i<n->w.cell? ⟨b,off+i,none⟩=some (.int .u8 (z i)):=by
     rcases HA.out.2.2 with h | h;· simp only at h;omega
     · exact h
    obtain ⟨b',off',he',hc'⟩:∃ b off,a'=some ⟨b,off,none⟩/\∀ i,i<n->w.cell? ⟨b,off+i,none⟩=some (.int .u8 (z i)):=by
     rcases HB.out.2.2 with h | h;· simp only at h;omega
     · exact h
    subst he he';have hac:n<=c:=HA.out.1;have hac':n<=c':=HB.out.1;have c0:=cell_later B1.out (hc k hk);have d0:=cell_later B1.out (hc' k hk);obtain ⟨x,hx⟩:∃ x,z k=x:=⟨_,rfl⟩;rw [hx] at c0 d0;clear hx hc hc';obtain ⟨gg,hg⟩:∃ gg,gk=gg+1:=⟨gk-1,by omega⟩;go_wp2_with fail;go_region;all_goals
     go_wp2;go_roundg gg;case measure=>omega
     case rel=>exact ⟨k+1,by first | rfl | simp,by omega,by first | exact B1 | exact B1.out.drew⟩
  · obtain rfl:k=n:=by omega
    have hk':¬ (k:Int)<k:=by omega
    go_wp2;go_ret;exact ⟨rfl,B1.out⟩
theorem zbL (t:ByteArray) (q:Int) (r:Bool) (s s':Sl) (z:Nat->Int) (w:World) (h:By w s z) (h':By w s' z) (hn:s.n=s'.n) (hm:s.n<=1000000) :
 Calls Tryz.prog 40 #[.agg #[.string t,.slice s.a s.n s.c,.int .i64 q,.bool r],.agg #[.string t,.slice s'.a s'.n s'.c,.int .i64 q,.bool r]] w fun e w'=>e = .returned (.bool true)/\Below w.heap.size w w':=by
 have HC:Hid (∀ w',Below w.heap.size w w'->Calls Tryz.prog 41 #[.slice s.a s.n s.c,.slice s'.a s'.n s'.c] w' fun e w''=>e = .returned (.bool true)/\Below w'.heap.size w' w''):=fun w' hb=>zcm s s' z w' (h.below hb) (h'.below hb) hn hm;clear h h' hn hm;go_enter Tryz.func40,Tryz.ntmps40;go_wp2_with fail;go_must (go_at_call 41);refine (HC.out _ (below2 _ _ _)).mono ?_;rintro e w1 ⟨rfl,hb⟩;have B1:Hid (Below w.heap.size w w1):=(below2 w _ _).trans (hb.mono (below2 w _ _).size);clear hb;go_wp2;go_ret;exact ⟨rfl,B1.out⟩
theorem ze4 (t t':ByteArray) (q q':Int) (w:World):(binOp .neq 98 (.agg #[.string t,.int .i64 q]) (.agg #[.string t',.int .i64 q'])).run Tryz.prog w = .ok (.bool (!((t.toList==t'.toList) && (q==q')))) w:=by
 have hu:Tryz.prog.underlying 98=some (.struct (Tryz.prog.fieldsOf 98)):=by kernel_rfl
 have hp:Tryz.prog.stoodInHeld 98=false:=by kernel_rfl
 rw [run_neq_struct,run_equalIn_agg w 9999 98 _ _ hu hp];clear hu hp;simp only [Program.fieldsOf,Tryz.underlying98];cases h1:(t.toList==t'.toList);· go_simp
 ·
  cases h2:(q==q');· go_simp
  · go_simp
theorem zcf (t:ByteArray) (q:Int) (w:World):(binOp .neq 98 (.agg #[.string t,.int .i64 q]) (.agg #[.string t,.int .i64 q])).run Tryz.prog w = .ok (.bool false) w:=by rw [ze4];simp
def Pk.re (p:Pk) (s1 s2 s3 s4 s5 s6:Sl):Pk:={ p with wP:=s1,pass:=s2,mP:=s3,asks:=s4,codes:=s5,filters:=s6 }
set_option maxRecDepth 100000
set_option maxHeartbeats 8000000
theorem rsame_eq (p:Pk) (c:Cn) (s1 s2 s3 s4 s5 s6:Sl) (w:World) (hb:In w p c) (ha:In w (p.re s1 s2 s3 s4 s5 s6) c) (n1:s1.n=p.wP.n) (n2:s2.n=p.pass.n) (n3:s3.n=p.mP.n) (n4:s4.n=p.asks.n) (n5:s5.n=p.codes.n) (n6:s6.n=p.filters.n) (hs:Small p c) :
 Calls Tryz.prog 11 #[(p.re s1 s2 s3 s4 s5 s6).v,p.v] w fun e w'=>e = .returned (.bool true)/\Below w.heap.size w w':=by
 have HB:=Hi hb;have HA:=Hi ha;have HS:=Hi hs;have N1:=Hi n1;have N2:=Hi n2;have N3:=Hi n3;have N4:=Hi n4;have N5:=Hi n5;have N6:=Hi n6;have LA:Hid (s4.n<=1000000/\s5.n<=1000000/\s6.n<=1000000):=⟨by rw [n4];exact hs.an,by rw [n5];exact hs.cn,by rw [n6];exact hs.fn⟩;clear hb ha hs n1 n2 n3 n4 n5 n6;obtain ⟨P,hP⟩:∃ P,P=pkCells (p.re s1 s2 s3 s4 s5 s6):=⟨_,rfl⟩;obtain ⟨Q,hQ⟩:∃ Q,Q=pkCells p:=⟨_,rfl⟩;rw [show (p.re s1 s2 s3 s4 s5 s6).v = .agg P by rw [hP];rfl,show p.v = .agg Q by rw [hQ];rfl];have HP:=Hi hP;have HQ:=Hi hQ;clear hP hQ;obtain ⟨V,hV⟩:∃ V,V=w.alloc (.cells P 29):=⟨_,rfl⟩;obtain ⟨W,hW⟩:∃ W,W=V.alloc (.cells Q 29):=⟨_,rfl⟩;obtain ⟨g,hg⟩:∃ g,g=w.heap.size+1:=⟨_,rfl⟩;have hgV:g=V.heap.size:=by rw [hg,hV];simp
 have bV:=Hi (zat hV);have bW:=Hi (zat hW);have b0:=Hi (bV.out.trans (bW.out.mono bV.out.size));have FA:Hid (∀ k v,(pkCells (p.re s1 s2 s3 s4 s5 s6))[k]?=some v->∀ w',Below W.heap.size W w'->w'.cell? ⟨w.heap.size,k,none⟩=some v):=fun k v h w' hb=>cell_later hb (cell_later bW.out (by rw [hV];exact za2 w P 29 k v (by rw [HP.out];exact h)));have FB:Hid (∀ k v,(pkCells p)[k]?=some v->∀ w',Below W.heap.size W w'->w'.cell? ⟨g,k,none⟩=some v):=fun k v h w' hb=>cell_later hb (by rw [hgV,hW];exact za2 V Q 29 k v (by rw [HQ.out];exact h));have BW:Hid (∀ w',Below W.heap.size W w'->Below w.heap.size w w'):=fun w' hb=>b0.out.trans (hb.mono b0.out.size);have R0:Hid (Below W.heap.size W W):=Below.refl _ _;go_enter Tryz.func11,Tryz.ntmps11;go_upto_region 1 with fail;rw [<-hV,<-hg,<-hW];clear hV hW hg hgV;have c0:=FA.out 0 (.int .i64 p.kind) rfl W R0.out;have d0:=FB.out 0 (.int .i64 p.kind) rfl W R0.out;have c1:=FA.out 1 (.int .i64 p.level) rfl W R0.out;have d1:=FB.out 1 (.int .i64 p.level) rfl W R0.out;have c2:=FA.out 2 (.bool p.clean) rfl W R0.out;have d2:=FB.out 2 (.bool p.clean) rfl W R0.out;have c3:=FA.out 3 (.int .i64 p.keep) rfl W R0.out;have d3:=FB.out 3 (.int .i64 p.keep) rfl W R0.out;have c4:=FA.out 4 (.string p.client) rfl W R0.out;have d4:=FB.out 4 (.string p.client) rfl W R0.out;have c5:=FA.out 5 (.bool p.hasWill) rfl W R0.out;have d5:=FB.out 5 (.bool p.hasWill) rfl W R0.out;have c10:=FA.out 10 (.bool p.hasUser) rfl W R0.out;have d10:=FB.out 10 (.bool p.hasUser) rfl W R0.out;have c11:=FA.out 11 (.string p.user) rfl W R0.out;have d11:=FB.out 11 (.string p.user) rfl W R0.out;have c12:=FA.out 12 (.bool p.hasPass) rfl W R0.out;have d12:=FB.out 12 (.bool p.hasPass) rfl W R0.out;go_upto_region 3 with fail;clear c0 d0 c1 d1 c2 d2 c3 d3 c4 d4 c5 d5 c10 d10 c11 d11 c12 d12;have c14:=FA.out 14 (.bool p.present) rfl W R0.out;have d14:=FB.out 14 (.bool p.present) rfl W R0.out;have c15:=FA.out 15 (.int .i64 p.code) rfl W R0.out;have d15:=FB.out 15 (.int .i64 p.code) rfl W R0.out;have c16:=FA.out 16 (.bool p.dup) rfl W R0.out;have d16:=FB.out 16 (.bool p.dup) rfl W R0.out;have c21:=FA.out 21 (.int .i64 p.id) rfl W R0.out;have d21:=FB.out 21 (.int .i64 p.id) rfl W R0.out;have c6:=FA.out 6 (.string p.wT) rfl W R0.out;have d6:=FB.out 6 (.string p.wT) rfl W R0.out;have c7:=FA.out 7 (.slice s1.a s1.n s1.c) rfl W R0.out;have d7:=FB.out 7 (.slice p.wP.a p.wP.n p.wP.c) rfl W R0.out;have c8:=FA.out 8 (.int .i64 p.wQ) rfl W R0.out;have d8:=FB.out 8 (.int .i64 p.wQ) rfl W R0.out;have c9:=FA.out 9 (.bool p.wR) rfl W R0.out;have d9:=FB.out 9 (.bool p.wR) rfl W R0.out;go_wp2_with fail;go_must (go_at_call 40);refine (zbL _ _ _ s1 p.wP c.wz _ (HA.out.wP.below b0.out) (HB.out.wP.below b0.out) N1.out (by rw [N1.out];exact HS.out.wp)).mono ?_;rintro e w1 ⟨rfl,hb⟩;have B1:=Hi hb;clear hb;clear c14 d14 c15 d15 c16 d16 c21 d21 c6 d6 c7 d7 c8 d8 c9 d9;have c17:=FA.out 17 (.string p.mT) rfl w1 B1.out;have d17:=FB.out 17 (.string p.mT) rfl w1 B1.out;have c18:=FA.out 18 (.slice s3.a s3.n s3.c) rfl w1 B1.out;have d18:=FB.out 18 (.slice p.mP.a p.mP.n p.mP.c) rfl w1 B1.out;have c19:=FA.out 19 (.int .i64 p.mQ) rfl w1 B1.out;have d19:=FB.out 19 (.int .i64 p.mQ) rfl w1 B1.out;have c20:=FA.out 20 (.bool p.mR) rfl w1 B1.out;have d20:=FB.out 20 (.bool p.mR) rfl w1 B1.out;go_wp2_with fail;go_must (go_at_call 40);refine (zbL _ _ _ s3 p.mP c.mz _ (HA.out.mP.below (BW.out _ B1.out)) (HB.out.mP.below (BW.out _ B1.out)) N3.out (by rw [N3.out];exact HS.out.mp)).mono ?_;rintro e w2 ⟨rfl,hb⟩;have B2:=Hi (B1.out.trans (hb.mono B1.out.size));clear hb;clear c17 d17 c18 d18 c19 d19 c20 d20;have c13:=FA.out 13 (.slice s2.a s2.n s2.c) rfl w2 B2.out;have d13:=FB.out 13 (.slice p.pass.a p.pass.n p.pass.c) rfl w2 B2.out;go_wp2_with fail;go_must (go_at_call 41);refine (zcm s2 p.pass c.pz _ (HA.out.pass.below (BW.out _ B2.out)) (HB.out.pass.below (BW.out _ B2.out)) N2.out (by rw [N2.out];exact HS.out.ps)).mono ?_;rintro e w3 ⟨rfl,hb⟩;have B3:=Hi (B2.out.trans (hb.mono B2.out.size));clear hb;clear c13 d13;have c22:=FA.out 22 (.slice s4.a s4.n s4.c) rfl w3 B3.out;have d22:=FB.out 22 (.slice p.asks.a p.asks.n p.asks.c) rfl w3 B3.out;have c23:=FA.out 23 (.slice s5.a s5.n s5.c) rfl w3 B3.out;have d23:=FB.out 23 (.slice p.codes.a p.codes.n p.codes.c) rfl w3 B3.out;have c24:=FA.out 24 (.slice s6.a s6.n s6.c) rfl w3 B3.out;have d24:=FB.out 24 (.slice p.filters.a p.filters.n p.filters.c) rfl w3 B3.out;rw [<-N4.out] at d22;rw [<-N5.out] at d23;rw [<-N6.out] at d24;go_wp2_with fail;clear c22 d22 c23 d23 c24 d24;go_loopg [5] s4.n (fun gg sx wx=>∃ (k:Nat),sx = .int .i64 k/\k+gg=s4.n/\Hid (Below W.heap.size W wx));case atStart=>exact ⟨0,rfl,by omega,B3⟩
 case round =>
  obtain ⟨k,rfl,hkg,B5⟩:=hrel;have c22:=FA.out 22 (.slice s4.a s4.n s4.c) rfl _ B5.out;have d22:=FB.out 22 (.slice p.asks.a p.asks.n p.asks.c) rfl _ B5.out;rw [<-N4.out] at d22;by_cases hk:k<s4.n
  · have hk':(k:Int)<s4.n:=by omega
    obtain ⟨b,off,he,hc⟩:∃ b off,s4.a=some ⟨b,off,none⟩/\∀ i,i<s4.n->(w.cell? ⟨b,off+i*2,none⟩=some (.string (c.af i))/\w.cell? ⟨b,off+i*2+1,none⟩=some (.int .i64 (c.aq i))):=by
     rcases (HA.out.asks).2 with h | h
     · have h':s4.n=0:=h
       omega
     · exact h
    obtain ⟨b',off',he',hc'⟩:∃ b off,p.asks.a=some ⟨b,off,none⟩/\∀ i,i<p.asks.n->(w.cell? ⟨b,off+i*2,none⟩=some (.string (c.af i))/\w.cell? ⟨b,off+i*2+1,none⟩=some (.int .i64 (c.aq i))):=by
     rcases (HB.out.asks).2 with h | h
     · have h':=N4.out
       omega
     · exact h
    have hac:s4.n<=s4.c:=HA.out.asks.1;have hac':s4.n<=p.asks.c:=by rw [N4.out];exact HB.out.asks.1
    rw [he] at c22;rw [he'] at d22;have hk2:k<p.asks.n:=by rw [<-N4.out];exact hk
    have e0:=cell_later (BW.out _ B5.out) (hc k hk).1;have e1:=cell_later (BW.out _ B5.out) (hc k hk).2;have f0:=cell_later (BW.out _ B5.out) (hc' k hk2).1;have f1:=cell_later (BW.out _ B5.out) (hc' k hk2).2;obtain ⟨x,hx⟩:∃ x,c.af k=x:=⟨_,rfl⟩;obtain ⟨y,hy⟩:∃ x,c.aq k=x:=⟨_,rfl⟩;rw [hx] at e0 f0;rw [hy] at e1 f1;clear hx hy;have EQ:=zcf x y;have EG:Tryz.prog.eqGuardType Tryz.prog.depth 98=false:=by kernel_rfl
    clear he he' hc hc' hk2;have hlim:=LA.out;obtain ⟨gg,hgg⟩:∃ gg,gk=gg+1:=⟨gk-1,by omega⟩;go_wp2_with fail;go_region;all_goals
     go_wp2;go_roundg gg;case measure=>omega
     case rel=>exact ⟨k+1,by first | rfl | simp,by omega,by first | exact B5 | exact B5.out.drew⟩
  · obtain rfl:k=s4.n:=by omega
    have hk':¬ (s4.n:Int)<s4.n:=by omega
    go_wp2_with fail;clear c22 d22 hk hk';go_loopg [6] s5.n (fun gg sx wx=>∃ (k:Nat),sx = .int .i64 k/\k+gg=s5.n/\Hid (Below W.heap.size W wx));case atStart=>exact ⟨0,rfl,by omega,B5⟩
    case round =>
     obtain ⟨k,rfl,hkg,B6⟩:=hrel;have c23:=FA.out 23 (.slice s5.a s5.n s5.c) rfl _ B6.out;have d23:=FB.out 23 (.slice p.codes.a p.codes.n p.codes.c) rfl _ B6.out;rw [<-N5.out] at d23;by_cases hk:k<s5.n
     · have hk':(k:Int)<s5.n:=by omega
       obtain ⟨b,off,he,hc⟩:∃ b off,s5.a=some ⟨b,off,none⟩/\∀ i,i<s5.n->w.cell? ⟨b,off+i,none⟩=some (.int .i64 (c.cs i)):=by
        rcases (HA.out.codes).2 with h | h
        · have h':s5.n=0:=h
          omega
        · exact h
       obtain ⟨b',off',he',hc'⟩:∃ b off,p.codes.a=some ⟨b,off,none⟩/\∀ i,i<p.codes.n->w.cell? ⟨b,off+i,none⟩=some (.int .i64 (c.cs i)):=by
        rcases (HB.out.codes).2 with h | h
        · have h':=N5.out
          omega
        · exact h
       have hac:s5.n<=s5.c:=HA.out.codes.1;have hac':s5.n<=p.codes.c:=by rw [N5.out];exact HB.out.codes.1
       rw [he] at c23;rw [he'] at d23;have hk2:k<p.codes.n:=by rw [<-N5.out];exact hk
       have e0:=cell_later (BW.out _ B6.out) (hc k hk);have f0:=cell_later (BW.out _ B6.out) (hc' k hk2);obtain ⟨x,hx⟩:∃ x,c.cs k=x:=⟨_,rfl⟩;rw [hx] at e0 f0;clear hx;clear he he' hc hc' hk2;have hlim:=LA.out;obtain ⟨gg,hgg⟩:∃ gg,gk=gg+1:=⟨gk-1,by omega⟩;go_wp2_with fail;go_region;all_goals
        go_wp2;go_roundg gg;case measure=>omega
        case rel=>exact ⟨k+1,by first | rfl | simp,by omega,by first | exact B6 | exact B6.out.drew⟩
     · obtain rfl:k=s5.n:=by omega
       have hk':¬ (s5.n:Int)<s5.n:=by omega
       go_wp2_with fail;clear c23 d23 hk hk';go_loopg [7] s6.n (fun gg sx wx=>∃ (k:Nat),sx = .int .i64 k/\k+gg=s6.n/\Hid (Below W.heap.size W wx));case atStart=>exact ⟨0,rfl,by omega,B6⟩
       case round =>
        obtain ⟨k,rfl,hkg,B7⟩:=hrel;have c24:=FA.out 24 (.slice s6.a s6.n s6.c) rfl _ B7.out;have d24:=FB.out 24 (.slice p.filters.a p.filters.n p.filters.c) rfl _ B7.out;rw [<-N6.out] at d24;by_cases hk:k<s6.n
        · have hk':(k:Int)<s6.n:=by omega
          obtain ⟨b,off,he,hc⟩:∃ b off,s6.a=some ⟨b,off,none⟩/\∀ i,i<s6.n->w.cell? ⟨b,off+i,none⟩=some (.string (c.fs i)):=by
           rcases (HA.out.filters).2 with h | h
           · have h':s6.n=0:=h
             omega
           · exact h
          obtain ⟨b',off',he',hc'⟩:∃ b off,p.filters.a=some ⟨b,off,none⟩/\∀ i,i<p.filters.n->w.cell? ⟨b,off+i,none⟩=some (.string (c.fs i)):=by
           rcases (HB.out.filters).2 with h | h
           · have h':=N6.out
             omega
           · exact h
          have hac:s6.n<=s6.c:=HA.out.filters.1;have hac':s6.n<=p.filters.c:=by rw [N6.out];exact HB.out.filters.1
          rw [he] at c24;rw [he'] at d24;have hk2:k<p.filters.n:=by rw [<-N6.out];exact hk
          have e0:=cell_later (BW.out _ B7.out) (hc k hk);have f0:=cell_later (BW.out _ B7.out) (hc' k hk2);obtain ⟨x,hx⟩:∃ x,c.fs k=x:=⟨_,rfl⟩;rw [hx] at e0 f0;clear hx;clear he he' hc hc' hk2;have hlim:=LA.out;obtain ⟨gg,hgg⟩:∃ gg,gk=gg+1:=⟨gk-1,by omega⟩;go_wp2_with fail;go_region;all_goals
           go_wp2;go_roundg gg;case measure=>omega
           case rel=>exact ⟨k+1,by first | rfl | simp,by omega,by first | exact B7 | exact B7.out.drew⟩
        · obtain rfl:k=s6.n:=by omega
          have hk':¬ (s6.n:Int)<s6.n:=by omega
          go_wp2;go_ret;exact ⟨rfl,BW.out _ B7.out⟩
set_option maxHeartbeats 1000000
theorem below1 (w:World) (o:Obj):Below w.heap.size w (w.alloc o):=(Below.refl _ _).alloc (Nat.le_refl _) _
def zmsg (t:ByteArray) (n:Nat) (q:Int) (r:Bool):Bool:=decide (t.size=0) && decide (n=0) && decide (q=0) && !r
theorem zaC (t:ByteArray) (a:Option Addr) (n c:Nat) (q:Int) (r:Bool) (w:World):Calls Tryz.prog 222 #[.agg #[.string t,.slice a n c,.int .i64 q,.bool r]] w fun e w'=>e = .returned (.bool (zmsg t n q r))/\Below w.heap.size w w':=by
 have hE:=zaY t;by_cases h1:t.size=0;·
  have hE1:t.toList.isEmpty=true:=by rw [h1] at hE;revert hE;cases t.toList.isEmpty <;> simp
  clear hE;by_cases h2:n=0;·
   have h2':((n:Int)==0)=true:=by simp [h2]
   by_cases h3:q=0;·
    have h3':(q==0)=true:=by simp [h3]
    cases r with
    | true => rw [show zmsg t n q true=false by simp [zmsg]];clear h1 h2 h3;go_enter Tryz.func222,Tryz.ntmps222;go_wp2;go_ret;exact ⟨rfl,below1 _ _⟩;| false => rw [show zmsg t n q false=true by simp [zmsg,h1,h2,h3]];clear h1 h2 h3;go_enter Tryz.func222,Tryz.ntmps222;go_wp2;go_ret;exact ⟨rfl,below1 _ _⟩
   ·
    have h3':(q==0)=false:=by simp [h3]
    rw [show zmsg t n q r=false by simp [zmsg,h3]];clear h1 h2 h3;go_enter Tryz.func222,Tryz.ntmps222;go_wp2;go_ret;exact ⟨rfl,below1 _ _⟩
  ·
   have h2':((n:Int)==0)=false:=by simp [h2]
   rw [show zmsg t n q r=false by simp [zmsg,h2]];clear h1 h2;go_enter Tryz.func222,Tryz.ntmps222;go_wp2;go_ret;exact ⟨rfl,below1 _ _⟩
 ·
  have hE1:t.toList.isEmpty=false:=by revert hE;cases t.toList.isEmpty <;> simp [h1]
  clear hE;rw [show zmsg t n q r=false by simp [zmsg,h1]];clear h1;go_enter Tryz.func222,Tryz.ntmps222;go_wp2;go_ret;exact ⟨rfl,below1 _ _⟩
set_option maxHeartbeats 2000000
theorem boxed (p:Pk) (w:World) (k:Nat) (v:Value) (h:(pkCells p)[k]?=some v):(w.alloc (.cells (pkCells p) 29)).cell? ⟨w.heap.size,k,none⟩=some v:=za2 w _ _ k v h
theorem zbt (p:Pk) (w:World):Calls Tryz.prog 151 #[p.v] w fun e w'=>e = .returned (.bool (hasID p))/\Below w.heap.size w w':=by
 obtain ⟨P,hP⟩:∃ P,P=pkCells p:=⟨_,rfl⟩;have c0:(w.alloc (.cells P 29)).cell? ⟨w.heap.size,0,none⟩=some (.int .i64 p.kind):=by rw [hP];exact boxed p w 0 _ rfl
 have c19:(w.alloc (.cells P 29)).cell? ⟨w.heap.size,19,none⟩=some (.int .i64 p.mQ):=by rw [hP];exact boxed p w 19 _ rfl
 rw [show p.v = .agg P by rw [hP];rfl];clear hP;by_cases k3:p.kind=3;·
  have e3:(p.kind==3)=true:=by simp [k3]
  by_cases hq:p.mQ=0;·
   have hq':(p.mQ != 0)=false:=by simp [hq]
   rw [show hasID p=false by simp [hasID,k3,hq]];clear k3 hq;go_enter Tryz.func151,Tryz.ntmps151;go_wp2;go_ret;exact ⟨rfl,below1 _ _⟩
  ·
   have hq':(p.mQ != 0)=true:=by simp [hq]
   rw [show hasID p=true by simp [hasID,k3,hq]];clear k3 hq;go_enter Tryz.func151,Tryz.ntmps151;go_wp2;go_ret;exact ⟨rfl,below1 _ _⟩
 have e3:(p.kind==3)=false:=by simp [k3]
 by_cases k4:p.kind=4;·
  have e4:(p.kind==4)=true:=by simp [k4]
  rw [show hasID p=true by simp [hasID,k4]];clear k3 k4;go_enter Tryz.func151,Tryz.ntmps151;go_wp2;go_ret;exact ⟨rfl,below1 _ _⟩
 have e4:(p.kind==4)=false:=by simp [k4]
 by_cases k5:p.kind=5;·
  have e5:(p.kind==5)=true:=by simp [k5]
  rw [show hasID p=true by simp [hasID,k5]];clear k3 k4 k5;go_enter Tryz.func151,Tryz.ntmps151;go_wp2;go_ret;exact ⟨rfl,below1 _ _⟩
 have e5:(p.kind==5)=false:=by simp [k5]
 by_cases k6:p.kind=6;·
  have e6:(p.kind==6)=true:=by simp [k6]
  rw [show hasID p=true by simp [hasID,k6]];clear k3 k4 k5 k6;go_enter Tryz.func151,Tryz.ntmps151;go_wp2;go_ret;exact ⟨rfl,below1 _ _⟩
 have e6:(p.kind==6)=false:=by simp [k6]
 by_cases k7:p.kind=7;·
  have e7:(p.kind==7)=true:=by simp [k7]
  rw [show hasID p=true by simp [hasID,k7]];clear k3 k4 k5 k6 k7;go_enter Tryz.func151,Tryz.ntmps151;go_wp2;go_ret;exact ⟨rfl,below1 _ _⟩
 have e7:(p.kind==7)=false:=by simp [k7]
 by_cases k8:p.kind=8;·
  have e8:(p.kind==8)=true:=by simp [k8]
  rw [show hasID p=true by simp [hasID,k8]];clear k3 k4 k5 k6 k7 k8;go_enter Tryz.func151,Tryz.ntmps151;go_wp2;go_ret;exact ⟨rfl,below1 _ _⟩
 have e8:(p.kind==8)=false:=by simp [k8]
 by_cases k9:p.kind=9;·
  have e9:(p.kind==9)=true:=by simp [k9]
  rw [show hasID p=true by simp [hasID,k9]];clear k3 k4 k5 k6 k7 k8 k9;go_enter Tryz.func151,Tryz.ntmps151;go_wp2;go_ret;exact ⟨rfl,below1 _ _⟩
 have e9:(p.kind==9)=false:=by simp [k9]
 by_cases k10:p.kind=10;·
  have e10:(p.kind==10)=true:=by simp [k10]
  rw [show hasID p=true by simp [hasID,k10]];clear k3 k4 k5 k6 k7 k8 k9 k10;go_enter Tryz.func151,Tryz.ntmps151;go_wp2;go_ret;exact ⟨rfl,below1 _ _⟩
 have e10:(p.kind==10)=false:=by simp [k10]
 by_cases k11:p.kind=11;·
  have e11:(p.kind==11)=true:=by simp [k11]
  rw [show hasID p=true by simp [hasID,k11]];clear k3 k4 k5 k6 k7 k8 k9 k10 k11;go_enter Tryz.func151,Tryz.ntmps151;go_wp2;go_ret;exact ⟨rfl,below1 _ _⟩
 have e11:(p.kind==11)=false:=by simp [k11]
 rw [show hasID p=false by simp [hasID,k3];omega];clear k3 k4 k5 k6 k7 k8 k9 k10 k11;go_enter Tryz.func151,Tryz.ntmps151;go_wp2;go_ret;exact ⟨rfl,below1 _ _⟩
def rtps (p:Pk):Bool:=!(decide (p.kind=1) && p.hasWill && (tcode p.wT != 0)) && !(decide (p.kind=3) && (tcode p.mT != 0))
theorem rtopics_any (p:Pk) (w:World):Calls Tryz.prog 148 #[p.v] w fun e w'=>e = .returned (.bool (rtps p))/\Below w.heap.size w w':=by
 obtain ⟨P,hP⟩:∃ P,P=pkCells p:=⟨_,rfl⟩;have c0:(w.alloc (.cells P 29)).cell? ⟨w.heap.size,0,none⟩=some (.int .i64 p.kind):=by rw [hP];exact boxed p w 0 _ rfl
 have c5:(w.alloc (.cells P 29)).cell? ⟨w.heap.size,5,none⟩=some (.bool p.hasWill):=by rw [hP];exact boxed p w 5 _ rfl
 have c6:(w.alloc (.cells P 29)).cell? ⟨w.heap.size,6,none⟩=some (.string p.wT):=by rw [hP];exact boxed p w 6 _ rfl
 have c17:(w.alloc (.cells P 29)).cell? ⟨w.heap.size,17,none⟩=some (.string p.mT):=by rw [hP];exact boxed p w 17 _ rfl
 rw [show p.v = .agg P by rw [hP];rfl];clear hP;by_cases k1:p.kind=1;·
  have e1:(p.kind==1)=true:=by simp [k1]
  have e3:(p.kind==3)=false:=by simp [k1]
  cases hw:p.hasWill with
  | false => rw [hw] at c5;rw [show rtps p=true by simp [rtps,k1,hw]];clear k1;go_enter Tryz.func148,Tryz.ntmps148;go_wp2_with (first | (go_at_call 224;refine (zb7 _ _).mono ?_;rintro e w' ⟨rfl,hee⟩;obtain rfl:=hee.symm;clear hee));go_ret;exact ⟨rfl,below1 _ _⟩;| true =>
   rw [hw] at c5;cases ht:(tcode p.wT != 0) with
   | true => rw [show rtps p=false by simp [rtps,k1,hw,ht]];clear k1;go_enter Tryz.func148,Tryz.ntmps148;go_wp2_with (first | (go_at_call 224;refine (zb7 _ _).mono ?_;rintro e w' ⟨rfl,hee⟩;obtain rfl:=hee.symm;clear hee));go_ret;exact ⟨rfl,below1 _ _⟩;| false => rw [show rtps p=true by simp [rtps,k1,hw,ht]];clear k1;go_enter Tryz.func148,Tryz.ntmps148;go_wp2_with (first | (go_at_call 224;refine (zb7 _ _).mono ?_;rintro e w' ⟨rfl,hee⟩;obtain rfl:=hee.symm;clear hee));go_ret;exact ⟨rfl,below1 _ _⟩
 have e1:(p.kind==1)=false:=by simp [k1]
 by_cases k3:p.kind=3;·
  have e3:(p.kind==3)=true:=by simp [k3]
  cases ht:(tcode p.mT != 0) with
  | true => rw [show rtps p=false by simp [rtps,k1,k3,ht]];clear k1 k3;go_enter Tryz.func148,Tryz.ntmps148;go_wp2_with (first | (go_at_call 224;refine (zb7 _ _).mono ?_;rintro e w' ⟨rfl,hee⟩;obtain rfl:=hee.symm;clear hee));go_ret;exact ⟨rfl,below1 _ _⟩;| false => rw [show rtps p=true by simp [rtps,k1,k3,ht]];clear k1 k3;go_enter Tryz.func148,Tryz.ntmps148;go_wp2_with (first | (go_at_call 224;refine (zb7 _ _).mono ?_;rintro e w' ⟨rfl,hee⟩;obtain rfl:=hee.symm;clear hee));go_ret;exact ⟨rfl,below1 _ _⟩
 ·
  have e3:(p.kind==3)=false:=by simp [k3]
  rw [show rtps p=true by simp [rtps,k1,k3]];clear k1 k3;go_enter Tryz.func148,Tryz.ntmps148;go_wp2_with (first | (go_at_call 224;refine (zb7 _ _).mono ?_;rintro e w' ⟨rfl,hee⟩;obtain rfl:=hee.symm;clear hee));go_ret;exact ⟨rfl,below1 _ _⟩
set_option maxHeartbeats 8000000
def fA (p:Pk):Bool:=!(p.kind==1) && (p.level != 0 || p.clean || p.keep != 0 || !p.client.toList.isEmpty || p.hasWill || p.hasUser || p.hasPass)
def fB (p:Pk):Bool:=(!(p.kind==1 && p.hasWill) && !zmsg p.wT p.wP.n p.wQ p.wR) || (!(p.kind==1 && p.hasUser) && !p.user.toList.isEmpty) || (!(p.kind==1 && p.hasPass) && decide (0<p.pass.n))
def fC (p:Pk):Bool:=p.kind != 2 && (p.present || p.code != 0)
def fD (p:Pk):Bool:=p.kind != 3 && (p.dup || !zmsg p.mT p.mP.n p.mQ p.mR)
def fE (p:Pk):Bool:=(!hasID p && p.id != 0) || (p.kind != 8 && decide (0<p.asks.n)) || (p.kind != 9 && decide (0<p.codes.n)) || (p.kind != 10 && decide (0<p.filters.n))
def forB (p:Pk):Bool:=fA p || fB p || fC p || fD p || fE p
theorem foreign_any (p:Pk) (w:World):Calls Tryz.prog 145 #[p.v] w fun e w'=>e = .returned (.bool (forB p))/\Below w.heap.size w w':=by
 obtain ⟨x,hx⟩:∃ x,x=forB p:=⟨_,rfl⟩;rw [<-hx];have HX:=Hi hx;clear hx;obtain ⟨P,hP⟩:∃ P,P=pkCells p:=⟨_,rfl⟩;rw [show p.v = .agg P by rw [hP];rfl];have HP:=Hi hP;have SP:Hid (P.size=25):=by show _=_;rw [hP];rfl
 clear hP;obtain ⟨W,hW⟩:∃ W,W=w.alloc (.cells P 29):=⟨_,rfl⟩;have b0:=Hi (zat hW);have g0:Hid (W.heap[w.heap.size]?=some (.cells P 29)):=by show _=_;rw [hW];exact heap_alloc_new w _
 have FA:Hid (∀ k v,(pkCells p)[k]?=some v->∀ w',Below W.heap.size W w'->w'.cell? ⟨w.heap.size,k,none⟩=some v):=fun k v h w' hb=>cell_later hb (by rw [hW];exact za2 w P 29 k v (by rw [HP.out];exact h));have BW:Hid (∀ w',Below W.heap.size W w'->Below w.heap.size w w'):=fun w' hb=>b0.out.trans (hb.mono b0.out.size);have R0:Hid (Below W.heap.size W W):=Below.refl _ _;go_enter Tryz.func145,Tryz.ntmps145;go_upto_region 1 with fail;rw [<-hW];clear hW;have c0:=FA.out 0 (.int .i64 p.kind) rfl W R0.out;obtain ⟨b1,h1⟩:∃ b,(p.kind==1)=b:=⟨_,rfl⟩;go_upto_region 2 with fail;clear c0;go_cut [39] from 7 (fun s39 wx=>s39 = .bool (fA p)/\Hid (wx=W));case first =>
  have c1:=FA.out 1 (.int .i64 p.level) rfl W R0.out;have c2:=FA.out 2 (.bool p.clean) rfl W R0.out;have c3:=FA.out 3 (.int .i64 p.keep) rfl W R0.out;have c4:=FA.out 4 (.string p.client) rfl W R0.out;have c5:=FA.out 5 (.bool p.hasWill) rfl W R0.out;have c10:=FA.out 10 (.bool p.hasUser) rfl W R0.out;have c12:=FA.out 12 (.bool p.hasPass) rfl W R0.out;cases b1;case true => go_wp2_with fail;go_meet;case rel=>exact ⟨by simp [fA,h1],rfl⟩
  cases q0:(p.level != 0);case true => go_wp2_with fail;go_meet;case rel=>exact ⟨by simp [fA,h1,q0],rfl⟩
  cases q1:p.clean;case true => rw [q1] at c2;go_wp2_with fail;go_meet;case rel=>exact ⟨by simp [fA,h1,q0,q1],rfl⟩
  rw [q1] at c2;cases q2:(p.keep != 0);case true => go_wp2_with fail;go_meet;case rel=>exact ⟨by simp [fA,h1,q0,q1,q2],rfl⟩
  cases q3:p.client.toList.isEmpty;case false => go_wp2_with fail;go_meet;case rel=>exact ⟨by simp [fA,h1,q0,q1,q2,q3],rfl⟩
  cases q4:p.hasWill;case true => rw [q4] at c5;go_wp2_with fail;go_meet;case rel=>exact ⟨by simp [fA,h1,q0,q1,q2,q3,q4],rfl⟩
  rw [q4] at c5;cases q5:p.hasUser;case true => rw [q5] at c10;go_wp2_with fail;go_meet;case rel=>exact ⟨by simp [fA,h1,q0,q1,q2,q3,q4,q5],rfl⟩
  rw [q5] at c10;cases q6:p.hasPass;case true => rw [q6] at c12;go_wp2_with fail;go_meet;case rel=>exact ⟨by simp [fA,h1,q0,q1,q2,q3,q4,q5,q6],rfl⟩
  rw [q6] at c12;go_wp2_with fail;go_meet;case rel=>exact ⟨by simp [fA,h1,q0,q1,q2,q3,q4,q5,q6],rfl⟩
 case rest =>
 obtain ⟨rfl,hw1⟩:=hcut;obtain rfl:=hw1.out.symm;clear hw1;cases tfA:fA p;case true => go_wp2;go_ret;exact ⟨by rw [HX.out,forB,tfA];rfl,BW.out _ R0.out⟩
 have HfA:=Hi tfA;clear tfA;go_upto_region 4 with fail;go_cut [78] from 40 (fun s78 wx=>s78 = .bool (fB p)/\Hid (Below W.heap.size W wx));case first =>
  have c5:=FA.out 5 (.bool p.hasWill) rfl W R0.out;have c6:=FA.out 6 (.string p.wT) rfl W R0.out;have c7:=FA.out 7 (.slice p.wP.a p.wP.n p.wP.c) rfl W R0.out;have c8:=FA.out 8 (.int .i64 p.wQ) rfl W R0.out;have c9:=FA.out 9 (.bool p.wR) rfl W R0.out;have c10:=FA.out 10 (.bool p.hasUser) rfl W R0.out;have c11:=FA.out 11 (.string p.user) rfl W R0.out;have c12:=FA.out 12 (.bool p.hasPass) rfl W R0.out;have c13:=FA.out 13 (.slice p.pass.a p.pass.n p.pass.c) rfl W R0.out;cases b1;case false =>
   cases hz:zmsg p.wT p.wP.n p.wQ p.wR;case false => go_wp2_with (go_at_call 222;refine (zaC _ _ _ _ _ _ _).mono ?_;rintro e w1 ⟨rfl,hb⟩;have B1:Hid (Below W.heap.size W w1):=hb;have d10:=FA.out 10 (.bool p.hasUser) rfl w1 hb;have d11:=FA.out 11 (.string p.user) rfl w1 hb;have d12:=FA.out 12 (.bool p.hasPass) rfl w1 hb;have d13:=FA.out 13 (.slice p.pass.a p.pass.n p.pass.c) rfl w1 hb;clear hb;rw [hz]);go_meet;case rel=>exact ⟨by simp [fB,h1,hz],B1⟩
   cases he:p.user.toList.isEmpty;case false => go_wp2_with (go_at_call 222;refine (zaC _ _ _ _ _ _ _).mono ?_;rintro e w1 ⟨rfl,hb⟩;have B1:Hid (Below W.heap.size W w1):=hb;have d10:=FA.out 10 (.bool p.hasUser) rfl w1 hb;have d11:=FA.out 11 (.string p.user) rfl w1 hb;have d12:=FA.out 12 (.bool p.hasPass) rfl w1 hb;have d13:=FA.out 13 (.slice p.pass.a p.pass.n p.pass.c) rfl w1 hb;clear hb;rw [hz]);go_meet;case rel=>exact ⟨by simp [fB,h1,hz,he],B1⟩
   by_cases hn:0<p.pass.n
   · have hn':(0:Int)<p.pass.n:=by omega
     go_wp2_with (go_at_call 222;refine (zaC _ _ _ _ _ _ _).mono ?_;rintro e w1 ⟨rfl,hb⟩;have B1:Hid (Below W.heap.size W w1):=hb;have d10:=FA.out 10 (.bool p.hasUser) rfl w1 hb;have d11:=FA.out 11 (.string p.user) rfl w1 hb;have d12:=FA.out 12 (.bool p.hasPass) rfl w1 hb;have d13:=FA.out 13 (.slice p.pass.a p.pass.n p.pass.c) rfl w1 hb;clear hb;rw [hz]);go_meet;case rel=>exact ⟨by simp [fB,h1,hz,he,hn],B1⟩
   · have hn':¬ (0:Int)<p.pass.n:=by omega
     go_wp2_with (go_at_call 222;refine (zaC _ _ _ _ _ _ _).mono ?_;rintro e w1 ⟨rfl,hb⟩;have B1:Hid (Below W.heap.size W w1):=hb;have d10:=FA.out 10 (.bool p.hasUser) rfl w1 hb;have d11:=FA.out 11 (.string p.user) rfl w1 hb;have d12:=FA.out 12 (.bool p.hasPass) rfl w1 hb;have d13:=FA.out 13 (.slice p.pass.a p.pass.n p.pass.c) rfl w1 hb;clear hb;rw [hz]);go_meet;case rel=>exact ⟨by simp [fB,h1,hz,he,hn],B1⟩
  cases hw:p.hasWill;case true =>
   rw [hw] at c5;cases hu:p.hasUser;case true =>
    rw [hu] at c10;cases hp:p.hasPass;case true => rw [hp] at c12;go_wp2_with fail;go_meet;case rel=>exact ⟨by simp [fB,h1,hw,hu,hp],R0⟩
    rw [hp] at c12;by_cases hn:0<p.pass.n
    · have hn':(0:Int)<p.pass.n:=by omega
      go_wp2_with fail;go_meet;case rel=>exact ⟨by simp [fB,h1,hw,hu,hp,hn],R0⟩
    · have hn':¬ (0:Int)<p.pass.n:=by omega
      go_wp2_with fail;go_meet;case rel=>exact ⟨by simp [fB,h1,hw,hu,hp,hn],R0⟩
   rw [hu] at c10;cases he:p.user.toList.isEmpty;case false => go_wp2_with fail;go_meet;case rel=>exact ⟨by simp [fB,h1,hw,hu,he],R0⟩
   cases hp:p.hasPass;case true => rw [hp] at c12;go_wp2_with fail;go_meet;case rel=>exact ⟨by simp [fB,h1,hw,hu,he,hp],R0⟩
   rw [hp] at c12;by_cases hn:0<p.pass.n
   · have hn':(0:Int)<p.pass.n:=by omega
     go_wp2_with fail;go_meet;case rel=>exact ⟨by simp [fB,h1,hw,hu,he,hp,hn],R0⟩
   · have hn':¬ (0:Int)<p.pass.n:=by omega
     go_wp2_with fail;go_meet;case rel=>exact ⟨by simp [fB,h1,hw,hu,he,hp,hn],R0⟩
  rw [hw] at c5;cases hz:zmsg p.wT p.wP.n p.wQ p.wR;case false => go_wp2_with (go_at_call 222;refine (zaC _ _ _ _ _ _ _).mono ?_;rintro e w1 ⟨rfl,hb⟩;have B1:Hid (Below W.heap.size W w1):=hb;have d10:=FA.out 10 (.bool p.hasUser) rfl w1 hb;have d11:=FA.out 11 (.string p.user) rfl w1 hb;have d12:=FA.out 12 (.bool p.hasPass) rfl w1 hb;have d13:=FA.out 13 (.slice p.pass.a p.pass.n p.pass.c) rfl w1 hb;clear hb;rw [hz]);go_meet;case rel=>exact ⟨by simp [fB,h1,hw,hz],B1⟩
  cases hu:p.hasUser;case true =>
   rw [hu] at c10;cases hp:p.hasPass;case true => rw [hp] at c12;go_wp2_with (go_at_call 222;refine (zaC _ _ _ _ _ _ _).mono ?_;rintro e w1 ⟨rfl,hb⟩;have B1:Hid (Below W.heap.size W w1):=hb;have d10:=FA.out 10 (.bool p.hasUser) rfl w1 hb;have d11:=FA.out 11 (.string p.user) rfl w1 hb;have d12:=FA.out 12 (.bool p.hasPass) rfl w1 hb;have d13:=FA.out 13 (.slice p.pass.a p.pass.n p.pass.c) rfl w1 hb;clear hb;rw [hz];rw [hu] at d10;rw [hp] at d12);go_meet;case rel=>exact ⟨by simp [fB,h1,hw,hz,hu,hp],B1⟩
   rw [hp] at c12;by_cases hn:0<p.pass.n
   · have hn':(0:Int)<p.pass.n:=by omega
     go_wp2_with (go_at_call 222;refine (zaC _ _ _ _ _ _ _).mono ?_;rintro e w1 ⟨rfl,hb⟩;have B1:Hid (Below W.heap.size W w1):=hb;have d10:=FA.out 10 (.bool p.hasUser) rfl w1 hb;have d11:=FA.out 11 (.string p.user) rfl w1 hb;have d12:=FA.out 12 (.bool p.hasPass) rfl w1 hb;have d13:=FA.out 13 (.slice p.pass.a p.pass.n p.pass.c) rfl w1 hb;clear hb;rw [hz];rw [hu] at d10;rw [hp] at d12);go_meet;case rel=>exact ⟨by simp [fB,h1,hw,hz,hu,hp,hn],B1⟩
   · have hn':¬ (0:Int)<p.pass.n:=by omega
     go_wp2_with (go_at_call 222;refine (zaC _ _ _ _ _ _ _).mono ?_;rintro e w1 ⟨rfl,hb⟩;have B1:Hid (Below W.heap.size W w1):=hb;have d10:=FA.out 10 (.bool p.hasUser) rfl w1 hb;have d11:=FA.out 11 (.string p.user) rfl w1 hb;have d12:=FA.out 12 (.bool p.hasPass) rfl w1 hb;have d13:=FA.out 13 (.slice p.pass.a p.pass.n p.pass.c) rfl w1 hb;clear hb;rw [hz];rw [hu] at d10;rw [hp] at d12);go_meet;case rel=>exact ⟨by simp [fB,h1,hw,hz,hu,hp,hn],B1⟩
  rw [hu] at c10;cases he:p.user.toList.isEmpty;case false => go_wp2_with (go_at_call 222;refine (zaC _ _ _ _ _ _ _).mono ?_;rintro e w1 ⟨rfl,hb⟩;have B1:Hid (Below W.heap.size W w1):=hb;have d10:=FA.out 10 (.bool p.hasUser) rfl w1 hb;have d11:=FA.out 11 (.string p.user) rfl w1 hb;have d12:=FA.out 12 (.bool p.hasPass) rfl w1 hb;have d13:=FA.out 13 (.slice p.pass.a p.pass.n p.pass.c) rfl w1 hb;clear hb;rw [hz];rw [hu] at d10);go_meet;case rel=>exact ⟨by simp [fB,h1,hw,hz,hu,he],B1⟩
  cases hp:p.hasPass;case true => rw [hp] at c12;go_wp2_with (go_at_call 222;refine (zaC _ _ _ _ _ _ _).mono ?_;rintro e w1 ⟨rfl,hb⟩;have B1:Hid (Below W.heap.size W w1):=hb;have d10:=FA.out 10 (.bool p.hasUser) rfl w1 hb;have d11:=FA.out 11 (.string p.user) rfl w1 hb;have d12:=FA.out 12 (.bool p.hasPass) rfl w1 hb;have d13:=FA.out 13 (.slice p.pass.a p.pass.n p.pass.c) rfl w1 hb;clear hb;rw [hz];rw [hu] at d10;rw [hp] at d12);go_meet;case rel=>exact ⟨by simp [fB,h1,hw,hz,hu,he,hp],B1⟩
  rw [hp] at c12;by_cases hn:0<p.pass.n;·
   have hn':(0:Int)<p.pass.n:=by omega
   go_wp2_with (go_at_call 222;refine (zaC _ _ _ _ _ _ _).mono ?_;rintro e w1 ⟨rfl,hb⟩;have B1:Hid (Below W.heap.size W w1):=hb;have d10:=FA.out 10 (.bool p.hasUser) rfl w1 hb;have d11:=FA.out 11 (.string p.user) rfl w1 hb;have d12:=FA.out 12 (.bool p.hasPass) rfl w1 hb;have d13:=FA.out 13 (.slice p.pass.a p.pass.n p.pass.c) rfl w1 hb;clear hb;rw [hz];rw [hu] at d10;rw [hp] at d12);go_meet;case rel=>exact ⟨by simp [fB,h1,hw,hz,hu,he,hp,hn],B1⟩
  ·
   have hn':¬ (0:Int)<p.pass.n:=by omega
   go_wp2_with (go_at_call 222;refine (zaC _ _ _ _ _ _ _).mono ?_;rintro e w1 ⟨rfl,hb⟩;have B1:Hid (Below W.heap.size W w1):=hb;have d10:=FA.out 10 (.bool p.hasUser) rfl w1 hb;have d11:=FA.out 11 (.string p.user) rfl w1 hb;have d12:=FA.out 12 (.bool p.hasPass) rfl w1 hb;have d13:=FA.out 13 (.slice p.pass.a p.pass.n p.pass.c) rfl w1 hb;clear hb;rw [hz];rw [hu] at d10;rw [hp] at d12);go_meet;case rel=>exact ⟨by simp [fB,h1,hw,hz,hu,he,hp,hn],B1⟩
 case rest =>
 obtain ⟨rfl,R1⟩:=hcut;cases tfB:fB p;case true => go_wp2;go_ret;exact ⟨by rw [HX.out,forB,HfA.out,tfB];rfl,BW.out _ R1.out⟩
 have HfB:=Hi tfB;clear tfB;obtain ⟨W2,hW2⟩:∃ W2,W2=wc:=⟨_,rfl⟩;subst hW2;obtain ⟨b2,h2⟩:∃ b,(p.kind != 2)=b:=⟨_,rfl⟩;go_upto_region 6 with fail;go_cut [90] from 79 (fun s90 wx=>s90 = .bool (fC p)/\Hid (wx=W2));case first =>
  have c0:=FA.out 0 (.int .i64 p.kind) rfl W2 R1.out;have c14:=FA.out 14 (.bool p.present) rfl W2 R1.out;have c15:=FA.out 15 (.int .i64 p.code) rfl W2 R1.out;cases b2;case false => go_wp2_with fail;go_meet;case rel=>exact ⟨by simp [fC,h2],rfl⟩
  cases hp:p.present;case true => rw [hp] at c14;go_wp2_with fail;go_meet;case rel=>exact ⟨by simp [fC,h2,hp],rfl⟩
  rw [hp] at c14;cases hc:(p.code != 0);case true => go_wp2_with fail;go_meet;case rel=>exact ⟨by simp [fC,h2,hp,hc],rfl⟩
  go_wp2_with fail;go_meet;case rel=>exact ⟨by simp [fC,h2,hp,hc],rfl⟩
 case rest =>
 obtain ⟨rfl,hw1⟩:=hcut;obtain rfl:=hw1.out.symm;clear hw1 h2;cases tfC:fC p;case true => go_wp2;go_ret;exact ⟨by rw [HX.out,forB,HfA.out,HfB.out,tfC];rfl,BW.out _ R1.out⟩
 have HfC:=Hi tfC;clear tfC;obtain ⟨b3,h3⟩:∃ b,(p.kind != 3)=b:=⟨_,rfl⟩;go_upto_region 8 with fail;go_cut [103] from 91 (fun s103 wx=>s103 = .bool (fD p)/\Hid (Below W.heap.size W wx));case first =>
  have c0:=FA.out 0 (.int .i64 p.kind) rfl W2 R1.out;have c16:=FA.out 16 (.bool p.dup) rfl W2 R1.out;have c17:=FA.out 17 (.string p.mT) rfl W2 R1.out;have c18:=FA.out 18 (.slice p.mP.a p.mP.n p.mP.c) rfl W2 R1.out;have c19:=FA.out 19 (.int .i64 p.mQ) rfl W2 R1.out;have c20:=FA.out 20 (.bool p.mR) rfl W2 R1.out;cases b3;case false => go_wp2_with fail;go_meet;case rel=>exact ⟨by simp [fD,h3],R1⟩
  cases hd:p.dup;case true => rw [hd] at c16;go_wp2_with fail;go_meet;case rel=>exact ⟨by simp [fD,h3,hd],R1⟩
  rw [hd] at c16;cases hz:zmsg p.mT p.mP.n p.mQ p.mR;case false => go_wp2_with (go_at_call 222;refine (zaC _ _ _ _ _ _ _).mono ?_;rintro e w1 ⟨rfl,hb⟩;have B1:Hid (Below W.heap.size W w1):=R1.out.trans (hb.mono R1.out.size);clear hb;rw [hz]);go_meet;case rel=>exact ⟨by simp [fD,h3,hd,hz],B1⟩
  go_wp2_with (go_at_call 222;refine (zaC _ _ _ _ _ _ _).mono ?_;rintro e w1 ⟨rfl,hb⟩;have B1:Hid (Below W.heap.size W w1):=R1.out.trans (hb.mono R1.out.size);clear hb;rw [hz]);go_meet;case rel=>exact ⟨by simp [fD,h3,hd,hz],B1⟩
 case rest =>
 obtain ⟨rfl,R2⟩:=hcut;clear h3;obtain ⟨W3,hW3⟩:∃ W3,W3=wc:=⟨_,rfl⟩;subst hW3;cases tfD:fD p;case true => go_wp2;go_ret;exact ⟨by rw [HX.out,forB,HfA.out,HfB.out,HfC.out,tfD];rfl,BW.out _ R2.out⟩
 have HfD:=Hi tfD;clear tfD;have g3:Hid (W3.heap[w.heap.size]?=some (.cells P 29)):=(R2.out.block _ (zb2 g0.out)).trans g0.out;have HE:Hid (x=fE p):=by show _=_;rw [HX.out,forB,HfA.out,HfB.out,HfC.out,HfD.out];simp
 obtain ⟨bi,hi⟩:∃ b,hasID p=b:=⟨_,rfl⟩;have HI:=Hi hi;go_wp2_with (first | (refine za0 rfl _ rfl w.heap.size rfl P (0,0) g3.out SP.out ?_) | fail);go_must (go_at_call 151);refine (show Calls Tryz.prog 151 #[.agg P] W3 fun e w'=>e = .returned (.bool bi)/\Below W3.heap.size W3 w' from by rw [HP.out,<-HI.out];exact zbt p W3).mono ?_;rintro e w4 ⟨rfl,hb⟩;have R4:=Hi (R2.out.trans (hb.mono R2.out.size));clear hb g3;have c0:=FA.out 0 (.int .i64 p.kind) rfl w4 R4.out;have c21:=FA.out 21 (.int .i64 p.id) rfl w4 R4.out;have c22:=FA.out 22 (.slice p.asks.a p.asks.n p.asks.c) rfl w4 R4.out;have c23:=FA.out 23 (.slice p.codes.a p.codes.n p.codes.c) rfl w4 R4.out;have c24:=FA.out 24 (.slice p.filters.a p.filters.n p.filters.c) rfl w4 R4.out;cases bi;case false =>
  cases hj:(p.id != 0);case true => go_wp2;go_ret;exact ⟨by rw [HE.out];simp [fE,hi,hj],BW.out _ R4.out⟩
  cases e8:(p.kind != 8);case true =>
   by_cases n8:0<p.asks.n
   · have n8':(0:Int)<p.asks.n:=by omega
     go_wp2;go_ret;exact ⟨by rw [HE.out];simp [fE,hi,hj,e8,n8],BW.out _ R4.out⟩
   have n8':¬ (0:Int)<p.asks.n:=by omega
   cases e9:(p.kind != 9);case true =>
    by_cases n9:0<p.codes.n
    · have n9':(0:Int)<p.codes.n:=by omega
      go_wp2;go_ret;exact ⟨by rw [HE.out];simp [fE,hi,hj,e8,n8,e9,n9],BW.out _ R4.out⟩
    have n9':¬ (0:Int)<p.codes.n:=by omega
    cases e10:(p.kind != 10);case true =>
     by_cases n10:0<p.filters.n
     · have n10':(0:Int)<p.filters.n:=by omega
       go_wp2;go_ret;exact ⟨by rw [HE.out];simp [fE,hi,hj,e8,n8,e9,n9,e10,n10],BW.out _ R4.out⟩
     have n10':¬ (0:Int)<p.filters.n:=by omega
     go_wp2;go_ret;exact ⟨by rw [HE.out];simp [fE,hi,hj,e8,n8,e9,n9,e10,n10],BW.out _ R4.out⟩
    case false => go_wp2;go_ret;exact ⟨by rw [HE.out];simp [fE,hi,hj,e8,n8,e9,n9,e10],BW.out _ R4.out⟩
   case false =>
    cases e10:(p.kind != 10);case true =>
     by_cases n10:0<p.filters.n
     · have n10':(0:Int)<p.filters.n:=by omega
       go_wp2;go_ret;exact ⟨by rw [HE.out];simp [fE,hi,hj,e8,n8,e9,e10,n10],BW.out _ R4.out⟩
     have n10':¬ (0:Int)<p.filters.n:=by omega
     go_wp2;go_ret;exact ⟨by rw [HE.out];simp [fE,hi,hj,e8,n8,e9,e10,n10],BW.out _ R4.out⟩
    case false => go_wp2;go_ret;exact ⟨by rw [HE.out];simp [fE,hi,hj,e8,n8,e9,e10],BW.out _ R4.out⟩
  case false =>
   cases e9:(p.kind != 9);case true =>
    by_cases n9:0<p.codes.n
    · have n9':(0:Int)<p.codes.n:=by omega
      go_wp2;go_ret;exact ⟨by rw [HE.out];simp [fE,hi,hj,e8,e9,n9],BW.out _ R4.out⟩
    have n9':¬ (0:Int)<p.codes.n:=by omega
    cases e10:(p.kind != 10);case true =>
     by_cases n10:0<p.filters.n
     · have n10':(0:Int)<p.filters.n:=by omega
       go_wp2;go_ret;exact ⟨by rw [HE.out];simp [fE,hi,hj,e8,e9,n9,e10,n10],BW.out _ R4.out⟩
     have n10':¬ (0:Int)<p.filters.n:=by omega
     go_wp2;go_ret;exact ⟨by rw [HE.out];simp [fE,hi,hj,e8,e9,n9,e10,n10],BW.out _ R4.out⟩
    case false => go_wp2;go_ret;exact ⟨by rw [HE.out];simp [fE,hi,hj,e8,e9,n9,e10],BW.out _ R4.out⟩
   case false =>
    cases e10:(p.kind != 10);case true =>
     by_cases n10:0<p.filters.n
     · have n10':(0:Int)<p.filters.n:=by omega
       go_wp2;go_ret;exact ⟨by rw [HE.out];simp [fE,hi,hj,e8,e9,e10,n10],BW.out _ R4.out⟩
     have n10':¬ (0:Int)<p.filters.n:=by omega
     go_wp2;go_ret;exact ⟨by rw [HE.out];simp [fE,hi,hj,e8,e9,e10,n10],BW.out _ R4.out⟩
    case false => go_wp2;go_ret;exact ⟨by rw [HE.out];simp [fE,hi,hj,e8,e9,e10],BW.out _ R4.out⟩
 cases e8:(p.kind != 8);case true =>
  by_cases n8:0<p.asks.n;·
   have n8':(0:Int)<p.asks.n:=by omega
   go_wp2;go_ret;exact ⟨by rw [HE.out];simp [fE,hi,e8,n8],BW.out _ R4.out⟩
  have n8':¬ (0:Int)<p.asks.n:=by omega
  cases e9:(p.kind != 9);case true =>
   by_cases n9:0<p.codes.n
   · have n9':(0:Int)<p.codes.n:=by omega
     go_wp2;go_ret;exact ⟨by rw [HE.out];simp [fE,hi,e8,n8,e9,n9],BW.out _ R4.out⟩
   have n9':¬ (0:Int)<p.codes.n:=by omega
   cases e10:(p.kind != 10);case true =>
    by_cases n10:0<p.filters.n
    · have n10':(0:Int)<p.filters.n:=by omega
      go_wp2;go_ret;exact ⟨by rw [HE.out];simp [fE,hi,e8,n8,e9,n9,e10,n10],BW.out _ R4.out⟩
    have n10':¬ (0:Int)<p.filters.n:=by omega
    go_wp2;go_ret;exact ⟨by rw [HE.out];simp [fE,hi,e8,n8,e9,n9,e10,n10],BW.out _ R4.out⟩
   case false => go_wp2;go_ret;exact ⟨by rw [HE.out];simp [fE,hi,e8,n8,e9,n9,e10],BW.out _ R4.out⟩
  case false =>
   cases e10:(p.kind != 10);case true =>
    by_cases n10:0<p.filters.n
    · have n10':(0:Int)<p.filters.n:=by omega
      go_wp2;go_ret;exact ⟨by rw [HE.out];simp [fE,hi,e8,n8,e9,e10,n10],BW.out _ R4.out⟩
    have n10':¬ (0:Int)<p.filters.n:=by omega
    go_wp2;go_ret;exact ⟨by rw [HE.out];simp [fE,hi,e8,n8,e9,e10,n10],BW.out _ R4.out⟩
   case false => go_wp2;go_ret;exact ⟨by rw [HE.out];simp [fE,hi,e8,n8,e9,e10],BW.out _ R4.out⟩
 case false =>
  cases e9:(p.kind != 9);case true =>
   by_cases n9:0<p.codes.n
   · have n9':(0:Int)<p.codes.n:=by omega
     go_wp2;go_ret;exact ⟨by rw [HE.out];simp [fE,hi,e8,e9,n9],BW.out _ R4.out⟩
   have n9':¬ (0:Int)<p.codes.n:=by omega
   cases e10:(p.kind != 10);case true =>
    by_cases n10:0<p.filters.n
    · have n10':(0:Int)<p.filters.n:=by omega
      go_wp2;go_ret;exact ⟨by rw [HE.out];simp [fE,hi,e8,e9,n9,e10,n10],BW.out _ R4.out⟩
    have n10':¬ (0:Int)<p.filters.n:=by omega
    go_wp2;go_ret;exact ⟨by rw [HE.out];simp [fE,hi,e8,e9,n9,e10,n10],BW.out _ R4.out⟩
   case false => go_wp2;go_ret;exact ⟨by rw [HE.out];simp [fE,hi,e8,e9,n9,e10],BW.out _ R4.out⟩
  case false =>
   cases e10:(p.kind != 10);case true =>
    by_cases n10:0<p.filters.n
    · have n10':(0:Int)<p.filters.n:=by omega
      go_wp2;go_ret;exact ⟨by rw [HE.out];simp [fE,hi,e8,e9,e10,n10],BW.out _ R4.out⟩
    have n10':¬ (0:Int)<p.filters.n:=by omega
    go_wp2;go_ret;exact ⟨by rw [HE.out];simp [fE,hi,e8,e9,e10,n10],BW.out _ R4.out⟩
   case false => go_wp2;go_ret;exact ⟨by rw [HE.out];simp [fE,hi,e8,e9,e10],BW.out _ R4.out⟩
theorem zd0 (t:ByteArray):t.toList.isEmpty=decide (t.size=0):=by
 have h:=zaY t;by_cases h0:t.size=0;· rw [h0] at h;rw [decide_eq_true h0];revert h;cases t.toList.isEmpty <;> simp
 · rw [decide_eq_false h0];revert h;cases t.toList.isEmpty <;> simp [h0]
theorem zcx (t:ByteArray) (n:Nat) (q:Int) (r:Bool):zmsg t n q r=true↔t.size=0/\q=0/\r=false/\n=0:=by
 simp only [zmsg,Bool.and_eq_true,decide_eq_true_eq,Bool.not_eq_true'];constructor;· rintro ⟨⟨⟨a,b⟩,c⟩,d⟩;exact ⟨a,c,d,b⟩
 · rintro ⟨a,c,d,b⟩;exact ⟨⟨⟨a,b⟩,c⟩,d⟩
theorem zes (p:Pk):forB p=false↔Own p:=by
 have hA:fA p=false↔(p.kind≠1->p.level=0/\p.clean=false/\p.keep=0/\p.client.size=0/\p.hasWill=false/\p.hasUser=false/\p.hasPass=false):=by
  unfold fA;rw [zd0];by_cases h:p.kind=1;· simp [h]
  ·
   simp [h];constructor;· rintro ⟨⟨⟨⟨⟨⟨a,b⟩,c⟩,d⟩,e⟩,f⟩,g⟩;exact ⟨a,b,c,d,e,f,g⟩
   · rintro ⟨a,b,c,d,e,f,g⟩;exact ⟨⟨⟨⟨⟨⟨a,b⟩,c⟩,d⟩,e⟩,f⟩,g⟩
 have hB:fB p=false↔((¬ (p.kind=1/\p.hasWill=true)->zmsg p.wT p.wP.n p.wQ p.wR=true)/\(¬ (p.kind=1/\p.hasUser=true)->p.user.size=0)/\(¬ (p.kind=1/\p.hasPass=true)->p.pass.n=0)):=by unfold fB;rw [zd0];cases zmsg p.wT p.wP.n p.wQ p.wR <;> cases p.hasWill <;> cases p.hasUser <;> cases p.hasPass <;> by_cases h:p.kind=1 <;> by_cases hu:p.user.size=0 <;> by_cases hp:p.pass.n=0 <;> simp [h,hu,hp] <;> omega
 have hC:fC p=false↔(p.kind≠2->p.present=false/\p.code=0):=by
  unfold fC;by_cases h:p.kind=2;· simp [h]
  · simp [h]
 have hD:fD p=false↔(p.kind≠3->p.dup=false/\zmsg p.mT p.mP.n p.mQ p.mR=true):=by
  unfold fD;by_cases h:p.kind=3;· simp [h]
  · simp [h]
 have hE:fE p=false↔((hasID p=false->p.id=0)/\(p.kind≠8->p.asks.n=0)/\(p.kind≠9->p.codes.n=0)/\(p.kind≠10->p.filters.n=0)):=by unfold fE;cases hasID p <;> by_cases h8:p.kind=8 <;> by_cases h9:p.kind=9 <;> by_cases h10:p.kind=10 <;> by_cases a:p.id=0 <;> by_cases b:p.asks.n=0 <;> by_cases c:p.codes.n=0 <;> by_cases d:p.filters.n=0 <;> simp [h8,h9,h10,a,b,c,d] <;> omega
 have e:forB p=false↔(fA p=false/\fB p=false/\fC p=false/\fD p=false/\fE p=false):=by
  unfold forB;simp only [Bool.or_eq_false_iff];constructor;· rintro ⟨⟨⟨⟨a,b⟩,c⟩,d⟩,e⟩;exact ⟨a,b,c,d,e⟩
  · rintro ⟨a,b,c,d,e⟩;exact ⟨⟨⟨⟨a,b⟩,c⟩,d⟩,e⟩
 rw [e,hA,hB,hC,hD,hE];constructor
 · rintro ⟨a,⟨b1,b2,b3⟩,c,d,e1,e2,e3,e4⟩
   exact { level:=fun h=>(a h).1,clean:=fun h=>(a h).2.1,keep:=fun h=>(a h).2.2.1,client:=fun h=>(a h).2.2.2.1,hasWill:=fun h=>(a h).2.2.2.2.1,will:=fun h=>(zcx _ _ _ _).1 (b1 h),hasUser:=fun h=>(a h).2.2.2.2.2.1,user:=b2,hasPass:=fun h=>(a h).2.2.2.2.2.2,pass:=b3,present:=fun h=>(c h).1,code:=fun h=>(c h).2,dup:=fun h=>(d h).1,msg:=fun h=>(zcx _ _ _ _).1 (d h).2,id:=e1,asks:=e2,codes:=e3,filters:=e4 }
 · intro h
   exact ⟨fun k=>⟨h.level k,h.clean k,h.keep k,h.client k,h.hasWill k,h.hasUser k,h.hasPass k⟩,⟨fun k=>(zcx _ _ _ _).2 (h.will k),h.user,h.pass⟩,fun k=>⟨h.present k,h.code k⟩,fun k=>⟨h.dup k,(zcx _ _ _ _).2 (h.msg k)⟩,h.id,h.asks,h.codes,h.filters⟩
theorem bad1_for (p:Pk) (h1:1<=p.kind) (h2:p.kind<=14):bad1 p=(forB p || !bnd p):=by
 unfold bad1;congr 1;have h:=own_is p h1 h2;have g:=zes p;cases hf:forB p;· have:=h.2 (g.1 hf);simp [this]
 ·
  have:¬ gv p &&& (18446744073709551615-fl p)=0:=fun hh=>by have:=g.2 (h.1 hh);rw [hf] at this;cases this
  simpa using this
set_option maxHeartbeats 4000000
theorem zam (k m:Int) (w:World):Calls Tryz.prog 146 #[.int .i64 k,.int .i64 m] w fun e w'=>e = .returned (.bool (decide (0<=k) && decide (k<=m)))/\w'=w:=by
 by_cases h1:0<=k;·
  by_cases h2:k<=m;·
   have e:(decide (0<=k) && decide (k<=m))=true:=by simp [h1,h2]
   rw [e];clear e;go_enter Tryz.func146,Tryz.ntmps146;go_wp2;go_ret;exact ⟨rfl,rfl⟩
  ·
   have e:(decide (0<=k) && decide (k<=m))=false:=by simp [h1,h2]
   rw [e];clear e;go_enter Tryz.func146,Tryz.ntmps146;go_wp2;go_ret;exact ⟨rfl,rfl⟩
 ·
  have e:(decide (0<=k) && decide (k<=m))=false:=by simp [h1]
  rw [e];clear e;go_enter Tryz.func146,Tryz.ntmps146;go_wp2;go_ret;exact ⟨rfl,rfl⟩
def qA (p:Pk):Bool:=(p.kind==1 && p.hasWill && !isQ p.wQ) || (p.kind==3 && !isQ p.mQ)
def rqls (p:Pk) (c:Cn):Bool:=!qA p && allN p.asks.n (fun i=>isQ (c.aq i)) && allN p.codes.n (fun i=>isC (c.cs i))
theorem zaF (q:Int) (w:World):Calls Tryz.prog 146 #[.int .i64 q,.int .i64 2] w fun e w'=>e = .returned (.bool (isQ q))/\w'=w:=zam q 2 w
theorem rqualities_any (p:Pk) (c:Cn) (w:World) (hin:In w p c) (ha:p.asks.n<=1000000) (hd:p.codes.n<=1000000):Calls Tryz.prog 150 #[p.v] w fun e w'=>e = .returned (.bool (rqls p c))/\Below w.heap.size w w':=by
 obtain ⟨x,hx⟩:∃ x,x=rqls p c:=⟨_,rfl⟩;rw [<-hx];have HX:=Hi hx;clear hx;obtain ⟨P,hP⟩:∃ P,P=pkCells p:=⟨_,rfl⟩;obtain ⟨W,hW⟩:∃ W,W=w.alloc (.cells P 29):=⟨_,rfl⟩;have b0:=Hi (zat hW);have FA:Hid (∀ k v,(pkCells p)[k]?=some v->W.cell? ⟨w.heap.size,k,none⟩=some v):=fun k v h=>by rw [hW];exact za2 w P 29 k v (by rw [hP];exact h)
 rw [show p.v = .agg P by rw [hP];rfl];clear hP;have HA:=Hi (hin.asks.below b0.out);have HS:=Hi (hin.codes.below b0.out);have LA:=Hi ha;have LC:=Hi hd;clear hin ha hd;obtain ⟨b1,h1⟩:∃ b,(p.kind==1)=b:=⟨_,rfl⟩;obtain ⟨b3,h3⟩:∃ b,(p.kind==3)=b:=⟨_,rfl⟩;go_enter Tryz.func150,Tryz.ntmps150;go_upto_region 1 with fail;rw [<-hW];clear hW;go_cut [30] from 5 (fun s30 wx=>s30 = .bool (qA p)/\Hid (wx=W));case first =>
  have c0:=FA.out 0 (.int .i64 p.kind) rfl;have c5:=FA.out 5 (.bool p.hasWill) rfl;have c8:=FA.out 8 (.int .i64 p.wQ) rfl;have c19:=FA.out 19 (.int .i64 p.mQ) rfl;cases b1;case false =>
   cases b3;case false => go_wp2_with fail;go_meet;case rel=>exact ⟨by simp [qA,h1,h3],rfl⟩
   cases hmq:isQ p.mQ;case false => go_wp2_with (go_at_call 146;refine (zaF p.mQ _).mono ?_;rintro e w' ⟨rfl,hee⟩;obtain rfl:=hee.symm;clear hee;rw [hmq]);go_meet;case rel=>exact ⟨by simp [qA,h1,h3,hmq],rfl⟩
   go_wp2_with (go_at_call 146;refine (zaF p.mQ _).mono ?_;rintro e w' ⟨rfl,hee⟩;obtain rfl:=hee.symm;clear hee;rw [hmq]);go_meet;case rel=>exact ⟨by simp [qA,h1,h3,hmq],rfl⟩
  cases hw:p.hasWill;case false =>
   rw [hw] at c5;cases b3;case false => go_wp2_with fail;go_meet;case rel=>exact ⟨by simp [qA,h1,hw,h3],rfl⟩
   cases hmq:isQ p.mQ;case false => go_wp2_with (go_at_call 146;refine (zaF p.mQ _).mono ?_;rintro e w' ⟨rfl,hee⟩;obtain rfl:=hee.symm;clear hee;rw [hmq]);go_meet;case rel=>exact ⟨by simp [qA,h1,hw,h3,hmq],rfl⟩
   go_wp2_with (go_at_call 146;refine (zaF p.mQ _).mono ?_;rintro e w' ⟨rfl,hee⟩;obtain rfl:=hee.symm;clear hee;rw [hmq]);go_meet;case rel=>exact ⟨by simp [qA,h1,hw,h3,hmq],rfl⟩
  rw [hw] at c5;cases hwq:isQ p.wQ;case false => go_wp2_with (go_at_call 146;refine (zaF p.wQ _).mono ?_;rintro e w' ⟨rfl,hee⟩;obtain rfl:=hee.symm;clear hee;rw [hwq]);go_meet;case rel=>exact ⟨by simp [qA,h1,hw,hwq],rfl⟩
  cases b3;case false => go_wp2_with (go_at_call 146;refine (zaF p.wQ _).mono ?_;rintro e w' ⟨rfl,hee⟩;obtain rfl:=hee.symm;clear hee;rw [hwq]);go_meet;case rel=>exact ⟨by simp [qA,h1,hw,hwq,h3],rfl⟩
  cases hmq:isQ p.mQ;case false => go_wp2_with (go_at_call 146;refine (zaF _ _).mono ?_;rintro e w' ⟨rfl,hee⟩;obtain rfl:=hee.symm;clear hee;first | rw [hwq] | rw [hmq]);go_meet;case rel=>exact ⟨by simp [qA,h1,hw,hwq,h3,hmq],rfl⟩
  go_wp2_with (go_at_call 146;refine (zaF _ _).mono ?_;rintro e w' ⟨rfl,hee⟩;obtain rfl:=hee.symm;clear hee;first | rw [hwq] | rw [hmq]);go_meet;case rel=>exact ⟨by simp [qA,h1,hw,hwq,h3,hmq],rfl⟩
 case rest =>
 obtain ⟨rfl,hw1⟩:=hcut;obtain rfl:=hw1.out.symm;clear hw1 h1 h3;cases tA:qA p;case true => go_wp2;go_ret;exact ⟨by rw [HX.out,rqls,tA];rfl,b0.out⟩
 have HQ:=Hi tA;clear tA;have c22:=FA.out 22 (.slice p.asks.a p.asks.n p.asks.c) rfl;have c23:=FA.out 23 (.slice p.codes.a p.codes.n p.codes.c) rfl;go_wp2_with fail;go_loopg [3] p.asks.n (fun g s3 wx=>wx=W/\∃ k:Nat,s3 = .int .i64 k/\k+g=p.asks.n/\Hid (∀ j,j<k->isQ (c.aq j)=true));case atStart=>exact ⟨rfl,0,rfl,by omega,fun j hj=>absurd hj (Nat.not_lt_zero _)⟩
 case round =>
  obtain ⟨hw0,k,rfl,hkg,HD⟩:=hrel;obtain rfl:=hw0.symm;clear hw0;by_cases hk:k<p.asks.n;·
   have hk':(k:Int)<p.asks.n:=by omega
   obtain ⟨b,off,he,hc⟩:∃ b off,p.asks.a=some ⟨b,off,none⟩/\∀ i,i<p.asks.n->(W.cell? ⟨b,off+i*2,none⟩=some (.string (c.af i))/\W.cell? ⟨b,off+i*2+1,none⟩=some (.int .i64 (c.aq i))):=by
    rcases HA.out.2 with h | h;· omega
    · exact h
   have hac:p.asks.n<=p.asks.c:=HA.out.1;rw [he] at c22;have d1:=(hc k hk).2;have hw:IntKind.i64.wrap ((k:Int)+1)=(k:Int)+1:=by rw [IntKind.wrap_i64];have:=LA.out;omega
   clear hc he;cases hq:isQ (c.aq k);case false =>
    have HR:Hid (x=false):=by show _=_;rw [HX.out,rqls,zaP k hk hq];simp
    go_wp2_with (go_at_call 146;refine (zaF _ _).mono ?_;rintro e w' ⟨rfl,hee⟩;obtain rfl:=hee.symm;clear hee;rw [hq]);go_ret;exact ⟨by rw [HR.out];rfl,b0.out⟩
   have HN:Hid (∀ j,j<k+1->isQ (c.aq j)=true):=fun j hj=>by
    rcases Nat.lt_or_ge j k with h | h;· exact HD.out j h
    · obtain rfl:j=k:=by omega
      exact hq
   go_wp2_with (go_at_call 146;refine (zaF _ _).mono ?_;rintro e w' ⟨rfl,hee⟩;obtain rfl:=hee.symm;clear hee;rw [hq]);go_roundg (p.asks.n-(k+1));case measure=>omega
   case rel=>exact ⟨rfl,k+1,by first | rfl | simp,by omega,HN⟩
  ·
   obtain rfl:k=p.asks.n:=by omega
   have hk':¬ (p.asks.n:Int)<p.asks.n:=by omega
   have AL:Hid (allN p.asks.n (fun i=>isQ (c.aq i))=true):=(zb6 _ _).2 HD.out;go_wp2_with fail;clear hk';go_loopg [4] p.codes.n (fun g s4 wx=>wx=W/\∃ k:Nat,s4 = .int .i64 k/\k+g=p.codes.n/\Hid (∀ j,j<k->isC (c.cs j)=true));case atStart=>exact ⟨rfl,0,rfl,by omega,fun j hj=>absurd hj (Nat.not_lt_zero _)⟩
   case round =>
    obtain ⟨hw0,j,rfl,hjg,HC⟩:=hrel;obtain rfl:=hw0.symm;clear hw0;by_cases hj:j<p.codes.n;·
     have hj':(j:Int)<p.codes.n:=by omega
     obtain ⟨b,off,he,hc⟩:∃ b off,p.codes.a=some ⟨b,off,none⟩/\∀ i,i<p.codes.n->W.cell? ⟨b,off+i,none⟩=some (.int .i64 (c.cs i)):=by
      rcases HS.out.2 with h | h;· omega
      · exact h
     have hac:p.codes.n<=p.codes.c:=HS.out.1;rw [he] at c23;have d1:=hc j hj;have hw:IntKind.i64.wrap ((j:Int)+1)=(j:Int)+1:=by rw [IntKind.wrap_i64];have:=LC.out;omega
     clear hc he;cases hq:isQ (c.cs j);case false =>
      by_cases h128:c.cs j=128;·
       have h128':(c.cs j != 128)=false:=by simp [h128]
       have HN:Hid (∀ i,i<j+1->isC (c.cs i)=true):=fun i hi=>by
        rcases Nat.lt_or_ge i j with h | h;· exact HC.out i h
        · obtain rfl:i=j:=by omega
          simp [isC,h128]
       clear h128;go_wp2_with (go_at_call 146;refine (zaF _ _).mono ?_;rintro e w' ⟨rfl,hee⟩;obtain rfl:=hee.symm;clear hee;rw [hq]);go_roundg (p.codes.n-(j+1));case measure=>omega
       case rel=>exact ⟨rfl,j+1,by first | rfl | simp,by omega,HN⟩
      · have h128':(c.cs j != 128)=true:=by simp [h128]
        have HR:Hid (x=false):=by show _=_;rw [HX.out,rqls,zaP (f:=fun i=>isC (c.cs i)) j hj (by simp [isC,hq,h128])];simp
        clear h128;go_wp2_with (go_at_call 146;refine (zaF _ _).mono ?_;rintro e w' ⟨rfl,hee⟩;obtain rfl:=hee.symm;clear hee;rw [hq]);go_ret;exact ⟨by rw [HR.out];rfl,b0.out⟩
     have HN:Hid (∀ i,i<j+1->isC (c.cs i)=true):=fun i hi=>by
      rcases Nat.lt_or_ge i j with h | h;· exact HC.out i h
      · obtain rfl:i=j:=by omega
        simp [isC,hq]
     go_wp2_with (go_at_call 146;refine (zaF _ _).mono ?_;rintro e w' ⟨rfl,hee⟩;obtain rfl:=hee.symm;clear hee;rw [hq]);go_roundg (p.codes.n-(j+1));case measure=>omega
     case rel=>exact ⟨rfl,j+1,by first | rfl | simp,by omega,HN⟩
    ·
     obtain rfl:j=p.codes.n:=by omega
     have hj':¬ (p.codes.n:Int)<p.codes.n:=by omega
     have CL:Hid (allN p.codes.n (fun i=>isC (c.cs i))=true):=(zb6 _ _).2 HC.out;have HR:Hid (x=true):=by show _=_;rw [HX.out,rqls,HQ.out,AL.out,CL.out];rfl
     go_wp2;go_ret;exact ⟨by rw [HR.out];rfl,b0.out⟩
end Go.Proofs.YtceigllifjgalaaGreatDoor.Pkt
