import Derived.Test.YtpldoeeahhaimaaGreatDoorPWm
import Derived.Test.YtpldoeeahhaimaaGreatDoorPRl
namespace Go.Proofs.YtpldoeeahhaimaaGreatDoor.Pkt
open Go Go.RowKit Go.Sort
set_option linter.all false
theorem sumN_many (f:Nat->Nat) (n:Nat) (h:∀ i,i<n->1<=f i):n<=sumN f n:=by induction n with | zero=>simp [sumN] | succ n ih => have h1:=ih (fun i hi=>h i (by omega));have h2:=h n (by omega);simp only [sumN];omega
theorem Right.q2 {T:Tx} {p:Pk} {c:Cn} (h:Right T p c):p.mQ=0\/p.mQ=1\/p.mQ=2:=by have:=h.ql;simp [qls,isQ] at this;omega
set_option maxHeartbeats 1000000
theorem sameBytes_eq (s s':Sl) (z:Nat->Int) (w:World) (h:By w s z) (h':By w s' z) (hn:s.n=s'.n) (hm:s.n<=1000000) :
 Calls Tryz.prog 48 #[.slice s.a s.n s.c,.slice s'.a s'.n s'.c] w fun e w'=>e = .returned (.bool true)/\Below w.heap.size w w':=by
 obtain ⟨a,n,c⟩:=s;obtain ⟨a',n',c'⟩:=s';simp only at hn hm;subst hn;have HA:Hid (By w ⟨a,n,c⟩ z):=h;have HB:Hid (By w ⟨a',n,c'⟩ z):=h';have B0:Hid (Below w.heap.size w w):=Below.refl _ _;clear h h';go_enter Tryz.func48,Tryz.ntmps48;go_wp2_with fail;go_loopg [5] n (fun gg s5 wx=>∃ (k:Nat),s5 = .int .i64 k/\k+gg=n/\Hid (Below w.heap.size w wx));case atStart=>exact ⟨0,rfl,by omega,B0⟩
 case round =>
  obtain ⟨k,rfl,hkg,B1⟩:=hrel;by_cases hk:k<n
  · have hk':(k:Int)<n:=by omega
    obtain ⟨b,off,he,hc⟩:∃ b off,a=some ⟨b,off,none⟩/\∀ i,i<n->w.cell? ⟨b,off+i,none⟩=some (.int .u8 (z i)):=by
     rcases HA.out.2.2 with h | h;· simp only at h;omega
     · exact h
    obtain ⟨b',off',he',hc'⟩:∃ b off,a'=some ⟨b,off,none⟩/\∀ i,i<n->w.cell? ⟨b,off+i,none⟩=some (.int .u8 (z i)):=by
     rcases HB.out.2.2 with h | h;· simp only at h;omega
     · exact h
    subst he he';have hac:n<=c:=HA.out.1;have hac':n<=c':=HB.out.1;have c0:=cell_later B1.out (hc k hk);have d0:=cell_later B1.out (hc' k hk);obtain ⟨x,hx⟩:∃ x,z k=x:=⟨_,rfl⟩;rw [hx] at c0 d0;clear hx hc hc';obtain ⟨gg,hg⟩:∃ gg,gk=gg+1:=⟨gk-1,by omega⟩;go_wp2_with fail;go_region;all_goals
     go_wp2;go_roundg gg;case measure=>omega
     case rel=>exact ⟨k+1,by first | rfl | simp,by omega,by first | exact B1 | exact B1.out.drew⟩
  · obtain rfl:k=n:=by omega
    have hk':¬ (k:Int)<k:=by omega
    go_wp2;go_ret;exact ⟨rfl,B1.out⟩
theorem sameMessage_eq (t:ByteArray) (q:Int) (r:Bool) (s s':Sl) (z:Nat->Int) (w:World) (h:By w s z) (h':By w s' z) (hn:s.n=s'.n) (hm:s.n<=1000000) :
 Calls Tryz.prog 47 #[.agg #[.string t,.slice s.a s.n s.c,.int .i64 q,.bool r],.agg #[.string t,.slice s'.a s'.n s'.c,.int .i64 q,.bool r]] w fun e w'=>e = .returned (.bool true)/\Below w.heap.size w w':=by
 have HC:Hid (∀ w',Below w.heap.size w w'->Calls Tryz.prog 48 #[.slice s.a s.n s.c,.slice s'.a s'.n s'.c] w' fun e w''=>e = .returned (.bool true)/\Below w'.heap.size w' w''):=fun w' hb=>sameBytes_eq s s' z w' (h.below hb) (h'.below hb) hn hm;clear h h' hn hm;go_enter Tryz.func47,Tryz.ntmps47;go_wp2_with fail;go_must (go_at_call 48);refine (HC.out _ (below2 _ _ _)).mono ?_;rintro e w1 ⟨rfl,hb⟩;have B1:Hid (Below w.heap.size w w1):=(below2 w _ _).trans (hb.mono (below2 w _ _).size);clear hb;go_wp2;go_ret;exact ⟨rfl,B1.out⟩
theorem neq_ask (t t':ByteArray) (q q':Int) (w:World):(binOp .neq 99 (.agg #[.string t,.int .i64 q]) (.agg #[.string t',.int .i64 q'])).run Tryz.prog w = .ok (.bool (!((t.toList==t'.toList) && (q==q')))) w:=by
 have hu:Tryz.prog.underlying 99=some (.struct (Tryz.prog.fieldsOf 99)):=by kernel_rfl
 have hp:Tryz.prog.stoodInHeld 99=false:=by kernel_rfl
 rw [run_neq_struct,run_equalIn_agg w 9999 99 _ _ hu hp];clear hu hp;simp only [Program.fieldsOf,Tryz.underlying99];cases h1:(t.toList==t'.toList);· go_simp
 ·
  cases h2:(q==q');· go_simp
  · go_simp
theorem neq_ask_eq (t:ByteArray) (q:Int) (w:World):(binOp .neq 99 (.agg #[.string t,.int .i64 q]) (.agg #[.string t,.int .i64 q])).run Tryz.prog w = .ok (.bool false) w:=by rw [neq_ask];simp
def Pk.re (p:Pk) (s1 s2 s3 s4 s5 s6:Sl):Pk:={ p with wP:=s1,pass:=s2,mP:=s3,asks:=s4,codes:=s5,filters:=s6 }
set_option maxRecDepth 100000
set_option maxHeartbeats 8000000
theorem rsame_eq (p:Pk) (c:Cn) (s1 s2 s3 s4 s5 s6:Sl) (w:World) (hb:In w p c) (ha:In w (p.re s1 s2 s3 s4 s5 s6) c) (n1:s1.n=p.wP.n) (n2:s2.n=p.pass.n) (n3:s3.n=p.mP.n) (n4:s4.n=p.asks.n) (n5:s5.n=p.codes.n) (n6:s6.n=p.filters.n) (hs:Small p c) :
 Calls Tryz.prog 36 #[(p.re s1 s2 s3 s4 s5 s6).v,p.v] w fun e w'=>e = .returned (.bool true)/\Below w.heap.size w w':=by
 have HB:Hid (In w p c):=hb;have HA:Hid (In w (p.re s1 s2 s3 s4 s5 s6) c):=ha;have HS:Hid (Small p c):=hs;have N1:Hid (s1.n=p.wP.n):=n1;have N2:Hid (s2.n=p.pass.n):=n2;have N3:Hid (s3.n=p.mP.n):=n3;have N4:Hid (s4.n=p.asks.n):=n4;have N5:Hid (s5.n=p.codes.n):=n5;have N6:Hid (s6.n=p.filters.n):=n6;have LA:Hid (s4.n<=1000000/\s5.n<=1000000/\s6.n<=1000000):=⟨by rw [n4];exact hs.an,by rw [n5];exact hs.cn,by rw [n6];exact hs.fn⟩;clear hb ha hs n1 n2 n3 n4 n5 n6;obtain ⟨P,hP⟩:∃ P,P=pkCells (p.re s1 s2 s3 s4 s5 s6):=⟨_,rfl⟩;obtain ⟨Q,hQ⟩:∃ Q,Q=pkCells p:=⟨_,rfl⟩;rw [show (p.re s1 s2 s3 s4 s5 s6).v = .agg P by rw [hP];rfl,show p.v = .agg Q by rw [hQ];rfl];have HP:Hid (P=pkCells (p.re s1 s2 s3 s4 s5 s6)):=hP;have HQ:Hid (Q=pkCells p):=hQ;clear hP hQ;obtain ⟨V,hV⟩:∃ V,V=w.alloc (.cells P 39):=⟨_,rfl⟩;obtain ⟨W,hW⟩:∃ W,W=V.alloc (.cells Q 39):=⟨_,rfl⟩;obtain ⟨g,hg⟩:∃ g,g=w.heap.size+1:=⟨_,rfl⟩;have hgV:g=V.heap.size:=by rw [hg,hV];simp
 have bV:Hid (Below w.heap.size w V):=box_below hV;have bW:Hid (Below V.heap.size V W):=box_below hW;have b0:Hid (Below w.heap.size w W):=bV.out.trans (bW.out.mono bV.out.size);have FA:Hid (∀ k v,(pkCells (p.re s1 s2 s3 s4 s5 s6))[k]?=some v->∀ w',Below W.heap.size W w'->w'.cell? ⟨w.heap.size,k,none⟩=some v):=fun k v h w' hb=>cell_later hb (cell_later bW.out (by rw [hV];exact box_cell w P 39 k v (by rw [HP.out];exact h)));have FB:Hid (∀ k v,(pkCells p)[k]?=some v->∀ w',Below W.heap.size W w'->w'.cell? ⟨g,k,none⟩=some v):=fun k v h w' hb=>cell_later hb (by rw [hgV,hW];exact box_cell V Q 39 k v (by rw [HQ.out];exact h));have BW:Hid (∀ w',Below W.heap.size W w'->Below w.heap.size w w'):=fun w' hb=>b0.out.trans (hb.mono b0.out.size);have R0:Hid (Below W.heap.size W W):=Below.refl _ _;go_enter Tryz.func36,Tryz.ntmps36;go_upto_region 1 with fail;rw [<-hV,<-hg,<-hW];clear hV hW hg hgV;have c0:=FA.out 0 (.int .i64 p.kind) rfl W R0.out;have d0:=FB.out 0 (.int .i64 p.kind) rfl W R0.out;have c1:=FA.out 1 (.int .i64 p.level) rfl W R0.out;have d1:=FB.out 1 (.int .i64 p.level) rfl W R0.out;have c2:=FA.out 2 (.bool p.clean) rfl W R0.out;have d2:=FB.out 2 (.bool p.clean) rfl W R0.out;have c3:=FA.out 3 (.int .i64 p.keep) rfl W R0.out;have d3:=FB.out 3 (.int .i64 p.keep) rfl W R0.out;have c4:=FA.out 4 (.string p.client) rfl W R0.out;have d4:=FB.out 4 (.string p.client) rfl W R0.out;have c5:=FA.out 5 (.bool p.hasWill) rfl W R0.out;have d5:=FB.out 5 (.bool p.hasWill) rfl W R0.out;have c10:=FA.out 10 (.bool p.hasUser) rfl W R0.out;have d10:=FB.out 10 (.bool p.hasUser) rfl W R0.out;have c11:=FA.out 11 (.string p.user) rfl W R0.out;have d11:=FB.out 11 (.string p.user) rfl W R0.out;have c12:=FA.out 12 (.bool p.hasPass) rfl W R0.out;have d12:=FB.out 12 (.bool p.hasPass) rfl W R0.out;go_upto_region 3 with fail;clear c0 d0 c1 d1 c2 d2 c3 d3 c4 d4 c5 d5 c10 d10 c11 d11 c12 d12;have c14:=FA.out 14 (.bool p.present) rfl W R0.out;have d14:=FB.out 14 (.bool p.present) rfl W R0.out;have c15:=FA.out 15 (.int .i64 p.code) rfl W R0.out;have d15:=FB.out 15 (.int .i64 p.code) rfl W R0.out;have c16:=FA.out 16 (.bool p.dup) rfl W R0.out;have d16:=FB.out 16 (.bool p.dup) rfl W R0.out;have c21:=FA.out 21 (.int .i64 p.id) rfl W R0.out;have d21:=FB.out 21 (.int .i64 p.id) rfl W R0.out;have c6:=FA.out 6 (.string p.wT) rfl W R0.out;have d6:=FB.out 6 (.string p.wT) rfl W R0.out;have c7:=FA.out 7 (.slice s1.a s1.n s1.c) rfl W R0.out;have d7:=FB.out 7 (.slice p.wP.a p.wP.n p.wP.c) rfl W R0.out;have c8:=FA.out 8 (.int .i64 p.wQ) rfl W R0.out;have d8:=FB.out 8 (.int .i64 p.wQ) rfl W R0.out;have c9:=FA.out 9 (.bool p.wR) rfl W R0.out;have d9:=FB.out 9 (.bool p.wR) rfl W R0.out;go_wp2_with fail;go_must (go_at_call 47);refine (sameMessage_eq _ _ _ s1 p.wP c.wz _ (HA.out.wP.below b0.out) (HB.out.wP.below b0.out) N1.out (by rw [N1.out];exact HS.out.wp)).mono ?_;rintro e w1 ⟨rfl,hb⟩;have B1:Hid (Below W.heap.size W w1):=hb;clear hb;clear c14 d14 c15 d15 c16 d16 c21 d21 c6 d6 c7 d7 c8 d8 c9 d9;have c17:=FA.out 17 (.string p.mT) rfl w1 B1.out;have d17:=FB.out 17 (.string p.mT) rfl w1 B1.out;have c18:=FA.out 18 (.slice s3.a s3.n s3.c) rfl w1 B1.out;have d18:=FB.out 18 (.slice p.mP.a p.mP.n p.mP.c) rfl w1 B1.out;have c19:=FA.out 19 (.int .i64 p.mQ) rfl w1 B1.out;have d19:=FB.out 19 (.int .i64 p.mQ) rfl w1 B1.out;have c20:=FA.out 20 (.bool p.mR) rfl w1 B1.out;have d20:=FB.out 20 (.bool p.mR) rfl w1 B1.out;go_wp2_with fail;go_must (go_at_call 47);refine (sameMessage_eq _ _ _ s3 p.mP c.mz _ (HA.out.mP.below (BW.out _ B1.out)) (HB.out.mP.below (BW.out _ B1.out)) N3.out (by rw [N3.out];exact HS.out.mp)).mono ?_;rintro e w2 ⟨rfl,hb⟩;have B2:Hid (Below W.heap.size W w2):=B1.out.trans (hb.mono B1.out.size);clear hb;clear c17 d17 c18 d18 c19 d19 c20 d20;have c13:=FA.out 13 (.slice s2.a s2.n s2.c) rfl w2 B2.out;have d13:=FB.out 13 (.slice p.pass.a p.pass.n p.pass.c) rfl w2 B2.out;go_wp2_with fail;go_must (go_at_call 48);refine (sameBytes_eq s2 p.pass c.pz _ (HA.out.pass.below (BW.out _ B2.out)) (HB.out.pass.below (BW.out _ B2.out)) N2.out (by rw [N2.out];exact HS.out.ps)).mono ?_;rintro e w3 ⟨rfl,hb⟩;have B3:Hid (Below W.heap.size W w3):=B2.out.trans (hb.mono B2.out.size);clear hb;clear c13 d13;have c22:=FA.out 22 (.slice s4.a s4.n s4.c) rfl w3 B3.out;have d22:=FB.out 22 (.slice p.asks.a p.asks.n p.asks.c) rfl w3 B3.out;have c23:=FA.out 23 (.slice s5.a s5.n s5.c) rfl w3 B3.out;have d23:=FB.out 23 (.slice p.codes.a p.codes.n p.codes.c) rfl w3 B3.out;have c24:=FA.out 24 (.slice s6.a s6.n s6.c) rfl w3 B3.out;have d24:=FB.out 24 (.slice p.filters.a p.filters.n p.filters.c) rfl w3 B3.out;rw [<-N4.out] at d22;rw [<-N5.out] at d23;rw [<-N6.out] at d24;go_wp2_with fail;clear c22 d22 c23 d23 c24 d24;go_loopg [5] s4.n (fun gg sx wx=>∃ (k:Nat),sx = .int .i64 k/\k+gg=s4.n/\Hid (Below W.heap.size W wx));case atStart=>exact ⟨0,rfl,by omega,B3⟩
 case round =>
  obtain ⟨k,rfl,hkg,B5⟩:=hrel;have c22:=FA.out 22 (.slice s4.a s4.n s4.c) rfl _ B5.out;have d22:=FB.out 22 (.slice p.asks.a p.asks.n p.asks.c) rfl _ B5.out;rw [<-N4.out] at d22;by_cases hk:k<s4.n
  · have hk':(k:Int)<s4.n:=by omega
    obtain ⟨b,off,he,hc⟩:∃ b off,s4.a=some ⟨b,off,none⟩/\∀ i,i<s4.n->(w.cell? ⟨b,off+i*2,none⟩=some (.string (c.af i))/\w.cell? ⟨b,off+i*2+1,none⟩=some (.int .i64 (c.aq i))):=by
     rcases (HA.out.asks).2 with h | h
     · have h':s4.n=0:=h
       omega
     · exact h
    obtain ⟨b',off',he',hc'⟩:∃ b off,p.asks.a=some ⟨b,off,none⟩/\∀ i,i<p.asks.n->(w.cell? ⟨b,off+i*2,none⟩=some (.string (c.af i))/\w.cell? ⟨b,off+i*2+1,none⟩=some (.int .i64 (c.aq i))):=by
     rcases (HB.out.asks).2 with h | h
     · have h':=N4.out
       omega
     · exact h
    have hac:s4.n<=s4.c:=HA.out.asks.1;have hac':s4.n<=p.asks.c:=by rw [N4.out];exact HB.out.asks.1
    rw [he] at c22;rw [he'] at d22;have hk2:k<p.asks.n:=by rw [<-N4.out];exact hk
    have e0:=cell_later (BW.out _ B5.out) (hc k hk).1;have e1:=cell_later (BW.out _ B5.out) (hc k hk).2;have f0:=cell_later (BW.out _ B5.out) (hc' k hk2).1;have f1:=cell_later (BW.out _ B5.out) (hc' k hk2).2;obtain ⟨x,hx⟩:∃ x,c.af k=x:=⟨_,rfl⟩;obtain ⟨y,hy⟩:∃ x,c.aq k=x:=⟨_,rfl⟩;rw [hx] at e0 f0;rw [hy] at e1 f1;clear hx hy;have EQ:=neq_ask_eq x y;have EG:Tryz.prog.eqGuardType Tryz.prog.depth 99=false:=by kernel_rfl
    clear he he' hc hc' hk2;have hlim:=LA.out;obtain ⟨gg,hgg⟩:∃ gg,gk=gg+1:=⟨gk-1,by omega⟩;go_wp2_with fail;go_region;all_goals
     go_wp2;go_roundg gg;case measure=>omega
     case rel=>exact ⟨k+1,by first | rfl | simp,by omega,by first | exact B5 | exact B5.out.drew⟩
  · obtain rfl:k=s4.n:=by omega
    have hk':¬ (s4.n:Int)<s4.n:=by omega
    go_wp2_with fail;clear c22 d22 hk hk';go_loopg [6] s5.n (fun gg sx wx=>∃ (k:Nat),sx = .int .i64 k/\k+gg=s5.n/\Hid (Below W.heap.size W wx));case atStart=>exact ⟨0,rfl,by omega,B5⟩
    case round =>
     obtain ⟨k,rfl,hkg,B6⟩:=hrel;have c23:=FA.out 23 (.slice s5.a s5.n s5.c) rfl _ B6.out;have d23:=FB.out 23 (.slice p.codes.a p.codes.n p.codes.c) rfl _ B6.out;rw [<-N5.out] at d23;by_cases hk:k<s5.n
     · have hk':(k:Int)<s5.n:=by omega
       obtain ⟨b,off,he,hc⟩:∃ b off,s5.a=some ⟨b,off,none⟩/\∀ i,i<s5.n->w.cell? ⟨b,off+i,none⟩=some (.int .i64 (c.cs i)):=by
        rcases (HA.out.codes).2 with h | h
        · have h':s5.n=0:=h
          omega
        · exact h
       obtain ⟨b',off',he',hc'⟩:∃ b off,p.codes.a=some ⟨b,off,none⟩/\∀ i,i<p.codes.n->w.cell? ⟨b,off+i,none⟩=some (.int .i64 (c.cs i)):=by
        rcases (HB.out.codes).2 with h | h
        · have h':=N5.out
          omega
        · exact h
       have hac:s5.n<=s5.c:=HA.out.codes.1;have hac':s5.n<=p.codes.c:=by rw [N5.out];exact HB.out.codes.1
       rw [he] at c23;rw [he'] at d23;have hk2:k<p.codes.n:=by rw [<-N5.out];exact hk
       have e0:=cell_later (BW.out _ B6.out) (hc k hk);have f0:=cell_later (BW.out _ B6.out) (hc' k hk2);obtain ⟨x,hx⟩:∃ x,c.cs k=x:=⟨_,rfl⟩;rw [hx] at e0 f0;clear hx;clear he he' hc hc' hk2;have hlim:=LA.out;obtain ⟨gg,hgg⟩:∃ gg,gk=gg+1:=⟨gk-1,by omega⟩;go_wp2_with fail;go_region;all_goals
        go_wp2;go_roundg gg;case measure=>omega
        case rel=>exact ⟨k+1,by first | rfl | simp,by omega,by first | exact B6 | exact B6.out.drew⟩
     · obtain rfl:k=s5.n:=by omega
       have hk':¬ (s5.n:Int)<s5.n:=by omega
       go_wp2_with fail;clear c23 d23 hk hk';go_loopg [7] s6.n (fun gg sx wx=>∃ (k:Nat),sx = .int .i64 k/\k+gg=s6.n/\Hid (Below W.heap.size W wx));case atStart=>exact ⟨0,rfl,by omega,B6⟩
       case round =>
        obtain ⟨k,rfl,hkg,B7⟩:=hrel;have c24:=FA.out 24 (.slice s6.a s6.n s6.c) rfl _ B7.out;have d24:=FB.out 24 (.slice p.filters.a p.filters.n p.filters.c) rfl _ B7.out;rw [<-N6.out] at d24;by_cases hk:k<s6.n
        · have hk':(k:Int)<s6.n:=by omega
          obtain ⟨b,off,he,hc⟩:∃ b off,s6.a=some ⟨b,off,none⟩/\∀ i,i<s6.n->w.cell? ⟨b,off+i,none⟩=some (.string (c.fs i)):=by
           rcases (HA.out.filters).2 with h | h
           · have h':s6.n=0:=h
             omega
           · exact h
          obtain ⟨b',off',he',hc'⟩:∃ b off,p.filters.a=some ⟨b,off,none⟩/\∀ i,i<p.filters.n->w.cell? ⟨b,off+i,none⟩=some (.string (c.fs i)):=by
           rcases (HB.out.filters).2 with h | h
           · have h':=N6.out
             omega
           · exact h
          have hac:s6.n<=s6.c:=HA.out.filters.1;have hac':s6.n<=p.filters.c:=by rw [N6.out];exact HB.out.filters.1
          rw [he] at c24;rw [he'] at d24;have hk2:k<p.filters.n:=by rw [<-N6.out];exact hk
          have e0:=cell_later (BW.out _ B7.out) (hc k hk);have f0:=cell_later (BW.out _ B7.out) (hc' k hk2);obtain ⟨x,hx⟩:∃ x,c.fs k=x:=⟨_,rfl⟩;rw [hx] at e0 f0;clear hx;clear he he' hc hc' hk2;have hlim:=LA.out;obtain ⟨gg,hgg⟩:∃ gg,gk=gg+1:=⟨gk-1,by omega⟩;go_wp2_with fail;go_region;all_goals
           go_wp2;go_roundg gg;case measure=>omega
           case rel=>exact ⟨k+1,by first | rfl | simp,by omega,by first | exact B7 | exact B7.out.drew⟩
        · obtain rfl:k=s6.n:=by omega
          have hk':¬ (s6.n:Int)<s6.n:=by omega
          go_wp2;go_ret;exact ⟨rfl,BW.out _ B7.out⟩
set_option maxHeartbeats 1000000
theorem below1 (w:World) (o:Obj):Below w.heap.size w (w.alloc o):=(Below.refl _ _).alloc (Nat.le_refl _) _
def zmsg (t:ByteArray) (n:Nat) (q:Int) (r:Bool):Bool:=decide (t.size=0) && decide (n=0) && decide (q=0) && !r
theorem zero_any (t:ByteArray) (a:Option Addr) (n c:Nat) (q:Int) (r:Bool) (w:World):Calls Tryz.prog 116 #[.agg #[.string t,.slice a n c,.int .i64 q,.bool r]] w fun e w'=>e = .returned (.bool (zmsg t n q r))/\Below w.heap.size w w':=by
 have hE:=isEmpty_size t;by_cases h1:t.size=0;·
  have hE1:t.toList.isEmpty=true:=by rw [h1] at hE;revert hE;cases t.toList.isEmpty <;> simp
  clear hE;by_cases h2:n=0;·
   have h2':((n:Int)==0)=true:=by simp [h2]
   by_cases h3:q=0;·
    have h3':(q==0)=true:=by simp [h3]
    cases r with
    | true => rw [show zmsg t n q true=false by simp [zmsg]];clear h1 h2 h3;go_enter Tryz.func116,Tryz.ntmps116;go_wp2;go_ret;exact ⟨rfl,below1 _ _⟩;| false => rw [show zmsg t n q false=true by simp [zmsg,h1,h2,h3]];clear h1 h2 h3;go_enter Tryz.func116,Tryz.ntmps116;go_wp2;go_ret;exact ⟨rfl,below1 _ _⟩
   ·
    have h3':(q==0)=false:=by simp [h3]
    rw [show zmsg t n q r=false by simp [zmsg,h3]];clear h1 h2 h3;go_enter Tryz.func116,Tryz.ntmps116;go_wp2;go_ret;exact ⟨rfl,below1 _ _⟩
  ·
   have h2':((n:Int)==0)=false:=by simp [h2]
   rw [show zmsg t n q r=false by simp [zmsg,h2]];clear h1 h2;go_enter Tryz.func116,Tryz.ntmps116;go_wp2;go_ret;exact ⟨rfl,below1 _ _⟩
 ·
  have hE1:t.toList.isEmpty=false:=by revert hE;cases t.toList.isEmpty <;> simp [h1]
  clear hE;rw [show zmsg t n q r=false by simp [zmsg,h1]];clear h1;go_enter Tryz.func116,Tryz.ntmps116;go_wp2;go_ret;exact ⟨rfl,below1 _ _⟩
set_option maxHeartbeats 2000000
theorem boxed (p:Pk) (w:World) (k:Nat) (v:Value) (h:(pkCells p)[k]?=some v):(w.alloc (.cells (pkCells p) 39)).cell? ⟨w.heap.size,k,none⟩=some v:=box_cell w _ _ k v h
theorem numbered_any (p:Pk) (w:World):Calls Tryz.prog 86 #[p.v] w fun e w'=>e = .returned (.bool (hasID p))/\Below w.heap.size w w':=by
 obtain ⟨P,hP⟩:∃ P,P=pkCells p:=⟨_,rfl⟩;have c0:(w.alloc (.cells P 39)).cell? ⟨w.heap.size,0,none⟩=some (.int .i64 p.kind):=by rw [hP];exact boxed p w 0 _ rfl
 have c19:(w.alloc (.cells P 39)).cell? ⟨w.heap.size,19,none⟩=some (.int .i64 p.mQ):=by rw [hP];exact boxed p w 19 _ rfl
 rw [show p.v = .agg P by rw [hP];rfl];clear hP;by_cases k3:p.kind=3;·
  have e3:(p.kind==3)=true:=by simp [k3]
  by_cases hq:p.mQ=0;·
   have hq':(p.mQ != 0)=false:=by simp [hq]
   rw [show hasID p=false by simp [hasID,k3,hq]];clear k3 hq;go_enter Tryz.func86,Tryz.ntmps86;go_wp2;go_ret;exact ⟨rfl,below1 _ _⟩
  ·
   have hq':(p.mQ != 0)=true:=by simp [hq]
   rw [show hasID p=true by simp [hasID,k3,hq]];clear k3 hq;go_enter Tryz.func86,Tryz.ntmps86;go_wp2;go_ret;exact ⟨rfl,below1 _ _⟩
 have e3:(p.kind==3)=false:=by simp [k3]
 by_cases k4:p.kind=4;·
  have e4:(p.kind==4)=true:=by simp [k4]
  rw [show hasID p=true by simp [hasID,k4]];clear k3 k4;go_enter Tryz.func86,Tryz.ntmps86;go_wp2;go_ret;exact ⟨rfl,below1 _ _⟩
 have e4:(p.kind==4)=false:=by simp [k4]
 by_cases k5:p.kind=5;·
  have e5:(p.kind==5)=true:=by simp [k5]
  rw [show hasID p=true by simp [hasID,k5]];clear k3 k4 k5;go_enter Tryz.func86,Tryz.ntmps86;go_wp2;go_ret;exact ⟨rfl,below1 _ _⟩
 have e5:(p.kind==5)=false:=by simp [k5]
 by_cases k6:p.kind=6;·
  have e6:(p.kind==6)=true:=by simp [k6]
  rw [show hasID p=true by simp [hasID,k6]];clear k3 k4 k5 k6;go_enter Tryz.func86,Tryz.ntmps86;go_wp2;go_ret;exact ⟨rfl,below1 _ _⟩
 have e6:(p.kind==6)=false:=by simp [k6]
 by_cases k7:p.kind=7;·
  have e7:(p.kind==7)=true:=by simp [k7]
  rw [show hasID p=true by simp [hasID,k7]];clear k3 k4 k5 k6 k7;go_enter Tryz.func86,Tryz.ntmps86;go_wp2;go_ret;exact ⟨rfl,below1 _ _⟩
 have e7:(p.kind==7)=false:=by simp [k7]
 by_cases k8:p.kind=8;·
  have e8:(p.kind==8)=true:=by simp [k8]
  rw [show hasID p=true by simp [hasID,k8]];clear k3 k4 k5 k6 k7 k8;go_enter Tryz.func86,Tryz.ntmps86;go_wp2;go_ret;exact ⟨rfl,below1 _ _⟩
 have e8:(p.kind==8)=false:=by simp [k8]
 by_cases k9:p.kind=9;·
  have e9:(p.kind==9)=true:=by simp [k9]
  rw [show hasID p=true by simp [hasID,k9]];clear k3 k4 k5 k6 k7 k8 k9;go_enter Tryz.func86,Tryz.ntmps86;go_wp2;go_ret;exact ⟨rfl,below1 _ _⟩
 have e9:(p.kind==9)=false:=by simp [k9]
 by_cases k10:p.kind=10;·
  have e10:(p.kind==10)=true:=by simp [k10]
  rw [show hasID p=true by simp [hasID,k10]];clear k3 k4 k5 k6 k7 k8 k9 k10;go_enter Tryz.func86,Tryz.ntmps86;go_wp2;go_ret;exact ⟨rfl,below1 _ _⟩
 have e10:(p.kind==10)=false:=by simp [k10]
 by_cases k11:p.kind=11;·
  have e11:(p.kind==11)=true:=by simp [k11]
  rw [show hasID p=true by simp [hasID,k11]];clear k3 k4 k5 k6 k7 k8 k9 k10 k11;go_enter Tryz.func86,Tryz.ntmps86;go_wp2;go_ret;exact ⟨rfl,below1 _ _⟩
 have e11:(p.kind==11)=false:=by simp [k11]
 rw [show hasID p=false by simp [hasID,k3];omega];clear k3 k4 k5 k6 k7 k8 k9 k10 k11;go_enter Tryz.func86,Tryz.ntmps86;go_wp2;go_ret;exact ⟨rfl,below1 _ _⟩
def rtps (p:Pk):Bool:=!(decide (p.kind=1) && p.hasWill && (tcode p.wT != 0)) && !(decide (p.kind=3) && (tcode p.mT != 0))
theorem rtopics_any (p:Pk) (w:World):Calls Tryz.prog 83 #[p.v] w fun e w'=>e = .returned (.bool (rtps p))/\Below w.heap.size w w':=by
 obtain ⟨P,hP⟩:∃ P,P=pkCells p:=⟨_,rfl⟩;have c0:(w.alloc (.cells P 39)).cell? ⟨w.heap.size,0,none⟩=some (.int .i64 p.kind):=by rw [hP];exact boxed p w 0 _ rfl
 have c5:(w.alloc (.cells P 39)).cell? ⟨w.heap.size,5,none⟩=some (.bool p.hasWill):=by rw [hP];exact boxed p w 5 _ rfl
 have c6:(w.alloc (.cells P 39)).cell? ⟨w.heap.size,6,none⟩=some (.string p.wT):=by rw [hP];exact boxed p w 6 _ rfl
 have c17:(w.alloc (.cells P 39)).cell? ⟨w.heap.size,17,none⟩=some (.string p.mT):=by rw [hP];exact boxed p w 17 _ rfl
 rw [show p.v = .agg P by rw [hP];rfl];clear hP;by_cases k1:p.kind=1;·
  have e1:(p.kind==1)=true:=by simp [k1]
  have e3:(p.kind==3)=false:=by simp [k1]
  cases hw:p.hasWill with
  | false => rw [hw] at c5;rw [show rtps p=true by simp [rtps,k1,hw]];clear k1;go_enter Tryz.func83,Tryz.ntmps83;go_wp2_with (first | (go_at_call 118;refine (rcheck_any _ _).mono ?_;rintro e w' ⟨rfl,hee⟩;obtain rfl:=hee.symm;clear hee));go_ret;exact ⟨rfl,below1 _ _⟩;| true =>
   rw [hw] at c5;cases ht:(tcode p.wT != 0) with
   | true => rw [show rtps p=false by simp [rtps,k1,hw,ht]];clear k1;go_enter Tryz.func83,Tryz.ntmps83;go_wp2_with (first | (go_at_call 118;refine (rcheck_any _ _).mono ?_;rintro e w' ⟨rfl,hee⟩;obtain rfl:=hee.symm;clear hee));go_ret;exact ⟨rfl,below1 _ _⟩;| false => rw [show rtps p=true by simp [rtps,k1,hw,ht]];clear k1;go_enter Tryz.func83,Tryz.ntmps83;go_wp2_with (first | (go_at_call 118;refine (rcheck_any _ _).mono ?_;rintro e w' ⟨rfl,hee⟩;obtain rfl:=hee.symm;clear hee));go_ret;exact ⟨rfl,below1 _ _⟩
 have e1:(p.kind==1)=false:=by simp [k1]
 by_cases k3:p.kind=3;·
  have e3:(p.kind==3)=true:=by simp [k3]
  cases ht:(tcode p.mT != 0) with
  | true => rw [show rtps p=false by simp [rtps,k1,k3,ht]];clear k1 k3;go_enter Tryz.func83,Tryz.ntmps83;go_wp2_with (first | (go_at_call 118;refine (rcheck_any _ _).mono ?_;rintro e w' ⟨rfl,hee⟩;obtain rfl:=hee.symm;clear hee));go_ret;exact ⟨rfl,below1 _ _⟩;| false => rw [show rtps p=true by simp [rtps,k1,k3,ht]];clear k1 k3;go_enter Tryz.func83,Tryz.ntmps83;go_wp2_with (first | (go_at_call 118;refine (rcheck_any _ _).mono ?_;rintro e w' ⟨rfl,hee⟩;obtain rfl:=hee.symm;clear hee));go_ret;exact ⟨rfl,below1 _ _⟩
 ·
  have e3:(p.kind==3)=false:=by simp [k3]
  rw [show rtps p=true by simp [rtps,k1,k3]];clear k1 k3;go_enter Tryz.func83,Tryz.ntmps83;go_wp2_with (first | (go_at_call 118;refine (rcheck_any _ _).mono ?_;rintro e w' ⟨rfl,hee⟩;obtain rfl:=hee.symm;clear hee));go_ret;exact ⟨rfl,below1 _ _⟩
end Go.Proofs.YtpldoeeahhaimaaGreatDoor.Pkt
