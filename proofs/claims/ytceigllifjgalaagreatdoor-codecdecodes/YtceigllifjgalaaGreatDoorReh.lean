import Derived.Test.YtceigllifjgalaaGreatDoorFdm
import Derived.Deep.RegionHeldLaw
namespace Go.Proofs.YtceigllifjgalaaGreatDoor
open Go Go.RowKit
open Pkt (Pk Cn Sl In By Is Ss As pkCells Gd KindsAt form isK zar)
set_option linter.unusedSimpArgs false
set_option linter.unusedVariables false
set_option maxRecDepth 100000
set_option maxHeartbeats 4000000
def HeadIs (w':World) (e:Ending) (x:Int×Int×Option (Int×Int)):Prop := match x.2.2 with | none=>e = .returned (.tuple #[.int .i64 x.1,.int .i64 x.2.1,.nilIface]) | some y=>∃ gg,e = .returned (.tuple #[.int .i64 x.1,.int .i64 x.2.1,.iface 200 (.pointer (some ⟨gg,0,none⟩))])/\w'.heap[gg]?=some (.cells #[.int .i64 y.1,.int .i64 y.2] 134 (0,0))
def lenF (z:Nat->Int) (n:Nat) (most:Int):Nat->Nat->Int->Int×Int×Option (Int×Int) | 0,_,_=>(0,0,some (4,12)) | f+1,k,acc=>if k=n then (0,0,none) else if z k<128 then (if most<acc+z k % 128*128 ^ (k-1) then (0,0,some (1,32)) else (((k+1:Nat):Int),acc+z k % 128*128 ^ (k-1),none)) else lenF z n most f (k+1) (acc+z k % 128*128 ^ (k-1))
def headP (z:Nat->Int) (n:Nat) (most:Int):Int×Int×Option (Int×Int) := if n=0 then (0,0,none) else if firstP (z 0)≠0 then (0,0,some (0,firstP (z 0))) else lenF z n most 4 1 0
theorem grp_nat (k:Nat) (acc x:Int) (h0:0<=acc) (h1:acc<128 ^ k) (hx:0<=x/\x<=255):acc+x % 128*128 ^ k<128 ^ (k+1):=by have hp:(0:Int)<128 ^ k:=Int.pow_pos (by decide);have:x % 128*128 ^ k<=127*128 ^ k:=Int.mul_le_mul_of_nonneg_right (by omega) (by omega);rw [Int.pow_succ];omega
theorem head_any (g off n cp:Nat) (z:Nat->Int) (most:Int) (w:World) (hc:∀ j,j<n->w.cell? ⟨g,off+j,none⟩=some (.int .u8 (z j))) (hz:∀ i,0<=z i/\z i<=255) (hn:n<=1000000) (hg:Gd w) :
 Calls Tryz.prog 138 #[.slice (some ⟨g,off,none⟩) n cp,.int .i64 most] w fun e w'=>HeadIs w' e (headP z n most)/\Below w.heap.size w w':=by
 obtain ⟨R,hR⟩:∃ R,R=headP z n most:=⟨_,rfl⟩;rw [<-hR];by_cases h0:n=0
 · have HV:Hid (R=(0,0,none)):=by show _=_;rw [hR,headP,if_pos h0]
   have n0:(n:Int)=0:=by omega
   clear hR hc hz hn hg h0;go_enter Tryz.func138,Tryz.ntmps138;go_wp2;go_step3;go_wp2;try rw [Exit.noGoto_ret]
   go_ret3;rw [HV.out];exact ⟨rfl,Below.refl _ _⟩
 have h1:(0:Int)<n:=by omega
 have FS:=Hi (first_any (z 0) (hz 0) w hg);obtain ⟨F,hF⟩:∃ F,F=firstP (z 0):=⟨_,rfl⟩;rw [<-hF] at FS;obtain ⟨x0,hx0⟩:∃ x,x=z 0:=⟨_,rfl⟩;have c0:=hc 0 (by omega);rw [Nat.add_zero] at c0;rw [<-hx0] at FS c0;have HC:=Hi hc;have HZ:=Hi hz;by_cases hf:F=0
 · have HV:Hid (R=lenF z n most 4 1 0):=by show _=_;rw [hR,headP,if_neg h0,if_neg (by rw [<-hF];simpa using hf)]
   subst hf;clear hR hc hz hg hF hx0;have n0:¬ (n:Int)=0:=by omega
   have H0:=Hi h0;clear h0;go_enter Tryz.func138,Tryz.ntmps138;go_wp2;refine wp_scope_jumps 0 (fun a' w'=>w'=w/\∃ (k:Nat) (acc:Int) (u4 u5 u6 u10 u11 u12 u13 u14 u15 u16 u17 u18 u19 u20 u21 u22 u23 u24 u25 u26 u27 u28 u29 u30 u31 u32 u33 u34 u35 u36 u37 u38 u39 u40 u41 u42 u43 u44 u45 u46 u47 u48 u49 u50 u51 u52 u53 u54:Value),a' = { tmps:=#[.slice (some ⟨g,off,none⟩) n cp,.int .i64 most,undef,undef,u4,u5,u6,.int .i64 0,.int .i64 acc,.int .i64 (k:Int),u10,u11,u12,u13,u14,u15,u16,u17,u18,u19,u20,u21,u22,u23,u24,u25,u26,u27,u28,u29,u30,u31,u32,u33,u34,u35,u36,u37,u38,u39,u40,u41,u42,u43,u44,u45,u46,u47,u48,u49,u50,u51,u52,u53,u54],defers:=[] }/\1<=k/\k<=4/\Hid (R=if most<acc then (0,0,some (1,32)) else (((k+1:Nat):Int),acc,none))) (fun _ _=>0) rfl ?_ ?_;rotate_left
   · rintro a' w' ⟨rfl,k,acc,u4,u5,u6,u10,u11,u12,u13,u14,u15,u16,u17,u18,u19,u20,u21,u22,u23,u24,u25,u26,u27,u28,u29,u30,u31,u32,u33,u34,u35,u36,u37,u38,u39,u40,u41,u42,u43,u44,u45,u46,u47,u48,u49,u50,u51,u52,u53,u54,rfl,hk1,hk4,HR⟩
     by_cases hm:most<acc
     · have HR2:Hid (R=(0,0,some (1,32))):=by show _=_;rw [HR.out,if_pos hm]
       go_wp2_with (go_at_call 217;refine (zb0 _ _ _).mono ?_;rintro e w2 ⟨⟨gg,rfl,hgg⟩,hb⟩;have Z:Hid (w2.heap[gg]?=some (.cells #[.int .i64 1,.int .i64 32] 134 (0,0))/\Below w'.heap.size w' w2):=⟨hgg,hb⟩;clear hgg hb);simp only [Exit.jump];go_ret3;rw [HR2.out];exact ⟨⟨gg,rfl,Z.out.1⟩,Z.out.2⟩
     · have HR2:Hid (R=(((k+1:Nat):Int),acc,none)):=by show _=_;rw [HR.out,if_neg hm]
       go_wp2;simp only [Exit.jump];go_ret3;rw [HR2.out];exact ⟨rfl,Below.refl _ _⟩
   go_wp2_with (go_at_call 216;refine FS.out.mono ?_;rintro e w' ⟨rfl,hee⟩;obtain rfl:=hee.symm;clear hee);go_loopg [8,9] 4 (fun gg s8 s9 wx=>∃ (k:Nat) (acc:Int),s8 = .int .i64 acc/\s9 = .int .i64 k/\k+gg=5/\Hid (wx=w)/\1<=k/\k<=n/\0<=acc/\Hid (acc<128 ^ (k-1))/\Hid (R=lenF z n most gg k acc));case atStart=>exact ⟨1,0,rfl,rfl,rfl,rfl,by omega,by have:=H0.out;omega,by omega,by show (0:Int)<128 ^ 0;decide,HV.out⟩
   case round =>
    obtain ⟨k,acc,rfl,rfl,hkg,hw,hk1,hkn,ha0,A1,E0⟩:=hrel;have hww:=hw.out;clear hw;subst hww;by_cases hk4:5<=k
    · have e5:k=5:=by omega
      have HR:Hid (R=(0,0,some (4,12))):=by show _=_;rw [E0.out,show gk=0 by omega];rfl
      subst e5;clear E0 A1;go_wp2_with (go_at_call 217;refine (zb0 _ _ _).mono ?_;rintro e w2 ⟨⟨gg,rfl,hgg⟩,hb⟩;have Z:Hid (w2.heap[gg]?=some (.cells #[.int .i64 4,.int .i64 12] 134 (0,0))/\Below wr.heap.size wr w2):=⟨hgg,hb⟩;clear hgg hb);simp only [Exit.jump];go_ret3;rw [HR.out];exact ⟨⟨gg,rfl,Z.out.1⟩,Z.out.2⟩
    obtain ⟨gg,rfl⟩:∃ gg,gk=gg+1:=⟨gk-1,by omega⟩;by_cases hkn':k=n
    · have HR:Hid (R=(0,0,none)):=by show _=_;rw [E0.out,lenF,if_pos hkn']
      subst hkn';have k4:(k:Int)<=4:=by omega
      clear E0 A1;go_wp2;simp only [Exit.jump];go_ret3;rw [HR.out];exact ⟨rfl,Below.refl _ _⟩
    have ck:=HC.out k (by omega);have hx:=HZ.out k;have E1:Hid (R=if z k<128 then (if most<acc+z k % 128*128 ^ (k-1) then (0,0,some (1,32)) else (((k+1:Nat):Int),acc+z k % 128*128 ^ (k-1),none)) else lenF z n most gg (k+1) (acc+z k % 128*128 ^ (k-1))):=by show _=_;rw [E0.out,lenF,if_neg hkn']
    have A2:Hid (acc+z k % 128*128 ^ (k-1)<128 ^ k):=by have q:=grp_nat (k-1) acc (z k) ha0 A1.out hx;rw [show k-1+1=k by omega] at q;exact q
    obtain ⟨x,hxx⟩:∃ x,x=z k:=⟨_,rfl⟩;rw [<-hxx] at ck hx E1 A2;have f1:=and127 x hx;have f2:=and128 x hx;have hkc:k=1\/k=2\/k=3\/k=4:=by omega
    have HG:Hid (k+1+gg=5):=by show _=_;omega
    have KN:Hid (k+1<=n):=by show _<=_;omega
    clear hxx E0 hk4 hkg;rcases hkc with rfl | rfl | rfl | rfl
    · have a1:acc<1:=by have q:=A1.out;simpa using q
      have o1:bits .or .i64 acc (x % 128)=acc+x % 128:=or_up 0 (by decide) acc (x % 128) ha0 (by simp;omega) (by simp;omega) (by omega) (by simp;try omega) (by simp;omega);have EY:Hid (acc+x % 128*128 ^ (1-1)=acc+x % 128):=by show _=_;simp
      have nk:¬ (n:Int)=1:=by omega
      have nk':(1:Int)<n:=by have:=KN.out;omega
      rw [EY.out] at E1 A2;clear EY hkn' hkn;by_cases hlt:x<128
      · have f3:(bits .and .u8 x 128==0)=true:=by rw [f2];exact decide_eq_true hlt
        have HR:Hid (R=if most<acc+x % 128 then (0,0,some (1,32)) else (((1+1:Nat):Int),acc+x % 128,none)):=by show _=_;rw [E1.out,if_pos hlt]
        clear f2 hlt E1;go_wp2;go_step3;refine ⟨rfl,rfl,1,acc+x % 128,_,_,_,_,_,_,_,_,_,_,_,_,_,_,_,_,_,_,_,_,_,_,_,_,_,_,_,_,_,_,_,_,_,_,_,_,_,_,_,_,_,_,_,_,_,_,_,_,rfl,by omega,by omega,HR⟩
      · have f3:(bits .and .u8 x 128==0)=false:=by rw [f2];exact decide_eq_false hlt
        have HR:Hid (R=lenF z n most gg (1+1) (acc+x % 128)):=by show _=_;rw [E1.out,if_neg hlt]
        clear f2 hlt E1;go_wp2;go_roundg gg;case measure=>omega
        case rel=>exact ⟨1+1,acc+x % 128,by first | rfl | simp,by first | rfl | simp,HG.out,rfl,by omega,KN.out,by omega,A2.out,HR.out⟩
    · have a1:acc<128:=by have q:=A1.out;simpa using q
      have o1:bits .or .i64 acc (x % 128*128)=acc+x % 128*128:=or_up 7 (by decide) acc (x % 128*128) ha0 (by simp;omega) (by simp;omega) (by omega) (by simp;try omega) (by simp;omega);have EY:Hid (acc+x % 128*128 ^ (2-1)=acc+x % 128*128):=by show _=_;simp
      have nk:¬ (n:Int)=2:=by omega
      have nk':(2:Int)<n:=by have:=KN.out;omega
      rw [EY.out] at E1 A2;clear EY hkn' hkn;by_cases hlt:x<128
      · have f3:(bits .and .u8 x 128==0)=true:=by rw [f2];exact decide_eq_true hlt
        have HR:Hid (R=if most<acc+x % 128*128 then (0,0,some (1,32)) else (((2+1:Nat):Int),acc+x % 128*128,none)):=by show _=_;rw [E1.out,if_pos hlt]
        clear f2 hlt E1;go_wp2;go_step3;refine ⟨rfl,rfl,2,acc+x % 128*128,_,_,_,_,_,_,_,_,_,_,_,_,_,_,_,_,_,_,_,_,_,_,_,_,_,_,_,_,_,_,_,_,_,_,_,_,_,_,_,_,_,_,_,_,_,_,_,_,rfl,by omega,by omega,HR⟩
      · have f3:(bits .and .u8 x 128==0)=false:=by rw [f2];exact decide_eq_false hlt
        have HR:Hid (R=lenF z n most gg (2+1) (acc+x % 128*128)):=by show _=_;rw [E1.out,if_neg hlt]
        clear f2 hlt E1;go_wp2;go_roundg gg;case measure=>omega
        case rel=>exact ⟨2+1,acc+x % 128*128,by first | rfl | simp,by first | rfl | simp,HG.out,rfl,by omega,KN.out,by omega,A2.out,HR.out⟩
    · have a1:acc<16384:=by have q:=A1.out;simpa using q
      have o1:bits .or .i64 acc (x % 128*16384)=acc+x % 128*16384:=or_up 14 (by decide) acc (x % 128*16384) ha0 (by simp;omega) (by simp;omega) (by omega) (by simp;try omega) (by simp;omega);have EY:Hid (acc+x % 128*128 ^ (3-1)=acc+x % 128*16384):=by show _=_;simp
      have nk:¬ (n:Int)=3:=by omega
      have nk':(3:Int)<n:=by have:=KN.out;omega
      rw [EY.out] at E1 A2;clear EY hkn' hkn;by_cases hlt:x<128
      · have f3:(bits .and .u8 x 128==0)=true:=by rw [f2];exact decide_eq_true hlt
        have HR:Hid (R=if most<acc+x % 128*16384 then (0,0,some (1,32)) else (((3+1:Nat):Int),acc+x % 128*16384,none)):=by show _=_;rw [E1.out,if_pos hlt]
        clear f2 hlt E1;go_wp2;go_step3;refine ⟨rfl,rfl,3,acc+x % 128*16384,_,_,_,_,_,_,_,_,_,_,_,_,_,_,_,_,_,_,_,_,_,_,_,_,_,_,_,_,_,_,_,_,_,_,_,_,_,_,_,_,_,_,_,_,_,_,_,_,rfl,by omega,by omega,HR⟩
      · have f3:(bits .and .u8 x 128==0)=false:=by rw [f2];exact decide_eq_false hlt
        have HR:Hid (R=lenF z n most gg (3+1) (acc+x % 128*16384)):=by show _=_;rw [E1.out,if_neg hlt]
        clear f2 hlt E1;go_wp2;go_roundg gg;case measure=>omega
        case rel=>exact ⟨3+1,acc+x % 128*16384,by first | rfl | simp,by first | rfl | simp,HG.out,rfl,by omega,KN.out,by omega,A2.out,HR.out⟩
    · have a1:acc<2097152:=by have q:=A1.out;simpa using q
      have o1:bits .or .i64 acc (x % 128*2097152)=acc+x % 128*2097152:=or_up 21 (by decide) acc (x % 128*2097152) ha0 (by simp;omega) (by simp;omega) (by omega) (by simp;try omega) (by simp;omega);have EY:Hid (acc+x % 128*128 ^ (4-1)=acc+x % 128*2097152):=by show _=_;simp
      have nk:¬ (n:Int)=4:=by omega
      have nk':(4:Int)<n:=by have:=KN.out;omega
      rw [EY.out] at E1 A2;clear EY hkn' hkn;by_cases hlt:x<128
      · have f3:(bits .and .u8 x 128==0)=true:=by rw [f2];exact decide_eq_true hlt
        have HR:Hid (R=if most<acc+x % 128*2097152 then (0,0,some (1,32)) else (((4+1:Nat):Int),acc+x % 128*2097152,none)):=by show _=_;rw [E1.out,if_pos hlt]
        clear f2 hlt E1;go_wp2;go_step3;refine ⟨rfl,rfl,4,acc+x % 128*2097152,_,_,_,_,_,_,_,_,_,_,_,_,_,_,_,_,_,_,_,_,_,_,_,_,_,_,_,_,_,_,_,_,_,_,_,_,_,_,_,_,_,_,_,_,_,_,_,_,rfl,by omega,by omega,HR⟩
      · have f3:(bits .and .u8 x 128==0)=false:=by rw [f2];exact decide_eq_false hlt
        have HR:Hid (R=lenF z n most gg (4+1) (acc+x % 128*2097152)):=by show _=_;rw [E1.out,if_neg hlt]
        clear f2 hlt E1;go_wp2;go_roundg gg;case measure=>omega
        case rel=>exact ⟨4+1,acc+x % 128*2097152,by first | rfl | simp,by first | rfl | simp,HG.out,rfl,by omega,KN.out,by omega,A2.out,HR.out⟩
 · have HV:Hid (R=(0,0,some (0,F))):=by show _=_;rw [hR,headP,if_neg h0,<-hF,if_pos hf]
   have n0:¬ (n:Int)=0:=by omega
   clear hR hc hz hg hF hx0 h0;go_enter Tryz.func138,Tryz.ntmps138;go_wp2;go_step3;go_wp2_with (first | (go_at_call 216;refine FS.out.mono ?_;rintro e w' ⟨rfl,hee⟩;obtain rfl:=hee.symm;clear hee)|(go_at_call 217;refine (zb0 _ _ _).mono ?_;rintro e w2 ⟨⟨gg,rfl,hgg⟩,hb⟩;have Z:Hid (w2.heap[gg]?=some (.cells #[.int .i64 0,.int .i64 F] 134 (0,0))/\Below w.heap.size w w2):=⟨hgg,hb⟩;clear hgg hb));try rw [Exit.noGoto_ret]
   go_ret3;rw [HV.out];exact ⟨⟨gg,rfl,Z.out.1⟩,Z.out.2⟩
open Pkt (Pk Cn Sl In By Is Ss As pkCells Gd KindsAt form isK zar Small ck TT sumN Tx)
theorem zez {q p:Pk} (ha:Alike q p) (T:Tx) (c:Cn):ck T q c=ck T p c:=by obtain ⟨⟨a1,n1,c1⟩,⟨a2,n2,c2⟩,⟨a3,n3,c3⟩,⟨a4,n4,c4⟩,⟨a5,n5,c5⟩,⟨a6,n6,c6⟩,rfl,h1,h2,h3,h4,h5,h6⟩:=ha;obtain ⟨kind,level,clean,keep,client,hasWill,wT,⟨b1,m1,d1⟩,wQ,wR,hasUser,user,hasPass,⟨b2,m2,d2⟩,present,code,dup,mT,⟨b3,m3,d3⟩,mQ,mR,id,⟨b4,m4,d4⟩,⟨b5,m5,d5⟩,⟨b6,m6,d6⟩⟩:=p;simp only at h1 h2 h3 h4 h5 h6;subst h1 h2 h3 h4 h5 h6;rfl
theorem zbo {q p:Pk} {c:Cn} (ha:Alike q p) (h:Small p c):Small q c:=by obtain ⟨s1,s2,s3,s4,s5,s6,rfl,h1,h2,h3,h4,h5,h6⟩:=ha;exact ⟨h.cl,h.us,h.wt,h.mt,by show s1.n<=_;rw [h1];exact h.wp,by show s2.n<=_;rw [h2];exact h.ps,by show s3.n<=_;rw [h3];exact h.mp,by show s4.n<=_;rw [h4];exact h.an,by show s5.n<=_;rw [h5];exact h.cn,by show s6.n<=_;rw [h6];exact h.fn,by show sumN _ s4.n<=_;rw [h4];exact h.sa,by show sumN _ s6.n<=_;rw [h6];exact h.sf⟩
section
variable {z:Nat->Int} {n:Nat}
theorem zd8 (k L:Nat):(txtAt z k L).size=L:=Pkt.zdQ _ _
theorem zbF (r:Rs):(rText z n r).1.size<=n:=by
 unfold rText;split;· exact Nat.zero_le _
 split;· exact Nat.zero_le _
 split;· exact Nat.zero_le _
 split;· exact Nat.zero_le _
 · simp only [zd8];omega
theorem zfb {r:Rs} (h:(rText z n r).2.q=0):r.q=0/\r.at0+2+(rText z n r).1.size<=(rText z n r).2.at0:=by
 revert h;unfold rText;split;· rename_i hq;intro h;exact absurd h hq
 rename_i hq;split;· intro h;cases h
 split;· intro h;cases h
 split;· rename_i hc;intro h;have h':((chk (txtAt z r.at0 (two z r.at0))).2:Int)=0:=h;exact absurd (by omega) hc
 · intro _;refine ⟨alive hq,?_⟩;simp only [zd8];show _<=r.at0+(2+two z r.at0);omega
theorem zeA {r:Rs} (h:r.at0<=n):(rText z n r).2.at0<=n:=by
 unfold rText;split;· exact h
 split;· exact h
 split;· exact h
 split;· exact h
 · show r.at0+(2+two z r.at0)<=n;omega
theorem rByte_q {r:Rs} (h:(rByte z n r).2.q=0):r.q=0/\r.at0+1<=(rByte z n r).2.at0:=by
 revert h;unfold rByte;split;· rename_i hq;intro h;exact absurd h hq
 rename_i hq;split;· intro h;cases h
 · intro _;exact ⟨alive hq,Nat.le_refl _⟩
theorem rByte_at {r:Rs} (h:r.at0<=n):(rByte z n r).2.at0<=n:=by
 unfold rByte;split;· exact h
 split;· exact h
 · show r.at0+1<=n;omega
theorem zfg {r:Rs} (h:r.at0<=n):(rNum z n r).2.at0<=n:=by
 unfold rNum;split;· exact h
 split;· exact h
 · show r.at0+2<=n;omega
theorem zdT (r:Rs):(rData z n r).1.1<=n:=by
 unfold rData;split;· exact Nat.zero_le _
 split;· exact Nat.zero_le _
 split;· exact Nat.zero_le _
 · show two z r.at0<=n;omega
def SA (L:List (ByteArray×Int)):Nat:=sumN (fun i=>3+(L.getD i (⟨#[]⟩,0)).1.size) L.length
def SF (L:List ByteArray):Nat:=sumN (fun i=>2+(L.getD i ⟨#[]⟩).size) L.length
theorem SA_append (L:List (ByteArray×Int)) (x:ByteArray×Int):SA (L++[x])=SA L+(3+x.1.size):=by
 unfold SA;rw [List.length_append,List.length_singleton,sumN];congr 1;· exact Pkt.zdg _ _ _ fun i hi=>by simp only [List.getD_eq_getElem?_getD,List.getElem?_append_left hi]
 · simp
theorem SF_append (L:List ByteArray) (x:ByteArray):SF (L++[x])=SF L+(2+x.size):=by
 unfold SF;rw [List.length_append,List.length_singleton,sumN];congr 1;· exact Pkt.zdg _ _ _ fun i hi=>by simp only [List.getD_eq_getElem?_getD,List.getElem?_append_left hi]
 · simp
theorem subF_sum (b:Nat) (r:Rs) (L:List (ByteArray×Int)) (h:r.at0<=n) (hs:r.q=0->SA L<=r.at0):(subF z n b r L).1.at0<=n/\((subF z n b r L).1.q=0->SA (subF z n b r L).2<=(subF z n b r L).1.at0):=by
 induction b generalizing r L with
 | zero=>exact ⟨h,hs⟩;| succ b ih =>
  unfold subF;split;· rename_i hm;refine ih _ _ (rByte_at (zeA h)) fun q=>?_;obtain ⟨q1,l1⟩:=rByte_q q;obtain ⟨q2,l2⟩:=zfb q1;have:=hs q2;rw [SA_append];simp only;omega
  · exact ⟨h,hs⟩
theorem unsF_sum (b:Nat) (r:Rs) (L:List ByteArray) (h:r.at0<=n) (hs:r.q=0->SF L<=r.at0):(unsF z n b r L).1.at0<=n/\((unsF z n b r L).1.q=0->SF (unsF z n b r L).2<=(unsF z n b r L).1.at0):=by
 induction b generalizing r L with
 | zero=>exact ⟨h,hs⟩;| succ b ih =>
  unfold unsF;split;· rename_i hm;refine ih _ _ (zeA h) fun q=>?_;obtain ⟨q2,l2⟩:=zfb q;have:=hs q2;rw [SF_append];omega
  · exact ⟨h,hs⟩
theorem cWill_size (x:Nat->Int) (b:Bool) (r:Rs):(cWill z n b r ⟨#[]⟩ (0,x)).1.1.size<=n/\(cWill z n b r ⟨#[]⟩ (0,x)).1.2.1<=n:=by
 unfold cWill;split;· exact ⟨zbF _,zdT _⟩
 · exact ⟨Nat.zero_le _,Nat.zero_le _⟩
theorem cUser_size (b:Bool) (r:Rs):(cUser z n b r ⟨#[]⟩).1.size<=n:=by
 unfold cUser;split;· exact zbF _
 · exact Nat.zero_le _
theorem cPass_size (x:Nat->Int) (b:Bool) (r:Rs):(cPass z n b r (0,x)).1.1<=n:=by
 unfold cPass;split;· exact zdT _
 · exact Nat.zero_le _
theorem zbm {y x:Rs×Pk×Cn} (h:errOut y = .ok x):x=y/\y.1.q=0:=by
 unfold errOut at h;split at h;· cases h
 · rename_i hq;cases h;exact ⟨rfl,alive hq⟩
theorem zbn (k:Int) (c:Cn):Small (blank k) c := ⟨Nat.zero_le _,Nat.zero_le _,Nat.zero_le _,Nat.zero_le _,Nat.zero_le _,Nat.zero_le _,Nat.zero_le _,Nat.zero_le _,Nat.zero_le _,Nat.zero_le _,Nat.zero_le _,Nat.zero_le _⟩
theorem connect_small {r:Rs} {k:Int} {c:Cn} {y:Rs×Pk×Cn} (hn:n<=700000) (h:connectP z n r (blank k) c = .ok y):Small y.2.1 y.2.2:=by
 unfold connectP at h;split at h;· cases h
 split at h;· cases h
 unfold cMid cEnd at h;split at h;· cases h
 · cases h;have a:=@cWill_size z n c.wz;have b:=@cUser_size z n;have d:=@cPass_size z n c.pz;have e:=@zbF z n;refine ⟨Nat.le_trans (e _) (by omega),Nat.le_trans (b _ _) (by omega),Nat.le_trans (a _ _).1 (by omega),Nat.zero_le _,Nat.le_trans (a _ _).2 (by omega),Nat.le_trans (d _ _) (by omega),Nat.zero_le _,Nat.zero_le _,Nat.zero_le _,Nat.zero_le _,Nat.zero_le _,Nat.zero_le _⟩
theorem zcd {r:Rs} {k fl:Int} {c:Cn} {y:Rs×Pk×Cn} (hn:n<=700000) (hr:r.at0<=n) (h:intoP z n r k c fl = .ok y):Small y.2.1 y.2.2:=by
 have B:=zbn k c;unfold intoP at h;split at h;· exact connect_small hn h
 split at h;·
  unfold connackP at h;split at h;· cases h
  split at h;· cases h
  · cases h
    exact ⟨B.cl,B.us,B.wt,B.mt,B.wp,B.ps,B.mp,B.an,B.cn,B.fn,B.sa,B.sf⟩
 split at h
 · obtain ⟨rfl,_⟩:=zbm h
   exact ⟨B.cl,B.us,B.wt,Nat.le_trans (zbF _) (by omega),B.wp,B.ps,Nat.le_trans zdl (by omega),B.an,B.cn,B.fn,B.sa,B.sf⟩
 split at h;·
  obtain ⟨rfl,hq⟩:=zbm h;have q:=subF_sum (z:=z) (n:=n) n (rNum z n r).2 [] (zfg hr) (fun _=>Nat.zero_le _);have s:=q.2 hq;have l:(subF z n n (rNum z n r).2 []).2.length<=SA (subF z n n (rNum z n r).2 []).2:=Pkt.zdJ _ _ fun i _=>by omega
  exact ⟨B.cl,B.us,B.wt,B.mt,B.wp,B.ps,B.mp,by show (subF z n n (rNum z n r).2 []).2.length<=_;omega,B.cn,B.fn,by show SA (subF z n n (rNum z n r).2 []).2<=_;omega,B.sf⟩
 split at h
 · obtain ⟨rfl,_⟩:=zbm h
   exact ⟨B.cl,B.us,B.wt,B.mt,B.wp,B.ps,B.mp,B.an,Nat.le_trans zdl (by omega),B.fn,B.sa,B.sf⟩
 split at h;·
  obtain ⟨rfl,hq⟩:=zbm h;have q:=unsF_sum (z:=z) (n:=n) n (rNum z n r).2 [] (zfg hr) (fun _=>Nat.zero_le _);have s:=q.2 hq;have l:(unsF z n n (rNum z n r).2 []).2.length<=SF (unsF z n n (rNum z n r).2 []).2:=Pkt.zdJ _ _ fun i _=>by omega
  exact ⟨B.cl,B.us,B.wt,B.mt,B.wp,B.ps,B.mp,B.an,B.cn,by show (unsF z n n (rNum z n r).2 []).2.length<=_;omega,B.sa,by show SF (unsF z n n (rNum z n r).2 []).2<=_;omega⟩
 split at h
 · obtain ⟨rfl,_⟩:=zbm h
   exact B
 · obtain ⟨rfl,_⟩:=zbm h
   exact ⟨B.cl,B.us,B.wt,B.mt,B.wp,B.ps,B.mp,B.an,B.cn,B.fn,B.sa,B.sf⟩
end
end Go.Proofs.YtceigllifjgalaaGreatDoor
namespace Go.Proofs.YtceigllifjgalaaGreatDoor.Dr
open Go Go.RowKit
set_option linter.unusedSimpArgs false
set_option linter.unusedVariables false
set_option maxRecDepth 100000
set_option maxHeartbeats 2000000
section
variable {w:World} {mb:Nat} {p:Int}
theorem run_nil_none {P:Program} (t ty e:TypeId) (i:TypeInfo) (ht:P.underlying t=some (.slice e)) (hi:P.info? e=some i) (a:Option Addr) (c:Nat) : (Builtin.append_ #[t,t] ty #[.slice none 0 0,.slice a 0 c]).run P w = .ok (.slice none 0 0) w:=by cases a with | none=>simp [Builtin.append_,run_underlying ht,sizeOf,typeInfo,hi,Builtin.lenOf,Builtin.firstCells,storeCells] | some a => have hf:=run_firstCells_some (P:=P) w i.size 0 a 0 c [] (by simp) (by intro j v h;simp at h);simp [Builtin.append_,run_underlying ht,sizeOf,typeInfo,hi,Builtin.lenOf,hf,storeCells]
theorem zee (ty:TypeId) (sa:Option Addr) (n c:Nat) (L:List Value) (hc:CL w sa n c L) (h1:∀ u ∈ L,u.oneCell'=true) (hn:n<=1000000) :
 ∃ a k w',(Builtin.append_ #[22,22] ty #[.slice none 0 0,.slice sa n c]).run Tryz.prog w = .ok (.slice a n k) w'/\w'.ownsRow w.heap.size 5 1 (.slice a n k) n L/\Below w.heap.size w w':=by
 obtain ⟨i0,hi,hz0,hz1,hz2⟩:=info_parts binfo5;by_cases h0:n=0
 · subst h0
   have hL:L=[]:=List.eq_nil_of_length_eq_zero hc.2.1;subst hL;exact ⟨none,0,w,run_nil_none 22 ty 5 i0 Tryz.underlying22 hi sa c,World.ownsRow_nil _ _ _ _,Below.refl _ _⟩
 · obtain ⟨g,off,e,hcell⟩:=hc.2.2.resolve_left h0
   subst e;obtain ⟨v',w',hr,ho,hg,hne,hw⟩:=zbK (P:=Tryz.prog) w w.heap.size 22 ty 5 i0 (.int .u8 0) 1 1 Tryz.underlying22 hi hz0 hz1 hz2 rfl (by decide) _ 0 [] (World.ownsRow_nil _ _ _ _) ⟨g,off,none⟩ n c L (by omega) (by rw [hc.2.1,Nat.mul_one]) (fun j u hu=>by
    have hj:j<n:=by have:=(List.getElem?_eq_some_iff.1 hu).1;rw [hc.2.1] at this;exact this
    rw [za9,hcell j hj,hu]) h1 (by unfold maxLen;omega) (by omega) (Nat.le_refl _)
   rw [Nat.zero_add,List.nil_append] at ho;have hb:=(Below.refl w.heap.size w).grown hg (Nat.le_refl _) (fun q hq=>by simp [Value.ownBlock] at hq);rcases ho.2 with ⟨q,_⟩|⟨g',cap,cur,q,_⟩;· exact absurd q (by intro q;subst q;have:=ho.1;have h2:=hc.2.1;omega)
   · subst q
     exact ⟨_,_,w',hr,ho,hb⟩
theorem zem {ops:Array Oper} {o:Oper} {a:Act} {K:Act->World->Prop} {Q:Exit->Act->World->Prop} {E:Prop} (hgd:o.guard=none) (s x:Operand) (ho:o.op = .call { callee:=.builtin .append,args:=#[s,x],argTypes:=#[22,22] })
 (hs:a.eval s = .slice none 0 0) (sa:Option Addr) (n c:Nat) (L:List Value) (hx:a.eval x = .slice sa n c) (hc:CL w sa n c L) (h1:∀ u ∈ L,u.oneCell'=true) (hn:n<=1000000) (k:∀ a' k' w',w'.ownsRow w.heap.size 5 1 (.slice a' n k') n L->Below w.heap.size w w'->K (a.put o.dst (.slice a' n k')) w'):if Region.wanted o (yielded ops a.tmps)=true then Oper.wp Tryz.prog o a w K Q else E:=by
 have hw:Region.wanted o (yielded ops a.tmps)=true:=by simp [Region.wanted,hgd]
 rw [if_pos hw];obtain ⟨a',k',w',hr,h2,h3⟩:=zee (w:=w) o.type sa n c L hc h1 hn;unfold Oper.wp;simp [execOp,ho,resolve,invoke,builtin,hs,hx,hr,Result.andThen];exact k a' k' w' h2 h3
theorem Rr.below {w':World} {v:Value} {at0 q:Int} (h:Rr w mb v at0 q p) (hb:Below w.heap.size w w'):Rr w' mb v at0 q p:=(hb.block mb (lt_of_block h)).trans h
theorem rtake_ok {g l c:Nat} {at0 n:Nat} {z:Nat->Int} (h:Rr w mb (.slice (some ⟨g,0,none⟩) l c) at0 0 p) (hc:Came w (some ⟨g,0,none⟩) l c z) (hl:l<=300000) (hn:at0+n<=l) :
 Calls Tryz.prog 252 #[.pointer (some ⟨mb,0,none⟩),.int .i64 n] w fun e w'=>∃ a k w1,e = .returned (.tuple #[.slice a n k,.bool true])/\w1.ownsRow w.heap.size 5 1 (.slice a n k) n (cellsOf (fun i=>z (at0+i)) n)/\Below w.heap.size w w1/\w'=w1.setCell ⟨mb,1,none⟩ (.int .i64 ((at0+n:Nat):Int)):=by
 obtain ⟨c0,c1,c2,c3,f⟩:=h.facts;have hlc:l<=c:=hc.1;have HR:Hid (∀ w1,Below w.heap.size w w1->w1.cell? ⟨mb,1,none⟩=some (.int .i64 at0)/\w1.frozen? ⟨mb,1,none⟩=false):=fun w1 hb=>⟨(h.below hb).facts.2.1,(h.below hb).facts.2.2.2.2 1⟩;have HR0:Hid (∀ w1,Below w.heap.size w w1->w1.cell? ⟨mb,0,none⟩=some (.slice (some ⟨g,0,none⟩) l c)):=fun w1 hb=>(h.below hb).facts.1;have s1:((at0+n:Nat):Int)-(at0:Int)=(n:Int):=by omega
 have s2:(0:Int)<=(at0:Int):=by omega
 have s3:(at0:Int)<=((at0+n:Nat):Int):=by omega
 have s4:((at0+n:Nat):Int)<=(c:Int):=by omega
 have s5:at0+n-at0=n:=by omega
 have t1:(0:Int)<=(at0:Int)+n/\(at0:Int)+n<=c:=by omega
 have t2:at0<=((at0:Int)+n).toNat:=by omega
 have t3:((at0:Int)+n).toNat-at0=n:=by omega
 obtain ⟨ad,had⟩:∃ ad,(if c=at0 then some (⟨g,0,none⟩:Addr) else some ⟨g,at0,none⟩)=some ad:=by
  split;· exact ⟨_,rfl⟩
  · exact ⟨_,rfl⟩
 have HC:Hid (CL w.drew.drew (some ad) n (c-at0) (cellsOf (fun i=>z (at0+i)) n)):=by
  refine ⟨by omega,by simp [cellsOf],?_⟩;by_cases hca:c=at0;· exact .inl (by omega)
  rw [if_neg hca] at had;obtain rfl:=Option.some.inj had;refine .inr ⟨g,at0,rfl,fun j hj=>?_⟩;rw [show (cellsOf (fun i=>z (at0+i)) n)[j]?=some (.int .u8 (z (at0+j))) by simp [cellsOf,hj]];exact zdL hc (show at0+j<l by omega)
 have HO:Hid (∀ u ∈ cellsOf (fun i=>z (at0+i)) n,u.oneCell'=true):=fun u hu=>zaT _ _ u hu;have HN:Hid (n<=1000000):=(by omega:n<=1000000);have e2:IntKind.i64.wrap ((l:Int)-(at0:Int))=(l:Int)-at0:=by rw [IntKind.wrap_i64];omega
 have e3:wrap64 ((l:Int)-(at0:Int))=(l:Int)-at0:=by unfold wrap64;omega
 have e4:¬ (l:Int)-(at0:Int)<(n:Int):=by omega
 have e5:IntKind.i64.wrap ((at0:Int)+(n:Int))=((at0+n:Nat):Int):=by rw [IntKind.wrap_i64];omega
 have e6:wrap64 ((at0:Int)+(n:Int))=((at0+n:Nat):Int):=by unfold wrap64;omega
 clear h hn f hl hc;go_enter Tryz.func252,Tryz.ntmps252;go_wp2_with fail;go_region;all_goals go_wp2_with fail
 refine wp_region_held_drew (S:=fun w'=>w'.cell? ⟨mb,0,none⟩=some (.slice (some ⟨g,0,none⟩) l c)/\w'.cell? ⟨mb,1,none⟩=some (.int .i64 at0)) (by kernel_rfl) ⟨c0,c1⟩ (fun hHeld=>?_);change wpAnyH _ _ _ _ _ 18 #[false,false,false,false,false,false,false,false,false,false,false,false,false,false,false,false,false,false] _ (World.drew _);refine tkz 0 ⟨some 31,.move (.tmp 6),22,"crierref1.go:177",#[],none⟩ (.slice none 0 0) (by intro wq hSw;(try dsimp only at hSw);clear hHeld;go_simp) hHeld ?_;simp only [Act.put,zz1,zz2,zz3];refine tkz 1 ⟨some 32,.move (.tmp 0),230,"crierref1.go:177",#[],none⟩ (.pointer (some ⟨mb,0,none⟩)) (by intro wq hSw;(try dsimp only at hSw);clear hHeld;go_simp) hHeld ?_;simp only [Act.put,zz1,zz2,zz3];refine tkz 2 ⟨some 33,.nilCheck (.tmp 32),0,"crierref1.go:177",#[⟨1,.data⟩],none⟩ (.pointer (some ⟨mb,0,none⟩)) (by intro wq hSw;(try dsimp only at hSw);clear hHeld;go_simp) hHeld ?_;simp only [Act.put,zz1,zz2,zz3];refine tkz 3 ⟨some 34,.fieldAddr 236 (.tmp 33) 0,0,"crierref1.go:177",#[⟨2,.data⟩],none⟩ (.pointer (some ⟨mb,0,none⟩)) (by intro wq hSw;(try dsimp only at hSw);clear hHeld;go_simp) hHeld ?_;simp only [Act.put,zz1,zz2,zz3];refine tkz 4 ⟨some 35,.load 22 (.tmp 34),22,"crierref1.go:177",#[⟨3,.data⟩],none⟩ (.slice (some ⟨g,0,none⟩) l c) (by intro wq hSw;(try dsimp only at hSw);clear hHeld;go_simp) hHeld ?_;simp only [Act.put,zz1,zz2,zz3];refine tkz 5 ⟨some 36,.move (.tmp 0),230,"crierref1.go:177",#[],none⟩ (.pointer (some ⟨mb,0,none⟩)) (by intro wq hSw;(try dsimp only at hSw);clear hHeld;go_simp) hHeld ?_;simp only [Act.put,zz1,zz2,zz3];refine tkz 6 ⟨some 37,.nilCheck (.tmp 36),0,"crierref1.go:177",#[⟨5,.data⟩],none⟩ (.pointer (some ⟨mb,0,none⟩)) (by intro wq hSw;(try dsimp only at hSw);clear hHeld;go_simp) hHeld ?_;simp only [Act.put,zz1,zz2,zz3];refine tkz 7 ⟨some 38,.fieldAddr 236 (.tmp 37) 1,0,"crierref1.go:177",#[⟨6,.data⟩],none⟩ (.pointer (some ⟨mb,1,none⟩)) (by intro wq hSw;(try dsimp only at hSw);clear hHeld;go_simp) hHeld ?_;simp only [Act.put,zz1,zz2,zz3];refine tkz 8 ⟨some 39,.load 3 (.tmp 38),3,"crierref1.go:177",#[⟨7,.data⟩],none⟩ (.int .i64 at0) (by intro wq hSw;(try dsimp only at hSw);clear hHeld;go_simp) hHeld ?_;simp only [Act.put,zz1,zz2,zz3];refine tkz 9 ⟨some 40,.move (.tmp 0),230,"crierref1.go:177",#[],none⟩ (.pointer (some ⟨mb,0,none⟩)) (by intro wq hSw;(try dsimp only at hSw);clear hHeld;go_simp) hHeld ?_;simp only [Act.put,zz1,zz2,zz3];refine tkz 10 ⟨some 41,.nilCheck (.tmp 40),0,"crierref1.go:177",#[⟨9,.data⟩],none⟩ (.pointer (some ⟨mb,0,none⟩)) (by intro wq hSw;(try dsimp only at hSw);clear hHeld;go_simp) hHeld ?_;simp only [Act.put,zz1,zz2,zz3];refine tkz 11 ⟨some 42,.fieldAddr 236 (.tmp 41) 1,0,"crierref1.go:177",#[⟨10,.data⟩],none⟩ (.pointer (some ⟨mb,1,none⟩)) (by intro wq hSw;(try dsimp only at hSw);clear hHeld;go_simp) hHeld ?_;simp only [Act.put,zz1,zz2,zz3];refine tkz 12 ⟨some 43,.load 3 (.tmp 42),3,"crierref1.go:177",#[⟨11,.data⟩],none⟩ (.int .i64 at0) (by intro wq hSw;(try dsimp only at hSw);clear hHeld;go_simp) hHeld ?_;simp only [Act.put,zz1,zz2,zz3];refine tkz 13 ⟨some 44,.move (.tmp 1),3,"crierref1.go:177",#[],none⟩ (.int .i64 n) (by intro wq hSw;(try dsimp only at hSw);clear hHeld;go_simp) hHeld ?_;simp only [Act.put,zz1,zz2,zz3];refine tkz 14 ⟨some 45,.binOp .add 3 (.tmp 43) (.tmp 44) 3,3,"crierref1.go:177",#[⟨12,.data⟩,⟨13,.data⟩],none⟩ (.int .i64 ((at0+n:Nat):Int)) (by intro wq hSw;(try dsimp only at hSw);clear hHeld;go_simp) hHeld ?_;simp only [Act.put,zz1,zz2,zz3];refine tkz 15 ⟨some 46,.slice 22 (.tmp 35) (some (.tmp 39)) (some (.tmp 45)) none,22,"crierref1.go:177",#[⟨4,.data⟩,⟨8,.data⟩,⟨14,.data⟩],none⟩ (.slice (some ad) n (c-at0)) (by intro wq hSw;(try dsimp only at hSw);clear hHeld;go_simp) hHeld ?_;simp only [Act.put,zz1,zz2,zz3];refine wpAnyH_ready (rs:=[16]) (by kernel_rfl) (by simp) ?_;refine AllReadyH.cons (o:=⟨some 47,.call ⟨.builtin .append,#[.tmp 31,.tmp 46],#[22,22]⟩,22,"crierref1.go:177",#[⟨0,.data⟩,⟨15,.data⟩],none⟩) (by rfl) (fun K hK=>?_) AllReadyH.nil;refine zem rfl (.tmp 31) (.tmp 46) rfl rfl (some ad) n (c-at0) _ rfl HC.out HO.out HN.out ?_;intro a1 k1 w1 h2 h3;have hb1:Below w.heap.size w w1:=⟨h3.os,h3.tape,h3.output,h3.size,h3.block⟩;obtain ⟨d1,d2⟩:=HR.out w1 hb1;have d0:w1.cell? ⟨mb,0,none⟩=some (.slice (some ⟨g,0,none⟩) l c):=HR0.out w1 hb1;have Z:Hid (w1.ownsRow w.heap.size 5 1 (.slice a1 n k1) n (cellsOf (fun i=>z (at0+i)) n)/\Below w.heap.size w w1):=⟨h2,hb1⟩;clear h2 h3 hb1 c0 c1 c2 c3;refine hK.out _ _ ⟨d0,d1⟩ (fun hHeld=>?_);clear hK K;(try simp only [Act.put,zz1,zz2,zz3]);refine tkz 17 ⟨some 6,.assign (.tmp 47),22,"crierref1.go:177",#[⟨16,.data⟩,⟨16,.chain⟩,⟨0,.phase⟩,⟨1,.phase⟩,⟨2,.phase⟩,⟨3,.phase⟩,⟨4,.phase⟩,⟨5,.phase⟩,⟨6,.phase⟩,⟨7,.phase⟩,⟨8,.phase⟩,⟨9,.phase⟩,⟨10,.phase⟩,⟨11,.phase⟩,⟨12,.phase⟩,⟨13,.phase⟩,⟨14,.phase⟩,⟨15,.phase⟩,⟨16,.phase⟩],none⟩ (.slice a1 n k1) (by intro wq hSw;(try dsimp only at hSw);clear hHeld;go_simp) hHeld ?_;simp only [Act.put,zz1,zz2,zz3];refine wpAnyH_done (by kernel_rfl) ?_ _;clear hHeld;go_wp2_with fail;all_goals (try go_ret2)
 all_goals exact ⟨a1,k1,w1,rfl,Z.out.1,Z.out.2,rfl⟩
end
section
variable {a b w w':World} {c k l mb:Nat} {z:Nat->Int} {r:Rs}
def rTake (l:Nat) (r:Rs) (n:Nat):Bool×Rs:=if r.q≠0 then (false,r) else if l<r.at0+n then (false,r.gaveUp l 10) else (true,r.on n)
structure Rrd (w:World) (mb:Nat) (a:Option Addr) (l c:Nat) (z:Nat->Int) (r:Rs):Prop where
 rr:Rr w mb (.slice a l c) r.at0 r.q r.p
 cm:Came w a l c z
 ba:a=none\/∃ g,a=some ⟨g,0,none⟩/\g≠mb
 le:r.at0<=l
 few:l<=300000
theorem zaG {b:Nat} {v:Value} (h:w.cell? ⟨b,k,none⟩=some v):b<w.heap.size:=by
 rcases Nat.lt_or_ge b w.heap.size with q | q;· exact q
 · have e:w.heap[b]?=none:=Array.getElem?_eq_none q
   simp [World.cell?,e] at h
theorem zdn {k:Option Nat} (h:w.drew.grownBy w' k):w.grownBy w' k:=⟨h.os,h.tape,h.output,h.size,h.block⟩
theorem gb_two {c:World} (h1:a.grownBy b (some k)) (h2:b.grownBy c (some k)):a.grownBy c (some k):=⟨h2.os.trans h1.os,h2.tape.trans h1.tape,h2.output.trans h1.output,Nat.le_trans h1.size h2.size,fun j hj hn=>(h2.block j (Nat.lt_of_lt_of_le hj h1.size) hn).trans (h1.block j hj hn)⟩
theorem gb_bel (h:Below a.heap.size a b):a.grownBy b (some k):=⟨h.os,h.tape,h.output,h.size,fun j hj _=>h.block j hj⟩
theorem Rrd.next {a:Option Addr} {r':Rs} (h:Rrd w mb a l c z r) (hg:w.grownBy w' (some mb)) (hr:Rr w' mb (.slice a l c) r'.at0 r'.q r'.p) (hl:r'.at0<=l):Rrd w' mb a l c z r':=by
 refine ⟨hr,?_,h.ba,hl,h.few⟩;rcases h.ba with rfl | ⟨g,rfl,hne⟩;·
  rcases h.cm.2.2 with ⟨_,q1,q2⟩|⟨ad,q,_⟩;· exact ⟨h.cm.1,h.cm.2.1,.inl ⟨rfl,q1,q2⟩⟩
  · cases q
 ·
  by_cases h0:l=0
  · subst h0
    exact came_of h.cm.1 h.cm.2.1 (fun i hi=>absurd hi (Nat.not_lt_zero _))
  · have hlt:g<w.heap.size:=zaG (zdL h.cm (show 0<l by omega))
    exact came_heap h.cm (hg.block g hlt (fun e=>hne (Option.some.inj e)))
theorem rtake_nil {p:Int} (h:Rr w mb (.slice none 0 0) 0 0 p):Calls Tryz.prog 252 #[.pointer (some ⟨mb,0,none⟩),.int .i64 0] w fun e w'=>∃ a k,e = .returned (.tuple #[.slice a 0 k,.bool true])/\w'.ownsRow 0 5 1 (.slice a 0 k) 0 []/\(∀ g,a=some ⟨g,0,none⟩->w.heap.size<=g)/\Rr w' mb (.slice none 0 0) 0 0 p/\w.grownBy w' (some mb):=by
 obtain ⟨c0,c1,c2,c3,f⟩:=h.facts;have HR:Hid (∀ w1,Below w.heap.size w w1->Rr w1 mb (.slice none 0 0) 0 0 p):=fun w1 hb=>h.below hb;have hw0:IntKind.i64.wrap 0=0:=by rw [IntKind.wrap_i64];decide
 have HC:Hid (CL w.drew.drew none 0 0 []):=⟨by omega,rfl,.inl rfl⟩;clear h f;go_enter Tryz.func252,Tryz.ntmps252;go_wp2_with fail;go_region;all_goals go_wp2_with fail
 refine wp_region_held_drew (S:=fun w'=>w'.cell? ⟨mb,0,none⟩=some (.slice none 0 0)/\w'.cell? ⟨mb,1,none⟩=some (.int .i64 0)) (by kernel_rfl) ⟨c0,c1⟩ (fun hHeld=>?_);change wpAnyH _ _ _ _ _ 18 #[false,false,false,false,false,false,false,false,false,false,false,false,false,false,false,false,false,false] _ (World.drew _);refine tkz 0 ⟨some 31,.move (.tmp 6),22,"crierref1.go:177",#[],none⟩ (.slice none 0 0) (by intro wq hSw;(try dsimp only at hSw);clear hHeld;go_simp) hHeld ?_;simp only [Act.put,zz1,zz2,zz3];refine tkz 1 ⟨some 32,.move (.tmp 0),230,"crierref1.go:177",#[],none⟩ (.pointer (some ⟨mb,0,none⟩)) (by intro wq hSw;(try dsimp only at hSw);clear hHeld;go_simp) hHeld ?_;simp only [Act.put,zz1,zz2,zz3];refine tkz 2 ⟨some 33,.nilCheck (.tmp 32),0,"crierref1.go:177",#[⟨1,.data⟩],none⟩ (.pointer (some ⟨mb,0,none⟩)) (by intro wq hSw;(try dsimp only at hSw);clear hHeld;go_simp) hHeld ?_;simp only [Act.put,zz1,zz2,zz3];refine tkz 3 ⟨some 34,.fieldAddr 236 (.tmp 33) 0,0,"crierref1.go:177",#[⟨2,.data⟩],none⟩ (.pointer (some ⟨mb,0,none⟩)) (by intro wq hSw;(try dsimp only at hSw);clear hHeld;go_simp) hHeld ?_;simp only [Act.put,zz1,zz2,zz3];refine tkz 4 ⟨some 35,.load 22 (.tmp 34),22,"crierref1.go:177",#[⟨3,.data⟩],none⟩ (.slice none 0 0) (by intro wq hSw;(try dsimp only at hSw);clear hHeld;go_simp) hHeld ?_;simp only [Act.put,zz1,zz2,zz3];refine tkz 5 ⟨some 36,.move (.tmp 0),230,"crierref1.go:177",#[],none⟩ (.pointer (some ⟨mb,0,none⟩)) (by intro wq hSw;(try dsimp only at hSw);clear hHeld;go_simp) hHeld ?_;simp only [Act.put,zz1,zz2,zz3];refine tkz 6 ⟨some 37,.nilCheck (.tmp 36),0,"crierref1.go:177",#[⟨5,.data⟩],none⟩ (.pointer (some ⟨mb,0,none⟩)) (by intro wq hSw;(try dsimp only at hSw);clear hHeld;go_simp) hHeld ?_;simp only [Act.put,zz1,zz2,zz3];refine tkz 7 ⟨some 38,.fieldAddr 236 (.tmp 37) 1,0,"crierref1.go:177",#[⟨6,.data⟩],none⟩ (.pointer (some ⟨mb,1,none⟩)) (by intro wq hSw;(try dsimp only at hSw);clear hHeld;go_simp) hHeld ?_;simp only [Act.put,zz1,zz2,zz3];refine tkz 8 ⟨some 39,.load 3 (.tmp 38),3,"crierref1.go:177",#[⟨7,.data⟩],none⟩ (.int .i64 0) (by intro wq hSw;(try dsimp only at hSw);clear hHeld;go_simp) hHeld ?_;simp only [Act.put,zz1,zz2,zz3];refine tkz 9 ⟨some 40,.move (.tmp 0),230,"crierref1.go:177",#[],none⟩ (.pointer (some ⟨mb,0,none⟩)) (by intro wq hSw;(try dsimp only at hSw);clear hHeld;go_simp) hHeld ?_;simp only [Act.put,zz1,zz2,zz3];refine tkz 10 ⟨some 41,.nilCheck (.tmp 40),0,"crierref1.go:177",#[⟨9,.data⟩],none⟩ (.pointer (some ⟨mb,0,none⟩)) (by intro wq hSw;(try dsimp only at hSw);clear hHeld;go_simp) hHeld ?_;simp only [Act.put,zz1,zz2,zz3];refine tkz 11 ⟨some 42,.fieldAddr 236 (.tmp 41) 1,0,"crierref1.go:177",#[⟨10,.data⟩],none⟩ (.pointer (some ⟨mb,1,none⟩)) (by intro wq hSw;(try dsimp only at hSw);clear hHeld;go_simp) hHeld ?_;simp only [Act.put,zz1,zz2,zz3];refine tkz 12 ⟨some 43,.load 3 (.tmp 42),3,"crierref1.go:177",#[⟨11,.data⟩],none⟩ (.int .i64 0) (by intro wq hSw;(try dsimp only at hSw);clear hHeld;go_simp) hHeld ?_;simp only [Act.put,zz1,zz2,zz3];refine tkz 13 ⟨some 44,.move (.tmp 1),3,"crierref1.go:177",#[],none⟩ (.int .i64 0) (by intro wq hSw;(try dsimp only at hSw);clear hHeld;go_simp) hHeld ?_;simp only [Act.put,zz1,zz2,zz3];refine tkz 14 ⟨some 45,.binOp .add 3 (.tmp 43) (.tmp 44) 3,3,"crierref1.go:177",#[⟨12,.data⟩,⟨13,.data⟩],none⟩ (.int .i64 0) (by intro wq hSw;(try dsimp only at hSw);clear hHeld;go_simp) hHeld ?_;simp only [Act.put,zz1,zz2,zz3];refine tkz 15 ⟨some 46,.slice 22 (.tmp 35) (some (.tmp 39)) (some (.tmp 45)) none,22,"crierref1.go:177",#[⟨4,.data⟩,⟨8,.data⟩,⟨14,.data⟩],none⟩ (.slice none 0 0) (by intro wq hSw;(try dsimp only at hSw);clear hHeld;go_simp) hHeld ?_;simp only [Act.put,zz1,zz2,zz3];refine wpAnyH_ready (rs:=[16]) (by kernel_rfl) (by simp) ?_;refine AllReadyH.cons (o:=⟨some 47,.call ⟨.builtin .append,#[.tmp 31,.tmp 46],#[22,22]⟩,22,"crierref1.go:177",#[⟨0,.data⟩,⟨15,.data⟩],none⟩) (by rfl) (fun K hK=>?_) AllReadyH.nil;refine zem rfl (.tmp 31) (.tmp 46) rfl rfl none 0 0 [] rfl HC.out (by simp) (by omega) ?_;intro a1 k1 w1 h2 h3;have hb1:Below w.heap.size w w1:=⟨h3.os,h3.tape,h3.output,h3.size,h3.block⟩;have hr1:=HR.out w1 hb1;obtain ⟨d0,d1,d2,d3,f1⟩:=hr1.facts;have f11:=f1 1;have hmb:=lt_of_block (HR.out w (Below.refl _ _));have Z:Hid ((w1.setCell ⟨mb,1,none⟩ (.int .i64 0)).ownsRow 0 5 1 (.slice a1 0 k1) 0 []/\(∀ g,a1=some ⟨g,0,none⟩->w.heap.size<=g)/\Rr (w1.setCell ⟨mb,1,none⟩ (.int .i64 0)) mb (.slice none 0 0) 0 0 p/\w.grownBy (w1.setCell ⟨mb,1,none⟩ (.int .i64 0)) (some mb)):=⟨zab (zdr h2) (fun j e=>Below.heap_setCell _ _ _ _ (fun q=>by have:=(h2.lt j e).1;have q:j=mb:=q;have t:w.drew.drew.heap.size=w.heap.size:=rfl;omega)),fun g' e=>(h2.lt g' (by rw [e];rfl)).1,hr1.set1 0,gb_two (gb_bel hb1) (rr_gb1 _ _ _ _)⟩;clear h2 h3 hb1 hr1 f1 c0 c1 c2 c3 hmb;refine hK.out _ _ ⟨d0,d1⟩ (fun hHeld=>?_);clear hK K;(try simp only [Act.put,zz1,zz2,zz3]);refine tkz 17 ⟨some 6,.assign (.tmp 47),22,"crierref1.go:177",#[⟨16,.data⟩,⟨16,.chain⟩,⟨0,.phase⟩,⟨1,.phase⟩,⟨2,.phase⟩,⟨3,.phase⟩,⟨4,.phase⟩,⟨5,.phase⟩,⟨6,.phase⟩,⟨7,.phase⟩,⟨8,.phase⟩,⟨9,.phase⟩,⟨10,.phase⟩,⟨11,.phase⟩,⟨12,.phase⟩,⟨13,.phase⟩,⟨14,.phase⟩,⟨15,.phase⟩,⟨16,.phase⟩],none⟩ (.slice a1 0 k1) (by intro wq hSw;(try dsimp only at hSw);clear hHeld;go_simp) hHeld ?_;simp only [Act.put,zz1,zz2,zz3];refine wpAnyH_done (by kernel_rfl) ?_ _;clear hHeld;go_wp2_with fail;all_goals (try go_ret2)
 all_goals exact ⟨a1,k1,rfl,Z.out⟩
theorem zc0 {a:Option Addr} (h:Rrd w mb a l c z r) (n:Nat):Calls Tryz.prog 252 #[.pointer (some ⟨mb,0,none⟩),.int .i64 n] w fun e w'=>∃ a' m k,e = .returned (.tuple #[.slice a' m k,.bool (rTake l r n).1])/\m=(if (rTake l r n).1 then n else 0)/\w'.ownsRow 0 5 1 (.slice a' m k) m (cellsOf (fun i=>z (r.at0+i)) m)/\(∀ g,a'=some ⟨g,0,none⟩->w.heap.size<=g)/\Rrd w' mb a l c z (rTake l r n).2/\w.grownBy w' (some mb):=by
 have hle:=h.le;have hf:=h.few;unfold rTake;by_cases hq:r.q≠0;· rw [if_pos hq];refine (rtake_dead h.rr hq n).mono ?_;rintro e w' ⟨rfl,rfl⟩;exact ⟨none,0,0,rfl,rfl,World.ownsRow_nil _ _ _ _,(fun g q=>by cases q),h,zah _ _⟩
 rw [if_neg hq];have q0:r.q=0:=by simpa using hq
 have hR:=h.rr;rw [q0] at hR;by_cases hn:l<r.at0+n;· rw [if_pos hn];refine (rtake_short hR hf hle hn).mono ?_;rintro e w' ⟨rfl,rfl⟩;have hg:w.grownBy ((w.drew.setCell ⟨mb,2,none⟩ (.int .i64 10)).setCell ⟨mb,3,none⟩ (.int .i64 l)) (some mb):=zdn (gb_two (rr_gb1 _ _ _ _) (rr_gb1 _ _ _ _));exact ⟨none,0,0,rfl,rfl,World.ownsRow_nil _ _ _ _,(fun g q=>by cases q),h.next (r':=r.gaveUp l 10) hg (((hR.drew).set2 10).set3 l) hle,hg⟩
 rw [if_neg hn];rcases h.ba with rfl | ⟨g,rfl,hne⟩;·
  rcases h.cm.2.2 with ⟨_,q1,q2⟩|⟨ad,q,_⟩;·
   subst q1 q2;have e0:r.at0=0:=by omega
   have n0:n=0:=by omega
   subst n0;rw [e0] at hR;refine (rtake_nil hR).mono ?_;rintro e w' ⟨a',k,rfl,s1,s2,r1,r2⟩;exact ⟨a',0,k,rfl,rfl,s1,s2,h.next (r':=r.on 0) r2 (by show Rr w' mb _ ((r.at0+0:Nat):Int) 0 r.p;rw [e0];exact r1) (by show r.at0+0<=0;omega),r2⟩
  · cases q
 ·
  refine (rtake_ok hR h.cm hf (by omega)).mono ?_;rintro e w' ⟨a',k,w1,rfl,q1,q2,rfl⟩;have hg:w.grownBy (w1.setCell ⟨mb,1,none⟩ (.int .i64 ((r.at0+n:Nat):Int))) (some mb):=gb_two (gb_bel q2) (rr_gb1 _ _ _ _);have hmb:mb<w.heap.size:=lt_of_block hR;refine ⟨a',n,k,rfl,rfl,zab (zdr q1) (fun j e=>Below.heap_setCell _ _ _ _ (fun q=>?_)),fun g' e=>?_,h.next (r':=r.on n) hg ((hR.below q2).set1 _) (by show r.at0+n<=l;omega),hg⟩
  · have:=(q1.lt j e).1
    have q:j=mb:=q;omega
  · exact (q1.lt g' (by rw [e];rfl)).1
end
set_option maxHeartbeats 1000000
section
variable {w:World} {a:Option Addr} {c l mb:Nat} {z:Nat->Int} {r:Rs}
theorem row_at {n k:Nat} {Z:Nat->Int} (h:w.ownsRow 0 5 1 (.slice a n k) n (cellsOf Z n)) (hn:0<n):∃ g,a=some ⟨g,0,none⟩/\n<=k/\∀ i,i<n->w.cell? ⟨g,i,none⟩=some (.int .u8 (Z i)):=by
 have h0:=h;rcases h.2 with ⟨q,h0⟩|⟨g,cap,cur,q,_,hg,hc,_⟩;· omega
 ·
  injection q with q1 q2 q3;subst q1 q3;refine ⟨g,rfl,?_,fun i hi=>?_⟩;· omega
  · have:=h0.cells (g:=g) rfl i (.int .u8 (Z i)) (by simp [cellsOf,hi])
    rw [za9,Nat.zero_add] at this;exact this
def rByte (z:Nat->Int) (l:Nat) (r:Rs):Int×Rs:=(if (rTake l r 1).1 then z r.at0 else 0,(rTake l r 1).2)
def rNum (z:Nat->Int) (l:Nat) (r:Rs):Int×Rs:=(if (rTake l r 2).1 then z r.at0*256+z (r.at0+1) else 0,(rTake l r 2).2)
theorem refByte_any (h:Rrd w mb a l c z r):Calls Tryz.prog 210 #[.pointer (some ⟨mb,0,none⟩)] w fun e w'=>e = .returned (.int .u8 (rByte z l r).1)/\Rrd w' mb a l c z (rByte z l r).2/\w.grownBy w' (some mb):=by
 have H:=hidi (zc0 h 1);unfold rByte;obtain ⟨b,hb⟩:∃ b,(rTake l r 1).1=b:=⟨_,rfl⟩;rw [hb] at H ⊢;obtain ⟨r2,hr2⟩:∃ r2,(rTake l r 1).2=r2:=⟨_,rfl⟩;rw [hr2] at H ⊢;clear hb hr2 h;go_enter Tryz.func210,Tryz.ntmps210;go_wp2_with fail;go_must (go_at_call 252);refine (H.out).mono ?_;rintro e w1 ⟨a',m,k,rfl,hm,q1,q2,q3,q4⟩;have Z:Hid (Rrd w1 mb a l c z r2/\w.grownBy w1 (some mb)):=⟨q3,q4⟩;cases b;·
  obtain rfl:m=0:=hm;clear q1 q2 q3 q4;go_wp2_with fail;all_goals (try go_ret)
  all_goals exact ⟨rfl,Z.out⟩
 ·
  obtain rfl:m=1:=hm;obtain ⟨g,rfl,hk,hc⟩:=row_at q1 (by omega);have d0:=hc 0 (by omega);clear q1 q2 q3 q4 hc;go_wp2_with fail;all_goals (try go_ret)
  all_goals exact ⟨rfl,Z.out⟩
theorem zdi (h:Rrd w mb a l c z r):Calls Tryz.prog 212 #[.pointer (some ⟨mb,0,none⟩)] w fun e w'=>e = .returned (.int .i64 (rNum z l r).1)/\Rrd w' mb a l c z (rNum z l r).2/\w.grownBy w' (some mb):=by
 have H:=hidi (zc0 h 2);have z0:=h.cm.2.1 r.at0;have z1:=h.cm.2.1 (r.at0+1);unfold rNum;obtain ⟨b,hb⟩:∃ b,(rTake l r 2).1=b:=⟨_,rfl⟩;rw [hb] at H ⊢;obtain ⟨r2,hr2⟩:∃ r2,(rTake l r 2).2=r2:=⟨_,rfl⟩;rw [hr2] at H ⊢;obtain ⟨x,hx⟩:∃ x,z r.at0=x:=⟨_,rfl⟩;obtain ⟨y,hy⟩:∃ y,z (r.at0+1)=y:=⟨_,rfl⟩;rw [hx] at z0 ⊢;rw [hy] at z1 ⊢;have HX:Hid (∀ (w1:World) (g:Nat),w1.cell? ⟨g,0,none⟩=some (.int .u8 (z (r.at0+0)))->w1.cell? ⟨g,1,none⟩=some (.int .u8 (z (r.at0+1)))->w1.cell? ⟨g,0,none⟩=some (.int .u8 x)/\w1.cell? ⟨g,1,none⟩=some (.int .u8 y)):=fun w1 g q1 q2=>⟨by rw [q1,Nat.add_zero,hx],by rw [q2,hy]⟩;have e1:IntKind.i64.wrap x=x:=by rw [IntKind.wrap_i64];omega
 have e2:IntKind.i64.wrap y=y:=by rw [IntKind.wrap_i64];omega
 have e3:IntKind.i64.wrap (256*x)=256*x:=by rw [IntKind.wrap_i64];omega
 have e4:IntKind.i64.wrap (256*x+y)=x*256+y:=by rw [IntKind.wrap_i64];omega
 have w1':wrap64 (256*x)=256*x:=by unfold wrap64;omega
 have w2':wrap64 (256*x+y)=x*256+y:=by unfold wrap64;omega
 clear hb hr2 h hx hy z0 z1;go_enter Tryz.func212,Tryz.ntmps212;go_wp2_with fail;go_must (go_at_call 252);refine (H.out).mono ?_;rintro e w1 ⟨a',m,k,rfl,hm,q1,q2,q3,q4⟩;have Z:Hid (Rrd w1 mb a l c z r2/\w.grownBy w1 (some mb)):=⟨q3,q4⟩;have Z':Hid (Rrd w1.drew mb a l c z r2/\w.grownBy w1.drew (some mb)):=⟨q3.next (gb_bel (Below.drew (Below.refl _ _))) q3.rr q3.le,gb_two q4 (gb_bel (Below.drew (Below.refl _ _)))⟩;cases b;·
  obtain rfl:m=0:=hm;clear q1 q2 q3 q4;go_wp2_with fail;all_goals (try go_ret)
  all_goals exact ⟨rfl,Z.out⟩
 ·
  obtain rfl:m=2:=hm;obtain ⟨g,rfl,hk,hc⟩:=row_at q1 (by omega);obtain ⟨d0,d1⟩:=HX.out w1 g (hc 0 (by omega)) (hc 1 (by omega));clear q1 q2 q3 q4 hc;go_wp2_with fail;go_region;all_goals go_wp2_with fail
  all_goals (try go_ret)
  all_goals exact ⟨rfl,Z'.out⟩
end
set_option maxHeartbeats 2000000
section
variable {w:World} {c l mb:Nat} {a:Option Addr} {z:Nat->Int} {r:Rs}
theorem Rrd.drewd (h:Rrd w mb a l c z r):Rrd w.drew mb a l c z r:=h.next (gb_bel (Below.drew (Below.refl _ _))) h.rr h.le
theorem gb_drew1 {a b:World} {k:Nat} (h:a.grownBy b (some k)):a.grownBy b.drew (some k):=gb_two h (gb_bel (Below.drew (Below.refl _ _)))
def rEnd (l:Nat) (r:Rs):Rs:=if r.q≠0 then r else if r.at0<l then r.gaveUp r.at0 15 else r
theorem refEnd_any (h:Rrd w mb a l c z r):Calls Tryz.prog 215 #[.pointer (some ⟨mb,0,none⟩)] w fun e w'=>e = .returned (.tuple #[])/\Rrd w' mb a l c z (rEnd l r)/\w.grownBy w' (some mb):=by
 obtain ⟨c0,c1,c2,c3,f⟩:=h.rr.facts;have hle:=h.le;have Z0:Hid (Rrd w.drew mb a l c z r/\w.grownBy w.drew (some mb)):=⟨h.drewd,gb_drew1 (zah _ _)⟩;have F0:=hidi (zcF h.rr.drew (r.at0:Int) 15);unfold rEnd;by_cases hq:r.q≠0;·
  rw [if_pos hq];have e1:(r.q==0)=false:=by simpa using hq
  clear h hq f;go_enter Tryz.func215,Tryz.ntmps215;go_wp2_with fail;go_region;all_goals go_wp2_with fail
  all_goals (try go_end0)
  all_goals exact ⟨rfl,Z0.out⟩
 rw [if_neg hq];have q0:r.q=0:=by simpa using hq
 have e1:(r.q==0)=true:=by simpa using q0
 by_cases hk:r.at0<l;·
  rw [if_pos hk];have e2:(r.at0:Int)<(l:Int):=by omega
  have hg:w.grownBy ((w.drew.setCell ⟨mb,2,none⟩ (.int .i64 15)).setCell ⟨mb,3,none⟩ (.int .i64 r.at0)) (some mb):=zdn (gb_two (rr_gb1 _ _ _ _) (rr_gb1 _ _ _ _));have Z:Hid (Rrd ((w.drew.setCell ⟨mb,2,none⟩ (.int .i64 15)).setCell ⟨mb,3,none⟩ (.int .i64 r.at0)) mb a l c z (r.gaveUp r.at0 15)/\w.grownBy ((w.drew.setCell ⟨mb,2,none⟩ (.int .i64 15)).setCell ⟨mb,3,none⟩ (.int .i64 r.at0)) (some mb)):=⟨h.next (r':=r.gaveUp r.at0 15) hg ((h.rr.drew.set2 15).set3 _) hle,hg⟩;clear h hq f hg hk hle q0;go_enter Tryz.func215,Tryz.ntmps215;go_wp2_with fail;go_region;all_goals go_wp2_with fail
  all_goals go_must (go_at_call 254)
  all_goals refine (F0.out).mono ?_
  all_goals rintro e w' ⟨rfl,rfl⟩
  all_goals go_wp2_with fail
  all_goals (try go_end0)
  all_goals exact ⟨rfl,Z.out⟩
 ·
  rw [if_neg hk];have e2:¬ (r.at0:Int)<(l:Int):=by omega
  clear h hq f hk hle q0;go_enter Tryz.func215,Tryz.ntmps215;go_wp2_with fail;go_region;all_goals go_wp2_with fail
  all_goals (try go_end0)
  all_goals exact ⟨rfl,Z0.out⟩
end
set_option maxHeartbeats 1000000
theorem own_blk {w:World} {B e s n:Nat} {v:Value} {xs:List Value} (h:w.ownsRow B e s v n xs) {k:Nat} (hk:v.ownBlock=some k):∃ c,w.heap[k]?=some (.cells c e (0,0)):=by
 rcases h.2 with ⟨r,_⟩|⟨g,cap,cur,r,_,hg,_⟩;· rw [r] at hk;cases hk
 ·
  rw [r] at hk;have e':g=k:=by simpa [Value.ownBlock] using hk
  subst e';exact ⟨_,hg⟩
theorem rNum_nat {z:Nat->Int} (hz:∀ i,0<=z i/\z i<=255) (l:Nat) (r:Rs):((rNum z l r).1.toNat:Int)=(rNum z l r).1:=by have h0:=hz r.at0;have h1:=hz (r.at0+1);unfold rNum;dsimp only;split <;> omega
def rDat (z:Nat->Int) (l:Nat) (r:Rs):(Nat×Nat)×Rs := if (rTake l (rNum z l r).2 (rNum z l r).1.toNat).1 then (((rNum z l r).1.toNat,(rNum z l r).2.at0),(rTake l (rNum z l r).2 (rNum z l r).1.toNat).2) else ((0,(rNum z l r).2.at0),⟨r.at0,(rTake l (rNum z l r).2 (rNum z l r).1.toNat).2.p,(rTake l (rNum z l r).2 (rNum z l r).1.toNat).2.q⟩)
theorem zcT {w:World} {mb:Nat} {a:Option Addr} {l c:Nat} {z:Nat->Int} {r:Rs} (h:Rrd w mb a l c z r):Calls Tryz.prog 251 #[.pointer (some ⟨mb,0,none⟩)] w fun e w'=>∃ a' k,e = .returned (.slice a' (rDat z l r).1.1 k)/\w'.ownsRow 0 5 1 (.slice a' (rDat z l r).1.1 k) (rDat z l r).1.1 (cellsOf (fun i=>z ((rDat z l r).1.2+i)) (rDat z l r).1.1)/\(∀ g,a'=some ⟨g,0,none⟩->w.heap.size<=g)/\Rrd w' mb a l c z (rDat z l r).2/\w.grownBy w' (some mb):=by
 have H:=hidi (zdi h);have hn:=rNum_nat h.cm.2.1 l r;unfold rDat;obtain ⟨n,en⟩:∃ n,(rNum z l r).1.toNat=n:=⟨_,rfl⟩;obtain ⟨r1,er1⟩:∃ r1,(rNum z l r).2=r1:=⟨_,rfl⟩;rw [en] at hn ⊢;rw [<-hn,er1] at H;rw [er1];obtain ⟨b,eb⟩:∃ b,(rTake l r1 n).1=b:=⟨_,rfl⟩;obtain ⟨r2,er2⟩:∃ r2,(rTake l r1 n).2=r2:=⟨_,rfl⟩;have HT:Hid (∀ w1,Rrd w1 mb a l c z r1->Calls Tryz.prog 252 #[.pointer (some ⟨mb,0,none⟩),.int .i64 (n:Int)] w1 fun e w'=>∃ a' m k,e = .returned (.tuple #[.slice a' m k,.bool b])/\m=(if b then n else 0)/\w'.ownsRow 0 5 1 (.slice a' m k) m (cellsOf (fun i=>z (r1.at0+i)) m)/\(∀ g,a'=some ⟨g,0,none⟩->w1.heap.size<=g)/\Rrd w' mb a l c z r2/\w1.grownBy w' (some mb)):=fun w1 h1=>by have:=zc0 h1 n;rw [eb,er2] at this;exact this
 rw [eb,er2];obtain ⟨c0,c1,c2,c3,f⟩:=h.rr.facts;have hle:=hidi h.le;have hmb:=hidi (lt_of_block h.rr);clear en er1 hn eb er2 f h;go_enter Tryz.func251,Tryz.ntmps251;go_wp2_with fail;go_must (go_at_call 212);refine (H.out).mono ?_;rintro e w1 ⟨rfl,q1,q2⟩;have J:=hidi (HT.out w1 q1);have G1:=hidi q2;clear q1 q2;go_wp2_with fail;go_must (go_at_call 252);refine (J.out).mono ?_;rintro e w2 ⟨a',m,k,rfl,hm,s1,s2,s3,s4⟩;have hs1:=G1.out.size;cases b;·
  obtain rfl:m=0:=hm;obtain ⟨d0,d1,d2,d3,f2⟩:=s3.rr.facts;have f21:=f2 1;have hg:w.grownBy (w2.setCell ⟨mb,1,none⟩ (.int .i64 r.at0)) (some mb):=gb_two (gb_two G1.out s4) (rr_gb1 _ _ _ _);have Z:Hid ((w2.setCell ⟨mb,1,none⟩ (.int .i64 r.at0)).ownsRow 0 5 1 (.slice a' 0 k) 0 []/\(∀ g,a'=some ⟨g,0,none⟩->w.heap.size<=g)/\Rrd (w2.setCell ⟨mb,1,none⟩ (.int .i64 r.at0)) mb a l c z ⟨r.at0,r2.p,r2.q⟩/\w.grownBy (w2.setCell ⟨mb,1,none⟩ (.int .i64 r.at0)) (some mb)):=⟨zab s1 (fun j e=>Below.heap_setCell _ _ _ _ (fun q=>by have q:j=mb:=q;obtain ⟨cc,hcc⟩:=own_blk s1 e;have:=s3.rr;unfold Rr at this;rw [<-q,hcc] at this;simp at this)),fun g e=>Nat.le_trans hs1 (s2 g e),s3.next (r':=⟨r.at0,r2.p,r2.q⟩) (rr_gb1 _ _ _ _) (s3.rr.set1 _) hle.out,hg⟩;clear s1 s2 s3 s4 f2 hs1 hg;go_wp2_with fail;all_goals (try go_ret)
  all_goals exact ⟨a',k,rfl,Z.out⟩
 ·
  obtain rfl:m=n:=hm;have Z:Hid (w2.ownsRow 0 5 1 (.slice a' m k) m (cellsOf (fun i=>z (r1.at0+i)) m)/\(∀ g,a'=some ⟨g,0,none⟩->w.heap.size<=g)/\Rrd w2 mb a l c z r2/\w.grownBy w2 (some mb)):=⟨s1,fun g e=>Nat.le_trans hs1 (s2 g e),s3,gb_two G1.out s4⟩;clear s1 s2 s3 s4 hs1;go_wp2_with fail;all_goals (try go_ret)
  all_goals exact ⟨a',k,rfl,Z.out⟩
section
variable {w:World} {a:Option Addr}
theorem zd2 (s:ByteArray):∀ b k,(chkF s b k).1<=s.size
 | 0,k=>by simp [chkF];| b+1,k=>by
  unfold chkF;split;·
   split
   · dsimp only
     omega
   · split
     · dsimp only
       omega
     · exact zd2 s b _
  · simp
theorem chk_le (s:ByteArray):(chk s).1<=65535:=by
 unfold chk;split;· simp
 · have:=zd2 s s.size 0
   omega
theorem own_came {n k:Nat} {Z:Nat->Int} (h:w.ownsRow 0 5 1 (.slice a n k) n (cellsOf Z n)) (hz:∀ i,0<=Z i/\Z i<=255):Came w a n k Z:=zdO h rfl hz
def rTxtS (z:Nat->Int) (l:Nat) (r:Rs):ByteArray:=strZ (fun i=>z ((rDat z l r).1.2+i)) (rDat z l r).1.1
def rTxt (z:Nat->Int) (l:Nat) (r:Rs):ByteArray×Rs := if (rDat z l r).2.q≠0 then (⟨#[]⟩,(rDat z l r).2) else if (chk (rTxtS z l r)).2≠0 then (⟨#[]⟩,⟨r.at0,((r.at0+2+(chk (rTxtS z l r)).1:Nat):Int),((chk (rTxtS z l r)).2:Nat)⟩) else (rTxtS z l r,(rDat z l r).2)
theorem refText_any {mb:Nat} {l c:Nat} {z:Nat->Int} {r:Rs} (h:Rrd w mb a l c z r):Calls Tryz.prog 211 #[.pointer (some ⟨mb,0,none⟩)] w fun e w'=>e = .returned (.string (rTxt z l r).1)/\Rrd w' mb a l c z (rTxt z l r).2/\w.grownBy w' (some mb):=by
 have H:=hidi (zcT h);have hz:=h.cm.2.1;unfold rTxt;have hS:rTxtS z l r=strZ (fun i=>z ((rDat z l r).1.2+i)) (rDat z l r).1.1:=rfl;obtain ⟨s,es⟩:∃ s,rTxtS z l r=s:=⟨_,rfl⟩;rw [es] at hS ⊢;obtain ⟨m,em⟩:∃ m,(rDat z l r).1.1=m:=⟨_,rfl⟩;obtain ⟨o,eo⟩:∃ o,(rDat z l r).1.2=o:=⟨_,rfl⟩;obtain ⟨r2,er⟩:∃ r2,(rDat z l r).2=r2:=⟨_,rfl⟩;rw [em,eo] at hS;rw [em,eo,er] at H;rw [er];obtain ⟨pl,q,hcq⟩:∃ pl q,chk s=(pl,q):=⟨_,_,rfl⟩;have hpl:=chk_le s;have HK:Hid (∀ w1:World,Calls Tryz.prog 253 #[.string s] w1 fun e w'=>e = .returned (.tuple #[.int .i64 (pl:Nat),.int .i64 (q:Nat)])/\w'=w1):=fun w1=>by have:=Rm.ref_any s w1;rw [chk_rm,hcq] at this;exact this
 rw [hcq] at hpl ⊢;dsimp only at hpl ⊢;have hle:=h.le;have hfw:=h.few;have e1:IntKind.i64.wrap ((r.at0:Int)+2)=(r.at0:Int)+2:=by rw [IntKind.wrap_i64];omega
 have e2:IntKind.i64.wrap ((r.at0:Int)+2+(pl:Int))=((r.at0+2+pl:Nat):Int):=by rw [IntKind.wrap_i64];omega
 have e3:wrap64 ((r.at0:Int)+2)=(r.at0:Int)+2:=by unfold wrap64;omega
 have e4:wrap64 ((r.at0:Int)+2+(pl:Int))=((r.at0+2+pl:Nat):Int):=by unfold wrap64;omega
 obtain ⟨c0,c1,c2,c3,f⟩:=h.rr.facts;have HCV:Hid (∀ (w1:World) (a':Option Addr) (k:Nat),w1.ownsRow 0 5 1 (.slice a' m k) m (cellsOf (fun i=>z (o+i)) m)->(convert 22 9 (.slice a' m k)).run Tryz.prog w1 = .ok (.string s) w1):=fun w1 a' k ho=>by rw [hS];exact zb3 a' m k _ w1 (own_came ho (fun i=>hz _))
 have HLE:=hidi hle;clear h f hS es em eo er hcq hpl hz hfw hle;by_cases hq:r2.q≠0;·
  rw [if_pos hq];have g1:(r2.q != 0)=true:=by simpa using hq
  go_enter Tryz.func211,Tryz.ntmps211;go_wp2_with fail;go_must (go_at_call 251);refine (H.out).mono ?_;rintro e w1 ⟨a',k,rfl,s1,s2,s3,s4⟩;have cv:=HCV.out w1 a' k s1;obtain ⟨d0,d1,d2,d3,f1⟩:=s3.rr.facts;have f11:=f1 1;have Z:Hid (Rrd w1 mb a l c z r2/\w.grownBy w1 (some mb)):=⟨s3,s4⟩;clear s1 s2 s3 s4 f1 hq;go_wp2_with fail;all_goals (try go_ret)
  all_goals exact ⟨rfl,Z.out⟩
 rw [if_neg hq];have g1:(r2.q != 0)=false:=by simpa using hq
 by_cases hk:q≠0;·
  rw [if_pos hk];have g2:((q:Int) != 0)=true:=by simpa using hk
  go_enter Tryz.func211,Tryz.ntmps211;go_wp2_with fail;go_must (go_at_call 251);refine (H.out).mono ?_;rintro e w1 ⟨a',k,rfl,s1,s2,s3,s4⟩;have cv:=HCV.out w1 a' k s1;obtain ⟨d0,d1,d2,d3,f1⟩:=s3.rr.facts;have f11:=f1 1;have F0:=hidi (zcF (s3.rr.set1 (r.at0:Int)) ((r.at0+2+pl:Nat):Int) (q:Int));have hg:w1.grownBy (((w1.setCell ⟨mb,1,none⟩ (.int .i64 r.at0)).setCell ⟨mb,2,none⟩ (.int .i64 (q:Int))).setCell ⟨mb,3,none⟩ (.int .i64 ((r.at0+2+pl:Nat):Int))) (some mb):=gb_two (gb_two (rr_gb1 _ _ _ _) (rr_gb1 _ _ _ _)) (rr_gb1 _ _ _ _);have Z:Hid (Rrd (((w1.setCell ⟨mb,1,none⟩ (.int .i64 r.at0)).setCell ⟨mb,2,none⟩ (.int .i64 (q:Int))).setCell ⟨mb,3,none⟩ (.int .i64 ((r.at0+2+pl:Nat):Int))) mb a l c z ⟨r.at0,((r.at0+2+pl:Nat):Int),(q:Int)⟩/\w.grownBy (((w1.setCell ⟨mb,1,none⟩ (.int .i64 r.at0)).setCell ⟨mb,2,none⟩ (.int .i64 (q:Int))).setCell ⟨mb,3,none⟩ (.int .i64 ((r.at0+2+pl:Nat):Int))) (some mb)):=⟨s3.next (r':=⟨r.at0,((r.at0+2+pl:Nat):Int),(q:Int)⟩) hg (((s3.rr.set1 _).set2 _).set3 _) HLE.out,gb_two s4 hg⟩;clear s1 s2 s3 s4 f1 hq hk hg;go_wp2_with fail;go_must (go_at_call 253);refine (HK.out _).mono ?_;rintro e w' ⟨rfl,he⟩;obtain rfl:=he.symm;clear he;go_wp2_with fail;go_must (go_at_call 254);refine (F0.out).mono ?_;rintro e w' ⟨rfl,rfl⟩;go_wp2_with fail;all_goals (try go_ret)
  all_goals exact ⟨rfl,Z.out⟩
 ·
  rw [if_neg hk];have g2:((q:Int) != 0)=false:=by simpa using hk
  go_enter Tryz.func211,Tryz.ntmps211;go_wp2_with fail;go_must (go_at_call 251);refine (H.out).mono ?_;rintro e w1 ⟨a',k,rfl,s1,s2,s3,s4⟩;have cv:=HCV.out w1 a' k s1;obtain ⟨d0,d1,d2,d3,f1⟩:=s3.rr.facts;have f11:=f1 1;have Z:Hid (Rrd w1 mb a l c z r2/\w.grownBy w1 (some mb)):=⟨s3,s4⟩;clear s1 s2 s3 s4 f1 hq hk;go_wp2_with fail;go_must (go_at_call 253);refine (HK.out _).mono ?_;rintro e w' ⟨rfl,he⟩;obtain rfl:=he.symm;clear he;go_wp2_with fail;all_goals (try go_ret)
  all_goals exact ⟨rfl,Z.out⟩
end
set_option maxHeartbeats 2000000
section
variable {w:World} {c l mb:Nat} {a:Option Addr} {z:Nat->Int} {r:Rs}
def rRst (l:Nat) (r:Rs):Nat×Rs:=(if (rTake l r (l-r.at0)).1 then l-r.at0 else 0,(rTake l r (l-r.at0)).2)
theorem refRest_any (h:Rrd w mb a l c z r):Calls Tryz.prog 213 #[.pointer (some ⟨mb,0,none⟩)] w fun e w'=>∃ a' k,e = .returned (.slice a' (rRst l r).1 k)/\w'.ownsRow 0 5 1 (.slice a' (rRst l r).1 k) (rRst l r).1 (cellsOf (fun i=>z (r.at0+i)) (rRst l r).1)/\(∀ g,a'=some ⟨g,0,none⟩->w.heap.size<=g)/\Rrd w' mb a l c z (rRst l r).2/\w.grownBy w' (some mb):=by
 have H:=hidi (zc0 h.drewd (l-r.at0));have hle:=h.le;have hfw:=h.few;unfold rRst;obtain ⟨b,eb⟩:∃ b,(rTake l r (l-r.at0)).1=b:=⟨_,rfl⟩;obtain ⟨r2,er⟩:∃ r2,(rTake l r (l-r.at0)).2=r2:=⟨_,rfl⟩;rw [eb,er] at H ⊢;dsimp only;obtain ⟨m,em⟩:∃ m,(if b=true then l-r.at0 else 0)=m:=⟨_,rfl⟩;have e1:IntKind.i64.wrap ((l:Int)-(r.at0:Int))=((l-r.at0:Nat):Int):=by rw [IntKind.wrap_i64];omega
 have e2:wrap64 ((l:Int)-(r.at0:Int))=((l-r.at0:Nat):Int):=by unfold wrap64;omega
 rw [em];have HM:Hid (∀ k:Nat,k=(if b=true then l-r.at0 else 0)->k=m):=fun k q=>q.trans em;obtain ⟨c0,c1,c2,c3,f⟩:=h.rr.facts;clear h hle hfw eb er em f;go_enter Tryz.func213,Tryz.ntmps213;go_wp2_with fail;first | go_region_with (go_at_call 252;refine (H.out).mono ?_;rintro e w1 ⟨a',m',k,rfl,hm,s1,s2,s3,s4⟩;obtain rfl:=HM.out m' hm;have Z:Hid (w1.ownsRow 0 5 1 (.slice a' m' k) m' (cellsOf (fun i=>z (r.at0+i)) m')/\(∀ g,a'=some ⟨g,0,none⟩->w.heap.size<=g)/\Rrd w1 mb a l c z r2/\w.grownBy w1 (some mb)):=⟨s1,s2,s3,zdn s4⟩;clear s1 s2 s3 s4 hm) | fail
 all_goals go_wp2_with fail
 all_goals (try go_ret)
 all_goals exact ⟨a',k,rfl,Z.out⟩
theorem zbX (h:Rrd w mb a l c z r):Calls Tryz.prog 250 #[.pointer (some ⟨mb,0,none⟩)] w fun e w'=>e = .returned (.int .i64 r.at0)/\w'=w:=by
 obtain ⟨c0,c1,c2,c3,f⟩:=h.rr.facts;clear h f;go_enter Tryz.func250,Tryz.ntmps250;go_wp2_with fail;all_goals (try go_ret)
 all_goals exact ⟨rfl,rfl⟩
end
end Go.Proofs.YtceigllifjgalaaGreatDoor.Dr
