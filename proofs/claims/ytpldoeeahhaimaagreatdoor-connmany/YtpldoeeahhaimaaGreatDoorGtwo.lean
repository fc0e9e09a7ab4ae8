import Derived.Test.YtpldoeeahhaimaaGreatDoorMWfour
import Derived.Deep.RegionWith
import Derived.Lib.Strings
import Derived.Lib.AppendZeros
import Derived.Laws.AppendOwnNone
namespace Go.Proofs.YtpldoeeahhaimaaGreatDoor.Dl
open Go.RowKit
set_option linter.all false
set_option maxHeartbeats 1000000
def lenX (len:Nat) (x0 x1 x2 x3:Int):Int×Int×Int := if len=0 then (0,0,10) else if x0<128 then (x0 % 128,1,0) else if len=1 then (0,0,10) else if x1<128 then (x0 % 128+x1 % 128*128,2,0) else if len=2 then (0,0,10) else if x2<128 then (x0 % 128+x1 % 128*128+x2 % 128*16384,3,0) else if len=3 then (0,0,10) else if x3<128 then (x0 % 128+x1 % 128*128+x2 % 128*16384+x3 % 128*2097152,4,0) else (0,0,12)
theorem lenX_short0 {len:Nat} {x0 x1 x2 x3:Int}  (h:len=0):lenX len x0 x1 x2 x3=(0,0,10):=by simp [lenX,h]
theorem lenX_done0 {len:Nat} {x0 x1 x2 x3:Int}  (a:¬ len=0) (h:x0<128):lenX len x0 x1 x2 x3=(x0 % 128,1,0):=by simp [lenX,a,h]
theorem lenX_short1 {len:Nat} {x0 x1 x2 x3:Int} (a0:¬ len=0) (b0:¬ x0<128) (h:len=1):lenX len x0 x1 x2 x3=(0,0,10):=by simp [lenX,a0,b0,h]
theorem lenX_done1 {len:Nat} {x0 x1 x2 x3:Int} (a0:¬ len=0) (b0:¬ x0<128) (a:¬ len=1) (h:x1<128):lenX len x0 x1 x2 x3=(x0 % 128+x1 % 128*128,2,0):=by simp [lenX,a0,b0,a,h]
theorem lenX_short2 {len:Nat} {x0 x1 x2 x3:Int} (a0:¬ len=0) (b0:¬ x0<128) (a1:¬ len=1) (b1:¬ x1<128) (h:len=2):lenX len x0 x1 x2 x3=(0,0,10):=by simp [lenX,a0,b0,a1,b1,h]
theorem lenX_done2 {len:Nat} {x0 x1 x2 x3:Int} (a0:¬ len=0) (b0:¬ x0<128) (a1:¬ len=1) (b1:¬ x1<128) (a:¬ len=2) (h:x2<128):lenX len x0 x1 x2 x3=(x0 % 128+x1 % 128*128+x2 % 128*16384,3,0):=by simp [lenX,a0,b0,a1,b1,a,h]
theorem lenX_short3 {len:Nat} {x0 x1 x2 x3:Int} (a0:¬ len=0) (b0:¬ x0<128) (a1:¬ len=1) (b1:¬ x1<128) (a2:¬ len=2) (b2:¬ x2<128) (h:len=3):lenX len x0 x1 x2 x3=(0,0,10):=by simp [lenX,a0,b0,a1,b1,a2,b2,h]
theorem lenX_done3 {len:Nat} {x0 x1 x2 x3:Int} (a0:¬ len=0) (b0:¬ x0<128) (a1:¬ len=1) (b1:¬ x1<128) (a2:¬ len=2) (b2:¬ x2<128) (a:¬ len=3) (h:x3<128):lenX len x0 x1 x2 x3=(x0 % 128+x1 % 128*128+x2 % 128*16384+x3 % 128*2097152,4,0):=by simp [lenX,a0,b0,a1,b1,a2,b2,a,h]
theorem lenX_form {len:Nat} {x0 x1 x2 x3:Int} (a0:¬ len=0) (b0:¬ x0<128) (a1:¬ len=1) (b1:¬ x1<128) (a2:¬ len=2) (b2:¬ x2<128) (a3:¬ len=3) (b3:¬ x3<128):lenX len x0 x1 x2 x3=(0,0,12):=by simp [lenX,a0,b0,a1,b1,a2,b2,a3,b3]
theorem rlen_some (b off len cap:Nat) (x0 x1 x2 x3:Int) (w:World) (hm:len<=1000000) (z0:0<=x0/\x0<=255) (z1:0<=x1/\x1<=255) (z2:0<=x2/\x2<=255) (z3:0<=x3/\x3<=255) (c0:0<len->w.cell? ⟨b,off,none⟩=some (.int .u8 x0)) (c1:1<len->w.cell? ⟨b,off+1,none⟩=some (.int .u8 x1)) (c2:2<len->w.cell? ⟨b,off+2,none⟩=some (.int .u8 x2)) (c3:3<len->w.cell? ⟨b,off+3,none⟩=some (.int .u8 x3)) :
 Calls Tryz.prog 58 #[.slice (some ⟨b,off,none⟩) len cap] w fun e w'=>e = .returned (.tuple #[.int .i64 (lenX len x0 x1 x2 x3).1,.int .i64 (lenX len x0 x1 x2 x3).2.1,.int .i64 (lenX len x0 x1 x2 x3).2.2])/\w'=w:=by
 go_enter Tryz.func58,Tryz.ntmps58;go_wp2;go_loop [5,6,7] (fun n u i=>(i = .int .i64 0/\n = .int .i64 (0)/\u = .int .i64 1)\/(i = .int .i64 1/\n = .int .i64 (x0 % 128)/\u = .int .i64 128/\¬ len=0/\¬ x0<128)\/(i = .int .i64 2/\n = .int .i64 (x0 % 128+x1 % 128*128)/\u = .int .i64 16384/\¬ len=0/\¬ x0<128/\¬ len=1/\¬ x1<128)\/(i = .int .i64 3/\n = .int .i64 (x0 % 128+x1 % 128*128+x2 % 128*16384)/\u = .int .i64 2097152/\¬ len=0/\¬ x0<128/\¬ len=1/\¬ x1<128/\¬ len=2/\¬ x2<128)\/(i = .int .i64 4/\n = .int .i64 (x0 % 128+x1 % 128*128+x2 % 128*16384+x3 % 128*2097152)/\u = .int .i64 268435456/\¬ len=0/\¬ x0<128/\¬ len=1/\¬ x1<128/\¬ len=2/\¬ x2<128/\¬ len=3/\¬ x3<128)) (fun _ _ i=>4-(intOf i).toNat);case atStart=>exact .inl ⟨rfl,rfl,rfl⟩
 case round =>
  rcases hrel with ⟨rfl,rfl,rfl⟩|⟨rfl,rfl,rfl,a0,b0⟩|⟨rfl,rfl,rfl,a0,b0,a1,b1⟩|⟨rfl,rfl,rfl,a0,b0,a1,b1,a2,b2⟩|⟨rfl,rfl,rfl,a0,b0,a1,b1,a2,b2,a3,b3⟩
  · by_cases a0:len=0
    · have HR:Hid (lenX len x0 x1 x2 x3=(0,0,10)):=lenX_short0  a0
      subst a0;go_wp2;go_ret3;exact ⟨by rw [HR.out];rfl,rfl⟩
    · have q:¬ (len:Int)<=0:=by omega
      have hc:=c0 (by omega);clear c0 c1 c2 c3;by_cases b0:x0<128
      · have HR:Hid (lenX len x0 x1 x2 x3=(x0 % 128,1,0)):=lenX_done0  a0 b0
        go_wp2;go_ret3;exact ⟨by rw [HR.out];first | rfl | go_num,rfl⟩
      · go_wp2
        go_round;case rel=>exact .inr (.inl ⟨rfl,by go_num,rfl,a0,b0⟩)
        case measure=>simp [intOf]
  · by_cases a1:len=1
    · have HR:Hid (lenX len x0 x1 x2 x3=(0,0,10)):=lenX_short1 a0 b0 a1
      subst a1;go_wp2;go_ret3;exact ⟨by rw [HR.out];rfl,rfl⟩
    · have q:¬ (len:Int)<=1:=by omega
      have hc:=c1 (by omega);clear c0 c1 c2 c3;by_cases b1:x1<128
      · have HR:Hid (lenX len x0 x1 x2 x3=(x0 % 128+x1 % 128*128,2,0)):=lenX_done1 a0 b0 a1 b1
        go_wp2;go_ret3;exact ⟨by rw [HR.out];first | rfl | go_num,rfl⟩
      · go_wp2
        go_round;case rel=>exact .inr (.inr (.inl ⟨rfl,by go_num,rfl,a0,b0,a1,b1⟩))
        case measure=>simp [intOf]
  · by_cases a2:len=2
    · have HR:Hid (lenX len x0 x1 x2 x3=(0,0,10)):=lenX_short2 a0 b0 a1 b1 a2
      subst a2;go_wp2;go_ret3;exact ⟨by rw [HR.out];rfl,rfl⟩
    · have q:¬ (len:Int)<=2:=by omega
      have hc:=c2 (by omega);clear c0 c1 c2 c3;by_cases b2:x2<128
      · have HR:Hid (lenX len x0 x1 x2 x3=(x0 % 128+x1 % 128*128+x2 % 128*16384,3,0)):=lenX_done2 a0 b0 a1 b1 a2 b2
        go_wp2;go_ret3;exact ⟨by rw [HR.out];first | rfl | go_num,rfl⟩
      · go_wp2
        go_round;case rel=>exact .inr (.inr (.inr (.inl ⟨rfl,by go_num,rfl,a0,b0,a1,b1,a2,b2⟩)))
        case measure=>simp [intOf]
  · by_cases a3:len=3
    · have HR:Hid (lenX len x0 x1 x2 x3=(0,0,10)):=lenX_short3 a0 b0 a1 b1 a2 b2 a3
      subst a3;go_wp2;go_ret3;exact ⟨by rw [HR.out];rfl,rfl⟩
    · have q:¬ (len:Int)<=3:=by omega
      have hc:=c3 (by omega);clear c0 c1 c2 c3;by_cases b3:x3<128
      · have HR:Hid (lenX len x0 x1 x2 x3=(x0 % 128+x1 % 128*128+x2 % 128*16384+x3 % 128*2097152,4,0)):=lenX_done3 a0 b0 a1 b1 a2 b2 a3 b3
        go_wp2;go_ret3;exact ⟨by rw [HR.out];first | rfl | go_num,rfl⟩
      · go_wp2
        go_round;case rel=>exact .inr (.inr (.inr (.inr (⟨rfl,by go_num,rfl,a0,b0,a1,b1,a2,b2,a3,b3⟩))))
        case measure=>simp [intOf]
  · have HR:Hid (lenX len x0 x1 x2 x3=(0,0,12)):=lenX_form a0 b0 a1 b1 a2 b2 a3 b3
    go_wp2;go_ret3;exact ⟨by rw [HR.out];rfl,rfl⟩
set_option maxHeartbeats 400000
def Byt (w:World) (ao:Option Addr) (len cap:Nat) (z:Nat->Int):Prop := len<=cap/\(∀ i,0<=z i/\z i<=255)/\(len=0\/∃ b off,ao=some ⟨b,off,none⟩/\∀ i,i<len->w.cell? ⟨b,off+i,none⟩=some (.int .u8 (z i)))
def lenZ (len:Nat) (z:Nat->Int):Int×Int×Int:=lenX len (z 0) (z 1) (z 2) (z 3)
theorem rlen_zero (ao:Option Addr) (cap:Nat) (w:World) :
 Calls Tryz.prog 58 #[.slice ao 0 cap] w fun e w'=>e = .returned (.tuple #[.int .i64 0,.int .i64 0,.int .i64 10])/\w'=w:=by
 go_enter Tryz.func58,Tryz.ntmps58;go_wp2;go_loop [5,6,7] (fun n u i=>i = .int .i64 0/\n = .int .i64 0/\u = .int .i64 1) (fun _ _ i=>4-(intOf i).toNat);case atStart=>exact ⟨rfl,rfl,rfl⟩
 case round => obtain ⟨rfl,rfl,rfl⟩:=hrel;go_wp2;go_ret3;exact ⟨rfl,rfl⟩
theorem rlen_any (ao:Option Addr) (len cap:Nat) (z:Nat->Int) (w:World) (h:Byt w ao len cap z) (hm:len<=1000000) :
 Calls Tryz.prog 58 #[.slice ao len cap] w fun e w'=>e = .returned (.tuple #[.int .i64 (lenZ len z).1,.int .i64 (lenZ len z).2.1,.int .i64 (lenZ len z).2.2])/\w'=w:=by
 obtain ⟨hcap,hz,h⟩:=h;by_cases h0:len=0
 · subst h0
   exact rlen_zero ao cap w
 · rcases h with h | ⟨b,off,rfl,hc⟩
   · exact absurd h h0
   · exact rlen_some b off len cap _ _ _ _ w hm (hz 0) (hz 1) (hz 2) (hz 3) (fun h=>hc 0 h) (fun h=>hc 1 h) (fun h=>hc 2 h) (fun h=>hc 3 h)
end Go.Proofs.YtpldoeeahhaimaaGreatDoor.Dl
namespace Go.Proofs.YtpldoeeahhaimaaGreatDoor
open Go Go.RowKit
set_option linter.all false
set_option maxRecDepth 100000
set_option maxHeartbeats 400000
theorem aside {X:Prop} (P:Program) (a:Act) (w:World) (h:X) (_:wpAny P .any #[] (fun _ _ _=>True) 0 #[] a w):X:=h
abbrev gave (p q:Int):Ending:=.panicked [{ v:=.iface 81 (.agg #[.int .i64 p,.int .i64 q]),recovered:=false }]
theorem give_any (p q:Int) (w:World) :
 Calls Tryz.prog 121 #[.int .i64 p,.int .i64 q] w fun e w'=>e=gave p q/\w'=w:=by
 go_enter Tryz.func121,Tryz.ntmps121;go_wp2;exact ⟨rfl,rfl,rfl⟩
theorem left_bad (rb:Nat) (bv:Value) (at0 p0 q0:Int) (w:World) (hR:RdAt w rb bv at0 p0 q0) (hq:¬ q0=0) :
 Calls Tryz.prog 120 #[.pointer (some ⟨rb,0,none⟩)] w fun e w'=>e=gave p0 q0/\Below w.heap.size w w':=by
 obtain ⟨hlt,c0,c1,c2,c3,f1,f2,f3⟩:=hR.facts;clear hR;have hq':(q0 != 0)=true:=by simpa using hq
 clear hq;go_enter Tryz.func120,Tryz.ntmps120;go_wp2;go_region_with (go_at_call 121;refine (give_any _ _ _).mono ?_;rintro e w' ⟨rfl,rfl⟩;refine aside Tryz.prog { tmps:=#[],defers:=[] } w ⟨rfl,rfl,(Below.refl _ _).drew⟩ ?_);all_goals trivial
theorem left_ok (rb g n cp at0:Nat) (p0:Int) (w:World) (hR:RdAt w rb (.slice (some ⟨g,0,none⟩) n cp) at0 p0 0) (h1:at0<=n) (h2:n<=cp) (h3:n<=1000000) :
 Calls Tryz.prog 120 #[.pointer (some ⟨rb,0,none⟩)] w fun e w'=>(∃ ad,e = .returned (.slice (some ad) (n-at0) (cp-at0))/\(at0<cp->ad=⟨g,at0,none⟩))/\w'=w.drew:=by
 obtain ⟨hlt,c0,c1,c2,c3,f1,f2,f3⟩:=hR.facts;clear hR;go_enter Tryz.func120,Tryz.ntmps120;go_wp2;go_region;all_goals (try go_wp2)
 all_goals go_ret
 · exact ⟨⟨_,rfl⟩,rfl⟩
 · exact ⟨⟨_,rfl,fun _=>rfl⟩,rfl⟩
theorem RdAt.kept {w w':World} {rb:Nat} {bv:Value} {at0 p0 q0:Int} (h:RdAt w rb bv at0 p0 q0) (hb:Below w.heap.size w w'):RdAt w' rb bv at0 p0 q0:=(hb.block rb (lt_of_block h)).trans h
theorem RdAt.moved {w:World} {rb:Nat} {bv:Value} {at0 p0 q0:Int} (h:RdAt w rb bv at0 p0 q0) (f:Int):RdAt (w.setCell ⟨rb,1,none⟩ (.int .i64 f)) rb bv f p0 q0:=heap_set (i:=1) h (.int .i64 f)
theorem take_bad (rb:Nat) (bv:Value) (at0 p0 q0 k:Int) (w:World) (hR:RdAt w rb bv at0 p0 q0) (hq:¬ q0=0) :
 Calls Tryz.prog 92 #[.pointer (some ⟨rb,0,none⟩),.int .i64 k] w fun e w'=>e=gave p0 q0/\Below w.heap.size w w':=by
 have HL:Hid (Calls Tryz.prog 120 #[.pointer (some ⟨rb,0,none⟩)] w fun e w'=>e=gave p0 q0/\Below w.heap.size w w'):=left_bad rb bv at0 p0 q0 w hR hq;clear hR hq;go_enter Tryz.func92,Tryz.ntmps92;go_wp2_with (go_at_call 120;refine HL.out.mono ?_;rintro e w' ⟨rfl,hb⟩);exact ⟨rfl,rfl,hb⟩
theorem take_short (rb g n cp at0 k:Nat) (p0:Int) (w:World) (hR:RdAt w rb (.slice (some ⟨g,0,none⟩) n cp) at0 p0 0) (h1:at0<=n) (h2:n<=cp) (h3:n<=1000000) (hk:n<at0+k) :
 Calls Tryz.prog 92 #[.pointer (some ⟨rb,0,none⟩),.int .i64 k] w fun e w'=>e=gave n 10/\Below w.heap.size w w':=by
 have HL:Hid (Calls Tryz.prog 120 #[.pointer (some ⟨rb,0,none⟩)] w fun e w'=>(∃ ad,e = .returned (.slice (some ad) (n-at0) (cp-at0))/\(at0<cp->ad=⟨g,at0,none⟩))/\w'=w.drew):=left_ok rb g n cp at0 p0 w hR h1 h2 h3;obtain ⟨hlt,c0,c1,c2,c3,f1,f2,f3⟩:=hR.facts;clear hR;have hx:(((n-at0:Nat):Int))<(k:Int):=by omega
 go_enter Tryz.func92,Tryz.ntmps92;go_wp2_with (first | (go_at_call 120;refine HL.out.mono ?_;rintro e w' ⟨⟨ad,rfl,_⟩,rfl⟩)|(go_at_call 121;refine (give_any _ _ _).mono ?_;rintro e w' ⟨rfl,rfl⟩));exact ⟨rfl,rfl,(Below.refl _ _).drew⟩
theorem take_ok (rb g n cp at0 k:Nat) (p0:Int) (w:World) (hR:RdAt w rb (.slice (some ⟨g,0,none⟩) n cp) at0 p0 0) (h2:n<=cp) (h3:n<=1000000) (hk:at0+k<=n) :
 Calls Tryz.prog 92 #[.pointer (some ⟨rb,0,none⟩),.int .i64 k] w fun e w'=>(∃ ad,e = .returned (.slice (some ad) k (cp-at0))/\(at0<cp->ad=⟨g,at0,none⟩))/\RdAt w' rb (.slice (some ⟨g,0,none⟩) n cp) ((at0+k:Nat):Int) p0 0/\w.grownBy w' (some rb):=by
 have HL:Hid (Calls Tryz.prog 120 #[.pointer (some ⟨rb,0,none⟩)] w fun e w'=>(∃ ad,e = .returned (.slice (some ad) (n-at0) (cp-at0))/\(at0<cp->ad=⟨g,at0,none⟩))/\w'=w.drew):=left_ok rb g n cp at0 p0 w hR (by omega) h2 h3;obtain ⟨hlt,c0,c1,c2,c3,f1,f2,f3⟩:=hR.facts;have HR:Hid (RdAt w rb (.slice (some ⟨g,0,none⟩) n cp) at0 p0 0):=hR;clear hR;have hx:¬ (((n-at0:Nat):Int))<(k:Int):=by omega
 have hy:k<=cp-at0:=by omega
 go_enter Tryz.func92,Tryz.ntmps92;go_wp2_with (go_at_call 120;refine HL.out.mono ?_;rintro e w' ⟨⟨ad,rfl,had⟩,rfl⟩);go_ret;exact ⟨⟨ad,rfl,had⟩,HR.out.moved _,gb_drew (gb_set (gb_refl _ _) _ _)⟩
theorem num2_ok (rb g n cp at0:Nat) (p0 x0 x1:Int) (w:World) (hR:RdAt w rb (.slice (some ⟨g,0,none⟩) n cp) at0 p0 0) (h2:n<=cp) (h3:n<=1000000) (hk:at0+2<=n) (hgr:g≠rb)
 (z0:0<=x0/\x0<=255) (z1:0<=x1/\x1<=255) (c0:w.cell? ⟨g,at0,none⟩=some (.int .u8 x0)) (c1:w.cell? ⟨g,at0+1,none⟩=some (.int .u8 x1)) :
 Calls Tryz.prog 129 #[.pointer (some ⟨rb,0,none⟩),.int .i64 2] w fun e w'=>e = .returned (.int .i64 (x0*256+x1))/\RdAt w' rb (.slice (some ⟨g,0,none⟩) n cp) ((at0+2:Nat):Int) p0 0/\w.grownBy w' (some rb):=by
 have HT:Hid (Calls Tryz.prog 92 #[.pointer (some ⟨rb,0,none⟩),.int .i64 2] w fun e w'=>(∃ ad,e = .returned (.slice (some ad) 2 (cp-at0))/\(at0<cp->ad=⟨g,at0,none⟩))/\RdAt w' rb (.slice (some ⟨g,0,none⟩) n cp) ((at0+2:Nat):Int) p0 0/\w.grownBy w' (some rb)):=take_ok rb g n cp at0 2 p0 w hR h2 h3 hk;have HC:Hid (∀ w',w.grownBy w' (some rb)->w'.cell? ⟨g,at0,none⟩=some (.int .u8 x0)/\w'.cell? ⟨g,at0+1,none⟩=some (.int .u8 x1)):=fun w' h=>⟨h.cell c0 (by simpa using hgr),h.cell c1 (by simpa using hgr)⟩;clear hR c0 c1;have hat:at0<cp:=by omega
 have o0:bits .or .i64 0 x0=x0:=by have h:=or_up 0 (by decide) 0 x0 (by omega) (by omega) (by omega) (by omega) (by omega) (by omega);omega
 have o1:bits .or .i64 (x0*256) x1=x0*256+x1:=bits_join .i64 62 (by decide) wraps_i64 8 _ _ (by omega) (by omega) (by omega) (by omega) (by omega) (by omega);go_enter Tryz.func129,Tryz.ntmps129;go_wp2_with (go_at_call 92;refine HT.out.mono ?_;rintro e w1 ⟨⟨ad,rfl,had⟩,hR1,hg1⟩;obtain rfl:=had hat;clear had;obtain ⟨d0,d1⟩:=HC.out _ hg1;have HR1:Hid (RdAt w1 rb (.slice (some ⟨g,0,none⟩) n cp) ((at0+2:Nat):Int) p0 0/\w.grownBy w1 (some rb)):=⟨hR1,hg1⟩;clear hR1 hg1);go_loop [5,7,12] (fun v _ i=>(i = .int .i64 0/\v = .int .i64 0)\/(i = .int .i64 1/\v = .int .i64 x0)\/(i = .int .i64 2/\v = .int .i64 (x0*256+x1))) (fun _ _ i=>2-(intOf i).toNat);case atStart=>exact .inl ⟨rfl,rfl⟩
 case round =>
  rcases hrel with ⟨rfl,rfl⟩|⟨rfl,rfl⟩|⟨rfl,rfl⟩
  · go_wp2
    go_round;case rel=>exact .inr (.inl ⟨rfl,rfl⟩)
    case measure=>simp [intOf]
  · go_wp2
    go_round;case rel=>exact .inr (.inr ⟨rfl,rfl⟩)
    case measure=>simp [intOf]
  · go_wp2
    go_ret;exact ⟨rfl,HR1.out.1,HR1.out.2⟩
open Go.RowKit
set_option maxRecDepth 1000000
def chkF (s:ByteArray):Nat->Nat->Nat×Nat | 0,_=>(0,0) | b+1,k=>if k<s.size then (if atB s k=0 then (k,14) else if point s k=0 then (k,13) else chkF s b (k+point s k)) else (0,0)
def chk (s:ByteArray):Nat×Nat:=if 65535<s.size then (65535,11) else chkF s s.size 0
theorem chkF_end (s:ByteArray) (b k:Nat) (h:¬ k<s.size):chkF s b k=(0,0):=by cases b with | zero=>rfl | succ b=>simp [chkF,h]
theorem chkF_zero (s:ByteArray) (b k:Nat) (h:k<s.size) (hb:s.size<=k+b) (hz:atB s k=0):chkF s b k=(k,14):=by cases b with | zero=>omega | succ b=>simp [chkF,h,hz]
theorem chkF_utf (s:ByteArray) (b k:Nat) (h:k<s.size) (hb:s.size<=k+b) (hz:¬ atB s k=0) (hp:point s k=0):chkF s b k=(k,13):=by cases b with | zero=>omega | succ b=>simp [chkF,h,hz,hp]
theorem chkF_step (s:ByteArray) (b k:Nat) (h:k<s.size) (hb:s.size<=k+b) (hz:¬ atB s k=0) (hp:¬ point s k=0):∃ b',chkF s b k=chkF s b' (k+point s k)/\s.size<=k+point s k+b':=by cases b with | zero=>omega | succ b=>exact ⟨b,by simp [chkF,h,hz,hp],by omega⟩
def begins (s p:ByteArray):Bool:=decide (p.size<=s.size) && ((s.extract 0 p.size).toList==p.toList)
theorem pre_any (s p:ByteArray) (w:World) :
 Calls Tryz.prog 146 #[.string s,.string p] w fun e w'=>e = .returned (.bool (begins s p))/\w'=w:=by
 by_cases h:p.size<=s.size
 · have e:begins s p=((s.extract 0 p.size).toList==p.toList):=by simp [begins,h]
   rw [e];clear e;have h':(p.size:Int)<=s.size:=by omega
   go_enter Tryz.func146,Tryz.ntmps146;go_wp2;go_ret;exact ⟨rfl,rfl⟩
 · have e:begins s p=false:=by simp [begins,h]
   rw [e];clear e;have h':¬ (p.size:Int)<=s.size:=by omega
   go_enter Tryz.func146,Tryz.ntmps146;go_wp2;go_ret;exact ⟨rfl,rfl⟩
theorem atB_list (s:ByteArray) (i:Nat):atB s i=(s.data.toList[i]?.getD 0).toNat:=by
 by_cases h:i<s.size;·
  rw [atB_in s i h];have h':i<s.data.toList.length:=by simpa using h
  rw [List.getElem?_eq_getElem h'];rfl
 ·
  rw [atB_out s i h];have h':s.data.toList.length<=i:=by simpa using h
  rw [List.getElem?_eq_none h'];rfl
theorem three (l:List UInt8):List.isPrefixOf [239,191,189] l=decide ((l[0]?.getD 0).toNat=239/\(l[1]?.getD 0).toNat=191/\(l[2]?.getD 0).toNat=189):=by
 have hq:∀ (a b:UInt8),(a==b)=decide (b.toNat=a.toNat):=by intro a b;rw [Bool.eq_iff_iff];simp only [beq_iff_eq,decide_eq_true_eq,UInt8.toNat_inj];exact eq_comm
 match l with
 | []=>rfl;| [a]=>simp [List.isPrefixOf];| [a,b]=>simp [List.isPrefixOf];| a::b::c::r => simp only [List.isPrefixOf,hq,Bool.and_true];rw [Bool.eq_iff_iff];simp
theorem begins_three (s:ByteArray) (k:Nat):begins (s.extract k s.size) ⟨#[239,191,189]⟩=decide (atB s k=239/\atB s (k+1)=191/\atB s (k+2)=189):=by unfold begins;rw [Lib.hasPrefix_raw,Lib.extract_data,List.take_of_length_le (by simp)];unfold Lib.hasPrefix;have e:(ByteArray.mk #[239,191,189]).data.toList=[239,191,189]:=rfl;rw [e,three];simp only [atB_list,List.getElem?_drop,Nat.add_zero]
theorem width_pos (s:ByteArray) (k:Nat):1<=(Utf8.decode s k).2:=by
 have h:=point_fits s k;by_cases hp:point s k=0;· rw [(h.1 hp).2.1];exact Nat.le_refl _
 · rw [(h.2 hp).1];omega
theorem chk_world (s:ByteArray) (w:World) :
 Calls Tryz.prog 133 #[.string s] w fun e w'=>e = .returned (.tuple #[.int .i64 (chk s).1,.int .i64 (chk s).2])/\(w'=w\/∃ k,w'=w.iter s k):=by
 by_cases hl:65535<s.size
 · have e:chk s=(65535,11):=by simp [chk,hl]
   rw [e];clear e;have hl':(65535:Int)<s.size:=by omega
   go_enter Tryz.func133,Tryz.ntmps133;go_wp2;go_ret2;exact ⟨rfl,.inl rfl⟩
 · have HE:Hid (chk s=chkF s s.size 0):=by simp [chk,hl,Hid]
   have hl':¬ (65535:Int)<s.size:=by omega
   have hs:s.size<=65535:=by omega
   go_enter Tryz.func133,Tryz.ntmps133;go_wp2;go_loopw [4,5] (fun i c w'=>∃ k b:Nat,w'=w.iter s k/\chk s=chkF s b k/\s.size<=k+b) (fun _ _ w'=>s.size-w'.iterPos w.heap.size);case atStart=>exact ⟨0,s.size,rfl,HE.out,by omega⟩
   case round =>
    obtain ⟨k,b,rfl,hc,hb⟩:=hrel;have HC:Hid (chk s=chkF s b k):=hc;clear hc;by_cases hlt:k<s.size
    · obtain ⟨r,n,hd⟩:∃ r n,Utf8.decode s k=(r,n):=⟨_,_,rfl⟩
      have hnx:∀ ty,(Instr.next (.pointer (some ⟨w.heap.size,0,none⟩)) true ty).run Tryz.prog (w.iter s k) = .ok (.tuple #[.bool true,.int .i64 k,.int .i32 r]) (w.iter s (k+n)):=by intro ty;rw [run_next_any w s k ty hlt,hd]
      have hf:=point_fits s k;rw [hd] at hf;clear hd;have hg:=begins_three s k;have HF:Hid (Fits (point s k) (atB s k) (atB s (k+1)) (atB s (k+2)) (r,n)):=hf;have HG:Hid (begins (s.extract k s.size) ⟨#[239,191,189]⟩=decide (atB s k=239/\atB s (k+1)=191/\atB s (k+2)=189)):=hg;clear hf hg;by_cases hz:atB s k=0
      · have hp:point s k=1:=by simp [point,pt,hz]
        have hr:r=0:=((HF.out.2 (by omega)).2.1).2 hz;subst hr;have HR:Hid (chk s=(k,14)):=by have h1:=HC.out;rw [chkF_zero s b k hlt hb hz] at h1;exact h1
        clear hz hp;go_wp2;go_ret2;exact ⟨by rw [HR.out];rfl,.inr ⟨_,rfl⟩⟩
      · by_cases hp:point s k=0
        · obtain ⟨h1,h2,_,h4⟩:=HF.out.1 hp
          have hr:r=65533:=h1;subst hr;have hg:begins (s.extract k s.size) ⟨#[239,191,189]⟩=false:=by rw [HG.out];exact decide_eq_false h4
          have HR:Hid (chk s=(k,13)):=by have h1:=HC.out;rw [chkF_utf s b k hlt hb hz hp] at h1;exact h1
          clear hz hp h1 h2 h4;go_wp2_with (go_at_call 146;refine (pre_any _ _ _).mono ?_;rintro e w' ⟨rfl,rfl⟩);go_ret2;exact ⟨by rw [HR.out];rfl,.inr ⟨_,rfl⟩⟩
        · obtain ⟨h1,h2,h3⟩:=HF.out.2 hp
          have hn:n=point s k:=h1;have hr0:¬ r=0:=fun h=>hz (h2.1 h);obtain ⟨b',e1,e2⟩:=chkF_step s b k hlt hb hz hp;have HS:Hid (chk s=chkF s b' (k+n)/\s.size<=k+n+b'/\1<=n):=by rw [hn];exact ⟨HC.out.trans e1,e2,by omega⟩
          by_cases hr:r=65533
          · have hg:begins (s.extract k s.size) ⟨#[239,191,189]⟩=true:=by rw [HG.out];exact decide_eq_true (h3 hr)
            clear h1 h2 h3 hn hr0 e1 e2 hz hp;subst hr;go_wp2_with (go_at_call 146;refine (pre_any _ _ _).mono ?_;rintro e w' ⟨rfl,rfl⟩);go_roundw;case rel=>exact ⟨k+n,b',rfl,HS.out.1,HS.out.2.1⟩
            case measure=>have:=HS.out.2.2;simp;omega
          · have q0:((r:Int)==0)=false:=by simp;omega
            have q1:((r:Int)==65533)=false:=by simp;omega
            clear h1 h2 h3 hn hr0 e1 e2 hz hp hr;go_wp2_with (go_at_call 146;refine (pre_any _ _ _).mono ?_;rintro e w' ⟨rfl,rfl⟩);go_roundw;case rel=>exact ⟨k+n,b',rfl,HS.out.1,HS.out.2.1⟩
            case measure=>have:=HS.out.2.2;simp;omega
    · have hnx:∀ ty,(Instr.next (.pointer (some ⟨w.heap.size,0,none⟩)) true ty).run Tryz.prog (w.iter s k)=_:=fun ty=>run_next_end w s k ty hlt
      have HR:Hid (chk s=(0,0)):=by have h1:=HC.out;rw [chkF_end s b k hlt] at h1;exact h1
      go_wp2;go_ret2;exact ⟨by rw [HR.out];rfl,.inr ⟨_,rfl⟩⟩
theorem below_iter (w:World) (s:ByteArray) (k:Nat):Below w.heap.size w (w.iter s k):=(Below.refl _ _).alloc (Nat.le_refl _) _
theorem frozen_iter (w:World) (s:ByteArray) (k:Nat) (a:Addr):(w.iter s k).frozen? a=w.frozen? a:=by
 by_cases h:a.block=w.heap.size;·
  have e1:(w.iter s k).heap[a.block]?=some (.stringIter s k):=by rw [h];exact World.iter_heap w s k
  have e2:w.heap[a.block]?=none:=by rw [h];simp
  simp [World.frozen?,e1,e2]
 ·
  by_cases h':a.block<w.heap.size;· exact (below_iter w s k).frozen h'
  ·
   have e1:(w.iter s k).heap[a.block]?=none:=by show (w.heap.push _)[a.block]?=none;rw [Array.getElem?_eq_none];simp;omega
   have e2:w.heap[a.block]?=none:=by rw [Array.getElem?_eq_none];omega
   simp [World.frozen?,e1,e2]
theorem grown_iter (w:World) (s:ByteArray) (k:Nat):Grown w (w.iter s k) := ⟨World.keptBut_alloc _ _ _,frozen_iter w s k,(below_iter w s k).size⟩
theorem chk_any (s:ByteArray) (w:World) :
 Calls Tryz.prog 133 #[.string s] w fun e w'=>e = .returned (.tuple #[.int .i64 (chk s).1,.int .i64 (chk s).2])/\Below w.heap.size w w'/\Grown w w':=by
 refine (chk_world s w).mono ?_;rintro e w' ⟨rfl,rfl | ⟨k,rfl⟩⟩;· exact ⟨rfl,Below.refl _ _,Grown.refl _⟩
 · exact ⟨rfl,below_iter _ _ _,grown_iter _ _ _⟩
set_option maxRecDepth 100000
set_option maxHeartbeats 1000000
theorem hmf (fn:Fn) (first cap:Array Value) (w:World):(Instr.makeFunc fn first cap).run Tryz.prog w = .ok (.func fn first cap) w:=rfl
def Own (w:World) (g n:Nat) (z:Nat->Int):Prop:=(∀ i,0<=z i/\z i<=255)/\∀ i,i<n->w.cell? ⟨g,i,none⟩=some (.int .u8 (z i))
theorem Own.grown {w w':World} {g n rb:Nat} {z:Nat->Int} (h:Own w g n z) (hg:w.grownBy w' (some rb)) (hne:g≠rb):Own w' g n z:=⟨h.1,fun i hi=>hg.cell (h.2 i hi) (by simpa using hne)⟩
theorem Own.below {w w':World} {g n:Nat} {z:Nat->Int} (h:Own w g n z) (hb:Below w.heap.size w w'):Own w' g n z:=⟨h.1,fun i hi=>cell_later hb (h.2 i hi)⟩
theorem RdAt.grown {w w':World} {rb rb':Nat} {bv:Value} {at0 p0 q0:Int} (h:RdAt w rb bv at0 p0 q0) (hg:w.grownBy w' (some rb')) (hne:rb≠rb'):RdAt w' rb bv at0 p0 q0:=(hg.block rb (lt_of_block h) (by simpa using hne)).trans h
theorem gb_below {w w':World} {r:Option Nat} (h:Below w.heap.size w w'):w.grownBy w' r:=⟨h.os,h.tape,h.output,h.size,fun k hk _=>h.block k hk⟩
theorem box_cell {w w1:World} {rb:Nat} {v:Value} {t:TypeId} (hlt:rb<w.heap.size) (h:(w.alloc (.cells #[v] t)).grownBy w1 (some rb)):w1.cell? ⟨w.heap.size,0,none⟩=some v := h.cell (a:=⟨w.heap.size,0,none⟩) (by rw [World.cell?_alloc_at _ _ _ _ rfl];rfl) (by simp;omega)
theorem text_ok (rb g n cp at0 L:Nat) (p0:Int) (z:Nat->Int) (w:World) (hR:RdAt w rb (.slice (some ⟨g,0,none⟩) n cp) at0 p0 0) (hO:Own w g n z) (h2:n<=cp) (h3:n<=1000000) (hgr:g≠rb)
 (hL:z at0*256+z (at0+1)=L) (hn:at0+2+L<=n) (hc:(chk (strZ (fun i=>z (at0+2+i)) L)).2=0) : Calls Tryz.prog 123 #[.pointer (some ⟨rb,0,none⟩)] w fun e w'=>e = .returned (.string (strZ (fun i=>z (at0+2+i)) L))/\RdAt w' rb (.slice (some ⟨g,0,none⟩) n cp) ((at0+2+L:Nat):Int) p0 0/\w.grownBy w' (some rb):=by
 have hlt:rb<w.heap.size:=lt_of_block hR;have W0:Hid (RdAt (w.alloc (.cells #[.pointer (some ⟨rb,0,none⟩)] 126)) rb (.slice (some ⟨g,0,none⟩) n cp) at0 p0 0):=hR.kept ((Below.refl _ _).alloc (Nat.le_refl _) _);have O0:Hid (Own (w.alloc (.cells #[.pointer (some ⟨rb,0,none⟩)] 126)) g n z):=hO.below ((Below.refl _ _).alloc (Nat.le_refl _) _);obtain ⟨_,c0,c1,c2,c3,f1,f2,f3⟩:=hR.facts;have N0:Hid (Calls Tryz.prog 129 #[.pointer (some ⟨rb,0,none⟩),.int .i64 2] (w.alloc (.cells #[.pointer (some ⟨rb,0,none⟩)] 126)) fun e w'=>e = .returned (.int .i64 L)/\RdAt w' rb (.slice (some ⟨g,0,none⟩) n cp) ((at0+2:Nat):Int) p0 0/\(w.alloc (.cells #[.pointer (some ⟨rb,0,none⟩)] 126)).grownBy w' (some rb)):=by have h:=num2_ok rb g n cp at0 p0 (z at0) (z (at0+1)) _ W0.out h2 h3 (by omega) hgr (hO.1 _) (hO.1 _) (O0.out.2 _ (by omega)) (O0.out.2 _ (by omega));rw [hL] at h;exact h
 have hmf:=hmf;clear hR hO hL;go_enter_defers Tryz.func123,Tryz.ntmps123;go_wp2_with (go_at_call 129;refine N0.out.mono ?_;rintro e w1 ⟨rfl,hR1,hg1⟩;have bx1:=box_cell hlt hg1;have at1:=hR1.facts.2.2.1;have X1:Hid (RdAt w1 rb (.slice (some ⟨g,0,none⟩) n cp) ((at0+2:Nat):Int) p0 0/\(w.alloc (.cells #[.pointer (some ⟨rb,0,none⟩)] 126)).grownBy w1 (some rb)):=⟨hR1,hg1⟩;clear hR1 hg1);go_must (go_at_call 92);have T1:=take_ok rb g n cp (at0+2) L p0 w1 X1.out.1 h2 h3 hn;refine T1.mono ?_;clear T1;rintro e w2 ⟨⟨ad,rfl,had⟩,hR2,hg2⟩;have hg02:=gb_trans X1.out.2 hg2;have bx2:=box_cell hlt hg02;have cv:(convert 32 9 (.slice (some ad) L (cp-(at0+2)))).run Tryz.prog w2 = .ok (.string (strZ (fun i=>z (at0+2+i)) L)) w2:=by refine conv_any (some ad) L (cp-(at0+2)) _ w2 ⟨by omega,fun i=>O0.out.1 _,.inr ⟨ad,rfl,fun i hi=>?_⟩⟩;obtain rfl:=had (by omega);rw [plain_add];exact (O0.out.grown hg02 hgr).2 _ (by omega)
 clear had;have X2:Hid (RdAt w2 rb (.slice (some ⟨g,0,none⟩) n cp) ((at0+2+L:Nat):Int) p0 0/\(w.alloc (.cells #[.pointer (some ⟨rb,0,none⟩)] 126)).grownBy w2 (some rb)):=⟨hR2,hg02⟩;clear hR2 hg2 hg02 bx1 at1;obtain ⟨s,hs⟩:∃ s,strZ (fun i=>z (at0+2+i)) L=s:=⟨_,rfl⟩;rw [hs] at hc cv;have HS:Hid (strZ (fun i=>z (at0+2+i)) L=s):=hs;clear hs;obtain ⟨c,q,hcq⟩:∃ c q,chk s=(c,q):=⟨_,_,rfl⟩;have C0:Hid (Calls Tryz.prog 133 #[.string s] w2 fun e w'=>e = .returned (.tuple #[.int .i64 c,.int .i64 0])/\Below w2.heap.size w2 w'):=by refine (chk_any s w2).mono ?_;rw [hcq] at hc ⊢;have hq:q=0:=hc;subst hq;rintro e w' ⟨rfl,hb,_⟩;exact ⟨rfl,hb⟩
 clear hc hcq;go_wp2_with (go_at_call 133;refine C0.out.mono ?_;rintro e w3 ⟨rfl,hb3⟩);have bx3:=cell_later hb3 bx2;have X3:Hid (RdAt w3 rb (.slice (some ⟨g,0,none⟩) n cp) ((at0+2+L:Nat):Int) p0 0/\w.grownBy w3 (some rb)):=⟨X2.out.1.kept hb3,gb_trans (gb_trans (gb_alloc (gb_refl _ _) _) X2.out.2) (gb_below hb3)⟩;refine leaves_cons (f:=141) (args:=#[.int .i64 at0,.pointer (some ⟨w.heap.size,0,none⟩)]) (by simp) (by simp [go_sem]) ?_;refine (clo41_idle rb _ at0 _ bx3).mono ?_;rintro e u' w4 ⟨rfl,rfl,hb4⟩;rw [HS.out];simp [Leaves,settle,results,Tryz.results123,go_sem];exact ⟨X3.out.1.kept hb4,gb_trans X3.out.2 (gb_below hb4)⟩
theorem at_any (rb:Nat) (bv:Value) (at0 p0 q0:Int) (w:World) (hR:RdAt w rb bv at0 p0 q0) :
 Calls Tryz.prog 122 #[.pointer (some ⟨rb,0,none⟩)] w fun e w'=>e = .returned (.int .i64 at0)/\w'=w:=by
 obtain ⟨hlt,c0,c1,c2,c3,f1,f2,f3⟩:=hR.facts;clear hR;go_enter Tryz.func122,Tryz.ntmps122;go_wp2;go_ret;exact ⟨rfl,rfl⟩
theorem err_nil (rb:Nat) (bv:Value) (at0 p0:Int) (w:World) (hR:RdAt w rb bv at0 p0 0) :
 Calls Tryz.prog 101 #[.pointer (some ⟨rb,0,none⟩)] w fun e w'=>e = .returned .nilIface/\w'=w:=by
 obtain ⟨hlt,c0,c1,c2,c3,f1,f2,f3⟩:=hR.facts;clear hR;go_enter Tryz.func101,Tryz.ntmps101;go_wp2;go_ret;exact ⟨rfl,rfl⟩
theorem err_some (rb:Nat) (bv:Value) (at0 p0 q0:Int) (w:World) (hR:RdAt w rb bv at0 p0 q0) (hq:¬ q0=0) :
 Calls Tryz.prog 101 #[.pointer (some ⟨rb,0,none⟩)] w fun e w'=>e = .returned (.iface 91 (.pointer (some ⟨w.heap.size,0,none⟩)))/\w'=(w.alloc (.cells #[.int .i64 p0,.int .i64 q0] 81)).drew:=by
 obtain ⟨hlt,c0,c1,c2,c3,f1,f2,f3⟩:=hR.facts;clear hR;have hq':(q0==0)=false:=by simpa using hq
 clear hq;go_enter Tryz.func101,Tryz.ntmps101;go_wp2;go_region;all_goals (try go_wp2)
 all_goals go_ret
 all_goals exact ⟨rfl,rfl⟩
theorem end_rest (rb g n cp at0:Nat) (p0:Int) (w:World) (hR:RdAt w rb (.slice (some ⟨g,0,none⟩) n cp) at0 p0 0) (h1:at0<n) (h2:n<=cp) (h3:n<=1000000) :
 Calls Tryz.prog 100 #[.pointer (some ⟨rb,0,none⟩)] w fun e w'=>e = .returned (.tuple #[])/\RdAt w' rb (.slice (some ⟨g,0,none⟩) n cp) at0 at0 15/\w.grownBy w' (some rb):=by
 have hlt:rb<w.heap.size:=lt_of_block hR;have W0:Hid (RdAt (w.alloc (.cells #[.pointer (some ⟨rb,0,none⟩)] 126)) rb (.slice (some ⟨g,0,none⟩) n cp) at0 p0 0):=hR.kept ((Below.refl _ _).alloc (Nat.le_refl _) _);obtain ⟨_,c0,c1,c2,c3,f1,f2,f3⟩:=hR.facts;have L0:Hid (Calls Tryz.prog 120 #[.pointer (some ⟨rb,0,none⟩)] (w.alloc (.cells #[.pointer (some ⟨rb,0,none⟩)] 126)) fun e w'=>(∃ ad,e = .returned (.slice (some ad) (n-at0) (cp-at0))/\(at0<cp->ad=⟨g,at0,none⟩))/\w'=(w.alloc (.cells #[.pointer (some ⟨rb,0,none⟩)] 126)).drew):=left_ok rb g n cp at0 p0 _ W0.out (by omega) h2 h3;have hx:(0:Int)<((n-at0:Nat):Int):=by omega
 have hmf:=hmf;clear hR;go_enter_defers Tryz.func100,Tryz.ntmps100;go_wp2_with (first | (go_at_call 120;refine L0.out.mono ?_;rintro e w' ⟨⟨ad,rfl,_⟩,rfl⟩)|(go_at_call 121;refine (give_any _ _ _).mono ?_;rintro e w' ⟨rfl,rfl⟩));refine leaves_cons (f:=130) (args:=#[.int .i64 at0,.pointer (some ⟨w.heap.size,0,none⟩)]) (by simp) (by simp [go_sem]) ?_;refine (clo43_hit rb _ (.slice (some ⟨g,0,none⟩) n cp) at0 p0 0 at0 at0 15 [] _ ?_ ?_).mono ?_;· exact W0.out
 · simp [go_sem]
 rintro e u' w4 ⟨rfl,rfl,hR4,hg4⟩;simp [Leaves,settle,results,Tryz.results100,go_sem];exact ⟨hR4,gb_trans (gb_drew (gb_alloc (gb_refl _ _) _)) hg4⟩
theorem Tryz.info5:(Tryz.prog.info? 5).map (fun i=>(i.zero,i.size,i.bytes))=some (some (.int .u8 0),1,1):=by kernel_rfl
theorem cellsOf_zero (z:Nat->Int):cellsOf z 0=[]:=rfl
def Made (w w':World) (e:Ending) (n:Nat) (xs:List Value):Prop := ∃ g cp,e = .returned (.slice (some ⟨g,0,none⟩) n cp)/\w'.ownsRow w.heap.size 5 1 (.slice (some ⟨g,0,none⟩) n cp) n xs/\Below w.heap.size w w'
theorem made_came {w w':World} {g n cp:Nat} {z:Nat->Int} {base:Nat} (ho:w'.ownsRow base 5 1 (.slice (some ⟨g,0,none⟩) n cp) n (cellsOf z n)) (hz:∀ i,0<=z i/\z i<=255):Came w' (some ⟨g,0,none⟩) n cp z:=by
 refine ⟨?_,hz,.inr ⟨_,rfl,fun i hi=>?_⟩⟩;·
  obtain ⟨_,h | ⟨g',cp',cur,hv,_,_,hc,_⟩⟩:=ho;· cases h.1
  · cases hv
    exact hc
 · rw [plain_add,Nat.zero_add,ho.cellAt i (by omega)]
   exact cellsOf_at z n i hi
end Go.Proofs.YtpldoeeahhaimaaGreatDoor
