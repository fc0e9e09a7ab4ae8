import Derived.WalkKit
import Derived.ProofKit
namespace Go.Proofs.YtceigllifjgalaaGreatDoor.Pkt
open Go
set_option linter.unusedSimpArgs false
set_option linter.unusedVariables false
structure Sl where
 a:Option Addr
 n:Nat
 c:Nat
structure Pk where
 kind:Int
 level:Int
 clean:Bool
 keep:Int
 client:ByteArray
 hasWill:Bool
 wT:ByteArray
 wP:Sl
 wQ:Int
 wR:Bool
 hasUser:Bool
 user:ByteArray
 hasPass:Bool
 pass:Sl
 present:Bool
 code:Int
 dup:Bool
 mT:ByteArray
 mP:Sl
 mQ:Int
 mR:Bool
 id:Int
 asks:Sl
 codes:Sl
 filters:Sl
def Sl.v (s:Sl):Value:=.slice s.a s.n s.c
def Pk.v (p:Pk):Value:=.agg #[.int .i64 p.kind,.int .i64 p.level,.bool p.clean,.int .i64 p.keep,.string p.client,.bool p.hasWill,.string p.wT,p.wP.v,.int .i64 p.wQ,.bool p.wR,.bool p.hasUser,.string p.user,.bool p.hasPass,p.pass.v,.bool p.present,.int .i64 p.code,.bool p.dup,.string p.mT,p.mP.v,.int .i64 p.mQ,.bool p.mR,.int .i64 p.id,p.asks.v,p.codes.v,p.filters.v]
theorem zb9 (a:Nat) (ha:a<4611686018427387904):(BitVec.ofInt 64 (a:Int)).toNat=a:=by rw [BitVec.ofInt_natCast,BitVec.toNat_ofNat];exact Nat.mod_eq_of_lt (by omega)
theorem zch (a:Nat) (ha:a<4611686018427387904):IntKind.i64.wrap (a:Int)=(a:Int):=by rw [IntKind.wrap_i64];omega
theorem bits_or (a b:Nat) (ha:a<4611686018427387904) (hb:b<4611686018427387904):bits .or .i64 (a:Int) (b:Int)=((a ||| b:Nat):Int):=by have hx:a ||| b<2 ^ 62:=Nat.or_lt_two_pow (by omega) (by omega);show IntKind.i64.wrap ((BitVec.ofInt 64 (a:Int) ||| BitVec.ofInt 64 (b:Int)).toNat:Int)=_;rw [BitVec.toNat_or,zb9 a ha,zb9 b hb];exact zch _ (by omega)
theorem zb5 (a b:Nat) (ha:a<4611686018427387904) (hb:b<4611686018427387904):bits .and .i64 (a:Int) (b:Int)=((a &&& b:Nat):Int):=by have hx:a &&& b<2 ^ 62:=Nat.and_lt_two_pow _ (by omega);show IntKind.i64.wrap ((BitVec.ofInt 64 (a:Int) &&& BitVec.ofInt 64 (b:Int)).toNat:Int)=_;rw [BitVec.toNat_and,zb9 a ha,zb9 b hb];exact zch _ (by omega)
theorem zcN (a b:Nat) (ha:a<4611686018427387904) (hb:b<4611686018427387904):bits .andNot .i64 (a:Int) (b:Int)=((a &&& (18446744073709551615-b):Nat):Int):=by have hx:(18446744073709551615-b) &&& a<2 ^ 62:=Nat.and_lt_two_pow _ (by omega);show IntKind.i64.wrap ((BitVec.ofInt 64 (a:Int) &&& ~~~ BitVec.ofInt 64 (b:Int)).toNat:Int)=_;rw [BitVec.toNat_and,BitVec.toNat_not,zb9 a ha,zb9 b hb];rw [Nat.and_comm] at hx;exact zch _ (by omega)
def mk (b:Bool) (n:Nat):Nat:=if b then n else 0
theorem mk_lt (b:Bool) (n:Nat) (h:n<262144):mk b n<262144:=by unfold mk;split <;> omega
theorem or_lt {a b:Nat} (ha:a<262144) (hb:b<262144):a ||| b<262144:=Nat.or_lt_two_pow (n:=18) (by omega) (by omega)
def gv (p:Pk):Nat := mk (p.level != 0) 1 ||| mk p.clean 2 ||| mk (p.keep != 0) 4 ||| mk (p.client.size != 0) 8 ||| mk p.hasWill 16 ||| mk (! (decide (p.wT.size=0) && decide (p.wQ=0) && !p.wR && decide (p.wP.n=0))) 32 ||| mk p.hasUser 64 ||| mk (p.user.size != 0) 128 ||| mk p.hasPass 256 ||| mk (p.pass.n != 0) 512 ||| mk p.present 1024 ||| mk (p.code != 0) 2048 ||| mk p.dup 4096 ||| mk (! (decide (p.mT.size=0) && decide (p.mQ=0) && !p.mR && decide (p.mP.n=0))) 8192 ||| mk (p.id != 0) 16384 ||| mk (p.asks.n != 0) 32768 ||| mk (p.codes.n != 0) 65536 ||| mk (p.filters.n != 0) 131072
def had:Nat->Nat | 1=>1023 | 2=>3072 | 3=>28672 | 4=>16384 | 5=>16384 | 6=>16384 | 7=>16384 | 8=>49152 | 9=>81920 | 10=>147456 | 11=>16384 | _=>0
def off (p:Pk):Nat:=mk (!p.hasWill) 32 ||| mk (!p.hasUser) 128 ||| mk (!p.hasPass) 512 ||| mk (decide (p.kind=3) && decide (p.mQ=0)) 16384
def fl (p:Pk):Nat:=had p.kind.toNat &&& (18446744073709551615-off p)
theorem had_lt (n:Nat):had n<262144:=by unfold had;split <;> omega
theorem off_lt (p:Pk):off p<262144:=or_lt (or_lt (or_lt (mk_lt _ _ (by decide)) (mk_lt _ _ (by decide))) (mk_lt _ _ (by decide))) (mk_lt _ _ (by decide))
theorem fl_lt (p:Pk):fl p<262144:=by have h:=had_lt p.kind.toNat;exact Nat.lt_of_le_of_lt Nat.and_le_left h
theorem gv_lt (p:Pk):gv p<262144:=by unfold gv;repeat' first | exact mk_lt _ _ (by decide) | apply or_lt
theorem mk_bit (b:Bool) (k i:Nat):(mk b (2 ^ k)).testBit i=(b && decide (k=i)):=by cases b <;> simp [mk,Nat.testBit_two_pow]
theorem mk_bit0 (b:Bool) (i:Nat):(mk b 1).testBit i=(b && decide (0=i)):=mk_bit b 0 i
theorem mk_bit1 (b:Bool) (i:Nat):(mk b 2).testBit i=(b && decide (1=i)):=mk_bit b 1 i
theorem mk_bit2 (b:Bool) (i:Nat):(mk b 4).testBit i=(b && decide (2=i)):=mk_bit b 2 i
theorem mk_bit3 (b:Bool) (i:Nat):(mk b 8).testBit i=(b && decide (3=i)):=mk_bit b 3 i
theorem mk_bit4 (b:Bool) (i:Nat):(mk b 16).testBit i=(b && decide (4=i)):=mk_bit b 4 i
theorem zeW (b:Bool) (i:Nat):(mk b 32).testBit i=(b && decide (5=i)):=mk_bit b 5 i
theorem mk_bit6 (b:Bool) (i:Nat):(mk b 64).testBit i=(b && decide (6=i)):=mk_bit b 6 i
theorem zeP (b:Bool) (i:Nat):(mk b 128).testBit i=(b && decide (7=i)):=mk_bit b 7 i
theorem mk_bit8 (b:Bool) (i:Nat):(mk b 256).testBit i=(b && decide (8=i)):=mk_bit b 8 i
theorem zf7 (b:Bool) (i:Nat):(mk b 512).testBit i=(b && decide (9=i)):=mk_bit b 9 i
theorem mk_bit10 (b:Bool) (i:Nat):(mk b 1024).testBit i=(b && decide (10=i)):=mk_bit b 10 i
theorem mk_bit11 (b:Bool) (i:Nat):(mk b 2048).testBit i=(b && decide (11=i)):=mk_bit b 11 i
theorem mk_bit12 (b:Bool) (i:Nat):(mk b 4096).testBit i=(b && decide (12=i)):=mk_bit b 12 i
theorem mk_bit13 (b:Bool) (i:Nat):(mk b 8192).testBit i=(b && decide (13=i)):=mk_bit b 13 i
theorem zer (b:Bool) (i:Nat):(mk b 16384).testBit i=(b && decide (14=i)):=mk_bit b 14 i
theorem mk_bit15 (b:Bool) (i:Nat):(mk b 32768).testBit i=(b && decide (15=i)):=mk_bit b 15 i
theorem mk_bit16 (b:Bool) (i:Nat):(mk b 65536).testBit i=(b && decide (16=i)):=mk_bit b 16 i
theorem mk_bit17 (b:Bool) (i:Nat):(mk b 131072).testBit i=(b && decide (17=i)):=mk_bit b 17 i
theorem gvs (p:Pk):(gv p).testBit 0=(p.level != 0)/\(gv p).testBit 1=(p.clean)/\(gv p).testBit 2=(p.keep != 0)/\(gv p).testBit 3=(p.client.size != 0)/\(gv p).testBit 4=(p.hasWill)/\(gv p).testBit 5=(! (decide (p.wT.size=0) && decide (p.wQ=0) && !p.wR && decide (p.wP.n=0)))/\(gv p).testBit 6=(p.hasUser)/\(gv p).testBit 7=(p.user.size != 0)/\(gv p).testBit 8=(p.hasPass)/\(gv p).testBit 9=(p.pass.n != 0)/\(gv p).testBit 10=(p.present)/\(gv p).testBit 11=(p.code != 0)/\(gv p).testBit 12=(p.dup)/\(gv p).testBit 13=(! (decide (p.mT.size=0) && decide (p.mQ=0) && !p.mR && decide (p.mP.n=0)))/\(gv p).testBit 14=(p.id != 0)/\(gv p).testBit 15=(p.asks.n != 0)/\(gv p).testBit 16=(p.codes.n != 0)/\(gv p).testBit 17=(p.filters.n != 0):=by refine ⟨?_,?_,?_,?_,?_,?_,?_,?_,?_,?_,?_,?_,?_,?_,?_,?_,?_,?_⟩ <;> (simp only [gv,Nat.testBit_or,mk_bit0,mk_bit1,mk_bit2,mk_bit3,mk_bit4,zeW,mk_bit6,zeP,mk_bit8,zf7,mk_bit10,mk_bit11,mk_bit12,mk_bit13,zer,mk_bit15,mk_bit16,mk_bit17];simp)
theorem offs (p:Pk):(off p).testBit 0=(false)/\(off p).testBit 1=(false)/\(off p).testBit 2=(false)/\(off p).testBit 3=(false)/\(off p).testBit 4=(false)/\(off p).testBit 5=(!p.hasWill)/\(off p).testBit 6=(false)/\(off p).testBit 7=(!p.hasUser)/\(off p).testBit 8=(false)/\(off p).testBit 9=(!p.hasPass)/\(off p).testBit 10=(false)/\(off p).testBit 11=(false)/\(off p).testBit 12=(false)/\(off p).testBit 13=(false)/\(off p).testBit 14=((decide (p.kind=3) && decide (p.mQ=0)))/\(off p).testBit 15=(false)/\(off p).testBit 16=(false)/\(off p).testBit 17=(false):=by refine ⟨?_,?_,?_,?_,?_,?_,?_,?_,?_,?_,?_,?_,?_,?_,?_,?_,?_,?_⟩ <;> (simp only [off,Nat.testBit_or,zeW,zeP,zf7,zer];simp)
theorem hads:∀ n,n<15->(had n).testBit 0=decide (n=1)/\(had n).testBit 1=decide (n=1)/\(had n).testBit 2=decide (n=1)/\(had n).testBit 3=decide (n=1)/\(had n).testBit 4=decide (n=1)/\(had n).testBit 5=decide (n=1)/\(had n).testBit 6=decide (n=1)/\(had n).testBit 7=decide (n=1)/\(had n).testBit 8=decide (n=1)/\(had n).testBit 9=decide (n=1)/\(had n).testBit 10=decide (n=2)/\(had n).testBit 11=decide (n=2)/\(had n).testBit 12=decide (n=3)/\(had n).testBit 13=decide (n=3)/\(had n).testBit 14=decide (3<=n/\n<=11)/\(had n).testBit 15=decide (n=8)/\(had n).testBit 16=decide (n=9)/\(had n).testBit 17=decide (n=10):=by decide
theorem zbz (x y:Nat) (hx:x<262144):x &&& y=0↔∀ i,i<18->x.testBit i=true->y.testBit i=false:=by
 constructor;· intro h i hi hb;have:=congrArg (fun n=>n.testBit i) h;simp only [Nat.testBit_and,hb,Bool.true_and,Nat.zero_testBit] at this;exact this
 ·
  intro h;apply Nat.eq_of_testBit_eq;intro i;rw [Nat.testBit_and,Nat.zero_testBit];by_cases hi:i<18;· cases hb:x.testBit i with | false=>simp;| true=>simp [h i hi hb]
  · have:x.testBit i=false:=Nat.testBit_lt_two_pow (Nat.lt_of_lt_of_le hx (by have:2 ^ 18<=2 ^ i:=Nat.pow_le_pow_right (by decide) (by omega);omega));simp [this]
theorem zef (x i:Nat) (hx:x<18446744073709551616) (hi:i<64):(18446744073709551615-x).testBit i = !x.testBit i:=by
 have h:=BitVec.toNat_not (x:=BitVec.ofNat 64 x);have hx':(BitVec.ofNat 64 x).toNat=x:=by rw [BitVec.toNat_ofNat];exact Nat.mod_eq_of_lt hx
 rw [hx'] at h;have e:(18446744073709551615-x)=(~~~ BitVec.ofNat 64 x).toNat:=by rw [h]
 rw [e,BitVec.testBit_toNat,BitVec.getLsbD_not,<-BitVec.testBit_toNat,hx'];simp [hi]
theorem fl_bit (p:Pk) (i:Nat) (hi:i<18):(fl p).testBit i=((had p.kind.toNat).testBit i && !(off p).testBit i):=by unfold fl;rw [Nat.testBit_and,zef _ _ (by have:=off_lt p;omega) (by omega)]
theorem own_iff (p:Pk):gv p &&& (18446744073709551615-fl p)=0↔∀ i,i<18->(gv p).testBit i=true->((had p.kind.toNat).testBit i=true/\(off p).testBit i=false):=by
 rw [zbz _ _ (gv_lt p)];constructor;· intro h i hi hb;have:=h i hi hb;rw [zef _ _ (by have:=fl_lt p;omega) (by omega),fl_bit p i hi] at this;revert this;cases (had p.kind.toNat).testBit i <;> cases (off p).testBit i <;> simp
 · intro h i hi hb;rw [zef _ _ (by have:=fl_lt p;omega) (by omega),fl_bit p i hi,(h i hi hb).1,(h i hi hb).2];rfl
theorem all18 (Q:Nat->Prop):(∀ i,i<18->Q i)↔(Q 0/\Q 1/\Q 2/\Q 3/\Q 4/\Q 5/\Q 6/\Q 7/\Q 8/\Q 9/\Q 10/\Q 11/\Q 12/\Q 13/\Q 14/\Q 15/\Q 16/\Q 17):=by
 constructor
 · intro h
   exact ⟨h 0 (by decide),h 1 (by decide),h 2 (by decide),h 3 (by decide),h 4 (by decide),h 5 (by decide),h 6 (by decide),h 7 (by decide),h 8 (by decide),h 9 (by decide),h 10 (by decide),h 11 (by decide),h 12 (by decide),h 13 (by decide),h 14 (by decide),h 15 (by decide),h 16 (by decide),h 17 (by decide)⟩
 ·
  rintro ⟨h0,h1,h2,h3,h4,h5,h6,h7,h8,h9,h10,h11,h12,h13,h14,h15,h16,h17⟩ i hi;have:i=0\/i=1\/i=2\/i=3\/i=4\/i=5\/i=6\/i=7\/i=8\/i=9\/i=10\/i=11\/i=12\/i=13\/i=14\/i=15\/i=16\/i=17:=by omega
  rcases this with rfl | rfl | rfl | rfl | rfl | rfl | rfl | rfl | rfl | rfl | rfl | rfl | rfl | rfl | rfl | rfl | rfl | rfl <;> assumption
def hasID (p:Pk):Bool:=(decide (p.kind=3) && decide (p.mQ≠0)) || (decide (4<=p.kind) && decide (p.kind<=11))
structure Own (p:Pk):Prop where
 level:p.kind≠1->p.level=0
 clean:p.kind≠1->p.clean=false
 keep:p.kind≠1->p.keep=0
 client:p.kind≠1->p.client.size=0
 hasWill:p.kind≠1->p.hasWill=false
 will:¬ (p.kind=1/\p.hasWill=true)->p.wT.size=0/\p.wQ=0/\p.wR=false/\p.wP.n=0
 hasUser:p.kind≠1->p.hasUser=false
 user:¬ (p.kind=1/\p.hasUser=true)->p.user.size=0
 hasPass:p.kind≠1->p.hasPass=false
 pass:¬ (p.kind=1/\p.hasPass=true)->p.pass.n=0
 present:p.kind≠2->p.present=false
 code:p.kind≠2->p.code=0
 dup:p.kind≠3->p.dup=false
 msg:p.kind≠3->p.mT.size=0/\p.mQ=0/\p.mR=false/\p.mP.n=0
 id:hasID p=false->p.id=0
 asks:p.kind≠8->p.asks.n=0
 codes:p.kind≠9->p.codes.n=0
 filters:p.kind≠10->p.filters.n=0
theorem own_bits (p:Pk) (h1:1<=p.kind) (h2:p.kind<=14):gv p &&& (18446744073709551615-fl p)=0 ↔
 (((p.level != 0)=true->(p.kind=1)/\(false)=false)/\((p.clean)=true->(p.kind=1)/\(false)=false)/\((p.keep != 0)=true->(p.kind=1)/\(false)=false)/\((p.client.size != 0)=true->(p.kind=1)/\(false)=false)/\((p.hasWill)=true->(p.kind=1)/\(false)=false)/\((! (decide (p.wT.size=0) && decide (p.wQ=0) && !p.wR && decide (p.wP.n=0)))=true->(p.kind=1)/\(!p.hasWill)=false)/\((p.hasUser)=true->(p.kind=1)/\(false)=false)/\((p.user.size != 0)=true->(p.kind=1)/\(!p.hasUser)=false)/\((p.hasPass)=true->(p.kind=1)/\(false)=false)/\((p.pass.n != 0)=true->(p.kind=1)/\(!p.hasPass)=false)/\((p.present)=true->(p.kind=2)/\(false)=false)/\((p.code != 0)=true->(p.kind=2)/\(false)=false)/\((p.dup)=true->(p.kind=3)/\(false)=false)/\((! (decide (p.mT.size=0) && decide (p.mQ=0) && !p.mR && decide (p.mP.n=0)))=true->(p.kind=3)/\(false)=false)/\((p.id != 0)=true->(3<=p.kind/\p.kind<=11)/\((decide (p.kind=3) && decide (p.mQ=0)))=false)/\((p.asks.n != 0)=true->(p.kind=8)/\(false)=false)/\((p.codes.n != 0)=true->(p.kind=9)/\(false)=false)/\((p.filters.n != 0)=true->(p.kind=10)/\(false)=false)):=by
 rw [own_iff,all18];have e:p.kind.toNat<15:=by omega
 obtain ⟨d0,d1,d2,d3,d4,d5,d6,d7,d8,d9,d10,d11,d12,d13,d14,d15,d16,d17⟩:=hads _ e;obtain ⟨g0,g1,g2,g3,g4,g5,g6,g7,g8,g9,g10,g11,g12,g13,g14,g15,g16,g17⟩:=gvs p;obtain ⟨o0,o1,o2,o3,o4,o5,o6,o7,o8,o9,o10,o11,o12,o13,o14,o15,o16,o17⟩:=offs p;have c0:(had p.kind.toNat).testBit 0=true↔(p.kind=1):=by rw [d0,decide_eq_true_iff];omega
 have c1:(had p.kind.toNat).testBit 1=true↔(p.kind=1):=by rw [d1,decide_eq_true_iff];omega
 have c2:(had p.kind.toNat).testBit 2=true↔(p.kind=1):=by rw [d2,decide_eq_true_iff];omega
 have c3:(had p.kind.toNat).testBit 3=true↔(p.kind=1):=by rw [d3,decide_eq_true_iff];omega
 have c4:(had p.kind.toNat).testBit 4=true↔(p.kind=1):=by rw [d4,decide_eq_true_iff];omega
 have c5:(had p.kind.toNat).testBit 5=true↔(p.kind=1):=by rw [d5,decide_eq_true_iff];omega
 have c6:(had p.kind.toNat).testBit 6=true↔(p.kind=1):=by rw [d6,decide_eq_true_iff];omega
 have c7:(had p.kind.toNat).testBit 7=true↔(p.kind=1):=by rw [d7,decide_eq_true_iff];omega
 have c8:(had p.kind.toNat).testBit 8=true↔(p.kind=1):=by rw [d8,decide_eq_true_iff];omega
 have c9:(had p.kind.toNat).testBit 9=true↔(p.kind=1):=by rw [d9,decide_eq_true_iff];omega
 have c10:(had p.kind.toNat).testBit 10=true↔(p.kind=2):=by rw [d10,decide_eq_true_iff];omega
 have c11:(had p.kind.toNat).testBit 11=true↔(p.kind=2):=by rw [d11,decide_eq_true_iff];omega
 have c12:(had p.kind.toNat).testBit 12=true↔(p.kind=3):=by rw [d12,decide_eq_true_iff];omega
 have c13:(had p.kind.toNat).testBit 13=true↔(p.kind=3):=by rw [d13,decide_eq_true_iff];omega
 have c14:(had p.kind.toNat).testBit 14=true↔(3<=p.kind/\p.kind<=11):=by rw [d14,decide_eq_true_iff];omega
 have c15:(had p.kind.toNat).testBit 15=true↔(p.kind=8):=by rw [d15,decide_eq_true_iff];omega
 have c16:(had p.kind.toNat).testBit 16=true↔(p.kind=9):=by rw [d16,decide_eq_true_iff];omega
 have c17:(had p.kind.toNat).testBit 17=true↔(p.kind=10):=by rw [d17,decide_eq_true_iff];omega
 rw [c0,c1,c2,c3,c4,c5,c6,c7,c8,c9,c10,c11,c12,c13,c14,c15,c16,c17,g0,g1,g2,g3,g4,g5,g6,g7,g8,g9,g10,g11,g12,g13,g14,g15,g16,g17,o0,o1,o2,o3,o4,o5,o6,o7,o8,o9,o10,o11,o12,o13,o14,o15,o16,o17]
theorem own_is (p:Pk) (h1:1<=p.kind) (h2:p.kind<=14):gv p &&& (18446744073709551615-fl p)=0↔Own p:=by
 rw [own_bits p h1 h2];constructor;·
  rintro ⟨h0,h1,h2,h3,h4,h5,h6,h7,h8,h9,h10,h11,h12,h13,h14,h15,h16,h17⟩;have w:∀ {b:Bool} {P Q:Prop},(b=true->P)->(b=false->Q)->¬ P->Q:=by
   intro b P Q h g n;cases b;· exact g rfl
   · exact absurd (h rfl) n
  refine ⟨fun hk=>w h0 ?_ ?_,fun hk=>w h1 ?_ ?_,fun hk=>w h2 ?_ ?_,fun hk=>w h3 ?_ ?_,fun hk=>w h4 ?_ ?_,fun hk=>w h5 ?_ ?_,fun hk=>w h6 ?_ ?_,fun hk=>w h7 ?_ ?_,fun hk=>w h8 ?_ ?_,fun hk=>w h9 ?_ ?_,fun hk=>w h10 ?_ ?_,fun hk=>w h11 ?_ ?_,fun hk=>w h12 ?_ ?_,fun hk=>w h13 ?_ ?_,fun hk=>w h14 ?_ ?_,fun hk=>w h15 ?_ ?_,fun hk=>w h16 ?_ ?_,fun hk=>w h17 ?_ ?_⟩;all_goals clear h0 h1 h2 h3 h4 h5 h6 h7 h8 h9 h10 h11 h12 h13 h14 h15 h16 h17
  all_goals first | (simp;done)|(intro h;simp_all;done)|(simp_all [hasID];done)|(intro h;simp_all [hasID];omega)|skip
  intro this;simp [hasID] at hk;simp at this;by_cases e:p.kind=3;· exact this.2 e (hk.1 e)
  · have:=hk.2 (by omega)
    omega
 ·
  intro h;have w:∀ {P Q:Prop},P->(P->Q)->Q:=fun p q=>q p;refine ⟨fun hb=>w h.level fun hx=>?_,fun hb=>w h.clean fun hx=>?_,fun hb=>w h.keep fun hx=>?_,fun hb=>w h.client fun hx=>?_,fun hb=>w h.hasWill fun hx=>?_,fun hb=>w h.will fun hx=>?_,fun hb=>w h.hasUser fun hx=>?_,fun hb=>w h.user fun hx=>?_,fun hb=>w h.hasPass fun hx=>?_,fun hb=>w h.pass fun hx=>?_,fun hb=>w h.present fun hx=>?_,fun hb=>w h.code fun hx=>?_,fun hb=>w h.dup fun hx=>?_,fun hb=>w h.msg fun hx=>?_,fun hb=>w h.id fun hx=>?_,fun hb=>w h.asks fun hx=>?_,fun hb=>w h.codes fun hx=>?_,fun hb=>w h.filters fun hx=>?_⟩;all_goals clear h
  all_goals refine ⟨?_,?_⟩ <;> (apply Classical.byContradiction;intro hn;revert hx hb;simp_all [hasID] <;> first | (intros;simp_all;done)|(intros;refine ⟨fun h=>by omega,fun h=>by omega⟩)|(intros;omega))
structure Cn where
 wz:Nat->Int
 pz:Nat->Int
 mz:Nat->Int
 af:Nat->ByteArray
 aq:Nat->Int
 cs:Nat->Int
 fs:Nat->ByteArray
structure Tx where
 txt:ByteArray->Bool
 top:ByteArray->Bool
 flt:ByteArray->Bool
def allN (n:Nat) (f:Nat->Bool):Bool:=(List.range n).all f
theorem zb6 (n:Nat) (f:Nat->Bool):allN n f=true↔∀ i,i<n->f i=true:=by simp [allN,List.all_eq_true,List.mem_range]
theorem zaP {n:Nat} {f:Nat->Bool} (i:Nat) (hi:i<n) (h:f i=false):allN n f=false:=by cases hh:allN n f with | false=>rfl | true=>rw [(zb6 n f).1 hh i hi] at h;cases h
def sumN (f:Nat->Nat):Nat->Nat | 0=>0 | n+1=>sumN f n+f n
theorem zdw (f:Nat->Nat) (n m:Nat) (h:n<=m):sumN f n<=sumN f m:=by
 induction m with
 | zero => obtain rfl : n = 0 := by omega
           exact Nat.le_refl _
 | succ m ih =>
  by_cases e:n=m+1;· subst e;exact Nat.le_refl _
  · have:=ih (by omega)
    simp only [sumN];omega
theorem zdg (f g:Nat->Nat) (n:Nat) (h:∀ i,i<n->f i=g i):sumN f n=sumN g n:=by induction n with | zero=>rfl | succ n ih=>simp only [sumN];rw [ih (fun i hi=>h i (by omega)),h n (by omega)]
def isQ (q:Int):Bool:=decide (0<=q) && decide (q<=2)
def isC (c:Int):Bool:=isQ c || decide (c=128)
def bnd (p:Pk):Bool:=decide (0<=p.level) && decide (p.level<=255) && decide (0<=p.code) && decide (p.code<=255) && decide (0<=p.keep) && decide (p.keep<=65535)
def tps (T:Tx) (p:Pk):Bool:=!(p.hasWill && !T.top p.wT) && (decide (p.kind≠3) || T.top p.mT)
def flts (T:Tx) (p:Pk) (c:Cn):Bool:=allN p.asks.n (fun i=>T.flt (c.af i)) && allN p.filters.n (fun i=>T.flt (c.fs i))
def qls (p:Pk) (c:Cn):Bool:=isQ p.wQ && isQ p.mQ && allN p.asks.n (fun i=>isQ (c.aq i)) && allN p.codes.n (fun i=>isC (c.cs i))
def nid (p:Pk):Nat:=if hasID p then 2 else 0
def szc (p:Pk):Nat:=12+p.client.size+(if p.hasWill then 4+p.wT.size+p.wP.n else 0)+(if p.hasUser then 2+p.user.size else 0)+if p.hasPass then 2+p.pass.n else 0
def sz (p:Pk) (c:Cn):Nat := if p.kind=1 then szc p else if p.kind=2 then 2 else if p.kind=3 then nid p+2+p.mT.size+p.mP.n else nid p+sumN (fun i=>3+(c.af i).size) p.asks.n+sumN (fun i=>2+(c.fs i).size) p.filters.n+p.codes.n
def isK (k:Int):Bool:=decide (1<=k) && decide (k<=14)
def bad1 (p:Pk):Bool:=(gv p &&& (18446744073709551615-fl p) != 0) || !bnd p
def bad2 (T:Tx) (p:Pk):Bool:=!T.txt p.client || !T.txt p.user
def bad6 (p:Pk):Bool:=(fl p &&& 16384 != 0) && (decide (p.id<1) || decide (65535<p.id))
def bad7 (p:Pk) (c:Cn):Bool:=decide (65535<p.wP.n) || decide (65535<p.pass.n) || decide (268435455<sz p c)
def bad8 (p:Pk):Bool:=(fl p &&& 229376 != 0) && (gv p &&& 229376==0)
def bad9 (p:Pk):Bool:=(p.hasPass && !p.hasUser) || (p.dup && decide (p.mQ=0)) || (p.present && decide (p.code≠0))
def ck (T:Tx) (p:Pk) (c:Cn):Nat := if !isK p.kind then 20 else if bad1 p then 21 else if bad2 T p then 22 else if !tps T p then 23 else if !flts T p c then 24 else if !qls p c then 25 else if bad6 p then 26 else if bad7 p c then 27 else if bad8 p then 28 else if bad9 p then 29 else 0
theorem and_one (x k:Nat) (hx:x<262144) (hk:k<18):x &&& 2 ^ k=0↔x.testBit k=false:=by
 rw [zbz x _ hx];constructor;·
  intro h;cases hb:x.testBit k with
  | false=>rfl;| true=>have:=h k hk hb;simp [Nat.testBit_two_pow] at this
 ·
  intro h i hi hb;rw [Nat.testBit_two_pow];by_cases e:k=i;· subst e;rw [h] at hb;cases hb
  · simp [e]
theorem had_id:∀ n,n<15->(had n).testBit 14=decide (3<=n/\n<=11):=by decide
theorem fl_id (p:Pk) (h1:1<=p.kind) (h2:p.kind<=14):(fl p &&& 16384 != 0)=hasID p:=by
 have e:fl p &&& 16384=0↔(fl p).testBit 14=false:=and_one _ 14 (fl_lt p) (by decide);rw [fl_bit p 14 (by decide),(offs p).2.2.2.2.2.2.2.2.2.2.2.2.2.2.1,had_id _ (by omega)] at e;have e':(fl p &&& 16384=0)↔hasID p=false:=by
  rw [e];unfold hasID;by_cases h3:p.kind=3;· simp [h3]
  · by_cases h4:4<=p.kind <;> by_cases h5:p.kind<=11 <;> simp [h3,h4,h5] <;> omega
 cases hh:hasID p with
 | false=>rw [e'.2 hh];rfl;| true => rw [bne_iff_ne];intro h0;rw [e'.1 h0] at hh;cases hh
theorem zdM (x:Nat) (hx:x<262144):x &&& 229376=0↔(x.testBit 15=false/\x.testBit 16=false/\x.testBit 17=false):=by
 have h229:∀ i,i<18->Nat.testBit 229376 i=decide (15<=i):=by decide
 rw [zbz x _ hx];constructor;·
  intro h;refine ⟨?_,?_,?_⟩;· cases hb:x.testBit 15 with | false=>rfl;| true=>have:=h 15 (by decide) hb;rw [h229 15 (by decide)] at this;cases this
  · cases hb:x.testBit 16 with | false=>rfl;| true=>have:=h 16 (by decide) hb;rw [h229 16 (by decide)] at this;cases this
  · cases hb:x.testBit 17 with | false=>rfl;| true=>have:=h 17 (by decide) hb;rw [h229 17 (by decide)] at this;cases this
 ·
  rintro ⟨a,b,d⟩ i hi hb;rw [h229 i hi];by_cases hl:15<=i;·
   have:i=15\/i=16\/i=17:=by omega
   rcases this with rfl | rfl | rfl;· rw [a] at hb;cases hb
   · rw [b] at hb;cases hb
   · rw [d] at hb;cases hb
  · simp [hl]
theorem fl_list (p:Pk) (h1:1<=p.kind) (h2:p.kind<=14):(fl p &&& 229376 != 0)=(decide (p.kind=8) || decide (p.kind=9) || decide (p.kind=10)):=by
 have e:=zdM _ (fl_lt p);rw [fl_bit p 15 (by decide),fl_bit p 16 (by decide),fl_bit p 17 (by decide),(offs p).2.2.2.2.2.2.2.2.2.2.2.2.2.2.2.1,(offs p).2.2.2.2.2.2.2.2.2.2.2.2.2.2.2.2.1,(offs p).2.2.2.2.2.2.2.2.2.2.2.2.2.2.2.2.2,(hads _ (by omega)).2.2.2.2.2.2.2.2.2.2.2.2.2.2.2.1,(hads _ (by omega)).2.2.2.2.2.2.2.2.2.2.2.2.2.2.2.2.1,(hads _ (by omega)).2.2.2.2.2.2.2.2.2.2.2.2.2.2.2.2.2] at e;by_cases h8:p.kind=8
 · have:¬ (fl p &&& 229376=0):=by rw [e];simp [h8]
   simp [this,h8]
 by_cases h9:p.kind=9
 · have:¬ (fl p &&& 229376=0):=by rw [e];simp [h9]
   simp [this,h9]
 by_cases h10:p.kind=10
 · have:¬ (fl p &&& 229376=0):=by rw [e];simp [h10]
   simp [this,h10]
 have:fl p &&& 229376=0:=by rw [e];simp;omega
 simp [this,h8,h9,h10]
theorem gv_list (p:Pk):(gv p &&& 229376==0)=(decide (p.asks.n=0) && decide (p.codes.n=0) && decide (p.filters.n=0)):=by
 have e:=zdM _ (gv_lt p);rw [(gvs p).2.2.2.2.2.2.2.2.2.2.2.2.2.2.2.1,(gvs p).2.2.2.2.2.2.2.2.2.2.2.2.2.2.2.2.1,(gvs p).2.2.2.2.2.2.2.2.2.2.2.2.2.2.2.2.2] at e;by_cases h:p.asks.n=0/\p.codes.n=0/\p.filters.n=0
 · have:gv p &&& 229376=0:=by rw [e];simp [h.1,h.2.1,h.2.2]
   simp [this,h.1,h.2.1,h.2.2]
 ·
  have:¬ (gv p &&& 229376=0):=by rw [e];simpa using h
  rw [show (gv p &&& 229376==0)=false from by simpa using this];symm;simp;intro a b d;exact h ⟨a,b,d⟩
structure Right (T:Tx) (p:Pk) (c:Cn):Prop where
 k1:1<=p.kind
 k2:p.kind<=14
 own:Own p
 bd:bnd p=true
 t1:T.txt p.client=true
 t2:T.txt p.user=true
 tp:tps T p=true
 ft:flts T p c=true
 ql:qls p c=true
 id:hasID p=true->1<=p.id/\p.id<=65535
 s1:p.wP.n<=65535
 s2:p.pass.n<=65535
 s3:sz p c<=268435455
 ne:p.kind=8\/p.kind=9\/p.kind=10->¬ (p.asks.n=0/\p.codes.n=0/\p.filters.n=0)
 m1:p.hasPass=true->p.hasUser=true
 m2:p.dup=true->p.mQ≠0
 m3:p.present=true->p.code=0
end Go.Proofs.YtceigllifjgalaaGreatDoor.Pkt
