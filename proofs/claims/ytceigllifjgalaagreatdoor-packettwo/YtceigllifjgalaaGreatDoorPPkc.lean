import Derived.WalkKit
import Derived.ProofKit
namespace Go.Proofs.YtceigllifjgalaaGreatDoor.Pkt
open Go
set_option linter.unusedSimpArgs false
set_option linter.unusedVariables false
structure Sl where
 a:Option Addr
 n:Nat
 c:Nat
structure Pk where
 kind:Int
 level:Int
 clean:Bool
 keep:Int
 client:ByteArray
 hasWill:Bool
 wT:ByteArray
 wP:Sl
 wQ:Int
 wR:Bool
 hasUser:Bool
 user:ByteArray
 hasPass:Bool
 pass:Sl
 present:Bool
 code:Int
 dup:Bool
 mT:ByteArray
 mP:Sl
 mQ:Int
 mR:Bool
 id:Int
 asks:Sl
 codes:Sl
 filters:Sl
def Sl.v (s:Sl):Value:=.slice s.a s.n s.c
def Pk.v (p:Pk):Value:=.agg #[.int .i64 p.kind,.int .i64 p.level,.bool p.clean,.int .i64 p.keep,.string p.client,.bool p.hasWill,.string p.wT,p.wP.v,.int .i64 p.wQ,.bool p.wR,.bool p.hasUser,.string p.user,.bool p.hasPass,p.pass.v,.bool p.present,.int .i64 p.code,.bool p.dup,.string p.mT,p.mP.v,.int .i64 p.mQ,.bool p.mR,.int .i64 p.id,p.asks.v,p.codes.v,p.filters.v]
def mk (b:Bool) (n:Nat):Nat:=if b then n else 0
def off (p:Pk):Nat:=mk (!p.hasWill) 32 ||| mk (!p.hasUser) 128 ||| mk (!p.hasPass) 512 ||| mk (decide (p.kind=3) && decide (p.mQ=0)) 16384
def hasID (p:Pk):Bool:=(decide (p.kind=3) && decide (p.mQ≠0)) || (decide (4≤p.kind) && decide (p.kind≤11))
structure Own (p:Pk):Prop where
 level:p.kind≠1→p.level=0
 clean:p.kind≠1→p.clean=false
 keep:p.kind≠1→p.keep=0
 client:p.kind≠1→p.client.size=0
 hasWill:p.kind≠1→p.hasWill=false
 will:¬ (p.kind=1∧p.hasWill=true)→p.wT.size=0∧p.wQ=0∧p.wR=false∧p.wP.n=0
 hasUser:p.kind≠1→p.hasUser=false
 user:¬ (p.kind=1∧p.hasUser=true)→p.user.size=0
 hasPass:p.kind≠1→p.hasPass=false
 pass:¬ (p.kind=1∧p.hasPass=true)→p.pass.n=0
 present:p.kind≠2→p.present=false
 code:p.kind≠2→p.code=0
 dup:p.kind≠3→p.dup=false
 msg:p.kind≠3→p.mT.size=0∧p.mQ=0∧p.mR=false∧p.mP.n=0
 id:hasID p=false→p.id=0
 asks:p.kind≠8→p.asks.n=0
 codes:p.kind≠9→p.codes.n=0
 filters:p.kind≠10→p.filters.n=0
structure Cn where
 wz:Nat→Int
 pz:Nat→Int
 mz:Nat→Int
 af:Nat→ByteArray
 aq:Nat→Int
 cs:Nat→Int
 fs:Nat→ByteArray
structure Tx where
 txt:ByteArray→Bool
 top:ByteArray→Bool
 flt:ByteArray→Bool
def allN (n:Nat) (f:Nat→Bool):Bool:=(List.range n).all f
def sumN (f:Nat→Nat):Nat→Nat
 | 0=>0
 | n+1=>sumN f n+f n
def isQ (q:Int):Bool:=decide (0≤q) && decide (q≤2)
def isC (c:Int):Bool:=isQ c || decide (c=128)
def bnd (p:Pk):Bool:=decide (0≤p.level) && decide (p.level≤255) && decide (0≤p.code) && decide (p.code≤255) && decide (0≤p.keep) && decide (p.keep≤65535)
def tps (T:Tx) (p:Pk):Bool:=!(p.hasWill && !T.top p.wT) && (decide (p.kind≠3) || T.top p.mT)
def flts (T:Tx) (p:Pk) (c:Cn):Bool:=allN p.asks.n (fun i=>T.flt (c.af i)) && allN p.filters.n (fun i=>T.flt (c.fs i))
def qls (p:Pk) (c:Cn):Bool:=isQ p.wQ && isQ p.mQ && allN p.asks.n (fun i=>isQ (c.aq i)) && allN p.codes.n (fun i=>isC (c.cs i))
def nid (p:Pk):Nat:=if hasID p then 2 else 0
def szc (p:Pk):Nat:=12+p.client.size+(if p.hasWill then 4+p.wT.size+p.wP.n else 0)+(if p.hasUser then 2+p.user.size else 0)+if p.hasPass then 2+p.pass.n else 0
def sz (p:Pk) (c:Cn):Nat :=
 if p.kind=1 then szc p else if p.kind=2 then 2 else if p.kind=3 then nid p+2+p.mT.size+p.mP.n
 else nid p+sumN (fun i=>3+(c.af i).size) p.asks.n+sumN (fun i=>2+(c.fs i).size) p.filters.n+p.codes.n
structure Right (T:Tx) (p:Pk) (c:Cn):Prop where
 k1:1≤p.kind
 k2:p.kind≤14
 own:Own p
 bd:bnd p=true
 t1:T.txt p.client=true
 t2:T.txt p.user=true
 tp:tps T p=true
 ft:flts T p c=true
 ql:qls p c=true
 id:hasID p=true→1≤p.id∧p.id≤65535
 s1:p.wP.n≤65535
 s2:p.pass.n≤65535
 s3:sz p c≤268435455
 ne:p.kind=8∨p.kind=9∨p.kind=10→¬ (p.asks.n=0∧p.codes.n=0∧p.filters.n=0)
 m1:p.hasPass=true→p.hasUser=true
 m2:p.dup=true→p.mQ≠0
 m3:p.present=true→p.code=0
end Go.Proofs.YtceigllifjgalaaGreatDoor.Pkt
