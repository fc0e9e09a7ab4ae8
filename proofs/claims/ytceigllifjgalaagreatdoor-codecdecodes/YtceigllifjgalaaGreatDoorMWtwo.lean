import Derived.WalkSpells
import Derived.WalkLawsBesides
import Derived.Laws.AppendOwnNone
import Derived.Lib.AppendZeros
import Derived.Test.YtceigllifjgalaaGreatDoorNra
import Derived.Test.YtceigllifjgalaaGreatDoorPt
namespace Go.Proofs.YtceigllifjgalaaGreatDoor.Dl
open Go.RowKit
set_option linter.unusedSimpArgs false
set_option linter.unusedVariables false
set_option maxHeartbeats 1000000
section
variable {len:Nat} {x0 x1 x2 x3:Int}
def lenX (len:Nat) (x0 x1 x2 x3:Int):Int×Int×Int := if len=0 then (0,0,10) else if x0<128 then (x0 % 128,1,0) else if len=1 then (0,0,10) else if x1<128 then (x0 % 128+x1 % 128*128,2,0) else if len=2 then (0,0,10) else if x2<128 then (x0 % 128+x1 % 128*128+x2 % 128*16384,3,0) else if len=3 then (0,0,10) else if x3<128 then (x0 % 128+x1 % 128*128+x2 % 128*16384+x3 % 128*2097152,4,0) else (0,0,12)
theorem zcS  (h:len=0):lenX len x0 x1 x2 x3=(0,0,10):=by simp [lenX,h]
theorem zdh  (a:¬ len=0) (h:x0<128):lenX len x0 x1 x2 x3=(x0 % 128,1,0):=by simp [lenX,a,h]
theorem zcV (a0:¬ len=0) (b0:¬ x0<128) (h:len=1):lenX len x0 x1 x2 x3=(0,0,10):=by simp [lenX,a0,b0,h]
theorem zdc (a0:¬ len=0) (b0:¬ x0<128) (a:¬ len=1) (h:x1<128):lenX len x0 x1 x2 x3=(x0 % 128+x1 % 128*128,2,0):=by simp [lenX,a0,b0,a,h]
theorem zcE (a0:¬ len=0) (b0:¬ x0<128) (a1:¬ len=1) (b1:¬ x1<128) (h:len=2):lenX len x0 x1 x2 x3=(0,0,10):=by simp [lenX,a0,b0,a1,b1,h]
theorem zdb (a0:¬ len=0) (b0:¬ x0<128) (a1:¬ len=1) (b1:¬ x1<128) (a:¬ len=2) (h:x2<128):lenX len x0 x1 x2 x3=(x0 % 128+x1 % 128*128+x2 % 128*16384,3,0):=by simp [lenX,a0,b0,a1,b1,a,h]
theorem zcL (a0:¬ len=0) (b0:¬ x0<128) (a1:¬ len=1) (b1:¬ x1<128) (a2:¬ len=2) (b2:¬ x2<128) (h:len=3):lenX len x0 x1 x2 x3=(0,0,10):=by simp [lenX,a0,b0,a1,b1,a2,b2,h]
theorem zda (a0:¬ len=0) (b0:¬ x0<128) (a1:¬ len=1) (b1:¬ x1<128) (a2:¬ len=2) (b2:¬ x2<128) (a:¬ len=3) (h:x3<128):lenX len x0 x1 x2 x3=(x0 % 128+x1 % 128*128+x2 % 128*16384+x3 % 128*2097152,4,0):=by simp [lenX,a0,b0,a1,b1,a2,b2,a,h]
theorem lenX_form (a0:¬ len=0) (b0:¬ x0<128) (a1:¬ len=1) (b1:¬ x1<128) (a2:¬ len=2) (b2:¬ x2<128) (a3:¬ len=3) (b3:¬ x3<128):lenX len x0 x1 x2 x3=(0,0,12):=by simp [lenX,a0,b0,a1,b1,a2,b2,a3,b3]
theorem rlen_some (b off len cap:Nat) (x0 x1 x2 x3:Int) (w:World) (hm:len<=1000000) (z0:0<=x0/\x0<=255) (z1:0<=x1/\x1<=255) (z2:0<=x2/\x2<=255) (z3:0<=x3/\x3<=255) (c0:0<len->w.cell? ⟨b,off,none⟩=some (.int .u8 x0)) (c1:1<len->w.cell? ⟨b,off+1,none⟩=some (.int .u8 x1)) (c2:2<len->w.cell? ⟨b,off+2,none⟩=some (.int .u8 x2)) (c3:3<len->w.cell? ⟨b,off+3,none⟩=some (.int .u8 x3)) :
 Calls Tryz.prog 135 #[.slice (some ⟨b,off,none⟩) len cap] w fun e w'=>e = .returned (.tuple #[.int .i64 (lenX len x0 x1 x2 x3).1,.int .i64 (lenX len x0 x1 x2 x3).2.1,.int .i64 (lenX len x0 x1 x2 x3).2.2])/\w'=w:=by
 go_enter Tryz.func135,Tryz.ntmps135;go_wp2;go_loop [5,6,7] (fun n u i=>(i = .int .i64 0/\n = .int .i64 (0)/\u = .int .i64 1)\/(i = .int .i64 1/\n = .int .i64 (x0 % 128)/\u = .int .i64 128/\¬ len=0/\¬ x0<128)\/(i = .int .i64 2/\n = .int .i64 (x0 % 128+x1 % 128*128)/\u = .int .i64 16384/\¬ len=0/\¬ x0<128/\¬ len=1/\¬ x1<128)\/(i = .int .i64 3/\n = .int .i64 (x0 % 128+x1 % 128*128+x2 % 128*16384)/\u = .int .i64 2097152/\¬ len=0/\¬ x0<128/\¬ len=1/\¬ x1<128/\¬ len=2/\¬ x2<128)\/(i = .int .i64 4/\n = .int .i64 (x0 % 128+x1 % 128*128+x2 % 128*16384+x3 % 128*2097152)/\u = .int .i64 268435456/\¬ len=0/\¬ x0<128/\¬ len=1/\¬ x1<128/\¬ len=2/\¬ x2<128/\¬ len=3/\¬ x3<128)) (fun _ _ i=>4-(intOf i).toNat);case atStart=>exact .inl ⟨rfl,rfl,rfl⟩
 case round =>
  rcases hrel with ⟨rfl,rfl,rfl⟩|⟨rfl,rfl,rfl,a0,b0⟩|⟨rfl,rfl,rfl,a0,b0,a1,b1⟩|⟨rfl,rfl,rfl,a0,b0,a1,b1,a2,b2⟩|⟨rfl,rfl,rfl,a0,b0,a1,b1,a2,b2,a3,b3⟩
  · by_cases a0:len=0
    · have HR:Hid (lenX len x0 x1 x2 x3=(0,0,10)):=zcS  a0
      subst a0;go_wp2;go_ret3;exact ⟨by rw [HR.out];rfl,rfl⟩
    · have q:¬ (len:Int)<=0:=by omega
      have hc:=c0 (by omega);clear c0 c1 c2 c3;by_cases b0:x0<128
      · have HR:Hid (lenX len x0 x1 x2 x3=(x0 % 128,1,0)):=zdh  a0 b0
        go_wp2;go_ret3;exact ⟨by rw [HR.out];first | rfl | go_num,rfl⟩
      · go_wp2
        go_round;case rel=>exact .inr (.inl ⟨rfl,by go_num,rfl,a0,b0⟩)
        case measure=>simp [intOf]
  · by_cases a1:len=1
    · have HR:Hid (lenX len x0 x1 x2 x3=(0,0,10)):=zcV a0 b0 a1
      subst a1;go_wp2;go_ret3;exact ⟨by rw [HR.out];rfl,rfl⟩
    · have q:¬ (len:Int)<=1:=by omega
      have hc:=c1 (by omega);clear c0 c1 c2 c3;by_cases b1:x1<128
      · have HR:Hid (lenX len x0 x1 x2 x3=(x0 % 128+x1 % 128*128,2,0)):=zdc a0 b0 a1 b1
        go_wp2;go_ret3;exact ⟨by rw [HR.out];first | rfl | go_num,rfl⟩
      · go_wp2
        go_round;case rel=>exact .inr (.inr (.inl ⟨rfl,by go_num,rfl,a0,b0,a1,b1⟩))
        case measure=>simp [intOf]
  · by_cases a2:len=2
    · have HR:Hid (lenX len x0 x1 x2 x3=(0,0,10)):=zcE a0 b0 a1 b1 a2
      subst a2;go_wp2;go_ret3;exact ⟨by rw [HR.out];rfl,rfl⟩
    · have q:¬ (len:Int)<=2:=by omega
      have hc:=c2 (by omega);clear c0 c1 c2 c3;by_cases b2:x2<128
      · have HR:Hid (lenX len x0 x1 x2 x3=(x0 % 128+x1 % 128*128+x2 % 128*16384,3,0)):=zdb a0 b0 a1 b1 a2 b2
        go_wp2;go_ret3;exact ⟨by rw [HR.out];first | rfl | go_num,rfl⟩
      · go_wp2
        go_round;case rel=>exact .inr (.inr (.inr (.inl ⟨rfl,by go_num,rfl,a0,b0,a1,b1,a2,b2⟩)))
        case measure=>simp [intOf]
  · by_cases a3:len=3
    · have HR:Hid (lenX len x0 x1 x2 x3=(0,0,10)):=zcL a0 b0 a1 b1 a2 b2 a3
      subst a3;go_wp2;go_ret3;exact ⟨by rw [HR.out];rfl,rfl⟩
    · have q:¬ (len:Int)<=3:=by omega
      have hc:=c3 (by omega);clear c0 c1 c2 c3;by_cases b3:x3<128
      · have HR:Hid (lenX len x0 x1 x2 x3=(x0 % 128+x1 % 128*128+x2 % 128*16384+x3 % 128*2097152,4,0)):=zda a0 b0 a1 b1 a2 b2 a3 b3
        go_wp2;go_ret3;exact ⟨by rw [HR.out];first | rfl | go_num,rfl⟩
      · go_wp2
        go_round;case rel=>exact .inr (.inr (.inr (.inr (⟨rfl,by go_num,rfl,a0,b0,a1,b1,a2,b2,a3,b3⟩))))
        case measure=>simp [intOf]
  · have HR:Hid (lenX len x0 x1 x2 x3=(0,0,12)):=lenX_form a0 b0 a1 b1 a2 b2 a3 b3
    go_wp2;go_ret3;exact ⟨by rw [HR.out];rfl,rfl⟩
end
set_option maxHeartbeats 400000
def Byt (w:World) (ao:Option Addr) (len cap:Nat) (z:Nat->Int):Prop := len<=cap/\(∀ i,0<=z i/\z i<=255)/\(len=0\/∃ b off,ao=some ⟨b,off,none⟩/\∀ i,i<len->w.cell? ⟨b,off+i,none⟩=some (.int .u8 (z i)))
def lenZ (len:Nat) (z:Nat->Int):Int×Int×Int:=lenX len (z 0) (z 1) (z 2) (z 3)
theorem rlen_zero (ao:Option Addr) (cap:Nat) (w:World) :
 Calls Tryz.prog 135 #[.slice ao 0 cap] w fun e w'=>e = .returned (.tuple #[.int .i64 0,.int .i64 0,.int .i64 10])/\w'=w:=by
 go_enter Tryz.func135,Tryz.ntmps135;go_wp2;go_loop [5,6,7] (fun n u i=>i = .int .i64 0/\n = .int .i64 0/\u = .int .i64 1) (fun _ _ i=>4-(intOf i).toNat);case atStart=>exact ⟨rfl,rfl,rfl⟩
 case round => obtain ⟨rfl,rfl,rfl⟩:=hrel;go_wp2;go_ret3;exact ⟨rfl,rfl⟩
theorem rlen_any (ao:Option Addr) (len cap:Nat) (z:Nat->Int) (w:World) (h:Byt w ao len cap z) (hm:len<=1000000) :
 Calls Tryz.prog 135 #[.slice ao len cap] w fun e w'=>e = .returned (.tuple #[.int .i64 (lenZ len z).1,.int .i64 (lenZ len z).2.1,.int .i64 (lenZ len z).2.2])/\w'=w:=by
 obtain ⟨hcap,hz,h⟩:=h;by_cases h0:len=0
 · subst h0
   exact rlen_zero ao cap w
 · rcases h with h | ⟨b,off,rfl,hc⟩
   · exact absurd h h0
   · exact rlen_some b off len cap _ _ _ _ w hm (hz 0) (hz 1) (hz 2) (hz 3) (fun h=>hc 0 h) (fun h=>hc 1 h) (fun h=>hc 2 h) (fun h=>hc 3 h)
end Go.Proofs.YtceigllifjgalaaGreatDoor.Dl
namespace Go.Proofs.YtceigllifjgalaaGreatDoor
open Go.RowKit
set_option linter.unusedSimpArgs false
set_option linter.unusedVariables false
set_option maxRecDepth 100000
theorem zbb (n:Int) (h₀:0<=n) (h₁:n<2 ^ 62):IntKind.i64.wrap n=n:=by rw [IntKind.wrap_i64];omega
theorem and127 (x:Int) (h:0<=x/\x<=255):bits .and .u8 x 127=x % 128:=bits_mask .u8 8 (by decide) wraps_u8 7 (by decide) x h.1 (by omega)
theorem nat128:∀ n:Nat,n<256->((n &&& 128=0)↔n<128):=by decide
theorem and128 (x:Int) (h:0<=x/\x<=255):(bits .and .u8 x 128==0)=decide (x<128):=by rw [u8_and x 128 h.1 (by omega) (by decide) (by decide)];have h1:=nat128 x.toNat (by omega);rw [Bool.eq_iff_iff];simp only [beq_iff_eq,decide_eq_true_eq];have e:(128:Int).toNat=128:=rfl;rw [e];omega
theorem or_up (i:Nat) (hi:i<=62) (x y:Int) (hx₀:0<=x) (hx:x<2 ^ i) (hx₁:x<2 ^ 62) (hy₀:0<=y) (hy:y % 2 ^ i=0) (hy₁:y<2 ^ 62):bits .or .i64 x y=x+y:=by
 have h:bits .or .i64 y x=y+x:=bits_join .i64 62 (by decide) zbb i y x hy₀ hy hy₁ hx₀ hx hx₁;have c:bits .or .i64 x y=bits .or .i64 y x:=by
  obtain ⟨a,rfl⟩:=Int.eq_ofNat_of_zero_le hx₀;obtain ⟨b,rfl⟩:=Int.eq_ofNat_of_zero_le hy₀;have ha:a<2 ^ 62:=by exact_mod_cast hx₁
  have hb:b<2 ^ 62:=by exact_mod_cast hy₁
  rw [(bits_nat .i64 62 (by decide) zbb a b ha hb).2,(bits_nat .i64 62 (by decide) zbb b a hb ha).2,Nat.or_comm]
 rw [c,h];omega
set_option maxHeartbeats 400000
section
variable {w:World} {ao:Option Addr} {cap len:Nat} {z:Nat->Int}
def Byt (w:World) (ao:Option Addr) (len cap:Nat) (z:Nat->Int):Prop := len<=cap/\(∀ i,0<=z i/\z i<=255)/\(len=0\/∃ b off,ao=some ⟨b,off,none⟩/\∀ i,i<len->w.cell? ⟨b,off+i,none⟩=some (.int .u8 (z i)))
def Came (w:World) (ao:Option Addr) (len cap:Nat) (z:Nat->Int):Prop := len<=cap/\(∀ i,0<=z i/\z i<=255)/\((ao=none/\len=0/\cap=0)\/∃ ad,ao=some ad/\∀ i,i<len->w.cell? (ad.add i)=some (.int .u8 (z i)))
def cellsOf (z:Nat->Int) (n:Nat):List Value:=(List.range n).map fun i=>.int .u8 (z i)
theorem zbf (z:Nat->Int) (n j:Nat) (u:Value) (h:(cellsOf z n)[j]?=some u):j<n/\u = .int .u8 (z j):=by
 unfold cellsOf at h;rw [List.getElem?_map] at h;by_cases hj:j<n;· rw [List.getElem?_range hj] at h;simp at h;exact ⟨hj,h.symm⟩
 · rw [List.getElem?_eq_none (by simpa using hj)] at h
   simp at h
theorem zba (z:Nat->Int) (n j:Nat) (hj:j<n):(cellsOf z n)[j]?=some (.int .u8 (z j)):=by unfold cellsOf;rw [List.getElem?_map,List.getElem?_range hj];rfl
theorem zaT (z:Nat->Int) (n:Nat) (u:Value) (h:u ∈ cellsOf z n):u.oneCell'=true:=by unfold cellsOf at h;obtain ⟨i,_,rfl⟩:=List.mem_map.1 h;rfl
def strZ (z:Nat->Int) (n:Nat):ByteArray:=strOfNums ((List.range n).map z)
theorem zb3 (ao:Option Addr) (len cap:Nat) (z:Nat->Int) (w:World) (h:Came w ao len cap z):(convert 22 9 (.slice ao len cap)).run Tryz.prog w = .ok (.string (strZ z len)) w:=by
 obtain ⟨_,_,⟨rfl,rfl,rfl⟩|⟨ad,rfl,hc⟩⟩:=h
 · rw [run_convert_bytes_nil w 22 5 Tryz.underlying22 Tryz.underlying5 0 0 9 Tryz.underlying9]
   rfl
 ·
  rw [run_convert_bytes_string w 22 9 5 _ len cap Tryz.underlying22 Tryz.underlying5 Tryz.underlying9];have hl:(loadCells ad len).run Tryz.prog w = .ok (((List.range len).map z).map (Value.int .u8)).toArray w:=by have:=run_loadCells_list (P:=Tryz.prog) w ad (cellsOf z len) (fun j v hj=>by obtain ⟨h1,rfl⟩:=zbf z len j v hj;exact hc j h1);simpa [cellsOf,Function.comp_def] using this
  rw [run_bytesToString w ad len cap _ hl,foldl_push_bytes];simp [strZ,strOfNums,ByteArray.empty,ByteArray.emptyWithCapacity];rfl
theorem za9 (b off j:Nat):(⟨b,off,none⟩:Addr).add j=⟨b,off+j,none⟩:=by unfold Addr.add;split <;> simp_all
theorem zeE (h:Came w ao len cap z):Byt w ao len cap z:=by
 obtain ⟨h1,h2,⟨rfl,rfl,rfl⟩|⟨ad,rfl,hc⟩⟩:=h;· exact ⟨h1,h2,.inl rfl⟩
 ·
  refine ⟨h1,h2,?_⟩;by_cases h0:len=0;· exact .inl h0
  ·
   right;obtain ⟨b,off,spot⟩:=ad;have q:=hc 0 (by omega);have hspot:spot=none:=by simpa [Addr.add] using World.cell?_spot q
   subst hspot;exact ⟨b,off,rfl,fun i hi=>by have h:=hc i hi;rw [za9] at h;exact h⟩
theorem zaq {w':World} {B:Nat} (h:Came w ao len cap z) (hb:Below w.heap.size w w'):Came w' ao len cap z:=by
 obtain ⟨h1,h2,h3 | ⟨ad,rfl,hc⟩⟩:=h;· exact ⟨h1,h2,.inl h3⟩
 · exact ⟨h1,h2,.inr ⟨ad,rfl,fun i hi=>cell_later hb (hc i hi)⟩⟩
end
open Go Go.RowKit
section
variable {P:Program} {a:Act} {w w1:World} {id:Nat} {ops:Array Oper} {r:Option Nat}
theorem wpS_region_draw {Q:Exit->Act->List Frame->World->Prop} {cs:List Frame}  (h:∀ t,wpOpsS P ops Q (Region.schedule (P.follows .mixedOrders) ops t) a cs { w with drawn:=w.drawn+1 }):(Code.region id ops true).wpS P Q a cs w := fun b k hb hr=>let ⟨e,a',cs',w',q,r⟩:=wp_opsS _ a cs _ (h _) b k hb hr;⟨e,a',cs',w',q,.of_steps (.one step_region_draw) r⟩
def AnyOrder (md:Region.Mode) (ops:Array Oper):Nat->Array Bool->(List Nat->Prop)->Prop | 0,listed,F=>Region.ready md ops listed=[]/\F [] | fuel+1,listed,F=>(Region.ready md ops listed=[]->F [])/\∀ i ∈ Region.ready md ops listed,AnyOrder md ops fuel (listed.setIfInBounds i true) fun l=>F (i::l)
theorem anyOrder_sound (md:Region.Mode) (ops:Array Oper):∀ (fuel t:Nat) (listed:Array Bool) (F:List Nat->Prop),AnyOrder md ops fuel listed F->F (Region.linearise.go md ops fuel t listed []):=by
 intro fuel;induction fuel with
 | zero=>intro t listed F h;simpa [Region.linearise.go] using h.2;| succ fuel ih =>
  intro t listed F h;obtain ⟨h₀,h₁⟩:=h;simp only [Region.linearise.go];change F (match (Region.ready md ops listed)[t % (Region.ready md ops listed).length]? with | some i=>Region.linearise.go md ops fuel (t / (Region.ready md ops listed).length) (listed.setIfInBounds i true) [i] | none=>[].reverse);cases hi:(Region.ready md ops listed)[t % (Region.ready md ops listed).length]? with
  | none =>
   have hnil:Region.ready md ops listed=[]:=by cases hr:Region.ready md ops listed with | nil=>rfl | cons x xs => rw [hr] at hi;have hlt:t % (x::xs).length<(x::xs).length:=Nat.mod_lt _ (by simp);simp at hi;simp at hlt;omega
   exact h₀ hnil
  | some i => simp only [];rw [linearise_go_acc,List.reverse_singleton,List.singleton_append];exact ih _ _ _ (h₁ i (List.mem_of_getElem? hi))
theorem zbM {Q:Exit->Act->List Frame->World->Prop} {cs:List Frame} (hm:P.follows .mixedOrders=true) (h:AnyOrder .any ops ops.size (Array.replicate ops.size false) fun l=>wpOpsS P ops Q l a cs { w with drawn:=w.drawn+1 }):(Code.region id ops true).wpS P Q a cs w := wpS_region_draw fun t=>by simp only [Region.schedule,hm,Bool.true_or,if_true];exact anyOrder_sound .any ops ops.size t _ _ h
theorem zah (w:World) (r:Option Nat):w.grownBy w r:=⟨rfl,rfl,rfl,Nat.le_refl _,fun _ _ _=>rfl⟩
theorem za4 {w2:World} (h:w.grownBy w1 r) (h':w1.grownBy w2 r):w.grownBy w2 r := ⟨h'.os.trans h.os,h'.tape.trans h.tape,h'.output.trans h.output,Nat.le_trans h.size h'.size,fun k hk hn=>(h'.block k (Nat.lt_of_lt_of_le hk h.size) hn).trans (h.block k hk hn)⟩
theorem zaj (h:w.grownBy w1 r) (o:Obj):w.grownBy (w1.alloc o) r := za4 h ⟨rfl,rfl,rfl,by simp,fun k hk _=>Below.heap_alloc w1 o k hk⟩
theorem gb_set {r:Nat} (h:w.grownBy w1 (some r)) (i:Nat) (v:Value):w.grownBy (w1.setCell ⟨r,i,none⟩ v) (some r) := za4 h ⟨rfl,rfl,rfl,by simp [World.setCell],fun k _ hn=>Below.heap_setCell w1 _ v k (fun e=>hn (by rw [e]))⟩
theorem zbd (h:w.grownBy w1 r):w.grownBy w1.drew r:=za4 h ⟨rfl,rfl,rfl,Nat.le_refl _,fun _ _ _=>rfl⟩
end
end Go.Proofs.YtceigllifjgalaaGreatDoor
namespace Go.Proofs.YtceigllifjgalaaGreatDoor.Rm
open Go.RowKit
set_option linter.unusedSimpArgs false
set_option linter.unusedVariables false
section
variable {w w3:World} {R base e g m n size t:Nat} {v v3 va:Value} {news xs xsa xsb:List Value} {b1 cs cur:Array Value}
def mark (i:Nat):Int:=if i % 2=0 then 235 else 234
theorem zcl (i:Nat) (hi:i<=1000000) (w:World) :
 Calls Tryz.prog 132 #[.int .i64 i] w fun e w'=>e = .returned (.int .i64 (if i % 2=0 then -7701 else -7702))/\w'=w:=by
 by_cases h:i % 2=0
 · rw [if_pos h]
   have h':((i:Int) % 2==0)=true:=by simp;omega
   clear h;go_enter Tryz.func132,Tryz.ntmps132;go_wp2;go_ret;exact ⟨rfl,rfl⟩
 · rw [if_neg h]
   have h':((i:Int) % 2==0)=false:=by simp;omega
   clear h;go_enter Tryz.func132,Tryz.ntmps132;go_wp2;go_ret;exact ⟨rfl,rfl⟩
theorem Tryz.info5:(Tryz.prog.info? 5).map (fun i=>(i.zero,i.size,i.bytes))=some (some (.int .u8 0),1,1):=by kernel_rfl
theorem Tryz.info22:(Tryz.prog.info? 22).map (fun i=>(i.zero,i.size,i.bytes))=some (some (.slice none 0 0),1,24):=by kernel_rfl
theorem Tryz.info3:(Tryz.prog.info? 3).map (fun i=>(i.zero,i.size,i.bytes))=some (some (.int .i64 0),1,8):=by kernel_rfl
def Came (w:World) (ao:Option Addr) (len cap:Nat) (z:Nat->Int):Prop := len<=cap/\(∀ i,0<=z i/\z i<=255)/\((ao=none/\len=0/\cap=0)\/∃ ad,ao=some ad/\∀ i,i<len->w.cell? (ad.add i)=some (.int .u8 (z i)))
def cellsOf (z:Nat->Int) (n:Nat):List Value:=(List.range n).map fun i=>.int .u8 (z i)
theorem zbk (z:Nat->Int) (n:Nat):(cellsOf z n).length=n:=by simp [cellsOf]
theorem zbf (z:Nat->Int) (n j:Nat) (u:Value) (h:(cellsOf z n)[j]?=some u):j<n/\u = .int .u8 (z j):=by
 unfold cellsOf at h;rw [List.getElem?_map] at h;by_cases hj:j<n;· rw [List.getElem?_range hj] at h;simp at h;exact ⟨hj,h.symm⟩
 · rw [List.getElem?_eq_none (by simpa using hj)] at h
   simp at h
theorem zba (z:Nat->Int) (n j:Nat) (hj:j<n):(cellsOf z n)[j]?=some (.int .u8 (z j)):=by unfold cellsOf;rw [List.getElem?_map,List.getElem?_range hj];rfl
theorem zbj (z:Nat->Int) (n:Nat):cellsOf z (n+1)=cellsOf z n++[.int .u8 (z n)]:=by simp [cellsOf,List.range_succ]
theorem zaT (z:Nat->Int) (n:Nat) (u:Value) (h:u ∈ cellsOf z n):u.oneCell'=true:=by unfold cellsOf at h;obtain ⟨i,_,rfl⟩:=List.mem_map.1 h;rfl
theorem own_ne (h:w.ownsRow base e size v n xs) (hR:w.heap[R]?=some (.cells cs t (0,0))) (hne:e≠t):v.ownBlock≠some R:=by
 obtain ⟨_,h | ⟨g,cp,cur,rfl,_,hh,_⟩⟩:=h;· rw [h.1];simp [Value.ownBlock]
 · intro k;simp [Value.ownBlock] at k;subst k;rw [hh] at hR;simp at hR;exact hne hR.2
theorem zeR {e' n':Nat} {v':Value} {xs':List Value} (h:w.ownsRow base e size v n xs) (h':w.ownsRow base e' size v' n' xs') (hne:e≠e'):v.ownBlock=none\/v.ownBlock≠v'.ownBlock:=by
 obtain ⟨_,k | ⟨g,cp,cur,rfl,_,hh,_⟩⟩:=h;· rw [k.1];exact .inl rfl
 · right;have:=own_ne h' hh (Ne.symm hne);exact fun q=>this q.symm
theorem zag {i:Nat} (h:w.heap[R]?=some (.cells cs t (0,0))) (v:Value):(w.setCell ⟨R,i,none⟩ v).heap[R]?=some (.cells (cs.setIfInBounds i v) t (0,0)):=by simp [World.setCell,Array.getElem?_modify,h]
theorem zbQ (h:w.ownsRow base e size v n xs) (hn:¬ v = .slice none 0 0):∃ g cp,v = .slice (some ⟨g,0,none⟩) n cp:=by
 obtain ⟨_,k | ⟨g,cp,cur,hv,_⟩⟩:=h;· exact absurd k.1 hn
 · exact ⟨g,cp,hv⟩
def BelF (base:Nat) (w w':World):Prop:=Below base w w'/\∀ (g:Nat) (k:Array Value) (t:TypeId),t=5\/t=55->w.heap[g]?=some (.cells k t (0,0))->w'.heap[g]?=w.heap[g]?
theorem zeZ {wr:World} {vb:Value} 
 (hbel:Below w.heap.size w wr) (hRlt:R<w.heap.size) (hbase:base<=R) (hR:wr.heap[R]?=some (.cells cs 48 (0,0))) (ob:wr.ownsRow base 22 1 vb m xsb) (oa:wr.ownsRow base 3 1 va m xsa)
 (hg:w.heap.size<=g) (hh:wr.heap[g]?=some (.cells cur 5 (0,0))) (hown3:w3.ownsRow base 22 1 v3 (m+1) (xsb++news)) (hgrow3:(wr.alloc (.cells b1 22)).grownBy w3 vb.ownBlock) :
 w3.heap[R]?=some (.cells cs 48 (0,0))/\w3.ownsRow base 3 1 va m xsa/\w3.heap[g]?=some (.cells cur 5 (0,0))/\BelF base w w3/\(w3.setCell ⟨R,0,none⟩ v3).ownsRow base 3 1 va m xsa/\base<=w3.heap.size:=by
 have hlt:wr.heap.size<=w3.heap.size:=Nat.le_trans (by simp) hgrow3.size;have hRr:R<wr.heap.size:=lt_of_block hR;have hgr:g<wr.heap.size:=lt_of_block hh;have e1:w3.heap[R]?=some (.cells cs 48 (0,0)):=by rw [hgrow3.block R (by simp;omega) (fun q=>own_ne ob hR (by decide) q.symm),Below.heap_alloc wr _ R hRr,hR]
 have e2:w3.ownsRow base 3 1 va m xsa:=(oa.alloc _).kept hgrow3 (zeR oa ob (by decide));have e3:w3.heap[g]?=some (.cells cur 5 (0,0)):=by rw [hgrow3.block g (by simp;omega) (fun q=>own_ne ob hh (by decide) q.symm),Below.heap_alloc wr _ g hgr,hh]
 have hs:=hbel.size;refine ⟨e1,e2,e3,?_,ownsRow_setCell_other e2 (own_ne e2 e1 (by decide)) _,by omega⟩;refine ⟨((hbel.mono (by omega)).alloc (by omega) _).grown hgrow3 (by simp;omega) (fun k hk=>(ob.lt k hk).1),fun q kk t ht hq=>?_⟩;have q1:=(hbel.block q (lt_of_block hq)).trans hq;rw [hgrow3.block q (by have:=lt_of_block q1;simp;omega) (fun e=>own_ne ob q1 (by rcases ht with rfl | rfl <;> decide) e.symm),Below.heap_alloc wr _ q (lt_of_block q1),q1,hq]
theorem zeI {w5:World} {v5:Value} 
 (hR:w3.heap[R]?=some (.cells cs 48 (0,0))) (oa:w3.ownsRow base 3 1 va m xsa) (hh:w3.heap[g]?=some (.cells cur 5 (0,0))) (hbel:BelF base w w3) (hbase:base<=R) (hown3:w3.ownsRow base 22 1 v3 (m+1) xsb) (hown5:w5.ownsRow base 3 1 v5 (m+1) (xsa++news)) (hgrow5:((w3.setCell ⟨R,0,none⟩ v3).alloc (.cells b1 3)).grownBy w5 va.ownBlock) :
 w5.heap[R]?=some (.cells (cs.setIfInBounds 0 v3) 48 (0,0))/\(w5.setCell ⟨R,1,none⟩ v5).heap[R]?=some (.cells ((cs.setIfInBounds 0 v3).setIfInBounds 1 v5) 48 (0,0))/\(w5.setCell ⟨R,1,none⟩ v5).ownsRow base 22 1 v3 (m+1) xsb/\(w5.setCell ⟨R,1,none⟩ v5).ownsRow base 3 1 v5 (m+1) (xsa++news) /\ (w5.setCell ⟨R,1,none⟩ v5).heap[g]?=some (.cells cur 5 (0,0))/\BelF base w (w5.setCell ⟨R,1,none⟩ v5):=by
 have hRr:R<w3.heap.size:=lt_of_block hR;have hgr:g<w3.heap.size:=lt_of_block hh;have hgR:g≠R:=by rintro rfl;rw [hh] at hR;simp at hR
 have sz:(w3.setCell ⟨R,0,none⟩ v3).heap.size=w3.heap.size:=by simp [World.setCell]
 have r4:=zag (i:=0) hR v3;have o4:(w3.setCell ⟨R,0,none⟩ v3).ownsRow base 22 1 v3 (m+1) xsb:=ownsRow_setCell_other hown3 (own_ne hown3 hR (by decide)) _;have a4:(w3.setCell ⟨R,0,none⟩ v3).ownsRow base 3 1 va m xsa:=ownsRow_setCell_other oa (own_ne oa hR (by decide)) _;have g4:(w3.setCell ⟨R,0,none⟩ v3).heap[g]?=some (.cells cur 5 (0,0)):=(Below.heap_setCell w3 _ v3 g (by simpa using hgR)).trans hh;have b4:Below base w (w3.setCell ⟨R,0,none⟩ v3):=hbel.1.setCell (by simpa using hbase) _;have r5:w5.heap[R]?=some (.cells (cs.setIfInBounds 0 v3) 48 (0,0)):=by rw [hgrow5.block R (by simp;omega) (fun q=>own_ne oa hR (by decide) q.symm),Below.heap_alloc _ _ R (by omega),r4]
 have o5:w5.ownsRow base 22 1 v3 (m+1) xsb:=(o4.alloc _).kept hgrow5 (zeR o4 a4 (by decide));have g5:w5.heap[g]?=some (.cells cur 5 (0,0)):=by rw [hgrow5.block g (by simp;omega) (fun q=>own_ne a4 g4 (by decide) q.symm),Below.heap_alloc _ _ g (by omega),g4]
 have b5:Below base w w5:=(b4.alloc (by omega) _).grown hgrow5 (by simp;omega) (fun k hk=>(oa.lt k hk).1);refine ⟨r5,zag r5 v5,ownsRow_setCell_other o5 (own_ne o5 r5 (by decide)) _,ownsRow_setCell_other hown5 (own_ne hown5 r5 (by decide)) _,(Below.heap_setCell w5 _ v5 g (by simpa using hgR)).trans g5,b5.setCell (by simpa using hbase) _,fun q kk t ht hq=>?_⟩;have q1:w3.heap[q]?=some (.cells kk t (0,0)):=(hbel.2 q kk t ht hq).trans hq;have qR:q≠R:=by rintro rfl;rw [q1] at hR;rcases ht with rfl | rfl <;> simp at hR
 have q2:(w3.setCell ⟨R,0,none⟩ v3).heap[q]?=some (.cells kk t (0,0)):=(Below.heap_setCell w3 _ v3 q (by simpa using qR)).trans q1;rw [Below.heap_setCell w5 _ v5 q (by simpa using qR),hgrow5.block q (by have:=lt_of_block q2;simp at this ⊢;omega) (fun e=>own_ne a4 q2 (by rcases ht with rfl | rfl <;> decide) e.symm),Below.heap_alloc _ _ q (lt_of_block q2),q2,hq]
theorem zcG (w:World) (a:Addr) (v x:Value) (t:TypeId):∀ (j:Nat) (u:Value),[x][j]?=some u->((w.setCell a v).alloc (.cells #[x] t)).cell? ((⟨w.heap.size,0,none⟩:Addr).add j)=some u:=by
 have e:(w.setCell a v).heap.size=w.heap.size:=by simp [World.setCell]
 rw [<-e];exact cell_one_new _ _ _
end
end Go.Proofs.YtceigllifjgalaaGreatDoor.Rm
namespace Go.Proofs.YtceigllifjgalaaGreatDoor
open Go Go.RowKit
set_option linter.unusedSimpArgs false
set_option linter.unusedVariables false
theorem Tryz.info5:(Tryz.prog.info? 5).map (fun i=>(i.zero,i.size,i.bytes))=some (some (.int .u8 0),1,1):=by kernel_rfl
set_option maxRecDepth 100000
set_option maxHeartbeats 1000000
section
variable {w:World} {rb:Nat} {bv:Value} {at0 p0 q0:Int}
def RdAt (w:World) (rb:Nat) (bv:Value) (at0 p0 q0:Int):Prop:=w.heap[rb]?=some (.cells #[bv,.int .i64 at0,.int .i64 p0,.int .i64 q0] 268 (0,0))
theorem RdAt.facts (h:RdAt w rb bv at0 p0 q0):rb<w.heap.size/\w.cell? ⟨rb,0,none⟩=some bv/\w.cell? ⟨rb,1,none⟩=some (.int .i64 at0)/\w.cell? ⟨rb,2,none⟩=some (.int .i64 p0)/\w.cell? ⟨rb,3,none⟩=some (.int .i64 q0) /\
 w.frozen? ⟨rb,1,none⟩=false/\w.frozen? ⟨rb,2,none⟩=false/\w.frozen? ⟨rb,3,none⟩=false:=by
 unfold RdAt at h;refine ⟨lt_of_block h,?_,?_,?_,?_,?_,?_,?_⟩;all_goals simp [World.cell?,World.frozen?,h]
theorem zag {R i t:Nat} {cs:Array Value} (h:w.heap[R]?=some (.cells cs t (0,0))) (v:Value):(w.setCell ⟨R,i,none⟩ v).heap[R]?=some (.cells (cs.setIfInBounds i v) t (0,0)):=by simp [World.setCell,Array.getElem?_modify,h]
theorem RdAt.three (h:RdAt w rb bv at0 p0 q0) (f p q:Int) (o:Obj) :
 RdAt ((((w.setCell ⟨rb,1,none⟩ (.int .i64 f)).setCell ⟨rb,2,none⟩ (.int .i64 p)).setCell ⟨rb,3,none⟩ (.int .i64 q)).alloc o).drew rb bv f p q:=by
 have h3:=zag (i:=3) (zag (i:=2) (zag (i:=1) h (.int .i64 f)) (.int .i64 p)) (.int .i64 q);have e:=Below.heap_alloc _ o rb (lt_of_block h3);exact (e.trans h3)
theorem ta_hit (v:Value) (w:World):(Instr.typeAssert (.iface 134 v) 20 134 true).run Tryz.prog w = .ok (.tuple #[v,.bool true]) w:=by kernel_rfl
theorem ta_nil (w:World):(Instr.typeAssert .nilIface 20 134 true).run Tryz.prog w = .ok (.tuple #[.agg #[.int .i64 0,.int .i64 0],.bool false]) w:=by kernel_rfl
theorem settle_hit (rb:Nat) (bv:Value) (at0 p0 q0 f p q:Int) (w:World) (hR:RdAt w rb bv at0 p0 q0) :
 Calls Tryz.prog 258 #[.pointer (some ⟨rb,0,none⟩),.int .i64 f,.iface 134 (.agg #[.int .i64 p,.int .i64 q])] w fun e w'=>e = .returned (.tuple #[])/\RdAt w' rb bv f p q/\w.grownBy w' (some rb):=by
 obtain ⟨hlt,c0,c1,c2,c3,f1,f2,f3⟩:=hR.facts;have HR:=Hi hR;clear hR;have ta:=ta_hit;go_enter Tryz.func258,Tryz.ntmps258;go_wp2;go_region;all_goals (try go_wp2)
 all_goals go_end0
 exact ⟨rfl,HR.out.three f p q _,zbd (zaj (gb_set (gb_set (gb_set (zah _ _) _ _) _ _) _ _) _)⟩
theorem settle_idle (rb:Nat) (f:Int) (w:World) :
 Calls Tryz.prog 258 #[.pointer (some ⟨rb,0,none⟩),.int .i64 f,.nilIface] w fun e w'=>e = .returned (.tuple #[])/\Below w.heap.size w w':=by
 have ta:=ta_nil;go_enter Tryz.func258,Tryz.ntmps258;go_wp2;go_end0;exact ⟨rfl,(Below.refl _ _).alloc (Nat.le_refl _) _⟩
theorem mixed:Tryz.prog.follows .mixedOrders=true:=by kernel_rfl
def cops (s:String):Array Oper := #[{ dst:=some 3,op:=Op.load 241 (Operand.tmp 1),type:=241,pos:=s,after:=#[],guard:=.none }, { dst:=some 4,op:=Op.move (Operand.tmp 0),type:=3,pos:=s,after:=#[],guard:=.none }, { dst:=some 5,op:=Op.call { callee:=Callee.builtin Builtin.recover,args:=#[],argTypes:=#[] },type:=20,pos:=s,after:=#[],guard:=.none }, { dst:=some 6,op:=Op.call { callee:=Callee.value (Operand.func 258),args:=#[Operand.tmp 3,Operand.tmp 4,Operand.tmp 5],argTypes:=#[241,3,20] },type:=0,pos:=s,after:=#[⟨0,Ground.data⟩,⟨1,Ground.data⟩,⟨2,Ground.data⟩,⟨2,Ground.chain⟩],guard:=.none }]
theorem corders (s:String) (F:List Nat->Prop) (h1:F [0,1,2,3]) (h2:F [0,2,1,3]) (h3:F [1,0,2,3]) (h4:F [1,2,0,3]) (h5:F [2,0,1,3]) (h6:F [2,1,0,3]) :
 AnyOrder .any (cops s) 4 (Array.replicate 4 false) F:=by
 have r0:Region.ready .any (cops s) (Array.replicate 4 false)=[0,1,2]:=by kernel_rfl
 have a0:Region.ready .any (cops s) #[true,false,false,false]=[1,2]:=by kernel_rfl
 have a1:Region.ready .any (cops s) #[false,true,false,false]=[0,2]:=by kernel_rfl
 have a2:Region.ready .any (cops s) #[false,false,true,false]=[0,1]:=by kernel_rfl
 have b0:Region.ready .any (cops s) #[false,true,true,false]=[0]:=by kernel_rfl
 have b1:Region.ready .any (cops s) #[true,false,true,false]=[1]:=by kernel_rfl
 have b2:Region.ready .any (cops s) #[true,true,false,false]=[2]:=by kernel_rfl
 have c0:Region.ready .any (cops s) #[true,true,true,false]=[3]:=by kernel_rfl
 have d0:Region.ready .any (cops s) #[true,true,true,true]=[]:=by kernel_rfl
 have fin:∀ G:List Nat->Prop,G [3]->AnyOrder .any (cops s) 1 #[true,true,true,false] G:=fun G g=>by refine ⟨fun h=>(by rw [c0] at h;cases h),fun i hi=>?_⟩;rw [c0] at hi;obtain rfl:=List.mem_singleton.1 hi;exact ⟨d0,g⟩
 refine ⟨fun h=>(by rw [r0] at h;cases h),fun i hi=>?_⟩;rw [r0] at hi;simp only [List.mem_cons,List.not_mem_nil,or_false] at hi;rcases hi with rfl | rfl | rfl
 · refine ⟨fun h=>(by have h:Region.ready .any (cops s) #[true,false,false,false]=[]:=h;rw [a0] at h;cases h),fun i hi=>?_⟩
   have hi:i ∈ Region.ready .any (cops s) #[true,false,false,false]:=hi;rw [a0] at hi;simp only [List.mem_cons,List.not_mem_nil,or_false] at hi;rcases hi with rfl | rfl
   · refine ⟨fun h=>(by have h:Region.ready .any (cops s) #[true,true,false,false]=[]:=h;rw [b2] at h;cases h),fun i hi=>?_⟩
     have hi:i ∈ Region.ready .any (cops s) #[true,true,false,false]:=hi;rw [b2] at hi;obtain rfl:=List.mem_singleton.1 hi;exact fin _ h1
   · refine ⟨fun h=>(by have h:Region.ready .any (cops s) #[true,false,true,false]=[]:=h;rw [b1] at h;cases h),fun i hi=>?_⟩
     have hi:i ∈ Region.ready .any (cops s) #[true,false,true,false]:=hi;rw [b1] at hi;obtain rfl:=List.mem_singleton.1 hi;exact fin _ h2
 · refine ⟨fun h=>(by have h:Region.ready .any (cops s) #[false,true,false,false]=[]:=h;rw [a1] at h;cases h),fun i hi=>?_⟩
   have hi:i ∈ Region.ready .any (cops s) #[false,true,false,false]:=hi;rw [a1] at hi;simp only [List.mem_cons,List.not_mem_nil,or_false] at hi;rcases hi with rfl | rfl
   · refine ⟨fun h=>(by have h:Region.ready .any (cops s) #[true,true,false,false]=[]:=h;rw [b2] at h;cases h),fun i hi=>?_⟩
     have hi:i ∈ Region.ready .any (cops s) #[true,true,false,false]:=hi;rw [b2] at hi;obtain rfl:=List.mem_singleton.1 hi;exact fin _ h3
   · refine ⟨fun h=>(by have h:Region.ready .any (cops s) #[false,true,true,false]=[]:=h;rw [b0] at h;cases h),fun i hi=>?_⟩
     have hi:i ∈ Region.ready .any (cops s) #[false,true,true,false]:=hi;rw [b0] at hi;obtain rfl:=List.mem_singleton.1 hi;exact fin _ h4
 · refine ⟨fun h=>(by have h:Region.ready .any (cops s) #[false,false,true,false]=[]:=h;rw [a2] at h;cases h),fun i hi=>?_⟩
   have hi:i ∈ Region.ready .any (cops s) #[false,false,true,false]:=hi;rw [a2] at hi;simp only [List.mem_cons,List.not_mem_nil,or_false] at hi;rcases hi with rfl | rfl
   · refine ⟨fun h=>(by have h:Region.ready .any (cops s) #[true,false,true,false]=[]:=h;rw [b1] at h;cases h),fun i hi=>?_⟩
     have hi:i ∈ Region.ready .any (cops s) #[true,false,true,false]:=hi;rw [b1] at hi;obtain rfl:=List.mem_singleton.1 hi;exact fin _ h5
   · refine ⟨fun h=>(by have h:Region.ready .any (cops s) #[false,true,true,false]=[]:=h;rw [b0] at h;cases h),fun i hi=>?_⟩
     have hi:i ∈ Region.ready .any (cops s) #[false,true,true,false]:=hi;rw [b0] at hi;obtain rfl:=List.mem_singleton.1 hi;exact fin _ h6
theorem zbN (s:String) (fn:Func) (hres:∀ tmps (w:World),(results fn tmps).run Tryz.prog w = .ok (.tuple #[]) w) (rb:Nat) (pc:Addr) (bv:Value) (at0 p0 q0 f p q:Int) (older:List PanicEntry) (w:World) (hR:RdAt w rb bv at0 p0 q0) (hp:w.cell? pc=some (.pointer (some ⟨rb,0,none⟩)))
 (c₀:Frame) (cs:List Frame) (hu:c₀.mode = .panicking ({ v:=.iface 134 (.agg #[.int .i64 p,.int .i64 q]),recovered:=false }::older)) :
 (Code.region 0 (cops s) true).wpS Tryz.prog (bodyPostS Tryz.prog fn c₀ cs fun e u' w'=>e = .returned (.tuple #[])/\u' = .panicking ({ v:=.iface 134 (.agg #[.int .i64 p,.int .i64 q]),recovered:=true }::older)/\RdAt w' rb bv f p q/\w.grownBy w' (some rb)) { tmps:=#[.int .i64 f,.pointer (some pc),undef,undef,undef,undef,undef],defers:=[] } (c₀::cs) w:=by
 apply zbM mixed;have key:=settle_hit rb bv at0 p0 q0 f p q w.drew hR;refine corders s _ ?_ ?_ ?_ ?_ ?_ ?_;all_goals simp [wpOpsS,cops,go_sem,recoverD,hu,hp];refine key.mono ?_;rintro e w' ⟨rfl,h1,h2⟩;exact ⟨rfl,_,rfl,_,hres _ _,rfl,rfl,h1,za4 (zbd (zah _ _)) h2⟩
theorem zbI (s:String) (fn:Func) (hres:∀ tmps (w:World),(results fn tmps).run Tryz.prog w = .ok (.tuple #[]) w) (rb:Nat) (pc:Addr) (f:Int) (w:World) (hp:w.cell? pc=some (.pointer (some ⟨rb,0,none⟩)))
 (c₀:Frame) (cs:List Frame) (hu:c₀.mode = .returning) :
 (Code.region 0 (cops s) true).wpS Tryz.prog (bodyPostS Tryz.prog fn c₀ cs fun e u' w'=>e = .returned (.tuple #[])/\u' = .returning/\Below w.heap.size w w') { tmps:=#[.int .i64 f,.pointer (some pc),undef,undef,undef,undef,undef],defers:=[] } (c₀::cs) w:=by
 apply zbM mixed;have key:=settle_idle rb f w.drew;have hc:{ c₀ with mode:=.returning }=c₀:=by cases c₀;simp_all
 refine corders s _ ?_ ?_ ?_ ?_ ?_ ?_;all_goals simp [wpOpsS,cops,go_sem,recoverD,hu,hp];refine key.mono ?_;rintro e w' ⟨rfl,h1⟩;exact ⟨rfl,.returning,by rw [hc],_,hres _ _,rfl,rfl,(Below.refl _ _).drew.trans h1⟩
theorem clo41_idle (rb:Nat) (pc:Addr) (f:Int) (w:World) (hp:w.cell? pc=some (.pointer (some ⟨rb,0,none⟩))) : CallsD Tryz.prog 312 #[.int .i64 f,.pointer (some pc)] .returning w fun e u' w'=>e = .returned (.tuple #[])/\u' = .returning/\Below w.heap.size w w' := callsD_of_wpS Tryz.func312 rfl fun c₀ cs hu=>zbI "reader.go:55" Tryz.f312 (fun tmps w=>results_none rfl _ _ _) rb pc f w hp c₀ cs hu
theorem clo43_hit (rb:Nat) (pc:Addr) (bv:Value) (at0 p0 q0 f p q:Int) (older:List PanicEntry) (w:World) (hR:RdAt w rb bv at0 p0 q0) (hp:w.cell? pc=some (.pointer (some ⟨rb,0,none⟩))) : CallsD Tryz.prog 296 #[.int .i64 f,.pointer (some pc)] (.panicking ({ v:=.iface 134 (.agg #[.int .i64 p,.int .i64 q]),recovered:=false }::older)) w fun e u' w' => e = .returned (.tuple #[])/\u' = .panicking ({ v:=.iface 134 (.agg #[.int .i64 p,.int .i64 q]),recovered:=true }::older)/\RdAt w' rb bv f p q/\w.grownBy w' (some rb) := callsD_of_wpS Tryz.func296 rfl fun c₀ cs hu=>zbN "reader.go:79" Tryz.f296 (fun tmps w=>results_none rfl _ _ _) rb pc bv at0 p0 q0 f p q older w hR hp c₀ cs hu
end
set_option maxHeartbeats 400000
theorem aside {X:Prop} (P:Program) (a:Act) (w:World) (h:X) (_:wpAny P .any #[] (fun _ _ _=>True) 0 #[] a w):X:=h
abbrev gave (p q:Int):Ending:=.panicked [{ v:=.iface 134 (.agg #[.int .i64 p,.int .i64 q]),recovered:=false }]
theorem zcA (p q:Int) (w:World) :
 Calls Tryz.prog 287 #[.int .i64 p,.int .i64 q] w fun e w'=>e=gave p q/\w'=w:=by
 go_enter Tryz.func287,Tryz.ntmps287;go_wp2;exact ⟨rfl,rfl,rfl⟩
theorem zdq (rb:Nat) (bv:Value) (at0 p0 q0:Int) (w:World) (hR:RdAt w rb bv at0 p0 q0) (hq:¬ q0=0) :
 Calls Tryz.prog 286 #[.pointer (some ⟨rb,0,none⟩)] w fun e w'=>e=gave p0 q0/\Below w.heap.size w w':=by
 obtain ⟨hlt,c0,c1,c2,c3,f1,f2,f3⟩:=hR.facts;clear hR;have hq':(q0 != 0)=true:=by simpa using hq
 clear hq;go_enter Tryz.func286,Tryz.ntmps286;go_wp2;go_region_with (go_at_call 287;refine (zcA _ _ _).mono ?_;rintro e w' ⟨rfl,rfl⟩;refine aside Tryz.prog { tmps:=#[],defers:=[] } w ⟨rfl,rfl,(Below.refl _ _).drew⟩ ?_);all_goals trivial
theorem zcH (rb g n cp at0:Nat) (p0:Int) (w:World) (hR:RdAt w rb (.slice (some ⟨g,0,none⟩) n cp) at0 p0 0) (h1:at0<=n) (h2:n<=cp) (h3:n<=1000000) :
 Calls Tryz.prog 286 #[.pointer (some ⟨rb,0,none⟩)] w fun e w'=>(∃ ad,e = .returned (.slice (some ad) (n-at0) (cp-at0))/\(at0<cp->ad=⟨g,at0,none⟩))/\w'=w.drew:=by
 obtain ⟨hlt,c0,c1,c2,c3,f1,f2,f3⟩:=hR.facts;clear hR;go_enter Tryz.func286,Tryz.ntmps286;go_wp2;go_region;all_goals (try go_wp2)
 all_goals go_ret
 · exact ⟨⟨_,rfl⟩,rfl⟩
 · exact ⟨⟨_,rfl,fun _=>rfl⟩,rfl⟩
section
variable {w:World} {rb:Nat} {bv:Value} {at0 p0 q0:Int}
theorem RdAt.kept {w':World} (h:RdAt w rb bv at0 p0 q0) (hb:Below w.heap.size w w'):RdAt w' rb bv at0 p0 q0:=(hb.block rb (lt_of_block h)).trans h
theorem RdAt.moved (h:RdAt w rb bv at0 p0 q0) (f:Int):RdAt (w.setCell ⟨rb,1,none⟩ (.int .i64 f)) rb bv f p0 q0:=zag (i:=1) h (.int .i64 f)
theorem zep (rb:Nat) (bv:Value) (at0 p0 q0 k:Int) (w:World) (hR:RdAt w rb bv at0 p0 q0) (hq:¬ q0=0) :
 Calls Tryz.prog 259 #[.pointer (some ⟨rb,0,none⟩),.int .i64 k] w fun e w'=>e=gave p0 q0/\Below w.heap.size w w':=by
 have HL:=Hi (zdq rb bv at0 p0 q0 w hR hq);clear hR hq;go_enter Tryz.func259,Tryz.ntmps259;go_wp2_with (go_at_call 286;refine HL.out.mono ?_;rintro e w' ⟨rfl,hb⟩);exact ⟨rfl,rfl,hb⟩
theorem zbG (rb g n cp at0 k:Nat) (p0:Int) (w:World) (hR:RdAt w rb (.slice (some ⟨g,0,none⟩) n cp) at0 p0 0) (h1:at0<=n) (h2:n<=cp) (h3:n<=1000000) (hk:n<at0+k) :
 Calls Tryz.prog 259 #[.pointer (some ⟨rb,0,none⟩),.int .i64 k] w fun e w'=>e=gave n 10/\Below w.heap.size w w':=by
 have HL:=Hi (zcH rb g n cp at0 p0 w hR h1 h2 h3);obtain ⟨hlt,c0,c1,c2,c3,f1,f2,f3⟩:=hR.facts;clear hR;have hx:(((n-at0:Nat):Int))<(k:Int):=by omega
 go_enter Tryz.func259,Tryz.ntmps259;go_wp2_with (first | (go_at_call 286;refine HL.out.mono ?_;rintro e w' ⟨⟨ad,rfl,_⟩,rfl⟩)|(go_at_call 287;refine (zcA _ _ _).mono ?_;rintro e w' ⟨rfl,rfl⟩));exact ⟨rfl,rfl,(Below.refl _ _).drew⟩
theorem zcj (rb g n cp at0 k:Nat) (p0:Int) (w:World) (hR:RdAt w rb (.slice (some ⟨g,0,none⟩) n cp) at0 p0 0) (h2:n<=cp) (h3:n<=1000000) (hk:at0+k<=n) :
 Calls Tryz.prog 259 #[.pointer (some ⟨rb,0,none⟩),.int .i64 k] w fun e w'=>(∃ ad,e = .returned (.slice (some ad) k (cp-at0))/\(at0<cp->ad=⟨g,at0,none⟩))/\RdAt w' rb (.slice (some ⟨g,0,none⟩) n cp) ((at0+k:Nat):Int) p0 0/\w.grownBy w' (some rb):=by
 have HL:Hid (Calls Tryz.prog 286 #[.pointer (some ⟨rb,0,none⟩)] w fun e w'=>(∃ ad,e = .returned (.slice (some ad) (n-at0) (cp-at0))/\(at0<cp->ad=⟨g,at0,none⟩))/\w'=w.drew):=zcH rb g n cp at0 p0 w hR (by omega) h2 h3;obtain ⟨hlt,c0,c1,c2,c3,f1,f2,f3⟩:=hR.facts;have HR:=Hi hR;clear hR;have hx:¬ (((n-at0:Nat):Int))<(k:Int):=by omega
 have hy:k<=cp-at0:=by omega
 go_enter Tryz.func259,Tryz.ntmps259;go_wp2_with (go_at_call 286;refine HL.out.mono ?_;rintro e w' ⟨⟨ad,rfl,had⟩,rfl⟩);go_ret;exact ⟨⟨ad,rfl,had⟩,HR.out.moved _,zbd (gb_set (zah _ _) _ _)⟩
end
theorem zce (rb g n cp at0:Nat) (p0 x0 x1:Int) (w:World) (hR:RdAt w rb (.slice (some ⟨g,0,none⟩) n cp) at0 p0 0) (h2:n<=cp) (h3:n<=1000000) (hk:at0+2<=n) (hgr:g≠rb)
 (z0:0<=x0/\x0<=255) (z1:0<=x1/\x1<=255) (c0:w.cell? ⟨g,at0,none⟩=some (.int .u8 x0)) (c1:w.cell? ⟨g,at0+1,none⟩=some (.int .u8 x1)) :
 Calls Tryz.prog 295 #[.pointer (some ⟨rb,0,none⟩),.int .i64 2] w fun e w'=>e = .returned (.int .i64 (x0*256+x1))/\RdAt w' rb (.slice (some ⟨g,0,none⟩) n cp) ((at0+2:Nat):Int) p0 0/\w.grownBy w' (some rb):=by
 have HT:=Hi (zcj rb g n cp at0 2 p0 w hR h2 h3 hk);have HC:Hid (∀ w',w.grownBy w' (some rb)->w'.cell? ⟨g,at0,none⟩=some (.int .u8 x0)/\w'.cell? ⟨g,at0+1,none⟩=some (.int .u8 x1)):=fun w' h=>⟨h.cell c0 (by simpa using hgr),h.cell c1 (by simpa using hgr)⟩;clear hR c0 c1;have hat:at0<cp:=by omega
 have o0:bits .or .i64 0 x0=x0:=by have h:=or_up 0 (by decide) 0 x0 (by omega) (by omega) (by omega) (by omega) (by omega) (by omega);omega
 have o1:bits .or .i64 (x0*256) x1=x0*256+x1:=bits_join .i64 62 (by decide) zbb 8 _ _ (by omega) (by omega) (by omega) (by omega) (by omega) (by omega);go_enter Tryz.func295,Tryz.ntmps295;go_wp2_with (go_at_call 259;refine HT.out.mono ?_;rintro e w1 ⟨⟨ad,rfl,had⟩,hR1,hg1⟩;obtain rfl:=had hat;clear had;obtain ⟨d0,d1⟩:=HC.out _ hg1;have HR1:Hid (RdAt w1 rb (.slice (some ⟨g,0,none⟩) n cp) ((at0+2:Nat):Int) p0 0/\w.grownBy w1 (some rb)):=⟨hR1,hg1⟩;clear hR1 hg1);go_loop [5,7,12] (fun v _ i=>(i = .int .i64 0/\v = .int .i64 0)\/(i = .int .i64 1/\v = .int .i64 x0)\/(i = .int .i64 2/\v = .int .i64 (x0*256+x1))) (fun _ _ i=>2-(intOf i).toNat);case atStart=>exact .inl ⟨rfl,rfl⟩
 case round =>
  rcases hrel with ⟨rfl,rfl⟩|⟨rfl,rfl⟩|⟨rfl,rfl⟩
  · go_wp2
    go_round;case rel=>exact .inr (.inl ⟨rfl,rfl⟩)
    case measure=>simp [intOf]
  · go_wp2
    go_round;case rel=>exact .inr (.inr ⟨rfl,rfl⟩)
    case measure=>simp [intOf]
  · go_wp2
    go_ret;exact ⟨rfl,HR1.out.1,HR1.out.2⟩
end Go.Proofs.YtceigllifjgalaaGreatDoor
namespace Go.Proofs.YtceigllifjgalaaGreatDoor.Rm
open Go.RowKit
set_option linter.unusedSimpArgs false
set_option linter.unusedVariables false
set_option maxHeartbeats 400000
def wi (c a b:Int):Bool:=decide (a<=c) && decide (c<=b)
def atI (s:ByteArray) (j:Int):Int:=atB s j.toNat
def tlN (s:ByteArray) (f:Nat):Nat->Bool | 0=>true | n+1=>tlN s f n && wi (atI s (f+n:Nat)) 128 191
def tlI (s:ByteArray) (j l:Int):Bool:=tlN s j.toNat (l-j).toNat
theorem zdI (s:ByteArray) (f:Nat):∀ (m n:Nat),tlN s f m=false->m<=n->tlN s f n=false
 | m,0,h,hm=>by
  obtain rfl:m=0:=by omega
  exact h
 | m,n+1,h,hm=>by
  by_cases e:m=n+1;· subst e;exact h
  · simp [tlN,zdI s f m n h (by omega)]
theorem zam (c a b:Int) (w:World) :
 Calls Tryz.prog 310 #[.int .u8 c,.int .u8 a,.int .u8 b] w fun e w'=>e = .returned (.bool (wi c a b))/\w'=w:=by
 by_cases h1:a<=c
 · by_cases h2:c<=b
   · have hw:wi c a b=true:=by simp [wi,h1,h2]
     rw [hw];clear hw;go_enter Tryz.func310,Tryz.ntmps310;go_wp2;go_ret;exact ⟨rfl,rfl⟩
   · have hw:wi c a b=false:=by simp [wi,h2]
     rw [hw];clear hw;go_enter Tryz.func310,Tryz.ntmps310;go_wp2;go_ret;exact ⟨rfl,rfl⟩
 · have hw:wi c a b=false:=by simp [wi,h1]
   rw [hw];clear hw;go_enter Tryz.func310,Tryz.ntmps310;go_wp2;go_ret;exact ⟨rfl,rfl⟩
theorem at_any (s:ByteArray) (j:Int) (hj:0<=j) (w:World) :
 Calls Tryz.prog 309 #[.string s,.int .i64 j] w fun e w'=>e = .returned (.int .u8 (atI s j))/\w'=w:=by
 obtain ⟨i,rfl⟩:∃ i:Nat,j=i:=⟨j.toNat,by omega⟩;have e:atI s (i:Int)=atB s i:=rfl;rw [e];clear e hj;by_cases h:i<s.size
 · rw [atB_in s i h]
   go_enter Tryz.func309,Tryz.ntmps309;go_wp2;go_ret;exact ⟨rfl,rfl⟩
 · rw [zdy s i h]
   go_enter Tryz.func309,Tryz.ntmps309;go_wp2;go_ret;exact ⟨rfl,rfl⟩
theorem tail_nat (s:ByteArray) (f n:Nat) (hb:f+n<=1000000000) (w:World) :
 Calls Tryz.prog 311 #[.string s,.int .i64 f,.int .i64 (f+n:Int)] w fun e w'=>e = .returned (.bool (tlN s f n))/\w'=w:=by
 go_enter Tryz.func311,Tryz.ntmps311;go_wp2;go_loop [7] (fun i=>∃ k:Nat,k<=n/\i = .int .i64 ((f+k:Nat):Int)/\tlN s f k=true) (fun i=>f+n-(intOf i).toNat);case atStart=>exact ⟨0,Nat.zero_le _,rfl,rfl⟩
 case round =>
  obtain ⟨k,hk,rfl,ht⟩:=hrel;have HT:=Hi ht;clear ht;by_cases hlt:k<n
  · by_cases hw:wi (atI s ((f:Int)+(k:Int))) 128 191=true
    · have HS:Hid (tlN s f (k+1)=true):=by have h1:=HT.out;simp only [tlN,h1,Int.natCast_add,hw,Bool.and_true,Hid]
      go_wp2_with (first | (go_at_call 309;refine (at_any _ _ (by omega) _).mono ?_;rintro e w' ⟨rfl,rfl⟩)|(go_at_call 310;refine (zam _ _ _ _).mono ?_;rintro e w' ⟨rfl,rfl⟩));go_round;case rel=>exact ⟨k+1,by omega,by go_num,HS.out⟩
      case measure=>simp [intOf];omega
    · have hw':wi (atI s ((f:Int)+(k:Int))) 128 191=false:=by simpa using hw
      clear hw;have HS:Hid (tlN s f n=false):=zdI s f (k+1) n (by simp [tlN,hw']) (by omega);go_wp2_with (first | (go_at_call 309;refine (at_any _ _ (by omega) _).mono ?_;rintro e w' ⟨rfl,rfl⟩)|(go_at_call 310;refine (zam _ _ _ _).mono ?_;rintro e w' ⟨rfl,rfl⟩));go_ret;exact ⟨by rw [HS.out];rfl,rfl⟩
  · obtain rfl:k=n:=by omega
    go_wp2;go_ret;exact ⟨by rw [HT.out];rfl,rfl⟩
theorem zex (s:ByteArray) (j l:Int) (hj:0<=j) (hl:j<=l) (hb:l<=1000000000) (w:World) :
 Calls Tryz.prog 311 #[.string s,.int .i64 j,.int .i64 l] w fun e w'=>e = .returned (.bool (tlI s j l))/\w'=w:=by
 obtain ⟨f,rfl⟩:∃ f:Nat,j=f:=⟨j.toNat,by omega⟩;obtain ⟨n,rfl⟩:∃ n:Nat,l=(f:Int)+n:=⟨(l-f).toNat,by omega⟩;have e:tlI s f ((f:Int)+n)=tlN s f n:=by unfold tlI;congr 1;omega
 rw [e];exact tail_nat s f n (by omega) w
theorem point_way0 (s:ByteArray) (i:Nat) (hb:i<=1000000) (_lo:(0:Int)<=atI s i) (hi:atI s i<=127)  (w:World) :
 Calls Tryz.prog 285 #[.string s,.int .i64 i] w fun e w'=>e = .returned (.int .i64 1)/\w'=w:=by
 go_enter Tryz.func285,Tryz.ntmps285;go_wp2_with (first | (go_at_call 309;refine (at_any _ _ (by omega) _).mono ?_;rintro e w' ⟨rfl,rfl⟩)|(go_at_call 310;refine (zam _ _ _ _).mono ?_;rintro e w' ⟨rfl,rfl⟩)|(go_at_call 311;refine (zex _ _ _ (by omega) (by omega) (by omega) _).mono ?_;rintro e w' ⟨rfl,rfl⟩));go_ret;exact ⟨rfl,rfl⟩
theorem pway (s:ByteArray) (i:Nat) (hb:i<=1000000) (l h n:Int) (lo:l<=atI s i) (hi:atI s i<=h) (w:World) (q:l=128/\h=193/\n=0\/l=194/\h=223/\tlI s ((i:Int)+1) ((i:Int)+2)=true/\n=2\/l=194/\h=223/\tlI s ((i:Int)+1) ((i:Int)+2)=false/\n=0\/l=224/\h=224/\wi (atI s ((i:Int)+1)) 160 191=true/\tlI s ((i:Int)+2) ((i:Int)+3)=true/\n=3\/l=224/\h=224/\wi (atI s ((i:Int)+1)) 160 191=true/\tlI s ((i:Int)+2) ((i:Int)+3)=false/\n=0\/l=224/\h=224/\wi (atI s ((i:Int)+1)) 160 191=false/\n=0\/l=225/\h=236/\tlI s ((i:Int)+1) ((i:Int)+3)=true/\n=3\/l=225/\h=236/\tlI s ((i:Int)+1) ((i:Int)+3)=false/\n=0\/l=237/\h=237/\wi (atI s ((i:Int)+1)) 128 159=true/\tlI s ((i:Int)+2) ((i:Int)+3)=true/\n=3\/l=237/\h=237/\wi (atI s ((i:Int)+1)) 128 159=true/\tlI s ((i:Int)+2) ((i:Int)+3)=false/\n=0\/l=237/\h=237/\wi (atI s ((i:Int)+1)) 128 159=false/\n=0\/l=238/\h=239/\tlI s ((i:Int)+1) ((i:Int)+3)=true/\n=3\/l=238/\h=239/\tlI s ((i:Int)+1) ((i:Int)+3)=false/\n=0\/l=240/\h=240/\wi (atI s ((i:Int)+1)) 144 191=true/\tlI s ((i:Int)+2) ((i:Int)+4)=true/\n=4\/l=240/\h=240/\wi (atI s ((i:Int)+1)) 144 191=true/\tlI s ((i:Int)+2) ((i:Int)+4)=false/\n=0\/l=240/\h=240/\wi (atI s ((i:Int)+1)) 144 191=false/\n=0\/l=241/\h=243/\tlI s ((i:Int)+1) ((i:Int)+4)=true/\n=4\/l=241/\h=243/\tlI s ((i:Int)+1) ((i:Int)+4)=false/\n=0\/l=244/\h=244/\wi (atI s ((i:Int)+1)) 128 143=true/\tlI s ((i:Int)+2) ((i:Int)+4)=true/\n=4\/l=244/\h=244/\wi (atI s ((i:Int)+1)) 128 143=true/\tlI s ((i:Int)+2) ((i:Int)+4)=false/\n=0\/l=244/\h=244/\wi (atI s ((i:Int)+1)) 128 143=false/\n=0\/l=245/\h=255/\n=0):Calls Tryz.prog 285 #[.string s,.int .i64 i] w fun e w'=>e = .returned (.int .i64 n)/\w'=w:=by
 rcases q with ⟨rfl,rfl,rfl⟩|⟨rfl,rfl,t0,rfl⟩|⟨rfl,rfl,t0,rfl⟩|⟨rfl,rfl,t0,t1,rfl⟩|⟨rfl,rfl,t0,t1,rfl⟩|⟨rfl,rfl,t0,rfl⟩|⟨rfl,rfl,t0,rfl⟩|⟨rfl,rfl,t0,rfl⟩|⟨rfl,rfl,t0,t1,rfl⟩|⟨rfl,rfl,t0,t1,rfl⟩|⟨rfl,rfl,t0,rfl⟩|⟨rfl,rfl,t0,rfl⟩|⟨rfl,rfl,t0,rfl⟩|⟨rfl,rfl,t0,t1,rfl⟩|⟨rfl,rfl,t0,t1,rfl⟩|⟨rfl,rfl,t0,rfl⟩|⟨rfl,rfl,t0,rfl⟩|⟨rfl,rfl,t0,rfl⟩|⟨rfl,rfl,t0,t1,rfl⟩|⟨rfl,rfl,t0,t1,rfl⟩|⟨rfl,rfl,t0,rfl⟩|⟨rfl,rfl,rfl⟩;all_goals
  have x0:¬ atI s i<=127:=by omega
  cases y0:wi (atI s i) 194 223 <;> try (exfalso;simp [wi] at y0;omega)
  cases y1:wi (atI s i) 225 236 <;> try (exfalso;simp [wi] at y1;omega)
  cases y2:wi (atI s i) 238 239 <;> try (exfalso;simp [wi] at y2;omega)
  cases y3:wi (atI s i) 241 243 <;> try (exfalso;simp [wi] at y3;omega)
  cases z0:(atI s i==224) <;> try (exfalso;simp at z0;omega)
  cases z1:(atI s i==237) <;> try (exfalso;simp at z1;omega)
  cases z2:(atI s i==240) <;> try (exfalso;simp at z2;omega)
  cases z3:(atI s i==244) <;> try (exfalso;simp at z3;omega)
  clear lo hi;go_enter Tryz.func285,Tryz.ntmps285;go_wp2_with (first | (go_at_call 309;refine (at_any _ _ (by omega) _).mono ?_;rintro e w' ⟨rfl,rfl⟩)|(go_at_call 310;refine (zam _ _ _ _).mono ?_;rintro e w' ⟨rfl,rfl⟩)|(go_at_call 311;refine (zex _ _ _ (by omega) (by omega) (by omega) _).mono ?_;rintro e w' ⟨rfl,rfl⟩));go_ret;exact ⟨rfl,rfl⟩
end Go.Proofs.YtceigllifjgalaaGreatDoor.Rm
