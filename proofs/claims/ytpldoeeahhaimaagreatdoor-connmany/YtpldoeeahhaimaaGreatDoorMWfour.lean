import Derived.Test.YtpldoeeahhaimaaGreatDoorProg
import Derived.WalkSpells
import Derived.WalkLawsBesides
import Derived.Test.YtpldoeeahhaimaaGreatDoorPt
namespace Go.Proofs.YtpldoeeahhaimaaGreatDoor
open Go Go.RowKit
set_option linter.all false
theorem wpS_region_draw {P:Program} {Q:Exit->Act->List Frame->World->Prop} {a:Act} {cs:List Frame} {w:World} {id:Nat} {ops:Array Oper} (h:∀ t,wpOpsS P ops Q (Region.schedule (P.follows .mixedOrders) ops t) a cs { w with drawn:=w.drawn+1 }):(Code.region id ops true).wpS P Q a cs w := fun b k hb hr=>let ⟨e,a',cs',w',q,r⟩:=wp_opsS _ a cs _ (h _) b k hb hr;⟨e,a',cs',w',q,.of_steps (.one step_region_draw) r⟩
def AnyOrder (md:Region.Mode) (ops:Array Oper):Nat->Array Bool->(List Nat->Prop)->Prop | 0,listed,F=>Region.ready md ops listed=[]/\F [] | fuel+1,listed,F=>(Region.ready md ops listed=[]->F [])/\∀ i ∈ Region.ready md ops listed,AnyOrder md ops fuel (listed.setIfInBounds i true) fun l=>F (i::l)
theorem anyOrder_sound (md:Region.Mode) (ops:Array Oper):∀ (fuel t:Nat) (listed:Array Bool) (F:List Nat->Prop),AnyOrder md ops fuel listed F->F (Region.linearise.go md ops fuel t listed []):=by
 intro fuel;induction fuel with
 | zero=>intro t listed F h;simpa [Region.linearise.go] using h.2;| succ fuel ih =>
  intro t listed F h;obtain ⟨h₀,h₁⟩:=h;simp only [Region.linearise.go];change F (match (Region.ready md ops listed)[t % (Region.ready md ops listed).length]? with | some i=>Region.linearise.go md ops fuel (t / (Region.ready md ops listed).length) (listed.setIfInBounds i true) [i] | none=>[].reverse);cases hi:(Region.ready md ops listed)[t % (Region.ready md ops listed).length]? with
  | none =>
   have hnil:Region.ready md ops listed=[]:=by cases hr:Region.ready md ops listed with | nil=>rfl | cons x xs => rw [hr] at hi;have hlt:t % (x::xs).length<(x::xs).length:=Nat.mod_lt _ (by simp);simp at hi;simp at hlt;omega
   exact h₀ hnil
  | some i => simp only [];rw [linearise_go_acc,List.reverse_singleton,List.singleton_append];exact ih _ _ _ (h₁ i (List.mem_of_getElem? hi))
theorem wpS_region_any {P:Program} {Q:Exit->Act->List Frame->World->Prop} {a:Act} {cs:List Frame} {w:World} {id:Nat} {ops:Array Oper} (hm:P.follows .mixedOrders=true) (h:AnyOrder .any ops ops.size (Array.replicate ops.size false) fun l=>wpOpsS P ops Q l a cs { w with drawn:=w.drawn+1 }):(Code.region id ops true).wpS P Q a cs w := wpS_region_draw fun t=>by simp only [Region.schedule,hm,Bool.true_or,if_true];exact anyOrder_sound .any ops ops.size t _ _ h
theorem gb_refl (w:World) (r:Option Nat):w.grownBy w r:=⟨rfl,rfl,rfl,Nat.le_refl _,fun _ _ _=>rfl⟩
theorem gb_trans {w w1 w2:World} {r:Option Nat} (h:w.grownBy w1 r) (h':w1.grownBy w2 r):w.grownBy w2 r := ⟨h'.os.trans h.os,h'.tape.trans h.tape,h'.output.trans h.output,Nat.le_trans h.size h'.size,fun k hk hn=>(h'.block k (Nat.lt_of_lt_of_le hk h.size) hn).trans (h.block k hk hn)⟩
theorem gb_alloc {w w1:World} {r:Option Nat} (h:w.grownBy w1 r) (o:Obj):w.grownBy (w1.alloc o) r := gb_trans h ⟨rfl,rfl,rfl,by simp,fun k hk _=>Below.heap_alloc w1 o k hk⟩
theorem gb_set {w w1:World} {r:Nat} (h:w.grownBy w1 (some r)) (i:Nat) (v:Value):w.grownBy (w1.setCell ⟨r,i,none⟩ v) (some r) := gb_trans h ⟨rfl,rfl,rfl,by simp [World.setCell],fun k _ hn=>Below.heap_setCell w1 _ v k (fun e=>hn (by rw [e]))⟩
theorem gb_drew {w w1:World} {r:Option Nat} (h:w.grownBy w1 r):w.grownBy w1.drew r:=gb_trans h ⟨rfl,rfl,rfl,Nat.le_refl _,fun _ _ _=>rfl⟩
set_option maxRecDepth 100000
set_option maxHeartbeats 1000000
def RdAt (w:World) (rb:Nat) (bv:Value) (at0 p0 q0:Int):Prop:=w.heap[rb]?=some (.cells #[bv,.int .i64 at0,.int .i64 p0,.int .i64 q0] 161 (0,0))
theorem RdAt.facts {w:World} {rb:Nat} {bv:Value} {at0 p0 q0:Int} (h:RdAt w rb bv at0 p0 q0):rb<w.heap.size/\w.cell? ⟨rb,0,none⟩=some bv/\w.cell? ⟨rb,1,none⟩=some (.int .i64 at0)/\w.cell? ⟨rb,2,none⟩=some (.int .i64 p0)/\w.cell? ⟨rb,3,none⟩=some (.int .i64 q0) /\
 w.frozen? ⟨rb,1,none⟩=false/\w.frozen? ⟨rb,2,none⟩=false/\w.frozen? ⟨rb,3,none⟩=false:=by
 unfold RdAt at h;refine ⟨lt_of_block h,?_,?_,?_,?_,?_,?_,?_⟩;all_goals simp [World.cell?,World.frozen?,h]
theorem heap_set {w:World} {R i t:Nat} {cs:Array Value} (h:w.heap[R]?=some (.cells cs t (0,0))) (v:Value):(w.setCell ⟨R,i,none⟩ v).heap[R]?=some (.cells (cs.setIfInBounds i v) t (0,0)):=by simp [World.setCell,Array.getElem?_modify,h]
theorem RdAt.three {w:World} {rb:Nat} {bv:Value} {at0 p0 q0:Int} (h:RdAt w rb bv at0 p0 q0) (f p q:Int) (o:Obj) :
 RdAt ((((w.setCell ⟨rb,1,none⟩ (.int .i64 f)).setCell ⟨rb,2,none⟩ (.int .i64 p)).setCell ⟨rb,3,none⟩ (.int .i64 q)).alloc o).drew rb bv f p q:=by
 have h3:=heap_set (i:=3) (heap_set (i:=2) (heap_set (i:=1) h (.int .i64 f)) (.int .i64 p)) (.int .i64 q);have e:=Below.heap_alloc _ o rb (lt_of_block h3);exact (e.trans h3)
theorem ta_hit (v:Value) (w:World):(Instr.typeAssert (.iface 81 v) 20 81 true).run Tryz.prog w = .ok (.tuple #[v,.bool true]) w:=by kernel_rfl
theorem ta_nil (w:World):(Instr.typeAssert .nilIface 20 81 true).run Tryz.prog w = .ok (.tuple #[.agg #[.int .i64 0,.int .i64 0],.bool false]) w:=by kernel_rfl
theorem settle_hit (rb:Nat) (bv:Value) (at0 p0 q0 f p q:Int) (w:World) (hR:RdAt w rb bv at0 p0 q0) :
 Calls Tryz.prog 91 #[.pointer (some ⟨rb,0,none⟩),.int .i64 f,.iface 81 (.agg #[.int .i64 p,.int .i64 q])] w fun e w'=>e = .returned (.tuple #[])/\RdAt w' rb bv f p q/\w.grownBy w' (some rb):=by
 obtain ⟨hlt,c0,c1,c2,c3,f1,f2,f3⟩:=hR.facts;have HR:Hid (RdAt w rb bv at0 p0 q0):=hR;clear hR;have ta:=ta_hit;go_enter Tryz.func91,Tryz.ntmps91;go_wp2;go_region;all_goals (try go_wp2)
 all_goals go_end0
 exact ⟨rfl,HR.out.three f p q _,gb_drew (gb_alloc (gb_set (gb_set (gb_set (gb_refl _ _) _ _) _ _) _ _) _)⟩
theorem settle_idle (rb:Nat) (f:Int) (w:World) :
 Calls Tryz.prog 91 #[.pointer (some ⟨rb,0,none⟩),.int .i64 f,.nilIface] w fun e w'=>e = .returned (.tuple #[])/\Below w.heap.size w w':=by
 have ta:=ta_nil;go_enter Tryz.func91,Tryz.ntmps91;go_wp2;go_end0;exact ⟨rfl,(Below.refl _ _).alloc (Nat.le_refl _) _⟩
theorem mixed:Tryz.prog.follows .mixedOrders=true:=by kernel_rfl
def cops (s:String):Array Oper := #[{ dst:=some 3,op:=Op.load 126 (Operand.tmp 1),type:=126,pos:=s,after:=#[],guard:=.none }, { dst:=some 4,op:=Op.move (Operand.tmp 0),type:=3,pos:=s,after:=#[],guard:=.none }, { dst:=some 5,op:=Op.call { callee:=Callee.builtin Builtin.recover,args:=#[],argTypes:=#[] },type:=20,pos:=s,after:=#[],guard:=.none }, { dst:=some 6,op:=Op.call { callee:=Callee.value (Operand.func 91),args:=#[Operand.tmp 3,Operand.tmp 4,Operand.tmp 5],argTypes:=#[126,3,20] },type:=0,pos:=s,after:=#[⟨0,Ground.data⟩,⟨1,Ground.data⟩,⟨2,Ground.data⟩,⟨2,Ground.chain⟩],guard:=.none }]
theorem corders (s:String) (F:List Nat->Prop) (h1:F [0,1,2,3]) (h2:F [0,2,1,3]) (h3:F [1,0,2,3]) (h4:F [1,2,0,3]) (h5:F [2,0,1,3]) (h6:F [2,1,0,3]) :
 AnyOrder .any (cops s) 4 (Array.replicate 4 false) F:=by
 have r0:Region.ready .any (cops s) (Array.replicate 4 false)=[0,1,2]:=by kernel_rfl
 have a0:Region.ready .any (cops s) #[true,false,false,false]=[1,2]:=by kernel_rfl
 have a1:Region.ready .any (cops s) #[false,true,false,false]=[0,2]:=by kernel_rfl
 have a2:Region.ready .any (cops s) #[false,false,true,false]=[0,1]:=by kernel_rfl
 have b0:Region.ready .any (cops s) #[false,true,true,false]=[0]:=by kernel_rfl
 have b1:Region.ready .any (cops s) #[true,false,true,false]=[1]:=by kernel_rfl
 have b2:Region.ready .any (cops s) #[true,true,false,false]=[2]:=by kernel_rfl
 have c0:Region.ready .any (cops s) #[true,true,true,false]=[3]:=by kernel_rfl
 have d0:Region.ready .any (cops s) #[true,true,true,true]=[]:=by kernel_rfl
 have fin:∀ G:List Nat->Prop,G [3]->AnyOrder .any (cops s) 1 #[true,true,true,false] G:=fun G g=>by refine ⟨fun h=>(by rw [c0] at h;cases h),fun i hi=>?_⟩;rw [c0] at hi;obtain rfl:=List.mem_singleton.1 hi;exact ⟨d0,g⟩
 refine ⟨fun h=>(by rw [r0] at h;cases h),fun i hi=>?_⟩;rw [r0] at hi;simp only [List.mem_cons,List.not_mem_nil,or_false] at hi;rcases hi with rfl | rfl | rfl
 · refine ⟨fun h=>(by have h:Region.ready .any (cops s) #[true,false,false,false]=[]:=h;rw [a0] at h;cases h),fun i hi=>?_⟩
   have hi:i ∈ Region.ready .any (cops s) #[true,false,false,false]:=hi;rw [a0] at hi;simp only [List.mem_cons,List.not_mem_nil,or_false] at hi;rcases hi with rfl | rfl
   · refine ⟨fun h=>(by have h:Region.ready .any (cops s) #[true,true,false,false]=[]:=h;rw [b2] at h;cases h),fun i hi=>?_⟩
     have hi:i ∈ Region.ready .any (cops s) #[true,true,false,false]:=hi;rw [b2] at hi;obtain rfl:=List.mem_singleton.1 hi;exact fin _ h1
   · refine ⟨fun h=>(by have h:Region.ready .any (cops s) #[true,false,true,false]=[]:=h;rw [b1] at h;cases h),fun i hi=>?_⟩
     have hi:i ∈ Region.ready .any (cops s) #[true,false,true,false]:=hi;rw [b1] at hi;obtain rfl:=List.mem_singleton.1 hi;exact fin _ h2
 · refine ⟨fun h=>(by have h:Region.ready .any (cops s) #[false,true,false,false]=[]:=h;rw [a1] at h;cases h),fun i hi=>?_⟩
   have hi:i ∈ Region.ready .any (cops s) #[false,true,false,false]:=hi;rw [a1] at hi;simp only [List.mem_cons,List.not_mem_nil,or_false] at hi;rcases hi with rfl | rfl
   · refine ⟨fun h=>(by have h:Region.ready .any (cops s) #[true,true,false,false]=[]:=h;rw [b2] at h;cases h),fun i hi=>?_⟩
     have hi:i ∈ Region.ready .any (cops s) #[true,true,false,false]:=hi;rw [b2] at hi;obtain rfl:=List.mem_singleton.1 hi;exact fin _ h3
   · refine ⟨fun h=>(by have h:Region.ready .any (cops s) #[false,true,true,false]=[]:=h;rw [b0] at h;cases h),fun i hi=>?_⟩
     have hi:i ∈ Region.ready .any (cops s) #[false,true,true,false]:=hi;rw [b0] at hi;obtain rfl:=List.mem_singleton.1 hi;exact fin _ h4
 · refine ⟨fun h=>(by have h:Region.ready .any (cops s) #[false,false,true,false]=[]:=h;rw [a2] at h;cases h),fun i hi=>?_⟩
   have hi:i ∈ Region.ready .any (cops s) #[false,false,true,false]:=hi;rw [a2] at hi;simp only [List.mem_cons,List.not_mem_nil,or_false] at hi;rcases hi with rfl | rfl
   · refine ⟨fun h=>(by have h:Region.ready .any (cops s) #[true,false,true,false]=[]:=h;rw [b1] at h;cases h),fun i hi=>?_⟩
     have hi:i ∈ Region.ready .any (cops s) #[true,false,true,false]:=hi;rw [b1] at hi;obtain rfl:=List.mem_singleton.1 hi;exact fin _ h5
   · refine ⟨fun h=>(by have h:Region.ready .any (cops s) #[false,true,true,false]=[]:=h;rw [b0] at h;cases h),fun i hi=>?_⟩
     have hi:i ∈ Region.ready .any (cops s) #[false,true,true,false]:=hi;rw [b0] at hi;obtain rfl:=List.mem_singleton.1 hi;exact fin _ h6
theorem clo_hit (s:String) (fn:Func) (hres:∀ tmps (w:World),(results fn tmps).run Tryz.prog w = .ok (.tuple #[]) w) (rb:Nat) (pc:Addr) (bv:Value) (at0 p0 q0 f p q:Int) (older:List PanicEntry) (w:World) (hR:RdAt w rb bv at0 p0 q0) (hp:w.cell? pc=some (.pointer (some ⟨rb,0,none⟩)))
 (c₀:Frame) (cs:List Frame) (hu:c₀.mode = .panicking ({ v:=.iface 81 (.agg #[.int .i64 p,.int .i64 q]),recovered:=false }::older)) :
 (Code.region 0 (cops s) true).wpS Tryz.prog (bodyPostS Tryz.prog fn c₀ cs fun e u' w'=>e = .returned (.tuple #[])/\u' = .panicking ({ v:=.iface 81 (.agg #[.int .i64 p,.int .i64 q]),recovered:=true }::older)/\RdAt w' rb bv f p q/\w.grownBy w' (some rb)) { tmps:=#[.int .i64 f,.pointer (some pc),undef,undef,undef,undef,undef],defers:=[] } (c₀::cs) w:=by
 apply wpS_region_any mixed;have key:=settle_hit rb bv at0 p0 q0 f p q w.drew hR;refine corders s _ ?_ ?_ ?_ ?_ ?_ ?_;all_goals simp [wpOpsS,cops,go_sem,recoverD,hu,hp];refine key.mono ?_;rintro e w' ⟨rfl,h1,h2⟩;exact ⟨rfl,_,rfl,_,hres _ _,rfl,rfl,h1,gb_trans (gb_drew (gb_refl _ _)) h2⟩
theorem clo_idle (s:String) (fn:Func) (hres:∀ tmps (w:World),(results fn tmps).run Tryz.prog w = .ok (.tuple #[]) w) (rb:Nat) (pc:Addr) (f:Int) (w:World) (hp:w.cell? pc=some (.pointer (some ⟨rb,0,none⟩)))
 (c₀:Frame) (cs:List Frame) (hu:c₀.mode = .returning) :
 (Code.region 0 (cops s) true).wpS Tryz.prog (bodyPostS Tryz.prog fn c₀ cs fun e u' w'=>e = .returned (.tuple #[])/\u' = .returning/\Below w.heap.size w w') { tmps:=#[.int .i64 f,.pointer (some pc),undef,undef,undef,undef,undef],defers:=[] } (c₀::cs) w:=by
 apply wpS_region_any mixed;have key:=settle_idle rb f w.drew;have hc:{ c₀ with mode:=.returning }=c₀:=by cases c₀;simp_all
 refine corders s _ ?_ ?_ ?_ ?_ ?_ ?_;all_goals simp [wpOpsS,cops,go_sem,recoverD,hu,hp];refine key.mono ?_;rintro e w' ⟨rfl,h1⟩;exact ⟨rfl,.returning,by rw [hc],_,hres _ _,rfl,rfl,(Below.refl _ _).drew.trans h1⟩
theorem clo41_idle (rb:Nat) (pc:Addr) (f:Int) (w:World) (hp:w.cell? pc=some (.pointer (some ⟨rb,0,none⟩))) : CallsD Tryz.prog 141 #[.int .i64 f,.pointer (some pc)] .returning w fun e u' w'=>e = .returned (.tuple #[])/\u' = .returning/\Below w.heap.size w w' := callsD_of_wpS Tryz.func141 rfl fun c₀ cs hu=>clo_idle "reader.go:55" Tryz.f141 (fun tmps w=>results_none rfl _ _ _) rb pc f w hp c₀ cs hu
theorem clo43_hit (rb:Nat) (pc:Addr) (bv:Value) (at0 p0 q0 f p q:Int) (older:List PanicEntry) (w:World) (hR:RdAt w rb bv at0 p0 q0) (hp:w.cell? pc=some (.pointer (some ⟨rb,0,none⟩))) : CallsD Tryz.prog 130 #[.int .i64 f,.pointer (some pc)] (.panicking ({ v:=.iface 81 (.agg #[.int .i64 p,.int .i64 q]),recovered:=false }::older)) w fun e u' w' => e = .returned (.tuple #[])/\u' = .panicking ({ v:=.iface 81 (.agg #[.int .i64 p,.int .i64 q]),recovered:=true }::older)/\RdAt w' rb bv f p q/\w.grownBy w' (some rb) := callsD_of_wpS Tryz.func130 rfl fun c₀ cs hu=>clo_hit "reader.go:79" Tryz.f130 (fun tmps w=>results_none rfl _ _ _) rb pc bv at0 p0 q0 f p q older w hR hp c₀ cs hu
open Go.RowKit
theorem wraps_i64 (n:Int) (h₀:0<=n) (h₁:n<2 ^ 62):IntKind.i64.wrap n=n:=by rw [IntKind.wrap_i64];omega
theorem and127 (x:Int) (h:0<=x/\x<=255):bits .and .u8 x 127=x % 128:=bits_mask .u8 8 (by decide) wraps_u8 7 (by decide) x h.1 (by omega)
theorem nat128:∀ n:Nat,n<256->((n &&& 128=0)↔n<128):=by decide
theorem and128 (x:Int) (h:0<=x/\x<=255):(bits .and .u8 x 128==0)=decide (x<128):=by rw [u8_and x 128 h.1 (by omega) (by decide) (by decide)];have h1:=nat128 x.toNat (by omega);rw [Bool.eq_iff_iff];simp only [beq_iff_eq,decide_eq_true_eq];have e:(128:Int).toNat=128:=rfl;rw [e];omega
theorem or_up (i:Nat) (hi:i<=62) (x y:Int) (hx₀:0<=x) (hx:x<2 ^ i) (hx₁:x<2 ^ 62) (hy₀:0<=y) (hy:y % 2 ^ i=0) (hy₁:y<2 ^ 62):bits .or .i64 x y=x+y:=by
 have h:bits .or .i64 y x=y+x:=bits_join .i64 62 (by decide) wraps_i64 i y x hy₀ hy hy₁ hx₀ hx hx₁;have c:bits .or .i64 x y=bits .or .i64 y x:=by
  obtain ⟨a,rfl⟩:=Int.eq_ofNat_of_zero_le hx₀;obtain ⟨b,rfl⟩:=Int.eq_ofNat_of_zero_le hy₀;have ha:a<2 ^ 62:=by exact_mod_cast hx₁
  have hb:b<2 ^ 62:=by exact_mod_cast hy₁
  rw [(bits_nat .i64 62 (by decide) wraps_i64 a b ha hb).2,(bits_nat .i64 62 (by decide) wraps_i64 b a hb ha).2,Nat.or_comm]
 rw [c,h];omega
set_option maxHeartbeats 400000
def Byt (w:World) (ao:Option Addr) (len cap:Nat) (z:Nat->Int):Prop := len<=cap/\(∀ i,0<=z i/\z i<=255)/\(len=0\/∃ b off,ao=some ⟨b,off,none⟩/\∀ i,i<len->w.cell? ⟨b,off+i,none⟩=some (.int .u8 (z i)))
def Came (w:World) (ao:Option Addr) (len cap:Nat) (z:Nat->Int):Prop := len<=cap/\(∀ i,0<=z i/\z i<=255)/\((ao=none/\len=0/\cap=0)\/∃ ad,ao=some ad/\∀ i,i<len->w.cell? (ad.add i)=some (.int .u8 (z i)))
def cellsOf (z:Nat->Int) (n:Nat):List Value:=(List.range n).map fun i=>.int .u8 (z i)
theorem cellsOf_length (z:Nat->Int) (n:Nat):(cellsOf z n).length=n:=by simp [cellsOf]
theorem cellsOf_get (z:Nat->Int) (n j:Nat) (u:Value) (h:(cellsOf z n)[j]?=some u):j<n/\u = .int .u8 (z j):=by
 unfold cellsOf at h;rw [List.getElem?_map] at h;by_cases hj:j<n;· rw [List.getElem?_range hj] at h;simp at h;exact ⟨hj,h.symm⟩
 · rw [List.getElem?_eq_none (by simpa using hj)] at h
   simp at h
theorem cellsOf_at (z:Nat->Int) (n j:Nat) (hj:j<n):(cellsOf z n)[j]?=some (.int .u8 (z j)):=by unfold cellsOf;rw [List.getElem?_map,List.getElem?_range hj];rfl
theorem cellsOf_succ (z:Nat->Int) (n:Nat):cellsOf z (n+1)=cellsOf z n++[.int .u8 (z n)]:=by simp [cellsOf,List.range_succ]
theorem cellsOf_one (z:Nat->Int) (n:Nat) (u:Value) (h:u ∈ cellsOf z n):u.oneCell'=true:=by unfold cellsOf at h;obtain ⟨i,_,rfl⟩:=List.mem_map.1 h;rfl
def strZ (z:Nat->Int) (n:Nat):ByteArray:=strOfNums ((List.range n).map z)
theorem conv_any (ao:Option Addr) (len cap:Nat) (z:Nat->Int) (w:World) (h:Came w ao len cap z):(convert 32 9 (.slice ao len cap)).run Tryz.prog w = .ok (.string (strZ z len)) w:=by
 obtain ⟨_,_,⟨rfl,rfl,rfl⟩|⟨ad,rfl,hc⟩⟩:=h
 · rw [run_convert_bytes_nil w 32 5 Tryz.underlying32 Tryz.underlying5 0 0 9 Tryz.underlying9]
   rfl
 ·
  rw [run_convert_bytes_string w 32 9 5 _ len cap Tryz.underlying32 Tryz.underlying5 Tryz.underlying9];have hl:(loadCells ad len).run Tryz.prog w = .ok (((List.range len).map z).map (Value.int .u8)).toArray w:=by have:=run_loadCells_list (P:=Tryz.prog) w ad (cellsOf z len) (fun j v hj=>by obtain ⟨h1,rfl⟩:=cellsOf_get z len j v hj;exact hc j h1);simpa [cellsOf,Function.comp_def] using this
  rw [run_bytesToString w ad len cap _ hl,foldl_push_bytes];simp [strZ,strOfNums,ByteArray.empty,ByteArray.emptyWithCapacity];rfl
theorem plain_add (b off j:Nat):(⟨b,off,none⟩:Addr).add j=⟨b,off+j,none⟩:=by unfold Addr.add;split <;> simp_all
theorem came_byt {w:World} {ao:Option Addr} {len cap:Nat} {z:Nat->Int} (h:Came w ao len cap z):Byt w ao len cap z:=by
 obtain ⟨h1,h2,⟨rfl,rfl,rfl⟩|⟨ad,rfl,hc⟩⟩:=h;· exact ⟨h1,h2,.inl rfl⟩
 ·
  refine ⟨h1,h2,?_⟩;by_cases h0:len=0;· exact .inl h0
  ·
   right;obtain ⟨b,off,spot⟩:=ad;have q:=hc 0 (by omega);have hspot:spot=none:=by simpa [Addr.add] using World.cell?_spot q
   subst hspot;exact ⟨b,off,rfl,fun i hi=>by have h:=hc i hi;rw [plain_add] at h;exact h⟩
theorem came_below {w w':World} {B:Nat} {ao:Option Addr} {len cap:Nat} {z:Nat->Int} (h:Came w ao len cap z) (hb:Below w.heap.size w w'):Came w' ao len cap z:=by
 obtain ⟨h1,h2,h3 | ⟨ad,rfl,hc⟩⟩:=h;· exact ⟨h1,h2,.inl h3⟩
 · exact ⟨h1,h2,.inr ⟨ad,rfl,fun i hi=>cell_later hb (hc i hi)⟩⟩
end Go.Proofs.YtpldoeeahhaimaaGreatDoor
namespace Go.Proofs.YtpldoeeahhaimaaGreatDoor.Rm
open Go.RowKit
set_option linter.all false
set_option maxHeartbeats 400000
def wi (c a b:Int):Bool:=decide (a<=c) && decide (c<=b)
def atI (s:ByteArray) (j:Int):Int:=atB s j.toNat
def tlN (s:ByteArray) (f:Nat):Nat->Bool | 0=>true | n+1=>tlN s f n && wi (atI s (f+n:Nat)) 128 191
def tlI (s:ByteArray) (j l:Int):Bool:=tlN s j.toNat (l-j).toNat
theorem tlN_false (s:ByteArray) (f:Nat):∀ (m n:Nat),tlN s f m=false->m<=n->tlN s f n=false
 | m,0,h,hm=>by
  obtain rfl:m=0:=by omega
  exact h
 | m,n+1,h,hm=>by
  by_cases e:m=n+1;· subst e;exact h
  · simp [tlN,tlN_false s f m n h (by omega)]
theorem within_any (c a b:Int) (w:World) :
 Calls Tryz.prog 152 #[.int .u8 c,.int .u8 a,.int .u8 b] w fun e w'=>e = .returned (.bool (wi c a b))/\w'=w:=by
 by_cases h1:a<=c
 · by_cases h2:c<=b
   · have hw:wi c a b=true:=by simp [wi,h1,h2]
     rw [hw];clear hw;go_enter Tryz.func152,Tryz.ntmps152;go_wp2;go_ret;exact ⟨rfl,rfl⟩
   · have hw:wi c a b=false:=by simp [wi,h2]
     rw [hw];clear hw;go_enter Tryz.func152,Tryz.ntmps152;go_wp2;go_ret;exact ⟨rfl,rfl⟩
 · have hw:wi c a b=false:=by simp [wi,h1]
   rw [hw];clear hw;go_enter Tryz.func152,Tryz.ntmps152;go_wp2;go_ret;exact ⟨rfl,rfl⟩
theorem at_any (s:ByteArray) (j:Int) (hj:0<=j) (w:World) :
 Calls Tryz.prog 151 #[.string s,.int .i64 j] w fun e w'=>e = .returned (.int .u8 (atI s j))/\w'=w:=by
 obtain ⟨i,rfl⟩:∃ i:Nat,j=i:=⟨j.toNat,by omega⟩;have e:atI s (i:Int)=atB s i:=rfl;rw [e];clear e hj;by_cases h:i<s.size
 · rw [atB_in s i h]
   go_enter Tryz.func151,Tryz.ntmps151;go_wp2;go_ret;exact ⟨rfl,rfl⟩
 · rw [atB_out s i h]
   go_enter Tryz.func151,Tryz.ntmps151;go_wp2;go_ret;exact ⟨rfl,rfl⟩
theorem tail_nat (s:ByteArray) (f n:Nat) (hb:f+n<=1000000000) (w:World) :
 Calls Tryz.prog 153 #[.string s,.int .i64 f,.int .i64 (f+n:Int)] w fun e w'=>e = .returned (.bool (tlN s f n))/\w'=w:=by
 go_enter Tryz.func153,Tryz.ntmps153;go_wp2;go_loop [7] (fun i=>∃ k:Nat,k<=n/\i = .int .i64 ((f+k:Nat):Int)/\tlN s f k=true) (fun i=>f+n-(intOf i).toNat);case atStart=>exact ⟨0,Nat.zero_le _,rfl,rfl⟩
 case round =>
  obtain ⟨k,hk,rfl,ht⟩:=hrel;have HT:Hid (tlN s f k=true):=ht;clear ht;by_cases hlt:k<n
  · by_cases hw:wi (atI s ((f:Int)+(k:Int))) 128 191=true
    · have HS:Hid (tlN s f (k+1)=true):=by have h1:=HT.out;simp only [tlN,h1,Int.natCast_add,hw,Bool.and_true,Hid]
      go_wp2_with (first | (go_at_call 151;refine (at_any _ _ (by omega) _).mono ?_;rintro e w' ⟨rfl,rfl⟩)|(go_at_call 152;refine (within_any _ _ _ _).mono ?_;rintro e w' ⟨rfl,rfl⟩));go_round;case rel=>exact ⟨k+1,by omega,by go_num,HS.out⟩
      case measure=>simp [intOf];omega
    · have hw':wi (atI s ((f:Int)+(k:Int))) 128 191=false:=by simpa using hw
      clear hw;have HS:Hid (tlN s f n=false):=tlN_false s f (k+1) n (by simp [tlN,hw']) (by omega);go_wp2_with (first | (go_at_call 151;refine (at_any _ _ (by omega) _).mono ?_;rintro e w' ⟨rfl,rfl⟩)|(go_at_call 152;refine (within_any _ _ _ _).mono ?_;rintro e w' ⟨rfl,rfl⟩));go_ret;exact ⟨by rw [HS.out];rfl,rfl⟩
  · obtain rfl:k=n:=by omega
    go_wp2;go_ret;exact ⟨by rw [HT.out];rfl,rfl⟩
theorem tail_any (s:ByteArray) (j l:Int) (hj:0<=j) (hl:j<=l) (hb:l<=1000000000) (w:World) :
 Calls Tryz.prog 153 #[.string s,.int .i64 j,.int .i64 l] w fun e w'=>e = .returned (.bool (tlI s j l))/\w'=w:=by
 obtain ⟨f,rfl⟩:∃ f:Nat,j=f:=⟨j.toNat,by omega⟩;obtain ⟨n,rfl⟩:∃ n:Nat,l=(f:Int)+n:=⟨(l-f).toNat,by omega⟩;have e:tlI s f ((f:Int)+n)=tlN s f n:=by unfold tlI;congr 1;omega
 rw [e];exact tail_nat s f n (by omega) w
theorem point_way0 (s:ByteArray) (i:Nat) (hb:i<=1000000) (_lo:(0:Int)<=atI s i) (hi:atI s i<=127)  (w:World) :
 Calls Tryz.prog 138 #[.string s,.int .i64 i] w fun e w'=>e = .returned (.int .i64 1)/\w'=w:=by
 go_enter Tryz.func138,Tryz.ntmps138;go_wp2_with (first | (go_at_call 151;refine (at_any _ _ (by omega) _).mono ?_;rintro e w' ⟨rfl,rfl⟩)|(go_at_call 152;refine (within_any _ _ _ _).mono ?_;rintro e w' ⟨rfl,rfl⟩)|(go_at_call 153;refine (tail_any _ _ _ (by omega) (by omega) (by omega) _).mono ?_;rintro e w' ⟨rfl,rfl⟩));go_ret;exact ⟨rfl,rfl⟩
theorem pway (s:ByteArray) (i:Nat) (hb:i<=1000000) (l h n:Int) (lo:l<=atI s i) (hi:atI s i<=h) (w:World) (q:l=128/\h=193/\n=0\/l=194/\h=223/\tlI s ((i:Int)+1) ((i:Int)+2)=true/\n=2\/l=194/\h=223/\tlI s ((i:Int)+1) ((i:Int)+2)=false/\n=0\/l=224/\h=224/\wi (atI s ((i:Int)+1)) 160 191=true/\tlI s ((i:Int)+2) ((i:Int)+3)=true/\n=3\/l=224/\h=224/\wi (atI s ((i:Int)+1)) 160 191=true/\tlI s ((i:Int)+2) ((i:Int)+3)=false/\n=0\/l=224/\h=224/\wi (atI s ((i:Int)+1)) 160 191=false/\n=0\/l=225/\h=236/\tlI s ((i:Int)+1) ((i:Int)+3)=true/\n=3\/l=225/\h=236/\tlI s ((i:Int)+1) ((i:Int)+3)=false/\n=0\/l=237/\h=237/\wi (atI s ((i:Int)+1)) 128 159=true/\tlI s ((i:Int)+2) ((i:Int)+3)=true/\n=3\/l=237/\h=237/\wi (atI s ((i:Int)+1)) 128 159=true/\tlI s ((i:Int)+2) ((i:Int)+3)=false/\n=0\/l=237/\h=237/\wi (atI s ((i:Int)+1)) 128 159=false/\n=0\/l=238/\h=239/\tlI s ((i:Int)+1) ((i:Int)+3)=true/\n=3\/l=238/\h=239/\tlI s ((i:Int)+1) ((i:Int)+3)=false/\n=0\/l=240/\h=240/\wi (atI s ((i:Int)+1)) 144 191=true/\tlI s ((i:Int)+2) ((i:Int)+4)=true/\n=4\/l=240/\h=240/\wi (atI s ((i:Int)+1)) 144 191=true/\tlI s ((i:Int)+2) ((i:Int)+4)=false/\n=0\/l=240/\h=240/\wi (atI s ((i:Int)+1)) 144 191=false/\n=0\/l=241/\h=243/\tlI s ((i:Int)+1) ((i:Int)+4)=true/\n=4\/l=241/\h=243/\tlI s ((i:Int)+1) ((i:Int)+4)=false/\n=0\/l=244/\h=244/\wi (atI s ((i:Int)+1)) 128 143=true/\tlI s ((i:Int)+2) ((i:Int)+4)=true/\n=4\/l=244/\h=244/\wi (atI s ((i:Int)+1)) 128 143=true/\tlI s ((i:Int)+2) ((i:Int)+4)=false/\n=0\/l=244/\h=244/\wi (atI s ((i:Int)+1)) 128 143=false/\n=0\/l=245/\h=255/\n=0):Calls Tryz.prog 138 #[.string s,.int .i64 i] w fun e w'=>e = .returned (.int .i64 n)/\w'=w:=by
 rcases q with ⟨rfl,rfl,rfl⟩|⟨rfl,rfl,t0,rfl⟩|⟨rfl,rfl,t0,rfl⟩|⟨rfl,rfl,t0,t1,rfl⟩|⟨rfl,rfl,t0,t1,rfl⟩|⟨rfl,rfl,t0,rfl⟩|⟨rfl,rfl,t0,rfl⟩|⟨rfl,rfl,t0,rfl⟩|⟨rfl,rfl,t0,t1,rfl⟩|⟨rfl,rfl,t0,t1,rfl⟩|⟨rfl,rfl,t0,rfl⟩|⟨rfl,rfl,t0,rfl⟩|⟨rfl,rfl,t0,rfl⟩|⟨rfl,rfl,t0,t1,rfl⟩|⟨rfl,rfl,t0,t1,rfl⟩|⟨rfl,rfl,t0,rfl⟩|⟨rfl,rfl,t0,rfl⟩|⟨rfl,rfl,t0,rfl⟩|⟨rfl,rfl,t0,t1,rfl⟩|⟨rfl,rfl,t0,t1,rfl⟩|⟨rfl,rfl,t0,rfl⟩|⟨rfl,rfl,rfl⟩;all_goals
  have x0:¬ atI s i<=127:=by omega
  cases y0:wi (atI s i) 194 223 <;> try (exfalso;simp [wi] at y0;omega)
  cases y1:wi (atI s i) 225 236 <;> try (exfalso;simp [wi] at y1;omega)
  cases y2:wi (atI s i) 238 239 <;> try (exfalso;simp [wi] at y2;omega)
  cases y3:wi (atI s i) 241 243 <;> try (exfalso;simp [wi] at y3;omega)
  cases z0:(atI s i==224) <;> try (exfalso;simp at z0;omega)
  cases z1:(atI s i==237) <;> try (exfalso;simp at z1;omega)
  cases z2:(atI s i==240) <;> try (exfalso;simp at z2;omega)
  cases z3:(atI s i==244) <;> try (exfalso;simp at z3;omega)
  clear lo hi;go_enter Tryz.func138,Tryz.ntmps138;go_wp2_with (first | (go_at_call 151;refine (at_any _ _ (by omega) _).mono ?_;rintro e w' ⟨rfl,rfl⟩)|(go_at_call 152;refine (within_any _ _ _ _).mono ?_;rintro e w' ⟨rfl,rfl⟩)|(go_at_call 153;refine (tail_any _ _ _ (by omega) (by omega) (by omega) _).mono ?_;rintro e w' ⟨rfl,rfl⟩));go_ret;exact ⟨rfl,rfl⟩
theorem tl12 (s:ByteArray) (i:Nat):tlI s ((i:Int)+1) ((i:Int)+2)=wi (atB s (i+1)) 128 191:=by
 have e:tlI s ((i:Int)+1) ((i:Int)+2)=tlN s (i+1) 1:=by unfold tlI;congr 1 <;> omega
 rw [e];simp [tlN,atI]
theorem tl13 (s:ByteArray) (i:Nat):tlI s ((i:Int)+1) ((i:Int)+3)=(wi (atB s (i+1)) 128 191 && wi (atB s (i+2)) 128 191):=by
 have e:tlI s ((i:Int)+1) ((i:Int)+3)=tlN s (i+1) 2:=by unfold tlI;congr 1 <;> omega
 rw [e];simp [tlN,atI];rfl
theorem tl14 (s:ByteArray) (i:Nat):tlI s ((i:Int)+1) ((i:Int)+4)=(wi (atB s (i+1)) 128 191 && wi (atB s (i+2)) 128 191 && wi (atB s (i+3)) 128 191):=by
 have e:tlI s ((i:Int)+1) ((i:Int)+4)=tlN s (i+1) 3:=by unfold tlI;congr 1 <;> omega
 rw [e];simp [tlN,atI];rfl
theorem tl23 (s:ByteArray) (i:Nat):tlI s ((i:Int)+2) ((i:Int)+3)=wi (atB s (i+2)) 128 191:=by
 have e:tlI s ((i:Int)+2) ((i:Int)+3)=tlN s (i+2) 1:=by unfold tlI;congr 1 <;> omega
 rw [e];simp [tlN,atI];rfl
theorem tl24 (s:ByteArray) (i:Nat):tlI s ((i:Int)+2) ((i:Int)+4)=(wi (atB s (i+2)) 128 191 && wi (atB s (i+3)) 128 191):=by
 have e:tlI s ((i:Int)+2) ((i:Int)+4)=tlN s (i+2) 2:=by unfold tlI;congr 1 <;> omega
 rw [e];simp [tlN,atI];rfl
theorem atI_nat (s:ByteArray) (i:Nat):atI s (i:Int)=(atB s i:Int):=rfl
theorem atI_succ (s:ByteArray) (i:Nat):atI s ((i:Int)+1)=(atB s (i+1):Int):=rfl
theorem point_is0 (s:ByteArray) (i:Nat) (lo:(0:Int)<=atI s i) (hi:atI s i<=127)  : point s i=1:=by rw [atI_nat] at lo hi;unfold point pt;rw [if_pos (by omega)]
theorem point_is1 (s:ByteArray) (i:Nat) (lo:(128:Int)<=atI s i) (hi:atI s i<=193)  : point s i=0:=by rw [atI_nat] at lo hi;unfold point pt;rw [if_neg (by omega),if_neg (by omega),if_neg (by omega),if_neg (by omega)]
theorem point_is2 (s:ByteArray) (i:Nat) (lo:(194:Int)<=atI s i) (hi:atI s i<=223) (t0:tlI s ((i:Int)+1) ((i:Int)+2)=true):point s i=2:=by rw [tl12] at t0;simp only [wi,Bool.and_eq_true,Bool.and_eq_false_iff,decide_eq_true_eq,decide_eq_false_iff_not] at t0;rw [atI_nat] at lo hi;unfold point pt;rw [if_neg (by omega),if_pos (by omega)]
theorem point_is3 (s:ByteArray) (i:Nat) (lo:(194:Int)<=atI s i) (hi:atI s i<=223) (t0:tlI s ((i:Int)+1) ((i:Int)+2)=false):point s i=0:=by rw [tl12] at t0;simp only [wi,Bool.and_eq_true,Bool.and_eq_false_iff,decide_eq_true_eq,decide_eq_false_iff_not] at t0;rw [atI_nat] at lo hi;unfold point pt;rw [if_neg (by omega),if_neg (by omega),if_neg (by omega),if_neg (by omega)]
theorem point_is4 (s:ByteArray) (i:Nat) (lo:(224:Int)<=atI s i) (hi:atI s i<=224) (t0:wi (atI s ((i:Int)+1)) 160 191=true) (t1:tlI s ((i:Int)+2) ((i:Int)+3)=true):point s i=3:=by rw [atI_succ] at t0;rw [tl23] at t1;simp only [wi,Bool.and_eq_true,Bool.and_eq_false_iff,decide_eq_true_eq,decide_eq_false_iff_not] at t0 t1;rw [atI_nat] at lo hi;unfold point pt;rw [if_neg (by omega),if_neg (by omega),if_pos (by omega)]
theorem point_is5 (s:ByteArray) (i:Nat) (lo:(224:Int)<=atI s i) (hi:atI s i<=224) (t0:wi (atI s ((i:Int)+1)) 160 191=true) (t1:tlI s ((i:Int)+2) ((i:Int)+3)=false):point s i=0:=by rw [atI_succ] at t0;rw [tl23] at t1;simp only [wi,Bool.and_eq_true,Bool.and_eq_false_iff,decide_eq_true_eq,decide_eq_false_iff_not] at t0 t1;rw [atI_nat] at lo hi;unfold point pt;rw [if_neg (by omega),if_neg (by omega),if_neg (by omega),if_neg (by omega)]
theorem point_is6 (s:ByteArray) (i:Nat) (lo:(224:Int)<=atI s i) (hi:atI s i<=224) (t0:wi (atI s ((i:Int)+1)) 160 191=false):point s i=0:=by rw [atI_succ] at t0;simp only [wi,Bool.and_eq_true,Bool.and_eq_false_iff,decide_eq_true_eq,decide_eq_false_iff_not] at t0;rw [atI_nat] at lo hi;unfold point pt;rw [if_neg (by omega),if_neg (by omega),if_neg (by omega),if_neg (by omega)]
theorem point_is7 (s:ByteArray) (i:Nat) (lo:(225:Int)<=atI s i) (hi:atI s i<=236) (t0:tlI s ((i:Int)+1) ((i:Int)+3)=true):point s i=3:=by rw [tl13] at t0;simp only [wi,Bool.and_eq_true,Bool.and_eq_false_iff,decide_eq_true_eq,decide_eq_false_iff_not] at t0;rw [atI_nat] at lo hi;unfold point pt;rw [if_neg (by omega),if_neg (by omega),if_pos (by omega)]
theorem point_is8 (s:ByteArray) (i:Nat) (lo:(225:Int)<=atI s i) (hi:atI s i<=236) (t0:tlI s ((i:Int)+1) ((i:Int)+3)=false):point s i=0:=by rw [tl13] at t0;simp only [wi,Bool.and_eq_true,Bool.and_eq_false_iff,decide_eq_true_eq,decide_eq_false_iff_not] at t0;rw [atI_nat] at lo hi;unfold point pt;rw [if_neg (by omega),if_neg (by omega),if_neg (by omega),if_neg (by omega)]
theorem point_is9 (s:ByteArray) (i:Nat) (lo:(237:Int)<=atI s i) (hi:atI s i<=237) (t0:wi (atI s ((i:Int)+1)) 128 159=true) (t1:tlI s ((i:Int)+2) ((i:Int)+3)=true):point s i=3:=by rw [atI_succ] at t0;rw [tl23] at t1;simp only [wi,Bool.and_eq_true,Bool.and_eq_false_iff,decide_eq_true_eq,decide_eq_false_iff_not] at t0 t1;rw [atI_nat] at lo hi;unfold point pt;rw [if_neg (by omega),if_neg (by omega),if_pos (by omega)]
theorem point_is10 (s:ByteArray) (i:Nat) (lo:(237:Int)<=atI s i) (hi:atI s i<=237) (t0:wi (atI s ((i:Int)+1)) 128 159=true) (t1:tlI s ((i:Int)+2) ((i:Int)+3)=false):point s i=0:=by rw [atI_succ] at t0;rw [tl23] at t1;simp only [wi,Bool.and_eq_true,Bool.and_eq_false_iff,decide_eq_true_eq,decide_eq_false_iff_not] at t0 t1;rw [atI_nat] at lo hi;unfold point pt;rw [if_neg (by omega),if_neg (by omega),if_neg (by omega),if_neg (by omega)]
theorem point_is11 (s:ByteArray) (i:Nat) (lo:(237:Int)<=atI s i) (hi:atI s i<=237) (t0:wi (atI s ((i:Int)+1)) 128 159=false):point s i=0:=by rw [atI_succ] at t0;simp only [wi,Bool.and_eq_true,Bool.and_eq_false_iff,decide_eq_true_eq,decide_eq_false_iff_not] at t0;rw [atI_nat] at lo hi;unfold point pt;rw [if_neg (by omega),if_neg (by omega),if_neg (by omega),if_neg (by omega)]
theorem point_is12 (s:ByteArray) (i:Nat) (lo:(238:Int)<=atI s i) (hi:atI s i<=239) (t0:tlI s ((i:Int)+1) ((i:Int)+3)=true):point s i=3:=by rw [tl13] at t0;simp only [wi,Bool.and_eq_true,Bool.and_eq_false_iff,decide_eq_true_eq,decide_eq_false_iff_not] at t0;rw [atI_nat] at lo hi;unfold point pt;rw [if_neg (by omega),if_neg (by omega),if_pos (by omega)]
theorem point_is13 (s:ByteArray) (i:Nat) (lo:(238:Int)<=atI s i) (hi:atI s i<=239) (t0:tlI s ((i:Int)+1) ((i:Int)+3)=false):point s i=0:=by rw [tl13] at t0;simp only [wi,Bool.and_eq_true,Bool.and_eq_false_iff,decide_eq_true_eq,decide_eq_false_iff_not] at t0;rw [atI_nat] at lo hi;unfold point pt;rw [if_neg (by omega),if_neg (by omega),if_neg (by omega),if_neg (by omega)]
theorem point_is14 (s:ByteArray) (i:Nat) (lo:(240:Int)<=atI s i) (hi:atI s i<=240) (t0:wi (atI s ((i:Int)+1)) 144 191=true) (t1:tlI s ((i:Int)+2) ((i:Int)+4)=true):point s i=4:=by rw [atI_succ] at t0;rw [tl24] at t1;simp only [wi,Bool.and_eq_true,Bool.and_eq_false_iff,decide_eq_true_eq,decide_eq_false_iff_not] at t0 t1;rw [atI_nat] at lo hi;unfold point pt;rw [if_neg (by omega),if_neg (by omega),if_neg (by omega),if_pos (by omega)]
theorem point_is15 (s:ByteArray) (i:Nat) (lo:(240:Int)<=atI s i) (hi:atI s i<=240) (t0:wi (atI s ((i:Int)+1)) 144 191=true) (t1:tlI s ((i:Int)+2) ((i:Int)+4)=false):point s i=0:=by rw [atI_succ] at t0;rw [tl24] at t1;simp only [wi,Bool.and_eq_true,Bool.and_eq_false_iff,decide_eq_true_eq,decide_eq_false_iff_not] at t0 t1;rw [atI_nat] at lo hi;unfold point pt;rw [if_neg (by omega),if_neg (by omega),if_neg (by omega),if_neg (by omega)]
theorem point_is16 (s:ByteArray) (i:Nat) (lo:(240:Int)<=atI s i) (hi:atI s i<=240) (t0:wi (atI s ((i:Int)+1)) 144 191=false):point s i=0:=by rw [atI_succ] at t0;simp only [wi,Bool.and_eq_true,Bool.and_eq_false_iff,decide_eq_true_eq,decide_eq_false_iff_not] at t0;rw [atI_nat] at lo hi;unfold point pt;rw [if_neg (by omega),if_neg (by omega),if_neg (by omega),if_neg (by omega)]
theorem point_is17 (s:ByteArray) (i:Nat) (lo:(241:Int)<=atI s i) (hi:atI s i<=243) (t0:tlI s ((i:Int)+1) ((i:Int)+4)=true):point s i=4:=by rw [tl14] at t0;simp only [wi,Bool.and_eq_true,Bool.and_eq_false_iff,decide_eq_true_eq,decide_eq_false_iff_not] at t0;rw [atI_nat] at lo hi;unfold point pt;rw [if_neg (by omega),if_neg (by omega),if_neg (by omega),if_pos (by omega)]
theorem point_is18 (s:ByteArray) (i:Nat) (lo:(241:Int)<=atI s i) (hi:atI s i<=243) (t0:tlI s ((i:Int)+1) ((i:Int)+4)=false):point s i=0:=by rw [tl14] at t0;simp only [wi,Bool.and_eq_true,Bool.and_eq_false_iff,decide_eq_true_eq,decide_eq_false_iff_not] at t0;rw [atI_nat] at lo hi;unfold point pt;rw [if_neg (by omega),if_neg (by omega),if_neg (by omega),if_neg (by omega)]
theorem point_is19 (s:ByteArray) (i:Nat) (lo:(244:Int)<=atI s i) (hi:atI s i<=244) (t0:wi (atI s ((i:Int)+1)) 128 143=true) (t1:tlI s ((i:Int)+2) ((i:Int)+4)=true):point s i=4:=by rw [atI_succ] at t0;rw [tl24] at t1;simp only [wi,Bool.and_eq_true,Bool.and_eq_false_iff,decide_eq_true_eq,decide_eq_false_iff_not] at t0 t1;rw [atI_nat] at lo hi;unfold point pt;rw [if_neg (by omega),if_neg (by omega),if_neg (by omega),if_pos (by omega)]
theorem point_is20 (s:ByteArray) (i:Nat) (lo:(244:Int)<=atI s i) (hi:atI s i<=244) (t0:wi (atI s ((i:Int)+1)) 128 143=true) (t1:tlI s ((i:Int)+2) ((i:Int)+4)=false):point s i=0:=by rw [atI_succ] at t0;rw [tl24] at t1;simp only [wi,Bool.and_eq_true,Bool.and_eq_false_iff,decide_eq_true_eq,decide_eq_false_iff_not] at t0 t1;rw [atI_nat] at lo hi;unfold point pt;rw [if_neg (by omega),if_neg (by omega),if_neg (by omega),if_neg (by omega)]
theorem point_is21 (s:ByteArray) (i:Nat) (lo:(244:Int)<=atI s i) (hi:atI s i<=244) (t0:wi (atI s ((i:Int)+1)) 128 143=false):point s i=0:=by rw [atI_succ] at t0;simp only [wi,Bool.and_eq_true,Bool.and_eq_false_iff,decide_eq_true_eq,decide_eq_false_iff_not] at t0;rw [atI_nat] at lo hi;unfold point pt;rw [if_neg (by omega),if_neg (by omega),if_neg (by omega),if_neg (by omega)]
theorem point_is22 (s:ByteArray) (i:Nat) (lo:(245:Int)<=atI s i) (hi:atI s i<=255)  : point s i=0:=by rw [atI_nat] at lo hi;unfold point pt;rw [if_neg (by omega),if_neg (by omega),if_neg (by omega),if_neg (by omega)]
theorem point_any (s:ByteArray) (i:Nat) (hb:i<=1000000) (w:World) :
 Calls Tryz.prog 138 #[.string s,.int .i64 i] w fun e w'=>e = .returned (.int .i64 (point s i))/\w'=w:=by
 have h0:(0:Int)<=atI s i:=by rw [atI_nat];omega
 have h1:atI s i<=255:=by rw [atI_nat];have:=atB_lt s i;omega
 by_cases k127:atI s i<=127
 · rw [point_is0 s i (by omega) (by omega)]
   exact point_way0 s i hb (by omega) (by omega) w
 by_cases k193:atI s i<=193
 · rw [point_is1 s i (by omega) (by omega)]
   refine pway s i hb 128 193 0 (by omega) (by omega) w (.inl ⟨rfl,rfl,rfl⟩)
 by_cases k223:atI s i<=223
 · by_cases t223:tlI s ((i:Int)+1) ((i:Int)+2)=true
   · rw [point_is2 s i (by omega) (by omega) t223]
     refine pway s i hb 194 223 2 (by omega) (by omega) w (.inr<|.inl ⟨rfl,rfl,t223,rfl⟩)
   · rw [point_is3 s i (by omega) (by omega) (by simpa using t223)]
     refine pway s i hb 194 223 0 (by omega) (by omega) w (.inr<|.inr<|.inl ⟨rfl,rfl,(by simpa using t223),rfl⟩)
 by_cases k224:atI s i<=224
 · by_cases d224:wi (atI s ((i:Int)+1)) 160 191=true
   · by_cases t224:tlI s ((i:Int)+2) ((i:Int)+3)=true
     · rw [point_is4 s i (by omega) (by omega) d224 t224]
       refine pway s i hb 224 224 3 (by omega) (by omega) w (.inr<|.inr<|.inr<|.inl ⟨rfl,rfl,d224,t224,rfl⟩)
     · rw [point_is5 s i (by omega) (by omega) d224 (by simpa using t224)]
       refine pway s i hb 224 224 0 (by omega) (by omega) w (.inr<|.inr<|.inr<|.inr<|.inl ⟨rfl,rfl,d224,(by simpa using t224),rfl⟩)
   · rw [point_is6 s i (by omega) (by omega) (by simpa using d224)]
     refine pway s i hb 224 224 0 (by omega) (by omega) w (.inr<|.inr<|.inr<|.inr<|.inr<|.inl ⟨rfl,rfl,(by simpa using d224),rfl⟩)
 by_cases k236:atI s i<=236
 · by_cases t236:tlI s ((i:Int)+1) ((i:Int)+3)=true
   · rw [point_is7 s i (by omega) (by omega) t236]
     refine pway s i hb 225 236 3 (by omega) (by omega) w (.inr<|.inr<|.inr<|.inr<|.inr<|.inr<|.inl ⟨rfl,rfl,t236,rfl⟩)
   · rw [point_is8 s i (by omega) (by omega) (by simpa using t236)]
     refine pway s i hb 225 236 0 (by omega) (by omega) w (.inr<|.inr<|.inr<|.inr<|.inr<|.inr<|.inr<|.inl ⟨rfl,rfl,(by simpa using t236),rfl⟩)
 by_cases k237:atI s i<=237
 · by_cases d237:wi (atI s ((i:Int)+1)) 128 159=true
   · by_cases t237:tlI s ((i:Int)+2) ((i:Int)+3)=true
     · rw [point_is9 s i (by omega) (by omega) d237 t237]
       refine pway s i hb 237 237 3 (by omega) (by omega) w (.inr<|.inr<|.inr<|.inr<|.inr<|.inr<|.inr<|.inr<|.inl ⟨rfl,rfl,d237,t237,rfl⟩)
     · rw [point_is10 s i (by omega) (by omega) d237 (by simpa using t237)]
       refine pway s i hb 237 237 0 (by omega) (by omega) w (.inr<|.inr<|.inr<|.inr<|.inr<|.inr<|.inr<|.inr<|.inr<|.inl ⟨rfl,rfl,d237,(by simpa using t237),rfl⟩)
   · rw [point_is11 s i (by omega) (by omega) (by simpa using d237)]
     refine pway s i hb 237 237 0 (by omega) (by omega) w (.inr<|.inr<|.inr<|.inr<|.inr<|.inr<|.inr<|.inr<|.inr<|.inr<|.inl ⟨rfl,rfl,(by simpa using d237),rfl⟩)
 by_cases k239:atI s i<=239
 · by_cases t239:tlI s ((i:Int)+1) ((i:Int)+3)=true
   · rw [point_is12 s i (by omega) (by omega) t239]
     refine pway s i hb 238 239 3 (by omega) (by omega) w (.inr<|.inr<|.inr<|.inr<|.inr<|.inr<|.inr<|.inr<|.inr<|.inr<|.inr<|.inl ⟨rfl,rfl,t239,rfl⟩)
   · rw [point_is13 s i (by omega) (by omega) (by simpa using t239)]
     refine pway s i hb 238 239 0 (by omega) (by omega) w (.inr<|.inr<|.inr<|.inr<|.inr<|.inr<|.inr<|.inr<|.inr<|.inr<|.inr<|.inr<|.inl ⟨rfl,rfl,(by simpa using t239),rfl⟩)
 by_cases k240:atI s i<=240
 · by_cases d240:wi (atI s ((i:Int)+1)) 144 191=true
   · by_cases t240:tlI s ((i:Int)+2) ((i:Int)+4)=true
     · rw [point_is14 s i (by omega) (by omega) d240 t240]
       refine pway s i hb 240 240 4 (by omega) (by omega) w (.inr<|.inr<|.inr<|.inr<|.inr<|.inr<|.inr<|.inr<|.inr<|.inr<|.inr<|.inr<|.inr<|.inl ⟨rfl,rfl,d240,t240,rfl⟩)
     · rw [point_is15 s i (by omega) (by omega) d240 (by simpa using t240)]
       refine pway s i hb 240 240 0 (by omega) (by omega) w (.inr<|.inr<|.inr<|.inr<|.inr<|.inr<|.inr<|.inr<|.inr<|.inr<|.inr<|.inr<|.inr<|.inr<|.inl ⟨rfl,rfl,d240,(by simpa using t240),rfl⟩)
   · rw [point_is16 s i (by omega) (by omega) (by simpa using d240)]
     refine pway s i hb 240 240 0 (by omega) (by omega) w (.inr<|.inr<|.inr<|.inr<|.inr<|.inr<|.inr<|.inr<|.inr<|.inr<|.inr<|.inr<|.inr<|.inr<|.inr<|.inl ⟨rfl,rfl,(by simpa using d240),rfl⟩)
 by_cases k243:atI s i<=243
 · by_cases t243:tlI s ((i:Int)+1) ((i:Int)+4)=true
   · rw [point_is17 s i (by omega) (by omega) t243]
     refine pway s i hb 241 243 4 (by omega) (by omega) w (.inr<|.inr<|.inr<|.inr<|.inr<|.inr<|.inr<|.inr<|.inr<|.inr<|.inr<|.inr<|.inr<|.inr<|.inr<|.inr<|.inl ⟨rfl,rfl,t243,rfl⟩)
   · rw [point_is18 s i (by omega) (by omega) (by simpa using t243)]
     refine pway s i hb 241 243 0 (by omega) (by omega) w (.inr<|.inr<|.inr<|.inr<|.inr<|.inr<|.inr<|.inr<|.inr<|.inr<|.inr<|.inr<|.inr<|.inr<|.inr<|.inr<|.inr<|.inl ⟨rfl,rfl,(by simpa using t243),rfl⟩)
 by_cases k244:atI s i<=244
 · by_cases d244:wi (atI s ((i:Int)+1)) 128 143=true
   · by_cases t244:tlI s ((i:Int)+2) ((i:Int)+4)=true
     · rw [point_is19 s i (by omega) (by omega) d244 t244]
       refine pway s i hb 244 244 4 (by omega) (by omega) w (.inr<|.inr<|.inr<|.inr<|.inr<|.inr<|.inr<|.inr<|.inr<|.inr<|.inr<|.inr<|.inr<|.inr<|.inr<|.inr<|.inr<|.inr<|.inl ⟨rfl,rfl,d244,t244,rfl⟩)
     · rw [point_is20 s i (by omega) (by omega) d244 (by simpa using t244)]
       refine pway s i hb 244 244 0 (by omega) (by omega) w (.inr<|.inr<|.inr<|.inr<|.inr<|.inr<|.inr<|.inr<|.inr<|.inr<|.inr<|.inr<|.inr<|.inr<|.inr<|.inr<|.inr<|.inr<|.inr<|.inl ⟨rfl,rfl,d244,(by simpa using t244),rfl⟩)
   · rw [point_is21 s i (by omega) (by omega) (by simpa using d244)]
     refine pway s i hb 244 244 0 (by omega) (by omega) w (.inr<|.inr<|.inr<|.inr<|.inr<|.inr<|.inr<|.inr<|.inr<|.inr<|.inr<|.inr<|.inr<|.inr<|.inr<|.inr<|.inr<|.inr<|.inr<|.inr<|.inl ⟨rfl,rfl,(by simpa using d244),rfl⟩)
 rw [point_is22 s i (by omega) (by omega)];refine pway s i hb 245 255 0 (by omega) (by omega) w (.inr<|.inr<|.inr<|.inr<|.inr<|.inr<|.inr<|.inr<|.inr<|.inr<|.inr<|.inr<|.inr<|.inr<|.inr<|.inr<|.inr<|.inr<|.inr<|.inr<|.inr<|⟨rfl,rfl,rfl⟩)
def chkF (s:ByteArray):Nat->Nat->Nat×Nat | 0,_=>(0,0) | b+1,k=>if k<s.size then (if atB s k=0 then (k,14) else if point s k=0 then (k,13) else chkF s b (k+point s k)) else (0,0)
def chk (s:ByteArray):Nat×Nat:=if 65535<s.size then (65535,11) else chkF s s.size 0
theorem chkF_end (s:ByteArray) (b k:Nat) (h:¬ k<s.size):chkF s b k=(0,0):=by cases b with | zero=>rfl | succ b=>simp [chkF,h]
theorem chkF_zero (s:ByteArray) (b k:Nat) (h:k<s.size) (hb:s.size<=k+b) (hz:atB s k=0):chkF s b k=(k,14):=by cases b with | zero=>omega | succ b=>simp [chkF,h,hz]
theorem chkF_utf (s:ByteArray) (b k:Nat) (h:k<s.size) (hb:s.size<=k+b) (hz:¬ atB s k=0) (hp:point s k=0):chkF s b k=(k,13):=by cases b with | zero=>omega | succ b=>simp [chkF,h,hz,hp]
theorem chkF_step (s:ByteArray) (b k:Nat) (h:k<s.size) (hb:s.size<=k+b) (hz:¬ atB s k=0) (hp:¬ point s k=0):∃ b',chkF s b k=chkF s b' (k+point s k)/\s.size<=k+point s k+b':=by cases b with | zero=>omega | succ b=>exact ⟨b,by simp [chkF,h,hz,hp],by omega⟩
theorem ref_any (s:ByteArray) (w:World) :
 Calls Tryz.prog 114 #[.string s] w fun e w'=>e = .returned (.tuple #[.int .i64 (chk s).1,.int .i64 (chk s).2])/\w'=w:=by
 by_cases hl:65535<s.size
 · have e:chk s=(65535,11):=by simp [chk,hl]
   rw [e];clear e;have hl':(65535:Int)<s.size:=by omega
   go_enter Tryz.func114,Tryz.ntmps114;go_wp2;go_ret2;exact ⟨rfl,rfl⟩
 · have HE:Hid (chk s=chkF s s.size 0):=by simp [chk,hl,Hid]
   have hl':¬ (65535:Int)<s.size:=by omega
   have hs:s.size<=65535:=by omega
   go_enter Tryz.func114,Tryz.ntmps114;go_wp2;go_loop [4] (fun i=>∃ k b:Nat,k<=s.size/\i = .int .i64 k/\chk s=chkF s b k/\s.size<=k+b) (fun i=>s.size-(intOf i).toNat);case atStart=>exact ⟨0,s.size,Nat.zero_le _,rfl,HE.out,by omega⟩
   case round =>
    obtain ⟨k,b,hk,rfl,hc,hb⟩:=hrel;have HC:Hid (chk s=chkF s b k):=hc;clear hc;by_cases hlt:k<s.size
    · have hat:=atB_in s k hlt
      have HA:Hid (atB s k=(s[k]'hlt).toNat):=hat;clear hat;by_cases hz:(s[k]'hlt).toNat=0
      · have hz':(((s[k]'hlt).toNat:Int)==0)=true:=by simp [hz]
        have HR:Hid (chk s=(k,14)):=by have h1:=HC.out;rw [chkF_zero s b k hlt hb (by rw [HA.out];exact hz)] at h1;exact h1
        clear hz;go_wp2;go_ret2;exact ⟨by rw [HR.out];rfl,rfl⟩
      · have hz':(((s[k]'hlt).toNat:Int)==0)=false:=by simp;omega
        have HZ:Hid (¬ atB s k=0):=by have h1:=HA.out;show ¬ atB s k=0;rw [h1];exact hz
        clear hz;by_cases hp:point s k=0
        · have hp':((point s k:Int)==0)=true:=by simp [hp]
          have HR:Hid (chk s=(k,13)):=by have h1:=HC.out;rw [chkF_utf s b k hlt hb HZ.out hp] at h1;exact h1
          clear hp;go_wp2_with (go_at_call 138;refine (point_any _ _ (by omega) _).mono ?_;rintro e w' ⟨rfl,rfl⟩);go_ret2;exact ⟨by rw [HR.out];rfl,rfl⟩
        · have hp':((point s k:Int)==0)=false:=by simp;omega
          have hple:=point_le s k hlt;have HP:Hid (¬ point s k=0):=hp;clear hp;go_wp2_with (go_at_call 138;refine (point_any _ _ (by omega) _).mono ?_;rintro e w' ⟨rfl,rfl⟩);go_round;case rel => obtain ⟨b',e1,e2⟩:=chkF_step s b k hlt hb HZ.out HP.out;exact ⟨k+point s k,b',hple,by go_num,HC.out.trans e1,e2⟩
          case measure=>have h1:=HP.out;simp [intOf];omega
    · have HR:Hid (chk s=(0,0)):=by have h1:=HC.out;rw [chkF_end s b k hlt] at h1;exact h1
      go_wp2;go_ret2;exact ⟨by rw [HR.out];rfl,rfl⟩
end Go.Proofs.YtpldoeeahhaimaaGreatDoor.Rm
