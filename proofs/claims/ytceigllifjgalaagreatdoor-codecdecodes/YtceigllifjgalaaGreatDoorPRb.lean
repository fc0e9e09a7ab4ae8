import Derived.Test.YtceigllifjgalaaGreatDoorChk
import Derived.Test.YtceigllifjgalaaGreatDoorPKw
import Derived.BigQuiet
import Derived.Deep.LoopGhost
namespace Go.Proofs.YtceigllifjgalaaGreatDoor.Pkt
open Go Go.RowKit
set_option linter.unusedSimpArgs false
set_option linter.unusedVariables false
set_option maxHeartbeats 400000
theorem zas (q:Int) (w:World):Calls Tryz.prog 275 #[.int .i64 q] w fun e w'=>e = .returned (.bool (isQ q))/\w'=w:=by
 by_cases h1:0<=q;·
  by_cases h2:q<=2;·
   have e:isQ q=true:=by simp [isQ,h1,h2]
   rw [e];clear e;go_enter Tryz.func275,Tryz.ntmps275;go_wp2;go_ret;exact ⟨rfl,rfl⟩
  ·
   have e:isQ q=false:=by simp [isQ,h1,h2]
   rw [e];clear e;go_enter Tryz.func275,Tryz.ntmps275;go_wp2;go_ret;exact ⟨rfl,rfl⟩
 ·
  have e:isQ q=false:=by simp [isQ,h1]
  rw [e];clear e;go_enter Tryz.func275,Tryz.ntmps275;go_wp2;go_ret;exact ⟨rfl,rfl⟩
def txt (s:ByteArray):Bool:=((chk s).2:Int)==0
theorem zck (s:ByteArray) (w:World):Calls Tryz.prog 234 #[.string s] w fun e w'=>e = .returned (.bool (txt s))/\Below w.heap.size w w':=by go_enter Tryz.func234,Tryz.ntmps234;go_wp2_with fail;go_must (go_at_call 272);refine (zcI s w).mono ?_;rintro e w1 ⟨rfl,hb,_⟩;have HB:=Hi hb;clear hb;go_wp2;go_ret;exact ⟨rfl,HB.out⟩
theorem bounded_any (p:Pk) (w:World):Calls Tryz.prog 233 #[p.v] w fun e w'=>e = .returned (.bool (bnd p))/\Below w.heap.size w w':=by
 obtain ⟨kind,level,clean,keep,client,hasWill,wT,wP,wQ,wR,hasUser,user,hasPass,pass,present,code,dup,mT,mP,mQ,mR,id,asks,codes,filters⟩:=p;simp only [Pk.v,bnd];by_cases h1:0<=level;case neg =>
  have e:(decide (0<=level) && decide (level<=255) && decide (0<=code) && decide (code<=255) && decide (0<=keep) && decide (keep<=65535))=false:=by simp [h1]
  rw [e];clear e;go_enter Tryz.func233,Tryz.ntmps233;go_wp2;go_ret;exact ⟨rfl,(Below.refl _ _).alloc (Nat.le_refl _) _⟩
 by_cases h2:level<=255;case neg =>
  have e:(decide (0<=level) && decide (level<=255) && decide (0<=code) && decide (code<=255) && decide (0<=keep) && decide (keep<=65535))=false:=by simp [h1,h2]
  rw [e];clear e;go_enter Tryz.func233,Tryz.ntmps233;go_wp2;go_ret;exact ⟨rfl,(Below.refl _ _).alloc (Nat.le_refl _) _⟩
 by_cases h3:0<=code;case neg =>
  have e:(decide (0<=level) && decide (level<=255) && decide (0<=code) && decide (code<=255) && decide (0<=keep) && decide (keep<=65535))=false:=by simp [h1,h2,h3]
  rw [e];clear e;go_enter Tryz.func233,Tryz.ntmps233;go_wp2;go_ret;exact ⟨rfl,(Below.refl _ _).alloc (Nat.le_refl _) _⟩
 by_cases h4:code<=255;case neg =>
  have e:(decide (0<=level) && decide (level<=255) && decide (0<=code) && decide (code<=255) && decide (0<=keep) && decide (keep<=65535))=false:=by simp [h1,h2,h3,h4]
  rw [e];clear e;go_enter Tryz.func233,Tryz.ntmps233;go_wp2;go_ret;exact ⟨rfl,(Below.refl _ _).alloc (Nat.le_refl _) _⟩
 by_cases h5:0<=keep;case neg =>
  have e:(decide (0<=level) && decide (level<=255) && decide (0<=code) && decide (code<=255) && decide (0<=keep) && decide (keep<=65535))=false:=by simp [h1,h2,h3,h4,h5]
  rw [e];clear e;go_enter Tryz.func233,Tryz.ntmps233;go_wp2;go_ret;exact ⟨rfl,(Below.refl _ _).alloc (Nat.le_refl _) _⟩
 by_cases h6:keep<=65535;case neg =>
  have e:(decide (0<=level) && decide (level<=255) && decide (0<=code) && decide (code<=255) && decide (0<=keep) && decide (keep<=65535))=false:=by simp [h1,h2,h3,h4,h5,h6]
  rw [e];clear e;go_enter Tryz.func233,Tryz.ntmps233;go_wp2;go_ret;exact ⟨rfl,(Below.refl _ _).alloc (Nat.le_refl _) _⟩
 have e:(decide (0<=level) && decide (level<=255) && decide (0<=code) && decide (code<=255) && decide (0<=keep) && decide (keep<=65535))=true:=by simp [h1,h2,h3,h4,h5,h6]
 rw [e];clear e;go_enter Tryz.func233,Tryz.ntmps233;go_wp2;go_ret;exact ⟨rfl,(Below.refl _ _).alloc (Nat.le_refl _) _⟩
section
variable {w w':World} {s:Sl} {z:Nat->Int}
def By (w:World) (s:Sl) (z:Nat->Int):Prop := s.n<=s.c/\(∀ i,0<=z i/\z i<=255)/\(s.n=0\/∃ b off,s.a=some ⟨b,off,none⟩/\∀ i,i<s.n->w.cell? ⟨b,off+i,none⟩=some (.int .u8 (z i)))
def Is (w:World) (s:Sl) (z:Nat->Int):Prop := s.n<=s.c/\(s.n=0\/∃ b off,s.a=some ⟨b,off,none⟩/\∀ i,i<s.n->w.cell? ⟨b,off+i,none⟩=some (.int .i64 (z i)))
def Ss (w:World) (s:Sl) (z:Nat->ByteArray):Prop := s.n<=s.c/\(s.n=0\/∃ b off,s.a=some ⟨b,off,none⟩/\∀ i,i<s.n->w.cell? ⟨b,off+i,none⟩=some (.string (z i)))
def As (w:World) (s:Sl) (f:Nat->ByteArray) (q:Nat->Int):Prop := s.n<=s.c/\(s.n=0\/∃ b off,s.a=some ⟨b,off,none⟩/\∀ i,i<s.n->(w.cell? ⟨b,off+i*2,none⟩=some (.string (f i))/\w.cell? ⟨b,off+i*2+1,none⟩=some (.int .i64 (q i))))
structure In (w:World) (p:Pk) (c:Cn):Prop where
 wP:By w p.wP c.wz
 pass:By w p.pass c.pz
 mP:By w p.mP c.mz
 asks:As w p.asks c.af c.aq
 codes:Is w p.codes c.cs
 filters:Ss w p.filters c.fs
theorem By.below (h:By w s z) (hb:Below w.heap.size w w'):By w' s z:=by
 obtain ⟨h1,h2,h3 | ⟨b,off,e,hc⟩⟩:=h;· exact ⟨h1,h2,.inl h3⟩
 · exact ⟨h1,h2,.inr ⟨b,off,e,fun i hi=>cell_later hb (hc i hi)⟩⟩
theorem Is.below (h:Is w s z) (hb:Below w.heap.size w w'):Is w' s z:=by
 obtain ⟨h1,h3 | ⟨b,off,e,hc⟩⟩:=h;· exact ⟨h1,.inl h3⟩
 · exact ⟨h1,.inr ⟨b,off,e,fun i hi=>cell_later hb (hc i hi)⟩⟩
theorem Ss.below {z:Nat->ByteArray} (h:Ss w s z) (hb:Below w.heap.size w w'):Ss w' s z:=by
 obtain ⟨h1,h3 | ⟨b,off,e,hc⟩⟩:=h;· exact ⟨h1,.inl h3⟩
 · exact ⟨h1,.inr ⟨b,off,e,fun i hi=>cell_later hb (hc i hi)⟩⟩
theorem As.below {f:Nat->ByteArray} {q:Nat->Int} (h:As w s f q) (hb:Below w.heap.size w w'):As w' s f q:=by
 obtain ⟨h1,h3 | ⟨b,off,e,hc⟩⟩:=h;· exact ⟨h1,.inl h3⟩
 · exact ⟨h1,.inr ⟨b,off,e,fun i hi=>⟨cell_later hb (hc i hi).1,cell_later hb (hc i hi).2⟩⟩⟩
theorem In.below {p:Pk} {c:Cn} (h:In w p c) (hb:Below w.heap.size w w'):In w' p c := ⟨h.wP.below hb,h.pass.below hb,h.mP.below hb,h.asks.below hb,h.codes.below hb,h.filters.below hb⟩
theorem za9 (b off j:Nat):(⟨b,off,none⟩:Addr).add j=⟨b,off+j,none⟩:=by unfold Addr.add;split <;> simp_all
def strZ (z:Nat->Int) (n:Nat):ByteArray:=strOfNums ((List.range n).map z)
theorem zdQ (z:Nat->Int) (n:Nat):(strZ z n).size=n:=by simp [strZ,strOfNums,ByteArray.size]
theorem zb3 (s:Sl) (z:Nat->Int) (w:World) (h:By w s z):(convert 22 9 (.slice s.a s.n s.c)).run Tryz.prog w = .ok (.string (strZ z s.n)) w:=by
 obtain ⟨ao,len,cap⟩:=s;obtain ⟨_,_,h3⟩:=h;cases ao with
 | none =>
  rcases h3 with h3 | ⟨b,off,e,_⟩;· simp only at h3;subst h3;rw [run_convert_bytes_nil w 22 5 Tryz.underlying22 Tryz.underlying5 _ _ 9 Tryz.underlying9];rfl
  · cases e
 | some ad =>
  rw [run_convert_bytes_string w 22 9 5 _ len cap Tryz.underlying22 Tryz.underlying5 Tryz.underlying9];have hc:∀ i,i<len->w.cell? (ad.add i)=some (.int .u8 (z i)):=by
   intro i hi;rcases h3 with h3 | ⟨b,off,e,hc⟩;· simp only at h3;omega
   · simp only [Option.some.injEq] at e
     subst e;rw [za9];exact hc i hi
  have hl:(loadCells ad len).run Tryz.prog w = .ok (((List.range len).map z).map (Value.int .u8)).toArray w:=by
   have:=run_loadCells_list (P:=Tryz.prog) w ad ((List.range len).map fun i=>.int .u8 (z i)) (fun j v hj=>by
    rw [List.getElem?_map] at hj;by_cases h1:j<len
    · rw [List.getElem?_range h1] at hj
      simp at hj;subst hj;exact hc j h1
    · rw [List.getElem?_eq_none (by simpa using h1)] at hj
      simp at hj)
   simpa [Function.comp_def] using this
  rw [run_bytesToString w ad len cap _ hl,foldl_push_bytes];simp [strZ,strOfNums,ByteArray.empty,ByteArray.emptyWithCapacity];rfl
theorem beq_any (s s':Sl) (z z':Nat->Int) (w:World) (h:By w s z) (h':By w s' z') :
 Calls Tryz.prog 36 #[s.v,s'.v] w fun e w'=>e = .returned (.bool ((strZ z s.n).toList==(strZ z' s'.n).toList))/\w'=w:=by
 have c1:=zb3 s z w h;have c2:=zb3 s' z' w h';clear h h';simp only [Sl.v];go_enter Tryz.func36,Tryz.ntmps36;go_wp2;go_ret;exact ⟨rfl,rfl⟩
end
def mr (c:Nat):Int×Nat×Nat := if c<=127 then (0,0,0) else if c<=193 then (-1,0,0) else if c<=223 then (1,128,191) else if c<=224 then (2,160,191) else if c<=236 then (2,128,191) else if c<=237 then (2,128,159) else if c<=239 then (2,128,191) else if c<=240 then (3,144,191) else if c<=243 then (3,128,191) else if c<=244 then (3,128,143) else (-1,0,0)
theorem mr_0 (c:Nat) (h1:0<=c) (h2:c<=127):mr c=(0,0,0):=by unfold mr;rw [if_pos (by omega)]
theorem mr_1 (c:Nat) (h1:128<=c) (h2:c<=193):mr c=(-1,0,0):=by unfold mr;rw [if_neg (by omega),if_pos (by omega)]
theorem mr_2 (c:Nat) (h1:194<=c) (h2:c<=223):mr c=(1,128,191):=by unfold mr;rw [if_neg (by omega),if_neg (by omega),if_pos (by omega)]
theorem mr_3 (c:Nat) (h1:224<=c) (h2:c<=224):mr c=(2,160,191):=by unfold mr;rw [if_neg (by omega),if_neg (by omega),if_neg (by omega),if_pos (by omega)]
theorem mr_4 (c:Nat) (h1:225<=c) (h2:c<=236):mr c=(2,128,191):=by unfold mr;rw [if_neg (by omega),if_neg (by omega),if_neg (by omega),if_neg (by omega),if_pos (by omega)]
theorem mr_5 (c:Nat) (h1:237<=c) (h2:c<=237):mr c=(2,128,159):=by unfold mr;rw [if_neg (by omega),if_neg (by omega),if_neg (by omega),if_neg (by omega),if_neg (by omega),if_pos (by omega)]
theorem mr_6 (c:Nat) (h1:238<=c) (h2:c<=239):mr c=(2,128,191):=by unfold mr;rw [if_neg (by omega),if_neg (by omega),if_neg (by omega),if_neg (by omega),if_neg (by omega),if_neg (by omega),if_pos (by omega)]
theorem mr_7 (c:Nat) (h1:240<=c) (h2:c<=240):mr c=(3,144,191):=by unfold mr;rw [if_neg (by omega),if_neg (by omega),if_neg (by omega),if_neg (by omega),if_neg (by omega),if_neg (by omega),if_neg (by omega),if_pos (by omega)]
theorem mr_8 (c:Nat) (h1:241<=c) (h2:c<=243):mr c=(3,128,191):=by unfold mr;rw [if_neg (by omega),if_neg (by omega),if_neg (by omega),if_neg (by omega),if_neg (by omega),if_neg (by omega),if_neg (by omega),if_neg (by omega),if_pos (by omega)]
theorem mr_9 (c:Nat) (h1:244<=c) (h2:c<=244):mr c=(3,128,143):=by unfold mr;rw [if_neg (by omega),if_neg (by omega),if_neg (by omega),if_neg (by omega),if_neg (by omega),if_neg (by omega),if_neg (by omega),if_neg (by omega),if_neg (by omega),if_pos (by omega)]
theorem mr_10 (c:Nat) (h1:245<=c) (h2:c<=255):mr c=(-1,0,0):=by unfold mr;rw [if_neg (by omega),if_neg (by omega),if_neg (by omega),if_neg (by omega),if_neg (by omega),if_neg (by omega),if_neg (by omega),if_neg (by omega),if_neg (by omega),if_neg (by omega)]
theorem more_0 (c:Int) (h1:0<=c) (h2:c<=127) (w:World):Calls Tryz.prog 223 #[.int .u8 c] w fun e w'=>e = .returned (.tuple #[.int .i64 (0),.int .u8 0,.int .u8 0])/\w'=w:=by
 have a0:c<128:=by omega
 have a1:¬ 194<=c:=by omega
 have a2:¬ 225<=c:=by omega
 have a3:¬ 241<=c:=by omega
 have z0:(c==224)=false:=by simp;omega
 have z1:(c==237)=false:=by simp;omega
 have z2:(c==240)=false:=by simp;omega
 have z3:(c==244)=false:=by simp;omega
 clear h1 h2;go_enter Tryz.func223,Tryz.ntmps223;go_wp2;go_ret3;exact ⟨rfl,rfl⟩
theorem more_1 (c:Int) (h1:128<=c) (h2:c<=193) (w:World):Calls Tryz.prog 223 #[.int .u8 c] w fun e w'=>e = .returned (.tuple #[.int .i64 (-1),.int .u8 0,.int .u8 0])/\w'=w:=by
 have a0:¬ c<128:=by omega
 have a1:¬ 194<=c:=by omega
 have a2:¬ 225<=c:=by omega
 have a3:¬ 241<=c:=by omega
 have z0:(c==224)=false:=by simp;omega
 have z1:(c==237)=false:=by simp;omega
 have z2:(c==240)=false:=by simp;omega
 have z3:(c==244)=false:=by simp;omega
 clear h1 h2;go_enter Tryz.func223,Tryz.ntmps223;go_wp2;go_ret3;exact ⟨rfl,rfl⟩
theorem more_2 (c:Int) (h1:194<=c) (h2:c<=223) (w:World):Calls Tryz.prog 223 #[.int .u8 c] w fun e w'=>e = .returned (.tuple #[.int .i64 (1),.int .u8 128,.int .u8 191])/\w'=w:=by
 have a0:¬ c<128:=by omega
 have a1:194<=c:=by omega
 have a1b:c<=223:=by omega
 have a2:¬ 225<=c:=by omega
 have a3:¬ 241<=c:=by omega
 have z0:(c==224)=false:=by simp;omega
 have z1:(c==237)=false:=by simp;omega
 have z2:(c==240)=false:=by simp;omega
 have z3:(c==244)=false:=by simp;omega
 clear h1 h2;go_enter Tryz.func223,Tryz.ntmps223;go_wp2;go_ret3;exact ⟨rfl,rfl⟩
theorem more_3 (c:Int) (h1:224<=c) (h2:c<=224) (w:World):Calls Tryz.prog 223 #[.int .u8 c] w fun e w'=>e = .returned (.tuple #[.int .i64 (2),.int .u8 160,.int .u8 191])/\w'=w:=by
 have a0:¬ c<128:=by omega
 have a1:194<=c:=by omega
 have a1b:¬ c<=223:=by omega
 have a2:¬ 225<=c:=by omega
 have a3:¬ 241<=c:=by omega
 have z0:(c==224)=true:=by simp;omega
 have z1:(c==237)=false:=by simp;omega
 have z2:(c==240)=false:=by simp;omega
 have z3:(c==244)=false:=by simp;omega
 clear h1 h2;go_enter Tryz.func223,Tryz.ntmps223;go_wp2;go_ret3;exact ⟨rfl,rfl⟩
theorem more_4 (c:Int) (h1:225<=c) (h2:c<=236) (w:World):Calls Tryz.prog 223 #[.int .u8 c] w fun e w'=>e = .returned (.tuple #[.int .i64 (2),.int .u8 128,.int .u8 191])/\w'=w:=by
 have a0:¬ c<128:=by omega
 have a1:194<=c:=by omega
 have a1b:¬ c<=223:=by omega
 have a2:225<=c:=by omega
 have a2b:c<=239:=by omega
 have a3:¬ 241<=c:=by omega
 have z0:(c==224)=false:=by simp;omega
 have z1:(c==237)=false:=by simp;omega
 have z2:(c==240)=false:=by simp;omega
 have z3:(c==244)=false:=by simp;omega
 clear h1 h2;go_enter Tryz.func223,Tryz.ntmps223;go_wp2;go_ret3;exact ⟨rfl,rfl⟩
theorem more_5 (c:Int) (h1:237<=c) (h2:c<=237) (w:World):Calls Tryz.prog 223 #[.int .u8 c] w fun e w'=>e = .returned (.tuple #[.int .i64 (2),.int .u8 128,.int .u8 159])/\w'=w:=by
 have a0:¬ c<128:=by omega
 have a1:194<=c:=by omega
 have a1b:¬ c<=223:=by omega
 have a2:225<=c:=by omega
 have a2b:c<=239:=by omega
 have a3:¬ 241<=c:=by omega
 have z0:(c==224)=false:=by simp;omega
 have z1:(c==237)=true:=by simp;omega
 have z2:(c==240)=false:=by simp;omega
 have z3:(c==244)=false:=by simp;omega
 clear h1 h2;go_enter Tryz.func223,Tryz.ntmps223;go_wp2;go_ret3;exact ⟨rfl,rfl⟩
theorem more_6 (c:Int) (h1:238<=c) (h2:c<=239) (w:World):Calls Tryz.prog 223 #[.int .u8 c] w fun e w'=>e = .returned (.tuple #[.int .i64 (2),.int .u8 128,.int .u8 191])/\w'=w:=by
 have a0:¬ c<128:=by omega
 have a1:194<=c:=by omega
 have a1b:¬ c<=223:=by omega
 have a2:225<=c:=by omega
 have a2b:c<=239:=by omega
 have a3:¬ 241<=c:=by omega
 have z0:(c==224)=false:=by simp;omega
 have z1:(c==237)=false:=by simp;omega
 have z2:(c==240)=false:=by simp;omega
 have z3:(c==244)=false:=by simp;omega
 clear h1 h2;go_enter Tryz.func223,Tryz.ntmps223;go_wp2;go_ret3;exact ⟨rfl,rfl⟩
theorem more_7 (c:Int) (h1:240<=c) (h2:c<=240) (w:World):Calls Tryz.prog 223 #[.int .u8 c] w fun e w'=>e = .returned (.tuple #[.int .i64 (3),.int .u8 144,.int .u8 191])/\w'=w:=by
 have a0:¬ c<128:=by omega
 have a1:194<=c:=by omega
 have a1b:¬ c<=223:=by omega
 have a2:225<=c:=by omega
 have a2b:¬ c<=239:=by omega
 have a3:¬ 241<=c:=by omega
 have z0:(c==224)=false:=by simp;omega
 have z1:(c==237)=false:=by simp;omega
 have z2:(c==240)=true:=by simp;omega
 have z3:(c==244)=false:=by simp;omega
 clear h1 h2;go_enter Tryz.func223,Tryz.ntmps223;go_wp2;go_ret3;exact ⟨rfl,rfl⟩
theorem more_8 (c:Int) (h1:241<=c) (h2:c<=243) (w:World):Calls Tryz.prog 223 #[.int .u8 c] w fun e w'=>e = .returned (.tuple #[.int .i64 (3),.int .u8 128,.int .u8 191])/\w'=w:=by
 have a0:¬ c<128:=by omega
 have a1:194<=c:=by omega
 have a1b:¬ c<=223:=by omega
 have a2:225<=c:=by omega
 have a2b:¬ c<=239:=by omega
 have a3:241<=c:=by omega
 have a3b:c<=243:=by omega
 have z0:(c==224)=false:=by simp;omega
 have z1:(c==237)=false:=by simp;omega
 have z2:(c==240)=false:=by simp;omega
 have z3:(c==244)=false:=by simp;omega
 clear h1 h2;go_enter Tryz.func223,Tryz.ntmps223;go_wp2;go_ret3;exact ⟨rfl,rfl⟩
theorem more_9 (c:Int) (h1:244<=c) (h2:c<=244) (w:World):Calls Tryz.prog 223 #[.int .u8 c] w fun e w'=>e = .returned (.tuple #[.int .i64 (3),.int .u8 128,.int .u8 143])/\w'=w:=by
 have a0:¬ c<128:=by omega
 have a1:194<=c:=by omega
 have a1b:¬ c<=223:=by omega
 have a2:225<=c:=by omega
 have a2b:¬ c<=239:=by omega
 have a3:241<=c:=by omega
 have a3b:¬ c<=243:=by omega
 have z0:(c==224)=false:=by simp;omega
 have z1:(c==237)=false:=by simp;omega
 have z2:(c==240)=false:=by simp;omega
 have z3:(c==244)=true:=by simp;omega
 clear h1 h2;go_enter Tryz.func223,Tryz.ntmps223;go_wp2;go_ret3;exact ⟨rfl,rfl⟩
theorem more_10 (c:Int) (h1:245<=c) (h2:c<=255) (w:World):Calls Tryz.prog 223 #[.int .u8 c] w fun e w'=>e = .returned (.tuple #[.int .i64 (-1),.int .u8 0,.int .u8 0])/\w'=w:=by
 have a0:¬ c<128:=by omega
 have a1:194<=c:=by omega
 have a1b:¬ c<=223:=by omega
 have a2:225<=c:=by omega
 have a2b:¬ c<=239:=by omega
 have a3:241<=c:=by omega
 have a3b:¬ c<=243:=by omega
 have z0:(c==224)=false:=by simp;omega
 have z1:(c==237)=false:=by simp;omega
 have z2:(c==240)=false:=by simp;omega
 have z3:(c==244)=false:=by simp;omega
 clear h1 h2;go_enter Tryz.func223,Tryz.ntmps223;go_wp2;go_ret3;exact ⟨rfl,rfl⟩
theorem more_any (c:Nat) (hc:c<=255) (w:World):Calls Tryz.prog 223 #[.int .u8 c] w fun e w'=>e = .returned (.tuple #[.int .i64 (mr c).1,.int .u8 (mr c).2.1,.int .u8 (mr c).2.2])/\w'=w:=by
 by_cases h0:c<=127;· rw [mr_0 c (by omega) h0];exact more_0 c (by omega) (by omega) w
 by_cases h1:c<=193;· rw [mr_1 c (by omega) h1];exact more_1 c (by omega) (by omega) w
 by_cases h2:c<=223;· rw [mr_2 c (by omega) h2];exact more_2 c (by omega) (by omega) w
 by_cases h3:c<=224;· rw [mr_3 c (by omega) h3];exact more_3 c (by omega) (by omega) w
 by_cases h4:c<=236;· rw [mr_4 c (by omega) h4];exact more_4 c (by omega) (by omega) w
 by_cases h5:c<=237;· rw [mr_5 c (by omega) h5];exact more_5 c (by omega) (by omega) w
 by_cases h6:c<=239;· rw [mr_6 c (by omega) h6];exact more_6 c (by omega) (by omega) w
 by_cases h7:c<=240;· rw [mr_7 c (by omega) h7];exact more_7 c (by omega) (by omega) w
 by_cases h8:c<=243;· rw [mr_8 c (by omega) h8];exact more_8 c (by omega) (by omega) w
 by_cases h9:c<=244;· rw [mr_9 c (by omega) h9];exact more_9 c (by omega) (by omega) w
 rw [mr_10 c (by omega) hc];exact more_10 c (by omega) (by omega) w
def lo5 (L j:Nat):Nat:=if j=1 then L else 128
def hi5 (H j:Nat):Nat:=if j=1 then H else 191
def In5 (s:ByteArray) (k L H j:Nat):Prop:=lo5 L j<=atB s (k+j)/\atB s (k+j)<=hi5 H j
theorem mr_most (c:Nat):(mr c).1<=3/\-1<=(mr c).1:=by unfold mr;(repeat' split) <;> (constructor <;> decide)
theorem mr_low (c:Nat) (h:1<=(mr c).1):128<=(mr c).2.1:=by revert h;unfold mr;(repeat' split) <;> (intro h;first | (exact absurd h (by decide)) | decide)
theorem point_neg (s:ByteArray) (k:Nat) (h:(mr (atB s k)).1<0):point s k=0:=by
 have h0:=atB_lt s k;revert h;unfold point;generalize atB s k=c at *;intro h;by_cases a:c<=193;·
  by_cases b:c<=127;· rw [mr_0 c (by omega) b] at h;exact absurd h (by decide)
  · unfold pt
    rw [if_neg (by omega),if_neg (by omega),if_neg (by omega),if_neg (by omega)]
 ·
  by_cases b:c<=244
  · exfalso
    revert h;unfold mr;(repeat' split) <;> (intro h;first | (exact absurd h (by decide)) | omega)
  · unfold pt
    rw [if_neg (by omega),if_neg (by omega),if_neg (by omega),if_neg (by omega)]
theorem point_ok (s:ByteArray) (k m:Nat) (hm:(mr (atB s k)).1=m) (hj:∀ j,1<=j->j<=m->In5 s k (mr (atB s k)).2.1 (mr (atB s k)).2.2 j):point s k=m+1:=by
 have h0:=atB_lt s k;obtain ⟨c,hc⟩:∃ c,atB s k=c:=⟨_,rfl⟩;rw [hc] at hm hj h0;by_cases r0:c<=127;·
  have e:=mr_0 c (by omega) (by omega);rw [e] at hm hj;obtain rfl:m=0:=by simp at hm;omega
  unfold point pt;rw [hc,if_pos (by omega)]
 by_cases r1:c<=193;· have e:=mr_1 c (by omega) (by omega);rw [e] at hm hj;exfalso;revert hm;simp;try omega
 by_cases r2:c<=223;·
  have e:=mr_2 c (by omega) (by omega);rw [e] at hm hj;obtain rfl:m=1:=by simp at hm;omega
  have h1:=hj 1 (by decide) (by decide);simp [In5,lo5,hi5] at h1;unfold point pt;rw [hc,if_neg (by omega),if_pos (by omega)]
 by_cases r3:c<=224;·
  have e:=mr_3 c (by omega) (by omega);rw [e] at hm hj;obtain rfl:m=2:=by simp at hm;omega
  have h1:=hj 1 (by decide) (by decide);have h2:=hj 2 (by decide) (by decide);simp [In5,lo5,hi5] at h1 h2;unfold point pt;rw [hc,if_neg (by omega),if_neg (by omega),if_pos (by omega)]
 by_cases r4:c<=236;·
  have e:=mr_4 c (by omega) (by omega);rw [e] at hm hj;obtain rfl:m=2:=by simp at hm;omega
  have h1:=hj 1 (by decide) (by decide);have h2:=hj 2 (by decide) (by decide);simp [In5,lo5,hi5] at h1 h2;unfold point pt;rw [hc,if_neg (by omega),if_neg (by omega),if_pos (by omega)]
 by_cases r5:c<=237;·
  have e:=mr_5 c (by omega) (by omega);rw [e] at hm hj;obtain rfl:m=2:=by simp at hm;omega
  have h1:=hj 1 (by decide) (by decide);have h2:=hj 2 (by decide) (by decide);simp [In5,lo5,hi5] at h1 h2;unfold point pt;rw [hc,if_neg (by omega),if_neg (by omega),if_pos (by omega)]
 by_cases r6:c<=239;·
  have e:=mr_6 c (by omega) (by omega);rw [e] at hm hj;obtain rfl:m=2:=by simp at hm;omega
  have h1:=hj 1 (by decide) (by decide);have h2:=hj 2 (by decide) (by decide);simp [In5,lo5,hi5] at h1 h2;unfold point pt;rw [hc,if_neg (by omega),if_neg (by omega),if_pos (by omega)]
 by_cases r7:c<=240;·
  have e:=mr_7 c (by omega) (by omega);rw [e] at hm hj;obtain rfl:m=3:=by simp at hm;omega
  have h1:=hj 1 (by decide) (by decide);have h2:=hj 2 (by decide) (by decide);have h3:=hj 3 (by decide) (by decide);simp [In5,lo5,hi5] at h1 h2 h3;unfold point pt;rw [hc,if_neg (by omega),if_neg (by omega),if_neg (by omega),if_pos (by omega)]
 by_cases r8:c<=243;·
  have e:=mr_8 c (by omega) (by omega);rw [e] at hm hj;obtain rfl:m=3:=by simp at hm;omega
  have h1:=hj 1 (by decide) (by decide);have h2:=hj 2 (by decide) (by decide);have h3:=hj 3 (by decide) (by decide);simp [In5,lo5,hi5] at h1 h2 h3;unfold point pt;rw [hc,if_neg (by omega),if_neg (by omega),if_neg (by omega),if_pos (by omega)]
 by_cases r9:c<=244;·
  have e:=mr_9 c (by omega) (by omega);rw [e] at hm hj;obtain rfl:m=3:=by simp at hm;omega
  have h1:=hj 1 (by decide) (by decide);have h2:=hj 2 (by decide) (by decide);have h3:=hj 3 (by decide) (by decide);simp [In5,lo5,hi5] at h1 h2 h3;unfold point pt;rw [hc,if_neg (by omega),if_neg (by omega),if_neg (by omega),if_pos (by omega)]
 have e:=mr_10 c (by omega) (by omega);rw [e] at hm hj;exfalso;revert hm;simp;try omega
theorem zei (s:ByteArray) (k m:Nat) (hm:(mr (atB s k)).1=m) (hj:∃ j,1<=j/\j<=m/\¬ In5 s k (mr (atB s k)).2.1 (mr (atB s k)).2.2 j):point s k=0:=by
 have h0:=atB_lt s k;obtain ⟨c,hc⟩:∃ c,atB s k=c:=⟨_,rfl⟩;rw [hc] at hm hj h0;by_cases r0:c<=127;·
  have e:=mr_0 c (by omega) (by omega);rw [e] at hm hj;obtain rfl:m=0:=by simp at hm;omega
  obtain ⟨j,j1,j2,hj⟩:=hj;omega
 by_cases r1:c<=193;· have e:=mr_1 c (by omega) (by omega);rw [e] at hm hj;exfalso;revert hm;simp;try omega
 by_cases r2:c<=223;·
  have e:=mr_2 c (by omega) (by omega);rw [e] at hm hj;obtain rfl:m=1:=by simp at hm;omega
  obtain ⟨j,j1,j2,hj⟩:=hj;unfold point pt;rw [hc];have jj:j=1:=by omega
  rcases jj with rfl <;> simp [In5,lo5,hi5] at hj <;> rw [if_neg (by omega),if_neg (by omega),if_neg (by omega),if_neg (by omega)]
 by_cases r3:c<=224;·
  have e:=mr_3 c (by omega) (by omega);rw [e] at hm hj;obtain rfl:m=2:=by simp at hm;omega
  obtain ⟨j,j1,j2,hj⟩:=hj;unfold point pt;rw [hc];have jj:j=1\/j=2:=by omega
  rcases jj with rfl | rfl <;> simp [In5,lo5,hi5] at hj <;> rw [if_neg (by omega),if_neg (by omega),if_neg (by omega),if_neg (by omega)]
 by_cases r4:c<=236;·
  have e:=mr_4 c (by omega) (by omega);rw [e] at hm hj;obtain rfl:m=2:=by simp at hm;omega
  obtain ⟨j,j1,j2,hj⟩:=hj;unfold point pt;rw [hc];have jj:j=1\/j=2:=by omega
  rcases jj with rfl | rfl <;> simp [In5,lo5,hi5] at hj <;> rw [if_neg (by omega),if_neg (by omega),if_neg (by omega),if_neg (by omega)]
 by_cases r5:c<=237;·
  have e:=mr_5 c (by omega) (by omega);rw [e] at hm hj;obtain rfl:m=2:=by simp at hm;omega
  obtain ⟨j,j1,j2,hj⟩:=hj;unfold point pt;rw [hc];have jj:j=1\/j=2:=by omega
  rcases jj with rfl | rfl <;> simp [In5,lo5,hi5] at hj <;> rw [if_neg (by omega),if_neg (by omega),if_neg (by omega),if_neg (by omega)]
 by_cases r6:c<=239;·
  have e:=mr_6 c (by omega) (by omega);rw [e] at hm hj;obtain rfl:m=2:=by simp at hm;omega
  obtain ⟨j,j1,j2,hj⟩:=hj;unfold point pt;rw [hc];have jj:j=1\/j=2:=by omega
  rcases jj with rfl | rfl <;> simp [In5,lo5,hi5] at hj <;> rw [if_neg (by omega),if_neg (by omega),if_neg (by omega),if_neg (by omega)]
 by_cases r7:c<=240;·
  have e:=mr_7 c (by omega) (by omega);rw [e] at hm hj;obtain rfl:m=3:=by simp at hm;omega
  obtain ⟨j,j1,j2,hj⟩:=hj;unfold point pt;rw [hc];have jj:j=1\/j=2\/j=3:=by omega
  rcases jj with rfl | rfl | rfl <;> simp [In5,lo5,hi5] at hj <;> rw [if_neg (by omega),if_neg (by omega),if_neg (by omega),if_neg (by omega)]
 by_cases r8:c<=243;·
  have e:=mr_8 c (by omega) (by omega);rw [e] at hm hj;obtain rfl:m=3:=by simp at hm;omega
  obtain ⟨j,j1,j2,hj⟩:=hj;unfold point pt;rw [hc];have jj:j=1\/j=2\/j=3:=by omega
  rcases jj with rfl | rfl | rfl <;> simp [In5,lo5,hi5] at hj <;> rw [if_neg (by omega),if_neg (by omega),if_neg (by omega),if_neg (by omega)]
 by_cases r9:c<=244;·
  have e:=mr_9 c (by omega) (by omega);rw [e] at hm hj;obtain rfl:m=3:=by simp at hm;omega
  obtain ⟨j,j1,j2,hj⟩:=hj;unfold point pt;rw [hc];have jj:j=1\/j=2\/j=3:=by omega
  rcases jj with rfl | rfl | rfl <;> simp [In5,lo5,hi5] at hj <;> rw [if_neg (by omega),if_neg (by omega),if_neg (by omega),if_neg (by omega)]
 have e:=mr_10 c (by omega) (by omega);rw [e] at hm hj;exfalso;revert hm;simp;try omega
set_option maxHeartbeats 2000000
theorem ze0 (c:Nat) (hc:c<=255) (n:Int) (L H:Nat) (h:mr c=(n,L,H)) (w:World):Calls Tryz.prog 223 #[.int .u8 c] w fun e w'=>e = .returned (.tuple #[.int .i64 n,.int .u8 L,.int .u8 H])/\w'=w:=by have:=more_any c hc w;rw [h] at this;exact this
theorem zaL (s:ByteArray) (w:World):Calls Tryz.prog 147 #[.string s] w fun e w'=>e = .returned (.bool (txt s))/\w'=w:=by
 by_cases hl:65535<s.size;·
  have e:txt s=false:=by simp [txt,chk,hl]
  rw [e];clear e;have hl':(65535:Int)<s.size:=by omega
  go_enter Tryz.func147,Tryz.ntmps147;go_wp2;go_ret;exact ⟨rfl,rfl⟩
 have HE:Hid (chk s=chkF s s.size 0):=by simp [chk,hl,Hid]
 have hl':¬ (65535:Int)<s.size:=by omega
 have HS:Hid (s.size<=65535):=by show _<=_;omega
 clear hl;obtain ⟨x,hx⟩:∃ x,x=txt s:=⟨_,rfl⟩;rw [<-hx];have HX:=Hi hx;clear hx;go_enter Tryz.func147,Tryz.ntmps147;go_wp2_with fail;clear hl';go_loopg [3] s.size (fun g s3 wx=>wx=w/\∃ k b:Nat,k<=s.size/\g=s.size-k/\s3 = .int .i64 k/\Hid (chk s=chkF s b k)/\Hid (s.size<=k+b));case atStart=>exact ⟨rfl,0,s.size,Nat.zero_le _,rfl,rfl,HE,by show _<=_;omega⟩
 case round =>
  obtain ⟨hw0,k,b,hk,rfl,rfl,HC,HB⟩:=hrel;obtain rfl:=hw0.symm;clear hw0;by_cases hlt:k<s.size;·
   have hlt':(k:Int)<s.size:=by omega
   have HA:=Hi (atB_in s k hlt);have H255:Hid ((s[k]'hlt).toNat<=255):=by show _<=_;have:=(s[k]'hlt).toNat_lt;omega
   by_cases hz:(s[k]'hlt).toNat=0;·
    have hz':(((s[k]'hlt).toNat:Int)==0)=true:=by simp [hz]
    have HR:Hid (x=false):=by show _=_;have h1:=HC.out;rw [zbP s b k hlt HB.out (by rw [HA.out];exact hz)] at h1;rw [HX.out,txt,h1];rfl
    clear hz;go_wp2;go_ret;exact ⟨by rw [HR.out];rfl,rfl⟩
   have hz':(((s[k]'hlt).toNat:Int)==0)=false:=by simp;omega
   have HZ:Hid (¬ atB s k=0):=by show ¬ atB s k=0;rw [HA.out];exact hz
   clear hz;obtain ⟨n,L,H,hm⟩:∃ n L H,mr (s[k]'hlt).toNat=(n,L,H):=⟨_,_,_,rfl⟩;have HM:=Hi hm;have HM2:Hid (mr (atB s k)=(n,L,H)):=by show _=_;rw [HA.out];exact hm
   have hmost:=mr_most (atB s k);rw [HM2.out] at hmost;simp only at hmost;have HN:=Hi hmost;clear hm hmost;have HF:Hid (point s k=0->x=false):=fun h=>by have h1:=HC.out;rw [zcz s b k hlt HB.out HZ.out h] at h1;rw [HX.out,txt,h1];rfl
   by_cases hn:n<0
   · have HR:Hid (x=false):=HF.out (point_neg s k (by rw [HM2.out];exact hn))
     go_wp2_with (go_at_call 223;refine (ze0 _ H255.out n L H HM.out _).mono ?_;rintro e w' ⟨rfl,hee⟩;obtain rfl:=hee.symm;clear hee);go_ret;exact ⟨by rw [HR.out];rfl,rfl⟩
   obtain ⟨m,rfl⟩:∃ m:Nat,n=m:=⟨n.toNat,by omega⟩;have hw:IntKind.i64.wrap ((k:Int)+m)=(k:Int)+m:=by rw [IntKind.wrap_i64];have:=HS.out;have:=HN.out;omega
   by_cases he:s.size<=k+m;·
    have he':(s.size:Int)<=(k:Int)+m:=by omega
    have HR:Hid (x=false):=by
     by_cases m0:m=0;· subst m0;omega
     · exact HF.out (zei s k m (by rw [HM2.out]) ⟨m,by omega,Nat.le_refl _,fun hi=>by have h1:=mr_low (atB s k) (by rw [HM2.out];simp only;omega);have h2:=hi.1;rw [zdy s (k+m) (by omega)] at h2;unfold lo5 at h2;split at h2 <;> omega⟩)
    go_wp2_with (go_at_call 223;refine (ze0 _ H255.out m L H HM.out _).mono ?_;rintro e w' ⟨rfl,hee⟩;obtain rfl:=hee.symm;clear hee);go_ret;exact ⟨by rw [HR.out];rfl,rfl⟩
   have he':¬ (s.size:Int)<=(k:Int)+m:=by omega
   have HEN:Hid (k+m<s.size):=by show _<_;omega
   clear he;go_wp2_with (first | (go_at_call 223;refine (ze0 _ H255.out m L H HM.out _).mono ?_;rintro e w' ⟨rfl,hee⟩;obtain rfl:=hee.symm;clear hee) | fail);clear he' hw hz';go_loopg [5,6,7] m (fun g s5 s6 s7 wx=>wx=w/\∃ j:Nat,1<=j/\j<=m+1/\g=m+1-j/\s7 = .int .i64 j/\s5 = .int .u8 (lo5 L j)/\s6 = .int .u8 (hi5 H j)/\Hid (∀ i,1<=i->i<j->In5 s k L H i));case atStart=>exact ⟨rfl,1,Nat.le_refl _,by omega,by omega,rfl,rfl,rfl,fun i h1 h2=>by omega⟩
   case round =>
    obtain ⟨hw0,j,hj1,hj2,rfl,rfl,rfl,rfl,HI⟩:=hrel;obtain rfl:=hw0.symm;clear hw0;by_cases hjm:j<=m;·
     have hjm':(j:Int)<=m:=by omega
     have hw:IntKind.i64.wrap ((k:Int)+j)=(k:Int)+j:=by rw [IntKind.wrap_i64];have:=HS.out;have:=HN.out;omega
     have hlt2:k+j<s.size:=by have:=HEN.out;omega
     have hlt3:(k:Int)+j<s.size:=by omega
     have hge3:(0:Int)<=(k:Int)+j:=by omega
     have htn:((k:Int)+j).toNat=k+j:=by omega
     have HJ:=Hi (atB_in s (k+j) hlt2);have hw2:IntKind.i64.wrap ((j:Int)+1)=(j:Int)+1:=by rw [IntKind.wrap_i64];have:=HN.out;omega
     by_cases hi:In5 s k L H j;·
      have g1:¬ ((s[k+j]'hlt2).toNat:Int)<(lo5 L j:Int):=by have:=hi.1;rw [HJ.out] at this;omega
      have g2:¬ (hi5 H j:Int)<((s[k+j]'hlt2).toNat:Int):=by have:=hi.2;rw [HJ.out] at this;omega
      have HI2:Hid (∀ i,1<=i->i<j+1->In5 s k L H i):=fun i h1 h2=>by
       by_cases e:i=j;· subst e;exact hi
       · exact HI.out i h1 (by omega)
      clear hi;go_wp2;go_roundg (m+1-(j+1));case measure=>omega
      case rel=>exact ⟨rfl,j+1,by omega,by omega,rfl,by first | rfl | simp,by rw [show lo5 L (j+1)=128 from if_neg (by omega)];rfl,by rw [show hi5 H (j+1)=191 from if_neg (by omega)];rfl,HI2⟩
     ·
      have HR:Hid (x=false):=HF.out (zei s k m (by rw [HM2.out]) ⟨j,hj1,hjm,by rw [HM2.out];exact hi⟩);by_cases g1:(s[k+j]'hlt2).toNat<lo5 L j
      · have g1':((s[k+j]'hlt2).toNat:Int)<(lo5 L j:Int):=by omega
        clear hi g1;go_wp2;go_ret;exact ⟨by rw [HR.out];rfl,rfl⟩
      ·
       have g1':¬ ((s[k+j]'hlt2).toNat:Int)<(lo5 L j:Int):=by omega
       have g2:(hi5 H j:Int)<((s[k+j]'hlt2).toNat:Int):=by have:¬ (lo5 L j<=atB s (k+j)/\atB s (k+j)<=hi5 H j):=hi;rw [HJ.out] at this;omega
       clear hi g1;go_wp2;go_ret;exact ⟨by rw [HR.out];rfl,rfl⟩
    ·
     obtain rfl:j=m+1:=by omega
     have hjm':¬ ((m+1:Nat):Int)<=m:=by omega
     have HP:Hid (point s k=m+1):=point_ok s k m (by rw [HM2.out]) (fun i h1 h2=>by rw [HM2.out];exact HI.out i h1 (by omega));have hw1:IntKind.i64.wrap ((k:Int)+m)=(k:Int)+m:=by rw [IntKind.wrap_i64];have:=HS.out;have:=HN.out;omega
     have hw2:IntKind.i64.wrap ((k:Int)+m+1)=(k:Int)+m+1:=by rw [IntKind.wrap_i64];have:=HS.out;have:=HN.out;omega
     go_wp2;go_roundg (s.size-(k+m+1));case measure=>have:=HEN.out;omega
     case rel => obtain ⟨b',e1,e2⟩:=zbS s b k hlt HB.out HZ.out (by rw [HP.out];omega);rw [HP.out] at e1 e2;exact ⟨rfl,k+(m+1),b',by have:=HEN.out;omega,by omega,by first | rfl | (simp;omega),HC.out.trans e1,e2⟩
  ·
   obtain rfl:k=s.size:=by omega
   have hlt':¬ (s.size:Int)<s.size:=by omega
   have HR:Hid (x=true):=by show _=_;have h1:=HC.out;rw [zcy s b _ hlt] at h1;rw [HX.out,txt,h1];rfl
   go_wp2;go_ret;exact ⟨by rw [HR.out];rfl,rfl⟩
end Go.Proofs.YtceigllifjgalaaGreatDoor.Pkt
