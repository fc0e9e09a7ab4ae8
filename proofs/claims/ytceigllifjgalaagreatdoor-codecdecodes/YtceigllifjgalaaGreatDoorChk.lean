import Derived.Test.YtceigllifjgalaaGreatDoorMWtwo
import Derived.Lib.Strings
namespace Go.Proofs.YtceigllifjgalaaGreatDoor.Rm
open Go.RowKit
set_option linter.unusedSimpArgs false
set_option linter.unusedVariables false
theorem tl12 (s:ByteArray) (i:Nat):tlI s ((i:Int)+1) ((i:Int)+2)=wi (atB s (i+1)) 128 191:=by
 have e:tlI s ((i:Int)+1) ((i:Int)+2)=tlN s (i+1) 1:=by unfold tlI;congr 1 <;> omega
 rw [e];simp [tlN,atI]
theorem tl13 (s:ByteArray) (i:Nat):tlI s ((i:Int)+1) ((i:Int)+3)=(wi (atB s (i+1)) 128 191 && wi (atB s (i+2)) 128 191):=by
 have e:tlI s ((i:Int)+1) ((i:Int)+3)=tlN s (i+1) 2:=by unfold tlI;congr 1 <;> omega
 rw [e];simp [tlN,atI];rfl
theorem tl14 (s:ByteArray) (i:Nat):tlI s ((i:Int)+1) ((i:Int)+4)=(wi (atB s (i+1)) 128 191 && wi (atB s (i+2)) 128 191 && wi (atB s (i+3)) 128 191):=by
 have e:tlI s ((i:Int)+1) ((i:Int)+4)=tlN s (i+1) 3:=by unfold tlI;congr 1 <;> omega
 rw [e];simp [tlN,atI];rfl
theorem tl23 (s:ByteArray) (i:Nat):tlI s ((i:Int)+2) ((i:Int)+3)=wi (atB s (i+2)) 128 191:=by
 have e:tlI s ((i:Int)+2) ((i:Int)+3)=tlN s (i+2) 1:=by unfold tlI;congr 1 <;> omega
 rw [e];simp [tlN,atI];rfl
theorem tl24 (s:ByteArray) (i:Nat):tlI s ((i:Int)+2) ((i:Int)+4)=(wi (atB s (i+2)) 128 191 && wi (atB s (i+3)) 128 191):=by
 have e:tlI s ((i:Int)+2) ((i:Int)+4)=tlN s (i+2) 2:=by unfold tlI;congr 1 <;> omega
 rw [e];simp [tlN,atI];rfl
theorem zal (s:ByteArray) (i:Nat):atI s (i:Int)=(atB s i:Int):=rfl
theorem zaN (s:ByteArray) (i:Nat):atI s ((i:Int)+1)=(atB s (i+1):Int):=rfl
theorem point_is0 (s:ByteArray) (i:Nat) (lo:(0:Int)<=atI s i) (hi:atI s i<=127)  : point s i=1:=by rw [zal] at lo hi;unfold point pt;rw [if_pos (by omega)]
theorem point_is1 (s:ByteArray) (i:Nat) (lo:(128:Int)<=atI s i) (hi:atI s i<=193)  : point s i=0:=by rw [zal] at lo hi;unfold point pt;rw [if_neg (by omega),if_neg (by omega),if_neg (by omega),if_neg (by omega)]
theorem point_is2 (s:ByteArray) (i:Nat) (lo:(194:Int)<=atI s i) (hi:atI s i<=223) (t0:tlI s ((i:Int)+1) ((i:Int)+2)=true):point s i=2:=by rw [tl12] at t0;simp only [wi,Bool.and_eq_true,Bool.and_eq_false_iff,decide_eq_true_eq,decide_eq_false_iff_not] at t0;rw [zal] at lo hi;unfold point pt;rw [if_neg (by omega),if_pos (by omega)]
theorem point_is3 (s:ByteArray) (i:Nat) (lo:(194:Int)<=atI s i) (hi:atI s i<=223) (t0:tlI s ((i:Int)+1) ((i:Int)+2)=false):point s i=0:=by rw [tl12] at t0;simp only [wi,Bool.and_eq_true,Bool.and_eq_false_iff,decide_eq_true_eq,decide_eq_false_iff_not] at t0;rw [zal] at lo hi;unfold point pt;rw [if_neg (by omega),if_neg (by omega),if_neg (by omega),if_neg (by omega)]
theorem point_is4 (s:ByteArray) (i:Nat) (lo:(224:Int)<=atI s i) (hi:atI s i<=224) (t0:wi (atI s ((i:Int)+1)) 160 191=true) (t1:tlI s ((i:Int)+2) ((i:Int)+3)=true):point s i=3:=by rw [zaN] at t0;rw [tl23] at t1;simp only [wi,Bool.and_eq_true,Bool.and_eq_false_iff,decide_eq_true_eq,decide_eq_false_iff_not] at t0 t1;rw [zal] at lo hi;unfold point pt;rw [if_neg (by omega),if_neg (by omega),if_pos (by omega)]
theorem point_is5 (s:ByteArray) (i:Nat) (lo:(224:Int)<=atI s i) (hi:atI s i<=224) (t0:wi (atI s ((i:Int)+1)) 160 191=true) (t1:tlI s ((i:Int)+2) ((i:Int)+3)=false):point s i=0:=by rw [zaN] at t0;rw [tl23] at t1;simp only [wi,Bool.and_eq_true,Bool.and_eq_false_iff,decide_eq_true_eq,decide_eq_false_iff_not] at t0 t1;rw [zal] at lo hi;unfold point pt;rw [if_neg (by omega),if_neg (by omega),if_neg (by omega),if_neg (by omega)]
theorem point_is6 (s:ByteArray) (i:Nat) (lo:(224:Int)<=atI s i) (hi:atI s i<=224) (t0:wi (atI s ((i:Int)+1)) 160 191=false):point s i=0:=by rw [zaN] at t0;simp only [wi,Bool.and_eq_true,Bool.and_eq_false_iff,decide_eq_true_eq,decide_eq_false_iff_not] at t0;rw [zal] at lo hi;unfold point pt;rw [if_neg (by omega),if_neg (by omega),if_neg (by omega),if_neg (by omega)]
theorem point_is7 (s:ByteArray) (i:Nat) (lo:(225:Int)<=atI s i) (hi:atI s i<=236) (t0:tlI s ((i:Int)+1) ((i:Int)+3)=true):point s i=3:=by rw [tl13] at t0;simp only [wi,Bool.and_eq_true,Bool.and_eq_false_iff,decide_eq_true_eq,decide_eq_false_iff_not] at t0;rw [zal] at lo hi;unfold point pt;rw [if_neg (by omega),if_neg (by omega),if_pos (by omega)]
theorem point_is8 (s:ByteArray) (i:Nat) (lo:(225:Int)<=atI s i) (hi:atI s i<=236) (t0:tlI s ((i:Int)+1) ((i:Int)+3)=false):point s i=0:=by rw [tl13] at t0;simp only [wi,Bool.and_eq_true,Bool.and_eq_false_iff,decide_eq_true_eq,decide_eq_false_iff_not] at t0;rw [zal] at lo hi;unfold point pt;rw [if_neg (by omega),if_neg (by omega),if_neg (by omega),if_neg (by omega)]
theorem point_is9 (s:ByteArray) (i:Nat) (lo:(237:Int)<=atI s i) (hi:atI s i<=237) (t0:wi (atI s ((i:Int)+1)) 128 159=true) (t1:tlI s ((i:Int)+2) ((i:Int)+3)=true):point s i=3:=by rw [zaN] at t0;rw [tl23] at t1;simp only [wi,Bool.and_eq_true,Bool.and_eq_false_iff,decide_eq_true_eq,decide_eq_false_iff_not] at t0 t1;rw [zal] at lo hi;unfold point pt;rw [if_neg (by omega),if_neg (by omega),if_pos (by omega)]
theorem point_is10 (s:ByteArray) (i:Nat) (lo:(237:Int)<=atI s i) (hi:atI s i<=237) (t0:wi (atI s ((i:Int)+1)) 128 159=true) (t1:tlI s ((i:Int)+2) ((i:Int)+3)=false):point s i=0:=by rw [zaN] at t0;rw [tl23] at t1;simp only [wi,Bool.and_eq_true,Bool.and_eq_false_iff,decide_eq_true_eq,decide_eq_false_iff_not] at t0 t1;rw [zal] at lo hi;unfold point pt;rw [if_neg (by omega),if_neg (by omega),if_neg (by omega),if_neg (by omega)]
theorem point_is11 (s:ByteArray) (i:Nat) (lo:(237:Int)<=atI s i) (hi:atI s i<=237) (t0:wi (atI s ((i:Int)+1)) 128 159=false):point s i=0:=by rw [zaN] at t0;simp only [wi,Bool.and_eq_true,Bool.and_eq_false_iff,decide_eq_true_eq,decide_eq_false_iff_not] at t0;rw [zal] at lo hi;unfold point pt;rw [if_neg (by omega),if_neg (by omega),if_neg (by omega),if_neg (by omega)]
theorem point_is12 (s:ByteArray) (i:Nat) (lo:(238:Int)<=atI s i) (hi:atI s i<=239) (t0:tlI s ((i:Int)+1) ((i:Int)+3)=true):point s i=3:=by rw [tl13] at t0;simp only [wi,Bool.and_eq_true,Bool.and_eq_false_iff,decide_eq_true_eq,decide_eq_false_iff_not] at t0;rw [zal] at lo hi;unfold point pt;rw [if_neg (by omega),if_neg (by omega),if_pos (by omega)]
theorem point_is13 (s:ByteArray) (i:Nat) (lo:(238:Int)<=atI s i) (hi:atI s i<=239) (t0:tlI s ((i:Int)+1) ((i:Int)+3)=false):point s i=0:=by rw [tl13] at t0;simp only [wi,Bool.and_eq_true,Bool.and_eq_false_iff,decide_eq_true_eq,decide_eq_false_iff_not] at t0;rw [zal] at lo hi;unfold point pt;rw [if_neg (by omega),if_neg (by omega),if_neg (by omega),if_neg (by omega)]
theorem point_is14 (s:ByteArray) (i:Nat) (lo:(240:Int)<=atI s i) (hi:atI s i<=240) (t0:wi (atI s ((i:Int)+1)) 144 191=true) (t1:tlI s ((i:Int)+2) ((i:Int)+4)=true):point s i=4:=by rw [zaN] at t0;rw [tl24] at t1;simp only [wi,Bool.and_eq_true,Bool.and_eq_false_iff,decide_eq_true_eq,decide_eq_false_iff_not] at t0 t1;rw [zal] at lo hi;unfold point pt;rw [if_neg (by omega),if_neg (by omega),if_neg (by omega),if_pos (by omega)]
theorem point_is15 (s:ByteArray) (i:Nat) (lo:(240:Int)<=atI s i) (hi:atI s i<=240) (t0:wi (atI s ((i:Int)+1)) 144 191=true) (t1:tlI s ((i:Int)+2) ((i:Int)+4)=false):point s i=0:=by rw [zaN] at t0;rw [tl24] at t1;simp only [wi,Bool.and_eq_true,Bool.and_eq_false_iff,decide_eq_true_eq,decide_eq_false_iff_not] at t0 t1;rw [zal] at lo hi;unfold point pt;rw [if_neg (by omega),if_neg (by omega),if_neg (by omega),if_neg (by omega)]
theorem point_is16 (s:ByteArray) (i:Nat) (lo:(240:Int)<=atI s i) (hi:atI s i<=240) (t0:wi (atI s ((i:Int)+1)) 144 191=false):point s i=0:=by rw [zaN] at t0;simp only [wi,Bool.and_eq_true,Bool.and_eq_false_iff,decide_eq_true_eq,decide_eq_false_iff_not] at t0;rw [zal] at lo hi;unfold point pt;rw [if_neg (by omega),if_neg (by omega),if_neg (by omega),if_neg (by omega)]
theorem point_is17 (s:ByteArray) (i:Nat) (lo:(241:Int)<=atI s i) (hi:atI s i<=243) (t0:tlI s ((i:Int)+1) ((i:Int)+4)=true):point s i=4:=by rw [tl14] at t0;simp only [wi,Bool.and_eq_true,Bool.and_eq_false_iff,decide_eq_true_eq,decide_eq_false_iff_not] at t0;rw [zal] at lo hi;unfold point pt;rw [if_neg (by omega),if_neg (by omega),if_neg (by omega),if_pos (by omega)]
theorem point_is18 (s:ByteArray) (i:Nat) (lo:(241:Int)<=atI s i) (hi:atI s i<=243) (t0:tlI s ((i:Int)+1) ((i:Int)+4)=false):point s i=0:=by rw [tl14] at t0;simp only [wi,Bool.and_eq_true,Bool.and_eq_false_iff,decide_eq_true_eq,decide_eq_false_iff_not] at t0;rw [zal] at lo hi;unfold point pt;rw [if_neg (by omega),if_neg (by omega),if_neg (by omega),if_neg (by omega)]
theorem point_is19 (s:ByteArray) (i:Nat) (lo:(244:Int)<=atI s i) (hi:atI s i<=244) (t0:wi (atI s ((i:Int)+1)) 128 143=true) (t1:tlI s ((i:Int)+2) ((i:Int)+4)=true):point s i=4:=by rw [zaN] at t0;rw [tl24] at t1;simp only [wi,Bool.and_eq_true,Bool.and_eq_false_iff,decide_eq_true_eq,decide_eq_false_iff_not] at t0 t1;rw [zal] at lo hi;unfold point pt;rw [if_neg (by omega),if_neg (by omega),if_neg (by omega),if_pos (by omega)]
theorem point_is20 (s:ByteArray) (i:Nat) (lo:(244:Int)<=atI s i) (hi:atI s i<=244) (t0:wi (atI s ((i:Int)+1)) 128 143=true) (t1:tlI s ((i:Int)+2) ((i:Int)+4)=false):point s i=0:=by rw [zaN] at t0;rw [tl24] at t1;simp only [wi,Bool.and_eq_true,Bool.and_eq_false_iff,decide_eq_true_eq,decide_eq_false_iff_not] at t0 t1;rw [zal] at lo hi;unfold point pt;rw [if_neg (by omega),if_neg (by omega),if_neg (by omega),if_neg (by omega)]
theorem point_is21 (s:ByteArray) (i:Nat) (lo:(244:Int)<=atI s i) (hi:atI s i<=244) (t0:wi (atI s ((i:Int)+1)) 128 143=false):point s i=0:=by rw [zaN] at t0;simp only [wi,Bool.and_eq_true,Bool.and_eq_false_iff,decide_eq_true_eq,decide_eq_false_iff_not] at t0;rw [zal] at lo hi;unfold point pt;rw [if_neg (by omega),if_neg (by omega),if_neg (by omega),if_neg (by omega)]
theorem point_is22 (s:ByteArray) (i:Nat) (lo:(245:Int)<=atI s i) (hi:atI s i<=255)  : point s i=0:=by rw [zal] at lo hi;unfold point pt;rw [if_neg (by omega),if_neg (by omega),if_neg (by omega),if_neg (by omega)]
theorem zdH (s:ByteArray) (i:Nat) (hb:i<=1000000) (w:World) :
 Calls Tryz.prog 285 #[.string s,.int .i64 i] w fun e w'=>e = .returned (.int .i64 (point s i))/\w'=w:=by
 have h0:(0:Int)<=atI s i:=by rw [zal];omega
 have h1:atI s i<=255:=by rw [zal];have:=atB_lt s i;omega
 by_cases k127:atI s i<=127
 · rw [point_is0 s i (by omega) (by omega)]
   exact point_way0 s i hb (by omega) (by omega) w
 by_cases k193:atI s i<=193
 · rw [point_is1 s i (by omega) (by omega)]
   refine pway s i hb 128 193 0 (by omega) (by omega) w (.inl ⟨rfl,rfl,rfl⟩)
 by_cases k223:atI s i<=223
 · by_cases t223:tlI s ((i:Int)+1) ((i:Int)+2)=true
   · rw [point_is2 s i (by omega) (by omega) t223]
     refine pway s i hb 194 223 2 (by omega) (by omega) w (.inr<|.inl ⟨rfl,rfl,t223,rfl⟩)
   · rw [point_is3 s i (by omega) (by omega) (by simpa using t223)]
     refine pway s i hb 194 223 0 (by omega) (by omega) w (.inr<|.inr<|.inl ⟨rfl,rfl,(by simpa using t223),rfl⟩)
 by_cases k224:atI s i<=224
 · by_cases d224:wi (atI s ((i:Int)+1)) 160 191=true
   · by_cases t224:tlI s ((i:Int)+2) ((i:Int)+3)=true
     · rw [point_is4 s i (by omega) (by omega) d224 t224]
       refine pway s i hb 224 224 3 (by omega) (by omega) w (.inr<|.inr<|.inr<|.inl ⟨rfl,rfl,d224,t224,rfl⟩)
     · rw [point_is5 s i (by omega) (by omega) d224 (by simpa using t224)]
       refine pway s i hb 224 224 0 (by omega) (by omega) w (.inr<|.inr<|.inr<|.inr<|.inl ⟨rfl,rfl,d224,(by simpa using t224),rfl⟩)
   · rw [point_is6 s i (by omega) (by omega) (by simpa using d224)]
     refine pway s i hb 224 224 0 (by omega) (by omega) w (.inr<|.inr<|.inr<|.inr<|.inr<|.inl ⟨rfl,rfl,(by simpa using d224),rfl⟩)
 by_cases k236:atI s i<=236
 · by_cases t236:tlI s ((i:Int)+1) ((i:Int)+3)=true
   · rw [point_is7 s i (by omega) (by omega) t236]
     refine pway s i hb 225 236 3 (by omega) (by omega) w (.inr<|.inr<|.inr<|.inr<|.inr<|.inr<|.inl ⟨rfl,rfl,t236,rfl⟩)
   · rw [point_is8 s i (by omega) (by omega) (by simpa using t236)]
     refine pway s i hb 225 236 0 (by omega) (by omega) w (.inr<|.inr<|.inr<|.inr<|.inr<|.inr<|.inr<|.inl ⟨rfl,rfl,(by simpa using t236),rfl⟩)
 by_cases k237:atI s i<=237
 · by_cases d237:wi (atI s ((i:Int)+1)) 128 159=true
   · by_cases t237:tlI s ((i:Int)+2) ((i:Int)+3)=true
     · rw [point_is9 s i (by omega) (by omega) d237 t237]
       refine pway s i hb 237 237 3 (by omega) (by omega) w (.inr<|.inr<|.inr<|.inr<|.inr<|.inr<|.inr<|.inr<|.inl ⟨rfl,rfl,d237,t237,rfl⟩)
     · rw [point_is10 s i (by omega) (by omega) d237 (by simpa using t237)]
       refine pway s i hb 237 237 0 (by omega) (by omega) w (.inr<|.inr<|.inr<|.inr<|.inr<|.inr<|.inr<|.inr<|.inr<|.inl ⟨rfl,rfl,d237,(by simpa using t237),rfl⟩)
   · rw [point_is11 s i (by omega) (by omega) (by simpa using d237)]
     refine pway s i hb 237 237 0 (by omega) (by omega) w (.inr<|.inr<|.inr<|.inr<|.inr<|.inr<|.inr<|.inr<|.inr<|.inr<|.inl ⟨rfl,rfl,(by simpa using d237),rfl⟩)
 by_cases k239:atI s i<=239
 · by_cases t239:tlI s ((i:Int)+1) ((i:Int)+3)=true
   · rw [point_is12 s i (by omega) (by omega) t239]
     refine pway s i hb 238 239 3 (by omega) (by omega) w (.inr<|.inr<|.inr<|.inr<|.inr<|.inr<|.inr<|.inr<|.inr<|.inr<|.inr<|.inl ⟨rfl,rfl,t239,rfl⟩)
   · rw [point_is13 s i (by omega) (by omega) (by simpa using t239)]
     refine pway s i hb 238 239 0 (by omega) (by omega) w (.inr<|.inr<|.inr<|.inr<|.inr<|.inr<|.inr<|.inr<|.inr<|.inr<|.inr<|.inr<|.inl ⟨rfl,rfl,(by simpa using t239),rfl⟩)
 by_cases k240:atI s i<=240
 · by_cases d240:wi (atI s ((i:Int)+1)) 144 191=true
   · by_cases t240:tlI s ((i:Int)+2) ((i:Int)+4)=true
     · rw [point_is14 s i (by omega) (by omega) d240 t240]
       refine pway s i hb 240 240 4 (by omega) (by omega) w (.inr<|.inr<|.inr<|.inr<|.inr<|.inr<|.inr<|.inr<|.inr<|.inr<|.inr<|.inr<|.inr<|.inl ⟨rfl,rfl,d240,t240,rfl⟩)
     · rw [point_is15 s i (by omega) (by omega) d240 (by simpa using t240)]
       refine pway s i hb 240 240 0 (by omega) (by omega) w (.inr<|.inr<|.inr<|.inr<|.inr<|.inr<|.inr<|.inr<|.inr<|.inr<|.inr<|.inr<|.inr<|.inr<|.inl ⟨rfl,rfl,d240,(by simpa using t240),rfl⟩)
   · rw [point_is16 s i (by omega) (by omega) (by simpa using d240)]
     refine pway s i hb 240 240 0 (by omega) (by omega) w (.inr<|.inr<|.inr<|.inr<|.inr<|.inr<|.inr<|.inr<|.inr<|.inr<|.inr<|.inr<|.inr<|.inr<|.inr<|.inl ⟨rfl,rfl,(by simpa using d240),rfl⟩)
 by_cases k243:atI s i<=243
 · by_cases t243:tlI s ((i:Int)+1) ((i:Int)+4)=true
   · rw [point_is17 s i (by omega) (by omega) t243]
     refine pway s i hb 241 243 4 (by omega) (by omega) w (.inr<|.inr<|.inr<|.inr<|.inr<|.inr<|.inr<|.inr<|.inr<|.inr<|.inr<|.inr<|.inr<|.inr<|.inr<|.inr<|.inl ⟨rfl,rfl,t243,rfl⟩)
   · rw [point_is18 s i (by omega) (by omega) (by simpa using t243)]
     refine pway s i hb 241 243 0 (by omega) (by omega) w (.inr<|.inr<|.inr<|.inr<|.inr<|.inr<|.inr<|.inr<|.inr<|.inr<|.inr<|.inr<|.inr<|.inr<|.inr<|.inr<|.inr<|.inl ⟨rfl,rfl,(by simpa using t243),rfl⟩)
 by_cases k244:atI s i<=244
 · by_cases d244:wi (atI s ((i:Int)+1)) 128 143=true
   · by_cases t244:tlI s ((i:Int)+2) ((i:Int)+4)=true
     · rw [point_is19 s i (by omega) (by omega) d244 t244]
       refine pway s i hb 244 244 4 (by omega) (by omega) w (.inr<|.inr<|.inr<|.inr<|.inr<|.inr<|.inr<|.inr<|.inr<|.inr<|.inr<|.inr<|.inr<|.inr<|.inr<|.inr<|.inr<|.inr<|.inl ⟨rfl,rfl,d244,t244,rfl⟩)
     · rw [point_is20 s i (by omega) (by omega) d244 (by simpa using t244)]
       refine pway s i hb 244 244 0 (by omega) (by omega) w (.inr<|.inr<|.inr<|.inr<|.inr<|.inr<|.inr<|.inr<|.inr<|.inr<|.inr<|.inr<|.inr<|.inr<|.inr<|.inr<|.inr<|.inr<|.inr<|.inl ⟨rfl,rfl,d244,(by simpa using t244),rfl⟩)
   · rw [point_is21 s i (by omega) (by omega) (by simpa using d244)]
     refine pway s i hb 244 244 0 (by omega) (by omega) w (.inr<|.inr<|.inr<|.inr<|.inr<|.inr<|.inr<|.inr<|.inr<|.inr<|.inr<|.inr<|.inr<|.inr<|.inr<|.inr<|.inr<|.inr<|.inr<|.inr<|.inl ⟨rfl,rfl,(by simpa using d244),rfl⟩)
 rw [point_is22 s i (by omega) (by omega)];refine pway s i hb 245 255 0 (by omega) (by omega) w (.inr<|.inr<|.inr<|.inr<|.inr<|.inr<|.inr<|.inr<|.inr<|.inr<|.inr<|.inr<|.inr<|.inr<|.inr<|.inr<|.inr<|.inr<|.inr<|.inr<|.inr<|⟨rfl,rfl,rfl⟩)
set_option maxHeartbeats 400000
def chkF (s:ByteArray):Nat->Nat->Nat×Nat | 0,_=>(0,0) | b+1,k=>if k<s.size then (if atB s k=0 then (k,14) else if point s k=0 then (k,13) else chkF s b (k+point s k)) else (0,0)
def chk (s:ByteArray):Nat×Nat:=if 65535<s.size then (65535,11) else chkF s s.size 0
theorem zcy (s:ByteArray) (b k:Nat) (h:¬ k<s.size):chkF s b k=(0,0):=by cases b with | zero=>rfl | succ b=>simp [chkF,h]
theorem zbP (s:ByteArray) (b k:Nat) (h:k<s.size) (hb:s.size<=k+b) (hz:atB s k=0):chkF s b k=(k,14):=by cases b with | zero=>omega | succ b=>simp [chkF,h,hz]
theorem zcz (s:ByteArray) (b k:Nat) (h:k<s.size) (hb:s.size<=k+b) (hz:¬ atB s k=0) (hp:point s k=0):chkF s b k=(k,13):=by cases b with | zero=>omega | succ b=>simp [chkF,h,hz,hp]
theorem zbS (s:ByteArray) (b k:Nat) (h:k<s.size) (hb:s.size<=k+b) (hz:¬ atB s k=0) (hp:¬ point s k=0):∃ b',chkF s b k=chkF s b' (k+point s k)/\s.size<=k+point s k+b':=by cases b with | zero=>omega | succ b=>exact ⟨b,by simp [chkF,h,hz,hp],by omega⟩
theorem ref_any (s:ByteArray) (w:World) :
 Calls Tryz.prog 253 #[.string s] w fun e w'=>e = .returned (.tuple #[.int .i64 (chk s).1,.int .i64 (chk s).2])/\w'=w:=by
 by_cases hl:65535<s.size
 · have e:chk s=(65535,11):=by simp [chk,hl]
   rw [e];clear e;have hl':(65535:Int)<s.size:=by omega
   go_enter Tryz.func253,Tryz.ntmps253;go_wp2;go_ret2;exact ⟨rfl,rfl⟩
 · have HE:Hid (chk s=chkF s s.size 0):=by simp [chk,hl,Hid]
   have hl':¬ (65535:Int)<s.size:=by omega
   have hs:s.size<=65535:=by omega
   go_enter Tryz.func253,Tryz.ntmps253;go_wp2;go_loop [4] (fun i=>∃ k b:Nat,k<=s.size/\i = .int .i64 k/\chk s=chkF s b k/\s.size<=k+b) (fun i=>s.size-(intOf i).toNat);case atStart=>exact ⟨0,s.size,Nat.zero_le _,rfl,HE.out,by omega⟩
   case round =>
    obtain ⟨k,b,hk,rfl,hc,hb⟩:=hrel;have HC:=Hi hc;clear hc;by_cases hlt:k<s.size
    · have hat:=atB_in s k hlt
      have HA:=Hi hat;clear hat;by_cases hz:(s[k]'hlt).toNat=0
      · have hz':(((s[k]'hlt).toNat:Int)==0)=true:=by simp [hz]
        have HR:Hid (chk s=(k,14)):=by have h1:=HC.out;rw [zbP s b k hlt hb (by rw [HA.out];exact hz)] at h1;exact h1
        clear hz;go_wp2;go_ret2;exact ⟨by rw [HR.out];rfl,rfl⟩
      · have hz':(((s[k]'hlt).toNat:Int)==0)=false:=by simp;omega
        have HZ:Hid (¬ atB s k=0):=by have h1:=HA.out;show ¬ atB s k=0;rw [h1];exact hz
        clear hz;by_cases hp:point s k=0
        · have hp':((point s k:Int)==0)=true:=by simp [hp]
          have HR:Hid (chk s=(k,13)):=by have h1:=HC.out;rw [zcz s b k hlt hb HZ.out hp] at h1;exact h1
          clear hp;go_wp2_with (go_at_call 285;refine (zdH _ _ (by omega) _).mono ?_;rintro e w' ⟨rfl,rfl⟩);go_ret2;exact ⟨by rw [HR.out];rfl,rfl⟩
        · have hp':((point s k:Int)==0)=false:=by simp;omega
          have hple:=point_le s k hlt;have HP:=Hi hp;clear hp;go_wp2_with (go_at_call 285;refine (zdH _ _ (by omega) _).mono ?_;rintro e w' ⟨rfl,rfl⟩);go_round;case rel => obtain ⟨b',e1,e2⟩:=zbS s b k hlt hb HZ.out HP.out;exact ⟨k+point s k,b',hple,by go_num,HC.out.trans e1,e2⟩
          case measure=>have h1:=HP.out;simp [intOf];omega
    · have HR:Hid (chk s=(0,0)):=by have h1:=HC.out;rw [zcy s b k hlt] at h1;exact h1
      go_wp2;go_ret2;exact ⟨by rw [HR.out];rfl,rfl⟩
set_option maxRecDepth 100000
set_option maxHeartbeats 2000000
theorem lay_any (R base m:Nat) (cs:Array Value) (vb va:Value) (xsb xsa:List Value) (ao:Option Addr) (len cap:Nat) (z:Nat->Int) (w:World) (hm:len<=150000) (hm1:m<=1000) (hc:Came w ao len cap z)
 (hR:w.heap[R]?=some (.cells cs 48 (0,0))) (hb:cs[0]?=some vb) (ha:cs[1]?=some va) (hbase:base<=R) (hob:w.ownsRow base 22 1 vb m xsb) (hoa:w.ownsRow base 3 1 va m xsa) :
 Calls Tryz.prog 87 #[.pointer (some ⟨R,0,none⟩),.slice ao len cap,.int .i64 600] w fun e w'=>∃ g cp cur vb' va',e = .returned (.slice (some ⟨g,0,none⟩) len (len+600)) /\ w.heap.size<=g/\w'.heap[g]?=some (.cells cur 5 (0,0))/\cur.size=cp/\len+600<=cp/\cur.toList.take (len+600)=cellsOf z len++cellsOf mark 600 /\ w'.heap[R]?=some (.cells ((cs.setIfInBounds 0 vb').setIfInBounds 1 va') 48 (0,0))/\w'.ownsRow base 22 1 vb' (m+1) (xsb++[.slice (some ⟨g,0,none⟩) (len+600) cp])/\w'.ownsRow base 3 1 va' (m+1) (xsa++[.int .i64 len]) /\ BelF base w w':=by
 have HR:Hid (w.heap[R]?=some (.cells cs 48 (0,0))/\cs[0]?=some vb/\cs[1]?=some va/\base<=R/\w.ownsRow base 22 1 vb m xsb/\w.ownsRow base 3 1 va m xsa):=⟨hR,hb,ha,hbase,hob,hoa⟩;clear hR hb ha hbase hob hoa;obtain ⟨j0,hj,hj0,hj1,hj2⟩:=info_parts Tryz.info22;obtain ⟨l0,hl,hl0,hl1,hl2⟩:=info_parts Tryz.info3;obtain ⟨hcap,hz,hc⟩:=hc;obtain ⟨i0,hi,hz0,hz1,hz2⟩:=info_parts Tryz.info5;have own0:(w.alloc (.cells #[] 5)).ownsRow w.heap.size 5 1 (.slice (some ⟨w.heap.size,0,none⟩) 0 0) 0 []:=World.ownsRow_made w #[] 0 (Nat.le_refl _) (by decide) (by decide);have OWN0:=Hi own0;clear own0;rcases hc with ⟨rfl,rfl,rfl⟩|⟨ad,rfl,hcell⟩
 · have HS:Hid ((w.alloc (.cells #[] 5)).ownsRow w.heap.size 5 1 (.slice (some ⟨w.heap.size,0,none⟩) 0 0) (0+0) (cellsOf z 0++cellsOf mark 0)/\Below w.heap.size w (w.alloc (.cells #[] 5))/\(Value.slice (some ⟨w.heap.size,0,none⟩) 0 0)≠.slice none 0 0):=⟨OWN0.out,(Below.refl _ _).alloc (Nat.le_refl _) _,by simp⟩
   go_enter Tryz.func87,Tryz.ntmps87;go_wp2_with (at_builtin;refine wpList_append_own_none rfl (.tmp 10) (.tmp 11) 22 rfl w.heap.size 5 i0 1 Tryz.underlying22 hi _ 0 [] rfl OWN0.out rfl ?_);go_loopw [7,8] (fun v i wr=>∃ k:Nat,k<=600/\i = .int .i64 k/\wr.ownsRow w.heap.size 5 1 v (0+k) (cellsOf z 0++cellsOf mark k)/\Below w.heap.size w wr/\v≠.slice none 0 0) (fun _ i _=>600-(intOf i).toNat);case atStart=>exact ⟨0,by omega,rfl,HS.out⟩
   case round =>
    obtain ⟨k,hk,rfl,hown,hbel,hnn⟩:=hrel;have HO:=Hi hown;have HB:=Hi hbel;have HN:=Hi hnn;clear hown hbel hnn;by_cases hlt:k<600
    · by_cases hp:k % 2=0
      · have HM:Hid (mark k=235):=by show mark k=235;simp [mark,hp]
        have HL:Hid (∀ w,Calls Tryz.prog 132 #[.int .i64 k] w fun e w'=>e = .returned (.int .i64 (-7701))/\w'=w):=fun w=>by have h:=zcl k (by omega) w;rw [if_pos hp] at h;exact h
        clear hp;go_wp2_with (first | (go_at_call 132;refine (HL.out _).mono ?_;rintro e w' ⟨rfl,rfl⟩)|(at_builtin;refine wpList_append_own _ rfl (.tmp 18) (.tmp 22) 22 rfl w.heap.size 5 i0 (.int .u8 0) 1 1 Tryz.underlying22 hi hz0 hz1 hz2 rfl (by decide) _ _ _ rfl (HO.out.alloc _) ⟨_,0,none⟩ 1 1 [.int .u8 235] rfl rfl ?d1 ?d2 ?d3 ?d4 ?d5 ?_));case d1=>exact cell_one_new _ _ _
        case d2=>intro u hu;simp at hu;subst hu;rfl
        case d3=>unfold maxLen;omega
        case d4=>omega
        case d5=>have:=HB.out.size;simp;omega
        intro v2 w2 hown2 hgrow2 hnil2;have hb2:=(HB.out.alloc HB.out.size _).grown hgrow2 (by have:=HB.out.size;simp;omega) (by intro q hq;exact (HO.out.lt _ hq).1);have HS2:Hid (w2.ownsRow w.heap.size 5 1 v2 (0+(k+1)) (cellsOf z 0++cellsOf mark (k+1))/\Below w.heap.size w w2/\v2≠.slice none 0 0):=⟨by rw [zbj,HM.out];first | exact hown2 | (rw [Nat.zero_add];exact hown2),hb2,hnil2⟩;clear hown2 hgrow2 hnil2 hb2;go_wp2;go_roundw;case rel=>exact ⟨k+1,by omega,by go_num,HS2.out⟩
        case measure=>simp [intOf];omega
      · have HM:Hid (mark k=234):=by show mark k=234;simp [mark,hp]
        have HL:Hid (∀ w,Calls Tryz.prog 132 #[.int .i64 k] w fun e w'=>e = .returned (.int .i64 (-7702))/\w'=w):=fun w=>by have h:=zcl k (by omega) w;rw [if_neg hp] at h;exact h
        clear hp;go_wp2_with (first | (go_at_call 132;refine (HL.out _).mono ?_;rintro e w' ⟨rfl,rfl⟩)|(at_builtin;refine wpList_append_own _ rfl (.tmp 18) (.tmp 22) 22 rfl w.heap.size 5 i0 (.int .u8 0) 1 1 Tryz.underlying22 hi hz0 hz1 hz2 rfl (by decide) _ _ _ rfl (HO.out.alloc _) ⟨_,0,none⟩ 1 1 [.int .u8 234] rfl rfl ?d1 ?d2 ?d3 ?d4 ?d5 ?_));case d1=>exact cell_one_new _ _ _
        case d2=>intro u hu;simp at hu;subst hu;rfl
        case d3=>unfold maxLen;omega
        case d4=>omega
        case d5=>have:=HB.out.size;simp;omega
        intro v2 w2 hown2 hgrow2 hnil2;have hb2:=(HB.out.alloc HB.out.size _).grown hgrow2 (by have:=HB.out.size;simp;omega) (by intro q hq;exact (HO.out.lt _ hq).1);have HS2:Hid (w2.ownsRow w.heap.size 5 1 v2 (0+(k+1)) (cellsOf z 0++cellsOf mark (k+1))/\Below w.heap.size w w2/\v2≠.slice none 0 0):=⟨by rw [zbj,HM.out];first | exact hown2 | (rw [Nat.zero_add];exact hown2),hb2,hnil2⟩;clear hown2 hgrow2 hnil2 hb2;go_wp2;go_roundw;case rel=>exact ⟨k+1,by omega,by go_num,HS2.out⟩
        case measure=>simp [intOf];omega
    · obtain rfl:k=600:=by omega
      obtain ⟨h0,h | ⟨g,cp,cur,rfl,hg,hh,h1,h2,h3,h4⟩⟩:=HO.out;· exact absurd h.1 HN.out
      obtain ⟨hR,hb,ha,hbase,hob,hoa⟩:=HR.out;have hRlt:R<w.heap.size:=lt_of_block hR;have gr:w.grownBy wr none:=⟨HB.out.os,HB.out.tape,HB.out.output,HB.out.size,fun k hk _=>HB.out.block k hk⟩;have OB:Hid (wr.ownsRow base 22 1 vb m xsb):=hob.kept gr (by cases vb.ownBlock <;> simp);have OA:Hid (wr.ownsRow base 3 1 va m xsa):=hoa.kept gr (by cases va.ownBlock <;> simp);have hR':wr.heap[R]?=some (.cells cs 48 (0,0)):=(HB.out.block R hRlt).trans hR;have cR0:wr.cell? ⟨R,0,none⟩=some vb:=by simp [World.cell?,hR',hb]
      have HG:Hid (w.heap.size<=g/\wr.heap[g]?=some (.cells cur 5 (0,0))/\0+600<=cp/\cur.size=cp*1/\cur.toList.take ((0+600)*1)=cellsOf z 0++cellsOf mark 600/\R<w.heap.size/\wr.heap[R]?=some (.cells cs 48 (0,0))):=⟨hg,hh,h1,h3,h4,hRlt,hR'⟩;clear hR hb ha hbase hob hoa hg hh h2 h3 h4 gr h0 hR';have hbs:base<=wr.heap.size:=by have:=HB.out.size;have:=HR.out.2.2.2.1;have:=HG.out.2.2.2.2.2.1;omega
      go_wp2_with (at_builtin;refine wpList_append_own _ rfl (.tmp 28) (.tmp 30) 33 rfl base 22 j0 (.slice none 0 0) 1 24 Tryz.underlying33 hj hj0 hj1 hj2 rfl (by decide) _ _ _ rfl (OB.out.alloc _) ⟨_,0,none⟩ 1 1 [.slice (some ⟨g,0,none⟩) (0+600) cp] rfl rfl ?e1 ?e2 ?e3 ?e4 ?e5 ?_);case e1=>exact cell_one_new _ _ _
      case e2=>intro u hu;simp at hu;subst hu;rfl
      case e3=>unfold maxLen;omega
      case e4=>omega
      case e5=>simp;omega
      intro v3 w3 hown3 hgrow3 hnil3;obtain ⟨gv,cv,rfl⟩:=zbQ hown3 hnil3;clear hnil3;have L:=zeZ HB.out HG.out.2.2.2.2.2.1 HR.out.2.2.2.1 HG.out.2.2.2.2.2.2 OB.out OA.out HG.out.1 HG.out.2.1 hown3 hgrow3;have f3:w3.frozen? ⟨R,0,none⟩=false:=by simp [World.frozen?,L.1]
      have g3:w3.cell? ⟨R,0,none⟩=some vb:=by simp [World.cell?,L.1,HR.out.2.1]
      have k3:w3.cell? ⟨R,1,none⟩=some va:=by simp [World.cell?,L.1,HR.out.2.2.1]
      have HL3:=L;have HX:=Hi hown3;clear hown3 hgrow3 L;obtain ⟨l1,l2,l3,l4,l5,l6⟩:=HL3;have HLL:Hid (w3.heap[R]?=some (.cells cs 48 (0,0))/\w3.ownsRow base 3 1 va m xsa/\w3.heap[g]?=some (.cells cur 5 (0,0))/\BelF base w w3/\(w3.setCell ⟨R,0,none⟩ (.slice (some ⟨gv,0,none⟩) (m+1) cv)).ownsRow base 3 1 va m xsa):=⟨l1,l2,l3,l4,l5⟩;clear l1 l2 l3 l4 l5;go_wp2_with (at_builtin;refine wpList_append_own _ rfl (.tmp 38) (.tmp 41) 26 rfl base 3 l0 (.int .i64 0) 1 8 Tryz.underlying26 hl hl0 hl1 hl2 rfl (by decide) _ _ _ rfl (HLL.out.2.2.2.2.alloc _) ⟨_,0,none⟩ 1 1 [.int .i64 0] rfl rfl ?p1 ?p2 ?p3 ?p4 ?p5 ?_);case p1=>exact zcG _ _ _ _ _
      case p2=>intro u hu;simp at hu;subst hu;rfl
      case p3=>unfold maxLen;omega
      case p4=>omega
      case p5=>simp;omega
      intro v5 w5 hown5 hgrow5 hnil5;obtain ⟨ga,ca,rfl⟩:=zbQ hown5 hnil5;clear hnil5;have M:=zeI HLL.out.1 HLL.out.2.1 HLL.out.2.2.1 HLL.out.2.2.2.1 HR.out.2.2.2.1 HX.out hown5 hgrow5;have f5:w5.frozen? ⟨R,1,none⟩=false:=by simp [World.frozen?,M.1]
      have g5:w5.cell? ⟨R,1,none⟩=some va:=by have h:=HR.out.2.2.1;simp [World.cell?,M.1,h]
      obtain ⟨_,m2,m3,m4,m5,m6⟩:=M;have HM:Hid (w.heap.size<=g/\(w5.setCell ⟨R,1,none⟩ (.slice (some ⟨ga,0,none⟩) (m+1) ca)).heap[g]?=some (.cells cur 5 (0,0))/\cur.size=cp/\0+600<=cp/\cur.toList.take (0+600)=cellsOf z 0++cellsOf mark 600 /\ (w5.setCell ⟨R,1,none⟩ (.slice (some ⟨ga,0,none⟩) (m+1) ca)).heap[R]?=some (.cells ((cs.setIfInBounds 0 (.slice (some ⟨gv,0,none⟩) (m+1) cv)).setIfInBounds 1 (.slice (some ⟨ga,0,none⟩) (m+1) ca)) 48 (0,0)) /\ (w5.setCell ⟨R,1,none⟩ (.slice (some ⟨ga,0,none⟩) (m+1) ca)).ownsRow base 22 1 (.slice (some ⟨gv,0,none⟩) (m+1) cv) (m+1) (xsb++[.slice (some ⟨g,0,none⟩) (0+600) cp])/\(w5.setCell ⟨R,1,none⟩ (.slice (some ⟨ga,0,none⟩) (m+1) ca)).ownsRow base 3 1 (.slice (some ⟨ga,0,none⟩) (m+1) ca) (m+1) (xsa++[.int .i64 0]) /\ BelF base w (w5.setCell ⟨R,1,none⟩ (.slice (some ⟨ga,0,none⟩) (m+1) ca))):=⟨HG.out.1,m5,(Nat.mul_one cp) ▸ HG.out.2.2.2.1,h1,(Nat.mul_one (0+600)) ▸ HG.out.2.2.2.2.1,m2,m3,m4,m6⟩;clear hown5 hgrow5 m2 m3 m4 m5 m6;go_wp2;go_ret;exact ⟨g,cp,cur,_,_,rfl,HM.out⟩
 · have HC:=Hi hcell
   clear hcell;go_enter Tryz.func87,Tryz.ntmps87;go_wp2_with (at_builtin;refine wpList_append_own _ rfl (.tmp 10) (.tmp 11) 22 rfl w.heap.size 5 i0 (.int .u8 0) 1 1 Tryz.underlying22 hi hz0 hz1 hz2 rfl (by decide) _ _ _ rfl OWN0.out ad len cap (cellsOf z len) rfl ?c0 ?c1 ?c2 ?c3 ?c4 ?c5 ?_);case c0=>simp [cellsOf]
   case c1 => intro j u hj;obtain ⟨h1,rfl⟩:=zbf z len j u hj;exact cell_later ((Below.refl _ _).alloc (Nat.le_refl _) _) (HC.out j h1)
   case c2=>exact fun u hu=>zaT z len u hu
   case c3=>unfold maxLen;omega
   case c4=>omega
   case c5=>simp
   intro v1 w1 hown1 hgrow1 hnil1;have hb1:Below w.heap.size w w1:=((Below.refl w.heap.size w).alloc (Nat.le_refl _) _).grown hgrow1 (by simp) (by intro k hk;simp [Value.ownBlock] at hk;omega);have HS:Hid (w1.ownsRow w.heap.size 5 1 v1 (len+0) (cellsOf z len++cellsOf mark 0)/\Below w.heap.size w w1/\v1≠.slice none 0 0):=⟨by simpa [cellsOf] using hown1,hb1,hnil1⟩;clear hown1 hgrow1 hnil1 hb1;go_wp2;go_loopw [7,8] (fun v i wr=>∃ k:Nat,k<=600/\i = .int .i64 k/\wr.ownsRow w.heap.size 5 1 v (len+k) (cellsOf z len++cellsOf mark k)/\Below w.heap.size w wr/\v≠.slice none 0 0) (fun _ i _=>600-(intOf i).toNat);case atStart=>exact ⟨0,by omega,rfl,HS.out⟩
   case round =>
    obtain ⟨k,hk,rfl,hown,hbel,hnn⟩:=hrel;have HO:=Hi hown;have HB:=Hi hbel;have HN:=Hi hnn;clear hown hbel hnn;by_cases hlt:k<600
    · by_cases hp:k % 2=0
      · have HM:Hid (mark k=235):=by show mark k=235;simp [mark,hp]
        have HL:Hid (∀ w,Calls Tryz.prog 132 #[.int .i64 k] w fun e w'=>e = .returned (.int .i64 (-7701))/\w'=w):=fun w=>by have h:=zcl k (by omega) w;rw [if_pos hp] at h;exact h
        clear hp;go_wp2_with (first | (go_at_call 132;refine (HL.out _).mono ?_;rintro e w' ⟨rfl,rfl⟩)|(at_builtin;refine wpList_append_own _ rfl (.tmp 18) (.tmp 22) 22 rfl w.heap.size 5 i0 (.int .u8 0) 1 1 Tryz.underlying22 hi hz0 hz1 hz2 rfl (by decide) _ _ _ rfl (HO.out.alloc _) ⟨_,0,none⟩ 1 1 [.int .u8 235] rfl rfl ?d1 ?d2 ?d3 ?d4 ?d5 ?_));case d1=>exact cell_one_new _ _ _
        case d2=>intro u hu;simp at hu;subst hu;rfl
        case d3=>unfold maxLen;omega
        case d4=>omega
        case d5=>have:=HB.out.size;simp;omega
        intro v2 w2 hown2 hgrow2 hnil2;have hb2:=(HB.out.alloc HB.out.size _).grown hgrow2 (by have:=HB.out.size;simp;omega) (by intro q hq;exact (HO.out.lt _ hq).1);have HS2:Hid (w2.ownsRow w.heap.size 5 1 v2 (len+(k+1)) (cellsOf z len++cellsOf mark (k+1))/\Below w.heap.size w w2/\v2≠.slice none 0 0):=⟨by rw [zbj,HM.out];first | exact hown2 | (rw [Nat.zero_add];exact hown2),hb2,hnil2⟩;clear hown2 hgrow2 hnil2 hb2;go_wp2;go_roundw;case rel=>exact ⟨k+1,by omega,by go_num,HS2.out⟩
        case measure=>simp [intOf];omega
      · have HM:Hid (mark k=234):=by show mark k=234;simp [mark,hp]
        have HL:Hid (∀ w,Calls Tryz.prog 132 #[.int .i64 k] w fun e w'=>e = .returned (.int .i64 (-7702))/\w'=w):=fun w=>by have h:=zcl k (by omega) w;rw [if_neg hp] at h;exact h
        clear hp;go_wp2_with (first | (go_at_call 132;refine (HL.out _).mono ?_;rintro e w' ⟨rfl,rfl⟩)|(at_builtin;refine wpList_append_own _ rfl (.tmp 18) (.tmp 22) 22 rfl w.heap.size 5 i0 (.int .u8 0) 1 1 Tryz.underlying22 hi hz0 hz1 hz2 rfl (by decide) _ _ _ rfl (HO.out.alloc _) ⟨_,0,none⟩ 1 1 [.int .u8 234] rfl rfl ?d1 ?d2 ?d3 ?d4 ?d5 ?_));case d1=>exact cell_one_new _ _ _
        case d2=>intro u hu;simp at hu;subst hu;rfl
        case d3=>unfold maxLen;omega
        case d4=>omega
        case d5=>have:=HB.out.size;simp;omega
        intro v2 w2 hown2 hgrow2 hnil2;have hb2:=(HB.out.alloc HB.out.size _).grown hgrow2 (by have:=HB.out.size;simp;omega) (by intro q hq;exact (HO.out.lt _ hq).1);have HS2:Hid (w2.ownsRow w.heap.size 5 1 v2 (len+(k+1)) (cellsOf z len++cellsOf mark (k+1))/\Below w.heap.size w w2/\v2≠.slice none 0 0):=⟨by rw [zbj,HM.out];first | exact hown2 | (rw [Nat.zero_add];exact hown2),hb2,hnil2⟩;clear hown2 hgrow2 hnil2 hb2;go_wp2;go_roundw;case rel=>exact ⟨k+1,by omega,by go_num,HS2.out⟩
        case measure=>simp [intOf];omega
    · obtain rfl:k=600:=by omega
      obtain ⟨hlen,h | ⟨g,cp,cur,rfl,hg,hh,h1,h2,h3,h4⟩⟩:=HO.out;· exact absurd h.1 HN.out
      obtain ⟨hR,hb,ha,hbase,hob,hoa⟩:=HR.out;have hRlt:R<w.heap.size:=lt_of_block hR;have gr:w.grownBy wr none:=⟨HB.out.os,HB.out.tape,HB.out.output,HB.out.size,fun k hk _=>HB.out.block k hk⟩;have OB:Hid (wr.ownsRow base 22 1 vb m xsb):=hob.kept gr (by cases vb.ownBlock <;> simp);have OA:Hid (wr.ownsRow base 3 1 va m xsa):=hoa.kept gr (by cases va.ownBlock <;> simp);have hR':wr.heap[R]?=some (.cells cs 48 (0,0)):=(HB.out.block R hRlt).trans hR;have cR0:wr.cell? ⟨R,0,none⟩=some vb:=by simp [World.cell?,hR',hb]
      have HG:Hid (w.heap.size<=g/\wr.heap[g]?=some (.cells cur 5 (0,0))/\len+600<=cp/\cur.size=cp*1/\cur.toList.take ((len+600)*1)=cellsOf z len++cellsOf mark 600/\R<w.heap.size/\wr.heap[R]?=some (.cells cs 48 (0,0))):=⟨hg,hh,h1,h3,h4,hRlt,hR'⟩;clear hR hb ha hbase hob hoa hg hh h2 h3 h4 gr hlen hR';have hbs:base<=wr.heap.size:=by have:=HB.out.size;have:=HR.out.2.2.2.1;have:=HG.out.2.2.2.2.2.1;omega
      go_wp2_with (at_builtin;refine wpList_append_own _ rfl (.tmp 28) (.tmp 30) 33 rfl base 22 j0 (.slice none 0 0) 1 24 Tryz.underlying33 hj hj0 hj1 hj2 rfl (by decide) _ _ _ rfl (OB.out.alloc _) ⟨_,0,none⟩ 1 1 [.slice (some ⟨g,0,none⟩) (len+600) cp] rfl rfl ?f1 ?f2 ?f3 ?f4 ?f5 ?_);case f1=>exact cell_one_new _ _ _
      case f2=>intro u hu;simp at hu;subst hu;rfl
      case f3=>unfold maxLen;omega
      case f4=>omega
      case f5=>simp;omega
      intro v3 w3 hown3 hgrow3 hnil3;obtain ⟨gv,cv,rfl⟩:=zbQ hown3 hnil3;clear hnil3;have L:=zeZ HB.out HG.out.2.2.2.2.2.1 HR.out.2.2.2.1 HG.out.2.2.2.2.2.2 OB.out OA.out HG.out.1 HG.out.2.1 hown3 hgrow3;have f3:w3.frozen? ⟨R,0,none⟩=false:=by simp [World.frozen?,L.1]
      have g3:w3.cell? ⟨R,0,none⟩=some vb:=by simp [World.cell?,L.1,HR.out.2.1]
      have k3:w3.cell? ⟨R,1,none⟩=some va:=by simp [World.cell?,L.1,HR.out.2.2.1]
      have HL3:=L;have HX:=Hi hown3;clear hown3 hgrow3 L;obtain ⟨l1,l2,l3,l4,l5,l6⟩:=HL3;have HLL:Hid (w3.heap[R]?=some (.cells cs 48 (0,0))/\w3.ownsRow base 3 1 va m xsa/\w3.heap[g]?=some (.cells cur 5 (0,0))/\BelF base w w3/\(w3.setCell ⟨R,0,none⟩ (.slice (some ⟨gv,0,none⟩) (m+1) cv)).ownsRow base 3 1 va m xsa):=⟨l1,l2,l3,l4,l5⟩;clear l1 l2 l3 l4 l5;go_wp2_with (at_builtin;refine wpList_append_own _ rfl (.tmp 38) (.tmp 41) 26 rfl base 3 l0 (.int .i64 0) 1 8 Tryz.underlying26 hl hl0 hl1 hl2 rfl (by decide) _ _ _ rfl (HLL.out.2.2.2.2.alloc _) ⟨_,0,none⟩ 1 1 [.int .i64 len] rfl rfl ?q1 ?q2 ?q3 ?q4 ?q5 ?_);case q1=>exact zcG _ _ _ _ _
      case q2=>intro u hu;simp at hu;subst hu;rfl
      case q3=>unfold maxLen;omega
      case q4=>omega
      case q5=>simp;omega
      intro v5 w5 hown5 hgrow5 hnil5;obtain ⟨ga,ca,rfl⟩:=zbQ hown5 hnil5;clear hnil5;have M:=zeI HLL.out.1 HLL.out.2.1 HLL.out.2.2.1 HLL.out.2.2.2.1 HR.out.2.2.2.1 HX.out hown5 hgrow5;have f5:w5.frozen? ⟨R,1,none⟩=false:=by simp [World.frozen?,M.1]
      have g5:w5.cell? ⟨R,1,none⟩=some va:=by have h:=HR.out.2.2.1;simp [World.cell?,M.1,h]
      obtain ⟨_,m2,m3,m4,m5,m6⟩:=M;have HM:Hid (w.heap.size<=g/\(w5.setCell ⟨R,1,none⟩ (.slice (some ⟨ga,0,none⟩) (m+1) ca)).heap[g]?=some (.cells cur 5 (0,0))/\cur.size=cp/\len+600<=cp/\cur.toList.take (len+600)=cellsOf z len++cellsOf mark 600 /\ (w5.setCell ⟨R,1,none⟩ (.slice (some ⟨ga,0,none⟩) (m+1) ca)).heap[R]?=some (.cells ((cs.setIfInBounds 0 (.slice (some ⟨gv,0,none⟩) (m+1) cv)).setIfInBounds 1 (.slice (some ⟨ga,0,none⟩) (m+1) ca)) 48 (0,0)) /\ (w5.setCell ⟨R,1,none⟩ (.slice (some ⟨ga,0,none⟩) (m+1) ca)).ownsRow base 22 1 (.slice (some ⟨gv,0,none⟩) (m+1) cv) (m+1) (xsb++[.slice (some ⟨g,0,none⟩) (len+600) cp])/\(w5.setCell ⟨R,1,none⟩ (.slice (some ⟨ga,0,none⟩) (m+1) ca)).ownsRow base 3 1 (.slice (some ⟨ga,0,none⟩) (m+1) ca) (m+1) (xsa++[.int .i64 len]) /\ BelF base w (w5.setCell ⟨R,1,none⟩ (.slice (some ⟨ga,0,none⟩) (m+1) ca))):=⟨HG.out.1,m5,(Nat.mul_one cp) ▸ HG.out.2.2.2.1,h1,(Nat.mul_one (len+600)) ▸ HG.out.2.2.2.2.1,m2,m3,m4,m6⟩;clear hown5 hgrow5 m2 m3 m4 m5 m6;go_wp2;go_ret;exact ⟨g,cp,cur,_,_,rfl,HM.out⟩
set_option maxHeartbeats 1000000
theorem hold17 (R:Nat) (w:World) (h:w.cell? ⟨R,2,none⟩=some (.slice none 0 0)) :
 Calls Tryz.prog 74 #[.pointer (some ⟨R,0,none⟩)] w fun e w'=>e = .returned (.bool true)/\w'=w:=by
 go_enter Tryz.func74,Tryz.ntmps74;go_wp2;go_loop [3] (fun i=>i = .int .i64 0) (fun _=>0);case atStart=>rfl
 case round => subst hrel;go_wp2;go_ret;exact ⟨rfl,rfl⟩
theorem hold18 (R:Nat) (w:World) (h:w.cell? ⟨R,4,none⟩=some (.slice none 0 0)) :
 Calls Tryz.prog 75 #[.pointer (some ⟨R,0,none⟩)] w fun e w'=>e = .returned (.bool true)/\w'=w:=by
 go_enter Tryz.func75,Tryz.ntmps75;go_wp2;go_loop [3] (fun i=>i = .int .i64 0) (fun _=>0);case atStart=>rfl
 case round => subst hrel;go_wp2;go_ret;exact ⟨rfl,rfl⟩
theorem hold19 (R:Nat) (w:World) (h:w.cell? ⟨R,6,none⟩=some (.slice none 0 0)) :
 Calls Tryz.prog 76 #[.pointer (some ⟨R,0,none⟩)] w fun e w'=>e = .returned (.bool true)/\w'=w:=by
 go_enter Tryz.func76,Tryz.ntmps76;go_wp2;go_loop [3] (fun i=>i = .int .i64 0) (fun _=>0);case atStart=>rfl
 case round => subst hrel;go_wp2;go_ret;exact ⟨rfl,rfl⟩
theorem hold20 (R:Nat) (w:World) (h:w.cell? ⟨R,8,none⟩=some (.slice none 0 0)) :
 Calls Tryz.prog 77 #[.pointer (some ⟨R,0,none⟩)] w fun e w'=>e = .returned (.bool true)/\w'=w:=by
 go_enter Tryz.func77,Tryz.ntmps77;go_wp2;go_loop [3] (fun i=>i = .int .i64 0) (fun _=>0);case atStart=>rfl
 case round => subst hrel;go_wp2;go_ret;exact ⟨rfl,rfl⟩
theorem hold21 (R:Nat) (w:World) (h:w.cell? ⟨R,10,none⟩=some (.slice none 0 0)) :
 Calls Tryz.prog 78 #[.pointer (some ⟨R,0,none⟩)] w fun e w'=>e = .returned (.bool true)/\w'=w:=by
 go_enter Tryz.func78,Tryz.ntmps78;go_wp2;go_loop [3] (fun i=>i = .int .i64 0) (fun _=>0);case atStart=>rfl
 case round => subst hrel;go_wp2;go_ret;exact ⟨rfl,rfl⟩
theorem hold22 (R:Nat) (w:World) (h:w.cell? ⟨R,12,none⟩=some (.slice none 0 0)) :
 Calls Tryz.prog 79 #[.pointer (some ⟨R,0,none⟩)] w fun e w'=>e = .returned (.bool true)/\w'=w:=by
 go_enter Tryz.func79,Tryz.ntmps79;go_wp2;go_loop [3] (fun i=>i = .int .i64 0) (fun _=>0);case atStart=>rfl
 case round => subst hrel;go_wp2;go_ret;exact ⟨rfl,rfl⟩
theorem hold23 (R:Nat) (w:World) (h:w.cell? ⟨R,14,none⟩=some (.slice none 0 0)) :
 Calls Tryz.prog 80 #[.pointer (some ⟨R,0,none⟩)] w fun e w'=>e = .returned (.bool true)/\w'=w:=by
 go_enter Tryz.func80,Tryz.ntmps80;go_wp2;go_loop [3] (fun i=>i = .int .i64 0) (fun _=>0);case atStart=>rfl
 case round => subst hrel;go_wp2;go_ret;exact ⟨rfl,rfl⟩
theorem hold24 (R:Nat) (w:World) (h:w.cell? ⟨R,16,none⟩=some (.slice none 0 0)) :
 Calls Tryz.prog 81 #[.pointer (some ⟨R,0,none⟩)] w fun e w'=>e = .returned (.bool true)/\w'=w:=by
 go_enter Tryz.func81,Tryz.ntmps81;go_wp2;go_loop [3] (fun i=>i = .int .i64 0) (fun _=>0);case atStart=>rfl
 case round => subst hrel;go_wp2;go_ret;exact ⟨rfl,rfl⟩
theorem hold25 (R:Nat) (w:World) (h:w.cell? ⟨R,18,none⟩=some (.slice none 0 0)) :
 Calls Tryz.prog 82 #[.pointer (some ⟨R,0,none⟩)] w fun e w'=>e = .returned (.bool true)/\w'=w:=by
 go_enter Tryz.func82,Tryz.ntmps82;go_wp2;go_loop [3] (fun i=>i = .int .i64 0) (fun _=>0);case atStart=>rfl
 case round => subst hrel;go_wp2;go_ret;exact ⟨rfl,rfl⟩
theorem hold26 (R:Nat) (w:World) (h:w.cell? ⟨R,20,none⟩=some (.slice none 0 0)) :
 Calls Tryz.prog 83 #[.pointer (some ⟨R,0,none⟩)] w fun e w'=>e = .returned (.bool true)/\w'=w:=by
 go_enter Tryz.func83,Tryz.ntmps83;go_wp2;go_loop [3] (fun i=>i = .int .i64 0) (fun _=>0);case atStart=>rfl
 case round => subst hrel;go_wp2;go_ret;exact ⟨rfl,rfl⟩
theorem hold27 (R:Nat) (w:World) (h:w.cell? ⟨R,22,none⟩=some (.slice none 0 0)) :
 Calls Tryz.prog 84 #[.pointer (some ⟨R,0,none⟩)] w fun e w'=>e = .returned (.bool true)/\w'=w:=by
 go_enter Tryz.func84,Tryz.ntmps84;go_wp2;go_loop [3] (fun i=>i = .int .i64 0) (fun _=>0);case atStart=>rfl
 case round => subst hrel;go_wp2;go_ret;exact ⟨rfl,rfl⟩
theorem hold28 (R:Nat) (w:World) (h:w.cell? ⟨R,24,none⟩=some (.slice none 0 0)) :
 Calls Tryz.prog 85 #[.pointer (some ⟨R,0,none⟩)] w fun e w'=>e = .returned (.bool true)/\w'=w:=by
 go_enter Tryz.func85,Tryz.ntmps85;go_wp2;go_loop [3] (fun i=>i = .int .i64 0) (fun _=>0);case atStart=>rfl
 case round => subst hrel;go_wp2;go_ret;exact ⟨rfl,rfl⟩
theorem hold29 (R:Nat) (w:World) (h:w.cell? ⟨R,26,none⟩=some (.slice none 0 0)) :
 Calls Tryz.prog 86 #[.pointer (some ⟨R,0,none⟩)] w fun e w'=>e = .returned (.bool true)/\w'=w:=by
 go_enter Tryz.func86,Tryz.ntmps86;go_wp2;go_loop [3] (fun i=>i = .int .i64 0) (fun _=>0);case atStart=>rfl
 case round => subst hrel;go_wp2;go_ret;exact ⟨rfl,rfl⟩
theorem hold_bytes (R m gb cb ga ca:Nat) (G N C:Nat->Nat) (w:World) (hm:m<=1000) (hN:∀ i,N i<=150000/\N i+600<=C i)
 (cR0:w.cell? ⟨R,0,none⟩=some (.slice (some ⟨gb,0,none⟩) m cb)) (cR1:w.cell? ⟨R,1,none⟩=some (.slice (some ⟨ga,0,none⟩) m ca))
 (hb:∀ i,i<m->w.cell? ⟨gb,i,none⟩=some (.slice (some ⟨G i,0,none⟩) (N i+600) (C i))) (ha:∀ i,i<m->w.cell? ⟨ga,i,none⟩=some (.int .i64 (N i))) (hk:∀ i,i<m->∀ k,k<600->w.cell? ⟨G i,N i+k,none⟩=some (.int .u8 (mark k))) :
 Calls Tryz.prog 73 #[.pointer (some ⟨R,0,none⟩)] w fun e w'=>e = .returned (.bool true)/\w'=w:=by
 have HB:=Hi hb;have HA:=Hi ha;have HK:=Hi hk;have HN:=Hi hN;clear hb ha hk hN;go_enter Tryz.func73,Tryz.ntmps73;go_wp2;go_loop [3,4,5,6] (fun i _ _ _=>∃ j:Nat,j<=m/\i = .int .i64 j) (fun i _ _ _=>m-(intOf i).toNat);case atStart=>exact ⟨0,by omega,rfl⟩
 case round =>
  obtain ⟨j,hj,rfl⟩:=hrel;by_cases hlt:j<m
  · have b1:=HB.out j hlt
    have a1:=HA.out j hlt;have k1:=HK.out j hlt;have n1:=HN.out j;obtain ⟨Gj,hG⟩:∃ x,G j=x:=⟨_,rfl⟩;obtain ⟨Nj,hNj⟩:∃ x,N j=x:=⟨_,rfl⟩;obtain ⟨Cj,hC⟩:∃ x,C j=x:=⟨_,rfl⟩;rw [hG,hNj,hC] at b1;rw [hNj] at a1;rw [hG,hNj] at k1;rw [hNj,hC] at n1;clear hG hNj hC;have K1:=Hi k1;clear k1;go_wp2;go_loop [5,6] (fun x _=>∃ k:Nat,k<=600/\x = .int .i64 ((Nj+k:Nat):Int)) (fun x _=>Nj+600-(intOf x).toNat);case atStart=>exact ⟨0,by omega,rfl⟩
    case round =>
     obtain ⟨k,hk,rfl⟩:=hrel;by_cases hkl:k<600
     · have ck:=K1.out k hkl
       by_cases hp:k % 2=0
       · have em:mark k=235:=by simp [mark,hp]
         rw [em] at ck;have HL:Hid (∀ w,Calls Tryz.prog 132 #[.int .i64 k] w fun e w'=>e = .returned (.int .i64 (-7701))/\w'=w):=fun w=>by have h:=zcl k (by omega) w;rw [if_pos hp] at h;exact h
         clear hp em;have es:(Nj:Int)+(k:Int)-(Nj:Int)=(k:Int):=by omega
         go_wp2_with (go_at_call 132;refine (HL.out _).mono ?_;rintro e w' ⟨rfl,rfl⟩);go_round;case rel=>exact ⟨k+1,by omega,by go_num⟩
         case measure=>simp [intOf];omega
       · have em:mark k=234:=by simp [mark,hp]
         rw [em] at ck;have HL:Hid (∀ w,Calls Tryz.prog 132 #[.int .i64 k] w fun e w'=>e = .returned (.int .i64 (-7702))/\w'=w):=fun w=>by have h:=zcl k (by omega) w;rw [if_neg hp] at h;exact h
         clear hp em;have es:(Nj:Int)+(k:Int)-(Nj:Int)=(k:Int):=by omega
         go_wp2_with (go_at_call 132;refine (HL.out _).mono ?_;rintro e w' ⟨rfl,rfl⟩);go_round;case rel=>exact ⟨k+1,by omega,by go_num⟩
         case measure=>simp [intOf];omega
     · obtain rfl:k=600:=by omega
       go_wp2;go_round;case rel=>exact ⟨j+1,by omega,by go_num⟩
       case measure=>simp [intOf];omega
  · obtain rfl:j=m:=by omega
    go_wp2;go_ret;exact ⟨rfl,rfl⟩
def RoomOk (w:World) (R m gb cb ga ca:Nat) (G N C:Nat->Nat):Prop := m<=1000/\(∀ i,N i<=150000/\N i+600<=C i)/\w.cell? ⟨R,0,none⟩=some (.slice (some ⟨gb,0,none⟩) m cb)/\w.cell? ⟨R,1,none⟩=some (.slice (some ⟨ga,0,none⟩) m ca) /\ (∀ i,i<m->w.cell? ⟨gb,i,none⟩=some (.slice (some ⟨G i,0,none⟩) (N i+600) (C i)))/\(∀ i,i<m->w.cell? ⟨ga,i,none⟩=some (.int .i64 (N i))) /\ (∀ i,i<m->∀ k,k<600->w.cell? ⟨G i,N i+k,none⟩=some (.int .u8 (mark k)))/\∀ i,2<=i->i<28->w.cell? ⟨R,i,none⟩=some (.slice none 0 0)
theorem zcv (R m gb cb ga ca:Nat) (G N C:Nat->Nat) (w:World) (h:RoomOk w R m gb cb ga ca G N C) :
 Calls Tryz.prog 18 #[.pointer (some ⟨R,0,none⟩)] w fun e w'=>e = .returned (.bool true)/\w'=w:=by
 have H0:Hid (∀ w',w'=w->Calls Tryz.prog 73 #[.pointer (some ⟨R,0,none⟩)] w' fun e w''=>e = .returned (.bool true)/\w''=w'):=fun w' hw=>by subst hw;obtain ⟨h1,h2,h3,h4,h5,h6,h7,_⟩:=h;exact hold_bytes R m gb cb ga ca G N C _ h1 h2 h3 h4 h5 h6 h7
 have HN:=Hi h.2.2.2.2.2.2.2;clear h;go_enter Tryz.func18,Tryz.ntmps18;go_wp2_with (first | (go_at_call 73;refine (H0.out _ rfl).mono ?_;rintro e w' ⟨rfl,rfl⟩)|(go_at_call 74;refine (hold17 R _ (HN.out 2 (by decide) (by decide))).mono ?_;rintro e w' ⟨rfl,rfl⟩)|(go_at_call 75;refine (hold18 R _ (HN.out 4 (by decide) (by decide))).mono ?_;rintro e w' ⟨rfl,rfl⟩)|(go_at_call 76;refine (hold19 R _ (HN.out 6 (by decide) (by decide))).mono ?_;rintro e w' ⟨rfl,rfl⟩)|(go_at_call 77;refine (hold20 R _ (HN.out 8 (by decide) (by decide))).mono ?_;rintro e w' ⟨rfl,rfl⟩)|(go_at_call 78;refine (hold21 R _ (HN.out 10 (by decide) (by decide))).mono ?_;rintro e w' ⟨rfl,rfl⟩)|(go_at_call 79;refine (hold22 R _ (HN.out 12 (by decide) (by decide))).mono ?_;rintro e w' ⟨rfl,rfl⟩)|(go_at_call 80;refine (hold23 R _ (HN.out 14 (by decide) (by decide))).mono ?_;rintro e w' ⟨rfl,rfl⟩)|(go_at_call 81;refine (hold24 R _ (HN.out 16 (by decide) (by decide))).mono ?_;rintro e w' ⟨rfl,rfl⟩)|(go_at_call 82;refine (hold25 R _ (HN.out 18 (by decide) (by decide))).mono ?_;rintro e w' ⟨rfl,rfl⟩)|(go_at_call 83;refine (hold26 R _ (HN.out 20 (by decide) (by decide))).mono ?_;rintro e w' ⟨rfl,rfl⟩)|(go_at_call 84;refine (hold27 R _ (HN.out 22 (by decide) (by decide))).mono ?_;rintro e w' ⟨rfl,rfl⟩)|(go_at_call 85;refine (hold28 R _ (HN.out 24 (by decide) (by decide))).mono ?_;rintro e w' ⟨rfl,rfl⟩)|(go_at_call 86;refine (hold29 R _ (HN.out 26 (by decide) (by decide))).mono ?_;rintro e w' ⟨rfl,rfl⟩));go_ret;exact ⟨rfl,rfl⟩
def strZ (z:Nat->Int) (n:Nat):ByteArray:=strOfNums ((List.range n).map z)
theorem zb3 (ao:Option Addr) (len cap:Nat) (z:Nat->Int) (w:World) (h:Came w ao len cap z):(convert 22 9 (.slice ao len cap)).run Tryz.prog w = .ok (.string (strZ z len)) w:=by
 obtain ⟨_,_,⟨rfl,rfl,rfl⟩|⟨ad,rfl,hc⟩⟩:=h
 · rw [run_convert_bytes_nil w 22 5 Tryz.underlying22 Tryz.underlying5 0 0 9 Tryz.underlying9]
   rfl
 ·
  rw [run_convert_bytes_string w 22 9 5 _ len cap Tryz.underlying22 Tryz.underlying5 Tryz.underlying9];have hl:(loadCells ad len).run Tryz.prog w = .ok (((List.range len).map z).map (Value.int .u8)).toArray w:=by have:=run_loadCells_list (P:=Tryz.prog) w ad (cellsOf z len) (fun j v hj=>by obtain ⟨h1,rfl⟩:=zbf z len j v hj;exact hc j h1);simpa [cellsOf,Function.comp_def] using this
  rw [run_bytesToString w ad len cap _ hl,foldl_push_bytes];simp [strZ,strOfNums,ByteArray.empty,ByteArray.emptyWithCapacity];rfl
set_option maxHeartbeats 400000
theorem za9 (b off j:Nat):(⟨b,off,none⟩:Addr).add j=⟨b,off+j,none⟩:=by unfold Addr.add;split <;> simp_all
def nil28:Array Value:=#[.slice none 0 0,.slice none 0 0,.slice none 0 0,.slice none 0 0,.slice none 0 0,.slice none 0 0,.slice none 0 0,.slice none 0 0,.slice none 0 0,.slice none 0 0,.slice none 0 0,.slice none 0 0,.slice none 0 0,.slice none 0 0,.slice none 0 0,.slice none 0 0,.slice none 0 0,.slice none 0 0,.slice none 0 0,.slice none 0 0,.slice none 0 0,.slice none 0 0,.slice none 0 0,.slice none 0 0,.slice none 0 0,.slice none 0 0,.slice none 0 0,.slice none 0 0]
theorem zdu:∀ i,i<28->nil28[i]?=some (.slice none 0 0):=by
 intro i hi;match i,hi with
 | 0,_=>rfl;| 1,_=>rfl;| 2,_=>rfl;| 3,_=>rfl;| 4,_=>rfl;| 5,_=>rfl;| 6,_=>rfl;| 7,_=>rfl;| 8,_=>rfl;| 9,_=>rfl;| 10,_=>rfl;| 11,_=>rfl;| 12,_=>rfl;| 13,_=>rfl;| 14,_=>rfl;| 15,_=>rfl;| 16,_=>rfl;| 17,_=>rfl;| 18,_=>rfl;| 19,_=>rfl;| 20,_=>rfl;| 21,_=>rfl;| 22,_=>rfl;| 23,_=>rfl;| 24,_=>rfl;| 25,_=>rfl;| 26,_=>rfl;| 27,_=>rfl;| n+28,h=>omega
theorem bytes_wrap (R:Nat) (ao:Option Addr) (len cap:Nat) (w:World) (Q:Ending->World->Prop)
 (h:Calls Tryz.prog 87 #[.pointer (some ⟨R,0,none⟩),.slice ao len cap,.int .i64 600] w fun e w'=>∃ g n c,e = .returned (.slice (some ⟨g,0,none⟩) n c)/\Q e w') :
 Calls Tryz.prog 19 #[.pointer (some ⟨R,0,none⟩),.slice ao len cap] w Q:=by
 have H:=Hi h;clear h;go_enter Tryz.func19,Tryz.ntmps19;go_wp2_with (go_at_call 87;refine H.out.mono ?_;rintro e w' ⟨g,n,c,rfl,hq⟩);assumption
end Go.Proofs.YtceigllifjgalaaGreatDoor.Rm
namespace Go.Proofs.YtceigllifjgalaaGreatDoor
open Go.RowKit
set_option linter.unusedSimpArgs false
set_option linter.unusedVariables false
set_option maxRecDepth 1000000
set_option maxHeartbeats 400000
def chkF (s:ByteArray):Nat->Nat->Nat×Nat | 0,_=>(0,0) | b+1,k=>if k<s.size then (if atB s k=0 then (k,14) else if point s k=0 then (k,13) else chkF s b (k+point s k)) else (0,0)
def chk (s:ByteArray):Nat×Nat:=if 65535<s.size then (65535,11) else chkF s s.size 0
theorem zcy (s:ByteArray) (b k:Nat) (h:¬ k<s.size):chkF s b k=(0,0):=by cases b with | zero=>rfl | succ b=>simp [chkF,h]
theorem zbP (s:ByteArray) (b k:Nat) (h:k<s.size) (hb:s.size<=k+b) (hz:atB s k=0):chkF s b k=(k,14):=by cases b with | zero=>omega | succ b=>simp [chkF,h,hz]
theorem zcz (s:ByteArray) (b k:Nat) (h:k<s.size) (hb:s.size<=k+b) (hz:¬ atB s k=0) (hp:point s k=0):chkF s b k=(k,13):=by cases b with | zero=>omega | succ b=>simp [chkF,h,hz,hp]
theorem zbS (s:ByteArray) (b k:Nat) (h:k<s.size) (hb:s.size<=k+b) (hz:¬ atB s k=0) (hp:¬ point s k=0):∃ b',chkF s b k=chkF s b' (k+point s k)/\s.size<=k+point s k+b':=by cases b with | zero=>omega | succ b=>exact ⟨b,by simp [chkF,h,hz,hp],by omega⟩
def begins (s p:ByteArray):Bool:=decide (p.size<=s.size) && ((s.extract 0 p.size).toList==p.toList)
theorem ze5 (s p:ByteArray) (w:World) :
 Calls Tryz.prog 297 #[.string s,.string p] w fun e w'=>e = .returned (.bool (begins s p))/\w'=w:=by
 by_cases h:p.size<=s.size
 · have e:begins s p=((s.extract 0 p.size).toList==p.toList):=by simp [begins,h]
   rw [e];clear e;have h':(p.size:Int)<=s.size:=by omega
   go_enter Tryz.func297,Tryz.ntmps297;go_wp2;go_ret;exact ⟨rfl,rfl⟩
 · have e:begins s p=false:=by simp [begins,h]
   rw [e];clear e;have h':¬ (p.size:Int)<=s.size:=by omega
   go_enter Tryz.func297,Tryz.ntmps297;go_wp2;go_ret;exact ⟨rfl,rfl⟩
theorem zcC (s:ByteArray) (i:Nat):atB s i=(s.data.toList[i]?.getD 0).toNat:=by
 by_cases h:i<s.size;·
  rw [atB_in s i h];have h':i<s.data.toList.length:=by simpa using h
  rw [List.getElem?_eq_getElem h'];rfl
 ·
  rw [zdy s i h];have h':s.data.toList.length<=i:=by simpa using h
  rw [List.getElem?_eq_none h'];rfl
theorem three (l:List UInt8):List.isPrefixOf [239,191,189] l=decide ((l[0]?.getD 0).toNat=239/\(l[1]?.getD 0).toNat=191/\(l[2]?.getD 0).toNat=189):=by
 have hq:∀ (a b:UInt8),(a==b)=decide (b.toNat=a.toNat):=by intro a b;rw [Bool.eq_iff_iff];simp only [beq_iff_eq,decide_eq_true_eq,UInt8.toNat_inj];exact eq_comm
 match l with
 | []=>rfl;| [a]=>simp [List.isPrefixOf];| [a,b]=>simp [List.isPrefixOf];| a::b::c::r => simp only [List.isPrefixOf,hq,Bool.and_true];rw [Bool.eq_iff_iff];simp
theorem begins_three (s:ByteArray) (k:Nat):begins (s.extract k s.size) ⟨#[239,191,189]⟩=decide (atB s k=239/\atB s (k+1)=191/\atB s (k+2)=189):=by unfold begins;rw [Lib.hasPrefix_raw,Lib.extract_data,List.take_of_length_le (by simp)];unfold Lib.hasPrefix;have e:(ByteArray.mk #[239,191,189]).data.toList=[239,191,189]:=rfl;rw [e,three];simp only [zcC,List.getElem?_drop,Nat.add_zero]
theorem width_pos (s:ByteArray) (k:Nat):1<=(Utf8.decode s k).2:=by
 have h:=zd4 s k;by_cases hp:point s k=0;· rw [(h.1 hp).2.1];exact Nat.le_refl _
 · rw [(h.2 hp).1];omega
theorem chk_world (s:ByteArray) (w:World) :
 Calls Tryz.prog 272 #[.string s] w fun e w'=>e = .returned (.tuple #[.int .i64 (chk s).1,.int .i64 (chk s).2])/\(w'=w\/∃ k,w'=w.iter s k):=by
 by_cases hl:65535<s.size
 · have e:chk s=(65535,11):=by simp [chk,hl]
   rw [e];clear e;have hl':(65535:Int)<s.size:=by omega
   go_enter Tryz.func272,Tryz.ntmps272;go_wp2;go_ret2;exact ⟨rfl,.inl rfl⟩
 · have HE:Hid (chk s=chkF s s.size 0):=by simp [chk,hl,Hid]
   have hl':¬ (65535:Int)<s.size:=by omega
   have hs:s.size<=65535:=by omega
   go_enter Tryz.func272,Tryz.ntmps272;go_wp2;go_loopw [4,5] (fun i c w'=>∃ k b:Nat,w'=w.iter s k/\chk s=chkF s b k/\s.size<=k+b) (fun _ _ w'=>s.size-w'.iterPos w.heap.size);case atStart=>exact ⟨0,s.size,rfl,HE.out,by omega⟩
   case round =>
    obtain ⟨k,b,rfl,hc,hb⟩:=hrel;have HC:=Hi hc;clear hc;by_cases hlt:k<s.size
    · obtain ⟨r,n,hd⟩:∃ r n,Utf8.decode s k=(r,n):=⟨_,_,rfl⟩
      have hnx:∀ ty,(Instr.next (.pointer (some ⟨w.heap.size,0,none⟩)) true ty).run Tryz.prog (w.iter s k) = .ok (.tuple #[.bool true,.int .i64 k,.int .i32 r]) (w.iter s (k+n)):=by intro ty;rw [run_next_any w s k ty hlt,hd]
      have hf:=zd4 s k;rw [hd] at hf;clear hd;have hg:=begins_three s k;have HF:=Hi hf;have HG:=Hi hg;clear hf hg;by_cases hz:atB s k=0
      · have hp:point s k=1:=by simp [point,pt,hz]
        have hr:r=0:=((HF.out.2 (by omega)).2.1).2 hz;subst hr;have HR:Hid (chk s=(k,14)):=by have h1:=HC.out;rw [zbP s b k hlt hb hz] at h1;exact h1
        clear hz hp;go_wp2;go_ret2;exact ⟨by rw [HR.out];rfl,.inr ⟨_,rfl⟩⟩
      · by_cases hp:point s k=0
        · obtain ⟨h1,h2,_,h4⟩:=HF.out.1 hp
          have hr:r=65533:=h1;subst hr;have hg:begins (s.extract k s.size) ⟨#[239,191,189]⟩=false:=by rw [HG.out];exact decide_eq_false h4
          have HR:Hid (chk s=(k,13)):=by have h1:=HC.out;rw [zcz s b k hlt hb hz hp] at h1;exact h1
          clear hz hp h1 h2 h4;go_wp2_with (go_at_call 297;refine (ze5 _ _ _).mono ?_;rintro e w' ⟨rfl,rfl⟩);go_ret2;exact ⟨by rw [HR.out];rfl,.inr ⟨_,rfl⟩⟩
        · obtain ⟨h1,h2,h3⟩:=HF.out.2 hp
          have hn:n=point s k:=h1;have hr0:¬ r=0:=fun h=>hz (h2.1 h);obtain ⟨b',e1,e2⟩:=zbS s b k hlt hb hz hp;have HS:Hid (chk s=chkF s b' (k+n)/\s.size<=k+n+b'/\1<=n):=by rw [hn];exact ⟨HC.out.trans e1,e2,by omega⟩
          by_cases hr:r=65533
          · have hg:begins (s.extract k s.size) ⟨#[239,191,189]⟩=true:=by rw [HG.out];exact decide_eq_true (h3 hr)
            clear h1 h2 h3 hn hr0 e1 e2 hz hp;subst hr;go_wp2_with (go_at_call 297;refine (ze5 _ _ _).mono ?_;rintro e w' ⟨rfl,rfl⟩);go_roundw;case rel=>exact ⟨k+n,b',rfl,HS.out.1,HS.out.2.1⟩
            case measure=>have:=HS.out.2.2;simp;omega
          · have q0:((r:Int)==0)=false:=by simp;omega
            have q1:((r:Int)==65533)=false:=by simp;omega
            clear h1 h2 h3 hn hr0 e1 e2 hz hp hr;go_wp2_with (go_at_call 297;refine (ze5 _ _ _).mono ?_;rintro e w' ⟨rfl,rfl⟩);go_roundw;case rel=>exact ⟨k+n,b',rfl,HS.out.1,HS.out.2.1⟩
            case measure=>have:=HS.out.2.2;simp;omega
    · have hnx:∀ ty,(Instr.next (.pointer (some ⟨w.heap.size,0,none⟩)) true ty).run Tryz.prog (w.iter s k)=_:=fun ty=>run_next_end w s k ty hlt
      have HR:Hid (chk s=(0,0)):=by have h1:=HC.out;rw [zcy s b k hlt] at h1;exact h1
      go_wp2;go_ret2;exact ⟨by rw [HR.out];rfl,.inr ⟨_,rfl⟩⟩
theorem zaV (w:World) (s:ByteArray) (k:Nat):Below w.heap.size w (w.iter s k):=(Below.refl _ _).alloc (Nat.le_refl _) _
theorem frozen_iter (w:World) (s:ByteArray) (k:Nat) (a:Addr):(w.iter s k).frozen? a=w.frozen? a:=by
 by_cases h:a.block=w.heap.size;·
  have e1:(w.iter s k).heap[a.block]?=some (.stringIter s k):=by rw [h];exact World.iter_heap w s k
  have e2:w.heap[a.block]?=none:=by rw [h];simp
  simp [World.frozen?,e1,e2]
 ·
  by_cases h':a.block<w.heap.size;· exact (zaV w s k).frozen h'
  ·
   have e1:(w.iter s k).heap[a.block]?=none:=by show (w.heap.push _)[a.block]?=none;rw [Array.getElem?_eq_none];simp;omega
   have e2:w.heap[a.block]?=none:=by rw [Array.getElem?_eq_none];omega
   simp [World.frozen?,e1,e2]
theorem grown_iter (w:World) (s:ByteArray) (k:Nat):Grown w (w.iter s k) := ⟨World.keptBut_alloc _ _ _,frozen_iter w s k,(zaV w s k).size⟩
theorem zcI (s:ByteArray) (w:World) :
 Calls Tryz.prog 272 #[.string s] w fun e w'=>e = .returned (.tuple #[.int .i64 (chk s).1,.int .i64 (chk s).2])/\Below w.heap.size w w'/\Grown w w':=by
 refine (chk_world s w).mono ?_;rintro e w' ⟨rfl,rfl | ⟨k,rfl⟩⟩;· exact ⟨rfl,Below.refl _ _,Grown.refl _⟩
 · exact ⟨rfl,zaV _ _ _,grown_iter _ _ _⟩
end Go.Proofs.YtceigllifjgalaaGreatDoor
