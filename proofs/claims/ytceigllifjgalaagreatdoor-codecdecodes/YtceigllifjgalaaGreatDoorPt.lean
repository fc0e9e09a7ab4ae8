import Derived.Laws.RangeAny
namespace Go.Proofs.YtceigllifjgalaaGreatDoor
set_option maxRecDepth 100000
def atB (s:ByteArray) (i:Nat):Nat:=(s.get! i).toNat
theorem atB_lt (s:ByteArray) (i:Nat):atB s i<256:=(s.get! i).toNat_lt
theorem atB_in (s:ByteArray) (i:Nat) (h:i<s.size):atB s i=(s[i]'h).toNat:=by unfold atB;rw [<-get_at s i h];rfl
theorem zdy (s:ByteArray) (i:Nat) (h:¬ i<s.size):atB s i=0:=by
 unfold atB;have:s.get! i=0:=by
  simp only [ByteArray.get!];rw [getElem!_neg];· rfl
  · simpa using h
 rw [this];rfl
theorem zbe (s:ByteArray) (i:Nat) (h:atB s i≠0):i<s.size:=by apply Classical.byContradiction;intro hn;exact h (zdy s i hn)
def pt (c d e f:Nat):Nat := if c<=0x7F then 1 else if (0xC2<=c/\c<=0xDF)/\(0x80<=d/\d<=0xBF) then 2 else if (c=0xE0/\(0xA0<=d/\d<=0xBF)/\(0x80<=e/\e<=0xBF))\/((0xE1<=c/\c<=0xEC)/\(0x80<=d/\d<=0xBF)/\(0x80<=e/\e<=0xBF))\/(c=0xED/\(0x80<=d/\d<=0x9F)/\(0x80<=e/\e<=0xBF))\/((0xEE<=c/\c<=0xEF)/\(0x80<=d/\d<=0xBF)/\(0x80<=e/\e<=0xBF)) then 3 else if (c=0xF0/\(0x90<=d/\d<=0xBF)/\(0x80<=e/\e<=0xBF)/\(0x80<=f/\f<=0xBF))\/((0xF1<=c/\c<=0xF3)/\(0x80<=d/\d<=0xBF)/\(0x80<=e/\e<=0xBF)/\(0x80<=f/\f<=0xBF))\/(c=0xF4/\(0x80<=d/\d<=0x8F)/\(0x80<=e/\e<=0xBF)/\(0x80<=f/\f<=0xBF)) then 4 else 0
def dec (c d e f:Nat):Nat×Nat := if c<0x80 then (c,1) else if c / 32=6/\d / 64=2 then if 0x80<=(c % 32)*64+d % 64 then ((c % 32)*64+d % 64,2) else (0xFFFD,1) else if c / 16=14/\d / 64=2/\e / 64=2 then if 0x800<=(c % 16)*4096+(d % 64)*64+e % 64/\((c % 16)*4096+(d % 64)*64+e % 64<0xD800\/0xE000<=(c % 16)*4096+(d % 64)*64+e % 64) then ((c % 16)*4096+(d % 64)*64+e % 64,3) else (0xFFFD,1) else if c / 8=30/\d / 64=2/\e / 64=2/\f / 64=2 then if 0x10000<=(c % 8)*262144+(d % 64)*4096+(e % 64)*64+f % 64/\(c % 8)*262144+(d % 64)*4096+(e % 64)*64+f % 64<=0x10FFFF then ((c % 8)*262144+(d % 64)*4096+(e % 64)*64+f % 64,4) else (0xFFFD,1) else (0xFFFD,1)
theorem cont_iff (s:ByteArray) (i k:Nat):(decide (i+k<s.size) && (s.get! (i+k)).toNat / 64==2)=decide (atB s (i+k) / 64=2):=by
 rw [Bool.eq_iff_iff];simp only [Bool.and_eq_true,decide_eq_true_eq,beq_iff_eq];constructor;· exact fun h=>h.2
 · intro h
   exact ⟨zbe s _ (by omega),h⟩
theorem zbJ (s:ByteArray) (i:Nat):Utf8.decode s i=dec (atB s i) (atB s (i+1)) (atB s (i+2)) (atB s (i+3)):=by
 simp only [Utf8.decode,cont_iff];simp only [show ∀ j,(s.get! j).toNat=atB s j from fun _=>rfl,Nat.add_zero];have h0:=atB_lt s i;have h1:=atB_lt s (i+1);have h2:=atB_lt s (i+2);have h3:=atB_lt s (i+3);generalize atB s i=c at *;generalize atB s (i+1)=d at *;generalize atB s (i+2)=e at *;generalize atB s (i+3)=f at *;unfold dec;by_cases k1:c<0x80;· simp [k1]
 rw [if_neg k1,if_neg k1];by_cases k2:c / 32=6/\d / 64=2;· rw [if_pos (by simpa using k2),if_pos k2];rfl
 rw [if_neg (by simpa using k2),if_neg k2];by_cases k3:c / 16=14/\d / 64=2/\e / 64=2;·
  rw [if_pos (by simpa [and_assoc] using k3),if_pos k3];obtain ⟨v,hv⟩:∃ v,c % 16*4096+d % 64*64+e % 64=v:=⟨_,rfl⟩;have hv':v<65536:=by omega
  rw [hv];by_cases kk:0x800<=v/\(v<0xD800\/0xE000<=v)
  · rw [if_pos kk,if_pos]
    simp only [Utf8.valid,Bool.and_eq_true,Bool.or_eq_true,decide_eq_true_eq];omega
  · rw [if_neg kk,if_neg]
    · rfl
    · simp only [Utf8.valid,Bool.and_eq_true,Bool.or_eq_true,decide_eq_true_eq];omega
 rw [if_neg (by simpa [and_assoc] using k3),if_neg k3];by_cases k4:c / 8=30/\d / 64=2/\e / 64=2/\f / 64=2;·
  rw [if_pos (by simpa [and_assoc] using k4),if_pos k4];obtain ⟨v,hv⟩:∃ v,c % 8*262144+d % 64*4096+e % 64*64+f % 64=v:=⟨_,rfl⟩;rw [hv];by_cases kk:0x10000<=v/\v<=0x10FFFF
  · rw [if_pos kk,if_pos]
    simp only [Utf8.valid,Bool.and_eq_true,Bool.or_eq_true,decide_eq_true_eq];omega
  · rw [if_neg kk,if_neg]
    · rfl
    · simp only [Utf8.valid,Bool.and_eq_true,Bool.or_eq_true,decide_eq_true_eq];omega
 rw [if_neg (by simpa [and_assoc] using k4),if_neg k4];rfl
def Fits (n c d e:Nat) (x:Nat×Nat):Prop := (n=0->x.1=0xFFFD/\x.2=1/\c≠0/\¬ (c=0xEF/\d=0xBF/\e=0xBD)) /\ (n≠0->x.2=n/\(x.1=0↔c=0)/\(x.1=0xFFFD->c=0xEF/\d=0xBF/\e=0xBD))
theorem zc8 {c d e:Nat} (h:c≠0) (h':¬ (c=0xEF/\d=0xBF/\e=0xBD)):Fits 0 c d e (0xFFFD,1) := ⟨fun _=>⟨rfl,rfl,h,h'⟩,fun x=>absurd rfl x⟩
theorem zbW {n c d e v:Nat} (hn:n≠0) (h:v=0↔c=0) (h':v=0xFFFD->c=0xEF/\d=0xBF/\e=0xBD):Fits n c d e (v,n) := ⟨fun x=>absurd x hn,fun _=>⟨rfl,h,h'⟩⟩
theorem dec_pt (c d e f:Nat) (hc:c<256) (hd:d<256) (he:e<256) (hf:f<256):Fits (pt c d e f) c d e (dec c d e f):=by
 unfold dec pt;by_cases k1:c<0x80
 · rw [if_pos k1,if_pos (by omega)]
   exact zbW (by decide) Iff.rfl (by omega)
 rw [if_neg k1,if_neg (by omega)];by_cases k2:c / 32=6/\d / 64=2;·
  rw [if_pos k2];by_cases kk:0x80<=c % 32*64+d % 64
  · rw [if_pos kk,if_pos (by omega)]
    exact zbW (by decide) (by omega) (by omega)
  · rw [if_neg kk,if_neg (by omega),if_neg (by omega),if_neg (by omega)]
    exact zc8 (by omega) (by omega)
 rw [if_neg k2,if_neg (show ¬ ((0xC2<=c/\c<=0xDF)/\(0x80<=d/\d<=0xBF)) by omega)];by_cases k3:c / 16=14/\d / 64=2/\e / 64=2;·
  rw [if_pos k3];obtain ⟨x,y,z⟩:=k3;obtain ⟨c,rfl⟩:∃ q,c=0xE0+q:=⟨c-0xE0,by omega⟩;obtain ⟨d,rfl⟩:∃ q,d=0x80+q:=⟨d-0x80,by omega⟩;obtain ⟨e,rfl⟩:∃ q,e=0x80+q:=⟨e-0x80,by omega⟩;have q1:(0xE0+c) % 16=c:=by omega
  have q2:(0x80+d) % 64=d:=by omega
  have q3:(0x80+e) % 64=e:=by omega
  rw [q1,q2,q3];have c1:c<16:=by omega
  have d1:d<64:=by omega
  have e1:e<64:=by omega
  clear x y z q1 q2 q3 k1 k2 hc hd he;by_cases kk:0x800<=c*4096+d*64+e/\(c*4096+d*64+e<0xD800\/0xE000<=c*4096+d*64+e);·
   rw [if_pos kk,if_pos];· exact zbW (by decide) (by omega) (by omega)
   ·
    by_cases a:c=0;· left;omega
    by_cases b:c=13;· right;right;left;omega
    by_cases b':c<13;· right;left;omega
    · right;right;right;omega
  ·
   rw [if_neg kk,if_neg,if_neg (by omega)];· exact zc8 (by omega) (by omega)
   · by_cases a:c=0
     · omega
     · omega
 rw [if_neg k3,if_neg (by omega)];by_cases k4:c / 8=30/\d / 64=2/\e / 64=2/\f / 64=2;·
  rw [if_pos k4];obtain ⟨x,y,z,u⟩:=k4;obtain ⟨c,rfl⟩:∃ q,c=0xF0+q:=⟨c-0xF0,by omega⟩;obtain ⟨d,rfl⟩:∃ q,d=0x80+q:=⟨d-0x80,by omega⟩;obtain ⟨e,rfl⟩:∃ q,e=0x80+q:=⟨e-0x80,by omega⟩;obtain ⟨f,rfl⟩:∃ q,f=0x80+q:=⟨f-0x80,by omega⟩;have q1:(0xF0+c) % 8=c:=by omega
  have q2:(0x80+d) % 64=d:=by omega
  have q3:(0x80+e) % 64=e:=by omega
  have q4:(0x80+f) % 64=f:=by omega
  rw [q1,q2,q3,q4];have c1:c<8:=by omega
  have d1:d<64:=by omega
  have e1:e<64:=by omega
  have f1:f<64:=by omega
  clear x y z u q1 q2 q3 q4 k1 k2 k3 hc hd he hf;by_cases kk:0x10000<=c*262144+d*4096+e*64+f/\c*262144+d*4096+e*64+f<=0x10FFFF;·
   rw [if_pos kk,if_pos];· exact zbW (by decide) (by omega) (by omega)
   ·
    by_cases a:c=0;· left;omega
    by_cases b':c<4;· right;left;omega
    · right;right;omega
  ·
   rw [if_neg kk,if_neg];· exact zc8 (by omega) (by omega)
   · by_cases a:c=0
     · omega
     · omega
 rw [if_neg k4,if_neg (by omega)];exact zc8 (by omega) (by omega)
def point (s:ByteArray) (i:Nat):Nat:=pt (atB s i) (atB s (i+1)) (atB s (i+2)) (atB s (i+3))
theorem zd4 (s:ByteArray) (i:Nat):Fits (point s i) (atB s i) (atB s (i+1)) (atB s (i+2)) (Utf8.decode s i):=by rw [zbJ];exact dec_pt _ _ _ _ (atB_lt _ _) (atB_lt _ _) (atB_lt _ _) (atB_lt _ _)
theorem point_le (s:ByteArray) (i:Nat) (h:i<s.size):i+point s i<=s.size:=by
 have a1:=zbe s (i+1);have a2:=zbe s (i+2);have a3:=zbe s (i+3);unfold point pt;split;· omega
 split;· rename_i k;have:=a1 (by omega);omega
 split;· rename_i k;have:=a2 (by omega);omega
 split;· rename_i k;have:=a3 (by omega);omega
 · omega
end Go.Proofs.YtceigllifjgalaaGreatDoor
