import Derived.Test.YtceigllifjgalaaGreatDoorRdb
import Derived.Test.YtceigllifjgalaaGreatDoorPRb
namespace Go.Proofs.YtceigllifjgalaaGreatDoor
open Go Go.RowKit
set_option linter.unusedSimpArgs false
set_option linter.unusedVariables false
section
variable {w w':World} {cp g n rb:Nat} {z:Nat->Int}
structure Rs where
 at0:Nat
 p:Int
 q:Int
def Rs.gaveUp (r:Rs) (p q:Int):Rs:=⟨r.at0,p,q⟩
def Rs.on (r:Rs) (k:Nat):Rs:=⟨r.at0+k,r.p,0⟩
def two (z:Nat->Int) (k:Nat):Nat:=(z k*256+z (k+1)).toNat
def rByte (z:Nat->Int) (n:Nat) (r:Rs):Int×Rs:=if r.q≠0 then (0,r) else if n<r.at0+1 then (0,r.gaveUp n 10) else (z r.at0,r.on 1)
def rNum (z:Nat->Int) (n:Nat) (r:Rs):Int×Rs:=if r.q≠0 then (0,r) else if n<r.at0+2 then (0,r.gaveUp n 10) else (z r.at0*256+z (r.at0+1),r.on 2)
def txtAt (z:Nat->Int) (k L:Nat):ByteArray:=strZ (fun i=>z (k+2+i)) L
def rText (z:Nat->Int) (n:Nat) (r:Rs):ByteArray×Rs := if r.q≠0 then (⟨#[]⟩,r) else if n<r.at0+2 then (⟨#[]⟩,r.gaveUp n 10) else if n<r.at0+2+two z r.at0 then (⟨#[]⟩,r.gaveUp n 10) else if (chk (txtAt z r.at0 (two z r.at0))).2≠0 then (⟨#[]⟩,r.gaveUp ((r.at0+2+(chk (txtAt z r.at0 (two z r.at0))).1:Nat):Int) (chk (txtAt z r.at0 (two z r.at0))).2) else (txtAt z r.at0 (two z r.at0),r.on (2+two z r.at0))
def rData (z:Nat->Int) (n:Nat) (r:Rs):(Nat×(Nat->Int))×Rs := if r.q≠0 then ((0,fun _=>0),r) else if n<r.at0+2 then ((0,fun _=>0),r.gaveUp n 10) else if n<r.at0+2+two z r.at0 then ((0,fun _=>0),r.gaveUp n 10) else ((two z r.at0,fun i=>z (r.at0+2+i)),r.on (2+two z r.at0))
def rRest (z:Nat->Int) (n:Nat) (r:Rs):(Nat×(Nat->Int))×Rs:=if r.q≠0 then ((0,fun _=>0),r) else ((n-r.at0,fun i=>z (r.at0+i)),⟨n,r.p,0⟩)
def rEnd (n:Nat) (r:Rs):Rs:=if r.q≠0 then r else if r.at0<n then r.gaveUp r.at0 15 else r
structure Rdr (w:World) (rb g n cp:Nat) (z:Nat->Int) (r:Rs):Prop where
 rd:RdAt w rb (.slice (some ⟨g,0,none⟩) n cp) r.at0 r.p r.q
 rb:Rb w rb g n cp z
 le:r.at0<=n
theorem Rdr.below {r:Rs} (h:Rdr w rb g n cp z r) (hb:Below w.heap.size w w'):Rdr w' rb g n cp z r:=⟨h.rd.kept hb,h.rb.below hb,h.le⟩
theorem two_eq (h:Rb w rb g n cp z) (k:Nat):z k*256+z (k+1)=(two z k:Nat):=by have h1:=h.own.1 k;have h2:=h.own.1 (k+1);unfold two;omega
theorem alive {r:Rs} (h:¬ r.q≠0):r.q=0:=by simpa using h
theorem zbh {r:Rs} (h:Rdr w rb g n cp z r) :
 Calls Tryz.prog 219 #[.pointer (some ⟨rb,0,none⟩)] w fun e w'=>e = .returned (.int .u8 (rByte z n r).1)/\Rdr w' rb g n cp z (rByte z n r).2/\w.grownBy w' (some rb):=by
 have hf:=h.rb.few;unfold rByte;by_cases hq:r.q≠0
 · rw [if_pos hq]
   exact (zbY rb _ _ _ _ w h.rd hq).mono fun e w' ⟨h1,h2,h3⟩=>⟨h1,⟨h2,h.rb.grown h3,h.le⟩,h3⟩
 rw [if_neg hq];have hR:=h.rd;rw [alive hq] at hR;by_cases hk:n<r.at0+1
 · rw [if_pos hk]
   exact (byte_short rb g n cp r.at0 _ w hR h.le h.rb.le (by omega) hk).mono fun e w' ⟨h1,h2,h3⟩=>⟨h1,⟨h2,h.rb.grown h3,h.le⟩,h3⟩
 · rw [if_neg hk]
   exact (byte_ok rb g n cp r.at0 _ z w hR h.rb (by omega)).mono fun e w' ⟨h1,h2,h3⟩=>⟨h1,⟨h2,h.rb.grown h3,by show r.at0+1<=n;omega⟩,h3⟩
theorem zaU {r:Rs} (h:Rdr w rb g n cp z r) :
 Calls Tryz.prog 266 #[.pointer (some ⟨rb,0,none⟩)] w fun e w'=>e = .returned (.int .i64 (rNum z n r).1)/\Rdr w' rb g n cp z (rNum z n r).2/\w.grownBy w' (some rb):=by
 have hf:=h.rb.few;unfold rNum;by_cases hq:r.q≠0
 · rw [if_pos hq]
   exact (number_dead rb _ _ _ _ w h.rd hq).mono fun e w' ⟨h1,h2,h3⟩=>⟨h1,⟨h2,h.rb.grown h3,h.le⟩,h3⟩
 rw [if_neg hq];have hR:=h.rd;rw [alive hq] at hR;by_cases hk:n<r.at0+2
 · rw [if_pos hk]
   exact (number_short rb g n cp r.at0 _ w hR h.le h.rb.le (by omega) hk).mono fun e w' ⟨h1,h2,h3⟩=>⟨h1,⟨h2,h.rb.grown h3,h.le⟩,h3⟩
 · rw [if_neg hk]
   exact (number_ok rb g n cp r.at0 _ z w hR h.rb (by omega)).mono fun e w' ⟨h1,h2,h3⟩=>⟨h1,⟨h2,h.rb.grown h3,by show r.at0+2<=n;omega⟩,h3⟩
theorem zaR {r:Rs} (h:Rdr w rb g n cp z r) :
 Calls Tryz.prog 289 #[.pointer (some ⟨rb,0,none⟩)] w fun e w'=>e = .returned (.string (rText z n r).1)/\Rdr w' rb g n cp z (rText z n r).2/\w.grownBy w' (some rb):=by
 have hf:=h.rb.few;unfold rText;by_cases hq:r.q≠0
 · rw [if_pos hq]
   exact (text_dead rb _ _ _ _ w h.rd hq).mono fun e w' ⟨h1,h2,h3⟩=>⟨h1,⟨h2,h.rb.grown h3,h.le⟩,h3⟩
 rw [if_neg hq];have hR:=h.rd;rw [alive hq] at hR;by_cases hk:n<r.at0+2
 · rw [if_pos hk]
   exact (text_short rb g n cp r.at0 _ w hR h.le h.rb.le (by omega) hk).mono fun e w' ⟨h1,h2,h3⟩=>⟨h1,⟨h2,h.rb.grown h3,h.le⟩,h3⟩
 rw [if_neg hk];have hL:=two_eq h.rb r.at0;by_cases hn:n<r.at0+2+two z r.at0
 · rw [if_pos hn]
   exact (text_cut rb g n cp r.at0 _ _ z w hR h.rb hL (by omega) hn).mono fun e w' ⟨h1,h2,h3⟩=>⟨h1,⟨h2,h.rb.grown h3,h.le⟩,h3⟩
 rw [if_neg hn];by_cases hc:(chk (txtAt z r.at0 (two z r.at0))).2≠0
 · rw [if_pos hc]
   exact (text_odd rb g n cp r.at0 _ _ z w hR h.rb hL (by omega) _ _ rfl hc).mono fun e w' ⟨h1,h2,h3⟩=>⟨h1,⟨h2,h.rb.grown h3,h.le⟩,h3⟩
 · rw [if_neg hc]
   exact (text_ok rb g n cp r.at0 _ _ z w hR h.rb.own h.rb.le (by omega) h.rb.ne hL (by omega) (Decidable.of_not_not hc)).mono fun e w' ⟨h1,h2,h3⟩=>⟨h1,⟨by rw [show r.at0+2+two z r.at0=r.at0+(2+two z r.at0) by omega] at h2;exact h2,h.rb.grown h3,by show r.at0+(2+two z r.at0)<=n;omega⟩,h3⟩
def NewBy (w w':World) (s:Pkt.Sl) (x:Nat×(Nat->Int)):Prop:=s.n=x.1/\Pkt.By w' s x.2/\(∀ b off,s.a=some ⟨b,off,none⟩->w.heap.size<=b)/\Ow w.heap.size 5 1 w' s
theorem zc5 (w w':World):NewBy w w' ⟨none,0,0⟩ (0,fun _=>0):=⟨rfl,⟨Nat.le_refl _,fun _=>by simp,.inl rfl⟩,fun b off e=>(by cases e),ow_nil _ _ _ _⟩
theorem zd9 {g' L c':Nat} (h:Came w' (some ⟨g',0,none⟩) L c' z/\w.heap.size<=g'/\Ow w.heap.size 5 1 w' ⟨some ⟨g',0,none⟩,L,c'⟩):NewBy w w' ⟨some ⟨g',0,none⟩,L,c'⟩ (L,z):=by
 refine ⟨rfl,⟨h.1.1,h.1.2.1,?_⟩,fun b off e=>(by cases e;exact h.2.1),h.2.2⟩;rcases h.1.2.2 with ⟨e,_⟩|⟨ad,e,hc⟩;· cases e
 · cases e
   exact .inr ⟨g',0,rfl,fun i hi=>by have:=hc i hi;rw [za9] at this;exact this⟩
theorem zc7 {r:Rs} (h:Rdr w rb g n cp z r) :
 Calls Tryz.prog 291 #[.pointer (some ⟨rb,0,none⟩)] w fun e w'=>(∃ s:Pkt.Sl,e = .returned (.slice s.a s.n s.c)/\NewBy w w' s (rData z n r).1)/\Rdr w' rb g n cp z (rData z n r).2/\w.grownBy w' (some rb):=by
 have hf:=h.rb.few;unfold rData;by_cases hq:r.q≠0
 · rw [if_pos hq]
   exact (data_dead rb _ _ _ _ w h.rd hq).mono fun e w' ⟨h1,h2,h3⟩=>⟨⟨⟨none,0,0⟩,h1,zc5 _ _⟩,⟨h2,h.rb.grown h3,h.le⟩,h3⟩
 rw [if_neg hq];have hR:=h.rd;rw [alive hq] at hR;by_cases hk:n<r.at0+2
 · rw [if_pos hk]
   exact (data_short rb g n cp r.at0 _ w hR h.le h.rb.le (by omega) hk).mono fun e w' ⟨h1,h2,h3⟩=>⟨⟨⟨none,0,0⟩,h1,zc5 _ _⟩,⟨h2,h.rb.grown h3,h.le⟩,h3⟩
 rw [if_neg hk];have hL:=two_eq h.rb r.at0;by_cases hn:n<r.at0+2+two z r.at0
 · rw [if_pos hn]
   exact (data_cut rb g n cp r.at0 _ _ z w hR h.rb hL (by omega) hn).mono fun e w' ⟨h1,h2,h3⟩=>⟨⟨⟨none,0,0⟩,h1,zc5 _ _⟩,⟨h2,h.rb.grown h3,h.le⟩,h3⟩
 · rw [if_neg hn]
   exact (data_ok rb g n cp r.at0 _ _ z w hR h.rb hL (by omega)).mono fun e w' ⟨g',c',h1,hc,h2,h3⟩=>⟨⟨⟨some ⟨g',0,none⟩,_,c'⟩,h1,zd9 hc⟩,⟨by rw [show r.at0+2+two z r.at0=r.at0+(2+two z r.at0) by omega] at h2;exact h2,h.rb.grown h3,by show r.at0+(2+two z r.at0)<=n;omega⟩,h3⟩
theorem zdv {r:Rs} (h:Rdr w rb g n cp z r) :
 Calls Tryz.prog 292 #[.pointer (some ⟨rb,0,none⟩)] w fun e w'=>(∃ s:Pkt.Sl,e = .returned (.slice s.a s.n s.c)/\NewBy w w' s (rRest z n r).1)/\Rdr w' rb g n cp z (rRest z n r).2/\w.grownBy w' (some rb):=by
 have hf:=h.rb.few;unfold rRest;by_cases hq:r.q≠0
 · rw [if_pos hq]
   exact (rest_dead rb _ _ _ _ w h.rd hq).mono fun e w' ⟨h1,h2,h3⟩=>⟨⟨⟨none,0,0⟩,h1,zc5 _ _⟩,⟨h2,h.rb.grown h3,h.le⟩,h3⟩
 rw [if_neg hq];have hR:=h.rd;rw [alive hq] at hR;exact (rest_ok rb g n cp r.at0 _ z w hR h.rb h.le).mono fun e w' ⟨g',c',h1,hc,h2,h3⟩=>⟨⟨⟨some ⟨g',0,none⟩,_,c'⟩,h1,zd9 hc⟩,⟨h2,h.rb.grown h3,Nat.le_refl n⟩,h3⟩
theorem zb1 {r:Rs} (h:Rdr w rb g n cp z r) :
 Calls Tryz.prog 267 #[.pointer (some ⟨rb,0,none⟩)] w fun e w'=>e = .returned (.tuple #[])/\Rdr w' rb g n cp z (rEnd n r)/\w.grownBy w' (some rb):=by
 have hf:=h.rb.few;unfold rEnd;by_cases hq:r.q≠0
 · rw [if_pos hq]
   exact (zc6 rb _ _ _ _ w h.rd hq).mono fun e w' ⟨h1,h2,h3⟩=>⟨h1,⟨h2,h.rb.grown h3,h.le⟩,h3⟩
 rw [if_neg hq];have hR:=h.rd;rw [alive hq] at hR;by_cases hk:r.at0<n
 · rw [if_pos hk]
   exact (zdD rb g n cp r.at0 _ w hR hk h.rb.le (by omega)).mono fun e w' ⟨h1,h2,h3⟩=>⟨h1,⟨h2,h.rb.grown h3,h.le⟩,h3⟩
 · rw [if_neg hk]
   have e:r.at0=n:=by have:=h.le;omega
   rw [e] at hR;exact (end_ok rb g n cp _ w hR h.rb.le (by omega)).mono fun e' w' ⟨h1,h2,h3⟩=>⟨h1,⟨by rw [e,alive hq];exact h2,h.rb.grown h3,h.le⟩,h3⟩
end
end Go.Proofs.YtceigllifjgalaaGreatDoor
