import Derived.Test.YtceigllifjgalaaGreatDoorDso
namespace Go.Proofs.YtceigllifjgalaaGreatDoor.Dr
open Go Go.RowKit
open Pkt (Pk Cn Sl In By Is Ss As pkCells)
set_option linter.unusedSimpArgs false
set_option linter.unusedVariables false
open Go.Proofs.YtceigllifjgalaaGreatDoor renaming rByte → rB, rNum → rN, rEnd → rE
def CnIs (p:Pk) (c c':Cn):Prop:=c = { c' with cs:=c.cs }/\∀ i,i<p.codes.n->c.cs i=c'.cs i
theorem CnIs.refl (p:Pk) (c:Cn):CnIs p c c:=⟨rfl,fun _ _=>rfl⟩
theorem CnIs.inn {w:World} {p q:Pk} {c c':Cn} (h:CnIs p c c') (hn:q.codes.n=p.codes.n) (hi:In w q c'):In w q c:=by
 obtain ⟨h1,h2⟩:=h;rw [h1];refine ⟨hi.wP,hi.pass,hi.mP,hi.asks,⟨hi.codes.1,?_⟩,hi.filters⟩;rcases hi.codes.2 with e | ⟨b,off,e1,e2⟩;· exact .inl e
 · exact .inr ⟨b,off,e1,fun i hl=>by have:=e2 i hl;rw [<-h2 i (hn ▸ hl)] at this;exact this⟩
def Rel (h:Nat):Except (Int×Int) (Rs×Pk×Cn)->Except (Int×Int) (Rs×Pk×Cn)->Prop | .error x,.error x'=>x.1=x'.1+h/\x.2=x'.2 | .ok y,.ok y'=>y.2.1=y'.2.1/\CnIs y.2.1 y.2.2 y'.2.2 | _,_=>False
section
variable {h n:Nat} {z:Nat->Int} {r r':Rs} {p p':Pk} {c c':Cn}
theorem zbp (S:Sh h r r') (hp:p=p') (hc:CnIs p c c'):Rel h (errOut (r',p,c)) (errOut (r,p',c')):=by
 unfold errOut;dsimp only;rw [S.q];by_cases hq:r.q≠0;· rw [if_pos hq,if_pos hq];exact ⟨S.p hq,rfl⟩
 · rw [if_neg hq,if_neg hq];exact ⟨hp,hc⟩
theorem zbw (h:Nat):Sh h ⟨0,0,0⟩ ⟨h,0,0⟩:=⟨by show h=0+h;omega,rfl,fun q=>absurd rfl q⟩
theorem zbY (hq:(rB z n r).2.q≠0):(rB z n r).1=0:=by
 revert hq;unfold Go.Proofs.YtceigllifjgalaaGreatDoor.rByte;split;· intro _;rfl
 split;· intro _;rfl
 · intro q;exact absurd rfl q
theorem zc6 (hq:r.q≠0):rE n r=r:=if_pos hq
theorem zcw (hm:more n r=false):rE n r=r:=by
 unfold Go.Proofs.YtceigllifjgalaaGreatDoor.rEnd;by_cases hq:r.q≠0;· rw [if_pos hq]
 ·
  rw [if_neg hq,if_neg];intro hl;have:more n r=true:=by simp [more,hl];omega
  rw [hm] at this;cases this
theorem bad_zero:badMarks 0=false:=by decide +kernel
theorem sh_will (b:Bool) (wt:ByteArray) (wl:Nat×(Nat->Int)) (S:Sh h r r'):(cWill z (n+h) b r' wt wl).1=(cWill (sh h z) n b r wt wl).1/\Sh h (cWill (sh h z) n b r wt wl).2 (cWill z (n+h) b r' wt wl).2:=by
 unfold cWill;cases b;· exact ⟨rfl,S⟩
 · have T:=zby (z:=z) (n:=n) S;have D:=zeQ (z:=z) (n:=n) T.2;refine ⟨?_,D.2⟩;show ((rText z (n+h) r').1,(rData z (n+h) (rText z (n+h) r').2).1)=_;rw [T.1,D.1];rfl
theorem sh_user (b:Bool) (u:ByteArray) (S:Sh h r r'):(cUser z (n+h) b r' u).1=(cUser (sh h z) n b r u).1/\Sh h (cUser (sh h z) n b r u).2 (cUser z (n+h) b r' u).2:=by
 unfold cUser;cases b;· exact ⟨rfl,S⟩
 · exact zby S
theorem sh_pass (b:Bool) (l:Nat×(Nat->Int)) (S:Sh h r r'):(cPass z (n+h) b r' l).1=(cPass (sh h z) n b r l).1/\Sh h (cPass (sh h z) n b r l).2 (cPass z (n+h) b r' l).2:=by
 unfold cPass;cases b;· exact ⟨rfl,S⟩
 · exact zeQ S
def thenEnd (n:Nat):Except (Int×Int) (Rs×Pk×Cn)->Except (Int×Int) (Rs×Pk×Cn) | .error x=>.error x | .ok y=>endP n y
theorem rel_end {e e':Rs} (l m k:Int) (i:ByteArray) (x:ByteArray×(Nat×(Nat->Int))) (u:ByteArray) (s:Nat×(Nat->Int)) (S:Sh h e e'):Rel h (cEnd p c l m k i x u s (rE (n+h) e')) (thenEnd n (cEnd p c l m k i x u s e)):=by
 have E:=sh_end (n:=n) S;by_cases hq:e.q≠0;· rw [zc6 hq] at E;unfold cEnd;rw [E.q,if_pos hq,if_pos hq];exact ⟨E.p hq,rfl⟩
 ·
  have e1:cEnd p c l m k i x u s e = .ok (e,{ p with level:=l,hasUser:=mk m 128,hasPass:=mk m 64,wR:=mk m 32,wQ:=bits .and .u8 m 24 / 8,hasWill:=mk m 4,clean:=mk m 2,keep:=k,client:=i,wT:=x.1,wP:=⟨none,x.2.1,0⟩,user:=u,pass:=⟨none,s.1,0⟩ },{ c with wz:=x.2.2,pz:=s.2 }):=by unfold cEnd;rw [if_neg hq]
  rw [e1];exact zbp E rfl (CnIs.refl _ _)
theorem rel_mid (l m:Int) (S:Sh h r r'):Rel h (cMid z (n+h) p c l m r') (thenEnd n (cMid0 (sh h z) n p c l m r)):=by have N:=sh_num (z:=z) (n:=n) S;have T:=zby (z:=z) (n:=n) N.2;have W:=sh_will (z:=z) (n:=n) (mk m 4) p.wT (p.wP.n,c.wz) T.2;have U:=sh_user (z:=z) (n:=n) (mk m 128) p.user W.2;have P:=sh_pass (z:=z) (n:=n) (mk m 64) (p.pass.n,c.pz) U.2;unfold cMid cMid0;rw [N.1,T.1,W.1,U.1,P.1];exact rel_end l m _ _ _ _ _ P.2
theorem rel_connect (h n:Nat) (z:Nat->Int) (p:Pk) (c:Cn):Rel h (connectP z (n+h) ⟨h,0,0⟩ p c) (thenEnd n (connP0 (sh h z) n ⟨0,0,0⟩ p c)):=by
 have T:=zby (z:=z) (n:=n) (zbw h);have A:=zcJ (z:=z) (n:=n) T.2;have B:=zcJ (z:=z) (n:=n) A.2;unfold connectP connP0;rw [T.1,T.2.q,A.1,B.1];by_cases h1:(rText (sh h z) n ⟨0,0,0⟩).2.q=0/\isM (rText (sh h z) n ⟨0,0,0⟩).1=false
 · rw [if_pos h1,if_pos h1]
   exact ⟨by show (h:Int)=0+h;omega,rfl⟩
 rw [if_neg h1,if_neg h1];by_cases h2:badMarks (rB (sh h z) n (rB (sh h z) n (rText (sh h z) n ⟨0,0,0⟩).2).2).1=true;·
  have hq:(rB (sh h z) n (rB (sh h z) n (rText (sh h z) n ⟨0,0,0⟩).2).2).2.q=0:=by apply Classical.byContradiction;intro hq;rw [zbY hq,bad_zero] at h2;cases h2
  rw [if_pos h2,if_pos ⟨hq,h2⟩];refine ⟨?_,rfl⟩;show ((rB z (n+h) (rText z (n+h) ⟨h,0,0⟩).2).2.at0:Int)=((rB (sh h z) n (rText (sh h z) n ⟨0,0,0⟩).2).2.at0:Int)+h;have:=A.2.at0;omega
 · rw [if_neg h2,if_neg (fun q=>h2 q.2)]
   exact rel_mid _ _ B.2
theorem rel_connack (h n:Nat) (z:Nat->Int) (p:Pk) (c:Cn):Rel h (connackP z (n+h) ⟨h,0,0⟩ p c) (ackP (sh h z) n ⟨0,0,0⟩ p c):=by
 have A:=zcJ (z:=z) (n:=n) (zbw h);have B:=zcJ (z:=z) (n:=n) A.2;have E:=sh_end (n:=n) B.2;unfold connackP ackP;rw [A.1,B.1];by_cases h1:1<(rB (sh h z) n ⟨0,0,0⟩).1;·
  have hq:(rB (sh h z) n ⟨0,0,0⟩).2.q=0:=by apply Classical.byContradiction;intro hq;rw [zbY hq] at h1;omega
  rw [if_pos h1,if_pos ⟨hq,h1⟩];exact ⟨by show (h:Int)=0+h;omega,rfl⟩
 · rw [if_neg h1];have e:¬ ((rB (sh h z) n ⟨0,0,0⟩).2.q=0/\1<(rB (sh h z) n ⟨0,0,0⟩).1):=fun q=>h1 q.2;rw [if_neg e];exact zbp E rfl (CnIs.refl _ _)
theorem zdD:rE n (rRest z n r).2=(rRest z n r).2:=by
 unfold rRest;by_cases hq:r.q≠0;· rw [if_pos hq];exact zc6 hq
 · rw [if_neg hq];exact zcw (by simp [more])
theorem sh_pubnum (id fl:Int) (S:Sh h r r'):(pubNum z (n+h) id fl r').1=(pubNum (sh h z) n id fl r).1/\Sh h (pubNum (sh h z) n id fl r).2 (pubNum z (n+h) id fl r').2:=by
 unfold pubNum;split;· exact sh_num S
 · exact ⟨rfl,S⟩
theorem rel_publish (h n:Nat) (z:Nat->Int) (p:Pk) (c:Cn) (fl:Int):Rel h (errOut (publishP z (n+h) ⟨h,0,0⟩ p c fl)) (endP n (publishP (sh h z) n ⟨0,0,0⟩ p c fl)):=by have T:=zby (z:=z) (n:=n) (zbw h);have N:=sh_pubnum (z:=z) (n:=n) p.id fl T.2;have R:=zeT (z:=z) (n:=n) N.2;unfold endP publishP;dsimp only;rw [zdD,T.1,N.1,R.1];exact zbp R.2 rfl (CnIs.refl _ _)
theorem zeF (z:Nat->Int) (n:Nat):∀ (b:Nat) (r:Rs) (fs:List ByteArray),Enough n b r->more n (unsF z n b r fs).1=false
 | b,r,fs,e=>by
  by_cases hm:more n r=true;·
   have hlt:=(zau hm).2;have h1:=e hm;cases b with
   | zero=>omega;| succ b => rw [unsF,if_pos hm];exact zeF z n b _ _ (fun q=>by have:=zbg hm q;omega)
  · have hm0:more n r=false:=by simpa using hm
    rw [zbV _ _ _ hm0];exact hm0
 termination_by b=>b
theorem zeG (z:Nat->Int) (n:Nat):∀ (b:Nat) (r:Rs) (fs:List (ByteArray×Int)),Enough n b r->more n (subF z n b r fs).1=false
 | b,r,fs,e=>by
  by_cases hm:more n r=true;·
   have hlt:=(zau hm).2;have h1:=e hm;cases b with
   | zero=>omega;| succ b => rw [subF,if_pos hm];exact zeG z n b _ _ (fun q=>by have:=sub_on hm q;omega)
  · have hm0:more n r=false:=by simpa using hm
    rw [zc1 _ _ _ hm0];exact hm0
 termination_by b=>b
theorem zbH (n b:Nat) (r:Rs) (h:n<=b):Enough n b r:=fun _=>by omega
theorem rel_sub (h n:Nat) (z:Nat->Int) (p:Pk) (c:Cn):Rel h (errOut (subP z (n+h) ⟨h,0,0⟩ p c)) (endP n (subL (sh h z) n (rN (sh h z) n ⟨0,0,0⟩).2 { p with id:=(rN (sh h z) n ⟨0,0,0⟩).1 } c)):=by have N:=sh_num (z:=z) (n:=n) (zbw h);have F:=sh_sub h n z n (n+h) _ _ [] N.2 (zbH n n _ (Nat.le_refl _)) (zbH n (n+h) _ (by omega));have O:=zeG (sh h z) n n (rN (sh h z) n ⟨0,0,0⟩).2 [] (zbH n n _ (Nat.le_refl _));unfold endP subP subL;dsimp only;rw [zcw O,N.1,F.2];exact zbp F.1 rfl (CnIs.refl _ _)
theorem rel_uns (h n:Nat) (z:Nat->Int) (p:Pk) (c:Cn):Rel h (errOut (unsP z (n+h) ⟨h,0,0⟩ p c)) (endP n (unsL (sh h z) n (rN (sh h z) n ⟨0,0,0⟩).2 { p with id:=(rN (sh h z) n ⟨0,0,0⟩).1 } c)):=by have N:=sh_num (z:=z) (n:=n) (zbw h);have F:=sh_uns h n z n (n+h) _ _ [] N.2 (zbH n n _ (Nat.le_refl _)) (zbH n (n+h) _ (by omega));have O:=zeF (sh h z) n n (rN (sh h z) n ⟨0,0,0⟩).2 [] (zbH n n _ (Nat.le_refl _));unfold endP unsP unsL;dsimp only;rw [zcw O,N.1,F.2];exact zbp F.1 rfl (CnIs.refl _ _)
theorem num_le (hq:(rN z n ⟨0,0,0⟩).2.q=0):(rN z n ⟨0,0,0⟩).2.at0<=n:=by
 revert hq;unfold Go.Proofs.YtceigllifjgalaaGreatDoor.rNum;rw [if_neg (by simp)];split;· intro q;cases q
 · rename_i hl;intro _;show 0+2<=n;have:¬ n<0+2:=hl;omega
theorem rel_suback (h n:Nat) (z:Nat->Int) (p:Pk) (c:Cn):Rel h (errOut (subackP z (n+h) ⟨h,0,0⟩ p c)) (endP n (ackL (sh h z) n (rN (sh h z) n ⟨0,0,0⟩).2 { p with id:=(rN (sh h z) n ⟨0,0,0⟩).1 } c)):=by
 have N:=sh_num (z:=z) (n:=n) (zbw h);have R:=zeT (z:=z) (n:=n) N.2;have L:=num_le (z:=sh h z) (n:=n);unfold endP subackP ackL;dsimp only;rw [N.1,R.1];generalize (rN (sh h z) n ⟨0,0,0⟩).1=id at *;generalize (rN z (n+h) ⟨h,0,0⟩).2=r' at *;generalize (rN (sh h z) n ⟨0,0,0⟩).2=r at *;by_cases hq:r.q=0;·
  have A:=zdG (sh h z) n n r [] hq (L hq) (by omega);have O:more n (ackF (sh h z) n n r []).1=false:=by simp [more,A.1]
  have e2:(ackF (sh h z) n n r []).2=(List.range (n-r.at0)).map (fun i=>(sh h z) (r.at0+i)):=by simpa using A.2.2.2
  have e3:(rRest (sh h z) n r).1=(n-r.at0,fun i=>(sh h z) (r.at0+i)):=by unfold rRest;rw [if_neg (by simpa using hq)]
  rw [zcw O,e3];refine zbp ?_ ?_ ⟨rfl,?_⟩
  · refine ⟨?_,?_,fun q=>absurd A.2.1 q⟩
    · rw [A.1];unfold rRest;rw [N.2.q,if_neg (by simpa using hq)]
    · rw [A.2.1];unfold rRest;rw [N.2.q,if_neg (by simpa using hq)]
  · rw [e2];simp
  · intro i hi;have hi':i<n-r.at0:=hi;show (sh h z) (r.at0+i)=(ackF (sh h z) n n r []).2.getD i 0;rw [e2];simp [hi']
 ·
  have hm:more n r=false:=by simp [more,hq]
  have e3:(rRest (sh h z) n r)=((0,fun _=>0),r):=by unfold rRest;rw [if_pos hq]
  rw [e3] at R;rw [zdt _ _ _ hm,e3,zc6 hq];refine zbp R.2 rfl ⟨rfl,fun i hi=>absurd hi (Nat.not_lt_zero _)⟩
theorem rel_id (h n:Nat) (z:Nat->Int) (p:Pk) (c:Cn):Rel h (errOut (idP z (n+h) ⟨h,0,0⟩ p c)) (endP n ((rN (sh h z) n ⟨0,0,0⟩).2,{ p with id:=(rN (sh h z) n ⟨0,0,0⟩).1 },c)):=by have N:=sh_num (z:=z) (n:=n) (zbw h);have E:=sh_end (n:=n) N.2;unfold endP idP;dsimp only;rw [N.1];exact zbp E rfl (CnIs.refl _ _)
theorem rel_into (h n b:Nat) (z:Nat->Int):Rel h (intoP z (n+h) ⟨h,0,0⟩ ((b:Int) / 16) noCn ((b:Int) % 16)) (readP (sh h z) n b):=by
 unfold intoP readP;generalize (b:Int) / 16=k;by_cases h1:k=1;· subst h1;rw [if_pos rfl,if_pos rfl];exact rel_connect h n z _ _
 rw [if_neg h1,if_neg h1];by_cases h2:k=2;· subst h2;rw [if_pos rfl,if_pos rfl];exact rel_connack h n z _ _
 rw [if_neg h2,if_neg h2];by_cases h3:k=3;· subst h3;rw [if_pos rfl,if_pos rfl];exact rel_publish h n z _ _ _
 rw [if_neg h3,if_neg h3];unfold listP;by_cases h8:k=8;· subst h8;rw [if_pos rfl,if_neg (by decide),if_pos rfl];exact rel_sub h n z _ _
 rw [if_neg h8,if_neg h8];by_cases h9:k=9;· subst h9;rw [if_pos rfl,if_neg (by decide),if_pos rfl];exact rel_suback h n z _ _
 rw [if_neg h9,if_neg h9];by_cases h10:k=10;· subst h10;rw [if_pos rfl,if_neg (by decide),if_pos rfl];exact rel_uns h n z _ _
 rw [if_neg h10,if_neg h10];by_cases h12:k=12\/k=13\/k=14
 · rw [if_pos h12,if_pos h12]
   exact zbp (sh_end (zbw h)) rfl (CnIs.refl _ _)
 · rw [if_neg h12,if_neg h12]
   exact rel_id h n z _ _
end
def Rg (n:Nat) (r:Rs):Prop:=r.at0<=n/\0<=r.p/\r.p<=n+70000
section
variable {z:Nat->Int} {n:Nat} {r:Rs}
theorem Rg.byte (h:Rg n r):Rg n (rB z n r).2:=by
 obtain ⟨h1,h2,h3⟩:=h;unfold Go.Proofs.YtceigllifjgalaaGreatDoor.rByte;split;· exact ⟨h1,h2,h3⟩
 split;· exact ⟨h1,by show (0:Int)<=n;omega,by show (n:Int)<=n+70000;omega⟩
 · exact ⟨by show r.at0+1<=n;omega,h2,h3⟩
theorem Rg.num (h:Rg n r):Rg n (rN z n r).2:=by
 obtain ⟨h1,h2,h3⟩:=h;unfold Go.Proofs.YtceigllifjgalaaGreatDoor.rNum;split;· exact ⟨h1,h2,h3⟩
 split;· exact ⟨h1,by show (0:Int)<=n;omega,by show (n:Int)<=n+70000;omega⟩
 · exact ⟨by show r.at0+2<=n;omega,h2,h3⟩
theorem Rg.text (h:Rg n r):Rg n (rText z n r).2:=by
 obtain ⟨h1,h2,h3⟩:=h;unfold rText;split;· exact ⟨h1,h2,h3⟩
 split;· exact ⟨h1,by show (0:Int)<=n;omega,by show (n:Int)<=n+70000;omega⟩
 split;· exact ⟨h1,by show (0:Int)<=n;omega,by show (n:Int)<=n+70000;omega⟩
 split
 · have:=chk_le (txtAt z r.at0 (two z r.at0))
   exact ⟨h1,by show (0:Int)<=((r.at0+2+(chk (txtAt z r.at0 (two z r.at0))).1:Nat):Int);omega,by show ((r.at0+2+(chk (txtAt z r.at0 (two z r.at0))).1:Nat):Int)<=n+70000;omega⟩
 · exact ⟨by show r.at0+(2+two z r.at0)<=n;omega,h2,h3⟩
theorem Rg.data (h:Rg n r):Rg n (rData z n r).2:=by
 obtain ⟨h1,h2,h3⟩:=h;unfold rData;split;· exact ⟨h1,h2,h3⟩
 split;· exact ⟨h1,by show (0:Int)<=n;omega,by show (n:Int)<=n+70000;omega⟩
 split;· exact ⟨h1,by show (0:Int)<=n;omega,by show (n:Int)<=n+70000;omega⟩
 · exact ⟨by show r.at0+(2+two z r.at0)<=n;omega,h2,h3⟩
theorem Rg.rest (h:Rg n r):Rg n (rRest z n r).2:=by
 obtain ⟨h1,h2,h3⟩:=h;unfold rRest;split;· exact ⟨h1,h2,h3⟩
 · exact ⟨Nat.le_refl _,h2,h3⟩
theorem Rg.end (h:Rg n r):Rg n (rE n r):=by
 obtain ⟨h1,h2,h3⟩:=h;unfold Go.Proofs.YtceigllifjgalaaGreatDoor.rEnd;split;· exact ⟨h1,h2,h3⟩
 split;· exact ⟨h1,by show (0:Int)<=r.at0;omega,by show (r.at0:Int)<=n+70000;omega⟩
 · exact ⟨h1,h2,h3⟩
theorem Rg.uns (b:Nat):∀ {r:Rs} (fs:List ByteArray),Rg n r->Rg n (unsF z n b r fs).1:=by
 induction b with
 | zero=>intro r fs h;exact h;| succ b ih =>
  intro r fs h;unfold unsF;split;· exact ih _ h.text
  · exact h
theorem Rg.sub (b:Nat):∀ {r:Rs} (fs:List (ByteArray×Int)),Rg n r->Rg n (subF z n b r fs).1:=by
 induction b with
 | zero=>intro r fs h;exact h;| succ b ih =>
  intro r fs h;unfold subF;split;· exact ih _ h.text.byte
  · exact h
theorem Rg.ack (b:Nat):∀ {r:Rs} (fs:List Int),Rg n r->Rg n (ackF z n b r fs).1:=by
 induction b with
 | zero=>intro r fs h;exact h;| succ b ih =>
  intro r fs h;unfold ackF;split;· exact ih _ h.byte
  · exact h
theorem Rg.will (b:Bool) (t:ByteArray) (l:Nat×(Nat->Int)) (h:Rg n r):Rg n (cWill z n b r t l).2:=by
 unfold cWill;split;· exact h.text.data
 · exact h
theorem Rg.user (b:Bool) (t:ByteArray) (h:Rg n r):Rg n (cUser z n b r t).2:=by
 unfold cUser;split;· exact h.text
 · exact h
theorem Rg.pass (b:Bool) (l:Nat×(Nat->Int)) (h:Rg n r):Rg n (cPass z n b r l).2:=by
 unfold cPass;split;· exact h.data
 · exact h
theorem Rg.pub (h:Rg n r) (p:Pk) (c:Cn) (fl:Int):Rg n (publishP z n r p c fl).1:=by
 unfold publishP pubNum;refine Rg.rest ?_;split;· exact h.text.num
 · exact h.text
theorem Rg.list (h:Rg n r) (k:Int) (p:Pk) (c:Cn):Rg n (listP z n k r p c).1:=by
 unfold listP;split;· exact h.sub n []
 split;· exact h.ack n []
 split;· exact h.uns n []
 · exact h
end
def Sml (n:Nat) (x:Int×Int):Prop:=0<=x.1/\x.1<=n+70000
theorem zbu {n:Nat} {y:Rs×Pk×Cn} {x:Int×Int} (hr:Rg n y.1) (h:endP n y = .error x):Sml n x:=by
 unfold endP errOut at h;split at h
 · cases h
   exact hr.end.2
 · cases h
theorem zdd {z:Nat->Int} {n:Nat} {r:Rs} {p:Pk} {c:Cn} (hr:Rg n r):(∀ x,connP0 z n r p c = .error x->Sml n x)/\∀ y,connP0 z n r p c = .ok y->Rg n y.1:=by
 have h1:Rg n (rText z n r).2:=hr.text;have h2:Rg n (rB z n (rText z n r).2).2:=h1.byte;have h3:Rg n (rB z n (rB z n (rText z n r).2).2).2:=h2.byte;unfold connP0;split;· exact ⟨fun x h=>(by cases h;exact ⟨by show (0:Int)<=0;omega,by show (0:Int)<=n+70000;omega⟩),fun y h=>by cases h⟩
 split;· exact ⟨fun x h=>(by cases h;have:=h2.1;exact ⟨by show (0:Int)<=((rB z n (rText z n r).2).2.at0:Int);omega,by show ((rB z n (rText z n r).2).2.at0:Int)<=n+70000;omega⟩),fun y h=>by cases h⟩
 ·
  unfold cMid0 cEnd;have h4:=(((((h3.num (z:=z)).text (z:=z)).will (z:=z) (mk (rB z n (rB z n (rText z n r).2).2).1 4) p.wT (p.wP.n,c.wz)).user (z:=z) (mk (rB z n (rB z n (rText z n r).2).2).1 128) p.user).pass (z:=z) (mk (rB z n (rB z n (rText z n r).2).2).1 64) (p.pass.n,c.pz));split;· exact ⟨fun x h=>(by cases h;exact h4.2),fun y h=>by cases h⟩
  · exact ⟨fun x h=>(by cases h),fun y h=>by cases h;exact h4⟩
theorem readP_small {z:Nat->Int} {n b:Nat} {x:Int×Int} (h:readP z n b = .error x):Sml n x:=by
 have h0:Rg n ⟨0,0,0⟩:=⟨Nat.zero_le _,by show (0:Int)<=0;omega,by show (0:Int)<=n+70000;omega⟩;unfold readP at h;split at h;·
  split at h
  · rename_i x' hx
    cases h;exact (zdd h0).1 _ hx
  · rename_i y hy
    exact zbu ((zdd h0).2 _ hy) h
 split at h;·
  unfold ackP at h;split at h;· cases h;exact ⟨by show (0:Int)<=0;omega,by show (0:Int)<=n+70000;omega⟩
  · exact zbu (by exact h0.byte.byte) h
 split at h;· exact zbu (h0.pub _ _ _) h
 split at h;· exact zbu h0 h
 · exact zbu (h0.num.list _ _ _) h
set_option maxRecDepth 100000
set_option maxHeartbeats 2000000
theorem dmost_any (most:Int) (w:World):Calls Tryz.prog 136 #[.int .i64 most] w fun e w'=>e = .returned (.int .i64 (clampM most))/\w'=w:=by
 by_cases h1:most<2;·
  have hc:clampM most=2:=by unfold clampM;omega
  rw [hc];clear hc;go_enter Tryz.func136,Tryz.ntmps136;go_wp2;go_ret;exact ⟨rfl,rfl⟩
 ·
  have h1':decide (most<2)=false:=by simpa using h1
  by_cases h2:268435455<most;·
   have hc:clampM most=268435455:=by unfold clampM;omega
   rw [hc];clear hc h1;go_enter Tryz.func136,Tryz.ntmps136;go_wp2;go_ret;exact ⟨rfl,rfl⟩
  ·
   have h2':decide (268435455<most)=false:=by simpa using h2
   have hc:clampM most=most:=by unfold clampM;omega
   rw [hc];clear hc h1 h2;go_enter Tryz.func136,Tryz.ntmps136;go_wp2;go_ret;exact ⟨rfl,rfl⟩
def headD (k f:Int):Int:=if k=0\/k=15 then 30 else if k=3 then (if f / 2 % 4=3\/(8<=f/\f / 2 % 4=0) then 31 else 0) else if f=(if k=6\/k=8\/k=10 then 2 else 0) then 0 else 31
theorem head_first:∀ b:Nat,b<256->firstP (b:Int)=headD ((b:Int) / 16) ((b:Int) % 16):=by decide +kernel
theorem dhead_any (b:Nat) (hb:b<256) (w:World):Calls Tryz.prog 134 #[.int .u8 b] w fun e w'=>e = .returned (.int .i64 (firstP b))/\w'=w:=by
 obtain ⟨F,hF⟩:∃ F,F=firstP (b:Int):=⟨_,rfl⟩;rw [<-hF];have HF:=hidi (hF.trans (head_first b hb));clear hF;have w1:IntKind.i64.wrap ((b:Int) / 16)=(b:Int) / 16:=by rw [IntKind.wrap_i64];omega
 have w2:IntKind.i64.wrap ((b:Int) % 16)=(b:Int) % 16:=by rw [IntKind.wrap_i64];omega
 have hk:0<=(b:Int) / 16/\(b:Int) / 16<=15:=by omega
 have hf:0<=(b:Int) % 16/\(b:Int) % 16<=15:=by omega
 go_enter Tryz.func134,Tryz.ntmps134;go_upto_region 2 with fail;obtain ⟨k,ek⟩:∃ k,k=(b:Int) / 16:=⟨_,rfl⟩;obtain ⟨f,ef⟩:∃ f,f=(b:Int) % 16:=⟨_,rfl⟩;rw [<-ek] at hk HF ⊢;rw [<-ef] at hf HF ⊢;clear w1 w2 ek ef hb;by_cases c0:k=0;· subst c0;go_wp2;go_ret;exact ⟨by rw [HF.out];rfl,rfl⟩
 by_cases c15:k=15;· subst c15;go_wp2;go_ret;exact ⟨by rw [HF.out];rfl,rfl⟩
 by_cases c3:k=3;·
  subst c3;have hh:f=0\/f=1\/f=2\/f=3\/f=4\/f=5\/f=6\/f=7\/f=8\/f=9\/f=10\/f=11\/f=12\/f=13\/f=14\/f=15:=by omega
  rcases hh with rfl | rfl | rfl | rfl | rfl | rfl | rfl | rfl | rfl | rfl | rfl | rfl | rfl | rfl | rfl | rfl;all_goals go_wp2;go_ret;exact ⟨by rw [HF.out];rfl,rfl⟩
 by_cases c6:k=6;·
  subst c6;by_cases e2:f=2;· subst e2;go_wp2;go_ret;exact ⟨by rw [HF.out];rfl,rfl⟩
  ·
   have e2':(f != 2)=true:=by simpa using e2
   have HE:=hidi (show F=31 from by rw [HF.out];simp [headD,e2]);clear e2;go_wp2;go_ret;exact ⟨by rw [HE.out];rfl,rfl⟩
 by_cases c8:k=8;·
  subst c8;by_cases e2:f=2;· subst e2;go_wp2;go_ret;exact ⟨by rw [HF.out];rfl,rfl⟩
  ·
   have e2':(f != 2)=true:=by simpa using e2
   have HE:=hidi (show F=31 from by rw [HF.out];simp [headD,e2]);clear e2;go_wp2;go_ret;exact ⟨by rw [HE.out];rfl,rfl⟩
 by_cases c10:k=10;·
  subst c10;by_cases e2:f=2;· subst e2;go_wp2;go_ret;exact ⟨by rw [HF.out];rfl,rfl⟩
  ·
   have e2':(f != 2)=true:=by simpa using e2
   have HE:=hidi (show F=31 from by rw [HF.out];simp [headD,e2]);clear e2;go_wp2;go_ret;exact ⟨by rw [HE.out];rfl,rfl⟩
 have HD:=hidi (show F=if f=0 then 0 else 31 from by rw [HF.out];simp [headD,c0,c15,c3,c6,c8,c10]);have d0:(k==0)=false:=by simpa using c0
 have d15:(k==15)=false:=by simpa using c15
 have d3:(k==3)=false:=by simpa using c3
 have d6:(k==6)=false:=by simpa using c6
 have d8:(k==8)=false:=by simpa using c8
 have d10:(k==10)=false:=by simpa using c10
 clear c0 c15 c3 c6 c8 c10 HF;by_cases e2:f=0;· subst e2;go_wp2;go_ret;exact ⟨by rw [HD.out];rfl,rfl⟩
 ·
  have e2':(f != 0)=true:=by simpa using e2
  have HE:=hidi (show F=31 from by rw [HD.out,if_neg e2]);clear e2;go_wp2;go_ret;exact ⟨by rw [HE.out];rfl,rfl⟩
section
variable {B B' b g n:Nat} {q:Pk} {w w':World} {c:Cn} {cs ds:Array Value} {o:Option (Pk×Cn)} {z:Nat->Int}
def Ap (s:Sl) (g:Nat):Prop:=s.n=0\/∀ b off,s.a=some ⟨b,off,none⟩->b≠g
structure Apart (q:Pk) (g:Nat):Prop where
 wP:Ap q.wP g
 pass:Ap q.pass g
 mP:Ap q.mP g
 asks:Ap q.asks g
 codes:Ap q.codes g
 filters:Ap q.filters g
theorem Ap.nx {s:Sl} (h:Nx B s) (hg:g<B):Ap s g:=.inr fun b off e=>by have:=h b off e;omega
theorem Apart.nx (h:NxAll B q) (hg:g<B):Apart q g:=⟨.nx h.wP hg,.nx h.pass hg,.nx h.mP hg,.nx h.asks hg,.nx h.codes hg,.nx h.filters hg⟩
theorem Apart.inn (h:In w q c) (hg:w.heap.size<=g):Apart q g:=by
 refine ⟨?_,?_,?_,?_,?_,?_⟩;·
  rcases h.wP.2.2 with e | ⟨b,off,e1,e2⟩;· exact .inl e
  · by_cases e:q.wP.n=0
    · exact .inl e
    · exact .inr fun b' off' e'=>by rw [e1] at e';cases e';have:=zaG (e2 0 (by omega));omega
 ·
  rcases h.pass.2.2 with e | ⟨b,off,e1,e2⟩;· exact .inl e
  · by_cases e:q.pass.n=0
    · exact .inl e
    · exact .inr fun b' off' e'=>by rw [e1] at e';cases e';have:=zaG (e2 0 (by omega));omega
 ·
  rcases h.mP.2.2 with e | ⟨b,off,e1,e2⟩;· exact .inl e
  · by_cases e:q.mP.n=0
    · exact .inl e
    · exact .inr fun b' off' e'=>by rw [e1] at e';cases e';have:=zaG (e2 0 (by omega));omega
 ·
  rcases h.asks.2 with e | ⟨b,off,e1,e2⟩;· exact .inl e
  · by_cases e:q.asks.n=0
    · exact .inl e
    · exact .inr fun b' off' e'=>by rw [e1] at e';cases e';have:=zaG (e2 0 (by omega)).1;omega
 ·
  rcases h.codes.2 with e | ⟨b,off,e1,e2⟩;· exact .inl e
  · by_cases e:q.codes.n=0
    · exact .inl e
    · exact .inr fun b' off' e'=>by rw [e1] at e';cases e';have:=zaG (e2 0 (by omega));omega
 ·
  rcases h.filters.2 with e | ⟨b,off,e1,e2⟩;· exact .inl e
  · by_cases e:q.filters.n=0
    · exact .inl e
    · exact .inr fun b' off' e'=>by rw [e1] at e';cases e';have:=zaG (e2 0 (by omega));omega
theorem In.setRow (h:In w q c) (ha:Apart q g):In (w.setRow g cs) q c:=by
 refine ⟨⟨h.wP.1,h.wP.2.1,?_⟩,⟨h.pass.1,h.pass.2.1,?_⟩,⟨h.mP.1,h.mP.2.1,?_⟩,⟨h.asks.1,?_⟩,⟨h.codes.1,?_⟩,⟨h.filters.1,?_⟩⟩;·
  rcases ha.wP with e | n;· exact .inl e
  · rcases h.wP.2.2 with e | ⟨b,off,e1,e2⟩
    · exact .inl e
    · exact .inr ⟨b,off,e1,fun i hi=>(za5 (n b off e1)).trans (e2 i hi)⟩
 ·
  rcases ha.pass with e | n;· exact .inl e
  · rcases h.pass.2.2 with e | ⟨b,off,e1,e2⟩
    · exact .inl e
    · exact .inr ⟨b,off,e1,fun i hi=>(za5 (n b off e1)).trans (e2 i hi)⟩
 ·
  rcases ha.mP with e | n;· exact .inl e
  · rcases h.mP.2.2 with e | ⟨b,off,e1,e2⟩
    · exact .inl e
    · exact .inr ⟨b,off,e1,fun i hi=>(za5 (n b off e1)).trans (e2 i hi)⟩
 ·
  rcases ha.asks with e | n;· exact .inl e
  · rcases h.asks.2 with e | ⟨b,off,e1,e2⟩
    · exact .inl e
    · exact .inr ⟨b,off,e1,fun i hi=>⟨(za5 (n b off e1)).trans (e2 i hi).1,(za5 (n b off e1)).trans (e2 i hi).2⟩⟩
 ·
  rcases ha.codes with e | n;· exact .inl e
  · rcases h.codes.2 with e | ⟨b,off,e1,e2⟩
    · exact .inl e
    · exact .inr ⟨b,off,e1,fun i hi=>(za5 (n b off e1)).trans (e2 i hi)⟩
 ·
  rcases ha.filters with e | n;· exact .inl e
  · rcases h.filters.2 with e | ⟨b,off,e1,e2⟩
    · exact .inl e
    · exact .inr ⟨b,off,e1,fun i hi=>(za5 (n b off e1)).trans (e2 i hi)⟩
def Got (B:Nat) (w:World) (q:Pk):Option (Pk×Cn)->Prop | none=>True | some y=>In w q y.2/\Alike q y.1/\NxAll B q
def GApart (q:Pk) (g:Nat):Option (Pk×Cn)->Prop | none=>True | some _=>Apart q g
theorem Got.below (h:Got B w q o) (hb:Below w.heap.size w w'):Got B w' q o:=by cases o with | none=>trivial | some y=>exact ⟨h.1.below hb,h.2.1,h.2.2⟩
theorem nx_low (x:NxAll B q) (lw:B'<=B):NxAll B' q:=⟨x.wP.lower lw,x.pass.lower lw,x.mP.lower lw,x.asks.lower lw,x.codes.lower lw,x.filters.lower lw⟩
theorem Got.low (h:Got B w q o) (lw:B'<=B):Got B' w q o:=by cases o with | none=>trivial | some y=>exact ⟨h.1,h.2.1,nx_low h.2.2 lw⟩
theorem Got.new (h:Got B w q o) (hg:w.heap.size<=g):GApart q g o:=by cases o with | none=>trivial | some y=>exact Apart.inn h.1 hg
theorem Got.old (h:Got B w q o) (hg:g<B):GApart q g o:=by cases o with | none=>trivial | some y=>exact Apart.nx h.2.2 hg
theorem Got.row (h:Got B w q o) (ha:GApart q g o):Got B (w.setRow g cs) q o:=by cases o with | none=>trivial | some y=>exact ⟨In.setRow h.1 ha,h.2.1,h.2.2⟩
theorem zero39 (w:World):(zeroValue 29).run Tryz.prog w = .ok (.agg (pkCells (blank 0))) w:=Tryz.zeroValue29 w
theorem zero73 (w:World):(zeroValue 112).run Tryz.prog w = .ok (.agg #[.int .i64 0,.int .i64 0]) w:=Tryz.zeroValue112 w
theorem zaz {t:TypeId} (hz:∀ w,(zeroValue t).run Tryz.prog w = .ok (.agg cs) w) {ops:Array Oper} {Q:Exit->Act->World->Prop} {o:Oper} {a:Act} {w:World} {K:Act->World->Prop} {E:Prop} (hw:Region.wanted o (yielded ops a.tmps)=true) (ho:o.op = .alloc t)
 (h:∀ (b:Nat) (w':World),w.heap.size<=b->b<w'.heap.size->w'.heap[b]?=some (.cells cs t (0,0))->Below w.heap.size w w'->K (a.put o.dst (.pointer (some ⟨b,0,none⟩))) w'):if Region.wanted o (yielded ops a.tmps)=true then Oper.wp Tryz.prog o a w K Q else E:=by
 rw [if_pos hw];have hr:(execOp a.eval o).run Tryz.prog w = .ok (.value (.pointer (some ⟨w.heap.size,0,none⟩))) (w.alloc (.cells cs t)):=by unfold execOp;simp only [ho,Instr.alloc,Sem.run_bind,hz,Result.andThen_ok];rfl
 unfold Oper.wp;rw [hr];simp only [Oper.upon];exact h _ _ (Nat.le_refl _) (by simp) (heap_alloc_new w _) ((Below.refl _ _).alloc (Nat.le_refl _) _)
theorem zai {W:World} (h:Below W.heap.size W w) (hg:W.heap.size<=g):Below W.heap.size W (w.setRow g cs):=(zbv h hg).out
theorem zfd (h1:w.heap[g]?=some (.cells cs 29 (0,0))) (h2:w.heap[b]?=some (.cells ds 112 (0,0))):g≠b:=by rintro rfl;rw [h1] at h2;cases h2
structure Two (W1:World) (g b:Nat) (q:Pk) (x y:Int) (o:Option (Pk×Cn)) (w:World):Prop where
 pk:w.heap[g]?=some (.cells (pkCells q) 29 (0,0))
 ft:w.heap[b]?=some (.cells #[.int .i64 x,.int .i64 y] 112 (0,0))
 lg:W1.heap.size<=g
 lb:W1.heap.size<=b
 got:Got W1.heap.size w q o
 ag:GApart q g o
 ab:GApart q b o
 bel:Below W1.heap.size W1 w
theorem Two.made {W1:World} {x y:Int} (h1:w.heap[g]?=some (.cells cs 29 (0,0))) (h2:w.heap[b]?=some (.cells ds 112 (0,0))) (lg:W1.heap.size<=g) (lb:W1.heap.size<=b) (hg:Got W1.heap.size w q o) (ag:GApart q g o) (ab:GApart q b o) (hb:Below W1.heap.size W1 w) :
 Two W1 g b q x y o ((w.setRow g (pkCells q)).setRow b #[.int .i64 x,.int .i64 y]) :=
 have ne:=zfd h1 h2
 ⟨(za7 ne).trans (zaK h1),zaK ((za7 (Ne.symm ne)).trans h2),lg,lb,(hg.row ag).row ab,ag,ab,zai (zai hb lg) lb⟩
theorem zax {P:Program} {fn:Func} {p m q:Tmp} {ty uy:TypeId} (h:fn.results = #[.cell p ty,.tmp m,.cell q uy]) (tmps:Array Value) (w:World) (g j:Nat) (t u:TypeId) (cs ds:Array Value) (fr fs:Nat×Nat) (d d':TypeDesc)
 (hp:tmps.getD p undef = .pointer (some ⟨g,0,none⟩)) (hg:w.heap[g]?=some (.cells cs t fr)) (hu:P.underlying ty=some d) (hd:(match d with | .struct _ | .array _ _=>true | _=>false)=true) (hi:(P.info? ty).map (·.size)=some cs.size)
 (v:Value) (hv:tmps.getD m undef=v)
 (hq:tmps.getD q undef = .pointer (some ⟨j,0,none⟩)) (hj:w.heap[j]?=some (.cells ds u fs)) (hu':P.underlying uy=some d') (hd':(match d' with | .struct _ | .array _ _=>true | _=>false)=true) (hi':(P.info? uy).map (·.size)=some ds.size) :
 (results fn tmps).run P w = .ok (.tuple #[.agg cs,v,.agg ds]) w:=by
 have hp':tmps[p]?.getD undef = .pointer (some ⟨g,0,none⟩):=by simpa using hp
 have hq':tmps[q]?.getD undef = .pointer (some ⟨j,0,none⟩):=by simpa using hq
 have hv':tmps[m]?.getD undef=v:=by simpa using hv
 simp [results,h,hp',hq',hv',asAddr,run_loadVar_row w g t ty cs fr d hg hu hd hi,run_loadVar_row w j u uy ds fs d' hj hu' hd' hi']
def DocIs (w w':World) (e:Ending):DecR->Prop | .fault x=>e = .returned (.tuple #[.agg (pkCells (blank 0)),.int .i64 0,.agg #[.int .i64 x.1,.int .i64 x.2]])/\x.2≠0/\Below w.heap.size w w' | .more=>e = .returned (.tuple #[.agg (pkCells (blank 0)),.int .i64 0,.agg #[.int .i64 0,.int .i64 0]])/\Below w.heap.size w w' | .ok p c n=>(∃ q:Pk,e = .returned (.tuple #[.agg (pkCells q),.int .i64 n,.agg #[.int .i64 0,.int .i64 0]])/\In w' q c/\Alike q p/\NxAll w.heap.size q)/\Below w.heap.size w w'
theorem len_four (z:Nat->Int) (n:Nat) (most:Int):lenF z n most 4 1 0 = if 1=n then (0,0,none) else if z 1<128 then (if most<z 1 % 128 then (0,0,some (1,32)) else (2,z 1 % 128,none)) else if 2=n then (0,0,none) else if z 2<128 then (if most<z 1 % 128+z 2 % 128*128 then (0,0,some (1,32)) else (3,z 1 % 128+z 2 % 128*128,none)) else if 3=n then (0,0,none) else if z 3<128 then (if most<z 1 % 128+z 2 % 128*128+z 3 % 128*16384 then (0,0,some (1,32)) else (4,z 1 % 128+z 2 % 128*128+z 3 % 128*16384,none)) else if 4=n then (0,0,none) else if z 4<128 then (if most<z 1 % 128+z 2 % 128*128+z 3 % 128*16384+z 4 % 128*2097152 then (0,0,some (1,32)) else (5,z 1 % 128+z 2 % 128*128+z 3 % 128*16384+z 4 % 128*2097152,none)) else (0,0,some (4,12)):=by simp [lenF]
def lenTo (most:Int) (X:Int×Int×Int):Int×Int×Option (Int×Int) := if X.2.2=12 then (0,0,some (4,12)) else if X.2.2≠0 then (0,0,none) else if most<X.1 then (0,0,some (1,32)) else (X.2.1+1,X.1,none)
theorem head_len (z:Nat->Int) (n:Nat) (most:Int) (hn:n≠0) (hf:firstP (z 0)=0):headP z n most=lenTo most (Dl.lenZ (n-1) (sh 1 z)):=by
 unfold headP;rw [if_neg hn,if_neg (by simpa using hf),len_four];show _=lenTo most (Dl.lenX (n-1) (z 1) (z 2) (z 3) (z 4));by_cases a0:1=n;· rw [if_pos a0,Dl.zcS (by omega)];simp [lenTo]
 rw [if_neg a0];by_cases b0:z 1<128;· rw [if_pos b0,Dl.zdh (by omega) b0];simp [lenTo]
 rw [if_neg b0];by_cases a1:2=n;· rw [if_pos a1,Dl.zcV (by omega) b0 (by omega)];simp [lenTo]
 rw [if_neg a1];by_cases b1:z 2<128;· rw [if_pos b1,Dl.zdc (by omega) b0 (by omega) b1];simp [lenTo]
 rw [if_neg b1];by_cases a2:3=n;· rw [if_pos a2,Dl.zcE (by omega) b0 (by omega) b1 (by omega)];simp [lenTo]
 rw [if_neg a2];by_cases b2:z 3<128;· rw [if_pos b2,Dl.zdb (by omega) b0 (by omega) b1 (by omega) b2];simp [lenTo]
 rw [if_neg b2];by_cases a3:4=n;· rw [if_pos a3,Dl.zcL (by omega) b0 (by omega) b1 (by omega) b2 (by omega)];simp [lenTo]
 rw [if_neg a3];by_cases b3:z 4<128;· rw [if_pos b3,Dl.zda (by omega) b0 (by omega) b1 (by omega) b2 (by omega) b3];simp [lenTo]
 rw [if_neg b3];have e:Dl.lenX (n-1) (z 1) (z 2) (z 3) (z 4)=(0,0,12):=by unfold Dl.lenX;rw [if_neg (by omega),if_neg b0,if_neg (by omega),if_neg b1,if_neg (by omega),if_neg b2,if_neg (by omega),if_neg b3]
 rw [e];simp [lenTo]
theorem readP_err {x:Int×Int} (h:readP z n b = .error x):x.2≠0:=by
 have hE:∀ y:Rs×Pk×Cn,endP n y = .error x->x.2≠0:=by
  intro y hy;unfold endP errOut at hy;split at hy
  · rename_i hq
    cases hy;exact hq
  · cases hy
 unfold readP at h;split at h;·
  split at h
  · rename_i x' hx
    cases h;exact zdf hx
  · exact hE _ h
 split at h;·
  unfold ackP at h;split at h;· cases h;simp
  · exact hE _ h
 split at h;· exact hE _ h
 split at h;· exact hE _ h
 · exact hE _ h
theorem len_ok (z:Nat->Int) (n:Nat) (h:(Dl.lenZ n z).2.2=0):∃ K L:Nat,(Dl.lenZ n z).2.1=K/\(Dl.lenZ n z).1=L/\1<=K/\K<=4/\K<=n:=by
 revert h;unfold Dl.lenZ Dl.lenX;split;· intro h;cases h
 split;· intro _;exact ⟨1,(z 0 % 128).toNat,rfl,by show z 0 % 128=_;omega,by omega,by omega,by omega⟩
 split;· intro h;cases h
 split;· intro _;exact ⟨2,(z 0 % 128+z 1 % 128*128).toNat,rfl,by show z 0 % 128+z 1 % 128*128=_;omega,by omega,by omega,by omega⟩
 split;· intro h;cases h
 split;· intro _;exact ⟨3,(z 0 % 128+z 1 % 128*128+z 2 % 128*16384).toNat,rfl,by show z 0 % 128+z 1 % 128*128+z 2 % 128*16384=_;omega,by omega,by omega,by omega⟩
 split;· intro h;cases h
 split;· intro _;exact ⟨4,(z 0 % 128+z 1 % 128*128+z 2 % 128*16384+z 3 % 128*2097152).toNat,rfl,by show z 0 % 128+z 1 % 128*128+z 2 % 128*16384+z 3 % 128*2097152=_;omega,by omega,by omega,by omega⟩
 · intro h;cases h
def okO:Except (Int×Int) (Rs×Pk×Cn)->Option (Pk×Cn) | .error _=>none | .ok y=>some (y.2.1,y.2.2)
def FltIs (h:Nat) (x:Int×Int):Except (Int×Int) (Rs×Pk×Cn)->Prop | .error y=>x.1+h=y.1/\x.2=y.2/\y.2≠0/\0<=x.1/\x.1<=400000 | .ok _=>x=(0,0)
theorem codes_alike {p:Pk} (h:Alike q p):q.codes.n=p.codes.n:=by obtain ⟨s1,s2,s3,s4,s5,s6,rfl,h1,h2,h3,h4,h5,h6⟩:=h;exact h5
theorem rd_got {e:Ending} {h:Nat} (hn:n<=300000) (H:RdIs w w' e (readP (sh h z) n b)) (I:Except (Int×Int) (Rs×Pk×Cn)) (hI:I=intoP z (n+h) ⟨h,0,0⟩ ((b:Int) / 16) noCn ((b:Int) % 16)) :
 ∃ (v:Value) (q:Pk) (x:Int×Int),e = .returned v/\v = .tuple #[.agg (pkCells q),.agg #[.int .i64 x.1,.int .i64 x.2]]/\Hid (Got w.heap.size w' q (okO I))/\Hid (FltIs h x I)/\Hid (Below w.heap.size w w'):=by
 have L:=rel_into h n b z;have N:∀ x,readP (sh h z) n b = .error x->x.2≠0/\Sml n x:=fun x e=>⟨readP_err e,readP_small e⟩;rw [<-hI] at L;clear hI;generalize readP (sh h z) n b=D at L H N;cases D with
 | error x => cases I with | ok y=>exact L.elim | error y => obtain ⟨⟨q,rfl⟩,hb⟩:=H;exact ⟨_,q,x,rfl,rfl,trivial,⟨L.1.symm,L.2.symm,by rw [L.2];exact (N _ rfl).1,(N _ rfl).2.1,by have:=(N _ rfl).2.2;omega⟩,hb⟩
 | ok x =>
  cases I with
  | error y=>exact L.elim;| ok y =>
   obtain ⟨⟨q,rfl,hi,ha,hx⟩,hb⟩:=H;refine ⟨_,q,(0,0),rfl,rfl,⟨?_,?_,hx⟩,rfl,hb⟩;· exact L.2.inn (by rw [codes_alike ha,L.1]) hi
   · show Alike q y.2.1;rw [L.1];exact ha
end
open Pkt (Pk Cn Sl In By Is Ss As pkCells Small ck TT)
set_option maxHeartbeats 4000000
def packR:Except (Int×Int) (Pk×Cn)->Nat->DecR | .error x,_=>.fault x | .ok y,n=>.ok y.1 y.2 n
def packO:Except (Int×Int) (Rs×Pk×Cn)->Except (Int×Int) (Pk×Cn) | .error x=>.error x | .ok y=>if ck TT y.2.1 y.2.2=0 then .ok (y.2.1,y.2.2) else .error (0,(ck TT y.2.1 y.2.2:Int))
theorem decH_pack (z:Nat->Int) (n h L:Nat) (a:Int) (ha:a=(h:Int)) (h0:h≠0) (hl:¬ (n:Int)-h<L):decH z n (a,(L:Int),none)=packR (packP z (L+h) h) (L+h):=by subst ha;unfold decH;simp only;rw [if_neg (by omega),show ((h:Int)+(L:Int)).toNat=L+h by omega,show (h:Int).toNat=h by omega];cases packP z (L+h) h <;> rfl
theorem packP_eq (z:Nat->Int) (n h:Nat):packP z n h=packO (intoP z n ⟨h,0,0⟩ (z 0 / 16) noCn (z 0 % 16)):=by unfold packP packO;cases intoP z n ⟨h,0,0⟩ (z 0 / 16) noCn (z 0 % 16) <;> rfl
theorem ddecode_zero (most:Int) (ao:Option Addr) (cp:Nat) (w:World):Calls Tryz.prog 88 #[.slice ao 0 cp,.int .i64 most] w fun e w'=>DocIs w w' e .more:=by
 obtain ⟨R,hR⟩:∃ R,R=DecR.more:=⟨_,rfl⟩;rw [<-hR];have HV:=hidi hR;clear hR;obtain ⟨V1,hV1⟩:∃ V1,V1=(w.alloc (.cells (pkCells (blank 0)) 29)).alloc (.cells #[.int .i64 0,.int .i64 0] 112):=⟨_,rfl⟩;have b1:Below w.heap.size w V1:=by rw [hV1];exact ((Below.refl _ _).alloc (Nat.le_refl _) _).alloc (by simp) _
 have s1:V1.heap.size=w.heap.size+2:=by rw [hV1];simp
 have x4:V1.heap[w.heap.size]?=some (.cells (pkCells (blank 0)) 29 (0,0)):=by rw [hV1];exact (((Below.refl _ _).alloc (Nat.le_refl _) _).block w.heap.size (by simp)).trans (heap_alloc_new w _)
 have x5:V1.heap[w.heap.size+1]?=some (.cells #[.int .i64 0,.int .i64 0] 112 (0,0)):=by rw [hV1];have:=heap_alloc_new (w.alloc (.cells (pkCells (blank 0)) 29)) (.cells #[.int .i64 0,.int .i64 0] 112);simpa using this
 obtain ⟨W1,hW1⟩:∃ W1,W1=V1.alloc (.cells (pkCells (blank 0)) 29):=⟨_,rfl⟩;obtain ⟨nb,hnb⟩:∃ nb,nb=V1.heap.size:=⟨_,rfl⟩;have b2:Below V1.heap.size V1 W1:=by rw [hW1];exact (Below.refl _ _).alloc (Nat.le_refl _) _
 have BB:=hidi (show Below w.heap.size w W1 from b1.trans (b2.mono b1.size));have X4:=hidi ((b2.block _ (by omega)).trans x4);have X5:=hidi ((b2.block _ (by omega)).trans x5);have X7:=hidi (show W1.heap[nb]?=some (.cells (pkCells (blank 0)) 29 (0,0)) from by rw [hW1,hnb];exact heap_alloc_new V1 _);have SZ:=hidi (show nb=w.heap.size+2/\W1.heap.size=w.heap.size+3 from ⟨by omega,by rw [hW1];simp;omega⟩);have HV1:=hidi hV1;have HW1:=hidi hW1;have HNB:=hidi hnb;clear hV1 b1 s1 x4 x5 hW1 hnb b2;go_enter Tryz.func88,Tryz.ntmps88;go_upto_region 1 with fail;rw [show (w.alloc (.cells #[.int .i64 0,.int .i64 0,.bool false,.int .i64 0,.string ⟨#[]⟩,.bool false,.string ⟨#[]⟩,.slice none 0 0,.int .i64 0,.bool false,.bool false,.string ⟨#[]⟩,.bool false,.slice none 0 0,.bool false,.int .i64 0,.bool false,.string ⟨#[]⟩,.slice none 0 0,.int .i64 0,.bool false,.int .i64 0,.slice none 0 0,.slice none 0 0,.slice none 0 0] 29)).alloc (.cells #[.int .i64 0,.int .i64 0] 112)=V1 from HV1.out.symm];clear HV1;go_upto_region 2 with (first | (refine zaf rfl 29 _ rfl (pkCells (blank 0)) built_zero ?_)|(refine wpList_store_row rfl 29 (.tmp 7) (.tmp 13) rfl V1.heap.size (pkCells (blank 0)) rfl rfl 29 (pkCells (blank 0)) (heap_alloc_new _ _) info39 rfl (pk_one _) ?_;rw [World.setRow_alloc_new]));rw [<-HW1.out,<-HNB.out];clear HW1 HNB;go_wp2_with (first | (refine Pkt.za0 rfl (.tmp 7) rfl nb rfl (pkCells (blank 0)) (0,0) X7.out (zav _) ?_)|(refine wpList_store_row rfl 29 (.tmp 4) (.tmp 17) rfl w.heap.size (pkCells (blank 0)) rfl rfl 29 (pkCells (blank 0)) X4.out zaa rfl (pk_one _) ?_)|(refine wpList_store_row rfl 112 (.tmp 6) (.tmp 18) rfl (w.heap.size+1) #[.int .i64 0,.int .i64 0] rfl rfl 112 #[.int .i64 0,.int .i64 0] ((za7 (by omega)).trans X5.out) f_info rfl (zaB _ _) ?_));have RR:=zaW (cs:=pkCells (blank 0)) (ds:=#[.int .i64 0,.int .i64 0]) X4.out X5.out;refine bodyPost_ret (zax rfl _ _ w.heap.size (w.heap.size+1) 29 112 (pkCells (blank 0)) #[.int .i64 0,.int .i64 0] (0,0) (0,0) _ _ rfl RR.1 Tryz.underlying29 rfl zaa (.int .i64 0) rfl rfl RR.2 Tryz.underlying112 rfl f_info) rfl ?_;rw [HV.out];exact ⟨rfl,zai (zai BB.out (Nat.le_refl _)) (by omega)⟩
end Go.Proofs.YtceigllifjgalaaGreatDoor.Dr
