import Derived.Test.YtpldoeeahhaimaaGreatDoorDsd
namespace Go.Proofs.YtpldoeeahhaimaaGreatDoor.Dr
open Go Go.RowKit
open Pkt (Pk Cn Sl In By Is Ss As pkCells)
set_option linter.all false
set_option maxRecDepth 100000
set_option maxHeartbeats 4000000
def unsL (z:Nat->Int) (n:Nat) (r:Rs) (p:Pk) (c:Cn):Rs×Pk×Cn := ((unsF z n n r []).1,{ p with filters:=⟨none,(unsF z n n r []).2.length,0⟩ },{ c with fs:=fun i=>(unsF z n n r []).2.getD i ⟨#[]⟩ })
def DDone (w0 w':World) (mb pb:Nat) (a:Option Addr) (n cp:Nat) (z:Nat->Int) (y:Rs×Pk×Cn):Prop:=∃ q:Pk,Ds w0 w' mb pb a n cp z y.1 q y.2.2/\Alike q y.2.1
theorem duns_any {w0 w:World} {mb pb:Nat} {a:Option Addr} {n cp:Nat} {z:Nat->Int} {r:Rs} {p:Pk} {c:Cn} (h:Ds w0 w mb pb a n cp z r p c) (hf:p.filters=⟨none,0,0⟩) (hkd:p.kind=10) :
 Calls Tryz.prog 78 #[.pointer (some ⟨mb,0,none⟩),.pointer (some ⟨pb,0,none⟩),.int .i64 n] w fun e w'=>e = .returned (.tuple #[])/\DDone w0 w' mb pb a n cp z (unsL z n r p c):=by
 have LW:Hid (w0.heap.size<=w.heap.size):=h.size;have NF:Hid (n<=1000000):=by have:=h.rd.few;show n<=1000000;omega
 have XS:Hid (Ds w0 w mb pb a n cp z r p c):=h;have FN:Hid (p.filters=⟨none,0,0⟩):=hf;have KD:Hid (p.kind=10):=hkd;obtain ⟨Y,hY⟩:∃ Y,Y=unsL z n r p c:=⟨_,rfl⟩;rw [<-hY];obtain ⟨U,hU⟩:∃ s,s=unsF z n n r []:=⟨_,rfl⟩;have HS:Hid (Y=(U.1,{ p with filters:=⟨none,U.2.length,0⟩ },{ c with fs:=fun i=>U.2.getD i ⟨#[]⟩ })):=by show _=_;rw [hY,unsL,hU]
 have H2:Hid (U=unsF z n n r []):=hU;clear hY hU hf hkd;have U2:Hid (Du w0 w w mb pb a n cp z r p ⟨none,0,0⟩ 9 1 0 []):=⟨h.co,⟨rfl,.inl ⟨rfl,rfl⟩⟩,fun _ _ h _=>h,LW.out,h.rd.blocks,Nat.le_refl _⟩;clear h;obtain ⟨i0,hi,hz0,hz1,hz2⟩:=info_parts Tryz.info9;go_enter Tryz.func78,Tryz.ntmps78;go_wp2_with fail;go_loopg [] n (fun gg wx=>∃ (r':Rs) (fs:List ByteArray) (s:Sl),Hid (Du w0 w wx mb pb a n cp z r' { p with filters:=s } s 9 1 fs.length (fs.map .string))/\Hid (U=unsF z n gg r' fs)/\Hid (more n r'=true->n<=r'.at0+gg)/\Hid (more n r'=true->fs.length<=r'.at0));case atStart=>exact ⟨r,[],⟨none,0,0⟩,by rw [show ({ p with filters:=⟨none,0,0⟩ }:Pk)=p from by rw [<-FN.out]];exact U2.out,H2.out,fun _=>by omega,fun _=>Nat.zero_le _⟩
 case round =>
  obtain ⟨r',fs,s,C1,E0,M0,L0⟩:=hrel;have FI:Hid (more n r'=false->unsF z n gk r' fs=(r',fs)):=fun q=>unsF_end _ _ _ q;have EN:Hid (∀ v:World,Du w0 w v mb pb a n cp z r' { p with filters:=s } s 9 1 fs.length (fs.map .string)->more n r'=false->DDone w0 v mb pb a n cp z Y):=by intro v hv hm;rw [HS.out,E0.out,FI.out hm];obtain ⟨q1,q2,q3⟩:=own_ss hv.own;have q:=In.keep XS.out.inn XS.out.nx hv.keep;have x:=XS.out.nx;exact ⟨{ p with filters:=s },hv.co.ds ⟨q.wP,q.pass,q.mP,q.asks,q.codes,q1⟩ ⟨x.wP,x.pass,x.mP,x.asks,x.codes,fun b off e=>by have:=q3 b off e;have:=LW.out;omega⟩,p.wP,p.pass,p.mP,p.asks,p.codes,s,rfl,rfl,rfl,rfl,rfl,rfl,q2⟩
  have ce:=C1.out.co.err;by_cases hq:r'.q=0
  · rw [hq] at ce
    have AT:=hidi (refAt_any C1.out.co.rd);cases hm:more n r' with
    | true =>
     have hlt:r'.at0<n:=(more_at hm).2;obtain ⟨tx,htx⟩:∃ y,y=rText z n r':=⟨_,rfl⟩;have HT:Hid (tx=rText z n r'):=htx;obtain ⟨gg,hgg⟩:∃ gg,gk=gg+1:=⟨gk-1,by have:=M0.out hm;have:=(more_at hm).2;omega⟩;have E1:Hid (U=unsF z n gg tx.2 (fs++[tx.1])):=by show _=_;rw [E0.out,hgg,unsF,if_pos hm,htx]
     have N1:Hid ((more n tx.2=true->n<=tx.2.at0+gg)/\(more n tx.2=true->(fs++[tx.1]).length<=tx.2.at0)):=by
      refine ⟨fun q=>?_,fun q=>?_⟩;· have a:=M0.out hm;rw [htx] at q ⊢;have b:=rText_on hm q;omega
      · have a:=L0.out hm;rw [htx] at q ⊢;have b:=rText_on hm q;simp only [List.length_append,List.length_singleton];omega
     have ML:Hid (fs.length<=1000000):=by have a:=L0.out hm;have b:=(more_at hm).2;have:=NF.out;show fs.length<=1000000;omega
     clear htx hm E0 M0 L0 EN hq FI;obtain ⟨tx,r2⟩:=tx;simp only at E1 N1;have ck:wr.cell? ⟨pb,0,none⟩=some (.int .i64 p.kind):=C1.out.co.cell 0 _ rfl;rw [KD.out] at ck;have TX:Hid (Calls Tryz.prog 75 #[.pointer (some ⟨mb,0,none⟩)] wr.drew fun e w'=>e = .returned (.string tx)/\Du w0 w w' mb pb a n cp z r2 { p with filters:=s } s 9 1 fs.length (fs.map .string)):=by have D1:=C1.out.below ((Below.refl _ _).drew);refine (dtext_any D1.co.rd).mono ?_;rw [<-HT.out];exact fun e w' ⟨h1,h2,h3⟩=>⟨h1,D1.read h2 h3⟩
     have c24:wr.cell? ⟨pb,24,none⟩=some (.slice s.a s.n s.c):=C1.out.co.cell 24 _ rfl;go_wp2_with (go_at_call 111;refine AT.out.mono ?_;rintro e w' ⟨rfl,he⟩;obtain rfl:=he.symm;clear he);first | go_region_law (first | (refine step_push rfl (.tmp 60) (.tmp 63) 37 rfl w.heap.size 9 i0 (.string ⟨#[]⟩) 1 16 Tryz.underlying37 hi hz0 hz1 hz2 rfl (by decide) (.slice s.a s.n s.c) fs.length (fs.map .string) rfl (C2.out.below ((Below.refl _ _).alloc (Nat.le_refl _) _)).own ⟨u2.heap.size,0,none⟩ 1 1 [.string tx] rfl (by decide) rfl (cell_one_new _ _ _) (by intro u hu;simp at hu;subst hu;rfl) (by have:=ML.out;unfold maxLen;omega) (by have:=ML.out;omega) (by have:=C2.out.grown;simp;omega) ?_;intro v3 u3 ho hg hne _;obtain ⟨s3,rfl,hs3,hn3⟩:=own_some ho hne;have C3:Hid (Du w0 w u3 mb pb a n cp z r2 { p with filters:=s } s3 9 1 (fs.length+1) (fs.map .string++[.string tx])):=(C2.out.below ((Below.refl _ _).alloc (Nat.le_refl _) _)).app ho hg;clear ho hg hne hs3 hn3;have c24d:u3.cell? ⟨pb,24,none⟩=some (.slice s.a s.n s.c):=C3.out.co.cell 24 _ rfl;have z24d:=C3.out.co.frozen 24)|(go_simp;go_wp2_with (go_at_call 75;refine TX.out.mono ?_;rintro e u2 ⟨rfl,hX⟩;have C2:Hid (Du w0 w u2 mb pb a n cp z r2 { p with filters:=s } s 9 1 fs.length (fs.map .string)):=hX;clear hX;have c24b:u2.cell? ⟨pb,24,none⟩=some (.slice s.a s.n s.c):=C2.out.co.cell 24 _ rfl;have c24c:(u2.alloc (.cells #[.string tx] 9)).cell? ⟨pb,24,none⟩=some (.slice s.a s.n s.c):=(C2.out.below ((Below.refl _ _).alloc (Nat.le_refl _) _)).co.cell 24 _ rfl))) | fail
     all_goals go_wp2
     all_goals go_roundg gg
     all_goals first | omega | exact ⟨r2,fs++[tx],s3,by show Du _ _ _ _ _ _ _ _ _ _ _ _ _ _ _ _;rw [List.length_append,List.map_append];exact C3.out.set 24 _ _ rfl,E1.out,N1.out.1,N1.out.2⟩
    | false =>
     have hlt:decide (r'.at0<n)=false:=by have:=hm;unfold more at this;rw [hq] at this;simpa using this
     have EE:=hidi (EN.out _ C1.out hm);clear hm E0 M0 L0 EN hq FI;go_wp2_with (go_at_call 111;refine AT.out.mono ?_;rintro e w' ⟨rfl,he⟩;obtain rfl:=he.symm;clear he);go_end0;exact ⟨rfl,EE.out⟩
  · have hq':(r'.q==0)=false:=by simpa using hq
    have EE:=hidi (EN.out _ C1.out (by unfold more;simp [hq]));clear E0 M0 L0 EN hq FI;go_wp2_with fail;go_end0;exact ⟨rfl,EE.out⟩
def subL (z:Nat->Int) (n:Nat) (r:Rs) (p:Pk) (c:Cn):Rs×Pk×Cn := ((subF z n n r []).1,{ p with asks:=⟨none,(subF z n n r []).2.length,0⟩ },{ c with af:=fun i=>((subF z n n r []).2.getD i (⟨#[]⟩,0)).1,aq:=fun i=>((subF z n n r []).2.getD i (⟨#[]⟩,0)).2 })
theorem dsub_any {w0 w:World} {mb pb:Nat} {a:Option Addr} {n cp:Nat} {z:Nat->Int} {r:Rs} {p:Pk} {c:Cn} (h:Ds w0 w mb pb a n cp z r p c) (hf:p.asks=⟨none,0,0⟩) (hkd:p.kind=8) :
 Calls Tryz.prog 78 #[.pointer (some ⟨mb,0,none⟩),.pointer (some ⟨pb,0,none⟩),.int .i64 n] w fun e w'=>e = .returned (.tuple #[])/\DDone w0 w' mb pb a n cp z (subL z n r p c):=by
 have LW:Hid (w0.heap.size<=w.heap.size):=h.size;have NF:Hid (n<=1000000):=by have:=h.rd.few;show n<=1000000;omega
 have XS:Hid (Ds w0 w mb pb a n cp z r p c):=h;have FN:Hid (p.asks=⟨none,0,0⟩):=hf;have KD:Hid (p.kind=8):=hkd;obtain ⟨Y,hY⟩:∃ Y,Y=subL z n r p c:=⟨_,rfl⟩;rw [<-hY];obtain ⟨U,hU⟩:∃ s,s=subF z n n r []:=⟨_,rfl⟩;have HS:Hid (Y=(U.1,{ p with asks:=⟨none,U.2.length,0⟩ },{ c with af:=fun i=>(U.2.getD i (⟨#[]⟩,0)).1,aq:=fun i=>(U.2.getD i (⟨#[]⟩,0)).2 })):=by show _=_;rw [hY,subL,hU]
 have H2:Hid (U=subF z n n r []):=hU;clear hY hU hf hkd;have U2:Hid (Du w0 w w mb pb a n cp z r p ⟨none,0,0⟩ 99 2 0 []):=⟨h.co,⟨rfl,.inl ⟨rfl,rfl⟩⟩,fun _ _ h _=>h,LW.out,h.rd.blocks,Nat.le_refl _⟩;clear h;obtain ⟨i0,hi,hz0,hz1,hz2⟩:=info_parts Tryz.info99;go_enter Tryz.func78,Tryz.ntmps78;go_wp2_with fail;go_loopg [] n (fun gg wx=>∃ (r':Rs) (fs:List (ByteArray×Int)) (s:Sl),Hid (Du w0 w wx mb pb a n cp z r' { p with asks:=s } s 99 2 fs.length (askCells fs))/\Hid (U=subF z n gg r' fs)/\Hid (more n r'=true->n<=r'.at0+gg)/\Hid (more n r'=true->fs.length<=r'.at0));case atStart=>exact ⟨r,[],⟨none,0,0⟩,by rw [show ({ p with asks:=⟨none,0,0⟩ }:Pk)=p from by rw [<-FN.out]];exact U2.out,H2.out,fun _=>by omega,fun _=>Nat.zero_le _⟩
 case round =>
  obtain ⟨r',fs,s,C1,E0,M0,L0⟩:=hrel;have FI:Hid (more n r'=false->subF z n gk r' fs=(r',fs)):=fun q=>subF_end _ _ _ q;have EN:Hid (∀ v:World,Du w0 w v mb pb a n cp z r' { p with asks:=s } s 99 2 fs.length (askCells fs)->more n r'=false->DDone w0 v mb pb a n cp z Y):=by intro v hv hm;rw [HS.out,E0.out,FI.out hm];obtain ⟨q1,q2,q3⟩:=own_as hv.own;have q:=In.keep XS.out.inn XS.out.nx hv.keep;have x:=XS.out.nx;exact ⟨{ p with asks:=s },hv.co.ds ⟨q.wP,q.pass,q.mP,q1,q.codes,q.filters⟩ ⟨x.wP,x.pass,x.mP,fun b off e=>by have:=q3 b off e;have:=LW.out;omega,x.codes,x.filters⟩,p.wP,p.pass,p.mP,s,p.codes,p.filters,rfl,rfl,rfl,rfl,q2,rfl,rfl⟩
  have ce:=C1.out.co.err;by_cases hq:r'.q=0
  · rw [hq] at ce
    have AT:=hidi (refAt_any C1.out.co.rd);cases hm:more n r' with
    | true =>
     have hlt:r'.at0<n:=(more_at hm).2;obtain ⟨tx,htx⟩:∃ y,y=rText z n r':=⟨_,rfl⟩;obtain ⟨qx,hqx⟩:∃ y,y=Go.Proofs.YtpldoeeahhaimaaGreatDoor.rByte z n tx.2:=⟨_,rfl⟩;have HT:Hid (tx=rText z n r'):=htx;have HQ:Hid (qx=Go.Proofs.YtpldoeeahhaimaaGreatDoor.rByte z n tx.2):=hqx;obtain ⟨gg,hgg⟩:∃ gg,gk=gg+1:=⟨gk-1,by have:=M0.out hm;have:=(more_at hm).2;omega⟩;have E1:Hid (U=subF z n gg qx.2 (fs++[(tx.1,qx.1)])):=by show _=_;rw [E0.out,hgg,subF,if_pos hm,hqx,htx]
     have N1:Hid ((more n qx.2=true->n<=qx.2.at0+gg)/\(more n qx.2=true->(fs++[(tx.1,qx.1)]).length<=qx.2.at0)):=by
      refine ⟨fun q=>?_,fun q=>?_⟩;· have a:=M0.out hm;rw [hqx,htx] at q ⊢;have b:=sub_on hm q;omega
      · have a:=L0.out hm;have b:r'.at0+2<=qx.2.at0:=(by rw [hqx,htx] at q ⊢;exact sub_on hm q);simp only [List.length_append,List.length_singleton];omega
     have ML:Hid (fs.length<=1000000):=by have a:=L0.out hm;have b:=(more_at hm).2;have:=NF.out;show fs.length<=1000000;omega
     clear htx hqx hm E0 M0 L0 EN hq FI;obtain ⟨tx,r2⟩:=tx;obtain ⟨qx,r3⟩:=qx;simp only at E1 N1 HQ;have ck:wr.cell? ⟨pb,0,none⟩=some (.int .i64 p.kind):=C1.out.co.cell 0 _ rfl;rw [KD.out] at ck;go_wp2_with (go_at_call 111;refine AT.out.mono ?_;rintro e w' ⟨rfl,he⟩;obtain rfl:=he.symm;clear he);go_must (go_at_call 75);refine (dtext_any C1.out.co.rd).mono ?_;rw [<-HT.out];rintro e u2 ⟨rfl,hr,hg⟩;have C2:Hid (Du w0 w u2 mb pb a n cp z r2 { p with asks:=s } s 99 2 fs.length (askCells fs)):=C1.out.read hr hg;clear hr hg ck ce hlt;have bq:0<=qx/\qx<=255:=by
      have:=C2.out.co.rd.cm.2.1 r2.at0;have e:qx=(Go.Proofs.YtpldoeeahhaimaaGreatDoor.rByte z n r2).1:=congrArg Prod.fst HQ.out;rw [e];unfold Go.Proofs.YtpldoeeahhaimaaGreatDoor.rByte;split;· simp
      · split
        · simp
        · exact this
     have hwr:IntKind.i64.wrap qx=qx:=wraps_i64 qx bq.1 (by have:=bq.2;simp;omega);clear bq;have TX:Hid (Calls Tryz.prog 74 #[.pointer (some ⟨mb,0,none⟩)] u2.drew fun e w'=>e = .returned (.int .u8 qx)/\Du w0 w w' mb pb a n cp z r3 { p with asks:=s } s 99 2 fs.length (askCells fs)):=by have D1:=C2.out.below ((Below.refl _ _).drew);refine (dbyte_any D1.co.rd).mono ?_;rw [<-HQ.out];exact fun e w' ⟨h1,h2,h3⟩=>⟨h1,D1.read h2 h3⟩
     have c24:u2.cell? ⟨pb,22,none⟩=some (.slice s.a s.n s.c):=C2.out.co.cell 22 _ rfl;go_wp2;first | go_region_law (first | (refine step_push rfl (.tmp 30) (.tmp 36) 35 rfl w.heap.size 99 i0 (.agg #[.string ⟨#[]⟩,.int .i64 0]) 2 24 Tryz.underlying35 hi hz0 hz1 hz2 agg_two (by decide) (.slice s.a s.n s.c) fs.length (askCells fs) rfl (C3.out.below ((Below.refl _ _).alloc (Nat.le_refl _) _)).own ⟨u3.heap.size,0,none⟩ 1 1 [.string tx,.int .i64 qx] rfl (by decide) rfl (cell_two_new _ _ _ _) (by intro u hu;simp at hu;rcases hu with rfl | rfl <;> rfl) (by have:=ML.out;unfold maxLen;omega) (by have:=ML.out;omega) (by have:=C3.out.grown;simp;omega) ?_;intro v3 u4 ho hg hne _;obtain ⟨s3,rfl,hs3,hn3⟩:=own_some ho hne;have C4:Hid (Du w0 w u4 mb pb a n cp z r3 { p with asks:=s } s3 99 2 (fs.length+1) (askCells fs++[.string tx,.int .i64 qx])):=(C3.out.below ((Below.refl _ _).alloc (Nat.le_refl _) _)).app ho hg;clear ho hg hne hs3 hn3;have c24d:u4.cell? ⟨pb,22,none⟩=some (.slice s.a s.n s.c):=C4.out.co.cell 22 _ rfl;have z24d:=C4.out.co.frozen 22)|(go_simp;go_wp2_with (go_at_call 74;refine TX.out.mono ?_;rintro e u3 ⟨rfl,hX⟩;have C3:Hid (Du w0 w u3 mb pb a n cp z r3 { p with asks:=s } s 99 2 fs.length (askCells fs)):=hX;clear hX;have c24b:u3.cell? ⟨pb,22,none⟩=some (.slice s.a s.n s.c):=C3.out.co.cell 22 _ rfl;have c24c:(u3.alloc (.cells #[.string tx,.int .i64 qx] 99)).cell? ⟨pb,22,none⟩=some (.slice s.a s.n s.c):=(C3.out.below ((Below.refl _ _).alloc (Nat.le_refl _) _)).co.cell 22 _ rfl))) | fail
     all_goals go_wp2
     all_goals go_roundg gg
     all_goals first | omega | exact ⟨r3,fs++[(tx,qx)],s3,by show Du _ _ _ _ _ _ _ _ _ _ _ _ _ _ _ _;rw [List.length_append,askCells_append];exact C4.out.set 22 _ _ rfl,E1.out,N1.out.1,N1.out.2⟩
    | false =>
     have hlt:decide (r'.at0<n)=false:=by have:=hm;unfold more at this;rw [hq] at this;simpa using this
     have EE:=hidi (EN.out _ C1.out hm);clear hm E0 M0 L0 EN hq FI;go_wp2_with (go_at_call 111;refine AT.out.mono ?_;rintro e w' ⟨rfl,he⟩;obtain rfl:=he.symm;clear he);go_end0;exact ⟨rfl,EE.out⟩
  · have hq':(r'.q==0)=false:=by simpa using hq
    have EE:=hidi (EN.out _ C1.out (by unfold more;simp [hq]));clear E0 M0 L0 EN hq FI;go_wp2_with fail;go_end0;exact ⟨rfl,EE.out⟩
theorem dnone_any {w0 w:World} {mb pb:Nat} {a:Option Addr} {n cp:Nat} {z:Nat->Int} {r:Rs} {p:Pk} {c:Cn} (h:Ds w0 w mb pb a n cp z r p c) (h8:¬ p.kind=8) (h9:¬ p.kind=9) (h10:¬ p.kind=10) :
 Calls Tryz.prog 78 #[.pointer (some ⟨mb,0,none⟩),.pointer (some ⟨pb,0,none⟩),.int .i64 n] w fun e w'=>e = .returned (.tuple #[])/\w'=w:=by
 have X:=hidi h;have k8:(p.kind==8)=false:=by simpa using h8
 have k9:(p.kind==9)=false:=by simpa using h9
 have k10:(p.kind==10)=false:=by simpa using h10
 have ck:w.cell? ⟨pb,0,none⟩=some (.int .i64 p.kind):=h.cell 0 _ rfl;have ce:=h.err.1;have AT:=hidi (ds_at h);clear h h8 h9 h10;go_enter Tryz.func78,Tryz.ntmps78;go_wp2_with fail;go_loopg [] 1 (fun gg wx=>wx=w);case atStart=>rfl
 case round =>
  obtain rfl:=hrel;by_cases hq:r.q=0
  · rw [hq] at ce
    by_cases hm:r.at0<n
    · go_wp2_with (go_at_call 111;refine AT.out.mono ?_;rintro e w' ⟨rfl,he⟩;obtain rfl:=he.symm;clear he)
      (try simp only [Exit.inBlock,Exit.then]);refine bodyPost_ret (results_none rfl _ _ _) rfl ?_;exact ⟨rfl,rfl⟩
    · have hm':decide (r.at0<n)=false:=by simpa using hm
      go_wp2_with (go_at_call 111;refine AT.out.mono ?_;rintro e w' ⟨rfl,he⟩;obtain rfl:=he.symm;clear he);go_end0;exact ⟨rfl,rfl⟩
  · have hq':(r.q==0)=false:=by simpa using hq
    go_wp2_with fail;go_end0;exact ⟨rfl,rfl⟩
def ackF (z:Nat->Int) (n:Nat):Nat->Rs->List Int->Rs×List Int | 0,r,fs=>(r,fs) | b+1,r,fs=>if more n r=true then ackF z n b (Go.Proofs.YtpldoeeahhaimaaGreatDoor.rByte z n r).2 (fs++[(Go.Proofs.YtpldoeeahhaimaaGreatDoor.rByte z n r).1]) else (r,fs)
theorem ackF_end {z:Nat->Int} {n:Nat} (b:Nat) (r:Rs) (fs:List Int) (h:more n r=false):ackF z n b r fs=(r,fs):=by cases b with | zero=>rfl | succ b=>simp [ackF,h]
theorem rByte_more {z:Nat->Int} {n:Nat} {r:Rs} (h:more n r=true):Go.Proofs.YtpldoeeahhaimaaGreatDoor.rByte z n r=(z r.at0,r.on 1):=by obtain ⟨hq,hlt⟩:=more_at h;unfold Go.Proofs.YtpldoeeahhaimaaGreatDoor.rByte;rw [if_neg (by simpa using hq),if_neg (by omega)]
theorem own_is {w:World} {base:Nat} {s:Sl} {fs:List Int} (h:w.ownsRow base 3 1 (.slice s.a s.n s.c) fs.length (fs.map (.int .i64))):Is w s (fun i=>fs.getD i 0)/\s.n=fs.length/\Nx base s:=by
 obtain ⟨a,m,c⟩:=s;rcases h.2 with ⟨e,hl⟩|⟨gg,cap,cur,e,h1,h2,h3,_,_,h6⟩
 · cases e
   exact ⟨⟨Nat.le_refl _,.inl rfl⟩,hl.symm,fun b off e=>by cases e⟩
 ·
  cases e;refine ⟨⟨h3,.inr ⟨gg,0,rfl,fun i hi=>?_⟩⟩,rfl,fun b off e=>by cases e;exact h1⟩;have hi':i<fs.length:=hi;have q:(fs.map (Value.int .i64))[i]?=some (.int .i64 (fs.getD i 0)):=by simp [hi']
  rw [<-h6,List.getElem?_take] at q;simp only [Nat.mul_one,hi',if_true,Array.getElem?_toList] at q;simp [World.cell?,h2,q]
def ackL (z:Nat->Int) (n:Nat) (r:Rs) (p:Pk) (c:Cn):Rs×Pk×Cn := ((ackF z n n r []).1,{ p with codes:=⟨none,(ackF z n n r []).2.length,0⟩ },{ c with cs:=fun i=>(ackF z n n r []).2.getD i 0 })
theorem dack_any {w0 w:World} {mb pb:Nat} {a:Option Addr} {n cp:Nat} {z:Nat->Int} {r:Rs} {p:Pk} {c:Cn} (h:Ds w0 w mb pb a n cp z r p c) (hf:p.codes=⟨none,0,0⟩) (hkd:p.kind=9) :
 Calls Tryz.prog 78 #[.pointer (some ⟨mb,0,none⟩),.pointer (some ⟨pb,0,none⟩),.int .i64 n] w fun e w'=>e = .returned (.tuple #[])/\DDone w0 w' mb pb a n cp z (ackL z n r p c):=by
 have LW:Hid (w0.heap.size<=w.heap.size):=h.size;have NF:Hid (n<=1000000):=by have:=h.rd.few;show n<=1000000;omega
 have XS:Hid (Ds w0 w mb pb a n cp z r p c):=h;have FN:Hid (p.codes=⟨none,0,0⟩):=hf;have KD:Hid (p.kind=9):=hkd;obtain ⟨Y,hY⟩:∃ Y,Y=ackL z n r p c:=⟨_,rfl⟩;rw [<-hY];obtain ⟨U,hU⟩:∃ s,s=ackF z n n r []:=⟨_,rfl⟩;have HS:Hid (Y=(U.1,{ p with codes:=⟨none,U.2.length,0⟩ },{ c with cs:=fun i=>U.2.getD i 0 })):=by show _=_;rw [hY,ackL,hU]
 have H2:Hid (U=ackF z n n r []):=hU;clear hY hU hf hkd;have U2:Hid (Du w0 w w mb pb a n cp z r p ⟨none,0,0⟩ 3 1 0 []):=⟨h.co,⟨rfl,.inl ⟨rfl,rfl⟩⟩,fun _ _ h _=>h,LW.out,h.rd.blocks,Nat.le_refl _⟩;clear h;obtain ⟨i0,hi,hz0,hz1,hz2⟩:=info_parts Tryz.info3;go_enter Tryz.func78,Tryz.ntmps78;go_wp2_with fail;go_loopg [] n (fun gg wx=>∃ (r':Rs) (fs:List Int) (s:Sl),Hid (Du w0 w wx mb pb a n cp z r' { p with codes:=s } s 3 1 fs.length (fs.map (.int .i64)))/\Hid (U=ackF z n gg r' fs)/\Hid (more n r'=true->n<=r'.at0+gg)/\Hid (more n r'=true->fs.length<=r'.at0));case atStart=>exact ⟨r,[],⟨none,0,0⟩,by rw [show ({ p with codes:=⟨none,0,0⟩ }:Pk)=p from by rw [<-FN.out]];exact U2.out,H2.out,fun _=>by omega,fun _=>Nat.zero_le _⟩
 case round =>
  obtain ⟨r',fs,s,C1,E0,M0,L0⟩:=hrel;have FI:Hid (more n r'=false->ackF z n gk r' fs=(r',fs)):=fun q=>ackF_end _ _ _ q;have EN:Hid (∀ v:World,Du w0 w v mb pb a n cp z r' { p with codes:=s } s 3 1 fs.length (fs.map (.int .i64))->more n r'=false->DDone w0 v mb pb a n cp z Y):=by intro v hv hm;rw [HS.out,E0.out,FI.out hm];obtain ⟨q1,q2,q3⟩:=own_is hv.own;have q:=In.keep XS.out.inn XS.out.nx hv.keep;have x:=XS.out.nx;exact ⟨{ p with codes:=s },hv.co.ds ⟨q.wP,q.pass,q.mP,q.asks,q1,q.filters⟩ ⟨x.wP,x.pass,x.mP,x.asks,fun b off e=>by have:=q3 b off e;have:=LW.out;omega,x.filters⟩,p.wP,p.pass,p.mP,p.asks,s,p.filters,rfl,rfl,rfl,rfl,rfl,q2,rfl⟩
  have ce:=C1.out.co.err;by_cases hq:r'.q=0
  · rw [hq] at ce
    have AT:=hidi (refAt_any C1.out.co.rd);cases hm:more n r' with
    | true =>
     have hlt:r'.at0<n:=(more_at hm).2;obtain ⟨tx,htx⟩:∃ y,y=Go.Proofs.YtpldoeeahhaimaaGreatDoor.rByte z n r':=⟨_,rfl⟩;have HT:Hid (tx=Go.Proofs.YtpldoeeahhaimaaGreatDoor.rByte z n r'):=htx;obtain ⟨gg,hgg⟩:∃ gg,gk=gg+1:=⟨gk-1,by have:=M0.out hm;have:=(more_at hm).2;omega⟩;have E1:Hid (U=ackF z n gg tx.2 (fs++[tx.1])):=by show _=_;rw [E0.out,hgg,ackF,if_pos hm,htx]
     have tx2:tx.2.at0=r'.at0+1:=by rw [htx,rByte_more hm];rfl
     have N1:Hid ((more n tx.2=true->n<=tx.2.at0+gg)/\(more n tx.2=true->(fs++[tx.1]).length<=tx.2.at0)):=by
      refine ⟨fun q=>?_,fun q=>?_⟩;· have a:=M0.out hm;omega
      · have a:=L0.out hm;simp only [List.length_append,List.length_singleton];omega
     have ML:Hid (fs.length<=1000000):=by have a:=L0.out hm;have b:=(more_at hm).2;have:=NF.out;show fs.length<=1000000;omega
     have bq:0<=tx.1/\tx.1<=255:=by rw [htx,rByte_more hm];exact C1.out.co.rd.cm.2.1 r'.at0
     clear htx tx2 hm E0 M0 L0 EN hq FI;obtain ⟨tx,r2⟩:=tx;simp only at E1 N1 bq;have hwr:IntKind.i64.wrap tx=tx:=wraps_i64 tx bq.1 (by have:=bq.2;simp;omega);clear bq;have ck:wr.cell? ⟨pb,0,none⟩=some (.int .i64 p.kind):=C1.out.co.cell 0 _ rfl;rw [KD.out] at ck;have TX:Hid (Calls Tryz.prog 74 #[.pointer (some ⟨mb,0,none⟩)] wr.drew fun e w'=>e = .returned (.int .u8 tx)/\Du w0 w w' mb pb a n cp z r2 { p with codes:=s } s 3 1 fs.length (fs.map (.int .i64))):=by have D1:=C1.out.below ((Below.refl _ _).drew);refine (dbyte_any D1.co.rd).mono ?_;rw [<-HT.out];exact fun e w' ⟨h1,h2,h3⟩=>⟨h1,D1.read h2 h3⟩
     have c24:wr.cell? ⟨pb,23,none⟩=some (.slice s.a s.n s.c):=C1.out.co.cell 23 _ rfl;go_wp2_with (go_at_call 111;refine AT.out.mono ?_;rintro e w' ⟨rfl,he⟩;obtain rfl:=he.symm;clear he);first | go_region_law (first | (refine step_push rfl (.tmp 46) (.tmp 50) 36 rfl w.heap.size 3 i0 (.int .i64 0) 1 8 Tryz.underlying36 hi hz0 hz1 hz2 rfl (by decide) (.slice s.a s.n s.c) fs.length (fs.map (.int .i64)) rfl (C2.out.below ((Below.refl _ _).alloc (Nat.le_refl _) _)).own ⟨u2.heap.size,0,none⟩ 1 1 [.int .i64 tx] rfl (by decide) rfl (cell_one_new _ _ _) (by intro u hu;simp at hu;subst hu;rfl) (by have:=ML.out;unfold maxLen;omega) (by have:=ML.out;omega) (by have:=C2.out.grown;simp;omega) ?_;intro v3 u3 ho hg hne _;obtain ⟨s3,rfl,hs3,hn3⟩:=own_some ho hne;have C3:Hid (Du w0 w u3 mb pb a n cp z r2 { p with codes:=s } s3 3 1 (fs.length+1) (fs.map (.int .i64)++[.int .i64 tx])):=(C2.out.below ((Below.refl _ _).alloc (Nat.le_refl _) _)).app ho hg;clear ho hg hne hs3 hn3;have c24d:u3.cell? ⟨pb,23,none⟩=some (.slice s.a s.n s.c):=C3.out.co.cell 23 _ rfl;have z24d:=C3.out.co.frozen 23)|(go_simp;go_wp2_with (go_at_call 74;refine TX.out.mono ?_;rintro e u2 ⟨rfl,hX⟩;have C2:Hid (Du w0 w u2 mb pb a n cp z r2 { p with codes:=s } s 3 1 fs.length (fs.map (.int .i64))):=hX;clear hX;have c24b:u2.cell? ⟨pb,23,none⟩=some (.slice s.a s.n s.c):=C2.out.co.cell 23 _ rfl;have c24c:(u2.alloc (.cells #[.int .i64 tx] 3)).cell? ⟨pb,23,none⟩=some (.slice s.a s.n s.c):=(C2.out.below ((Below.refl _ _).alloc (Nat.le_refl _) _)).co.cell 23 _ rfl))) | fail
     all_goals go_wp2
     all_goals go_roundg gg
     all_goals first | omega | exact ⟨r2,fs++[tx],s3,by show Du _ _ _ _ _ _ _ _ _ _ _ _ _ _ _ _;rw [List.length_append,List.map_append];exact C3.out.set 23 _ _ rfl,E1.out,N1.out.1,N1.out.2⟩
    | false =>
     have hlt:decide (r'.at0<n)=false:=by have:=hm;unfold more at this;rw [hq] at this;simpa using this
     have EE:=hidi (EN.out _ C1.out hm);clear hm E0 M0 L0 EN hq FI;go_wp2_with (go_at_call 111;refine AT.out.mono ?_;rintro e w' ⟨rfl,he⟩;obtain rfl:=he.symm;clear he);go_end0;exact ⟨rfl,EE.out⟩
  · have hq':(r'.q==0)=false:=by simpa using hq
    have EE:=hidi (EN.out _ C1.out (by unfold more;simp [hq]));clear E0 M0 L0 EN hq FI;go_wp2_with fail;go_end0;exact ⟨rfl,EE.out⟩
end Go.Proofs.YtpldoeeahhaimaaGreatDoor.Dr
