import Derived.Test.YtceigllifjgalaaGreatDoorFdi
import Derived.Test.YtceigllifjgalaaGreatDoorPRh
namespace Go.Proofs.YtceigllifjgalaaGreatDoor
open Go Go.RowKit
open Pkt (Pk Cn Sl In By Is Ss As pkCells)
set_option linter.unusedSimpArgs false
set_option linter.unusedVariables false
set_option maxRecDepth 100000
set_option maxHeartbeats 4000000
theorem Tryz.info9:(Tryz.prog.info? 9).map (fun i=>(i.zero,i.size,i.bytes))=some (some (.string ⟨#[]⟩),1,16):=by kernel_rfl
structure Un (w0 w wx:World) (rb g n cp pb:Nat) (z:Nat->Int) (r:Rs) (P:Pk) (s:Sl) (e k m:Nat) (xs:List Value):Prop where
 co:Co w0 wx rb g n cp pb z r P
 own:wx.ownsRow (w.heap.size+1) e k (.slice s.a s.n s.c) m xs
 keep:Keep w0.heap.size w wx
 box:wx.heap[w.heap.size]?=some (.cells #[.pointer (some ⟨rb,0,none⟩),.int .i64 n] 244 (0,0))
 big:w0.heap.size<=w.heap.size
 gb:0<n->g<w.heap.size
section
variable {w0 w wx w':World} {rb g n cp pb:Nat} {z:Nat->Int} {r r':Rs} {P P':Pk} {s s':Sl} {e k m m':Nat} {xs xs':List Value}
theorem Un.read (h:Un w0 w wx rb g n cp pb z r P s e k m xs) (hr:Rdr w' rb g n cp z r') (hg:wx.grownBy w' (some rb)):Un w0 w w' rb g n cp pb z r' P s e k m xs where
 co:=h.co.read hr hg
 own:=zc3 h.own hg (fun x q=>by cases q;have:=h.co.lr;have:=h.big;omega)
 keep:=h.keep.trans (zb8 hg h.co.lr)
 box:=(hg.block _ (lt_of_block h.box) (fun q=>by cases q;have:=h.co.lr;have:=h.big;omega)).trans h.box
 big:=h.big
 gb:=h.gb
theorem Un.below (h:Un w0 w wx rb g n cp pb z r P s e k m xs) (hb:Below wx.heap.size wx w'):Un w0 w w' rb g n cp pb z r P s e k m xs:=h.read (h.co.rd.below hb) (zad hb)
theorem Un.set (h:Un w0 w wx rb g n cp pb z r P s e k m xs) (i:Nat) (v:Value) (P':Pk) (hp:(pkCells P).setIfInBounds i v=pkCells P'):Un w0 w (wx.setCell ⟨pb,i,none⟩ v) rb g n cp pb z r P' s e k m xs where
 co:=h.co.set i v P' hp
 own:=zc3 h.own ze3 (fun x q=>by cases q;have:=h.co.lp;have:=h.big;omega)
 keep:=h.keep.trans (zbC h.co.lp)
 box:=(ze3.block _ (lt_of_block h.box) (fun q=>by cases q;have:=h.co.lp;have:=h.big;omega)).trans h.box
 big:=h.big
 gb:=h.gb
theorem Un.app (h:Un w0 w wx rb g n cp pb z r P s e k m xs) (ho:w'.ownsRow (w.heap.size+1) e k (.slice s'.a s'.n s'.c) m' xs') (hg:wx.grownBy w' (Value.slice s.a s.n s.c).ownBlock):Un w0 w w' rb g n cp pb z r P s' e k m' xs' where
 co:=h.co.grow (B:=w.heap.size+1) hg (own_lt h.own) (by have:=h.big;omega) (fun q=>by have:=h.gb q;omega)
 own:=ho
 keep:=h.keep.grow (B:=w.heap.size+1) hg (own_lt h.own) (by omega)
 box:=(hg.block _ (lt_of_block h.box) (fun q=>by have:=own_lt h.own _ q.symm;omega)).trans h.box
 big:=h.big
 gb:=h.gb
theorem Un.bx (h:Un w0 w wx rb g n cp pb z r P s e k m xs):wx.cell? ⟨w.heap.size,0,none⟩=some (.pointer (some ⟨rb,0,none⟩)):=by simp [World.cell?,h.box]
end
theorem own_ss {w:World} {base:Nat} {s:Sl} {fs:List ByteArray} (h:w.ownsRow base 9 1 (.slice s.a s.n s.c) fs.length (fs.map .string)):Ss w s (fun i=>fs.getD i ⟨#[]⟩)/\s.n=fs.length/\Nx base s:=by
 obtain ⟨a,m,c⟩:=s;rcases h.2 with ⟨e,hl⟩|⟨gg,cap,cur,e,h1,h2,h3,_,_,h6⟩
 · cases e
   exact ⟨⟨Nat.le_refl _,.inl rfl⟩,hl.symm,fun b off e=>by cases e⟩
 ·
  cases e;refine ⟨⟨h3,.inr ⟨gg,0,rfl,fun i hi=>?_⟩⟩,rfl,fun b off e=>by cases e;exact h1⟩;have hi':i<fs.length:=hi;have q:(fs.map Value.string)[i]?=some (.string (fs.getD i ⟨#[]⟩)):=by simp [hi']
  rw [<-h6,List.getElem?_take] at q;simp only [Nat.mul_one,hi',if_true,Array.getElem?_toList] at q;simp [World.cell?,h2,q]
def unsF (z:Nat->Int) (n:Nat):Nat->Rs->List ByteArray->Rs×List ByteArray | 0,r,fs=>(r,fs) | b+1,r,fs=>if more n r=true then unsF z n b (rText z n r).2 (fs++[(rText z n r).1]) else (r,fs)
theorem zbV {z:Nat->Int} {n:Nat} (b:Nat) (r:Rs) (fs:List ByteArray) (h:more n r=false):unsF z n b r fs=(r,fs):=by cases b with | zero=>rfl | succ b=>simp [unsF,h]
theorem zau {n:Nat} {r:Rs} (h:more n r=true):r.q=0/\r.at0<n:=by simpa [more] using h
theorem zbg {z:Nat->Int} {n:Nat} {r:Rs} (h:more n r=true) (h':more n (rText z n r).2=true):r.at0+2<=(rText z n r).2.at0:=by
 obtain ⟨hq,hlt⟩:=zau h;have hq':=(zau h').1;revert hq';unfold rText;rw [if_neg (by simpa using hq)];split;· intro q;cases q
 split;· intro q;cases q
 split;· rename_i hc;intro q;have q':((chk (txtAt z r.at0 (two z r.at0))).2:Int)=0:=q;exact absurd (by omega) hc
 · intro _;show r.at0+2<=r.at0+(2+two z r.at0);omega
def unsP (z:Nat->Int) (n:Nat) (r:Rs) (p:Pk) (c:Cn):Rs×Pk×Cn := ((unsF z n n (rNum z n r).2 []).1,{ p with id:=(rNum z n r).1,filters:=⟨none,(unsF z n n (rNum z n r).2 []).2.length,0⟩ },{ c with fs:=fun i=>(unsF z n n (rNum z n r).2 []).2.getD i ⟨#[]⟩ })
theorem uns_any {w0 w:World} {rb g n cp pb:Nat} {z:Nat->Int} {r:Rs} {p:Pk} {c:Cn} (h:Cs w0 w rb g n cp pb z r p c) (hf:p.filters=⟨none,0,0⟩) (hz:p.wP=⟨none,0,0⟩/\p.pass=⟨none,0,0⟩/\p.mP=⟨none,0,0⟩/\p.asks=⟨none,0,0⟩/\p.codes=⟨none,0,0⟩) :
 Calls Tryz.prog 265 #[.agg #[.pointer (some ⟨rb,0,none⟩),.int .i64 n],.pointer (some ⟨pb,0,none⟩)] w fun e w'=>e = .returned (.tuple #[])/\Done w0 w' rb g n cp pb z (unsP z n r p c):=by
 have LW:=Hi h.size;have LR:Hid (rb<w0.heap.size/\pb<w0.heap.size):=⟨h.lr,h.lp⟩;have NF:Hid (n<=1000000):=by have:=h.rd.rb.few;show n<=1000000;omega
 have XS:=Hi h;have HZ:=Hi hz;clear hz;have FN:=Hi hf;obtain ⟨Y,hY⟩:∃ Y,Y=unsP z n r p c:=⟨_,rfl⟩;rw [<-hY];obtain ⟨t,ht⟩:∃ t,t=rNum z n r:=⟨_,rfl⟩;obtain ⟨U,hU⟩:∃ s,s=unsF z n n t.2 []:=⟨_,rfl⟩;have HS:Hid (Y=(U.1,{ p with id:=t.1,filters:=⟨none,U.2.length,0⟩ },{ c with fs:=fun i=>U.2.getD i ⟨#[]⟩ })):=by show _=_;rw [hY,unsP,hU,ht]
 have H1:=Hi ht;have H2:=Hi hU;clear hY ht hU hf;obtain ⟨t,r1⟩:=t;simp only at H2 HS;have X0:Hid (Cs w0 (w.alloc (.cells #[.pointer (some ⟨rb,0,none⟩),.int .i64 n] 244)) rb g n cp pb z r p c):=h.below ((Below.refl _ _).alloc (Nat.le_refl _) _);have BX0:Hid ((w.alloc (.cells #[.pointer (some ⟨rb,0,none⟩),.int .i64 n] 244)).cell? ⟨w.heap.size,0,none⟩=some (.pointer (some ⟨rb,0,none⟩))):=by show _=_;simp [go_sem]
 have GB:Hid (0<n->g<w.heap.size):=fun q=>World.block_lt_of_cell? _ _ (h.rd.rb.own.2 0 q);clear h;obtain ⟨i0,hi,hz0,hz1,hz2⟩:=info_parts Tryz.info9;go_enter Tryz.func265,Tryz.ntmps265;have bx:=BX0.out;go_wp2_with fail;go_must (go_at_call 266);clear bx;refine (zaU X0.out.rd).mono ?_;rw [<-H1.out];rintro e v1 ⟨rfl,hr,hg⟩;have X1:=Hi (X0.out.read hr hg);have BX1:Hid (v1.cell? ⟨w.heap.size,0,none⟩=some (.pointer (some ⟨rb,0,none⟩))):=hg.cell BX0.out (by have:=LR.out;have:=LW.out;simp;omega);have KP1:Hid (Keep w0.heap.size w v1):=(zdk ((Below.refl _ _).alloc (Nat.le_refl _) _)).trans (zb8 hg LR.out.1);have BB1:Hid (v1.heap[w.heap.size]?=some (.cells #[.pointer (some ⟨rb,0,none⟩),.int .i64 n] 244 (0,0))):=(hg.block w.heap.size (by simp) (fun q=>by cases q;have:=LR.out;have:=LW.out;omega)).trans (heap_alloc_new w _);clear hr hg;have e21:=X1.out.cell 21 (.int .i64 p.id) rfl;have z21:=X1.out.frozen 21;have U1:Hid (Un w0 w v1 rb g n cp pb z r1 p ⟨none,0,0⟩ 9 1 0 []):=⟨X1.out.co,⟨rfl,.inl ⟨rfl,rfl⟩⟩,KP1.out,BB1.out,LW.out,GB.out⟩;have U2:Hid (Un w0 w (v1.setCell ⟨pb,21,none⟩ (.int .i64 t)) rb g n cp pb z r1 { p with id:=t } ⟨none,0,0⟩ 9 1 0 []):=U1.out.set 21 _ _ rfl;go_wp2_with fail;clear e21 z21;go_loopg [] n (fun gg wx=>∃ (r':Rs) (fs:List ByteArray) (s:Sl),Hid (Un w0 w wx rb g n cp pb z r' { p with id:=t,filters:=s } s 9 1 fs.length (fs.map .string))/\Hid (U=unsF z n gg r' fs)/\Hid (more n r'=true->n<=r'.at0+gg)/\Hid (more n r'=true->fs.length<=r'.at0));case atStart=>exact ⟨r1,[],⟨none,0,0⟩,by rw [<-FN.out];exact FN.out ▸ U2.out,H2.out,fun _=>by omega,fun _=>Nat.zero_le _⟩
 case round =>
  obtain ⟨r',fs,s,C0,E0,M0,L0⟩:=hrel;have b0:=C0.out.bx;have b1:wr.cell? ⟨w.heap.size,1,none⟩=some (.int .i64 n):=by have q:=C0.out.box;simp [World.cell?,q]
  go_wp2_with fail;go_must (go_at_call 293);refine (zeC C0.out.co.rd).mono ?_;rintro e u1 ⟨rfl,hb⟩;have C1:=Hi (C0.out.below hb);clear hb C0 b0 b1;cases hm:more n r' with
  | true =>
   obtain ⟨tx,htx⟩:∃ y,y=rText z n r':=⟨_,rfl⟩;have HM:=Hi hm;have HT:=Hi htx;obtain ⟨gg,hgg⟩:∃ gg,gk=gg+1:=⟨gk-1,by have:=M0.out hm;have:=(zau hm).2;omega⟩;have E1:Hid (U=unsF z n gg tx.2 (fs++[tx.1])):=by show _=_;rw [E0.out,hgg,unsF,if_pos hm,htx]
   have N1:Hid ((more n tx.2=true->n<=tx.2.at0+gg)/\(more n tx.2=true->(fs++[tx.1]).length<=tx.2.at0)):=by
    refine ⟨fun q=>?_,fun q=>?_⟩;· have a:=M0.out hm;rw [htx] at q ⊢;have b:=zbg hm q;omega
    · have a:=L0.out hm;rw [htx] at q ⊢;have b:=zbg hm q;simp only [List.length_append,List.length_singleton];omega
   have ML:Hid (fs.length<=1000000):=by have a:=L0.out hm;have b:=(zau hm).2;have:=NF.out;show fs.length<=1000000;omega
   clear htx hm E0 M0 L0;obtain ⟨tx,r2⟩:=tx;simp only at E1 N1;have TX:Hid (Calls Tryz.prog 289 #[.pointer (some ⟨rb,0,none⟩)] u1.drew fun e w'=>e = .returned (.string tx)/\Un w0 w w' rb g n cp pb z r2 { p with id:=t,filters:=s } s 9 1 fs.length (fs.map .string)):=by have D1:=C1.out.below ((Below.refl _ _).drew);refine (zaR D1.co.rd).mono ?_;rw [<-HT.out];exact fun e w' ⟨h1,h2,h3⟩=>⟨h1,D1.read h2 h3⟩
   have c24:u1.cell? ⟨pb,24,none⟩=some (.slice s.a s.n s.c):=C1.out.co.cell 24 _ rfl;have bx:u1.cell? ⟨w.heap.size,0,none⟩=some (.pointer (some ⟨rb,0,none⟩)):=C1.out.bx;go_wp2;first | go_region_law (first | (refine zbs rfl (.tmp 16) (.tmp 20) 27 rfl (w.heap.size+1) 9 i0 (.string ⟨#[]⟩) 1 16 Tryz.underlying27 hi hz0 hz1 hz2 rfl (by decide) (.slice s.a s.n s.c) fs.length (fs.map .string) rfl (C2.out.below ((Below.refl _ _).alloc (Nat.le_refl _) _)).own ⟨u2.heap.size,0,none⟩ 1 1 [.string tx] rfl (by decide) rfl (cell_one_new _ _ _) (by intro u hu;simp at hu;subst hu;rfl) (by have:=ML.out;unfold maxLen;omega) (by have:=ML.out;omega) (by have:=lt_of_block C2.out.box;simp;omega) ?_;intro v3 u3 ho hg hne _;obtain ⟨s3,rfl,hs3,hn3⟩:=zbU ho hne;have C3:Hid (Un w0 w u3 rb g n cp pb z r2 { p with id:=t,filters:=s } s3 9 1 (fs.length+1) (fs.map .string++[.string tx])):=(C2.out.below ((Below.refl _ _).alloc (Nat.le_refl _) _)).app ho hg;clear ho hg hne hs3 hn3;have c24d:u3.cell? ⟨pb,24,none⟩=some (.slice s.a s.n s.c):=C3.out.co.cell 24 _ rfl;have z24d:=C3.out.co.frozen 24)|(go_simp;go_wp2_with (go_at_call 289;refine TX.out.mono ?_;rintro e u2 ⟨rfl,hX⟩;have C2:Hid (Un w0 w u2 rb g n cp pb z r2 { p with id:=t,filters:=s } s 9 1 fs.length (fs.map .string)):=hX;clear hX;have c24b:u2.cell? ⟨pb,24,none⟩=some (.slice s.a s.n s.c):=C2.out.co.cell 24 _ rfl;have c24c:(u2.alloc (.cells #[.string tx] 9)).cell? ⟨pb,24,none⟩=some (.slice s.a s.n s.c):=(C2.out.below ((Below.refl _ _).alloc (Nat.le_refl _) _)).co.cell 24 _ rfl))) | fail
   all_goals go_wp2
   all_goals go_roundg gg
   all_goals first | omega | exact ⟨r2,fs++[tx],s3,by show Un _ _ _ _ _ _ _ _ _ _ _ _ _ _ _ _;rw [List.length_append,List.map_append];exact C3.out.set 24 _ _ rfl,E1.out,N1.out.1,N1.out.2⟩
  | false =>
   have HU:Hid (U=(r',fs)):=by show _=_;rw [E0.out];exact zbV _ _ _ hm
   clear hm;go_wp2;go_end0;rw [HS.out,HU.out];obtain ⟨q1,q2,q3⟩:=own_ss C1.out.own;have q:=In.keep XS.out.inn XS.out.nx C1.out.keep;have x:=XS.out.nx;exact ⟨rfl,{ p with id:=t,filters:=s },C1.out.co.cs ⟨q.wP,q.pass,q.mP,q.asks,q.codes,q1⟩ ⟨x.wP,x.pass,x.mP,x.asks,x.codes,fun b off e=>by have:=q3 b off e;have:=LW.out;omega⟩ ⟨HZ.out.1 ▸ ow_nil _ _ _ _,HZ.out.2.1 ▸ ow_nil _ _ _ _,HZ.out.2.2.1 ▸ ow_nil _ _ _ _,HZ.out.2.2.2.1 ▸ ow_nil _ _ _ _,HZ.out.2.2.2.2 ▸ ow_nil _ _ _ _,(ow_of C1.out.own).lower (by have:=C1.out.big;omega),by unfold six;simp [HZ.out.1,HZ.out.2.1,HZ.out.2.2.1,HZ.out.2.2.2.1,HZ.out.2.2.2.2,(ze7 _).1]⟩,p.wP,p.pass,p.mP,p.asks,p.codes,s,rfl,rfl,rfl,rfl,rfl,rfl,q2⟩
section
variable {w:World} {z:Nat->Int} {n:Nat} {r:Rs}
theorem Tryz.info98:(Tryz.prog.info? 98).map (fun i=>(i.zero,i.size,i.bytes))=some (some (.agg #[.string ⟨#[]⟩,.int .i64 0]),2,24):=by kernel_rfl
theorem zf8:(Value.agg #[.string ⟨#[]⟩,.int .i64 0]).cells.size=2:=by first | rfl | kernel_rfl | simp [go_sem]
theorem zcn (w:World) (x y:Value) (t:TypeId):∀ j u,[x,y][j]?=some u->(w.alloc (.cells #[x,y] t)).cell? (Addr.add ⟨w.heap.size,0,none⟩ j)=some u:=by
 intro j u h;match j with
 | 0=>simp at h;subst h;unfold World.cell?;rw [show (Addr.add ⟨w.heap.size,0,none⟩ 0).block=w.heap.size from rfl,heap_alloc_new];rfl;| 1=>simp at h;subst h;unfold World.cell?;rw [show (Addr.add ⟨w.heap.size,0,none⟩ 1).block=w.heap.size from rfl,heap_alloc_new];rfl;| k+2=>simp at h
def askCells (L:List (ByteArray×Int)):List Value:=L.flatMap fun x=>[.string x.1,.int .i64 x.2]
theorem askCells_at (L:List (ByteArray×Int)) (i:Nat) (hi:i<L.length):(askCells L)[i*2]?=some (.string (L.getD i (⟨#[]⟩,0)).1)/\(askCells L)[i*2+1]?=some (.int .i64 (L.getD i (⟨#[]⟩,0)).2):=by induction L generalizing i with | nil=>simp at hi | cons x L ih => cases i with | zero=>exact ⟨rfl,rfl⟩ | succ i => have h:=ih i (by simpa using hi);have e:askCells (x::L) = .string x.1 :: .int .i64 x.2::askCells L:=rfl;rw [e,show (i+1)*2=i*2+1+1 by omega];simp only [List.getElem?_cons_succ,List.getD_cons_succ];exact h
theorem zbA (L:List (ByteArray×Int)) (x:ByteArray×Int):askCells (L++[x])=askCells L++[.string x.1,.int .i64 x.2]:=by simp [askCells]
theorem own_as {base:Nat} {s:Sl} {L:List (ByteArray×Int)} (h:w.ownsRow base 98 2 (.slice s.a s.n s.c) L.length (askCells L)):As w s (fun i=>(L.getD i (⟨#[]⟩,0)).1) (fun i=>(L.getD i (⟨#[]⟩,0)).2)/\s.n=L.length/\Nx base s:=by
 obtain ⟨a,m,c⟩:=s;rcases h.2 with ⟨e,hl⟩|⟨gg,cap,cur,e,h1,h2,h3,_,_,h6⟩
 · cases e
   exact ⟨⟨Nat.le_refl _,.inl rfl⟩,hl.symm,fun b off e=>by cases e⟩
 ·
  cases e;refine ⟨⟨h3,.inr ⟨gg,0,rfl,fun i hi=>?_⟩⟩,rfl,fun b off e=>by cases e;exact h1⟩;have hi':i<L.length:=hi;obtain ⟨q1,q2⟩:=askCells_at L i hi';rw [<-h6,List.getElem?_take] at q1 q2;have l1:i*2<L.length*2:=by omega
  have l2:i*2+1<L.length*2:=by omega
  simp only [l1,if_true,Array.getElem?_toList] at q1;simp only [l2,if_true,Array.getElem?_toList] at q2;simp only [Nat.zero_add];exact ⟨by simp [World.cell?,h2,q1],by simp [World.cell?,h2,q2]⟩
def subF (z:Nat->Int) (n:Nat):Nat->Rs->List (ByteArray×Int)->Rs×List (ByteArray×Int) | 0,r,L=>(r,L) | b+1,r,L=>if more n r=true then subF z n b (rByte z n (rText z n r).2).2 (L++[((rText z n r).1,(rByte z n (rText z n r).2).1)]) else (r,L)
theorem zc1 (b:Nat) (r:Rs) (L:List (ByteArray×Int)) (h:more n r=false):subF z n b r L=(r,L):=by cases b with | zero=>rfl | succ b=>simp [subF,h]
theorem rByte_on (h':more n (rByte z n r).2=true):more n r=true/\r.at0<=(rByte z n r).2.at0:=by
 obtain ⟨hq',hl'⟩:=zau h';revert hq' hl';unfold rByte;split;· rename_i hq;intro q;exact absurd q hq
 ·
  rename_i hq;split;· intro q;cases q
  · intro _ hl;have hl2:r.at0+1<n:=hl;refine ⟨?_,Nat.le_add_right _ _⟩;unfold more;rw [decide_eq_true (alive hq),decide_eq_true (by omega)];rfl
theorem sub_on (h:more n r=true) (h':more n (rByte z n (rText z n r).2).2=true):r.at0+2<=(rByte z n (rText z n r).2).2.at0:=by obtain ⟨h1,h2⟩:=rByte_on h';have:=zbg h h1;omega
def subP (z:Nat->Int) (n:Nat) (r:Rs) (p:Pk) (c:Cn):Rs×Pk×Cn := ((subF z n n (rNum z n r).2 []).1,{ p with id:=(rNum z n r).1,asks:=⟨none,(subF z n n (rNum z n r).2 []).2.length,0⟩ },{ c with af:=fun i=>((subF z n n (rNum z n r).2 []).2.getD i (⟨#[]⟩,0)).1,aq:=fun i=>((subF z n n (rNum z n r).2 []).2.getD i (⟨#[]⟩,0)).2 })
theorem sub_any {w0:World} {rb g cp pb:Nat} {p:Pk} {c:Cn} (h:Cs w0 w rb g n cp pb z r p c) (hf:p.asks=⟨none,0,0⟩) (hz:p.wP=⟨none,0,0⟩/\p.pass=⟨none,0,0⟩/\p.mP=⟨none,0,0⟩/\p.codes=⟨none,0,0⟩/\p.filters=⟨none,0,0⟩) :
 Calls Tryz.prog 263 #[.agg #[.pointer (some ⟨rb,0,none⟩),.int .i64 n],.pointer (some ⟨pb,0,none⟩)] w fun e w'=>e = .returned (.tuple #[])/\Done w0 w' rb g n cp pb z (subP z n r p c):=by
 have LW:=Hi h.size;have LR:Hid (rb<w0.heap.size/\pb<w0.heap.size):=⟨h.lr,h.lp⟩;have NF:Hid (n<=1000000):=by have:=h.rd.rb.few;show n<=1000000;omega
 have XS:=Hi h;have HZ:=Hi hz;clear hz;have FN:=Hi hf;obtain ⟨Y,hY⟩:∃ Y,Y=subP z n r p c:=⟨_,rfl⟩;rw [<-hY];obtain ⟨t,ht⟩:∃ t,t=rNum z n r:=⟨_,rfl⟩;obtain ⟨U,hU⟩:∃ s,s=subF z n n t.2 []:=⟨_,rfl⟩;have HS:Hid (Y=(U.1,{ p with id:=t.1,asks:=⟨none,U.2.length,0⟩ },{ c with af:=fun i=>(U.2.getD i (⟨#[]⟩,0)).1,aq:=fun i=>(U.2.getD i (⟨#[]⟩,0)).2 })):=by show _=_;rw [hY,subP,hU,ht]
 have H1:=Hi ht;have H2:=Hi hU;clear hY ht hU hf;obtain ⟨t,r1⟩:=t;simp only at H2 HS;have X0:Hid (Cs w0 (w.alloc (.cells #[.pointer (some ⟨rb,0,none⟩),.int .i64 n] 244)) rb g n cp pb z r p c):=h.below ((Below.refl _ _).alloc (Nat.le_refl _) _);have BX0:Hid ((w.alloc (.cells #[.pointer (some ⟨rb,0,none⟩),.int .i64 n] 244)).cell? ⟨w.heap.size,0,none⟩=some (.pointer (some ⟨rb,0,none⟩))):=by show _=_;simp [go_sem]
 have GB:Hid (0<n->g<w.heap.size):=fun q=>World.block_lt_of_cell? _ _ (h.rd.rb.own.2 0 q);clear h;obtain ⟨i0,hi,hz0,hz1,hz2⟩:=info_parts Tryz.info98;go_enter Tryz.func263,Tryz.ntmps263;have bx:=BX0.out;go_wp2_with fail;go_must (go_at_call 266);clear bx;refine (zaU X0.out.rd).mono ?_;rw [<-H1.out];rintro e v1 ⟨rfl,hr,hg⟩;have X1:=Hi (X0.out.read hr hg);have BX1:Hid (v1.cell? ⟨w.heap.size,0,none⟩=some (.pointer (some ⟨rb,0,none⟩))):=hg.cell BX0.out (by have:=LR.out;have:=LW.out;simp;omega);have KP1:Hid (Keep w0.heap.size w v1):=(zdk ((Below.refl _ _).alloc (Nat.le_refl _) _)).trans (zb8 hg LR.out.1);have BB1:Hid (v1.heap[w.heap.size]?=some (.cells #[.pointer (some ⟨rb,0,none⟩),.int .i64 n] 244 (0,0))):=(hg.block w.heap.size (by simp) (fun q=>by cases q;have:=LR.out;have:=LW.out;omega)).trans (heap_alloc_new w _);clear hr hg;have e21:=X1.out.cell 21 (.int .i64 p.id) rfl;have z21:=X1.out.frozen 21;have U1:Hid (Un w0 w v1 rb g n cp pb z r1 p ⟨none,0,0⟩ 98 2 0 []):=⟨X1.out.co,⟨rfl,.inl ⟨rfl,rfl⟩⟩,KP1.out,BB1.out,LW.out,GB.out⟩;have U2:Hid (Un w0 w (v1.setCell ⟨pb,21,none⟩ (.int .i64 t)) rb g n cp pb z r1 { p with id:=t } ⟨none,0,0⟩ 98 2 0 []):=U1.out.set 21 _ _ rfl;go_wp2_with fail;clear e21 z21;go_loopg [] n (fun gg wx=>∃ (r':Rs) (fs:List (ByteArray×Int)) (s:Sl),Hid (Un w0 w wx rb g n cp pb z r' { p with id:=t,asks:=s } s 98 2 fs.length (askCells fs))/\Hid (U=subF z n gg r' fs)/\Hid (more n r'=true->n<=r'.at0+gg)/\Hid (more n r'=true->fs.length<=r'.at0));case atStart=>exact ⟨r1,[],⟨none,0,0⟩,by rw [<-FN.out];exact FN.out ▸ U2.out,H2.out,fun _=>by omega,fun _=>Nat.zero_le _⟩
 case round =>
  obtain ⟨r',fs,s,C0,E0,M0,L0⟩:=hrel;have b0:=C0.out.bx;have b1:wr.cell? ⟨w.heap.size,1,none⟩=some (.int .i64 n):=by have q:=C0.out.box;simp [World.cell?,q]
  go_wp2_with fail;go_must (go_at_call 293);refine (zeC C0.out.co.rd).mono ?_;rintro e u1 ⟨rfl,hb⟩;have C1:=Hi (C0.out.below hb);clear hb C0 b0 b1;cases hm:more n r' with
  | true =>
   obtain ⟨tx,htx⟩:∃ y,y=rText z n r':=⟨_,rfl⟩;obtain ⟨qx,hqx⟩:∃ y,y=rByte z n tx.2:=⟨_,rfl⟩;have HT:=Hi htx;have HQ:=Hi hqx;obtain ⟨gg,hgg⟩:∃ gg,gk=gg+1:=⟨gk-1,by have:=M0.out hm;have:=(zau hm).2;omega⟩;have E1:Hid (U=subF z n gg qx.2 (fs++[(tx.1,qx.1)])):=by show _=_;rw [E0.out,hgg,subF,if_pos hm,hqx,htx]
   have N1:Hid ((more n qx.2=true->n<=qx.2.at0+gg)/\(more n qx.2=true->(fs++[(tx.1,qx.1)]).length<=qx.2.at0)):=by
    refine ⟨fun q=>?_,fun q=>?_⟩;· have a:=M0.out hm;rw [hqx,htx] at q ⊢;have b:=sub_on hm q;omega
    · have a:=L0.out hm;have b:r'.at0+2<=qx.2.at0:=(by rw [hqx,htx] at q ⊢;exact sub_on hm q);simp only [List.length_append,List.length_singleton];omega
   have ML:Hid (fs.length<=1000000):=by have a:=L0.out hm;have b:=(zau hm).2;have:=NF.out;show fs.length<=1000000;omega
   clear htx hqx E0 M0 L0;obtain ⟨tx,r2⟩:=tx;obtain ⟨qx,r3⟩:=qx;simp only at E1 N1 HQ;have bx:=C1.out.bx;go_wp2_with fail;go_must (go_at_call 289);clear bx;refine (zaR C1.out.co.rd).mono ?_;rw [<-HT.out];rintro e u2 ⟨rfl,hr,hg⟩;have C2:=Hi (C1.out.read hr hg);clear hr hg hm;have bq:0<=qx/\qx<=255:=by have h:=zbq (z:=z) (n:=n) C2.out.co.rd;rw [<-HQ.out] at h;exact h
   have hwr:IntKind.i64.wrap qx=qx:=zbb qx bq.1 (by have:=bq.2;simp;omega);have TX:Hid (Calls Tryz.prog 219 #[.pointer (some ⟨rb,0,none⟩)] u2.drew fun e w'=>e = .returned (.int .u8 qx)/\Un w0 w w' rb g n cp pb z r3 { p with id:=t,asks:=s } s 98 2 fs.length (askCells fs)):=by have D1:=C2.out.below ((Below.refl _ _).drew);refine (zbh D1.co.rd).mono ?_;rw [<-HQ.out];exact fun e w' ⟨h1,h2,h3⟩=>⟨h1,D1.read h2 h3⟩
   have c24:u2.cell? ⟨pb,22,none⟩=some (.slice s.a s.n s.c):=C2.out.co.cell 22 _ rfl;have bx:u2.cell? ⟨w.heap.size,0,none⟩=some (.pointer (some ⟨rb,0,none⟩)):=C2.out.bx;go_wp2;first | go_region_law (first | (refine zbs rfl (.tmp 20) (.tmp 27) 25 rfl (w.heap.size+1) 98 i0 (.agg #[.string ⟨#[]⟩,.int .i64 0]) 2 24 Tryz.underlying25 hi hz0 hz1 hz2 zf8 (by decide) (.slice s.a s.n s.c) fs.length (askCells fs) rfl (C3.out.below ((Below.refl _ _).alloc (Nat.le_refl _) _)).own ⟨u3.heap.size,0,none⟩ 1 1 [.string tx,.int .i64 qx] rfl (by decide) rfl (zcn _ _ _ _) (by intro u hu;simp at hu;rcases hu with rfl | rfl <;> rfl) (by have:=ML.out;unfold maxLen;omega) (by have:=ML.out;omega) (by have:=lt_of_block C3.out.box;simp;omega) ?_;intro v3 u4 ho hg hne _;obtain ⟨s3,rfl,hs3,hn3⟩:=zbU ho hne;have C4:Hid (Un w0 w u4 rb g n cp pb z r3 { p with id:=t,asks:=s } s3 98 2 (fs.length+1) (askCells fs++[.string tx,.int .i64 qx])):=(C3.out.below ((Below.refl _ _).alloc (Nat.le_refl _) _)).app ho hg;clear ho hg hne hs3 hn3;have c24d:u4.cell? ⟨pb,22,none⟩=some (.slice s.a s.n s.c):=C4.out.co.cell 22 _ rfl;have z24d:=C4.out.co.frozen 22)|(go_simp;go_wp2_with (go_at_call 219;refine TX.out.mono ?_;rintro e u3 ⟨rfl,hX⟩;have C3:Hid (Un w0 w u3 rb g n cp pb z r3 { p with id:=t,asks:=s } s 98 2 fs.length (askCells fs)):=hX;clear hX;have c24b:u3.cell? ⟨pb,22,none⟩=some (.slice s.a s.n s.c):=C3.out.co.cell 22 _ rfl;have c24c:(u3.alloc (.cells #[.string tx,.int .i64 qx] 98)).cell? ⟨pb,22,none⟩=some (.slice s.a s.n s.c):=(C3.out.below ((Below.refl _ _).alloc (Nat.le_refl _) _)).co.cell 22 _ rfl))) | fail
   all_goals go_wp2
   all_goals go_roundg gg
   all_goals first | omega | exact ⟨r3,fs++[(tx,qx)],s3,by show Un _ _ _ _ _ _ _ _ _ _ _ _ _ _ _ _;rw [List.length_append,zbA];exact C4.out.set 22 _ _ rfl,E1.out,N1.out.1,N1.out.2⟩
  | false =>
   have HU:Hid (U=(r',fs)):=by show _=_;rw [E0.out];exact zc1 _ _ _ hm
   clear hm;go_wp2;go_end0;rw [HS.out,HU.out];obtain ⟨q1,q2,q3⟩:=own_as C1.out.own;have q:=In.keep XS.out.inn XS.out.nx C1.out.keep;have x:=XS.out.nx;exact ⟨rfl,{ p with id:=t,asks:=s },C1.out.co.cs ⟨q.wP,q.pass,q.mP,q1,q.codes,q.filters⟩ ⟨x.wP,x.pass,x.mP,fun b off e=>by have:=q3 b off e;have:=LW.out;omega,x.codes,x.filters⟩ ⟨HZ.out.1 ▸ ow_nil _ _ _ _,HZ.out.2.1 ▸ ow_nil _ _ _ _,HZ.out.2.2.1 ▸ ow_nil _ _ _ _,(ow_of C1.out.own).lower (by have:=C1.out.big;omega),HZ.out.2.2.2.1 ▸ ow_nil _ _ _ _,HZ.out.2.2.2.2 ▸ ow_nil _ _ _ _,by unfold six;simp [HZ.out.1,HZ.out.2.1,HZ.out.2.2.1,HZ.out.2.2.2.1,HZ.out.2.2.2.2,(ze7 _).1,(ze7 _).2]⟩,p.wP,p.pass,p.mP,s,p.codes,p.filters,rfl,rfl,rfl,rfl,q2,rfl,rfl⟩
end
set_option maxHeartbeats 2000000
section
variable {w0 v w':World} {rb g n cp pb:Nat} {z:Nat->Int} {r r':Rs} {p p':Pk} {c c':Cn}
theorem Cs.self (h:Cs w0 v rb g n cp pb z r p c) (hn:∀ B,NxAll B p) (ho:∀ B w,Ows B w p):Cs v v rb g n cp pb z r p c := ⟨h.rd,h.pk,lt_of_block h.rd.rd,lt_of_block h.pk,h.n1,h.n2,h.inn,hn _,rfl,rfl,rfl,Nat.le_refl _,fun _ _ _ _=>rfl,ho _ _⟩
theorem Nx.lower {B D:Nat} {s:Sl} (h:Nx D s) (hB:B<=D):Nx B s:=fun b off e=>Nat.le_trans hB (h b off e)
theorem Fr2.trans (h1:Fr2 w0 v rb pb) (h2:Fr2 v w' rb pb):Fr2 w0 w' rb pb := ⟨h2.os.trans h1.os,h2.tape.trans h1.tape,h2.output.trans h1.output,Nat.le_trans h1.size h2.size,fun k hk a b=>(h2.block k (Nat.lt_of_lt_of_le hk h1.size) a b).trans (h1.block k hk a b)⟩
theorem Cs.trans (h1:Cs w0 v rb g n cp pb z r p c) (h2:Cs v w' rb g n cp pb z r' p' c'):Cs w0 w' rb g n cp pb z r' p' c' := ⟨h2.rd,h2.pk,h1.lr,h1.lp,h1.n1,h1.n2,h2.inn,⟨h2.nx.wP.lower h1.size,h2.nx.pass.lower h1.size,h2.nx.mP.lower h1.size,h2.nx.asks.lower h1.size,h2.nx.codes.lower h1.size,h2.nx.filters.lower h1.size⟩, h2.os.trans h1.os,h2.tape.trans h1.tape,h2.output.trans h1.output,Nat.le_trans h1.size h2.size,fun k hk a b=>(h2.block k (Nat.lt_of_lt_of_le hk h1.size) a b).trans (h1.block k hk a b),h2.ow.lower h1.size⟩
theorem OutIs.lower {e:Ending} {R:Except (Int×Int) (Rs×Pk×Cn)} (h1:Cs w0 v rb g n cp pb z r p c) (h2:OutIs v w' e rb g n cp pb z R):OutIs w0 w' e rb g n cp pb z R:=by cases R with | error x=>exact ⟨h2.1,h1.fr.trans h2.2⟩ | ok y=>obtain ⟨e,q,hq,ha⟩:=h2;exact ⟨e,q,h1.trans hq,ha⟩
end
def errOut (y:Rs×Pk×Cn):Except (Int×Int) (Rs×Pk×Cn):=if y.1.q≠0 then .error (y.1.p,y.1.q) else .ok y
def blank (k:Int):Pk:=⟨k,0,false,0,⟨#[]⟩,false,⟨#[]⟩,⟨none,0,0⟩,0,false,false,⟨#[]⟩,false,⟨none,0,0⟩,false,0,false,⟨#[]⟩,⟨none,0,0⟩,0,false,0,⟨none,0,0⟩,⟨none,0,0⟩,⟨none,0,0⟩⟩
theorem nx_nil (B:Nat):Nx B ⟨none,0,0⟩:=fun b off e=>by cases e
theorem zaX (k:Int) (B:Nat):NxAll B (blank k):=⟨nx_nil B,nx_nil B,nx_nil B,nx_nil B,nx_nil B,nx_nil B⟩
theorem zaQ (k:Int) (B:Nat) (w:World):Ows B w (blank k):=Ows.nil B w rfl rfl rfl rfl rfl rfl
def idP (z:Nat->Int) (n:Nat) (r:Rs) (p:Pk) (c:Cn):Rs×Pk×Cn:=(rEnd n (rNum z n r).2,{ p with id:=(rNum z n r).1 },c)
theorem into_connect {w0 w:World} {rb g n cp pb:Nat} {z:Nat->Int} {r:Rs} {c:Cn} (fl:Int) (h:Cs w0 w rb g n cp pb z r (blank 1) c) :
 Calls Tryz.prog 221 #[.agg #[.pointer (some ⟨rb,0,none⟩),.int .i64 n],.pointer (some ⟨pb,0,none⟩),.int .i64 fl] w fun e w'=>OutIs w0 w' e rb g n cp pb z (connectP z n r (blank 1) c):=by
 have XW:Hid (Cs w0 (w.alloc (.cells #[.pointer (some ⟨rb,0,none⟩),.int .i64 n] 244)) rb g n cp pb z r (blank 1) c):=h.below ((Below.refl _ _).alloc (Nat.le_refl _) _);have XV:=Hi (XW.out.self (zaX 1) (zaQ 1));have LL:Hid (rb<w.heap.size/\pb<w.heap.size):=⟨lt_of_block h.rd.rd,lt_of_block h.pk⟩;have BX0:Hid ((w.alloc (.cells #[.pointer (some ⟨rb,0,none⟩),.int .i64 n] 244)).cell? ⟨w.heap.size,0,none⟩=some (.pointer (some ⟨rb,0,none⟩))):=by show _=_;simp [go_sem]
 have c0:(w.alloc (.cells #[.pointer (some ⟨rb,0,none⟩),.int .i64 n] 244)).cell? ⟨pb,0,none⟩=some (.int .i64 1):=XW.out.cell 0 _ rfl;obtain ⟨R,hR⟩:∃ R,R=connectP z n r (blank 1) c:=⟨_,rfl⟩;rw [<-hR];have HR:=Hi hR;clear h hR;go_enter Tryz.func221,Tryz.ntmps221;go_wp2_with fail;go_must (go_at_call 260);have T:=connect_any XV.out;rw [<-HR.out] at T;refine T.mono ?_;rintro e w1 hO;obtain ⟨v,rfl⟩:=hO.ret;have HO:=Hi hO;clear hO T;go_wp2;go_ret;exact OutIs.lower XW.out HO.out
theorem into_connack {w0 w:World} {rb g n cp pb:Nat} {z:Nat->Int} {r:Rs} {c:Cn} (fl:Int) (h:Cs w0 w rb g n cp pb z r (blank 2) c) :
 Calls Tryz.prog 221 #[.agg #[.pointer (some ⟨rb,0,none⟩),.int .i64 n],.pointer (some ⟨pb,0,none⟩),.int .i64 fl] w fun e w'=>OutIs w0 w' e rb g n cp pb z (connackP z n r (blank 2) c):=by
 have XW:Hid (Cs w0 (w.alloc (.cells #[.pointer (some ⟨rb,0,none⟩),.int .i64 n] 244)) rb g n cp pb z r (blank 2) c):=h.below ((Below.refl _ _).alloc (Nat.le_refl _) _);have XV:=Hi (XW.out.self (zaX 2) (zaQ 2));have LL:Hid (rb<w.heap.size/\pb<w.heap.size):=⟨lt_of_block h.rd.rd,lt_of_block h.pk⟩;have BX0:Hid ((w.alloc (.cells #[.pointer (some ⟨rb,0,none⟩),.int .i64 n] 244)).cell? ⟨w.heap.size,0,none⟩=some (.pointer (some ⟨rb,0,none⟩))):=by show _=_;simp [go_sem]
 have c0:(w.alloc (.cells #[.pointer (some ⟨rb,0,none⟩),.int .i64 n] 244)).cell? ⟨pb,0,none⟩=some (.int .i64 2):=XW.out.cell 0 _ rfl;obtain ⟨R,hR⟩:∃ R,R=connackP z n r (blank 2) c:=⟨_,rfl⟩;rw [<-hR];have HR:=Hi hR;clear h hR;go_enter Tryz.func221,Tryz.ntmps221;go_wp2_with fail;go_must (go_at_call 261);have T:=connack_any XV.out;rw [<-HR.out] at T;refine T.mono ?_;rintro e w1 hO;obtain ⟨v,rfl⟩:=hO.ret;have HO:=Hi hO;clear hO T;go_wp2;go_ret;exact OutIs.lower XW.out HO.out
theorem into_publish {w0 w:World} {rb g n cp pb:Nat} {z:Nat->Int} {r:Rs} {c:Cn} (fl:Int) (h:Cs w0 w rb g n cp pb z r (blank 3) c) :
 Calls Tryz.prog 221 #[.agg #[.pointer (some ⟨rb,0,none⟩),.int .i64 n],.pointer (some ⟨pb,0,none⟩),.int .i64 fl] w fun e w'=>OutIs w0 w' e rb g n cp pb z (errOut (publishP z n r (blank 3) c fl)):=by
 have XW:Hid (Cs w0 (w.alloc (.cells #[.pointer (some ⟨rb,0,none⟩),.int .i64 n] 244)) rb g n cp pb z r (blank 3) c):=h.below ((Below.refl _ _).alloc (Nat.le_refl _) _);have XV:=Hi (XW.out.self (zaX 3) (zaQ 3));have LL:Hid (rb<w.heap.size/\pb<w.heap.size):=⟨lt_of_block h.rd.rd,lt_of_block h.pk⟩;have BX0:Hid ((w.alloc (.cells #[.pointer (some ⟨rb,0,none⟩),.int .i64 n] 244)).cell? ⟨w.heap.size,0,none⟩=some (.pointer (some ⟨rb,0,none⟩))):=by show _=_;simp [go_sem]
 have c0:(w.alloc (.cells #[.pointer (some ⟨rb,0,none⟩),.int .i64 n] 244)).cell? ⟨pb,0,none⟩=some (.int .i64 3):=XW.out.cell 0 _ rfl;obtain ⟨R,hR⟩:∃ R,R=errOut (publishP z n r (blank 3) c fl):=⟨_,rfl⟩;rw [<-hR];have HR:=Hi hR;clear h hR;go_enter Tryz.func221,Tryz.ntmps221;obtain ⟨Y,hY⟩:∃ Y,Y=publishP z n r (blank 3) c fl:=⟨_,rfl⟩;rw [<-hY] at HR;have DD:Hid (Calls Tryz.prog 262 #[.agg #[.pointer (some ⟨rb,0,none⟩),.int .i64 n],.pointer (some ⟨pb,0,none⟩),.int .i64 fl] (w.alloc (.cells #[.pointer (some ⟨rb,0,none⟩),.int .i64 n] 244)) fun e w'=>e = .returned (.tuple #[])/\Done (w.alloc (.cells #[.pointer (some ⟨rb,0,none⟩),.int .i64 n] 244)) w' rb g n cp pb z Y):=by rw [hY];exact publish_any fl XV.out
 clear hY;go_wp2_with fail;go_must (go_at_call 262);refine DD.out.mono ?_;rintro e w1 ⟨rfl,q,hq,ha⟩;have X1:=Hi hq;have AL:=Hi ha;have BX1:Hid (w1.cell? ⟨w.heap.size,0,none⟩=some (.pointer (some ⟨rb,0,none⟩))):=by have q2:=hq.block w.heap.size (by simp) (by have:=LL.out;omega) (by have:=LL.out;omega);have q3:=BX0.out;show _=_;unfold World.cell? at q3 ⊢;rw [show ({ block:=w.heap.size,off:=0 }:Addr).block=w.heap.size from rfl,q2];exact q3
 clear hq ha DD;have bx:=BX1.out;go_wp2_with fail;go_must (go_at_call 268);clear bx;have T:=zaJ X1.out (Y.2.1) AL.out;have EE:R=if (Y.1).q≠0 then .error ((Y.1).p,(Y.1).q) else .ok (Y.1,Y.2.1,Y.2.2):=HR.out;rw [<-EE] at T;refine T.mono ?_;rintro e w6 hO;obtain ⟨v,rfl⟩:=hO.ret;have HO:=Hi hO;clear hO T EE;go_wp2;go_ret;exact OutIs.lower XW.out HO.out
theorem into_subscribe {w0 w:World} {rb g n cp pb:Nat} {z:Nat->Int} {r:Rs} {c:Cn} (fl:Int) (h:Cs w0 w rb g n cp pb z r (blank 8) c) :
 Calls Tryz.prog 221 #[.agg #[.pointer (some ⟨rb,0,none⟩),.int .i64 n],.pointer (some ⟨pb,0,none⟩),.int .i64 fl] w fun e w'=>OutIs w0 w' e rb g n cp pb z (errOut (subP z n r (blank 8) c)):=by
 have XW:Hid (Cs w0 (w.alloc (.cells #[.pointer (some ⟨rb,0,none⟩),.int .i64 n] 244)) rb g n cp pb z r (blank 8) c):=h.below ((Below.refl _ _).alloc (Nat.le_refl _) _);have XV:=Hi (XW.out.self (zaX 8) (zaQ 8));have LL:Hid (rb<w.heap.size/\pb<w.heap.size):=⟨lt_of_block h.rd.rd,lt_of_block h.pk⟩;have BX0:Hid ((w.alloc (.cells #[.pointer (some ⟨rb,0,none⟩),.int .i64 n] 244)).cell? ⟨w.heap.size,0,none⟩=some (.pointer (some ⟨rb,0,none⟩))):=by show _=_;simp [go_sem]
 have c0:(w.alloc (.cells #[.pointer (some ⟨rb,0,none⟩),.int .i64 n] 244)).cell? ⟨pb,0,none⟩=some (.int .i64 8):=XW.out.cell 0 _ rfl;obtain ⟨R,hR⟩:∃ R,R=errOut (subP z n r (blank 8) c):=⟨_,rfl⟩;rw [<-hR];have HR:=Hi hR;clear h hR;go_enter Tryz.func221,Tryz.ntmps221;obtain ⟨Y,hY⟩:∃ Y,Y=subP z n r (blank 8) c:=⟨_,rfl⟩;rw [<-hY] at HR;have DD:Hid (Calls Tryz.prog 263 #[.agg #[.pointer (some ⟨rb,0,none⟩),.int .i64 n],.pointer (some ⟨pb,0,none⟩)] (w.alloc (.cells #[.pointer (some ⟨rb,0,none⟩),.int .i64 n] 244)) fun e w'=>e = .returned (.tuple #[])/\Done (w.alloc (.cells #[.pointer (some ⟨rb,0,none⟩),.int .i64 n] 244)) w' rb g n cp pb z Y):=by rw [hY];exact sub_any XV.out rfl ⟨rfl,rfl,rfl,rfl,rfl⟩
 clear hY;go_wp2_with fail;go_must (go_at_call 263);refine DD.out.mono ?_;rintro e w1 ⟨rfl,q,hq,ha⟩;have X1:=Hi hq;have AL:=Hi ha;have BX1:Hid (w1.cell? ⟨w.heap.size,0,none⟩=some (.pointer (some ⟨rb,0,none⟩))):=by have q2:=hq.block w.heap.size (by simp) (by have:=LL.out;omega) (by have:=LL.out;omega);have q3:=BX0.out;show _=_;unfold World.cell? at q3 ⊢;rw [show ({ block:=w.heap.size,off:=0 }:Addr).block=w.heap.size from rfl,q2];exact q3
 clear hq ha DD;have bx:=BX1.out;go_wp2_with fail;go_must (go_at_call 268);clear bx;have T:=zaJ X1.out (Y.2.1) AL.out;have EE:R=if (Y.1).q≠0 then .error ((Y.1).p,(Y.1).q) else .ok (Y.1,Y.2.1,Y.2.2):=HR.out;rw [<-EE] at T;refine T.mono ?_;rintro e w6 hO;obtain ⟨v,rfl⟩:=hO.ret;have HO:=Hi hO;clear hO T EE;go_wp2;go_ret;exact OutIs.lower XW.out HO.out
theorem into_suback {w0 w:World} {rb g n cp pb:Nat} {z:Nat->Int} {r:Rs} {c:Cn} (fl:Int) (h:Cs w0 w rb g n cp pb z r (blank 9) c) :
 Calls Tryz.prog 221 #[.agg #[.pointer (some ⟨rb,0,none⟩),.int .i64 n],.pointer (some ⟨pb,0,none⟩),.int .i64 fl] w fun e w'=>OutIs w0 w' e rb g n cp pb z (errOut (subackP z n r (blank 9) c)):=by
 have XW:Hid (Cs w0 (w.alloc (.cells #[.pointer (some ⟨rb,0,none⟩),.int .i64 n] 244)) rb g n cp pb z r (blank 9) c):=h.below ((Below.refl _ _).alloc (Nat.le_refl _) _);have XV:=Hi (XW.out.self (zaX 9) (zaQ 9));have LL:Hid (rb<w.heap.size/\pb<w.heap.size):=⟨lt_of_block h.rd.rd,lt_of_block h.pk⟩;have BX0:Hid ((w.alloc (.cells #[.pointer (some ⟨rb,0,none⟩),.int .i64 n] 244)).cell? ⟨w.heap.size,0,none⟩=some (.pointer (some ⟨rb,0,none⟩))):=by show _=_;simp [go_sem]
 have c0:(w.alloc (.cells #[.pointer (some ⟨rb,0,none⟩),.int .i64 n] 244)).cell? ⟨pb,0,none⟩=some (.int .i64 9):=XW.out.cell 0 _ rfl;obtain ⟨R,hR⟩:∃ R,R=errOut (subackP z n r (blank 9) c):=⟨_,rfl⟩;rw [<-hR];have HR:=Hi hR;clear h hR;go_enter Tryz.func221,Tryz.ntmps221;obtain ⟨Y,hY⟩:∃ Y,Y=subackP z n r (blank 9) c:=⟨_,rfl⟩;rw [<-hY] at HR;have DD:Hid (Calls Tryz.prog 264 #[.agg #[.pointer (some ⟨rb,0,none⟩),.int .i64 n],.pointer (some ⟨pb,0,none⟩)] (w.alloc (.cells #[.pointer (some ⟨rb,0,none⟩),.int .i64 n] 244)) fun e w'=>e = .returned (.tuple #[])/\Done (w.alloc (.cells #[.pointer (some ⟨rb,0,none⟩),.int .i64 n] 244)) w' rb g n cp pb z Y):=by rw [hY];exact suback_any XV.out
 clear hY;go_wp2_with fail;go_must (go_at_call 264);refine DD.out.mono ?_;rintro e w1 ⟨rfl,q,hq,ha⟩;have X1:=Hi hq;have AL:=Hi ha;have BX1:Hid (w1.cell? ⟨w.heap.size,0,none⟩=some (.pointer (some ⟨rb,0,none⟩))):=by have q2:=hq.block w.heap.size (by simp) (by have:=LL.out;omega) (by have:=LL.out;omega);have q3:=BX0.out;show _=_;unfold World.cell? at q3 ⊢;rw [show ({ block:=w.heap.size,off:=0 }:Addr).block=w.heap.size from rfl,q2];exact q3
 clear hq ha DD;have bx:=BX1.out;go_wp2_with fail;go_must (go_at_call 268);clear bx;have T:=zaJ X1.out (Y.2.1) AL.out;have EE:R=if (Y.1).q≠0 then .error ((Y.1).p,(Y.1).q) else .ok (Y.1,Y.2.1,Y.2.2):=HR.out;rw [<-EE] at T;refine T.mono ?_;rintro e w6 hO;obtain ⟨v,rfl⟩:=hO.ret;have HO:=Hi hO;clear hO T EE;go_wp2;go_ret;exact OutIs.lower XW.out HO.out
theorem into_unsubscribe {w0 w:World} {rb g n cp pb:Nat} {z:Nat->Int} {r:Rs} {c:Cn} (fl:Int) (h:Cs w0 w rb g n cp pb z r (blank 10) c) :
 Calls Tryz.prog 221 #[.agg #[.pointer (some ⟨rb,0,none⟩),.int .i64 n],.pointer (some ⟨pb,0,none⟩),.int .i64 fl] w fun e w'=>OutIs w0 w' e rb g n cp pb z (errOut (unsP z n r (blank 10) c)):=by
 have XW:Hid (Cs w0 (w.alloc (.cells #[.pointer (some ⟨rb,0,none⟩),.int .i64 n] 244)) rb g n cp pb z r (blank 10) c):=h.below ((Below.refl _ _).alloc (Nat.le_refl _) _);have XV:=Hi (XW.out.self (zaX 10) (zaQ 10));have LL:Hid (rb<w.heap.size/\pb<w.heap.size):=⟨lt_of_block h.rd.rd,lt_of_block h.pk⟩;have BX0:Hid ((w.alloc (.cells #[.pointer (some ⟨rb,0,none⟩),.int .i64 n] 244)).cell? ⟨w.heap.size,0,none⟩=some (.pointer (some ⟨rb,0,none⟩))):=by show _=_;simp [go_sem]
 have c0:(w.alloc (.cells #[.pointer (some ⟨rb,0,none⟩),.int .i64 n] 244)).cell? ⟨pb,0,none⟩=some (.int .i64 10):=XW.out.cell 0 _ rfl;obtain ⟨R,hR⟩:∃ R,R=errOut (unsP z n r (blank 10) c):=⟨_,rfl⟩;rw [<-hR];have HR:=Hi hR;clear h hR;go_enter Tryz.func221,Tryz.ntmps221;obtain ⟨Y,hY⟩:∃ Y,Y=unsP z n r (blank 10) c:=⟨_,rfl⟩;rw [<-hY] at HR;have DD:Hid (Calls Tryz.prog 265 #[.agg #[.pointer (some ⟨rb,0,none⟩),.int .i64 n],.pointer (some ⟨pb,0,none⟩)] (w.alloc (.cells #[.pointer (some ⟨rb,0,none⟩),.int .i64 n] 244)) fun e w'=>e = .returned (.tuple #[])/\Done (w.alloc (.cells #[.pointer (some ⟨rb,0,none⟩),.int .i64 n] 244)) w' rb g n cp pb z Y):=by rw [hY];exact uns_any XV.out rfl ⟨rfl,rfl,rfl,rfl,rfl⟩
 clear hY;go_wp2_with fail;go_must (go_at_call 265);refine DD.out.mono ?_;rintro e w1 ⟨rfl,q,hq,ha⟩;have X1:=Hi hq;have AL:=Hi ha;have BX1:Hid (w1.cell? ⟨w.heap.size,0,none⟩=some (.pointer (some ⟨rb,0,none⟩))):=by have q2:=hq.block w.heap.size (by simp) (by have:=LL.out;omega) (by have:=LL.out;omega);have q3:=BX0.out;show _=_;unfold World.cell? at q3 ⊢;rw [show ({ block:=w.heap.size,off:=0 }:Addr).block=w.heap.size from rfl,q2];exact q3
 clear hq ha DD;have bx:=BX1.out;go_wp2_with fail;go_must (go_at_call 268);clear bx;have T:=zaJ X1.out (Y.2.1) AL.out;have EE:R=if (Y.1).q≠0 then .error ((Y.1).p,(Y.1).q) else .ok (Y.1,Y.2.1,Y.2.2):=HR.out;rw [<-EE] at T;refine T.mono ?_;rintro e w6 hO;obtain ⟨v,rfl⟩:=hO.ret;have HO:=Hi hO;clear hO T EE;go_wp2;go_ret;exact OutIs.lower XW.out HO.out
theorem zcX {w0 w:World} {rb g n cp pb:Nat} {z:Nat->Int} {r:Rs} {c:Cn} (fl k:Int) (hk:k=4\/k=5\/k=6\/k=7\/k=11) (h:Cs w0 w rb g n cp pb z r (blank k) c) :
 Calls Tryz.prog 221 #[.agg #[.pointer (some ⟨rb,0,none⟩),.int .i64 n],.pointer (some ⟨pb,0,none⟩),.int .i64 fl] w fun e w'=>OutIs w0 w' e rb g n cp pb z (errOut (idP z n r (blank k) c)):=by
 have XW:Hid (Cs w0 (w.alloc (.cells #[.pointer (some ⟨rb,0,none⟩),.int .i64 n] 244)) rb g n cp pb z r (blank k) c):=h.below ((Below.refl _ _).alloc (Nat.le_refl _) _);have XV:=Hi (XW.out.self (zaX k) (zaQ k));have LL:Hid (rb<w.heap.size/\pb<w.heap.size):=⟨lt_of_block h.rd.rd,lt_of_block h.pk⟩;have BX0:Hid ((w.alloc (.cells #[.pointer (some ⟨rb,0,none⟩),.int .i64 n] 244)).cell? ⟨w.heap.size,0,none⟩=some (.pointer (some ⟨rb,0,none⟩))):=by show _=_;simp [go_sem]
 have c0:(w.alloc (.cells #[.pointer (some ⟨rb,0,none⟩),.int .i64 n] 244)).cell? ⟨pb,0,none⟩=some (.int .i64 k):=XW.out.cell 0 _ rfl;obtain ⟨R,hR⟩:∃ R,R=errOut (idP z n r (blank k) c):=⟨_,rfl⟩;rw [<-hR];have HR:=Hi hR;clear h hR;go_enter Tryz.func221,Tryz.ntmps221;obtain ⟨t,ht⟩:∃ y,y=rNum z n r:=⟨_,rfl⟩;have H1:=Hi ht;obtain ⟨r2,hr2⟩:∃ y,y=rEnd n t.2:=⟨_,rfl⟩;have H2:=Hi hr2;rw [idP,<-ht,<-hr2] at HR;clear ht hr2;obtain ⟨t,r1⟩:=t;simp only at H2 HR;rcases hk with hk | hk | hk | hk | hk <;> (rw [hk] at c0;clear hk);all_goals
  have bx:=BX0.out;go_wp2_with fail;go_must (go_at_call 266);clear bx c0;refine (zaU XV.out.rd).mono ?_;rw [<-H1.out];rintro e v1 ⟨rfl,hr,hg⟩;have X1:=Hi (XV.out.read hr hg);have BX1:Hid (v1.cell? ⟨w.heap.size,0,none⟩=some (.pointer (some ⟨rb,0,none⟩))):=hg.cell BX0.out (by have:=LL.out;simp;omega);clear hr hg;have e21:=X1.out.cell 21 (.int .i64 0) rfl;have z21:=X1.out.frozen 21;obtain ⟨v2,hW⟩:∃ W,W=v1.setCell ⟨pb,21,none⟩ (.int .i64 t):=⟨_,rfl⟩;have X2:=(show Hid _ from X1.out.setS 21 (.int .i64 t) ({ blank k with id:=t }) rfl rfl rfl rfl rfl rfl rfl);rw [<-hW] at X2;have BX2:Hid (v2.cell? ⟨w.heap.size,0,none⟩=some (.pointer (some ⟨rb,0,none⟩))):=by show _=_;rw [hW];exact bx_set BX1.out (by have:=LL.out;omega)
  go_upto_region 23 with fail;rw [<-hW];clear hW e21 z21;have bx:=BX2.out;go_wp2_with fail;go_must (go_at_call 267);clear bx;refine (zb1 X2.out.rd).mono ?_;rw [<-H2.out];rintro e v3 ⟨rfl,hr,hg⟩;have X3:=Hi (X2.out.read hr hg);have BX3:Hid (v3.cell? ⟨w.heap.size,0,none⟩=some (.pointer (some ⟨rb,0,none⟩))):=hg.cell BX2.out (by have:=LL.out;simp;omega);clear hr hg;have bx:=BX3.out;go_wp2_with fail;go_must (go_at_call 268);clear bx;have T:=zaJ X3.out ({ blank k with id:=t }) (Alike.refl _);have EE:R=if (r2).q≠0 then .error ((r2).p,(r2).q) else .ok (r2,{ blank k with id:=t },c):=HR.out;rw [<-EE] at T;refine T.mono ?_;rintro e w6 hO;obtain ⟨v,rfl⟩:=hO.ret;have HO:=Hi hO;clear hO T EE;go_wp2;go_ret;exact OutIs.lower XW.out HO.out
theorem ze6 {w0 w:World} {rb g n cp pb:Nat} {z:Nat->Int} {r:Rs} {c:Cn} (fl k:Int) (hk:k=12\/k=13\/k=14) (h:Cs w0 w rb g n cp pb z r (blank k) c) :
 Calls Tryz.prog 221 #[.agg #[.pointer (some ⟨rb,0,none⟩),.int .i64 n],.pointer (some ⟨pb,0,none⟩),.int .i64 fl] w fun e w'=>OutIs w0 w' e rb g n cp pb z (errOut (rEnd n r,blank k,c)):=by
 have XW:Hid (Cs w0 (w.alloc (.cells #[.pointer (some ⟨rb,0,none⟩),.int .i64 n] 244)) rb g n cp pb z r (blank k) c):=h.below ((Below.refl _ _).alloc (Nat.le_refl _) _);have XV:=Hi (XW.out.self (zaX k) (zaQ k));have LL:Hid (rb<w.heap.size/\pb<w.heap.size):=⟨lt_of_block h.rd.rd,lt_of_block h.pk⟩;have BX0:Hid ((w.alloc (.cells #[.pointer (some ⟨rb,0,none⟩),.int .i64 n] 244)).cell? ⟨w.heap.size,0,none⟩=some (.pointer (some ⟨rb,0,none⟩))):=by show _=_;simp [go_sem]
 have c0:(w.alloc (.cells #[.pointer (some ⟨rb,0,none⟩),.int .i64 n] 244)).cell? ⟨pb,0,none⟩=some (.int .i64 k):=XW.out.cell 0 _ rfl;obtain ⟨R,hR⟩:∃ R,R=errOut (rEnd n r,blank k,c):=⟨_,rfl⟩;rw [<-hR];have HR:=Hi hR;clear h hR;go_enter Tryz.func221,Tryz.ntmps221;obtain ⟨r1,hr1⟩:∃ y,y=rEnd n r:=⟨_,rfl⟩;have H1:=Hi hr1;rw [<-hr1] at HR;clear hr1;rcases hk with hk | hk | hk <;> (rw [hk] at c0;clear hk);all_goals have bx:=BX0.out;go_wp2_with fail;go_must (go_at_call 267);clear bx;refine (zb1 XV.out.rd).mono ?_;rw [<-H1.out];rintro e v1 ⟨rfl,hr,hg⟩;have X1:=Hi (XV.out.read hr hg);have BX1:Hid (v1.cell? ⟨w.heap.size,0,none⟩=some (.pointer (some ⟨rb,0,none⟩))):=hg.cell BX0.out (by have:=LL.out;simp;omega);clear hr hg;have bx:=BX1.out;go_wp2_with fail;go_must (go_at_call 268);clear bx;have T:=zaJ X1.out (blank k) (Alike.refl _);have EE:R=if (r1).q≠0 then .error ((r1).p,(r1).q) else .ok (r1,blank k,c):=HR.out;rw [<-EE] at T;refine T.mono ?_;rintro e w6 hO;obtain ⟨v,rfl⟩:=hO.ret;have HO:=Hi hO;clear hO T EE;go_wp2;go_ret;exact OutIs.lower XW.out HO.out
def intoP (z:Nat->Int) (n:Nat) (r:Rs) (k:Int) (c:Cn) (fl:Int):Except (Int×Int) (Rs×Pk×Cn) := if k=1 then connectP z n r (blank k) c else if k=2 then connackP z n r (blank k) c else if k=3 then errOut (publishP z n r (blank k) c fl) else if k=8 then errOut (subP z n r (blank k) c) else if k=9 then errOut (subackP z n r (blank k) c) else if k=10 then errOut (unsP z n r (blank k) c) else if k=12\/k=13\/k=14 then errOut (rEnd n r,blank k,c) else errOut (idP z n r (blank k) c)
theorem into_any {w0 w:World} {rb g n cp pb:Nat} {z:Nat->Int} {r:Rs} {c:Cn} (fl k:Int) (hk:1<=k/\k<=14) (h:Cs w0 w rb g n cp pb z r (blank k) c) :
 Calls Tryz.prog 221 #[.agg #[.pointer (some ⟨rb,0,none⟩),.int .i64 n],.pointer (some ⟨pb,0,none⟩),.int .i64 fl] w fun e w'=>OutIs w0 w' e rb g n cp pb z (intoP z n r k c fl):=by
 have hs:k=1\/k=2\/k=3\/k=4\/k=5\/k=6\/k=7\/k=8\/k=9\/k=10\/k=11\/k=12\/k=13\/k=14:=by omega
 rcases hs with rfl | rfl | rfl | rfl | rfl | rfl | rfl | rfl | rfl | rfl | rfl | rfl | rfl | rfl;· exact into_connect fl h
 · exact into_connack fl h
 · exact into_publish fl h
 · exact zcX fl 4 (.inl rfl) h
 · exact zcX fl 5 (.inr (.inl rfl)) h
 · exact zcX fl 6 (.inr (.inr (.inl rfl))) h
 · exact zcX fl 7 (.inr (.inr (.inr (.inl rfl)))) h
 · exact into_subscribe fl h
 · exact into_suback fl h
 · exact into_unsubscribe fl h
 · exact zcX fl 11 (.inr (.inr (.inr (.inr rfl)))) h
 · exact ze6 fl 12 (.inl rfl) h
 · exact ze6 fl 13 (.inr (.inl rfl)) h
 · exact ze6 fl 14 (.inr (.inr rfl)) h
end Go.Proofs.YtceigllifjgalaaGreatDoor
namespace Go.Proofs.YtceigllifjgalaaGreatDoor.Dr
open Go Go.RowKit
set_option linter.unusedSimpArgs false
set_option linter.unusedVariables false
section
variable {w w':World} {B c e g n s:Nat} {xs:List Value} {v:Value} {z:Nat->Int}
theorem hidi {p:Prop} (h:p):Hid p:=h
def CL (w:World) (a:Option Addr) (l c:Nat) (L:List Value):Prop := l<=c/\L.length=l/\(l=0\/∃ g off,a=some ⟨g,off,none⟩/\∀ j,j<l->w.cell? ⟨g,off+j,none⟩=L[j]?)
theorem binfo5:(Tryz.prog.info? 5).map (fun i=>(i.zero,i.size,i.bytes))=some (some (.int .u8 0),1,1):=by kernel_rfl
theorem zdO {a:Option Addr} {base:Nat} {Z:Nat->Int} (ho:w'.ownsRow base 5 1 (.slice a n c) n xs) (hx:xs=cellsOf Z n) (hz:∀ i,0<=Z i/\Z i<=255):Came w' a n c Z:=by
 subst hx;rcases ho.2 with ⟨q,h0⟩|⟨g,cap,cur,q,_⟩;· injection q with q1 q2 q3;subst q1 q2 q3;exact ⟨Nat.le_refl _,hz,.inl ⟨rfl,rfl,rfl⟩⟩
 · injection q with q1 q2 q3;subst q1 q3;exact zbZ (w:=w') ho hz
theorem zaA {k:Nat} (h:w'.heap[g]?=w.heap[g]?):w'.cell? ⟨g,k,none⟩=w.cell? ⟨g,k,none⟩:=by unfold World.cell?;simp only [h]
theorem zdr (h:w.ownsRow B e s v n xs):w.ownsRow 0 e s v n xs:=by
 refine ⟨h.1,?_⟩;rcases h.2 with q | ⟨g,cap,cur,e1,_,e3⟩;· exact .inl q
 · exact .inr ⟨g,cap,cur,e1,Nat.zero_le _,e3⟩
theorem came_heap (h:Came w (some ⟨g,0,none⟩) n c z) (hk:w'.heap[g]?=w.heap[g]?):Came w' (some ⟨g,0,none⟩) n c z:=by
 refine ⟨h.1,h.2.1,?_⟩;rcases h.2.2 with ⟨q,_⟩|⟨ad,q,hc⟩;· cases q
 · obtain rfl:=Option.some.inj q;refine .inr ⟨_,rfl,fun i hi=>?_⟩;have:=hc i hi;rw [za9] at this ⊢;exact (zaA hk).trans this
theorem zdL (h:Came w (some ⟨g,0,none⟩) n c z) {i:Nat} (hi:i<n):w.cell? ⟨g,i,none⟩=some (.int .u8 (z i)):=by
 rcases h.2.2 with ⟨q,_⟩|⟨ad,q,hc⟩;· cases q
 · obtain rfl:=Option.some.inj q;have:=hc i hi;rw [za9,Nat.zero_add] at this;exact this
theorem came_of (hn:n<=c) (hz:∀ i,0<=z i/\z i<=255) (h:∀ i,i<n->w.cell? ⟨g,i,none⟩=some (.int .u8 (z i))):Came w (some ⟨g,0,none⟩) n c z := ⟨hn,hz,.inr ⟨_,rfl,fun i hi=>by rw [za9,Nat.zero_add];exact h i hi⟩⟩
theorem zab (h:w.ownsRow B e s v n xs) (hk:∀ j,v.ownBlock=some j->w'.heap[j]?=w.heap[j]?):w'.ownsRow B e s v n xs:=by
 refine ⟨h.1,?_⟩;rcases h.2 with q | ⟨g,cap,cur,e1,e2,e3,e4⟩;· exact .inl q
 · exact .inr ⟨g,cap,cur,e1,e2,(hk g (by rw [e1];rfl)).trans e3,e4⟩
theorem chkF_rm (s:ByteArray) (b k:Nat):Rm.chkF s b k=chkF s b k:=by induction b generalizing k with | zero=>rfl | succ n ih=>simp only [Rm.chkF,chkF,ih]
theorem chk_rm (s:ByteArray):Rm.chk s=chk s:=by simp only [Rm.chk,chk,chkF_rm]
end
set_option maxRecDepth 100000
set_option maxHeartbeats 1000000
section
variable {w:World} {mb:Nat} {v:Value} {at0 p q:Int}
def Rr (w:World) (mb:Nat) (v:Value) (at0 q p:Int):Prop:=w.heap[mb]?=some (.cells #[v,.int .i64 at0,.int .i64 q,.int .i64 p] 236 (0,0))
theorem Rr.facts (h:Rr w mb v at0 q p):w.cell? ⟨mb,0,none⟩=some v/\w.cell? ⟨mb,1,none⟩=some (.int .i64 at0)/\w.cell? ⟨mb,2,none⟩=some (.int .i64 q)/\w.cell? ⟨mb,3,none⟩=some (.int .i64 p)/\∀ k,w.frozen? ⟨mb,k,none⟩=false:=by unfold Rr at h;refine ⟨?_,?_,?_,?_,fun k=>?_⟩ <;> simp [World.cell?,World.frozen?,h]
theorem Rr.set1 (h:Rr w mb v at0 q p) (x:Int):Rr (w.setCell ⟨mb,1,none⟩ (.int .i64 x)) mb v x q p:=by have:=zag (i:=1) h (.int .i64 x);exact this
theorem Rr.set2 (h:Rr w mb v at0 q p) (x:Int):Rr (w.setCell ⟨mb,2,none⟩ (.int .i64 x)) mb v at0 x p:=by have:=zag (i:=2) h (.int .i64 x);exact this
theorem Rr.set3 (h:Rr w mb v at0 q p) (x:Int):Rr (w.setCell ⟨mb,3,none⟩ (.int .i64 x)) mb v at0 q x:=by have:=zag (i:=3) h (.int .i64 x);exact this
theorem Rr.drew (h:Rr w mb v at0 q p):Rr w.drew mb v at0 q p:=h
theorem rr_gb1 (w:World) (mb:Nat) (i:Nat) (v:Value):w.grownBy (w.setCell ⟨mb,i,none⟩ v) (some mb):=⟨rfl,rfl,rfl,by simp [World.setCell],fun k hk hn=>Below.heap_setCell _ _ _ _ (fun e=>hn (by rw [e]))⟩
theorem zcF (h:Rr w mb v at0 q p) (x y:Int):Calls Tryz.prog 254 #[.pointer (some ⟨mb,0,none⟩),.int .i64 x,.int .i64 y] w fun e w'=>e = .returned (.tuple #[])/\w'=(w.setCell ⟨mb,2,none⟩ (.int .i64 y)).setCell ⟨mb,3,none⟩ (.int .i64 x):=by
 obtain ⟨c0,c1,c2,c3,f⟩:=h.facts;have f2:=f 2;obtain ⟨d0,d1,d2,d3,g⟩:=(h.set2 y).facts;have g3:=g 3;clear h f g;go_enter Tryz.func254,Tryz.ntmps254;go_wp2_with fail;all_goals (try go_end0)
 all_goals exact ⟨rfl,rfl⟩
theorem rtake_dead (h:Rr w mb v at0 q p) (hq:q≠0) (n:Int):Calls Tryz.prog 252 #[.pointer (some ⟨mb,0,none⟩),.int .i64 n] w fun e w'=>e = .returned (.tuple #[.slice none 0 0,.bool false])/\w'=w:=by
 obtain ⟨c0,c1,c2,c3,f⟩:=h.facts;have e1:(q != 0)=true:=by simpa using hq
 clear h hq f;go_enter Tryz.func252,Tryz.ntmps252;go_wp2_with fail;all_goals (try go_ret2)
 all_goals exact ⟨rfl,rfl⟩
theorem rtake_short {a:Option Addr} {l c:Nat} {at0:Nat} (h:Rr w mb (.slice a l c) at0 0 p) (hl:l<=300000) (ha:at0<=l) {n:Nat} (hn:l<at0+n):Calls Tryz.prog 252 #[.pointer (some ⟨mb,0,none⟩),.int .i64 n] w fun e w'=>e = .returned (.tuple #[.slice none 0 0,.bool false])/\w'=(w.drew.setCell ⟨mb,2,none⟩ (.int .i64 10)).setCell ⟨mb,3,none⟩ (.int .i64 l):=by
 obtain ⟨c0,c1,c2,c3,f⟩:=h.facts;have F0:=hidi (zcF h.drew (l:Int) 10);have e2:IntKind.i64.wrap ((l:Int)-(at0:Int))=(l:Int)-at0:=by rw [IntKind.wrap_i64];omega
 have e3:wrap64 ((l:Int)-(at0:Int))=(l:Int)-at0:=by unfold wrap64;omega
 have e4:(l:Int)-(at0:Int)<(n:Int):=by omega
 clear h hn f hl ha;go_enter Tryz.func252,Tryz.ntmps252;go_wp2_with fail;go_region;all_goals go_wp2_with fail
 all_goals go_must (go_at_call 254)
 all_goals refine (F0.out).mono ?_
 all_goals rintro e w' ⟨rfl,rfl⟩
 all_goals go_wp2_with fail
 all_goals (try go_ret2)
 all_goals exact ⟨rfl,rfl⟩
end
end Go.Proofs.YtceigllifjgalaaGreatDoor.Dr
namespace Go.Proofs.YtceigllifjgalaaGreatDoor
open Go Go.RowKit
open Pkt (Pk Cn Sl In By Is Ss As pkCells Gd KindsAt form isK zar)
set_option linter.unusedSimpArgs false
set_option linter.unusedVariables false
set_option maxRecDepth 100000
set_option maxHeartbeats 1000000
theorem and15 (x:Int) (h:0<=x/\x<=255):bits .and .u8 x 15=x % 16:=bits_mask .u8 8 (by decide) wraps_u8 4 (by decide) x h.1 (by omega)
theorem zdU (b:Int) (hb:0<=b/\b<=255) (w:World):Calls Tryz.prog 220 #[.int .u8 b] w fun e w'=>e = .returned (.tuple #[.int .i64 (b / 16),.int .i64 (b % 16)])/\w'=w:=by
 have h15:=and15 b hb;have s1:0<=b / 16/\b / 16<=255:=by omega
 have s2:0<=b % 16/\b % 16<=255:=by omega
 go_enter Tryz.func220,Tryz.ntmps220;go_wp2;go_ret2;refine ⟨?_,rfl⟩;first | rfl | simp
def mayP (k f:Int):Bool:=if k=3 then (!(bits .and .i64 f 6==6) && ((bits .and .i64 f 8==0) || (bits .and .i64 f 6 != 0))) else f==(form k.toNat).2.1
theorem may_any (k f:Int) (hk:1<=k/\k<=14) (hf:0<=f/\f<=15) (w:World) (hg:Gd w):Calls Tryz.prog 255 #[.int .i64 k,.int .i64 f] w fun e w'=>e = .returned (.bool (mayP k f))/\w'=w:=by
 by_cases h3:k=3;·
  subst h3;have HK:Hid (isK 3=true):=rfl;clear hg;obtain ⟨a,ha⟩:∃ a,(bits .and .i64 f 6==6)=a:=⟨_,rfl⟩;obtain ⟨b,hb⟩:∃ a,(bits .and .i64 f 8==0)=a:=⟨_,rfl⟩;obtain ⟨c,hc⟩:∃ a,(bits .and .i64 f 6 != 0)=a:=⟨_,rfl⟩;have HV:Hid (mayP 3 f=(!a && (b || c))):=by show _=_;rw [mayP,if_pos rfl,ha,hb,hc]
  rw [HV.out];have n1:¬ f<0:=by omega
  have n2:¬ 15<f:=by omega
  cases a <;> cases b <;> cases c;all_goals go_enter Tryz.func255,Tryz.ntmps255;go_wp2_with (go_at_call 230;refine (zar _ _).mono ?_;rintro e w' ⟨rfl,hee⟩;obtain rfl:=hee.symm;clear hee;rw [HK.out]);go_ret;exact ⟨rfl,rfl⟩
 ·
  obtain ⟨i,rfl⟩:∃ i:Nat,k=i:=⟨k.toNat,by omega⟩;have hi:i<15:=by omega
  have hi':(i:Int)<15:=by omega
  have kf:=(hg.kinds i hi).2.1;have HK:Hid (isK (i:Int)=true):=by show isK _=true;simp [isK];omega
  clear hg;have HV:Hid (mayP (i:Int) f=(f==(form i).2.1)):=by show _=_;rw [mayP,if_neg h3];rfl
  rw [HV.out];go_enter Tryz.func255,Tryz.ntmps255;go_wp2_with (go_at_call 230;refine (zar _ _).mono ?_;rintro e w' ⟨rfl,hee⟩;obtain rfl:=hee.symm;clear hee;rw [HK.out]);go_ret;exact ⟨rfl,rfl⟩
def firstP (b:Int):Int:=if b / 16<1\/14<b / 16 then 30 else if mayP (b / 16) (b % 16) then 0 else 31
theorem first_any (b:Int) (hb:0<=b/\b<=255) (w:World) (hg:Gd w):Calls Tryz.prog 216 #[.int .u8 b] w fun e w'=>e = .returned (.int .i64 (firstP b))/\w'=w:=by
 have S:=Hi (zdU b hb w);have M:Hid (∀ k f,k=b / 16->f=b % 16->¬ (k<1\/14<k)->Calls Tryz.prog 255 #[.int .i64 k,.int .i64 f] w fun e w'=>e = .returned (.bool (mayP k f))/\w'=w):=fun k f h1 h2 h3=>may_any k f (by omega) (by omega) w hg;obtain ⟨F,hF⟩:∃ F,F=firstP b:=⟨_,rfl⟩;rw [<-hF];obtain ⟨k,hk⟩:∃ k,k=b / 16:=⟨_,rfl⟩;obtain ⟨f,hf⟩:∃ k,k=b % 16:=⟨_,rfl⟩;rw [<-hk,<-hf] at S M;have HF:Hid (F=if k<1\/14<k then 30 else if mayP k f then 0 else 31):=by show _=_;rw [hF,firstP,hk,hf]
 clear hF hg;by_cases h1:k<1;·
  have HV:Hid (F=30):=by show _=_;rw [HF.out,if_pos (.inl h1)]
  clear hk hf hb;go_enter Tryz.func216,Tryz.ntmps216;go_wp2_with (go_at_call 220;refine S.out.mono ?_;rintro e w' ⟨rfl,hee⟩;obtain rfl:=hee.symm;clear hee);go_ret;exact ⟨by rw [HV.out];rfl,rfl⟩
 by_cases h2:14<k;·
  have HV:Hid (F=30):=by show _=_;rw [HF.out,if_pos (.inr h2)]
  clear hk hf hb;go_enter Tryz.func216,Tryz.ntmps216;go_wp2_with (go_at_call 220;refine S.out.mono ?_;rintro e w' ⟨rfl,hee⟩;obtain rfl:=hee.symm;clear hee);go_ret;exact ⟨by rw [HV.out];rfl,rfl⟩
 ·
  have MM:Hid (Calls Tryz.prog 255 #[.int .i64 k,.int .i64 f] w fun e w'=>e = .returned (.bool (mayP k f))/\w'=w):=M.out k f rfl rfl (by omega);have HV:Hid (F=if mayP k f then 0 else 31):=by show _=_;rw [HF.out,if_neg (by omega)]
  obtain ⟨m,hm⟩:∃ m,m=mayP k f:=⟨_,rfl⟩;rw [<-hm] at MM HV;clear hk hf hb hm M HF;cases m;all_goals go_enter Tryz.func216,Tryz.ntmps216;go_wp2_with (first | (go_at_call 220;refine S.out.mono ?_;rintro e w' ⟨rfl,hee⟩;obtain rfl:=hee.symm;clear hee)|(go_at_call 255;refine MM.out.mono ?_;rintro e w' ⟨rfl,hee⟩;obtain rfl:=hee.symm;clear hee));go_ret;exact ⟨by rw [HV.out];rfl,rfl⟩
end Go.Proofs.YtceigllifjgalaaGreatDoor
