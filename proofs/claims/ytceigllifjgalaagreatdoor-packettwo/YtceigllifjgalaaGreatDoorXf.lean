import Derived.Test.YtceigllifjgalaaGreatDoorXd
namespace Go.Proofs.YtceigllifjgalaaGreatDoor.Tw
open Go Go.RowKit
open Pkt (Pk Cn Sl In By Is Ss As pkCells zag Small za2 zab)
set_option linter.unusedSimpArgs false
set_option linter.unusedVariables false
structure Cb (w w':World) (p:Pk):Prop where
 bx:w'.heap[w.heap.size]?=some (.cells (pkCells p) 29 (0,0))
 rs:w'.heap[w.heap.size+1]?=some (.cells (pkCells (blank 0)) 29 (0,0))
 bel:Below w.heap.size w w'
theorem Cb.below {w w' w'':World} {p:Pk} (h:Cb w w' p) (hb:Below w'.heap.size w' w''):Cb w w'' p:=⟨zaz h.bx hb,zaz h.rs hb,h.bel.trans (hb.mono h.bel.size)⟩
theorem Cb.set {w w':World} {p q:Pk} (h:Cb w w' p) (i:Nat) (v:Value) (e:(pkCells p).setIfInBounds i v=pkCells q):Cb w (w'.setCell ⟨w.heap.size,i,none⟩ v) q:=by
 refine ⟨e ▸ zab h.bx v,(Below.heap_setCell _ _ _ _ (show w.heap.size+1≠w.heap.size from by omega)).trans h.rs,h.bel.setCell (p:=⟨w.heap.size,i,none⟩) (Nat.le_refl _) _⟩
theorem Cb.fz {w w':World} {p:Pk} (h:Cb w w' p) (i:Nat):w'.frozen? ⟨w.heap.size,i,none⟩=false:=by
 have:=h.bx
 simp [World.frozen?,this]
theorem Cb.cell {w w':World} {p:Pk} (h:Cb w w' p) (i:Nat) (v:Value) (e:(pkCells p)[i]?=some v):w'.cell? ⟨w.heap.size,i,none⟩=some v:=zam h.bx i v e
theorem zao {w:World} {B B' e s n:Nat} {v:Value} {xs:List Value} (h:w.ownsRow B e s v n xs) (hb:B'≤B):w.ownsRow B' e s v n xs:=by
 refine ⟨h.1,?_⟩
 rcases h.2 with q | ⟨g,cap,cur,e1,e2,e3⟩
 · exact .inl q
 · exact .inr ⟨g,cap,cur,e1,Nat.le_trans hb e2,e3⟩
theorem zaH {w:World} {g t:Nat} {cs:Array Value} (h:w.heap[g]?=some (.cells cs t (0,0))) (ds:Array Value):(w.setRow g ds).heap[g]?=some (.cells ds t (0,0)):=by
 unfold World.setRow
 simp [Array.getElem?_modify,h]
theorem zaO (w:World) (g k:Nat) (cs:Array Value) (h:k≠g):(w.setRow g cs).heap[k]?=w.heap[k]?:=by
 unfold World.setRow
 simp [Array.getElem?_modify,Ne.symm h]
structure Lx (B:Nat) (w:World) (q:Pk) (c:Cn) (s:List Nat) (ls:List Value):Prop where
 wP:7 ∈ s→w.ownsRow B 5 1 (.slice q.wP.a q.wP.n q.wP.c) q.wP.n (Pkt.cB c.wz q.wP.n)∧Pkt.Nil q.wP
 mP:18 ∈ s→w.ownsRow B 5 1 (.slice q.mP.a q.mP.n q.mP.c) q.mP.n (Pkt.cB c.mz q.mP.n)∧Pkt.Nil q.mP
 pass:13 ∈ s→w.ownsRow B 5 1 (.slice q.pass.a q.pass.n q.pass.c) q.pass.n (Pkt.cB c.pz q.pass.n)∧Pkt.Nil q.pass
 asks:22 ∈ s→w.ownsRow B 98 2 (.slice q.asks.a q.asks.n q.asks.c) q.asks.n (Pkt.cA c.af c.aq q.asks.n)∧Pkt.Nil q.asks
 codes:23 ∈ s→w.ownsRow B 3 1 (.slice q.codes.a q.codes.n q.codes.c) q.codes.n (Pkt.cI c.cs q.codes.n)∧Pkt.Nil q.codes
 filters:24 ∈ s→w.ownsRow B 9 1 (.slice q.filters.a q.filters.n q.filters.c) q.filters.n (Pkt.cS c.fs q.filters.n)∧Pkt.Nil q.filters
 ps:ls.Pairwise NBv
 lt:∀ v ∈ ls,∀ g,v.ownBlock=some g→g<w.heap.size
theorem Lx.keep {B:Nat} {w w':World} {q:Pk} {c:Cn} {s:List Nat} {ls:List Value} (h:Lx B w q c s ls) (hk:∀ j,B≤j→j<w.heap.size→w'.heap[j]?=w.heap[j]?) (hs:w.heap.size≤w'.heap.size):Lx B w' q c s ls :=
 ⟨fun e=>⟨zax (h.wP e).1 (fun j q=>hk j ((h.wP e).1.lt j q).1 ((h.wP e).1.lt j q).2),(h.wP e).2⟩,fun e=>⟨zax (h.mP e).1 (fun j q=>hk j ((h.mP e).1.lt j q).1 ((h.mP e).1.lt j q).2),(h.mP e).2⟩,fun e=>⟨zax (h.pass e).1 (fun j q=>hk j ((h.pass e).1.lt j q).1 ((h.pass e).1.lt j q).2),(h.pass e).2⟩,fun e=>⟨zax (h.asks e).1 (fun j q=>hk j ((h.asks e).1.lt j q).1 ((h.asks e).1.lt j q).2),(h.asks e).2⟩,fun e=>⟨zax (h.codes e).1 (fun j q=>hk j ((h.codes e).1.lt j q).1 ((h.codes e).1.lt j q).2),(h.codes e).2⟩,fun e=>⟨zax (h.filters e).1 (fun j q=>hk j ((h.filters e).1.lt j q).1 ((h.filters e).1.lt j q).2),(h.filters e).2⟩,h.ps,fun v hv g e=>Nat.lt_of_lt_of_le (h.lt v hv g e) hs⟩
theorem Lx.set {B b i:Nat} {w:World} {q:Pk} {c:Cn} {s:List Nat} {ls:List Value} {v:Value} (h:Lx B w q c s ls) (hb:b<B):Lx B (w.setCell ⟨b,i,none⟩ v) q c s ls:=h.keep (fun j hj _=>Below.heap_setCell _ _ _ _ (show j≠b from by omega)) (by simp [World.setCell])
theorem Lx.start (B:Nat) (w:World) (q:Pk) (c:Cn):Lx B w q c [] []:=⟨fun e=>(by cases e),fun e=>(by cases e),fun e=>(by cases e),fun e=>(by cases e),fun e=>(by cases e),fun e=>(by cases e),List.Pairwise.nil,fun v hv=>by cases hv⟩
theorem za8 {a b:Nat} {s:List Nat} (h:a ∈ b::s) (hne:a≠b):a ∈ s:=by
 rcases List.mem_cons.1 h with e | e
 · exact absurd e hne
 · exact e
theorem Lx.more {B:Nat} {U V:World} {q:Pk} {c:Cn} {s:List Nat} {ls:List Value} (h:Lx B U q c s ls) {v:Value} {e k n:Nat} {xs:List Value} (ho:V.ownsRow U.heap.size e k v n xs) (hs:U.heap.size≤V.heap.size):(v::ls).Pairwise NBv∧∀ u ∈ v::ls,∀ g,u.ownBlock=some g→g<V.heap.size:=by
 refine ⟨List.pairwise_cons.2 ⟨fun u hu j e1 e2=>?_,h.ps⟩,fun u hu g e=>?_⟩
 ·
  have:=(ho.lt j e1).1
  have:=h.lt u hu j e2
  omega
 ·
  rcases List.mem_cons.1 hu with rfl | hu
  · exact (ho.lt g e).2
  · exact Nat.lt_of_lt_of_le (h.lt u hu g e) hs
theorem Lx.awP {B:Nat} {U V:World} {q:Pk} {c:Cn} {s:List Nat} {ls:List Value} {l:Sl} (h:Lx B U q c s ls) (hB:B≤U.heap.size) (hb:Below U.heap.size U V) (ho:V.ownsRow U.heap.size 5 1 (.slice l.a l.n l.c) l.n (Pkt.cB c.wz l.n)) (hn:Pkt.Nil l):Lx B V { q with wP:=l } c (7::s) (.slice l.a l.n l.c::ls):=by
 have h2:=h.keep (fun j _ hj=>hb.block j hj) hb.size
 exact ⟨fun _=>⟨zao ho hB,hn⟩,fun e=>h2.mP (za8 e (by decide)),fun e=>h2.pass (za8 e (by decide)),fun e=>h2.asks (za8 e (by decide)),fun e=>h2.codes (za8 e (by decide)),fun e=>h2.filters (za8 e (by decide)),(h.more ho hb.size).1,(h.more ho hb.size).2⟩
theorem Lx.amP {B:Nat} {U V:World} {q:Pk} {c:Cn} {s:List Nat} {ls:List Value} {l:Sl} (h:Lx B U q c s ls) (hB:B≤U.heap.size) (hb:Below U.heap.size U V) (ho:V.ownsRow U.heap.size 5 1 (.slice l.a l.n l.c) l.n (Pkt.cB c.mz l.n)) (hn:Pkt.Nil l):Lx B V { q with mP:=l } c (18::s) (.slice l.a l.n l.c::ls):=by
 have h2:=h.keep (fun j _ hj=>hb.block j hj) hb.size
 exact ⟨fun e=>h2.wP (za8 e (by decide)),fun _=>⟨zao ho hB,hn⟩,fun e=>h2.pass (za8 e (by decide)),fun e=>h2.asks (za8 e (by decide)),fun e=>h2.codes (za8 e (by decide)),fun e=>h2.filters (za8 e (by decide)),(h.more ho hb.size).1,(h.more ho hb.size).2⟩
theorem Lx.apass {B:Nat} {U V:World} {q:Pk} {c:Cn} {s:List Nat} {ls:List Value} {l:Sl} (h:Lx B U q c s ls) (hB:B≤U.heap.size) (hb:Below U.heap.size U V) (ho:V.ownsRow U.heap.size 5 1 (.slice l.a l.n l.c) l.n (Pkt.cB c.pz l.n)) (hn:Pkt.Nil l):Lx B V { q with pass:=l } c (13::s) (.slice l.a l.n l.c::ls):=by
 have h2:=h.keep (fun j _ hj=>hb.block j hj) hb.size
 exact ⟨fun e=>h2.wP (za8 e (by decide)),fun e=>h2.mP (za8 e (by decide)),fun _=>⟨zao ho hB,hn⟩,fun e=>h2.asks (za8 e (by decide)),fun e=>h2.codes (za8 e (by decide)),fun e=>h2.filters (za8 e (by decide)),(h.more ho hb.size).1,(h.more ho hb.size).2⟩
theorem Lx.aasks {B:Nat} {U V:World} {q:Pk} {c:Cn} {s:List Nat} {ls:List Value} {l:Sl} (h:Lx B U q c s ls) (hB:B≤U.heap.size) (hb:Below U.heap.size U V) (ho:V.ownsRow U.heap.size 98 2 (.slice l.a l.n l.c) l.n (Pkt.cA c.af c.aq l.n)) (hn:Pkt.Nil l):Lx B V { q with asks:=l } c (22::s) (.slice l.a l.n l.c::ls):=by
 have h2:=h.keep (fun j _ hj=>hb.block j hj) hb.size
 exact ⟨fun e=>h2.wP (za8 e (by decide)),fun e=>h2.mP (za8 e (by decide)),fun e=>h2.pass (za8 e (by decide)),fun _=>⟨zao ho hB,hn⟩,fun e=>h2.codes (za8 e (by decide)),fun e=>h2.filters (za8 e (by decide)),(h.more ho hb.size).1,(h.more ho hb.size).2⟩
theorem Lx.acodes {B:Nat} {U V:World} {q:Pk} {c:Cn} {s:List Nat} {ls:List Value} {l:Sl} (h:Lx B U q c s ls) (hB:B≤U.heap.size) (hb:Below U.heap.size U V) (ho:V.ownsRow U.heap.size 3 1 (.slice l.a l.n l.c) l.n (Pkt.cI c.cs l.n)) (hn:Pkt.Nil l):Lx B V { q with codes:=l } c (23::s) (.slice l.a l.n l.c::ls):=by
 have h2:=h.keep (fun j _ hj=>hb.block j hj) hb.size
 exact ⟨fun e=>h2.wP (za8 e (by decide)),fun e=>h2.mP (za8 e (by decide)),fun e=>h2.pass (za8 e (by decide)),fun e=>h2.asks (za8 e (by decide)),fun _=>⟨zao ho hB,hn⟩,fun e=>h2.filters (za8 e (by decide)),(h.more ho hb.size).1,(h.more ho hb.size).2⟩
theorem Lx.afilters {B:Nat} {U V:World} {q:Pk} {c:Cn} {s:List Nat} {ls:List Value} {l:Sl} (h:Lx B U q c s ls) (hB:B≤U.heap.size) (hb:Below U.heap.size U V) (ho:V.ownsRow U.heap.size 9 1 (.slice l.a l.n l.c) l.n (Pkt.cS c.fs l.n)) (hn:Pkt.Nil l):Lx B V { q with filters:=l } c (24::s) (.slice l.a l.n l.c::ls):=by
 have h2:=h.keep (fun j _ hj=>hb.block j hj) hb.size
 exact ⟨fun e=>h2.wP (za8 e (by decide)),fun e=>h2.mP (za8 e (by decide)),fun e=>h2.pass (za8 e (by decide)),fun e=>h2.asks (za8 e (by decide)),fun e=>h2.codes (za8 e (by decide)),fun _=>⟨zao ho hB,hn⟩,(h.more ho hb.size).1,(h.more ho hb.size).2⟩
set_option maxRecDepth 100000
set_option maxHeartbeats 4000000
theorem zbL (s:Sl) (z:Nat→Int) (w:World) (h:By w s z) (hm:s.n≤1000000) :
    Calls Tryz.prog 47 #[.slice s.a s.n s.c] w fun e w'=>∃ l:Sl,e = .returned (.slice l.a l.n l.c)∧w'.ownsRow w.heap.size 5 1 (.slice l.a l.n l.c) l.n (Pkt.cB z l.n)∧l.n=s.n∧Pkt.Nil l∧Below w.heap.size w w':=by
  have HM:=hidx hm
  have HY:=hidx (by_cl h)
  clear h hm
  go_enter Tryz.func47,Tryz.ntmps47
  go_wp2_with (at_builtin;refine zaj rfl _ _ 22 5 rfl (.int .u8 0) 1 1 Tryz.underlying22 Pkt.Tryz.infoBe rfl (by decide) (by decide) rfl s (Pkt.cB z s.n) rfl (Pkt.cB_len z s.n) HY.out (Pkt.cB_one z s.n) HM.out ?_;intro l V ho hn hnil hb;have HO:=hidx (And.intro ho (And.intro hn (And.intro hnil hb)));clear ho hn hnil hb)
  go_ret
  exact ⟨l,rfl,by have h:=HO.out.1;rw [← HO.out.2.1] at h;exact h,HO.out.2.1,HO.out.2.2.1,HO.out.2.2.2⟩
theorem renew_a (s:Sl) (f:Nat→ByteArray) (q:Nat→Int) (w:World) (h:As w s f q) (hm:s.n≤1000000) :
    Calls Tryz.prog 48 #[.slice s.a s.n s.c] w fun e w'=>∃ l:Sl,e = .returned (.slice l.a l.n l.c)∧w'.ownsRow w.heap.size 98 2 (.slice l.a l.n l.c) l.n (Pkt.cA f q l.n)∧l.n=s.n∧Pkt.Nil l∧Below w.heap.size w w':=by
  have HM:=hidx hm
  have HY:=hidx (as_cl h)
  clear h hm
  go_enter Tryz.func48,Tryz.ntmps48
  go_wp2_with (at_builtin;refine zaj rfl _ _ 25 98 rfl (.agg #[.string ⟨#[]⟩,.int .i64 0]) 2 24 Tryz.underlying25 Pkt.Tryz.infoAe rfl (by decide) (by decide) rfl s (Pkt.cA f q s.n) rfl (Pkt.cA_len f q s.n) HY.out (Pkt.cA_one f q s.n) HM.out ?_;intro l V ho hn hnil hb;have HO:=hidx (And.intro ho (And.intro hn (And.intro hnil hb)));clear ho hn hnil hb)
  go_ret
  exact ⟨l,rfl,by have h:=HO.out.1;rw [← HO.out.2.1] at h;exact h,HO.out.2.1,HO.out.2.2.1,HO.out.2.2.2⟩
theorem renew_i (s:Sl) (z:Nat→Int) (w:World) (h:Is w s z) (hm:s.n≤1000000) :
    Calls Tryz.prog 49 #[.slice s.a s.n s.c] w fun e w'=>∃ l:Sl,e = .returned (.slice l.a l.n l.c)∧w'.ownsRow w.heap.size 3 1 (.slice l.a l.n l.c) l.n (Pkt.cI z l.n)∧l.n=s.n∧Pkt.Nil l∧Below w.heap.size w w':=by
  have HM:=hidx hm
  have HY:=hidx (is_cl h)
  clear h hm
  go_enter Tryz.func49,Tryz.ntmps49
  go_wp2_with (at_builtin;refine zaj rfl _ _ 26 3 rfl (.int .i64 0) 1 8 Tryz.underlying26 Pkt.Tryz.infoIe rfl (by decide) (by decide) rfl s (Pkt.cI z s.n) rfl (Pkt.cI_len z s.n) HY.out (Pkt.cI_one z s.n) HM.out ?_;intro l V ho hn hnil hb;have HO:=hidx (And.intro ho (And.intro hn (And.intro hnil hb)));clear ho hn hnil hb)
  go_ret
  exact ⟨l,rfl,by have h:=HO.out.1;rw [← HO.out.2.1] at h;exact h,HO.out.2.1,HO.out.2.2.1,HO.out.2.2.2⟩
theorem renew_s (s:Sl) (z:Nat→ByteArray) (w:World) (h:Ss w s z) (hm:s.n≤1000000) :
    Calls Tryz.prog 50 #[.slice s.a s.n s.c] w fun e w'=>∃ l:Sl,e = .returned (.slice l.a l.n l.c)∧w'.ownsRow w.heap.size 9 1 (.slice l.a l.n l.c) l.n (Pkt.cS z l.n)∧l.n=s.n∧Pkt.Nil l∧Below w.heap.size w w':=by
  have HM:=hidx hm
  have HY:=hidx (ss_cl h)
  clear h hm
  go_enter Tryz.func50,Tryz.ntmps50
  go_wp2_with (at_builtin;refine zaj rfl _ _ 27 9 rfl (.string ⟨#[]⟩) 1 16 Tryz.underlying27 Pkt.Tryz.infoSe rfl (by decide) (by decide) rfl s (Pkt.cS z s.n) rfl (Pkt.cS_len z s.n) HY.out (Pkt.cS_one z s.n) HM.out ?_;intro l V ho hn hnil hb;have HO:=hidx (And.intro ho (And.intro hn (And.intro hnil hb)));clear ho hn hnil hb)
  go_ret
  exact ⟨l,rfl,by have h:=HO.out.1;rw [← HO.out.2.1] at h;exact h,HO.out.2.1,HO.out.2.2.1,HO.out.2.2.2⟩
theorem copy_own (p:Pk) (c:Cn) (w:World) (hin:In w p c) (hs:Small p c) :
    Calls Tryz.prog 14 #[.agg (pkCells p)] w fun e w'=>∃ s1 s2 s3 s4 s5 s6:Sl,e = .returned (.agg (pkCells (p.re s1 s2 s3 s4 s5 s6)))∧In w' (p.re s1 s2 s3 s4 s5 s6) c∧(s1.n=p.wP.n∧s2.n=p.pass.n∧s3.n=p.mP.n∧s4.n=p.asks.n∧s5.n=p.codes.n∧s6.n=p.filters.n)∧Pkt.Nils (p.re s1 s2 s3 s4 s5 s6)∧Ows w.heap.size w' (p.re s1 s2 s3 s4 s5 s6)∧Below w.heap.size w w':=by
  obtain ⟨W,hW⟩:∃ W,W=(w.alloc (.cells (pkCells p) 29)).alloc (.cells #[.int .i64 0,.int .i64 0,.bool false,.int .i64 0,.string ⟨#[]⟩,.bool false,.string ⟨#[]⟩,.slice none 0 0,.int .i64 0,.bool false,.bool false,.string ⟨#[]⟩,.bool false,.slice none 0 0,.bool false,.int .i64 0,.bool false,.string ⟨#[]⟩,.slice none 0 0,.int .i64 0,.bool false,.int .i64 0,.slice none 0 0,.slice none 0 0,.slice none 0 0] 29):=⟨_,rfl⟩
  obtain ⟨q1,q2,q3⟩:=zbx w (pkCells p) #[.int .i64 0,.int .i64 0,.bool false,.int .i64 0,.string ⟨#[]⟩,.bool false,.string ⟨#[]⟩,.slice none 0 0,.int .i64 0,.bool false,.bool false,.string ⟨#[]⟩,.bool false,.slice none 0 0,.bool false,.int .i64 0,.bool false,.string ⟨#[]⟩,.slice none 0 0,.int .i64 0,.bool false,.int .i64 0,.slice none 0 0,.slice none 0 0,.slice none 0 0]
  rw [← hW] at q1 q2 q3
  have CB:=hidx (show Cb w W p from ⟨q1,q2,q3⟩)
  have LX:=hidx (Lx.start (w.heap.size+2) W p c)
  have SZ:=hidx (show w.heap.size+2≤W.heap.size from (Array.getElem?_eq_some_iff.1 q2).1)
  have IN:=hidx hin
  have HS:=hidx hs
  clear q1 q2 q3 hin hs
  obtain ⟨kind,level,clean,keep,client,hasWill,wT,⟨wa,wn,wc⟩,wQ,wR,hasUser,user,hasPass,⟨pa,pn,pc⟩,present,code,dup,mT,⟨ma,mn,mc⟩,mQ,mR,id,⟨aa,an,ac⟩,⟨ca,cn,cc⟩,⟨fa,fn,fc⟩⟩:=p
  have c7:=CB.out.cell 7 _ rfl
  go_enter Tryz.func14,Tryz.ntmps14
  go_upto_region 1 with fail
  rw [← hW]
  clear hW
  have SB:=hidx (Nat.le_refl W.heap.size)
  have CM:=hidx (zbL ⟨wa,wn,wc⟩ c.wz _ (IN.out.below CB.out.bel).wP HS.out.wp)
  go_wp2_with fail
  go_must (go_at_call 47)
  refine CM.out.mono ?_
  clear CM c7
  rintro e V1 ⟨l1,rfl,ho,hn,hnil,hb⟩
  have N1:=hidx (And.intro hn hnil)
  replace LX:=hidx (LX.out.awP (Nat.le_trans SZ.out SB.out) hb ho hnil)
  replace SB:=hidx (Nat.le_trans SB.out hb.size)
  replace CB:=hidx (CB.out.below hb)
  clear ho hn hnil hb
  have f7:=CB.out.fz 7
  have c7:=CB.out.cell 7 _ rfl
  go_upto_region 2 with fail
  obtain ⟨U1,hU⟩:∃ U,U=V1.setCell ⟨w.heap.size,7,none⟩ (.slice l1.a l1.n l1.c):=⟨_,rfl⟩
  rw [← hU]
  replace LX:=hidx (show Lx (w.heap.size+2) U1 _ c _ _ from by rw [hU];exact (LX.out).set (b:=w.heap.size) (i:=7) (v:=.slice l1.a l1.n l1.c) (by omega))
  replace CB:=hidx (show Cb w U1 (⟨kind,level,clean,keep,client,hasWill,wT,l1,wQ,wR,hasUser,user,hasPass,⟨pa,pn,pc⟩,present,code,dup,mT,⟨ma,mn,mc⟩,mQ,mR,id,⟨aa,an,ac⟩,⟨ca,cn,cc⟩,⟨fa,fn,fc⟩⟩:Pk) from by rw [hU];exact (CB.out).set 7 (.slice l1.a l1.n l1.c) (q:=(⟨kind,level,clean,keep,client,hasWill,wT,l1,wQ,wR,hasUser,user,hasPass,⟨pa,pn,pc⟩,present,code,dup,mT,⟨ma,mn,mc⟩,mQ,mR,id,⟨aa,an,ac⟩,⟨ca,cn,cc⟩,⟨fa,fn,fc⟩⟩:Pk)) rfl)
  replace SB:=hidx (show W.heap.size≤U1.heap.size from by rw [hU];simpa [World.setCell] using SB.out)
  clear hU f7 c7
  have c13:=CB.out.cell 13 _ rfl
  have CM:=hidx (zbL ⟨pa,pn,pc⟩ c.pz _ (IN.out.below CB.out.bel).pass HS.out.ps)
  go_wp2_with fail
  go_must (go_at_call 47)
  refine CM.out.mono ?_
  clear CM c13
  rintro e V2 ⟨l2,rfl,ho,hn,hnil,hb⟩
  have N2:=hidx (And.intro hn hnil)
  replace LX:=hidx (LX.out.apass (Nat.le_trans SZ.out SB.out) hb ho hnil)
  replace SB:=hidx (Nat.le_trans SB.out hb.size)
  replace CB:=hidx (CB.out.below hb)
  clear ho hn hnil hb
  have f13:=CB.out.fz 13
  have c13:=CB.out.cell 13 _ rfl
  go_upto_region 3 with fail
  obtain ⟨U2,hU⟩:∃ U,U=V2.setCell ⟨w.heap.size,13,none⟩ (.slice l2.a l2.n l2.c):=⟨_,rfl⟩
  rw [← hU]
  replace LX:=hidx (show Lx (w.heap.size+2) U2 _ c _ _ from by rw [hU];exact (LX.out).set (b:=w.heap.size) (i:=13) (v:=.slice l2.a l2.n l2.c) (by omega))
  replace CB:=hidx (show Cb w U2 (⟨kind,level,clean,keep,client,hasWill,wT,l1,wQ,wR,hasUser,user,hasPass,l2,present,code,dup,mT,⟨ma,mn,mc⟩,mQ,mR,id,⟨aa,an,ac⟩,⟨ca,cn,cc⟩,⟨fa,fn,fc⟩⟩:Pk) from by rw [hU];exact (CB.out).set 13 (.slice l2.a l2.n l2.c) (q:=(⟨kind,level,clean,keep,client,hasWill,wT,l1,wQ,wR,hasUser,user,hasPass,l2,present,code,dup,mT,⟨ma,mn,mc⟩,mQ,mR,id,⟨aa,an,ac⟩,⟨ca,cn,cc⟩,⟨fa,fn,fc⟩⟩:Pk)) rfl)
  replace SB:=hidx (show W.heap.size≤U2.heap.size from by rw [hU];simpa [World.setCell] using SB.out)
  clear hU f13 c13
  have c18:=CB.out.cell 18 _ rfl
  have CM:=hidx (zbL ⟨ma,mn,mc⟩ c.mz _ (IN.out.below CB.out.bel).mP HS.out.mp)
  go_wp2_with fail
  go_must (go_at_call 47)
  refine CM.out.mono ?_
  clear CM c18
  rintro e V3 ⟨l3,rfl,ho,hn,hnil,hb⟩
  have N3:=hidx (And.intro hn hnil)
  replace LX:=hidx (LX.out.amP (Nat.le_trans SZ.out SB.out) hb ho hnil)
  replace SB:=hidx (Nat.le_trans SB.out hb.size)
  replace CB:=hidx (CB.out.below hb)
  clear ho hn hnil hb
  have f18:=CB.out.fz 18
  have c18:=CB.out.cell 18 _ rfl
  go_upto_region 4 with fail
  obtain ⟨U3,hU⟩:∃ U,U=V3.setCell ⟨w.heap.size,18,none⟩ (.slice l3.a l3.n l3.c):=⟨_,rfl⟩
  rw [← hU]
  replace LX:=hidx (show Lx (w.heap.size+2) U3 _ c _ _ from by rw [hU];exact (LX.out).set (b:=w.heap.size) (i:=18) (v:=.slice l3.a l3.n l3.c) (by omega))
  replace CB:=hidx (show Cb w U3 (⟨kind,level,clean,keep,client,hasWill,wT,l1,wQ,wR,hasUser,user,hasPass,l2,present,code,dup,mT,l3,mQ,mR,id,⟨aa,an,ac⟩,⟨ca,cn,cc⟩,⟨fa,fn,fc⟩⟩:Pk) from by rw [hU];exact (CB.out).set 18 (.slice l3.a l3.n l3.c) (q:=(⟨kind,level,clean,keep,client,hasWill,wT,l1,wQ,wR,hasUser,user,hasPass,l2,present,code,dup,mT,l3,mQ,mR,id,⟨aa,an,ac⟩,⟨ca,cn,cc⟩,⟨fa,fn,fc⟩⟩:Pk)) rfl)
  replace SB:=hidx (show W.heap.size≤U3.heap.size from by rw [hU];simpa [World.setCell] using SB.out)
  clear hU f18 c18
  have c22:=CB.out.cell 22 _ rfl
  have CM:=hidx (renew_a ⟨aa,an,ac⟩ c.af c.aq _ (IN.out.below CB.out.bel).asks HS.out.an)
  go_wp2_with fail
  go_must (go_at_call 48)
  refine CM.out.mono ?_
  clear CM c22
  rintro e V4 ⟨l4,rfl,ho,hn,hnil,hb⟩
  have N4:=hidx (And.intro hn hnil)
  replace LX:=hidx (LX.out.aasks (Nat.le_trans SZ.out SB.out) hb ho hnil)
  replace SB:=hidx (Nat.le_trans SB.out hb.size)
  replace CB:=hidx (CB.out.below hb)
  clear ho hn hnil hb
  have f22:=CB.out.fz 22
  have c22:=CB.out.cell 22 _ rfl
  go_upto_region 5 with fail
  obtain ⟨U4,hU⟩:∃ U,U=V4.setCell ⟨w.heap.size,22,none⟩ (.slice l4.a l4.n l4.c):=⟨_,rfl⟩
  rw [← hU]
  replace LX:=hidx (show Lx (w.heap.size+2) U4 _ c _ _ from by rw [hU];exact (LX.out).set (b:=w.heap.size) (i:=22) (v:=.slice l4.a l4.n l4.c) (by omega))
  replace CB:=hidx (show Cb w U4 (⟨kind,level,clean,keep,client,hasWill,wT,l1,wQ,wR,hasUser,user,hasPass,l2,present,code,dup,mT,l3,mQ,mR,id,l4,⟨ca,cn,cc⟩,⟨fa,fn,fc⟩⟩:Pk) from by rw [hU];exact (CB.out).set 22 (.slice l4.a l4.n l4.c) (q:=(⟨kind,level,clean,keep,client,hasWill,wT,l1,wQ,wR,hasUser,user,hasPass,l2,present,code,dup,mT,l3,mQ,mR,id,l4,⟨ca,cn,cc⟩,⟨fa,fn,fc⟩⟩:Pk)) rfl)
  replace SB:=hidx (show W.heap.size≤U4.heap.size from by rw [hU];simpa [World.setCell] using SB.out)
  clear hU f22 c22
  have c23:=CB.out.cell 23 _ rfl
  have CM:=hidx (renew_i ⟨ca,cn,cc⟩ c.cs _ (IN.out.below CB.out.bel).codes HS.out.cn)
  go_wp2_with fail
  go_must (go_at_call 49)
  refine CM.out.mono ?_
  clear CM c23
  rintro e V5 ⟨l5,rfl,ho,hn,hnil,hb⟩
  have N5:=hidx (And.intro hn hnil)
  replace LX:=hidx (LX.out.acodes (Nat.le_trans SZ.out SB.out) hb ho hnil)
  replace SB:=hidx (Nat.le_trans SB.out hb.size)
  replace CB:=hidx (CB.out.below hb)
  clear ho hn hnil hb
  have f23:=CB.out.fz 23
  have c23:=CB.out.cell 23 _ rfl
  go_upto_region 6 with fail
  obtain ⟨U5,hU⟩:∃ U,U=V5.setCell ⟨w.heap.size,23,none⟩ (.slice l5.a l5.n l5.c):=⟨_,rfl⟩
  rw [← hU]
  replace LX:=hidx (show Lx (w.heap.size+2) U5 _ c _ _ from by rw [hU];exact (LX.out).set (b:=w.heap.size) (i:=23) (v:=.slice l5.a l5.n l5.c) (by omega))
  replace CB:=hidx (show Cb w U5 (⟨kind,level,clean,keep,client,hasWill,wT,l1,wQ,wR,hasUser,user,hasPass,l2,present,code,dup,mT,l3,mQ,mR,id,l4,l5,⟨fa,fn,fc⟩⟩:Pk) from by rw [hU];exact (CB.out).set 23 (.slice l5.a l5.n l5.c) (q:=(⟨kind,level,clean,keep,client,hasWill,wT,l1,wQ,wR,hasUser,user,hasPass,l2,present,code,dup,mT,l3,mQ,mR,id,l4,l5,⟨fa,fn,fc⟩⟩:Pk)) rfl)
  replace SB:=hidx (show W.heap.size≤U5.heap.size from by rw [hU];simpa [World.setCell] using SB.out)
  clear hU f23 c23
  have c24:=CB.out.cell 24 _ rfl
  have CM:=hidx (renew_s ⟨fa,fn,fc⟩ c.fs _ (IN.out.below CB.out.bel).filters HS.out.fn)
  go_wp2_with fail
  go_must (go_at_call 50)
  refine CM.out.mono ?_
  clear CM c24
  rintro e V6 ⟨l6,rfl,ho,hn,hnil,hb⟩
  have N6:=hidx (And.intro hn hnil)
  replace LX:=hidx (LX.out.afilters (Nat.le_trans SZ.out SB.out) hb ho hnil)
  replace SB:=hidx (Nat.le_trans SB.out hb.size)
  replace CB:=hidx (CB.out.below hb)
  clear ho hn hnil hb
  have f24:=CB.out.fz 24
  have c24:=CB.out.cell 24 _ rfl
  go_upto_region 7 with fail
  obtain ⟨U6,hU⟩:∃ U,U=V6.setCell ⟨w.heap.size,24,none⟩ (.slice l6.a l6.n l6.c):=⟨_,rfl⟩
  rw [← hU]
  replace LX:=hidx (show Lx (w.heap.size+2) U6 _ c _ _ from by rw [hU];exact (LX.out).set (b:=w.heap.size) (i:=24) (v:=.slice l6.a l6.n l6.c) (by omega))
  replace CB:=hidx (show Cb w U6 (⟨kind,level,clean,keep,client,hasWill,wT,l1,wQ,wR,hasUser,user,hasPass,l2,present,code,dup,mT,l3,mQ,mR,id,l4,l5,l6⟩:Pk) from by rw [hU];exact (CB.out).set 24 (.slice l6.a l6.n l6.c) (q:=(⟨kind,level,clean,keep,client,hasWill,wT,l1,wQ,wR,hasUser,user,hasPass,l2,present,code,dup,mT,l3,mQ,mR,id,l4,l5,l6⟩:Pk)) rfl)
  replace SB:=hidx (show W.heap.size≤U6.heap.size from by rw [hU];simpa [World.setCell] using SB.out)
  clear hU f24 c24
  go_wp2_with (first | (refine za2 rfl _ rfl w.heap.size rfl _ (0,0) CB.out.bx (zc5 _) ?_)|(refine wpList_store_row rfl 29 _ _ rfl (w.heap.size+1) (pkCells (⟨kind,level,clean,keep,client,hasWill,wT,l1,wQ,wR,hasUser,user,hasPass,l2,present,code,dup,mT,l3,mQ,mR,id,l4,l5,l6⟩:Pk)) rfl rfl 29 (pkCells (blank 0)) CB.out.rs zbY rfl (pk_one _) ?_))
  have RS:=hidx (zaH CB.out.rs (pkCells (⟨kind,level,clean,keep,client,hasWill,wT,l1,wQ,wR,hasUser,user,hasPass,l2,present,code,dup,mT,l3,mQ,mR,id,l4,l5,l6⟩:Pk)))
  have hx:=LX.out.keep (w':=U6.setRow (w.heap.size+1) (pkCells (⟨kind,level,clean,keep,client,hasWill,wT,l1,wQ,wR,hasUser,user,hasPass,l2,present,code,dup,mT,l3,mQ,mR,id,l4,l5,l6⟩:Pk))) (fun j hj _=>zaO _ _ _ _ (by omega)) (by simp [World.setRow])
  have HX:=hidx hx
  clear hx
  refine bodyPost_ret (results_cell_row rfl _ _ _ _ _ _ _ rfl RS.out Tryz.underlying29 rfl (by kernel_rfl)) rfl ⟨l1,l2,l3,l4,l5,l6,rfl,?_,⟨N1.out.1,N2.out.1,N3.out.1,N4.out.1,N5.out.1,N6.out.1⟩,⟨N1.out.2,N2.out.2,N3.out.2,N4.out.2,N5.out.2,N6.out.2⟩,?_,Pkt.zaF CB.out.bel _ _ (by omega)⟩
  · exact ⟨zaX (HX.out.wP (by decide)).1 IN.out.wP.2.1,zaX (HX.out.pass (by decide)).1 IN.out.pass.2.1,zaX (HX.out.mP (by decide)).1 IN.out.mP.2.1,zcb (HX.out.asks (by decide)).1,zbW (HX.out.codes (by decide)).1,zc4 (HX.out.filters (by decide)).1⟩
  · have ps:=HX.out.ps
    exact ⟨⟨_,zao (HX.out.wP (by decide)).1 (by omega)⟩,⟨_,zao (HX.out.pass (by decide)).1 (by omega)⟩,⟨_,zao (HX.out.mP (by decide)).1 (by omega)⟩,⟨_,zao (HX.out.asks (by decide)).1 (by omega)⟩,⟨_,zao (HX.out.codes (by decide)).1 (by omega)⟩,⟨_,zao (HX.out.filters (by decide)).1 (by omega)⟩,List.pairwise_reverse.2 (ps.imp (fun {a b} h k e1 e2=>h k e2 e1))⟩
theorem zbN (t:ByteArray) (s:Sl) (q:Int) (r:Bool) (z:Nat→Int) (w:World) (h:By w s z) (hm:s.n≤1000000) :
    Calls Tryz.prog 46 #[.agg #[.string t,.slice s.a s.n s.c,.int .i64 q,.bool r]] w fun e w'=>∃ s':Sl,e = .returned (.agg #[.string t,.slice s'.a s'.n s'.c,.int .i64 q,.bool r])∧w'.ownsRow w.heap.size 5 1 (.slice s'.a s'.n s'.c) s'.n (Pkt.cB z s'.n)∧s'.n=s.n∧Pkt.Nil s'∧Below w.heap.size w w':=by
  have HM:=hidx hm
  obtain ⟨W,hW⟩:∃ W,W=(w.alloc (.cells #[.string t,.slice s.a s.n s.c,.int .i64 q,.bool r] 24)).alloc (.cells #[.string ⟨#[]⟩,.slice none 0 0,.int .i64 0,.bool false] 24):=⟨_,rfl⟩
  have b0:Hid (Below w.heap.size w W):=by rw [hW];exact Pkt.below2 _ _ _
  have x0:Hid (W.heap[w.heap.size]?=some (.cells #[.string t,.slice s.a s.n s.c,.int .i64 q,.bool r] 24)):=by show _=_;rw [hW];exact heap_alloc2_old w _ _
  have x1:Hid (W.heap[w.heap.size+1]?=some (.cells #[.string ⟨#[]⟩,.slice none 0 0,.int .i64 0,.bool false] 24)):=by show _=_;rw [hW];exact heap_alloc2_new w _ _
  have c1:W.cell? ⟨w.heap.size,1,none⟩=some (.slice s.a s.n s.c):=zam x0.out 1 _ rfl
  have HY:=hidx (h.below b0.out)
  clear h hm
  go_enter Tryz.func46,Tryz.ntmps46
  go_upto_region 1 with fail
  rw [← hW]
  clear hW
  go_wp2_with (at_builtin;refine zaj rfl _ _ 22 5 rfl (.int .u8 0) 1 1 Tryz.underlying22 Tryz.info5 rfl (by decide) (by decide) rfl s (Pkt.cB z s.n) rfl (Pkt.cB_len z s.n) (by_cl HY.out) (Pkt.cB_one z s.n) HM.out ?_;intro l V ho hn hnil hb;have HO:=hidx (And.intro ho (And.intro hn (And.intro hnil hb)));have y0:=zaz x0.out hb;have y1:=zaz x1.out hb;have Y1:=hidx y1;have Y0:=hidx y0;have e0:=zam y0 0 _ rfl;have e1:=zam y0 1 _ rfl;have e2:=zam y0 2 _ rfl;have e3:=zam y0 3 _ rfl;have f1:V.frozen? ⟨w.heap.size,1,none⟩=false:=(by simp [World.frozen?,y0]);have d0:=zam y1 0 _ rfl;have d1:=zam y1 1 _ rfl;have d2:=zam y1 2 _ rfl;have d3:=zam y1 3 _ rfl;have z0:V.frozen? ⟨w.heap.size+1,0,none⟩=false:=(by simp [World.frozen?,y1]);have z1:V.frozen? ⟨w.heap.size+1,1,none⟩=false:=(by simp [World.frozen?,y1]);have z2:V.frozen? ⟨w.heap.size+1,2,none⟩=false:=(by simp [World.frozen?,y1]);have z3:V.frozen? ⟨w.heap.size+1,3,none⟩=false:=(by simp [World.frozen?,y1]);clear ho hn hnil hb y0 y1 c1)
  have r1:(V.setCell ⟨w.heap.size,1,none⟩ (.slice l.a l.n l.c)).heap[w.heap.size+1]?=some (.cells #[.string ⟨#[]⟩,.slice none 0 0,.int .i64 0,.bool false] 24):=(Below.heap_setCell V _ _ _ (by simp)).trans Y1.out
  have r2:=zab (i:=0) r1 (.string t)
  have r3:=zab (i:=1) r2 (.slice l.a l.n l.c)
  have r4:=zab (i:=2) r3 (.int .i64 q)
  have r5:=zab (i:=3) r4 (.bool r)
  have HR5:=hidx r5
  clear r1 r2 r3 r4 r5
  refine bodyPost_ret (results_cell_row rfl _ _ _ _ _ _ _ rfl HR5.out Tryz.underlying24 rfl (by kernel_rfl)) rfl ⟨l,rfl,?_,HO.out.2.1,HO.out.2.2.1,?_⟩
  · have hW0:w.heap.size+1<W.heap.size:=(Array.getElem?_eq_some_iff.1 x1.out).1
    have hfar:∀ k,W.heap.size≤k→(((((V.setCell ⟨w.heap.size,1,none⟩ (.slice l.a l.n l.c)).setCell ⟨w.heap.size+1,0,none⟩ (.string t)).setCell ⟨w.heap.size+1,1,none⟩ (.slice l.a l.n l.c)).setCell ⟨w.heap.size+1,2,none⟩ (.int .i64 q)).setCell ⟨w.heap.size+1,3,none⟩ (.bool r)).heap[k]?=V.heap[k]?:=fun k hk=>by
      have q1:k≠w.heap.size+1:=by omega
      have q0:k≠w.heap.size:=by omega
      rw [Below.heap_setCell _ _ _ _ q1,Below.heap_setCell _ _ _ _ q1,Below.heap_setCell _ _ _ _ q1,Below.heap_setCell _ _ _ _ q1,Below.heap_setCell _ _ _ _ q0]
    have ho:=HO.out.1
    rw [← HO.out.2.1] at ho
    refine zax (own_less ho b0.out.size) (fun k e=>hfar k (ho.lt k e).1)
  · have hb:=b0.out.trans (HO.out.2.2.2.mono b0.out.size)
    have q1:w.heap.size≤w.heap.size+1:=by omega
    exact ((((hb.setCell (p:=⟨w.heap.size,1,none⟩) (Nat.le_refl _) _).setCell (p:=⟨w.heap.size+1,0,none⟩) q1 _).setCell (p:=⟨w.heap.size+1,1,none⟩) q1 _).setCell (p:=⟨w.heap.size+1,2,none⟩) q1 _).setCell (p:=⟨w.heap.size+1,3,none⟩) q1 _
theorem copy3_any (p:Pk) (c:Cn) (w:World) (hin:In w p c) (hs:Small p c) :
    Calls Tryz.prog 13 #[.agg (pkCells p)] w fun e w'=>∃ s1 s2 s3 s4 s5 s6:Sl,e = .returned (.agg (pkCells (p.re s1 s2 s3 s4 s5 s6)))∧In w' (p.re s1 s2 s3 s4 s5 s6) c∧(s1.n=p.wP.n∧s2.n=p.pass.n∧s3.n=p.mP.n∧s4.n=p.asks.n∧s5.n=p.codes.n∧s6.n=p.filters.n)∧Pkt.Nils (p.re s1 s2 s3 s4 s5 s6)∧Below w.heap.size w w':=by
  obtain ⟨W,hW⟩:∃ W,W=(w.alloc (.cells (pkCells p) 29)).alloc (.cells #[.int .i64 0,.int .i64 0,.bool false,.int .i64 0,.string ⟨#[]⟩,.bool false,.string ⟨#[]⟩,.slice none 0 0,.int .i64 0,.bool false,.bool false,.string ⟨#[]⟩,.bool false,.slice none 0 0,.bool false,.int .i64 0,.bool false,.string ⟨#[]⟩,.slice none 0 0,.int .i64 0,.bool false,.int .i64 0,.slice none 0 0,.slice none 0 0,.slice none 0 0] 29):=⟨_,rfl⟩
  obtain ⟨q1,q2,q3⟩:=zbx w (pkCells p) #[.int .i64 0,.int .i64 0,.bool false,.int .i64 0,.string ⟨#[]⟩,.bool false,.string ⟨#[]⟩,.slice none 0 0,.int .i64 0,.bool false,.bool false,.string ⟨#[]⟩,.bool false,.slice none 0 0,.bool false,.int .i64 0,.bool false,.string ⟨#[]⟩,.slice none 0 0,.int .i64 0,.bool false,.int .i64 0,.slice none 0 0,.slice none 0 0,.slice none 0 0]
  rw [← hW] at q1 q2 q3
  have CB:=hidx (show Cb w W p from ⟨q1,q2,q3⟩)
  have LX:=hidx (Lx.start (w.heap.size+2) W p c)
  have SZ:=hidx (show w.heap.size+2≤W.heap.size from (Array.getElem?_eq_some_iff.1 q2).1)
  have IN:=hidx hin
  have HS:=hidx hs
  clear q1 q2 q3 hin hs
  obtain ⟨kind,level,clean,keep,client,hasWill,wT,⟨wa,wn,wc⟩,wQ,wR,hasUser,user,hasPass,⟨pa,pn,pc⟩,present,code,dup,mT,⟨ma,mn,mc⟩,mQ,mR,id,⟨aa,an,ac⟩,⟨ca,cn,cc⟩,⟨fa,fn,fc⟩⟩:=p
  have c6:=CB.out.cell 6 _ rfl
  have c7:=CB.out.cell 7 _ rfl
  have c8:=CB.out.cell 8 _ rfl
  have c9:=CB.out.cell 9 _ rfl
  go_enter Tryz.func13,Tryz.ntmps13
  go_upto_region 1 with fail
  rw [← hW]
  clear hW
  have SB:=hidx (Nat.le_refl W.heap.size)
  have CM:=hidx (zbN wT ⟨wa,wn,wc⟩ wQ wR c.wz _ (IN.out.below CB.out.bel).wP HS.out.wp)
  go_wp2_with fail
  go_must (go_at_call 46)
  refine CM.out.mono ?_
  clear CM c6 c7 c8 c9
  rintro e V1 ⟨l1,rfl,ho,hn,hnil,hb⟩
  have N1:=hidx (And.intro hn hnil)
  replace LX:=hidx (LX.out.awP (Nat.le_trans SZ.out SB.out) hb ho hnil)
  replace SB:=hidx (Nat.le_trans SB.out hb.size)
  replace CB:=hidx (CB.out.below hb)
  clear ho hn hnil hb
  have f6:=CB.out.fz 6
  have c6:=CB.out.cell 6 _ rfl
  have f7:=CB.out.fz 7
  have c7:=CB.out.cell 7 _ rfl
  have f8:=CB.out.fz 8
  have c8:=CB.out.cell 8 _ rfl
  have f9:=CB.out.fz 9
  have c9:=CB.out.cell 9 _ rfl
  go_upto_region 2 with fail
  obtain ⟨U1,hU⟩:∃ U,U=(((V1.setCell ⟨w.heap.size,6,none⟩ (.string wT)).setCell ⟨w.heap.size,7,none⟩ (.slice l1.a l1.n l1.c)).setCell ⟨w.heap.size,8,none⟩ (.int .i64 wQ)).setCell ⟨w.heap.size,9,none⟩ (.bool wR):=⟨_,rfl⟩
  rw [← hU]
  replace LX:=hidx (show Lx (w.heap.size+2) U1 _ c _ _ from by rw [hU];exact ((((LX.out).set (b:=w.heap.size) (i:=6) (v:=.string wT) (by omega)).set (b:=w.heap.size) (i:=7) (v:=.slice l1.a l1.n l1.c) (by omega)).set (b:=w.heap.size) (i:=8) (v:=.int .i64 wQ) (by omega)).set (b:=w.heap.size) (i:=9) (v:=.bool wR) (by omega))
  replace CB:=hidx (show Cb w U1 (⟨kind,level,clean,keep,client,hasWill,wT,l1,wQ,wR,hasUser,user,hasPass,⟨pa,pn,pc⟩,present,code,dup,mT,⟨ma,mn,mc⟩,mQ,mR,id,⟨aa,an,ac⟩,⟨ca,cn,cc⟩,⟨fa,fn,fc⟩⟩:Pk) from by rw [hU];exact ((((CB.out).set 6 (.string wT) (q:=(⟨kind,level,clean,keep,client,hasWill,wT,⟨wa,wn,wc⟩,wQ,wR,hasUser,user,hasPass,⟨pa,pn,pc⟩,present,code,dup,mT,⟨ma,mn,mc⟩,mQ,mR,id,⟨aa,an,ac⟩,⟨ca,cn,cc⟩,⟨fa,fn,fc⟩⟩:Pk)) rfl).set 7 (.slice l1.a l1.n l1.c) (q:=(⟨kind,level,clean,keep,client,hasWill,wT,l1,wQ,wR,hasUser,user,hasPass,⟨pa,pn,pc⟩,present,code,dup,mT,⟨ma,mn,mc⟩,mQ,mR,id,⟨aa,an,ac⟩,⟨ca,cn,cc⟩,⟨fa,fn,fc⟩⟩:Pk)) rfl).set 8 (.int .i64 wQ) (q:=(⟨kind,level,clean,keep,client,hasWill,wT,l1,wQ,wR,hasUser,user,hasPass,⟨pa,pn,pc⟩,present,code,dup,mT,⟨ma,mn,mc⟩,mQ,mR,id,⟨aa,an,ac⟩,⟨ca,cn,cc⟩,⟨fa,fn,fc⟩⟩:Pk)) rfl).set 9 (.bool wR) (q:=(⟨kind,level,clean,keep,client,hasWill,wT,l1,wQ,wR,hasUser,user,hasPass,⟨pa,pn,pc⟩,present,code,dup,mT,⟨ma,mn,mc⟩,mQ,mR,id,⟨aa,an,ac⟩,⟨ca,cn,cc⟩,⟨fa,fn,fc⟩⟩:Pk)) rfl)
  replace SB:=hidx (show W.heap.size≤U1.heap.size from by rw [hU];simpa [World.setCell] using SB.out)
  clear hU f6 c6 f7 c7 f8 c8 f9 c9
  have c17:=CB.out.cell 17 _ rfl
  have c18:=CB.out.cell 18 _ rfl
  have c19:=CB.out.cell 19 _ rfl
  have c20:=CB.out.cell 20 _ rfl
  have CM:=hidx (zbN mT ⟨ma,mn,mc⟩ mQ mR c.mz _ (IN.out.below CB.out.bel).mP HS.out.mp)
  go_wp2_with fail
  go_must (go_at_call 46)
  refine CM.out.mono ?_
  clear CM c17 c18 c19 c20
  rintro e V2 ⟨l2,rfl,ho,hn,hnil,hb⟩
  have N2:=hidx (And.intro hn hnil)
  replace LX:=hidx (LX.out.amP (Nat.le_trans SZ.out SB.out) hb ho hnil)
  replace SB:=hidx (Nat.le_trans SB.out hb.size)
  replace CB:=hidx (CB.out.below hb)
  clear ho hn hnil hb
  have f17:=CB.out.fz 17
  have c17:=CB.out.cell 17 _ rfl
  have f18:=CB.out.fz 18
  have c18:=CB.out.cell 18 _ rfl
  have f19:=CB.out.fz 19
  have c19:=CB.out.cell 19 _ rfl
  have f20:=CB.out.fz 20
  have c20:=CB.out.cell 20 _ rfl
  go_upto_region 3 with fail
  obtain ⟨U2,hU⟩:∃ U,U=(((V2.setCell ⟨w.heap.size,17,none⟩ (.string mT)).setCell ⟨w.heap.size,18,none⟩ (.slice l2.a l2.n l2.c)).setCell ⟨w.heap.size,19,none⟩ (.int .i64 mQ)).setCell ⟨w.heap.size,20,none⟩ (.bool mR):=⟨_,rfl⟩
  rw [← hU]
  replace LX:=hidx (show Lx (w.heap.size+2) U2 _ c _ _ from by rw [hU];exact ((((LX.out).set (b:=w.heap.size) (i:=17) (v:=.string mT) (by omega)).set (b:=w.heap.size) (i:=18) (v:=.slice l2.a l2.n l2.c) (by omega)).set (b:=w.heap.size) (i:=19) (v:=.int .i64 mQ) (by omega)).set (b:=w.heap.size) (i:=20) (v:=.bool mR) (by omega))
  replace CB:=hidx (show Cb w U2 (⟨kind,level,clean,keep,client,hasWill,wT,l1,wQ,wR,hasUser,user,hasPass,⟨pa,pn,pc⟩,present,code,dup,mT,l2,mQ,mR,id,⟨aa,an,ac⟩,⟨ca,cn,cc⟩,⟨fa,fn,fc⟩⟩:Pk) from by rw [hU];exact ((((CB.out).set 17 (.string mT) (q:=(⟨kind,level,clean,keep,client,hasWill,wT,l1,wQ,wR,hasUser,user,hasPass,⟨pa,pn,pc⟩,present,code,dup,mT,⟨ma,mn,mc⟩,mQ,mR,id,⟨aa,an,ac⟩,⟨ca,cn,cc⟩,⟨fa,fn,fc⟩⟩:Pk)) rfl).set 18 (.slice l2.a l2.n l2.c) (q:=(⟨kind,level,clean,keep,client,hasWill,wT,l1,wQ,wR,hasUser,user,hasPass,⟨pa,pn,pc⟩,present,code,dup,mT,l2,mQ,mR,id,⟨aa,an,ac⟩,⟨ca,cn,cc⟩,⟨fa,fn,fc⟩⟩:Pk)) rfl).set 19 (.int .i64 mQ) (q:=(⟨kind,level,clean,keep,client,hasWill,wT,l1,wQ,wR,hasUser,user,hasPass,⟨pa,pn,pc⟩,present,code,dup,mT,l2,mQ,mR,id,⟨aa,an,ac⟩,⟨ca,cn,cc⟩,⟨fa,fn,fc⟩⟩:Pk)) rfl).set 20 (.bool mR) (q:=(⟨kind,level,clean,keep,client,hasWill,wT,l1,wQ,wR,hasUser,user,hasPass,⟨pa,pn,pc⟩,present,code,dup,mT,l2,mQ,mR,id,⟨aa,an,ac⟩,⟨ca,cn,cc⟩,⟨fa,fn,fc⟩⟩:Pk)) rfl)
  replace SB:=hidx (show W.heap.size≤U2.heap.size from by rw [hU];simpa [World.setCell] using SB.out)
  clear hU f17 c17 f18 c18 f19 c19 f20 c20
  have c13:=CB.out.cell 13 _ rfl
  have CLL:=hidx (by_cl (IN.out.below CB.out.bel).pass)
  have HM:=hidx HS.out.ps
  go_upto_region 8 with (at_builtin;refine zaj rfl _ _ 22 5 rfl (.int .u8 0) 1 1 Tryz.underlying22 Pkt.Tryz.infoBe rfl (by decide) (by decide) rfl ⟨pa,pn,pc⟩ (Pkt.cB c.pz pn) rfl (Pkt.cB_len c.pz pn) CLL.out (Pkt.cB_one c.pz pn) HM.out ?_;intro l3 V3 ho hn hnil hb;have N3:=hidx (And.intro hn hnil);replace LX:=hidx (LX.out.apass (Nat.le_trans SZ.out SB.out) hb (by rw [hn] at ho ⊢;exact ho) hnil);replace SB:=hidx (Nat.le_trans SB.out hb.size);replace CB:=hidx (CB.out.below hb);clear ho hn hnil hb c13 CLL;have c13:=CB.out.cell 13 _ rfl;have f13:=CB.out.fz 13)
  obtain ⟨U3,hU⟩:∃ U,U=V3.setCell ⟨w.heap.size,13,none⟩ (.slice l3.a l3.n l3.c):=⟨_,rfl⟩
  rw [← hU]
  replace LX:=hidx (show Lx (w.heap.size+2) U3 _ c _ _ from by rw [hU];exact (LX.out).set (b:=w.heap.size) (i:=13) (v:=.slice l3.a l3.n l3.c) (by omega))
  replace CB:=hidx (show Cb w U3 (⟨kind,level,clean,keep,client,hasWill,wT,l1,wQ,wR,hasUser,user,hasPass,l3,present,code,dup,mT,l2,mQ,mR,id,⟨aa,an,ac⟩,⟨ca,cn,cc⟩,⟨fa,fn,fc⟩⟩:Pk) from by rw [hU];exact (CB.out).set 13 (.slice l3.a l3.n l3.c) (q:=(⟨kind,level,clean,keep,client,hasWill,wT,l1,wQ,wR,hasUser,user,hasPass,l3,present,code,dup,mT,l2,mQ,mR,id,⟨aa,an,ac⟩,⟨ca,cn,cc⟩,⟨fa,fn,fc⟩⟩:Pk)) rfl)
  replace SB:=hidx (show W.heap.size≤U3.heap.size from by rw [hU];simpa [World.setCell] using SB.out)
  clear hU f13 c13 HM
  have c22:=CB.out.cell 22 _ rfl
  have CLL:=hidx (as_cl (IN.out.below CB.out.bel).asks)
  have HM:=hidx HS.out.an
  go_upto_region 9 with (at_builtin;refine zaj rfl _ _ 25 98 rfl (.agg #[.string ⟨#[]⟩,.int .i64 0]) 2 24 Tryz.underlying25 Pkt.Tryz.infoAe rfl (by decide) (by decide) rfl ⟨aa,an,ac⟩ (Pkt.cA c.af c.aq an) rfl (Pkt.cA_len c.af c.aq an) CLL.out (Pkt.cA_one c.af c.aq an) HM.out ?_;intro l4 V4 ho hn hnil hb;have N4:=hidx (And.intro hn hnil);replace LX:=hidx (LX.out.aasks (Nat.le_trans SZ.out SB.out) hb (by rw [hn] at ho ⊢;exact ho) hnil);replace SB:=hidx (Nat.le_trans SB.out hb.size);replace CB:=hidx (CB.out.below hb);clear ho hn hnil hb c22 CLL;have c22:=CB.out.cell 22 _ rfl;have f22:=CB.out.fz 22)
  obtain ⟨U4,hU⟩:∃ U,U=V4.setCell ⟨w.heap.size,22,none⟩ (.slice l4.a l4.n l4.c):=⟨_,rfl⟩
  rw [← hU]
  replace LX:=hidx (show Lx (w.heap.size+2) U4 _ c _ _ from by rw [hU];exact (LX.out).set (b:=w.heap.size) (i:=22) (v:=.slice l4.a l4.n l4.c) (by omega))
  replace CB:=hidx (show Cb w U4 (⟨kind,level,clean,keep,client,hasWill,wT,l1,wQ,wR,hasUser,user,hasPass,l3,present,code,dup,mT,l2,mQ,mR,id,l4,⟨ca,cn,cc⟩,⟨fa,fn,fc⟩⟩:Pk) from by rw [hU];exact (CB.out).set 22 (.slice l4.a l4.n l4.c) (q:=(⟨kind,level,clean,keep,client,hasWill,wT,l1,wQ,wR,hasUser,user,hasPass,l3,present,code,dup,mT,l2,mQ,mR,id,l4,⟨ca,cn,cc⟩,⟨fa,fn,fc⟩⟩:Pk)) rfl)
  replace SB:=hidx (show W.heap.size≤U4.heap.size from by rw [hU];simpa [World.setCell] using SB.out)
  clear hU f22 c22 HM
  have c23:=CB.out.cell 23 _ rfl
  have CLL:=hidx (is_cl (IN.out.below CB.out.bel).codes)
  have HM:=hidx HS.out.cn
  go_upto_region 10 with (at_builtin;refine zaj rfl _ _ 26 3 rfl (.int .i64 0) 1 8 Tryz.underlying26 Pkt.Tryz.infoIe rfl (by decide) (by decide) rfl ⟨ca,cn,cc⟩ (Pkt.cI c.cs cn) rfl (Pkt.cI_len c.cs cn) CLL.out (Pkt.cI_one c.cs cn) HM.out ?_;intro l5 V5 ho hn hnil hb;have N5:=hidx (And.intro hn hnil);replace LX:=hidx (LX.out.acodes (Nat.le_trans SZ.out SB.out) hb (by rw [hn] at ho ⊢;exact ho) hnil);replace SB:=hidx (Nat.le_trans SB.out hb.size);replace CB:=hidx (CB.out.below hb);clear ho hn hnil hb c23 CLL;have c23:=CB.out.cell 23 _ rfl;have f23:=CB.out.fz 23)
  obtain ⟨U5,hU⟩:∃ U,U=V5.setCell ⟨w.heap.size,23,none⟩ (.slice l5.a l5.n l5.c):=⟨_,rfl⟩
  rw [← hU]
  replace LX:=hidx (show Lx (w.heap.size+2) U5 _ c _ _ from by rw [hU];exact (LX.out).set (b:=w.heap.size) (i:=23) (v:=.slice l5.a l5.n l5.c) (by omega))
  replace CB:=hidx (show Cb w U5 (⟨kind,level,clean,keep,client,hasWill,wT,l1,wQ,wR,hasUser,user,hasPass,l3,present,code,dup,mT,l2,mQ,mR,id,l4,l5,⟨fa,fn,fc⟩⟩:Pk) from by rw [hU];exact (CB.out).set 23 (.slice l5.a l5.n l5.c) (q:=(⟨kind,level,clean,keep,client,hasWill,wT,l1,wQ,wR,hasUser,user,hasPass,l3,present,code,dup,mT,l2,mQ,mR,id,l4,l5,⟨fa,fn,fc⟩⟩:Pk)) rfl)
  replace SB:=hidx (show W.heap.size≤U5.heap.size from by rw [hU];simpa [World.setCell] using SB.out)
  clear hU f23 c23 HM
  have c24:=CB.out.cell 24 _ rfl
  have CLL:=hidx (ss_cl (IN.out.below CB.out.bel).filters)
  have HM:=hidx HS.out.fn
  go_upto_region 11 with (at_builtin;refine zaj rfl _ _ 27 9 rfl (.string ⟨#[]⟩) 1 16 Tryz.underlying27 Pkt.Tryz.infoSe rfl (by decide) (by decide) rfl ⟨fa,fn,fc⟩ (Pkt.cS c.fs fn) rfl (Pkt.cS_len c.fs fn) CLL.out (Pkt.cS_one c.fs fn) HM.out ?_;intro l6 V6 ho hn hnil hb;have N6:=hidx (And.intro hn hnil);replace LX:=hidx (LX.out.afilters (Nat.le_trans SZ.out SB.out) hb (by rw [hn] at ho ⊢;exact ho) hnil);replace SB:=hidx (Nat.le_trans SB.out hb.size);replace CB:=hidx (CB.out.below hb);clear ho hn hnil hb c24 CLL;have c24:=CB.out.cell 24 _ rfl;have f24:=CB.out.fz 24)
  obtain ⟨U6,hU⟩:∃ U,U=V6.setCell ⟨w.heap.size,24,none⟩ (.slice l6.a l6.n l6.c):=⟨_,rfl⟩
  rw [← hU]
  replace LX:=hidx (show Lx (w.heap.size+2) U6 _ c _ _ from by rw [hU];exact (LX.out).set (b:=w.heap.size) (i:=24) (v:=.slice l6.a l6.n l6.c) (by omega))
  replace CB:=hidx (show Cb w U6 (⟨kind,level,clean,keep,client,hasWill,wT,l1,wQ,wR,hasUser,user,hasPass,l3,present,code,dup,mT,l2,mQ,mR,id,l4,l5,l6⟩:Pk) from by rw [hU];exact (CB.out).set 24 (.slice l6.a l6.n l6.c) (q:=(⟨kind,level,clean,keep,client,hasWill,wT,l1,wQ,wR,hasUser,user,hasPass,l3,present,code,dup,mT,l2,mQ,mR,id,l4,l5,l6⟩:Pk)) rfl)
  replace SB:=hidx (show W.heap.size≤U6.heap.size from by rw [hU];simpa [World.setCell] using SB.out)
  clear hU f24 c24 HM
  go_wp2_with (first | (refine za2 rfl _ rfl w.heap.size rfl _ (0,0) CB.out.bx (zc5 _) ?_)|(refine wpList_store_row rfl 29 _ _ rfl (w.heap.size+1) (pkCells (⟨kind,level,clean,keep,client,hasWill,wT,l1,wQ,wR,hasUser,user,hasPass,l3,present,code,dup,mT,l2,mQ,mR,id,l4,l5,l6⟩:Pk)) rfl rfl 29 (pkCells (blank 0)) CB.out.rs zbY rfl (pk_one _) ?_))
  have RS:=hidx (zaH CB.out.rs (pkCells (⟨kind,level,clean,keep,client,hasWill,wT,l1,wQ,wR,hasUser,user,hasPass,l3,present,code,dup,mT,l2,mQ,mR,id,l4,l5,l6⟩:Pk)))
  have hx:=LX.out.keep (w':=U6.setRow (w.heap.size+1) (pkCells (⟨kind,level,clean,keep,client,hasWill,wT,l1,wQ,wR,hasUser,user,hasPass,l3,present,code,dup,mT,l2,mQ,mR,id,l4,l5,l6⟩:Pk))) (fun j hj _=>zaO _ _ _ _ (by omega)) (by simp [World.setRow])
  have HX:=hidx hx
  clear hx
  refine bodyPost_ret (results_cell_row rfl _ _ _ _ _ _ _ rfl RS.out Tryz.underlying29 rfl (by kernel_rfl)) rfl ⟨l1,l3,l2,l4,l5,l6,rfl,?_,⟨N1.out.1,N3.out.1,N2.out.1,N4.out.1,N5.out.1,N6.out.1⟩,⟨N1.out.2,N3.out.2,N2.out.2,N4.out.2,N5.out.2,N6.out.2⟩,Pkt.zaF CB.out.bel _ _ (by omega)⟩
  · exact ⟨zaX (HX.out.wP (by decide)).1 IN.out.wP.2.1,zaX (HX.out.pass (by decide)).1 IN.out.pass.2.1,zaX (HX.out.mP (by decide)).1 IN.out.mP.2.1,zcb (HX.out.asks (by decide)).1,zbW (HX.out.codes (by decide)).1,zc4 (HX.out.filters (by decide)).1⟩
end Go.Proofs.YtceigllifjgalaaGreatDoor.Tw
