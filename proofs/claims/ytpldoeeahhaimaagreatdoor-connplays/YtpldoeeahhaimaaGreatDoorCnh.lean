import Derived.Test.YtpldoeeahhaimaaGreatDoorCnf
namespace Go.Proofs.YtpldoeeahhaimaaGreatDoor.Co
open Go Go.RowKit
open Pkt (Pk Cn Sl In By Is Ss As pkCells Gd KindsAt Small wpList_load_wanted ck TT)
set_option linter.unusedSimpArgs false
set_option linter.unusedVariables false
def kbZ (a b:Int):List Int:=[16,12,0,4,77,81,84,84,4,2,a,b,0,0,192,0]
theorem kb_bd (a b:Int) (ha:0≤a∧a≤255) (hb:0≤b∧b≤255):∀ i,0≤listZ (kbZ a b) i∧listZ (kbZ a b) i≤255:=listZ_bd _ (by
 intro x hx
 simp only [kbZ,List.mem_cons,List.not_mem_nil,or_false] at hx
 omega)
theorem kb_con (n:Nat) (hn:n=14∨n=15) (a b:Int) (ha:0≤a∧a≤255) (hb:0≤b∧b≤255):decP (listZ (kbZ a b)) n 1000 = .ok (conP (a*256+b)) noCn 14:=by
 have hp:packP (listZ (kbZ a b)) (2+12) 2 = .ok (conP (a*256+b),noCn):=by
  unfold packP
  rw [show intoP (listZ (kbZ a b)) (2+12) ⟨2,0,0⟩ (listZ (kbZ a b) 0 / 16) noCn (listZ (kbZ a b) 0 % 16) = .ok (⟨14,0,0⟩,conP (a*256+b),noCn) by kernel_rfl]
  simp only
  rw [if_pos (con_ck (a*256+b) (by omega))]
 rcases hn with rfl | rfl
 · exact dec_of (h:=2) (l:=12) (by kernel_rfl) (by decide) (by decide) hp
 · exact dec_of (h:=2) (l:=12) (by kernel_rfl) (by decide) (by decide) hp
theorem ping_more (a b:Int):decP (sh (listZ (kbZ a b)) 14) 1 1000 = .more:=by rw [decP,show headP (sh (listZ (kbZ a b)) 14) 1 (clampM 1000)=(0,0,none) by kernel_rfl];rfl
theorem ping_ok (a b:Int):decP (sh (listZ (kbZ a b)) 14) 2 1000 = .ok (blank 12) noCn 2:=by
 refine dec_of (h:=2) (l:=0) (by kernel_rfl) (by decide) (by decide) ?_
 unfold packP
 rw [show intoP (sh (listZ (kbZ a b)) 14) (2+0) ⟨2,0,0⟩ (sh (listZ (kbZ a b)) 14 0 / 16) noCn (sh (listZ (kbZ a b)) 14 0 % 16) = .ok (⟨2,0,0⟩,blank 12,noCn) by kernel_rfl]
 simp only [ck_ping,if_true]
def pgZ:List Int:=[192,0]
theorem pg_bd:∀ i,0≤listZ pgZ i∧listZ pgZ i≤255:=listZ_bd _ (by decide)
theorem pg_ok:decP (listZ pgZ) 2 1000 = .ok (blank 12) noCn 2:=by
 refine dec_of (h:=2) (l:=0) (by kernel_rfl) (by decide) (by decide) ?_
 unfold packP
 rw [show intoP (listZ pgZ) (2+0) ⟨2,0,0⟩ (listZ pgZ 0 / 16) noCn (listZ pgZ 0 % 16) = .ok (⟨2,0,0⟩,blank 12,noCn) by kernel_rfl]
 simp only [ck_ping,if_true]
def Mk (cb fb:Nat) (rf:Option Nat) (k:Nat):Prop:=k=cb∨k=fb∨rf=some k
section
variable {w W:World} {cb fb:Nat} {most st si bd:Int} {rf:Option Nat} {P:Nat} {z:Nat→Int} {H:Nat}
theorem KL.oth {W':World} (h:KL w W cb fb most st si bd rf P z H) (hc:Ch (Mk cb fb rf) W W') {j:Nat} {c:Array Value} {t:TypeId} (hj:W.heap[j]?=some (.cells c t (0,0))) (ht:t≠5∧t≠59∧t≠83):W'.heap[j]?=some (.cells c t (0,0)):=by
 refine (hc.block j (Array.getElem?_eq_some_iff.1 hj).1 ?_).trans hj
 rintro (q | q | q)
 · exact blk_ne hj h.lv.cn ht.2.1 q
 · obtain ⟨c',h2⟩:=h.lv.fs.blk.1
   exact blk_ne hj h2 ht.2.2 q
 · obtain ⟨_,c',h2⟩:=h.lv.fs.blk.2 j q
   exact blk_ne hj h2 ht.1 rfl
theorem kl_lit (L:List Int) (cs:Array Value) (h:KL w W cb fb most st si bd rf P z H) (z':Nat→Int) (hcs:∀ i,i<L.length→cs[i]?=some (.int .u8 (listZ L i))) (hb:∀ x ∈ L,0≤x∧x≤255) (hn:P+H≤400000) (hln:L.length≤400000) (h1:∀ i,i<H→z' i=z i) (h2:∀ i,i<L.length→z' (H+i)=listZ L i) :
    Calls Tryz.prog 9 #[.pointer (some ⟨cb,0,none⟩),.slice (some ⟨W.heap.size,0,none⟩) L.length L.length] (W.alloc (.cells cs 5)) fun e w'=>e = .returned (.tuple #[])∧∃ rf',KL w w' cb fb most st si bd rf' P z' (H+L.length)∧Ch (Mk cb fb rf) W w'∧Nw W.heap.size rf rf':=by
  have hbb:Below W.heap.size W (W.alloc (.cells cs 5)):=(Below.refl _ _).alloc (Nat.le_refl _) _
  refine (kl_push (h.below hbb) ⟨some ⟨W.heap.size,0,none⟩,L.length,L.length⟩ (listZ L) z' (by_new L cs hcs (listZ_bd L hb)) hn hln h1 h2).mono ?_
  rintro e w' ⟨rfl,rf',a1,a2,a3⟩
  refine ⟨rfl,rf',a1,(Below.ch (S:=Mk cb fb rf) hbb).trans a2 (fun j _ q=>?_),?_⟩
  · rcases q with q | q
    · exact .inr (.inl q)
    · exact .inr (.inr q)
  · rcases a3 with y | y | ⟨m,y,y2⟩
    · exact .inl y
    · exact .inr (.inl y)
    · exact .inr (.inr ⟨m,y,by have:=hbb.size;omega⟩)
theorem mk_ch {W':World} (hc:Ch (fun k=>k=cb∨k=fb) W W'):Ch (Mk cb fb rf) W W':=hc.mono (fun j _ q=>by
 rcases q with q | q
 · exact .inl q
 · exact .inr (.inl q))
theorem ibox {w2 w3:World} {cs:Array Value} (h:w3=(w2.alloc (.cells #[.int .i64 0,.int .i64 0,.int .i64 0,.bool false,.int .i64 0,.string ⟨#[]⟩,.bool false,.string ⟨#[]⟩,.slice none 0 0,.int .i64 0,.bool false,.bool false,.string ⟨#[]⟩,.bool false,.slice none 0 0,.bool false,.int .i64 0,.bool false,.string ⟨#[]⟩,.slice none 0 0,.int .i64 0,.bool false,.int .i64 0,.slice none 0 0,.slice none 0 0,.slice none 0 0,.int .i64 0,.int .i64 0] 42)).setRow w2.heap.size cs):w3.heap[w2.heap.size]?=some (.cells cs 42 (0,0))∧Below w2.heap.size w2 w3:=by
 have h1:=zero_in w2
 rw [h]
 exact ⟨setRow_at h1,(below_setRow ((Below.refl _ _).alloc (Nat.le_refl _) _) (Nat.le_refl _)).out⟩
theorem KL.young {W':World} {S:Nat→Prop} {n:Nat} (h:KL w W cb fb most st si bd rf P z H) (hc:Ch S W W') (hs:∀ k,S k→n≤k) (h1:cb<n) (h2:fb<n) (h3:∀ k,rf=some k→k<n) (hw:w.heap.size≤n):KL w W' cb fb most st si bd rf P z H :=
 h.keep hc (fun q=>by have:=hs _ q;omega) (fun q=>by have:=hs _ q;omega) (fun k e q=>by have:=hs _ q;have:=h3 k e;omega) (fun k q=>by have:=hs k q;omega)
end
open Pkt (Pk Cn Sl In By Is Ss As pkCells Gd KindsAt Small)
theorem own_ch {w w':World} {S:Nat→Prop} {B e s n:Nat} {v:Value} {xs:List Value} (h:w.ownsRow B e s v n xs) (hc:Ch S w w') (hs:∀ g,v.ownBlock=some g→¬ S g):w'.ownsRow B e s v n xs:=own_keep h (fun k hk=>by
 obtain ⟨c,hb⟩:=own_blk h hk
 exact hc.block k (Array.getElem?_eq_some_iff.1 hb).1 (hs k hk))
set_option maxRecDepth 100000
set_option maxHeartbeats 8000000
theorem in_con {q:Pk} (h:Alike q (conP 10)):inA (ansP 0 (conP 10)) q=inC 1 q 0 0∧q.kind=1∧q.clean=true∧q.keep=10:=by
 obtain ⟨s1,s2,s3,s4,s5,s6,rfl,_⟩:=h
 exact ⟨rfl,rfl,rfl,rfl⟩
theorem in_ping {q:Pk} (h:Alike q (blank 12)):inA (ansP 1 (blank 12)) q=inC 1 q 0 0∧q.kind=12:=by
 obtain ⟨s1,s2,s3,s4,s5,s6,rfl,_⟩:=h
 exact ⟨rfl,rfl⟩
theorem in_first (q:Pk):inA (ansP 0 (blank 12)) q=inC 3 (blank 0) 0 140:=rfl
theorem lits (L:List Int) (cs:Array Value) (h:cs.toList=L.map (fun x=>.int .u8 x)):∀ i,i<L.length→cs[i]?=some (.int .u8 (listZ L i)):=by
 intro i hi
 have:cs[i]?=cs.toList[i]?:=by simp
 rw [this,h,List.getElem?_map,List.getElem?_eq_getElem hi]
 simp [listZ,List.getD_eq_getElem?_getD,List.getElem?_eq_getElem hi]
theorem cknown_any (w:World) (hg:Gw w):Calls Tryz.prog 5 #[] w fun e w'=>e = .returned (.bool true)∧Below w.heap.size w w':=by
 have G:=hidi hg
 clear hg
 go_enter Tryz.func5,Tryz.ntmps5
 go_wp2_with (first
  | (go_at_call 11;refine (kl_new 1000 0 (listZ (kbZ 0 10)) G.out (Below.refl _ _)).mono ?_;rintro e W1 ⟨rfl,h1,-⟩;have K1:=hidi h1;clear h1)
  | (go_at_call 12;refine (over_any K1.out.lv.cn).mono ?_;rintro e w' ⟨rfl,he⟩;obtain rfl:=he.symm))
 obtain ⟨cb,hcb⟩:∃ cb,cb=w.heap.size+1:=⟨_,rfl⟩
 obtain ⟨fb,hfb⟩:∃ fb,fb=w.heap.size:=⟨_,rfl⟩
 rw [← hcb,show KL w W1 cb w.heap.size=KL w W1 cb fb by rw [hfb]] at K1
 rw [← hcb]
 clear hcb hfb
 obtain ⟨bd0,hbd0⟩:∃ b:Int,b=max 0 0:=⟨_,rfl⟩
 rw [← hbd0] at K1
 clear hbd0
 go_must (go_at_call 9)
 refine (kl_lit [16,12,0,4,77,81,84,84,4,2,0,10,0,0,192] _ K1.out (listZ (kbZ 0 10)) (lits _ _ rfl) (by decide) (by decide) (by decide) (by intro i hi;omega) (by decide)).mono ?_
 rintro e W2 ⟨rfl,rf2,k2,-,-⟩
 have K2:=hidi (show KL w W2 cb fb 1000 0 0 bd0 rf2 0 (listZ (kbZ 0 10)) 15 from k2)
 have kbz:=hidi (kb_bd 0 10 (by decide) (by decide))
 clear k2 K1
 go_wp2_with fail
 go_must (go_at_call 13)
 refine (kl_pkt K2.out kbz.out (by decide) (show decP (listZ (kbZ 0 10)) 15 1000 = .ok (conP 10) noCn 14 from kb_con 15 (.inr rfl) 0 10 (by decide) (by decide))).mono ?_
 rintro e W3 ⟨q,rfl,⟨ha,-,-⟩,hp,-⟩
 obtain ⟨hin,q1,q2,q3⟩:=in_con ha
 rw [hin]
 unfold PkL at hp
 rw [if_pos (show onP 0 (conP 10)=true from rfl)] at hp
 obtain ⟨rf3,k3,-,-⟩:=hp
 have K3:=hidi (show KL w W3 cb fb 1000 1 0 15 rf3 14 (sh (listZ (kbZ 0 10)) 14) 1 from k3)
 clear k3 ha hin K2
 go_upto_region 6 with (first | (refine wpList_store_row rfl 42 _ _ rfl W3.heap.size (inC 1 q 0 0) rfl rfl 42 (inC 0 (blank 0) 0 0) (zero_in W3) in_info rfl (in_one _ _ _ _) ?_))
 obtain ⟨W4,hW4⟩:∃ W4,W4=(W3.alloc (.cells #[.int .i64 0,.int .i64 0,.int .i64 0,.bool false,.int .i64 0,.string ⟨#[]⟩,.bool false,.string ⟨#[]⟩,.slice none 0 0,.int .i64 0,.bool false,.bool false,.string ⟨#[]⟩,.bool false,.slice none 0 0,.bool false,.int .i64 0,.bool false,.string ⟨#[]⟩,.slice none 0 0,.int .i64 0,.bool false,.int .i64 0,.slice none 0 0,.slice none 0 0,.slice none 0 0,.int .i64 0,.int .i64 0] 42)).setRow W3.heap.size (inC 1 q 0 0):=⟨_,rfl⟩
 obtain ⟨a4,b4⟩:=ibox hW4
 obtain ⟨bx,hbx⟩:∃ bx,bx=W3.heap.size:=⟨_,rfl⟩
 rw [← hW4,← hbx]
 rw [← hbx] at a4
 have K4:=hidi (K3.out.below b4)
 have HBX:=hidi (show w.heap.size≤bx by rw [hbx];exact K3.out.bel.size)
 have A4:=hidi a4
 have e0:W4.cell? ⟨bx,0,none⟩=some (.int .i64 1):=box_cells a4 0 _ rfl
 have e1:W4.cell? ⟨bx,1,none⟩=some (.int .i64 1):=(by have h:=box_cells a4 1 (.int .i64 q.kind) rfl;rw [q1] at h;exact h)
 have e3:W4.cell? ⟨bx,3,none⟩=some (.bool true):=(by have h:=box_cells a4 3 (.bool q.clean) rfl;rw [q2] at h;exact h)
 have e4:W4.cell? ⟨bx,4,none⟩=some (.int .i64 10):=(by have h:=box_cells a4 4 (.int .i64 q.keep) rfl;rw [q3] at h;exact h)
 clear hW4 hbx a4 b4 K3 q1 q2 q3
 have shz:=hidi (fun i=>kbz.out (14+i))
 go_wp2_with fail
 clear e0 e1 e3 e4
 go_must (go_at_call 13)
 refine (kl_more K4.out shz.out (by decide) (ping_more 0 10)).mono ?_
 rintro e W5 ⟨rfl,rf5,k5,c5,-⟩
 have K5:=hidi k5
 have A5:=hidi (K4.out.oth (mk_ch c5) A4.out ⟨by decide,by decide,by decide⟩)
 clear k5 c5 K4 A4
 go_wp2_with fail
 go_must (go_at_call 9)
 refine (kl_lit [0] _ K5.out (sh (listZ (kbZ 0 10)) 14) (lits _ _ rfl) (by decide) (by decide) (by decide) (fun _ _=>rfl) (by decide)).mono ?_
 rintro e W6 ⟨rfl,rf6,k6,c6,-⟩
 have K6:=hidi (show KL w W6 cb fb 1000 1 0 15 rf6 14 (sh (listZ (kbZ 0 10)) 14) 2 from k6)
 have A6:=hidi (K5.out.oth c6 A5.out ⟨by decide,by decide,by decide⟩)
 clear k6 c6 K5 A5
 go_wp2_with fail
 go_must (go_at_call 13)
 refine (kl_pkt K6.out shz.out (by decide) (ping_ok 0 10)).mono ?_
 rintro e W7 ⟨q',rfl,⟨ha,-,-⟩,hp,hc⟩
 obtain ⟨hin,q1⟩:=in_ping ha
 rw [hin]
 unfold PkL at hp
 rw [if_pos (show onP 1 (blank 12)=true from rfl)] at hp
 obtain ⟨rf7,k7,-,-⟩:=hp
 have K7:=hidi (show KL w W7 cb fb 1000 1 0 15 rf7 16 (sh (sh (listZ (kbZ 0 10)) 14) 2) 0 from k7)
 have A7:=hidi (K6.out.oth (mk_ch hc) A6.out ⟨by decide,by decide,by decide⟩)
 clear k7 ha hin K6 A6 hc
 go_upto_region 11 with (first | (refine wpList_store_row rfl 42 _ _ rfl bx (inC 1 q' 0 0) rfl rfl 42 (inC 1 q 0 0) A7.out in_info rfl (in_one _ _ _ _) ?_))
 obtain ⟨W8,hW8⟩:∃ W8,W8=W7.setRow bx (inC 1 q' 0 0):=⟨_,rfl⟩
 have a8:W8.heap[bx]?=some (.cells (inC 1 q' 0 0) 42 (0,0)):=by rw [hW8];exact setRow_at A7.out
 have hbxl:w.heap.size≤bx:=HBX.out
 have K8:=hidi (show KL w W8 cb fb 1000 1 0 15 rf7 16 (sh (sh (listZ (kbZ 0 10)) 14) 2) 0 from K7.out.keep (S:=fun k=>k=bx) (by rw [hW8];exact ch_row) (fun q=>blk_ne K7.out.lv.cn A7.out (by decide) q) (fun q=>by obtain ⟨c',h2⟩:=K7.out.lv.fs.blk.1;exact blk_ne h2 A7.out (by decide) q) (fun k e q=>by obtain ⟨_,c',h2⟩:=K7.out.lv.fs.blk.2 k e;exact blk_ne h2 A7.out (by decide) q) (fun k q=>by rw [q];exact hbxl))
 rw [← hW8]
 have e0:W8.cell? ⟨bx,0,none⟩=some (.int .i64 1):=box_cells a8 0 _ rfl
 have e1:W8.cell? ⟨bx,1,none⟩=some (.int .i64 12):=(by have h:=box_cells a8 1 (.int .i64 q'.kind) rfl;rw [q1] at h;exact h)
 clear hW8 a8 K7 A7 q1 hbxl
 go_wp2_with fail
 clear e0 e1
 go_loopg [5] 15 (fun gk s5 wx=>∃ i:Nat,i+gk=15∧s5 = .int .i64 i∧Hid (KL w wx cb fb 1000 1 (i:Int) 15 rf7 16 (sh (sh (listZ (kbZ 0 10)) 14) 2) 0))
 case atStart=>exact ⟨0,by omega,rfl,K8.out⟩
 case round =>
  obtain ⟨i,hi,rfl,KI⟩:=hrel
  clear K8
  by_cases hin:i<15
  ·
   have hlt:(i:Int)<15:=by omega
   have hw1:IntKind.i64.wrap ((i:Int)+1)=(i:Int)+1:=by rw [IntKind.wrap_i64];omega
   have hl:lateP 15 ((i:Int)+1)=false:=by unfold lateP;simp;omega
   have TK:=hidi (kl_tick KI.out (by omega))
   rw [hl] at TK
   clear hl KI
   go_wp2_with fail
   go_must (go_at_call 14)
   refine TK.out.mono ?_
   rintro e W9 ⟨rfl,k9,-⟩
   have K9:=hidi k9
   clear k9 TK
   go_wp2_with fail
   go_roundg (15-(i+1))
   case measure=>omega
   case rel=>exact ⟨i+1,by omega,by first | rfl | simp,by have:=K9.out;rw [show ((i+1:Nat):Int)=(i:Int)+1 by omega];exact this⟩
  ·
   have hi15:i=15:=by omega
   subst hi15
   have hlt:¬ ((15:Nat):Int)<15:=by omega
   obtain ⟨n0,hn0⟩:∃ n,n=wr.heap.size:=⟨_,rfl⟩
   have ND:=hidi (kl_new 1000 0 (listZ pgZ) G.out KI.out.bel)
   rw [← hn0] at ND
   have HC:=hidi (show cb<n0∧fb<n0∧(∀ k,rf7=some k→k<n0)∧w.heap.size≤n0 by rw [hn0];exact ⟨KI.out.lv.cn.lt,KI.out.lv.fs.lt.1,KI.out.lv.fs.lt.2,KI.out.bel.size⟩)
   have HN:=hidi hn0
   clear hin hi hn0
   go_wp2_with fail
   go_must (go_at_call 11)
   refine ND.out.mono ?_
   clear ND
   rintro e X1 ⟨rfl,d1,hb⟩
   have KC1:=hidi (KI.out.below (by rw [← HN.out];exact hb))
   have D1:=hidi d1
   clear d1 hb KI
   go_wp2_with fail
   go_must (go_at_call 9)
   refine (kl_lit [192,0] _ D1.out (listZ pgZ) (lits _ _ rfl) (by decide) (by decide) (by decide) (by intro i hi;omega) (by decide)).mono ?_
   rintro e X2 ⟨rfl,rg2,d2,c2,n2⟩
   have hge1:∀ k,Mk (n0+1) n0 none k→n0≤k:=by
    rintro k (q | q | q)
    · omega
    · omega
    · cases q
   have KC2:=hidi (KC1.out.young c2 hge1 HC.out.1 HC.out.2.1 HC.out.2.2.1 HC.out.2.2.2)
   have D2:=hidi (show KL w X2 (n0+1) n0 1000 0 0 (max 0 0) rg2 0 (listZ pgZ) 2 from d2)
   clear d2 c2 n2 hge1 D1 KC1
   go_wp2_with fail
   go_must (go_at_call 13)
   refine (kl_pkt D2.out pg_bd (by decide) pg_ok).mono ?_
   rintro e X3 ⟨q2,rfl,-,hp,hc⟩
   rw [in_first]
   unfold PkL at hp
   rw [if_neg (show ¬ onP 0 (blank 12)=true from by decide)] at hp
   have KC3:=hidi (KC2.out.young hc (by rintro k (q | q) <;> omega) HC.out.1 HC.out.2.1 HC.out.2.2.1 HC.out.2.2.2)
   have D3:=hidi hp
   clear hp hc D2 KC2
   go_upto_region 21 with (first | (refine wpList_store_row rfl 42 _ _ rfl X3.heap.size (inC 3 (blank 0) 0 140) rfl rfl 42 (inC 0 (blank 0) 0 0) (zero_in X3) in_info rfl (in_one _ _ _ _) ?_))
   obtain ⟨X4,hX4⟩:∃ X4,X4=(X3.alloc (.cells #[.int .i64 0,.int .i64 0,.int .i64 0,.bool false,.int .i64 0,.string ⟨#[]⟩,.bool false,.string ⟨#[]⟩,.slice none 0 0,.int .i64 0,.bool false,.bool false,.string ⟨#[]⟩,.bool false,.slice none 0 0,.bool false,.int .i64 0,.bool false,.string ⟨#[]⟩,.slice none 0 0,.int .i64 0,.bool false,.int .i64 0,.slice none 0 0,.slice none 0 0,.slice none 0 0,.int .i64 0,.int .i64 0] 42)).setRow X3.heap.size (inC 3 (blank 0) 0 140):=⟨_,rfl⟩
   obtain ⟨a4,b4⟩:=ibox hX4
   obtain ⟨by_,hby⟩:∃ bx,bx=X3.heap.size:=⟨_,rfl⟩
   rw [← hX4,← hby]
   rw [← hby] at a4
   have KC4:=hidi (KC3.out.below b4)
   have D4:=hidi (D3.out.below b4)
   have TK:=hidi (kl_tick KC4.out (by decide))
   rw [show lateP 15 (((15:Nat):Int)+1)=true from rfl] at TK
   have A4:=hidi a4
   clear hX4 hby a4 b4 KC3 D3
   go_wp2_with fail
   go_must (go_at_call 14)
   refine TK.out.mono ?_
   rintro e X5 ⟨rfl,k5,c5⟩
   have a5:=KC4.out.oth (mk_ch c5) A4.out ⟨by decide,by decide,by decide⟩
   have f0:X5.cell? ⟨by_,0,none⟩=some (.int .i64 3):=box_cells a5 0 _ rfl
   have f27:X5.cell? ⟨by_,27,none⟩=some (.int .i64 140):=box_cells a5 27 _ rfl
   obtain ⟨fp,si,bd,hcn⟩:=D4.out.cn
   have OV:=hidi (over_any (hcn.keep (c5.block _ hcn.lt (by have:=HC.out;rintro (q | q) <;> omega))))
   have HB:=hidi k5.bel
   clear k5 c5 a5 A4 TK KC4 D4 hcn
   go_wp2_with (first | (go_at_call 12;refine OV.out.mono ?_;rintro e w' ⟨rfl,he⟩;obtain rfl:=he.symm))
   go_ret
   exact ⟨rfl,HB.out⟩
end Go.Proofs.YtpldoeeahhaimaaGreatDoor.Co
