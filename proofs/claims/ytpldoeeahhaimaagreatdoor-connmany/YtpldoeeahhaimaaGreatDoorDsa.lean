import Derived.Test.YtpldoeeahhaimaaGreatDoorNra
import Derived.Test.YtpldoeeahhaimaaGreatDoorGf
import Derived.Deep.RegionHeldLaw
namespace Go.Proofs.YtpldoeeahhaimaaGreatDoor.Dr
open Go Go.RowKit
set_option linter.all false
set_option maxRecDepth 100000
set_option maxHeartbeats 2000000
theorem run_nil_none {P:Program} {w:World} (t ty e:TypeId) (i:TypeInfo) (ht:P.underlying t=some (.slice e)) (hi:P.info? e=some i) (a:Option Addr) (c:Nat) : (Builtin.append_ #[t,t] ty #[.slice none 0 0,.slice a 0 c]).run P w = .ok (.slice none 0 0) w:=by cases a with | none=>simp [Builtin.append_,run_underlying ht,sizeOf,typeInfo,hi,Builtin.lenOf,Builtin.firstCells,storeCells] | some a => have hf:=run_firstCells_some (P:=P) w i.size 0 a 0 c [] (by simp) (by intro j v h;simp at h);simp [Builtin.append_,run_underlying ht,sizeOf,typeInfo,hi,Builtin.lenOf,hf,storeCells]
theorem nil_run {w:World} (ty:TypeId) (sa:Option Addr) (n c:Nat) (L:List Value) (hc:CL w sa n c L) (h1:∀ u ∈ L,u.oneCell'=true) (hn:n<=1000000) :
 ∃ a k w',(Builtin.append_ #[32,32] ty #[.slice none 0 0,.slice sa n c]).run Tryz.prog w = .ok (.slice a n k) w'/\w'.ownsRow w.heap.size 5 1 (.slice a n k) n L/\Below w.heap.size w w':=by
 obtain ⟨i0,hi,hz0,hz1,hz2⟩:=info_parts binfo5;by_cases h0:n=0
 · subst h0
   have hL:L=[]:=List.eq_nil_of_length_eq_zero hc.2.1;subst hL;exact ⟨none,0,w,run_nil_none 32 ty 5 i0 Tryz.underlying32 hi sa c,World.ownsRow_nil _ _ _ _,Below.refl _ _⟩
 · obtain ⟨g,off,e,hcell⟩:=hc.2.2.resolve_left h0
   subst e;obtain ⟨v',w',hr,ho,hg,hne,hw⟩:=push_run (P:=Tryz.prog) w w.heap.size 32 ty 5 i0 (.int .u8 0) 1 1 Tryz.underlying32 hi hz0 hz1 hz2 rfl (by decide) _ 0 [] (World.ownsRow_nil _ _ _ _) ⟨g,off,none⟩ n c L (by omega) (by rw [hc.2.1,Nat.mul_one]) (fun j u hu=>by
    have hj:j<n:=by have:=(List.getElem?_eq_some_iff.1 hu).1;rw [hc.2.1] at this;exact this
    rw [plain_add,hcell j hj,hu]) h1 (by unfold maxLen;omega) (by omega) (Nat.le_refl _)
   rw [Nat.zero_add,List.nil_append] at ho;have hb:=(Below.refl w.heap.size w).grown hg (Nat.le_refl _) (fun q hq=>by simp [Value.ownBlock] at hq);rcases ho.2 with ⟨q,_⟩|⟨g',cap,cur,q,_⟩;· exact absurd q (by intro q;subst q;have:=ho.1;have h2:=hc.2.1;omega)
   · subst q
     exact ⟨_,_,w',hr,ho,hb⟩
theorem step_nil {w:World} {ops:Array Oper} {o:Oper} {a:Act} {K:Act->World->Prop} {Q:Exit->Act->World->Prop} {E:Prop} (hgd:o.guard=none) (s x:Operand) (ho:o.op = .call { callee:=.builtin .append,args:=#[s,x],argTypes:=#[32,32] })
 (hs:a.eval s = .slice none 0 0) (sa:Option Addr) (n c:Nat) (L:List Value) (hx:a.eval x = .slice sa n c) (hc:CL w sa n c L) (h1:∀ u ∈ L,u.oneCell'=true) (hn:n<=1000000) (k:∀ a' k' w',w'.ownsRow w.heap.size 5 1 (.slice a' n k') n L->Below w.heap.size w w'->K (a.put o.dst (.slice a' n k')) w'):if Region.wanted o (yielded ops a.tmps)=true then Oper.wp Tryz.prog o a w K Q else E:=by
 have hw:Region.wanted o (yielded ops a.tmps)=true:=by simp [Region.wanted,hgd]
 rw [if_pos hw];obtain ⟨a',k',w',hr,h2,h3⟩:=nil_run (w:=w) o.type sa n c L hc h1 hn;unfold Oper.wp;simp [execOp,ho,resolve,invoke,builtin,hs,hx,hr,Result.andThen];exact k a' k' w' h2 h3
theorem Rr.below {w w':World} {mb:Nat} {v:Value} {at0 q p:Int} (h:Rr w mb v at0 q p) (hb:Below w.heap.size w w'):Rr w' mb v at0 q p:=(hb.block mb (lt_of_block h)).trans h
theorem rtake_ok {w:World} {mb g l c:Nat} {at0 n:Nat} {p:Int} {z:Nat->Int} (h:Rr w mb (.slice (some ⟨g,0,none⟩) l c) at0 0 p) (hc:Came w (some ⟨g,0,none⟩) l c z) (hl:l<=300000) (hn:at0+n<=l) :
 Calls Tryz.prog 113 #[.pointer (some ⟨mb,0,none⟩),.int .i64 n] w fun e w'=>∃ a k w1,e = .returned (.tuple #[.slice a n k,.bool true])/\w1.ownsRow w.heap.size 5 1 (.slice a n k) n (cellsOf (fun i=>z (at0+i)) n)/\Below w.heap.size w w1/\w'=w1.setCell ⟨mb,1,none⟩ (.int .i64 ((at0+n:Nat):Int)):=by
 obtain ⟨c0,c1,c2,c3,f⟩:=h.facts;have hlc:l<=c:=hc.1;have HR:Hid (∀ w1,Below w.heap.size w w1->w1.cell? ⟨mb,1,none⟩=some (.int .i64 at0)/\w1.frozen? ⟨mb,1,none⟩=false):=fun w1 hb=>⟨(h.below hb).facts.2.1,(h.below hb).facts.2.2.2.2 1⟩;have HR0:Hid (∀ w1,Below w.heap.size w w1->w1.cell? ⟨mb,0,none⟩=some (.slice (some ⟨g,0,none⟩) l c)):=fun w1 hb=>(h.below hb).facts.1;have s1:((at0+n:Nat):Int)-(at0:Int)=(n:Int):=by omega
 have s2:(0:Int)<=(at0:Int):=by omega
 have s3:(at0:Int)<=((at0+n:Nat):Int):=by omega
 have s4:((at0+n:Nat):Int)<=(c:Int):=by omega
 have s5:at0+n-at0=n:=by omega
 have t1:(0:Int)<=(at0:Int)+n/\(at0:Int)+n<=c:=by omega
 have t2:at0<=((at0:Int)+n).toNat:=by omega
 have t3:((at0:Int)+n).toNat-at0=n:=by omega
 obtain ⟨ad,had⟩:∃ ad,(if c=at0 then some (⟨g,0,none⟩:Addr) else some ⟨g,at0,none⟩)=some ad:=by
  split;· exact ⟨_,rfl⟩
  · exact ⟨_,rfl⟩
 have HC:Hid (CL w.drew.drew (some ad) n (c-at0) (cellsOf (fun i=>z (at0+i)) n)):=by
  refine ⟨by omega,by simp [cellsOf],?_⟩;by_cases hca:c=at0;· exact .inl (by omega)
  rw [if_neg hca] at had;obtain rfl:=Option.some.inj had;refine .inr ⟨g,at0,rfl,fun j hj=>?_⟩;rw [show (cellsOf (fun i=>z (at0+i)) n)[j]?=some (.int .u8 (z (at0+j))) by simp [cellsOf,hj]];exact came_cell hc (show at0+j<l by omega)
 have HO:Hid (∀ u ∈ cellsOf (fun i=>z (at0+i)) n,u.oneCell'=true):=fun u hu=>cellsOf_one _ _ u hu;have HN:Hid (n<=1000000):=(by omega:n<=1000000);have e2:IntKind.i64.wrap ((l:Int)-(at0:Int))=(l:Int)-at0:=by rw [IntKind.wrap_i64];omega
 have e3:wrap64 ((l:Int)-(at0:Int))=(l:Int)-at0:=by unfold wrap64;omega
 have e4:¬ (l:Int)-(at0:Int)<(n:Int):=by omega
 have e5:IntKind.i64.wrap ((at0:Int)+(n:Int))=((at0+n:Nat):Int):=by rw [IntKind.wrap_i64];omega
 have e6:wrap64 ((at0:Int)+(n:Int))=((at0+n:Nat):Int):=by unfold wrap64;omega
 clear h hn f hl hc;go_enter Tryz.func113,Tryz.ntmps113;go_wp2_with fail;go_region;all_goals go_wp2_with fail
 refine wp_region_held_drew (S:=fun w'=>w'.cell? ⟨mb,0,none⟩=some (.slice (some ⟨g,0,none⟩) l c)/\w'.cell? ⟨mb,1,none⟩=some (.int .i64 at0)) (by kernel_rfl) ⟨c0,c1⟩ (fun hHeld=>?_);change wpAnyH _ _ _ _ _ 18 #[false,false,false,false,false,false,false,false,false,false,false,false,false,false,false,false,false,false] _ (World.drew _);refine tkz 0 ⟨some 31,.move (.tmp 6),32,"crierref1.go:177",#[],none⟩ (.slice none 0 0) (by intro wq hSw;(try dsimp only at hSw);clear hHeld;go_simp) hHeld ?_;simp only [Act.put,zz1,zz2,zz3];refine tkz 1 ⟨some 32,.move (.tmp 0),149,"crierref1.go:177",#[],none⟩ (.pointer (some ⟨mb,0,none⟩)) (by intro wq hSw;(try dsimp only at hSw);clear hHeld;go_simp) hHeld ?_;simp only [Act.put,zz1,zz2,zz3];refine tkz 2 ⟨some 33,.nilCheck (.tmp 32),0,"crierref1.go:177",#[⟨1,.data⟩],none⟩ (.pointer (some ⟨mb,0,none⟩)) (by intro wq hSw;(try dsimp only at hSw);clear hHeld;go_simp) hHeld ?_;simp only [Act.put,zz1,zz2,zz3];refine tkz 3 ⟨some 34,.fieldAddr 153 (.tmp 33) 0,0,"crierref1.go:177",#[⟨2,.data⟩],none⟩ (.pointer (some ⟨mb,0,none⟩)) (by intro wq hSw;(try dsimp only at hSw);clear hHeld;go_simp) hHeld ?_;simp only [Act.put,zz1,zz2,zz3];refine tkz 4 ⟨some 35,.load 32 (.tmp 34),32,"crierref1.go:177",#[⟨3,.data⟩],none⟩ (.slice (some ⟨g,0,none⟩) l c) (by intro wq hSw;(try dsimp only at hSw);clear hHeld;go_simp) hHeld ?_;simp only [Act.put,zz1,zz2,zz3];refine tkz 5 ⟨some 36,.move (.tmp 0),149,"crierref1.go:177",#[],none⟩ (.pointer (some ⟨mb,0,none⟩)) (by intro wq hSw;(try dsimp only at hSw);clear hHeld;go_simp) hHeld ?_;simp only [Act.put,zz1,zz2,zz3];refine tkz 6 ⟨some 37,.nilCheck (.tmp 36),0,"crierref1.go:177",#[⟨5,.data⟩],none⟩ (.pointer (some ⟨mb,0,none⟩)) (by intro wq hSw;(try dsimp only at hSw);clear hHeld;go_simp) hHeld ?_;simp only [Act.put,zz1,zz2,zz3];refine tkz 7 ⟨some 38,.fieldAddr 153 (.tmp 37) 1,0,"crierref1.go:177",#[⟨6,.data⟩],none⟩ (.pointer (some ⟨mb,1,none⟩)) (by intro wq hSw;(try dsimp only at hSw);clear hHeld;go_simp) hHeld ?_;simp only [Act.put,zz1,zz2,zz3];refine tkz 8 ⟨some 39,.load 3 (.tmp 38),3,"crierref1.go:177",#[⟨7,.data⟩],none⟩ (.int .i64 at0) (by intro wq hSw;(try dsimp only at hSw);clear hHeld;go_simp) hHeld ?_;simp only [Act.put,zz1,zz2,zz3];refine tkz 9 ⟨some 40,.move (.tmp 0),149,"crierref1.go:177",#[],none⟩ (.pointer (some ⟨mb,0,none⟩)) (by intro wq hSw;(try dsimp only at hSw);clear hHeld;go_simp) hHeld ?_;simp only [Act.put,zz1,zz2,zz3];refine tkz 10 ⟨some 41,.nilCheck (.tmp 40),0,"crierref1.go:177",#[⟨9,.data⟩],none⟩ (.pointer (some ⟨mb,0,none⟩)) (by intro wq hSw;(try dsimp only at hSw);clear hHeld;go_simp) hHeld ?_;simp only [Act.put,zz1,zz2,zz3];refine tkz 11 ⟨some 42,.fieldAddr 153 (.tmp 41) 1,0,"crierref1.go:177",#[⟨10,.data⟩],none⟩ (.pointer (some ⟨mb,1,none⟩)) (by intro wq hSw;(try dsimp only at hSw);clear hHeld;go_simp) hHeld ?_;simp only [Act.put,zz1,zz2,zz3];refine tkz 12 ⟨some 43,.load 3 (.tmp 42),3,"crierref1.go:177",#[⟨11,.data⟩],none⟩ (.int .i64 at0) (by intro wq hSw;(try dsimp only at hSw);clear hHeld;go_simp) hHeld ?_;simp only [Act.put,zz1,zz2,zz3];refine tkz 13 ⟨some 44,.move (.tmp 1),3,"crierref1.go:177",#[],none⟩ (.int .i64 n) (by intro wq hSw;(try dsimp only at hSw);clear hHeld;go_simp) hHeld ?_;simp only [Act.put,zz1,zz2,zz3];refine tkz 14 ⟨some 45,.binOp .add 3 (.tmp 43) (.tmp 44) 3,3,"crierref1.go:177",#[⟨12,.data⟩,⟨13,.data⟩],none⟩ (.int .i64 ((at0+n:Nat):Int)) (by intro wq hSw;(try dsimp only at hSw);clear hHeld;go_simp) hHeld ?_;simp only [Act.put,zz1,zz2,zz3];refine tkz 15 ⟨some 46,.slice 32 (.tmp 35) (some (.tmp 39)) (some (.tmp 45)) none,32,"crierref1.go:177",#[⟨4,.data⟩,⟨8,.data⟩,⟨14,.data⟩],none⟩ (.slice (some ad) n (c-at0)) (by intro wq hSw;(try dsimp only at hSw);clear hHeld;go_simp) hHeld ?_;simp only [Act.put,zz1,zz2,zz3];refine wpAnyH_ready (rs:=[16]) (by kernel_rfl) (by simp) ?_;refine AllReadyH.cons (o:=⟨some 47,.call ⟨.builtin .append,#[.tmp 31,.tmp 46],#[32,32]⟩,32,"crierref1.go:177",#[⟨0,.data⟩,⟨15,.data⟩],none⟩) (by rfl) (fun K hK=>?_) AllReadyH.nil;refine step_nil rfl (.tmp 31) (.tmp 46) rfl rfl (some ad) n (c-at0) _ rfl HC.out HO.out HN.out ?_;intro a1 k1 w1 h2 h3;have hb1:Below w.heap.size w w1:=⟨h3.os,h3.tape,h3.output,h3.size,h3.block⟩;obtain ⟨d1,d2⟩:=HR.out w1 hb1;have d0:w1.cell? ⟨mb,0,none⟩=some (.slice (some ⟨g,0,none⟩) l c):=HR0.out w1 hb1;have Z:Hid (w1.ownsRow w.heap.size 5 1 (.slice a1 n k1) n (cellsOf (fun i=>z (at0+i)) n)/\Below w.heap.size w w1):=⟨h2,hb1⟩;clear h2 h3 hb1 c0 c1 c2 c3;refine hK.out _ _ ⟨d0,d1⟩ (fun hHeld=>?_);clear hK K;(try simp only [Act.put,zz1,zz2,zz3]);refine tkz 17 ⟨some 6,.assign (.tmp 47),32,"crierref1.go:177",#[⟨16,.data⟩,⟨16,.chain⟩,⟨0,.phase⟩,⟨1,.phase⟩,⟨2,.phase⟩,⟨3,.phase⟩,⟨4,.phase⟩,⟨5,.phase⟩,⟨6,.phase⟩,⟨7,.phase⟩,⟨8,.phase⟩,⟨9,.phase⟩,⟨10,.phase⟩,⟨11,.phase⟩,⟨12,.phase⟩,⟨13,.phase⟩,⟨14,.phase⟩,⟨15,.phase⟩,⟨16,.phase⟩],none⟩ (.slice a1 n k1) (by intro wq hSw;(try dsimp only at hSw);clear hHeld;go_simp) hHeld ?_;simp only [Act.put,zz1,zz2,zz3];refine wpAnyH_done (by kernel_rfl) ?_ _;clear hHeld;go_wp2_with fail;all_goals (try go_ret2)
 all_goals exact ⟨a1,k1,w1,rfl,Z.out.1,Z.out.2,rfl⟩
def rTake (l:Nat) (r:Rs) (n:Nat):Bool×Rs:=if r.q≠0 then (false,r) else if l<r.at0+n then (false,r.gaveUp l 10) else (true,r.on n)
structure Rrd (w:World) (mb:Nat) (a:Option Addr) (l c:Nat) (z:Nat->Int) (r:Rs):Prop where
 rr:Rr w mb (.slice a l c) r.at0 r.q r.p
 cm:Came w a l c z
 ba:a=none\/∃ g,a=some ⟨g,0,none⟩/\g≠mb
 le:r.at0<=l
 few:l<=300000
theorem lt_of_cell {w:World} {b k:Nat} {v:Value} (h:w.cell? ⟨b,k,none⟩=some v):b<w.heap.size:=by
 rcases Nat.lt_or_ge b w.heap.size with q | q;· exact q
 · have e:w.heap[b]?=none:=Array.getElem?_eq_none q
   simp [World.cell?,e] at h
theorem gb_drew2 {w w':World} {k:Option Nat} (h:w.drew.grownBy w' k):w.grownBy w' k:=⟨h.os,h.tape,h.output,h.size,h.block⟩
theorem gb_two {a b c:World} {k:Nat} (h1:a.grownBy b (some k)) (h2:b.grownBy c (some k)):a.grownBy c (some k):=⟨h2.os.trans h1.os,h2.tape.trans h1.tape,h2.output.trans h1.output,Nat.le_trans h1.size h2.size,fun j hj hn=>(h2.block j (Nat.lt_of_lt_of_le hj h1.size) hn).trans (h1.block j hj hn)⟩
theorem gb_bel {a b:World} {k:Nat} (h:Below a.heap.size a b):a.grownBy b (some k):=⟨h.os,h.tape,h.output,h.size,fun j hj _=>h.block j hj⟩
theorem Rrd.next {w w':World} {mb:Nat} {a:Option Addr} {l c:Nat} {z:Nat->Int} {r r':Rs} (h:Rrd w mb a l c z r) (hg:w.grownBy w' (some mb)) (hr:Rr w' mb (.slice a l c) r'.at0 r'.q r'.p) (hl:r'.at0<=l):Rrd w' mb a l c z r':=by
 refine ⟨hr,?_,h.ba,hl,h.few⟩;rcases h.ba with rfl | ⟨g,rfl,hne⟩;·
  rcases h.cm.2.2 with ⟨_,q1,q2⟩|⟨ad,q,_⟩;· exact ⟨h.cm.1,h.cm.2.1,.inl ⟨rfl,q1,q2⟩⟩
  · cases q
 ·
  by_cases h0:l=0
  · subst h0
    exact came_of h.cm.1 h.cm.2.1 (fun i hi=>absurd hi (Nat.not_lt_zero _))
  · have hlt:g<w.heap.size:=lt_of_cell (came_cell h.cm (show 0<l by omega))
    exact came_heap h.cm (hg.block g hlt (fun e=>hne (Option.some.inj e)))
theorem rtake_nil {w:World} {mb:Nat} {p:Int} (h:Rr w mb (.slice none 0 0) 0 0 p):Calls Tryz.prog 113 #[.pointer (some ⟨mb,0,none⟩),.int .i64 0] w fun e w'=>∃ a k,e = .returned (.tuple #[.slice a 0 k,.bool true])/\w'.ownsRow 0 5 1 (.slice a 0 k) 0 []/\(∀ g,a=some ⟨g,0,none⟩->w.heap.size<=g)/\Rr w' mb (.slice none 0 0) 0 0 p/\w.grownBy w' (some mb):=by
 obtain ⟨c0,c1,c2,c3,f⟩:=h.facts;have HR:Hid (∀ w1,Below w.heap.size w w1->Rr w1 mb (.slice none 0 0) 0 0 p):=fun w1 hb=>h.below hb;have hw0:IntKind.i64.wrap 0=0:=by rw [IntKind.wrap_i64];decide
 have HC:Hid (CL w.drew.drew none 0 0 []):=⟨by omega,rfl,.inl rfl⟩;clear h f;go_enter Tryz.func113,Tryz.ntmps113;go_wp2_with fail;go_region;all_goals go_wp2_with fail
 refine wp_region_held_drew (S:=fun w'=>w'.cell? ⟨mb,0,none⟩=some (.slice none 0 0)/\w'.cell? ⟨mb,1,none⟩=some (.int .i64 0)) (by kernel_rfl) ⟨c0,c1⟩ (fun hHeld=>?_);change wpAnyH _ _ _ _ _ 18 #[false,false,false,false,false,false,false,false,false,false,false,false,false,false,false,false,false,false] _ (World.drew _);refine tkz 0 ⟨some 31,.move (.tmp 6),32,"crierref1.go:177",#[],none⟩ (.slice none 0 0) (by intro wq hSw;(try dsimp only at hSw);clear hHeld;go_simp) hHeld ?_;simp only [Act.put,zz1,zz2,zz3];refine tkz 1 ⟨some 32,.move (.tmp 0),149,"crierref1.go:177",#[],none⟩ (.pointer (some ⟨mb,0,none⟩)) (by intro wq hSw;(try dsimp only at hSw);clear hHeld;go_simp) hHeld ?_;simp only [Act.put,zz1,zz2,zz3];refine tkz 2 ⟨some 33,.nilCheck (.tmp 32),0,"crierref1.go:177",#[⟨1,.data⟩],none⟩ (.pointer (some ⟨mb,0,none⟩)) (by intro wq hSw;(try dsimp only at hSw);clear hHeld;go_simp) hHeld ?_;simp only [Act.put,zz1,zz2,zz3];refine tkz 3 ⟨some 34,.fieldAddr 153 (.tmp 33) 0,0,"crierref1.go:177",#[⟨2,.data⟩],none⟩ (.pointer (some ⟨mb,0,none⟩)) (by intro wq hSw;(try dsimp only at hSw);clear hHeld;go_simp) hHeld ?_;simp only [Act.put,zz1,zz2,zz3];refine tkz 4 ⟨some 35,.load 32 (.tmp 34),32,"crierref1.go:177",#[⟨3,.data⟩],none⟩ (.slice none 0 0) (by intro wq hSw;(try dsimp only at hSw);clear hHeld;go_simp) hHeld ?_;simp only [Act.put,zz1,zz2,zz3];refine tkz 5 ⟨some 36,.move (.tmp 0),149,"crierref1.go:177",#[],none⟩ (.pointer (some ⟨mb,0,none⟩)) (by intro wq hSw;(try dsimp only at hSw);clear hHeld;go_simp) hHeld ?_;simp only [Act.put,zz1,zz2,zz3];refine tkz 6 ⟨some 37,.nilCheck (.tmp 36),0,"crierref1.go:177",#[⟨5,.data⟩],none⟩ (.pointer (some ⟨mb,0,none⟩)) (by intro wq hSw;(try dsimp only at hSw);clear hHeld;go_simp) hHeld ?_;simp only [Act.put,zz1,zz2,zz3];refine tkz 7 ⟨some 38,.fieldAddr 153 (.tmp 37) 1,0,"crierref1.go:177",#[⟨6,.data⟩],none⟩ (.pointer (some ⟨mb,1,none⟩)) (by intro wq hSw;(try dsimp only at hSw);clear hHeld;go_simp) hHeld ?_;simp only [Act.put,zz1,zz2,zz3];refine tkz 8 ⟨some 39,.load 3 (.tmp 38),3,"crierref1.go:177",#[⟨7,.data⟩],none⟩ (.int .i64 0) (by intro wq hSw;(try dsimp only at hSw);clear hHeld;go_simp) hHeld ?_;simp only [Act.put,zz1,zz2,zz3];refine tkz 9 ⟨some 40,.move (.tmp 0),149,"crierref1.go:177",#[],none⟩ (.pointer (some ⟨mb,0,none⟩)) (by intro wq hSw;(try dsimp only at hSw);clear hHeld;go_simp) hHeld ?_;simp only [Act.put,zz1,zz2,zz3];refine tkz 10 ⟨some 41,.nilCheck (.tmp 40),0,"crierref1.go:177",#[⟨9,.data⟩],none⟩ (.pointer (some ⟨mb,0,none⟩)) (by intro wq hSw;(try dsimp only at hSw);clear hHeld;go_simp) hHeld ?_;simp only [Act.put,zz1,zz2,zz3];refine tkz 11 ⟨some 42,.fieldAddr 153 (.tmp 41) 1,0,"crierref1.go:177",#[⟨10,.data⟩],none⟩ (.pointer (some ⟨mb,1,none⟩)) (by intro wq hSw;(try dsimp only at hSw);clear hHeld;go_simp) hHeld ?_;simp only [Act.put,zz1,zz2,zz3];refine tkz 12 ⟨some 43,.load 3 (.tmp 42),3,"crierref1.go:177",#[⟨11,.data⟩],none⟩ (.int .i64 0) (by intro wq hSw;(try dsimp only at hSw);clear hHeld;go_simp) hHeld ?_;simp only [Act.put,zz1,zz2,zz3];refine tkz 13 ⟨some 44,.move (.tmp 1),3,"crierref1.go:177",#[],none⟩ (.int .i64 0) (by intro wq hSw;(try dsimp only at hSw);clear hHeld;go_simp) hHeld ?_;simp only [Act.put,zz1,zz2,zz3];refine tkz 14 ⟨some 45,.binOp .add 3 (.tmp 43) (.tmp 44) 3,3,"crierref1.go:177",#[⟨12,.data⟩,⟨13,.data⟩],none⟩ (.int .i64 0) (by intro wq hSw;(try dsimp only at hSw);clear hHeld;go_simp) hHeld ?_;simp only [Act.put,zz1,zz2,zz3];refine tkz 15 ⟨some 46,.slice 32 (.tmp 35) (some (.tmp 39)) (some (.tmp 45)) none,32,"crierref1.go:177",#[⟨4,.data⟩,⟨8,.data⟩,⟨14,.data⟩],none⟩ (.slice none 0 0) (by intro wq hSw;(try dsimp only at hSw);clear hHeld;go_simp) hHeld ?_;simp only [Act.put,zz1,zz2,zz3];refine wpAnyH_ready (rs:=[16]) (by kernel_rfl) (by simp) ?_;refine AllReadyH.cons (o:=⟨some 47,.call ⟨.builtin .append,#[.tmp 31,.tmp 46],#[32,32]⟩,32,"crierref1.go:177",#[⟨0,.data⟩,⟨15,.data⟩],none⟩) (by rfl) (fun K hK=>?_) AllReadyH.nil;refine step_nil rfl (.tmp 31) (.tmp 46) rfl rfl none 0 0 [] rfl HC.out (by simp) (by omega) ?_;intro a1 k1 w1 h2 h3;have hb1:Below w.heap.size w w1:=⟨h3.os,h3.tape,h3.output,h3.size,h3.block⟩;have hr1:=HR.out w1 hb1;obtain ⟨d0,d1,d2,d3,f1⟩:=hr1.facts;have f11:=f1 1;have hmb:=lt_of_block (HR.out w (Below.refl _ _));have Z:Hid ((w1.setCell ⟨mb,1,none⟩ (.int .i64 0)).ownsRow 0 5 1 (.slice a1 0 k1) 0 []/\(∀ g,a1=some ⟨g,0,none⟩->w.heap.size<=g)/\Rr (w1.setCell ⟨mb,1,none⟩ (.int .i64 0)) mb (.slice none 0 0) 0 0 p/\w.grownBy (w1.setCell ⟨mb,1,none⟩ (.int .i64 0)) (some mb)):=⟨own_keep (own_zero h2) (fun j e=>Below.heap_setCell _ _ _ _ (fun q=>by have:=(h2.lt j e).1;have q:j=mb:=q;have t:w.drew.drew.heap.size=w.heap.size:=rfl;omega)),fun g' e=>(h2.lt g' (by rw [e];rfl)).1,hr1.set1 0,gb_two (gb_bel hb1) (rr_gb1 _ _ _ _)⟩;clear h2 h3 hb1 hr1 f1 c0 c1 c2 c3 hmb;refine hK.out _ _ ⟨d0,d1⟩ (fun hHeld=>?_);clear hK K;(try simp only [Act.put,zz1,zz2,zz3]);refine tkz 17 ⟨some 6,.assign (.tmp 47),32,"crierref1.go:177",#[⟨16,.data⟩,⟨16,.chain⟩,⟨0,.phase⟩,⟨1,.phase⟩,⟨2,.phase⟩,⟨3,.phase⟩,⟨4,.phase⟩,⟨5,.phase⟩,⟨6,.phase⟩,⟨7,.phase⟩,⟨8,.phase⟩,⟨9,.phase⟩,⟨10,.phase⟩,⟨11,.phase⟩,⟨12,.phase⟩,⟨13,.phase⟩,⟨14,.phase⟩,⟨15,.phase⟩,⟨16,.phase⟩],none⟩ (.slice a1 0 k1) (by intro wq hSw;(try dsimp only at hSw);clear hHeld;go_simp) hHeld ?_;simp only [Act.put,zz1,zz2,zz3];refine wpAnyH_done (by kernel_rfl) ?_ _;clear hHeld;go_wp2_with fail;all_goals (try go_ret2)
 all_goals exact ⟨a1,k1,rfl,Z.out⟩
theorem rtake_any {w:World} {mb:Nat} {a:Option Addr} {l c:Nat} {z:Nat->Int} {r:Rs} (h:Rrd w mb a l c z r) (n:Nat):Calls Tryz.prog 113 #[.pointer (some ⟨mb,0,none⟩),.int .i64 n] w fun e w'=>∃ a' m k,e = .returned (.tuple #[.slice a' m k,.bool (rTake l r n).1])/\m=(if (rTake l r n).1 then n else 0)/\w'.ownsRow 0 5 1 (.slice a' m k) m (cellsOf (fun i=>z (r.at0+i)) m)/\(∀ g,a'=some ⟨g,0,none⟩->w.heap.size<=g)/\Rrd w' mb a l c z (rTake l r n).2/\w.grownBy w' (some mb):=by
 have hle:=h.le;have hf:=h.few;unfold rTake;by_cases hq:r.q≠0;· rw [if_pos hq];refine (rtake_dead h.rr hq n).mono ?_;rintro e w' ⟨rfl,rfl⟩;exact ⟨none,0,0,rfl,rfl,World.ownsRow_nil _ _ _ _,(fun g q=>by cases q),h,gb_refl _ _⟩
 rw [if_neg hq];have q0:r.q=0:=by simpa using hq
 have hR:=h.rr;rw [q0] at hR;by_cases hn:l<r.at0+n;· rw [if_pos hn];refine (rtake_short hR hf hle hn).mono ?_;rintro e w' ⟨rfl,rfl⟩;have hg:w.grownBy ((w.drew.setCell ⟨mb,2,none⟩ (.int .i64 10)).setCell ⟨mb,3,none⟩ (.int .i64 l)) (some mb):=gb_drew2 (gb_two (rr_gb1 _ _ _ _) (rr_gb1 _ _ _ _));exact ⟨none,0,0,rfl,rfl,World.ownsRow_nil _ _ _ _,(fun g q=>by cases q),h.next (r':=r.gaveUp l 10) hg (((hR.drew).set2 10).set3 l) hle,hg⟩
 rw [if_neg hn];rcases h.ba with rfl | ⟨g,rfl,hne⟩;·
  rcases h.cm.2.2 with ⟨_,q1,q2⟩|⟨ad,q,_⟩;·
   subst q1 q2;have e0:r.at0=0:=by omega
   have n0:n=0:=by omega
   subst n0;rw [e0] at hR;refine (rtake_nil hR).mono ?_;rintro e w' ⟨a',k,rfl,s1,s2,r1,r2⟩;exact ⟨a',0,k,rfl,rfl,s1,s2,h.next (r':=r.on 0) r2 (by show Rr w' mb _ ((r.at0+0:Nat):Int) 0 r.p;rw [e0];exact r1) (by show r.at0+0<=0;omega),r2⟩
  · cases q
 ·
  refine (rtake_ok hR h.cm hf (by omega)).mono ?_;rintro e w' ⟨a',k,w1,rfl,q1,q2,rfl⟩;have hg:w.grownBy (w1.setCell ⟨mb,1,none⟩ (.int .i64 ((r.at0+n:Nat):Int))) (some mb):=gb_two (gb_bel q2) (rr_gb1 _ _ _ _);have hmb:mb<w.heap.size:=lt_of_block hR;refine ⟨a',n,k,rfl,rfl,own_keep (own_zero q1) (fun j e=>Below.heap_setCell _ _ _ _ (fun q=>?_)),fun g' e=>?_,h.next (r':=r.on n) hg ((hR.below q2).set1 _) (by show r.at0+n<=l;omega),hg⟩
  · have:=(q1.lt j e).1
    have q:j=mb:=q;omega
  · exact (q1.lt g' (by rw [e];rfl)).1
set_option maxHeartbeats 1000000
theorem row_at {w:World} {a:Option Addr} {n k:Nat} {Z:Nat->Int} (h:w.ownsRow 0 5 1 (.slice a n k) n (cellsOf Z n)) (hn:0<n):∃ g,a=some ⟨g,0,none⟩/\n<=k/\∀ i,i<n->w.cell? ⟨g,i,none⟩=some (.int .u8 (Z i)):=by
 have h0:=h;rcases h.2 with ⟨q,h0⟩|⟨g,cap,cur,q,_,hg,hc,_⟩;· omega
 ·
  injection q with q1 q2 q3;subst q1 q3;refine ⟨g,rfl,?_,fun i hi=>?_⟩;· omega
  · have:=h0.cells (g:=g) rfl i (.int .u8 (Z i)) (by simp [cellsOf,hi])
    rw [plain_add,Nat.zero_add] at this;exact this
def rByte (z:Nat->Int) (l:Nat) (r:Rs):Int×Rs:=(if (rTake l r 1).1 then z r.at0 else 0,(rTake l r 1).2)
def rNum (z:Nat->Int) (l:Nat) (r:Rs):Int×Rs:=(if (rTake l r 2).1 then z r.at0*256+z (r.at0+1) else 0,(rTake l r 2).2)
theorem refByte_any {w:World} {mb:Nat} {a:Option Addr} {l c:Nat} {z:Nat->Int} {r:Rs} (h:Rrd w mb a l c z r):Calls Tryz.prog 74 #[.pointer (some ⟨mb,0,none⟩)] w fun e w'=>e = .returned (.int .u8 (rByte z l r).1)/\Rrd w' mb a l c z (rByte z l r).2/\w.grownBy w' (some mb):=by
 have H:=hidi (rtake_any h 1);unfold rByte;obtain ⟨b,hb⟩:∃ b,(rTake l r 1).1=b:=⟨_,rfl⟩;rw [hb] at H ⊢;obtain ⟨r2,hr2⟩:∃ r2,(rTake l r 1).2=r2:=⟨_,rfl⟩;rw [hr2] at H ⊢;clear hb hr2 h;go_enter Tryz.func74,Tryz.ntmps74;go_wp2_with fail;go_must (go_at_call 113);refine (H.out).mono ?_;rintro e w1 ⟨a',m,k,rfl,hm,q1,q2,q3,q4⟩;have Z:Hid (Rrd w1 mb a l c z r2/\w.grownBy w1 (some mb)):=⟨q3,q4⟩;cases b;·
  obtain rfl:m=0:=hm;clear q1 q2 q3 q4;go_wp2_with fail;all_goals (try go_ret)
  all_goals exact ⟨rfl,Z.out⟩
 ·
  obtain rfl:m=1:=hm;obtain ⟨g,rfl,hk,hc⟩:=row_at q1 (by omega);have d0:=hc 0 (by omega);clear q1 q2 q3 q4 hc;go_wp2_with fail;all_goals (try go_ret)
  all_goals exact ⟨rfl,Z.out⟩
theorem refNum_any {w:World} {mb:Nat} {a:Option Addr} {l c:Nat} {z:Nat->Int} {r:Rs} (h:Rrd w mb a l c z r):Calls Tryz.prog 76 #[.pointer (some ⟨mb,0,none⟩)] w fun e w'=>e = .returned (.int .i64 (rNum z l r).1)/\Rrd w' mb a l c z (rNum z l r).2/\w.grownBy w' (some mb):=by
 have H:=hidi (rtake_any h 2);have z0:=h.cm.2.1 r.at0;have z1:=h.cm.2.1 (r.at0+1);unfold rNum;obtain ⟨b,hb⟩:∃ b,(rTake l r 2).1=b:=⟨_,rfl⟩;rw [hb] at H ⊢;obtain ⟨r2,hr2⟩:∃ r2,(rTake l r 2).2=r2:=⟨_,rfl⟩;rw [hr2] at H ⊢;obtain ⟨x,hx⟩:∃ x,z r.at0=x:=⟨_,rfl⟩;obtain ⟨y,hy⟩:∃ y,z (r.at0+1)=y:=⟨_,rfl⟩;rw [hx] at z0 ⊢;rw [hy] at z1 ⊢;have HX:Hid (∀ (w1:World) (g:Nat),w1.cell? ⟨g,0,none⟩=some (.int .u8 (z (r.at0+0)))->w1.cell? ⟨g,1,none⟩=some (.int .u8 (z (r.at0+1)))->w1.cell? ⟨g,0,none⟩=some (.int .u8 x)/\w1.cell? ⟨g,1,none⟩=some (.int .u8 y)):=fun w1 g q1 q2=>⟨by rw [q1,Nat.add_zero,hx],by rw [q2,hy]⟩;have e1:IntKind.i64.wrap x=x:=by rw [IntKind.wrap_i64];omega
 have e2:IntKind.i64.wrap y=y:=by rw [IntKind.wrap_i64];omega
 have e3:IntKind.i64.wrap (256*x)=256*x:=by rw [IntKind.wrap_i64];omega
 have e4:IntKind.i64.wrap (256*x+y)=x*256+y:=by rw [IntKind.wrap_i64];omega
 have w1':wrap64 (256*x)=256*x:=by unfold wrap64;omega
 have w2':wrap64 (256*x+y)=x*256+y:=by unfold wrap64;omega
 clear hb hr2 h hx hy z0 z1;go_enter Tryz.func76,Tryz.ntmps76;go_wp2_with fail;go_must (go_at_call 113);refine (H.out).mono ?_;rintro e w1 ⟨a',m,k,rfl,hm,q1,q2,q3,q4⟩;have Z:Hid (Rrd w1 mb a l c z r2/\w.grownBy w1 (some mb)):=⟨q3,q4⟩;have Z':Hid (Rrd w1.drew mb a l c z r2/\w.grownBy w1.drew (some mb)):=⟨q3.next (gb_bel (Below.drew (Below.refl _ _))) q3.rr q3.le,gb_two q4 (gb_bel (Below.drew (Below.refl _ _)))⟩;cases b;·
  obtain rfl:m=0:=hm;clear q1 q2 q3 q4;go_wp2_with fail;all_goals (try go_ret)
  all_goals exact ⟨rfl,Z.out⟩
 ·
  obtain rfl:m=2:=hm;obtain ⟨g,rfl,hk,hc⟩:=row_at q1 (by omega);obtain ⟨d0,d1⟩:=HX.out w1 g (hc 0 (by omega)) (hc 1 (by omega));clear q1 q2 q3 q4 hc;go_wp2_with fail;go_region;all_goals go_wp2_with fail
  all_goals (try go_ret)
  all_goals exact ⟨rfl,Z'.out⟩
set_option maxHeartbeats 2000000
theorem Rrd.drewd {w:World} {mb:Nat} {a:Option Addr} {l c:Nat} {z:Nat->Int} {r:Rs} (h:Rrd w mb a l c z r):Rrd w.drew mb a l c z r:=h.next (gb_bel (Below.drew (Below.refl _ _))) h.rr h.le
theorem gb_drew1 {a b:World} {k:Nat} (h:a.grownBy b (some k)):a.grownBy b.drew (some k):=gb_two h (gb_bel (Below.drew (Below.refl _ _)))
def rEnd (l:Nat) (r:Rs):Rs:=if r.q≠0 then r else if r.at0<l then r.gaveUp r.at0 15 else r
theorem refEnd_any {w:World} {mb:Nat} {a:Option Addr} {l c:Nat} {z:Nat->Int} {r:Rs} (h:Rrd w mb a l c z r):Calls Tryz.prog 79 #[.pointer (some ⟨mb,0,none⟩)] w fun e w'=>e = .returned (.tuple #[])/\Rrd w' mb a l c z (rEnd l r)/\w.grownBy w' (some mb):=by
 obtain ⟨c0,c1,c2,c3,f⟩:=h.rr.facts;have hle:=h.le;have Z0:Hid (Rrd w.drew mb a l c z r/\w.grownBy w.drew (some mb)):=⟨h.drewd,gb_drew1 (gb_refl _ _)⟩;have F0:=hidi (rfail_any h.rr.drew (r.at0:Int) 15);unfold rEnd;by_cases hq:r.q≠0;·
  rw [if_pos hq];have e1:(r.q==0)=false:=by simpa using hq
  clear h hq f;go_enter Tryz.func79,Tryz.ntmps79;go_wp2_with fail;go_region;all_goals go_wp2_with fail
  all_goals (try go_end0)
  all_goals exact ⟨rfl,Z0.out⟩
 rw [if_neg hq];have q0:r.q=0:=by simpa using hq
 have e1:(r.q==0)=true:=by simpa using q0
 by_cases hk:r.at0<l;·
  rw [if_pos hk];have e2:(r.at0:Int)<(l:Int):=by omega
  have hg:w.grownBy ((w.drew.setCell ⟨mb,2,none⟩ (.int .i64 15)).setCell ⟨mb,3,none⟩ (.int .i64 r.at0)) (some mb):=gb_drew2 (gb_two (rr_gb1 _ _ _ _) (rr_gb1 _ _ _ _));have Z:Hid (Rrd ((w.drew.setCell ⟨mb,2,none⟩ (.int .i64 15)).setCell ⟨mb,3,none⟩ (.int .i64 r.at0)) mb a l c z (r.gaveUp r.at0 15)/\w.grownBy ((w.drew.setCell ⟨mb,2,none⟩ (.int .i64 15)).setCell ⟨mb,3,none⟩ (.int .i64 r.at0)) (some mb)):=⟨h.next (r':=r.gaveUp r.at0 15) hg ((h.rr.drew.set2 15).set3 _) hle,hg⟩;clear h hq f hg hk hle q0;go_enter Tryz.func79,Tryz.ntmps79;go_wp2_with fail;go_region;all_goals go_wp2_with fail
  all_goals go_must (go_at_call 115)
  all_goals refine (F0.out).mono ?_
  all_goals rintro e w' ⟨rfl,rfl⟩
  all_goals go_wp2_with fail
  all_goals (try go_end0)
  all_goals exact ⟨rfl,Z.out⟩
 ·
  rw [if_neg hk];have e2:¬ (r.at0:Int)<(l:Int):=by omega
  clear h hq f hk hle q0;go_enter Tryz.func79,Tryz.ntmps79;go_wp2_with fail;go_region;all_goals go_wp2_with fail
  all_goals (try go_end0)
  all_goals exact ⟨rfl,Z0.out⟩
set_option maxHeartbeats 1000000
theorem own_blk {w:World} {B e s n:Nat} {v:Value} {xs:List Value} (h:w.ownsRow B e s v n xs) {k:Nat} (hk:v.ownBlock=some k):∃ c,w.heap[k]?=some (.cells c e (0,0)):=by
 rcases h.2 with ⟨r,_⟩|⟨g,cap,cur,r,_,hg,_⟩;· rw [r] at hk;cases hk
 ·
  rw [r] at hk;have e':g=k:=by simpa [Value.ownBlock] using hk
  subst e';exact ⟨_,hg⟩
theorem rNum_nat {z:Nat->Int} (hz:∀ i,0<=z i/\z i<=255) (l:Nat) (r:Rs):((rNum z l r).1.toNat:Int)=(rNum z l r).1:=by have h0:=hz r.at0;have h1:=hz (r.at0+1);unfold rNum;dsimp only;split <;> omega
def rDat (z:Nat->Int) (l:Nat) (r:Rs):(Nat×Nat)×Rs := if (rTake l (rNum z l r).2 (rNum z l r).1.toNat).1 then (((rNum z l r).1.toNat,(rNum z l r).2.at0),(rTake l (rNum z l r).2 (rNum z l r).1.toNat).2) else ((0,(rNum z l r).2.at0),⟨r.at0,(rTake l (rNum z l r).2 (rNum z l r).1.toNat).2.p,(rTake l (rNum z l r).2 (rNum z l r).1.toNat).2.q⟩)
theorem refData_any {w:World} {mb:Nat} {a:Option Addr} {l c:Nat} {z:Nat->Int} {r:Rs} (h:Rrd w mb a l c z r):Calls Tryz.prog 112 #[.pointer (some ⟨mb,0,none⟩)] w fun e w'=>∃ a' k,e = .returned (.slice a' (rDat z l r).1.1 k)/\w'.ownsRow 0 5 1 (.slice a' (rDat z l r).1.1 k) (rDat z l r).1.1 (cellsOf (fun i=>z ((rDat z l r).1.2+i)) (rDat z l r).1.1)/\(∀ g,a'=some ⟨g,0,none⟩->w.heap.size<=g)/\Rrd w' mb a l c z (rDat z l r).2/\w.grownBy w' (some mb):=by
 have H:=hidi (refNum_any h);have hn:=rNum_nat h.cm.2.1 l r;unfold rDat;obtain ⟨n,en⟩:∃ n,(rNum z l r).1.toNat=n:=⟨_,rfl⟩;obtain ⟨r1,er1⟩:∃ r1,(rNum z l r).2=r1:=⟨_,rfl⟩;rw [en] at hn ⊢;rw [<-hn,er1] at H;rw [er1];obtain ⟨b,eb⟩:∃ b,(rTake l r1 n).1=b:=⟨_,rfl⟩;obtain ⟨r2,er2⟩:∃ r2,(rTake l r1 n).2=r2:=⟨_,rfl⟩;have HT:Hid (∀ w1,Rrd w1 mb a l c z r1->Calls Tryz.prog 113 #[.pointer (some ⟨mb,0,none⟩),.int .i64 (n:Int)] w1 fun e w'=>∃ a' m k,e = .returned (.tuple #[.slice a' m k,.bool b])/\m=(if b then n else 0)/\w'.ownsRow 0 5 1 (.slice a' m k) m (cellsOf (fun i=>z (r1.at0+i)) m)/\(∀ g,a'=some ⟨g,0,none⟩->w1.heap.size<=g)/\Rrd w' mb a l c z r2/\w1.grownBy w' (some mb)):=fun w1 h1=>by have:=rtake_any h1 n;rw [eb,er2] at this;exact this
 rw [eb,er2];obtain ⟨c0,c1,c2,c3,f⟩:=h.rr.facts;have hle:=hidi h.le;have hmb:=hidi (lt_of_block h.rr);clear en er1 hn eb er2 f h;go_enter Tryz.func112,Tryz.ntmps112;go_wp2_with fail;go_must (go_at_call 76);refine (H.out).mono ?_;rintro e w1 ⟨rfl,q1,q2⟩;have J:=hidi (HT.out w1 q1);have G1:=hidi q2;clear q1 q2;go_wp2_with fail;go_must (go_at_call 113);refine (J.out).mono ?_;rintro e w2 ⟨a',m,k,rfl,hm,s1,s2,s3,s4⟩;have hs1:=G1.out.size;cases b;·
  obtain rfl:m=0:=hm;obtain ⟨d0,d1,d2,d3,f2⟩:=s3.rr.facts;have f21:=f2 1;have hg:w.grownBy (w2.setCell ⟨mb,1,none⟩ (.int .i64 r.at0)) (some mb):=gb_two (gb_two G1.out s4) (rr_gb1 _ _ _ _);have Z:Hid ((w2.setCell ⟨mb,1,none⟩ (.int .i64 r.at0)).ownsRow 0 5 1 (.slice a' 0 k) 0 []/\(∀ g,a'=some ⟨g,0,none⟩->w.heap.size<=g)/\Rrd (w2.setCell ⟨mb,1,none⟩ (.int .i64 r.at0)) mb a l c z ⟨r.at0,r2.p,r2.q⟩/\w.grownBy (w2.setCell ⟨mb,1,none⟩ (.int .i64 r.at0)) (some mb)):=⟨own_keep s1 (fun j e=>Below.heap_setCell _ _ _ _ (fun q=>by have q:j=mb:=q;obtain ⟨cc,hcc⟩:=own_blk s1 e;have:=s3.rr;unfold Rr at this;rw [<-q,hcc] at this;simp at this)),fun g e=>Nat.le_trans hs1 (s2 g e),s3.next (r':=⟨r.at0,r2.p,r2.q⟩) (rr_gb1 _ _ _ _) (s3.rr.set1 _) hle.out,hg⟩;clear s1 s2 s3 s4 f2 hs1 hg;go_wp2_with fail;all_goals (try go_ret)
  all_goals exact ⟨a',k,rfl,Z.out⟩
 ·
  obtain rfl:m=n:=hm;have Z:Hid (w2.ownsRow 0 5 1 (.slice a' m k) m (cellsOf (fun i=>z (r1.at0+i)) m)/\(∀ g,a'=some ⟨g,0,none⟩->w.heap.size<=g)/\Rrd w2 mb a l c z r2/\w.grownBy w2 (some mb)):=⟨s1,fun g e=>Nat.le_trans hs1 (s2 g e),s3,gb_two G1.out s4⟩;clear s1 s2 s3 s4 hs1;go_wp2_with fail;all_goals (try go_ret)
  all_goals exact ⟨a',k,rfl,Z.out⟩
theorem chkF_le (s:ByteArray):∀ b k,(chkF s b k).1<=s.size
 | 0,k=>by simp [chkF];| b+1,k=>by
  unfold chkF;split;·
   split
   · dsimp only
     omega
   · split
     · dsimp only
       omega
     · exact chkF_le s b _
  · simp
theorem chk_le (s:ByteArray):(chk s).1<=65535:=by
 unfold chk;split;· simp
 · have:=chkF_le s s.size 0
   omega
theorem own_came {w:World} {a:Option Addr} {n k:Nat} {Z:Nat->Int} (h:w.ownsRow 0 5 1 (.slice a n k) n (cellsOf Z n)) (hz:∀ i,0<=Z i/\Z i<=255):Came w a n k Z:=ownv_came h rfl hz
def rTxtS (z:Nat->Int) (l:Nat) (r:Rs):ByteArray:=strZ (fun i=>z ((rDat z l r).1.2+i)) (rDat z l r).1.1
def rTxt (z:Nat->Int) (l:Nat) (r:Rs):ByteArray×Rs := if (rDat z l r).2.q≠0 then (⟨#[]⟩,(rDat z l r).2) else if (chk (rTxtS z l r)).2≠0 then (⟨#[]⟩,⟨r.at0,((r.at0+2+(chk (rTxtS z l r)).1:Nat):Int),((chk (rTxtS z l r)).2:Nat)⟩) else (rTxtS z l r,(rDat z l r).2)
theorem refText_any {w:World} {mb:Nat} {a:Option Addr} {l c:Nat} {z:Nat->Int} {r:Rs} (h:Rrd w mb a l c z r):Calls Tryz.prog 75 #[.pointer (some ⟨mb,0,none⟩)] w fun e w'=>e = .returned (.string (rTxt z l r).1)/\Rrd w' mb a l c z (rTxt z l r).2/\w.grownBy w' (some mb):=by
 have H:=hidi (refData_any h);have hz:=h.cm.2.1;unfold rTxt;have hS:rTxtS z l r=strZ (fun i=>z ((rDat z l r).1.2+i)) (rDat z l r).1.1:=rfl;obtain ⟨s,es⟩:∃ s,rTxtS z l r=s:=⟨_,rfl⟩;rw [es] at hS ⊢;obtain ⟨m,em⟩:∃ m,(rDat z l r).1.1=m:=⟨_,rfl⟩;obtain ⟨o,eo⟩:∃ o,(rDat z l r).1.2=o:=⟨_,rfl⟩;obtain ⟨r2,er⟩:∃ r2,(rDat z l r).2=r2:=⟨_,rfl⟩;rw [em,eo] at hS;rw [em,eo,er] at H;rw [er];obtain ⟨pl,q,hcq⟩:∃ pl q,chk s=(pl,q):=⟨_,_,rfl⟩;have hpl:=chk_le s;have HK:Hid (∀ w1:World,Calls Tryz.prog 114 #[.string s] w1 fun e w'=>e = .returned (.tuple #[.int .i64 (pl:Nat),.int .i64 (q:Nat)])/\w'=w1):=fun w1=>by have:=Rm.ref_any s w1;rw [chk_rm,hcq] at this;exact this
 rw [hcq] at hpl ⊢;dsimp only at hpl ⊢;have hle:=h.le;have hfw:=h.few;have e1:IntKind.i64.wrap ((r.at0:Int)+2)=(r.at0:Int)+2:=by rw [IntKind.wrap_i64];omega
 have e2:IntKind.i64.wrap ((r.at0:Int)+2+(pl:Int))=((r.at0+2+pl:Nat):Int):=by rw [IntKind.wrap_i64];omega
 have e3:wrap64 ((r.at0:Int)+2)=(r.at0:Int)+2:=by unfold wrap64;omega
 have e4:wrap64 ((r.at0:Int)+2+(pl:Int))=((r.at0+2+pl:Nat):Int):=by unfold wrap64;omega
 obtain ⟨c0,c1,c2,c3,f⟩:=h.rr.facts;have HCV:Hid (∀ (w1:World) (a':Option Addr) (k:Nat),w1.ownsRow 0 5 1 (.slice a' m k) m (cellsOf (fun i=>z (o+i)) m)->(convert 32 9 (.slice a' m k)).run Tryz.prog w1 = .ok (.string s) w1):=fun w1 a' k ho=>by rw [hS];exact conv_any a' m k _ w1 (own_came ho (fun i=>hz _))
 have HLE:=hidi hle;clear h f hS es em eo er hcq hpl hz hfw hle;by_cases hq:r2.q≠0;·
  rw [if_pos hq];have g1:(r2.q != 0)=true:=by simpa using hq
  go_enter Tryz.func75,Tryz.ntmps75;go_wp2_with fail;go_must (go_at_call 112);refine (H.out).mono ?_;rintro e w1 ⟨a',k,rfl,s1,s2,s3,s4⟩;have cv:=HCV.out w1 a' k s1;obtain ⟨d0,d1,d2,d3,f1⟩:=s3.rr.facts;have f11:=f1 1;have Z:Hid (Rrd w1 mb a l c z r2/\w.grownBy w1 (some mb)):=⟨s3,s4⟩;clear s1 s2 s3 s4 f1 hq;go_wp2_with fail;all_goals (try go_ret)
  all_goals exact ⟨rfl,Z.out⟩
 rw [if_neg hq];have g1:(r2.q != 0)=false:=by simpa using hq
 by_cases hk:q≠0;·
  rw [if_pos hk];have g2:((q:Int) != 0)=true:=by simpa using hk
  go_enter Tryz.func75,Tryz.ntmps75;go_wp2_with fail;go_must (go_at_call 112);refine (H.out).mono ?_;rintro e w1 ⟨a',k,rfl,s1,s2,s3,s4⟩;have cv:=HCV.out w1 a' k s1;obtain ⟨d0,d1,d2,d3,f1⟩:=s3.rr.facts;have f11:=f1 1;have F0:=hidi (rfail_any (s3.rr.set1 (r.at0:Int)) ((r.at0+2+pl:Nat):Int) (q:Int));have hg:w1.grownBy (((w1.setCell ⟨mb,1,none⟩ (.int .i64 r.at0)).setCell ⟨mb,2,none⟩ (.int .i64 (q:Int))).setCell ⟨mb,3,none⟩ (.int .i64 ((r.at0+2+pl:Nat):Int))) (some mb):=gb_two (gb_two (rr_gb1 _ _ _ _) (rr_gb1 _ _ _ _)) (rr_gb1 _ _ _ _);have Z:Hid (Rrd (((w1.setCell ⟨mb,1,none⟩ (.int .i64 r.at0)).setCell ⟨mb,2,none⟩ (.int .i64 (q:Int))).setCell ⟨mb,3,none⟩ (.int .i64 ((r.at0+2+pl:Nat):Int))) mb a l c z ⟨r.at0,((r.at0+2+pl:Nat):Int),(q:Int)⟩/\w.grownBy (((w1.setCell ⟨mb,1,none⟩ (.int .i64 r.at0)).setCell ⟨mb,2,none⟩ (.int .i64 (q:Int))).setCell ⟨mb,3,none⟩ (.int .i64 ((r.at0+2+pl:Nat):Int))) (some mb)):=⟨s3.next (r':=⟨r.at0,((r.at0+2+pl:Nat):Int),(q:Int)⟩) hg (((s3.rr.set1 _).set2 _).set3 _) HLE.out,gb_two s4 hg⟩;clear s1 s2 s3 s4 f1 hq hk hg;go_wp2_with fail;go_must (go_at_call 114);refine (HK.out _).mono ?_;rintro e w' ⟨rfl,he⟩;obtain rfl:=he.symm;clear he;go_wp2_with fail;go_must (go_at_call 115);refine (F0.out).mono ?_;rintro e w' ⟨rfl,rfl⟩;go_wp2_with fail;all_goals (try go_ret)
  all_goals exact ⟨rfl,Z.out⟩
 ·
  rw [if_neg hk];have g2:((q:Int) != 0)=false:=by simpa using hk
  go_enter Tryz.func75,Tryz.ntmps75;go_wp2_with fail;go_must (go_at_call 112);refine (H.out).mono ?_;rintro e w1 ⟨a',k,rfl,s1,s2,s3,s4⟩;have cv:=HCV.out w1 a' k s1;obtain ⟨d0,d1,d2,d3,f1⟩:=s3.rr.facts;have f11:=f1 1;have Z:Hid (Rrd w1 mb a l c z r2/\w.grownBy w1 (some mb)):=⟨s3,s4⟩;clear s1 s2 s3 s4 f1 hq hk;go_wp2_with fail;go_must (go_at_call 114);refine (HK.out _).mono ?_;rintro e w' ⟨rfl,he⟩;obtain rfl:=he.symm;clear he;go_wp2_with fail;all_goals (try go_ret)
  all_goals exact ⟨rfl,Z.out⟩
set_option maxHeartbeats 2000000
def rRst (l:Nat) (r:Rs):Nat×Rs:=(if (rTake l r (l-r.at0)).1 then l-r.at0 else 0,(rTake l r (l-r.at0)).2)
theorem refRest_any {w:World} {mb:Nat} {a:Option Addr} {l c:Nat} {z:Nat->Int} {r:Rs} (h:Rrd w mb a l c z r):Calls Tryz.prog 77 #[.pointer (some ⟨mb,0,none⟩)] w fun e w'=>∃ a' k,e = .returned (.slice a' (rRst l r).1 k)/\w'.ownsRow 0 5 1 (.slice a' (rRst l r).1 k) (rRst l r).1 (cellsOf (fun i=>z (r.at0+i)) (rRst l r).1)/\(∀ g,a'=some ⟨g,0,none⟩->w.heap.size<=g)/\Rrd w' mb a l c z (rRst l r).2/\w.grownBy w' (some mb):=by
 have H:=hidi (rtake_any h.drewd (l-r.at0));have hle:=h.le;have hfw:=h.few;unfold rRst;obtain ⟨b,eb⟩:∃ b,(rTake l r (l-r.at0)).1=b:=⟨_,rfl⟩;obtain ⟨r2,er⟩:∃ r2,(rTake l r (l-r.at0)).2=r2:=⟨_,rfl⟩;rw [eb,er] at H ⊢;dsimp only;obtain ⟨m,em⟩:∃ m,(if b=true then l-r.at0 else 0)=m:=⟨_,rfl⟩;have e1:IntKind.i64.wrap ((l:Int)-(r.at0:Int))=((l-r.at0:Nat):Int):=by rw [IntKind.wrap_i64];omega
 have e2:wrap64 ((l:Int)-(r.at0:Int))=((l-r.at0:Nat):Int):=by unfold wrap64;omega
 rw [em];have HM:Hid (∀ k:Nat,k=(if b=true then l-r.at0 else 0)->k=m):=fun k q=>q.trans em;obtain ⟨c0,c1,c2,c3,f⟩:=h.rr.facts;clear h hle hfw eb er em f;go_enter Tryz.func77,Tryz.ntmps77;go_wp2_with fail;first | go_region_with (go_at_call 113;refine (H.out).mono ?_;rintro e w1 ⟨a',m',k,rfl,hm,s1,s2,s3,s4⟩;obtain rfl:=HM.out m' hm;have Z:Hid (w1.ownsRow 0 5 1 (.slice a' m' k) m' (cellsOf (fun i=>z (r.at0+i)) m')/\(∀ g,a'=some ⟨g,0,none⟩->w.heap.size<=g)/\Rrd w1 mb a l c z r2/\w.grownBy w1 (some mb)):=⟨s1,s2,s3,gb_drew2 s4⟩;clear s1 s2 s3 s4 hm) | fail
 all_goals go_wp2_with fail
 all_goals (try go_ret)
 all_goals exact ⟨a',k,rfl,Z.out⟩
theorem refAt_any {w:World} {mb:Nat} {a:Option Addr} {l c:Nat} {z:Nat->Int} {r:Rs} (h:Rrd w mb a l c z r):Calls Tryz.prog 111 #[.pointer (some ⟨mb,0,none⟩)] w fun e w'=>e = .returned (.int .i64 r.at0)/\w'=w:=by
 obtain ⟨c0,c1,c2,c3,f⟩:=h.rr.facts;clear h f;go_enter Tryz.func111,Tryz.ntmps111;go_wp2_with fail;all_goals (try go_ret)
 all_goals exact ⟨rfl,rfl⟩
set_option maxHeartbeats 1000000
theorem built153 (a:Option Addr) (n k:Nat):Tryz.prog.built 153 [(0,.slice a n k)]=some #[.slice a n k,.int .i64 0,.int .i64 0,.int .i64 0]:=by kernel_rfl
theorem came_cl {w:World} {a:Option Addr} {l k:Nat} {z:Nat->Int} (h:Came w a l k z):CL w a l k (cellsOf z l):=by
 obtain ⟨h1,h2,h3⟩:=came_byt h;refine ⟨h1,by simp [cellsOf],?_⟩;rcases h3 with q | ⟨b,off,e,hc⟩;· exact .inl q
 · refine .inr ⟨b,off,e,fun j hj=>?_⟩
   rw [hc j hj,cellsOf_at z l j hj]
theorem refRead_any {w:World} {ao:Option Addr} {l k:Nat} {z:Nat->Int} (h:Came w ao l k z) (hl:l<=300000):Calls Tryz.prog 72 #[.slice ao l k] w fun e w'=>∃ mb a c,e = .returned (.pointer (some ⟨mb,0,none⟩))/\Rrd w' mb a l c z ⟨0,0,0⟩/\w.heap.size<=mb/\(∀ g,a=some ⟨g,0,none⟩->w.heap.size<=g/\g<w'.heap.size)/\Below w.heap.size w w':=by
 obtain ⟨a,c,w1,hr,ho,hb⟩:=nil_run (w:=w) 32 ao l k (cellsOf z l) (came_cl h) (fun u hu=>cellsOf_one z l u hu) (by omega);have HRUN:=hidi hr;have hb83:∀ w',(Instr.build 153 #[(0,.slice a l c)]).run Tryz.prog w' = .ok (.agg #[.slice a l c,.int .i64 0,.int .i64 0,.int .i64 0]) w':=fun w'=>run_build w' 153 _ _ (built153 a l c);have hbel:Below w.heap.size w (w1.alloc (.cells #[.slice a l c,.int .i64 0,.int .i64 0,.int .i64 0] 153)):=hb.alloc hb.size _;have hcm:Came (w1.alloc (.cells #[.slice a l c,.int .i64 0,.int .i64 0,.int .i64 0] 153)) a l c z:=came_below (B:=0) (ownv_came (own_zero ho) rfl h.2.1) ((Below.refl _ _).alloc (Nat.le_refl _) _);have hsh:a=none\/∃ g,a=some ⟨g,0,none⟩/\w.heap.size<=g/\g<w1.heap.size:=by
  rcases ho.2 with ⟨q,_⟩|⟨g,cap,cur,q,e1,hg,_⟩
  · injection q with q1 q2 q3
    exact .inl q1
  · injection q with q1 q2 q3
    exact .inr ⟨g,q1,e1,lt_of_block hg⟩
 have Z:Hid (∃ mb a' c',(.returned (.pointer (some ⟨w1.heap.size,0,none⟩)):Ending) = .returned (.pointer (some ⟨mb,0,none⟩))/\Rrd (w1.alloc (.cells #[.slice a l c,.int .i64 0,.int .i64 0,.int .i64 0] 153)) mb a' l c' z ⟨0,0,0⟩/\w.heap.size<=mb/\(∀ g,a'=some ⟨g,0,none⟩->w.heap.size<=g/\g<(w1.alloc (.cells #[.slice a l c,.int .i64 0,.int .i64 0,.int .i64 0] 153)).heap.size)/\Below w.heap.size w (w1.alloc (.cells #[.slice a l c,.int .i64 0,.int .i64 0,.int .i64 0] 153))):=by
  refine ⟨w1.heap.size,a,c,rfl,⟨heap_alloc_new w1 _,hcm,?_,Nat.zero_le _,hl⟩,hb.size,fun g e=>?_,hbel⟩
  · rcases hsh with q | ⟨g,q,_,q2⟩
    · exact .inl q
    · exact .inr ⟨g,q,by omega⟩
  ·
   rcases hsh with q | ⟨g',q,q1,q2⟩
   · rw [q] at e
     cases e
   · rw [q] at e
     cases e;have hs:(w1.alloc (.cells #[.slice a l c,.int .i64 0,.int .i64 0,.int .i64 0] 153)).heap.size=w1.heap.size+1:=Array.size_push _;exact ⟨q1,by omega⟩
 clear h hl hr ho hb hbel hcm hsh;go_enter Tryz.func72,Tryz.ntmps72;go_wp2_with (at_builtin;refine Lib.wpList_append_run _ rfl (.tmp 4) (.tmp 5) 32 32 rfl _ _ rfl rfl _ w1 HRUN.out ?_);all_goals (try go_ret)
 all_goals exact Z.out
open Pkt (Pk Cn Sl In By Is Ss As pkCells)
theorem byte_eq (z:Nat->Int) (l:Nat) (r:Rs):rByte z l r=Go.Proofs.YtpldoeeahhaimaaGreatDoor.rByte z l r:=by
 unfold rByte Go.Proofs.YtpldoeeahhaimaaGreatDoor.rByte rTake;by_cases h:r.q≠0;· simp [h]
 ·
  rw [if_neg h,if_neg h];by_cases k:l<r.at0+1;· simp [k]
  · simp [k]
theorem num_eq (z:Nat->Int) (l:Nat) (r:Rs):rNum z l r=Go.Proofs.YtpldoeeahhaimaaGreatDoor.rNum z l r:=by
 unfold rNum Go.Proofs.YtpldoeeahhaimaaGreatDoor.rNum rTake;by_cases h:r.q≠0;· simp [h]
 ·
  rw [if_neg h,if_neg h];by_cases k:l<r.at0+2;· simp [k]
  · simp [k]
theorem rst_eq (z:Nat->Int) (l:Nat) (r:Rs) (hl:r.at0<=l):(rRst l r).1=(rRest z l r).1.1/\(rRst l r).2=(rRest z l r).2/\(∀ i,i<(rRest z l r).1.1->z (r.at0+i)=(rRest z l r).1.2 i):=by
 unfold rRst rRest rTake;by_cases h:r.q≠0;· simp [h]
 ·
  have hk:¬ l<r.at0+(l-r.at0):=by omega
  rw [if_neg h,if_neg h];simp only [if_neg hk,if_true];refine ⟨trivial,?_,fun i _=>trivial⟩;unfold Rs.on;rw [show r.at0+(l-r.at0)=l by omega]
theorem dat_eq (z:Nat->Int) (hz:∀ i,0<=z i/\z i<=255) (l:Nat) (r:Rs):(rDat z l r).1.1=(rData z l r).1.1/\(rDat z l r).2=(rData z l r).2/\(∀ i,i<(rData z l r).1.1->z ((rDat z l r).1.2+i)=(rData z l r).1.2 i):=by
 have h0:=hz r.at0;have h1:=hz (r.at0+1);unfold rDat rData;rw [num_eq];unfold Go.Proofs.YtpldoeeahhaimaaGreatDoor.rNum rTake;by_cases h:r.q≠0;· simp [h]
 ·
  rw [if_neg h,if_neg h];by_cases k:l<r.at0+2;· simp [k,Rs.gaveUp]
  ·
   rw [if_neg k,if_neg k];simp only [Rs.on];have et:(z r.at0*256+z (r.at0+1)).toNat=two z r.at0:=rfl;rw [et];by_cases m:l<r.at0+2+two z r.at0;· simp [m,Rs.gaveUp]
   · simp [m]
     omega
theorem txt_eq (z:Nat->Int) (hz:∀ i,0<=z i/\z i<=255) (l:Nat) (r:Rs):rTxt z l r=rText z l r:=by
 have h0:=hz r.at0;have h1:=hz (r.at0+1);unfold rTxt rText rTxtS rDat;rw [num_eq];unfold Go.Proofs.YtpldoeeahhaimaaGreatDoor.rNum rTake;by_cases h:r.q≠0;· simp [h]
 ·
  rw [if_neg h,if_neg h];by_cases k:l<r.at0+2;· simp [k,Rs.gaveUp]
  ·
   rw [if_neg k,if_neg k];simp only [Rs.on];have et:(z r.at0*256+z (r.at0+1)).toNat=two z r.at0:=rfl;rw [et];by_cases m:l<r.at0+2+two z r.at0;· simp [m,Rs.gaveUp]
   · have m2:¬ l<r.at0+(2+two z r.at0):=by omega
     simp [m,m2,Rs.gaveUp,txtAt,Nat.add_assoc]
section
variable {w:World} {mb:Nat} {a:Option Addr} {l c:Nat} {z:Nat->Int} {r:Rs}
theorem dbyte_any (h:Rrd w mb a l c z r):Calls Tryz.prog 74 #[.pointer (some ⟨mb,0,none⟩)] w fun e w'=>e = .returned (.int .u8 (Go.Proofs.YtpldoeeahhaimaaGreatDoor.rByte z l r).1)/\Rrd w' mb a l c z (Go.Proofs.YtpldoeeahhaimaaGreatDoor.rByte z l r).2/\w.grownBy w' (some mb):=by rw [<-byte_eq];exact refByte_any h
theorem dnum_any (h:Rrd w mb a l c z r):Calls Tryz.prog 76 #[.pointer (some ⟨mb,0,none⟩)] w fun e w'=>e = .returned (.int .i64 (Go.Proofs.YtpldoeeahhaimaaGreatDoor.rNum z l r).1)/\Rrd w' mb a l c z (Go.Proofs.YtpldoeeahhaimaaGreatDoor.rNum z l r).2/\w.grownBy w' (some mb):=by rw [<-num_eq];exact refNum_any h
theorem dtext_any (h:Rrd w mb a l c z r):Calls Tryz.prog 75 #[.pointer (some ⟨mb,0,none⟩)] w fun e w'=>e = .returned (.string (rText z l r).1)/\Rrd w' mb a l c z (rText z l r).2/\w.grownBy w' (some mb):=by rw [<-txt_eq z h.cm.2.1];exact refText_any h
theorem dend_any (h:Rrd w mb a l c z r):Calls Tryz.prog 79 #[.pointer (some ⟨mb,0,none⟩)] w fun e w'=>e = .returned (.tuple #[])/\Rrd w' mb a l c z (Go.Proofs.YtpldoeeahhaimaaGreatDoor.rEnd l r)/\w.grownBy w' (some mb):=refEnd_any h
theorem newBy_of {w':World} {a':Option Addr} {n k:Nat} {Z:Nat->Int} {x:Nat×(Nat->Int)} (hn:n=x.1) (ho:w'.ownsRow 0 5 1 (.slice a' n k) n (cellsOf Z n)) (hg:∀ g,a'=some ⟨g,0,none⟩->w.heap.size<=g) (he:∀ i,i<x.1->Z i=x.2 i) (hx:∀ i,0<=x.2 i/\x.2 i<=255):NewBy w w' ⟨a',n,k⟩ x:=by
 rcases ho.2 with ⟨q,h0⟩|⟨g,cap,cur,q,h1,h2,h3,h4⟩;· injection q with q1 q2 q3;subst q1 q3;exact ⟨hn,⟨by simp [h0],hx,.inl (by simpa using h0)⟩,fun b off e=>by cases e⟩
 ·
  injection q with q1 q2 q3;subst q1 q3;refine ⟨hn,⟨h3,hx,.inr ⟨g,0,rfl,fun i hi=>?_⟩⟩,fun b off e=>?_⟩
  · have:=ho.cellAt i (by simpa using hi)
    rw [Nat.zero_add,this,cellsOf_at Z n i hi,he i (by rw [<-hn];exact hi)]
  · injection e with e;injection e with e1 e2 e3;subst e1;exact hg _ rfl
theorem rData_bd (hz:∀ i,0<=z i/\z i<=255) (l:Nat) (r:Rs) (i:Nat):0<=(rData z l r).1.2 i/\(rData z l r).1.2 i<=255:=by
 unfold rData;split;· simp
 ·
  split;· simp
  · split
    · simp
    · exact hz _
theorem rRest_bd (hz:∀ i,0<=z i/\z i<=255) (l:Nat) (r:Rs) (i:Nat):0<=(rRest z l r).1.2 i/\(rRest z l r).1.2 i<=255:=by
 unfold rRest;split;· simp
 · exact hz _
theorem ddata_any (h:Rrd w mb a l c z r):Calls Tryz.prog 112 #[.pointer (some ⟨mb,0,none⟩)] w fun e w'=>(∃ s:Sl,e = .returned (.slice s.a s.n s.c)/\NewBy w w' s (rData z l r).1)/\Rrd w' mb a l c z (rData z l r).2/\w.grownBy w' (some mb):=by obtain ⟨d1,d2,d3⟩:=dat_eq z h.cm.2.1 l r;refine (refData_any h).mono ?_;rintro e w' ⟨a',k,rfl,h1,h2,h3,h4⟩;rw [d2] at h3;exact ⟨⟨⟨a',(rDat z l r).1.1,k⟩,rfl,newBy_of d1 h1 h2 d3 (rData_bd h.cm.2.1 l r)⟩,h3,h4⟩
theorem drest_any (h:Rrd w mb a l c z r):Calls Tryz.prog 77 #[.pointer (some ⟨mb,0,none⟩)] w fun e w'=>(∃ s:Sl,e = .returned (.slice s.a s.n s.c)/\NewBy w w' s (rRest z l r).1)/\Rrd w' mb a l c z (rRest z l r).2/\w.grownBy w' (some mb):=by obtain ⟨d1,d2,d3⟩:=rst_eq z l r h.le;refine (refRest_any h).mono ?_;rintro e w' ⟨a',k,rfl,h1,h2,h3,h4⟩;rw [d2] at h3;exact ⟨⟨⟨a',(rRst l r).1,k⟩,rfl,newBy_of d1 h1 h2 d3 (rRest_bd h.cm.2.1 l r)⟩,h3,h4⟩
end
end Go.Proofs.YtpldoeeahhaimaaGreatDoor.Dr
