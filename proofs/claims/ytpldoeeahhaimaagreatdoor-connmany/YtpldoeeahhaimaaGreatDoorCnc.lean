import Derived.Test.YtpldoeeahhaimaaGreatDoorFrl
import Derived.Great.BuildSlice
namespace Go.Proofs.YtpldoeeahhaimaaGreatDoor
open Go Go.RowKit
open Pkt (Pk Cn Sl In By Is Ss As pkCells Gd KindsAt Small ck TT)
set_option linter.all false
theorem fs_new (w:World) (most:Int) (B:Nat) (z:Nat->Int):FS (w.alloc (.cells (frCells most (.slice none 0 0) 0 0 0 0) 83)) w.heap.size most B none 0 z 0 := ⟨.slice none 0 0,0,fun _=>0,0,0,0,⟨heap_alloc_new w _,World.ownsRow_nil _ _ _ _,Nat.le_refl _⟩,rfl,rfl,rfl,fun i hi=>by omega,fun i=>by simp,Int.le_refl _⟩
theorem fs_put {w:World} {fb:Nat} {most:Int} {B:Nat} {rf:Option Nat} {P:Nat} {z:Nat->Int} {H:Nat} (h:FS w fb most B rf P z H) (l:Sl) (zb z':Nat->Int) (hl:By w l zb) (hn:P+H<=400000) (hln:l.n<=400000) (hB:B<=w.heap.size) (h1:∀ i,i<H->z' i=z i) (h2:∀ i,i<l.n->z' (H+i)=zb i) :
 Calls Tryz.prog 25 #[.pointer (some ⟨fb,0,none⟩),.slice l.a l.n l.c] w fun e w'=>e = .returned (.tuple #[])/\∃ rf',Hid (FS w' fb most B rf' P z' (H+l.n))/\Hid (Ch (fun k=>k=fb\/rf=some k) w w')/\Hid (Nw w.heap.size rf rf'):=by
 obtain ⟨v,n,z0,d,gone,fa,hf,hr,hP,hH,hzz,hz0,hgo⟩:=h;have hd:=hf.dn;refine (put_any hf l zb hl (by omega) hln hB).mono ?_;rintro e w' ⟨rfl,v',hf',hk,hv⟩;refine ⟨rfl,v'.ownBlock,⟨v',_,_,d,gone,fa,hf',rfl,hP,by omega,fun i hi=>?_,cat_bd hz0 hl.2.1,hgo⟩,?_,?_⟩
 · unfold cat
   by_cases q:i<H;· rw [if_pos (by omega),hzz i q,h1 i q]
   · rw [if_neg (by omega),show d+i-n=i-H by omega]
     have:=h2 (i-H) (by omega);rw [show H+(i-H)=i by omega] at this;exact this.symm
 · rw [<-hr];exact Kq.ch hk
 · rcases hv with q | q
   · exact .inl (q.trans hr)
   · exact .inr (.inr ⟨_,q,Nat.le_refl _⟩)
theorem by_new {w:World} (L:List Int) (cs:Array Value) (hcs:∀ i,i<L.length->cs[i]?=some (.int .u8 (listZ L i))) (hb:∀ i,0<=listZ L i/\listZ L i<=255):By (w.alloc (.cells cs 5)) ⟨some ⟨w.heap.size,0,none⟩,L.length,L.length⟩ (listZ L):=by refine ⟨Nat.le_refl _,hb,.inr ⟨_,_,rfl,fun i hi=>?_⟩⟩;rw [Nat.zero_add];exact box_cells (heap_alloc_new w _) i _ (hcs i hi)
theorem below_ch {w W W':World} {S:Nat->Prop} (hb:Below w.heap.size w W) (hc:Ch S W W') (hs:∀ k,S k->w.heap.size<=k):Below w.heap.size w W' := ⟨hc.os.trans hb.os,hc.tape.trans hb.tape,hc.output.trans hb.output,Nat.le_trans hb.size hc.size,fun k hk=>(hc.block k (by have:=hb.size;omega) (fun q=>by have:=hs k q;omega)).trans (hb.block k hk)⟩
end Go.Proofs.YtpldoeeahhaimaaGreatDoor
namespace Go.Proofs.YtpldoeeahhaimaaGreatDoor.Co
open Go Go.RowKit
open Pkt (Pk Cn Sl In By Is Ss As pkCells Gd KindsAt Small wpList_load_wanted)
set_option linter.all false
set_option maxRecDepth 100000
set_option maxHeartbeats 4000000
theorem hidi {p:Prop} (h:p):Hid p:=h
theorem bel_on {a b c:World} (h:Below a.heap.size a b) (k:Below b.heap.size b c):Below a.heap.size a c:=h.trans (k.mono h.size)
theorem later_at {w w1:World} {o:Obj} {b:Nat} (h:w.heap[b]?=some o) (hb:Below w.heap.size w w1):w1.heap[b]?=some o:=(hb.block b (Array.getElem?_eq_some_iff.1 h).1).trans h
def inC (what:Int) (q:Pk) (code err:Int):Array Value:=#[.int .i64 what,.int .i64 q.kind,.int .i64 q.level,.bool q.clean,.int .i64 q.keep,.string q.client,.bool q.hasWill,.string q.wT,.slice q.wP.a q.wP.n q.wP.c,.int .i64 q.wQ,.bool q.wR,.bool q.hasUser,.string q.user,.bool q.hasPass,.slice q.pass.a q.pass.n q.pass.c,.bool q.present,.int .i64 q.code,.bool q.dup,.string q.mT,.slice q.mP.a q.mP.n q.mP.c,.int .i64 q.mQ,.bool q.mR,.int .i64 q.id,.slice q.asks.a q.asks.n q.asks.c,.slice q.codes.a q.codes.n q.codes.c,.slice q.filters.a q.filters.n q.filters.c,.int .i64 code,.int .i64 err]
theorem in_info:(Tryz.prog.info? 42).map (·.size)=some 28:=by kernel_rfl
theorem in_one (a:Int) (q:Pk) (b c:Int):(inC a q b c).all (·.oneCell')=true:=by simp [inC,Value.oneCell']
theorem built_pk (q:Pk):Tryz.prog.built 42 [(0,.int .i64 1),(1,.agg (pkCells q))]=some (inC 1 q 0 0):=by kernel_rfl
theorem zero_in (w:World):(w.alloc (.cells #[.int .i64 0,.int .i64 0,.int .i64 0,.bool false,.int .i64 0,.string ⟨#[]⟩,.bool false,.string ⟨#[]⟩,.slice none 0 0,.int .i64 0,.bool false,.bool false,.string ⟨#[]⟩,.bool false,.slice none 0 0,.bool false,.int .i64 0,.bool false,.string ⟨#[]⟩,.slice none 0 0,.int .i64 0,.bool false,.int .i64 0,.slice none 0 0,.slice none 0 0,.slice none 0 0,.int .i64 0,.int .i64 0] 42)).heap[w.heap.size]?=some (.cells (inC 0 (blank 0) 0 0) 42 (0,0)):=heap_alloc_new w _
theorem wpList_build_pk {ops:Array Oper} {rest:List Oper} {o:Oper} {a:Act} {w:World} {Q:Exit->Act->World->Prop} (hg:o.guard=none) (x:Operand) (ho:o.op = .build 42 #[(0,.const (.int .i64 1)),(1,x)]) (q:Pk) (hx:a.eval x = .agg (pkCells q)) (h:wpList Tryz.prog ops Q rest (a.put o.dst (.agg (inC 1 q 0 0))) w):wpList Tryz.prog ops Q (o::rest) a w:=by
 refine wpList_build_to hg 42 _ ho (inC 1 q 0 0) ?_ h;have e:(Array.map (fun (y:Nat×Operand)=>(y.1,a.eval y.2)) #[(0,.const (.int .i64 1)),(1,x)]).toList=[(0,.int .i64 1),(1,.agg (pkCells q))]:=by simp only [List.map_toArray,List.map_cons,List.map_nil,hx];rfl
 exact (congrArg (Tryz.prog.built 42) e).trans (built_pk q)
theorem end_any (x:Int) (w:World):Calls Tryz.prog 29 #[.int .i64 x] w fun e w'=>e = .returned (.agg (inC 3 (blank 0) 0 x))/\Below w.heap.size w w':=by obtain ⟨W1,hW1⟩:∃ W1,W1=w.alloc (.cells #[.int .i64 0,.int .i64 0,.int .i64 0,.bool false,.int .i64 0,.string ⟨#[]⟩,.bool false,.string ⟨#[]⟩,.slice none 0 0,.int .i64 0,.bool false,.bool false,.string ⟨#[]⟩,.bool false,.slice none 0 0,.bool false,.int .i64 0,.bool false,.string ⟨#[]⟩,.slice none 0 0,.int .i64 0,.bool false,.int .i64 0,.slice none 0 0,.slice none 0 0,.slice none 0 0,.int .i64 0,.int .i64 0] 42):=⟨_,rfl⟩;have B1:=hidi (show Below w.heap.size w W1 by rw [hW1];exact (Below.refl _ _).alloc (Nat.le_refl _) _);have Z1:=hidi (show W1.heap[w.heap.size]?=some (.cells (inC 0 (blank 0) 0 0) 42 (0,0)) by rw [hW1];exact zero_in w);go_enter Tryz.func29,Tryz.ntmps29;go_upto_region 1 with fail;rw [<-hW1];clear hW1;go_wp2_with (first | (refine wpList_build_to rfl 42 _ rfl (inC 3 (blank 0) 0 x) (built_end x) ?_)|(refine wpList_store_row rfl 42 _ _ rfl w.heap.size (inC 3 (blank 0) 0 x) rfl rfl 42 (inC 0 (blank 0) 0 0) Z1.out in_info rfl (in_one _ _ _ _) ?_));refine bodyPost_ret (results_cell_row rfl _ _ w.heap.size 42 (inC 3 (blank 0) 0 x) (0,0) _ rfl (setRow_at Z1.out) Tryz.underlying42 rfl in_info) rfl ?_;exact ⟨rfl,(below_setRow B1.out (Nat.le_refl _)).out⟩
theorem number_any {w:World} {gg:Nat} {x y:Int} (hg:w.heap[gg]?=some (.cells #[.int .i64 x,.int .i64 y] 81 (0,0))) (het:Et w):Calls Tryz.prog 30 #[.iface 91 (.pointer (some ⟨gg,0,none⟩))] w fun e w'=>e = .returned (.int .i64 y)/\Below w.heap.size w w':=by
 have HG:=hidi hg;have HC:Hid (Calls Tryz.prog 45 #[.iface 91 (.pointer (some ⟨gg,0,none⟩)),.iface 93 (.pointer (some ⟨w.heap.size,0,none⟩))] (w.alloc (.cells #[.pointer none] 91)) fun e w'=>e = .returned (.bool true)/\Below w.heap.size w w'/\w'.cell? ⟨w.heap.size,0,none⟩=some (.pointer (some ⟨gg,0,none⟩))):=as_any gg w het;clear hg het;go_enter Tryz.func30,Tryz.ntmps30;go_wp2_with fail;go_must (go_at_call 45);refine HC.out.mono ?_;rintro e w2 ⟨rfl,hb,hx⟩;have B2:=hidi hb;have g2:=later_at HG.out hb;have ce:w2.cell? ⟨gg,1,none⟩=some (.int .i64 y):=by simp [World.cell?,g2]
 clear g2 hb;go_wp2_with fail;go_ret;exact ⟨rfl,B2.out⟩
def fstV (q:Pk):Array Value:=if q.kind=1 then (if q.level=4 then inC 1 q 0 0 else inC 2 (blank 0) 1 0) else inC 3 (blank 0) 0 140
def latV (q:Pk):Array Value:=if q.kind=1 then inC 3 (blank 0) 0 141 else if q.kind=2\/q.kind=9\/q.kind=11\/q.kind=13 then inC 3 (blank 0) 0 142 else inC 1 q 0 0
theorem two_boxes {w V W:World} {q:Pk} (hV:V=w.alloc (.cells (pkCells q) 39)) (hW:W=V.alloc (.cells #[.int .i64 0,.int .i64 0,.int .i64 0,.bool false,.int .i64 0,.string ⟨#[]⟩,.bool false,.string ⟨#[]⟩,.slice none 0 0,.int .i64 0,.bool false,.bool false,.string ⟨#[]⟩,.bool false,.slice none 0 0,.bool false,.int .i64 0,.bool false,.string ⟨#[]⟩,.slice none 0 0,.int .i64 0,.bool false,.int .i64 0,.slice none 0 0,.slice none 0 0,.slice none 0 0,.int .i64 0,.int .i64 0] 42)):W.heap[w.heap.size]?=some (.cells (pkCells q) 39 (0,0))/\W.heap[w.heap.size+1]?=some (.cells (inC 0 (blank 0) 0 0) 42 (0,0))/\Below w.heap.size w W/\V.heap.size=w.heap.size+1:=by
 have hs:V.heap.size=w.heap.size+1:=by rw [hV];simp
 have b1:Below w.heap.size w V:=by rw [hV];exact (Below.refl _ _).alloc (Nat.le_refl _) _
 have b2:Below V.heap.size V W:=by rw [hW];exact (Below.refl _ _).alloc (Nat.le_refl _) _
 refine ⟨later_at (by rw [hV];exact heap_alloc_new w _) b2,?_,bel_on b1 b2,hs⟩;rw [hW,<-hs];exact zero_in V
theorem first_any (q:Pk) (w:World):Calls Tryz.prog 31 #[.agg (pkCells q)] w fun e w'=>e = .returned (.agg (fstV q))/\Below w.heap.size w w':=by
 obtain ⟨V,hV⟩:∃ V,V=w.alloc (.cells (pkCells q) 39):=⟨_,rfl⟩;obtain ⟨W,hW⟩:∃ W,W=V.alloc (.cells #[.int .i64 0,.int .i64 0,.int .i64 0,.bool false,.int .i64 0,.string ⟨#[]⟩,.bool false,.string ⟨#[]⟩,.slice none 0 0,.int .i64 0,.bool false,.bool false,.string ⟨#[]⟩,.bool false,.slice none 0 0,.bool false,.int .i64 0,.bool false,.string ⟨#[]⟩,.slice none 0 0,.int .i64 0,.bool false,.int .i64 0,.slice none 0 0,.slice none 0 0,.slice none 0 0,.int .i64 0,.int .i64 0] 42):=⟨_,rfl⟩;obtain ⟨a1,a2,b2,hs⟩:=two_boxes hV hW;have A1:=hidi a1;have A2:=hidi a2;have B2:=hidi b2;have c0:W.cell? ⟨w.heap.size,0,none⟩=some (.int .i64 q.kind):=box_cells a1 0 _ rfl;have c1:W.cell? ⟨w.heap.size,1,none⟩=some (.int .i64 q.level):=box_cells a1 1 _ rfl;have END:=hidi (fun x=>end_any x W);obtain ⟨P,hP⟩:∃ P,P=pkCells q:=⟨_,rfl⟩;have HP:=hidi hP;rw [<-hP] at hV ⊢;clear a1 a2 b2 hP;by_cases h1:q.kind=1;·
  by_cases h4:q.level=4;· have HV:=hidi (show fstV q=inC 1 q 0 0 by unfold fstV;rw [if_pos h1,if_pos h4]);rw [h1] at c0;rw [h4] at c1;clear h1 h4;go_enter Tryz.func31,Tryz.ntmps31;go_upto_region 1 with fail;rw [<-hV,<-hW];clear hV hW hs;go_wp2_with (first | (refine wpList_load_wanted rfl _ rfl w.heap.size rfl (pkCells q) (0,0) A1.out (pk_size _) ?_)|(refine wpList_build_pk rfl (.tmp 13) rfl q rfl ?_)|(refine wpList_store_row rfl 42 _ _ rfl (w.heap.size+1) (inC 1 q 0 0) rfl rfl 42 (inC 0 (blank 0) 0 0) A2.out in_info rfl (in_one _ _ _ _) ?_));refine bodyPost_ret (results_cell_row rfl _ _ (w.heap.size+1) 42 (inC 1 q 0 0) (0,0) _ rfl (setRow_at A2.out) Tryz.underlying42 rfl in_info) rfl ?_;exact ⟨by rw [HV.out],(below_setRow B2.out (Nat.le_succ _)).out⟩
  ·
   have HV:=hidi (show fstV q=inC 2 (blank 0) 1 0 by unfold fstV;rw [if_pos h1,if_neg h4]);have e4:(q.level==4)=false:=by simpa using h4
   have e4':(q.level != 4)=true:=by simpa using h4
   rw [h1] at c0;clear h1 h4;go_enter Tryz.func31,Tryz.ntmps31;go_upto_region 1 with fail;rw [<-hV,<-hW];clear hV hW hs;go_wp2_with (first | (refine wpList_build_to rfl 42 _ rfl (inC 2 (blank 0) 1 0) built_ref ?_)|(refine wpList_store_row rfl 42 _ _ rfl (w.heap.size+1) (inC 2 (blank 0) 1 0) rfl rfl 42 (inC 0 (blank 0) 0 0) A2.out in_info rfl (in_one _ _ _ _) ?_));refine bodyPost_ret (results_cell_row rfl _ _ (w.heap.size+1) 42 (inC 2 (blank 0) 1 0) (0,0) _ rfl (setRow_at A2.out) Tryz.underlying42 rfl in_info) rfl ?_;exact ⟨by rw [HV.out],(below_setRow B2.out (Nat.le_succ _)).out⟩
 ·
  have HV:=hidi (show fstV q=inC 3 (blank 0) 0 140 by unfold fstV;rw [if_neg h1]);have e1:(q.kind==1)=false:=by simpa using h1
  have e1':(q.kind != 1)=true:=by simpa using h1
  clear h1;go_enter Tryz.func31,Tryz.ntmps31;go_upto_region 1 with fail;rw [<-hV,<-hW];clear hV hW hs;go_wp2_with fail;go_must (go_at_call 29);refine (END.out _).mono ?_;rintro e w3 ⟨rfl,hb3⟩;have A3:=hidi (later_at A2.out hb3);have B3:=hidi (bel_on B2.out hb3);clear hb3 c0 c1;go_wp2_with (first | (refine wpList_store_row rfl 42 _ _ rfl (w.heap.size+1) (inC 3 (blank 0) 0 140) rfl rfl 42 (inC 0 (blank 0) 0 0) A3.out in_info rfl (in_one _ _ _ _) ?_));refine bodyPost_ret (results_cell_row rfl _ _ (w.heap.size+1) 42 (inC 3 (blank 0) 0 140) (0,0) _ rfl (setRow_at A3.out) Tryz.underlying42 rfl in_info) rfl ?_;exact ⟨by rw [HV.out],(below_setRow B3.out (Nat.le_succ _)).out⟩
theorem latr_any (q:Pk) (w:World):Calls Tryz.prog 32 #[.agg (pkCells q)] w fun e w'=>e = .returned (.agg (latV q))/\Below w.heap.size w w':=by
 obtain ⟨V,hV⟩:∃ V,V=w.alloc (.cells (pkCells q) 39):=⟨_,rfl⟩;obtain ⟨W,hW⟩:∃ W,W=V.alloc (.cells #[.int .i64 0,.int .i64 0,.int .i64 0,.bool false,.int .i64 0,.string ⟨#[]⟩,.bool false,.string ⟨#[]⟩,.slice none 0 0,.int .i64 0,.bool false,.bool false,.string ⟨#[]⟩,.bool false,.slice none 0 0,.bool false,.int .i64 0,.bool false,.string ⟨#[]⟩,.slice none 0 0,.int .i64 0,.bool false,.int .i64 0,.slice none 0 0,.slice none 0 0,.slice none 0 0,.int .i64 0,.int .i64 0] 42):=⟨_,rfl⟩;obtain ⟨a1,a2,b2,hs⟩:=two_boxes hV hW;have A1:=hidi a1;have A2:=hidi a2;have B2:=hidi b2;have c0:W.cell? ⟨w.heap.size,0,none⟩=some (.int .i64 q.kind):=box_cells a1 0 _ rfl;have c1:W.cell? ⟨w.heap.size,1,none⟩=some (.int .i64 q.level):=box_cells a1 1 _ rfl;have END:=hidi (fun x=>end_any x W);obtain ⟨P,hP⟩:∃ P,P=pkCells q:=⟨_,rfl⟩;have HP:=hidi hP;rw [<-hP] at hV ⊢;clear a1 a2 b2 hP;by_cases h1:q.kind=1;· have HV:=hidi (show latV q=inC 3 (blank 0) 0 141 by unfold latV;rw [if_pos h1]);rw [h1] at c0;clear h1;go_enter Tryz.func32,Tryz.ntmps32;go_upto_region 1 with fail;rw [<-hV,<-hW];clear hV hW hs;go_wp2_with fail;go_must (go_at_call 29);refine (END.out _).mono ?_;rintro e w3 ⟨rfl,hb3⟩;have A3:=hidi (later_at A2.out hb3);have B3:=hidi (bel_on B2.out hb3);clear hb3 c0 c1;go_wp2_with (first | (refine wpList_store_row rfl 42 _ _ rfl (w.heap.size+1) (inC 3 (blank 0) 0 141) rfl rfl 42 (inC 0 (blank 0) 0 0) A3.out in_info rfl (in_one _ _ _ _) ?_));refine bodyPost_ret (results_cell_row rfl _ _ (w.heap.size+1) 42 (inC 3 (blank 0) 0 141) (0,0) _ rfl (setRow_at A3.out) Tryz.underlying42 rfl in_info) rfl ?_;exact ⟨by rw [HV.out],(below_setRow B3.out (Nat.le_succ _)).out⟩
 ·
  have e1:(q.kind==1)=false:=by simpa using h1
  by_cases h2:q.kind=2;· have HV:=hidi (show latV q=inC 3 (blank 0) 0 142 by unfold latV;rw [if_neg h1,if_pos (.inl h2)]);rw [h2] at c0;clear h1 h2 e1;go_enter Tryz.func32,Tryz.ntmps32;go_upto_region 1 with fail;rw [<-hV,<-hW];clear hV hW hs;go_wp2_with fail;go_must (go_at_call 29);refine (END.out _).mono ?_;rintro e w3 ⟨rfl,hb3⟩;have A3:=hidi (later_at A2.out hb3);have B3:=hidi (bel_on B2.out hb3);clear hb3 c0 c1;go_wp2_with (first | (refine wpList_store_row rfl 42 _ _ rfl (w.heap.size+1) (inC 3 (blank 0) 0 142) rfl rfl 42 (inC 0 (blank 0) 0 0) A3.out in_info rfl (in_one _ _ _ _) ?_));refine bodyPost_ret (results_cell_row rfl _ _ (w.heap.size+1) 42 (inC 3 (blank 0) 0 142) (0,0) _ rfl (setRow_at A3.out) Tryz.underlying42 rfl in_info) rfl ?_;exact ⟨by rw [HV.out],(below_setRow B3.out (Nat.le_succ _)).out⟩
  ·
   have e2:(q.kind==2)=false:=by simpa using h2
   by_cases h9:q.kind=9;· have HV:=hidi (show latV q=inC 3 (blank 0) 0 142 by unfold latV;rw [if_neg h1,if_pos (.inr (.inl h9))]);rw [h9] at c0;clear h1 h2 h9 e1 e2;go_enter Tryz.func32,Tryz.ntmps32;go_upto_region 1 with fail;rw [<-hV,<-hW];clear hV hW hs;go_wp2_with fail;go_must (go_at_call 29);refine (END.out _).mono ?_;rintro e w3 ⟨rfl,hb3⟩;have A3:=hidi (later_at A2.out hb3);have B3:=hidi (bel_on B2.out hb3);clear hb3 c0 c1;go_wp2_with (first | (refine wpList_store_row rfl 42 _ _ rfl (w.heap.size+1) (inC 3 (blank 0) 0 142) rfl rfl 42 (inC 0 (blank 0) 0 0) A3.out in_info rfl (in_one _ _ _ _) ?_));refine bodyPost_ret (results_cell_row rfl _ _ (w.heap.size+1) 42 (inC 3 (blank 0) 0 142) (0,0) _ rfl (setRow_at A3.out) Tryz.underlying42 rfl in_info) rfl ?_;exact ⟨by rw [HV.out],(below_setRow B3.out (Nat.le_succ _)).out⟩
   ·
    have e9:(q.kind==9)=false:=by simpa using h9
    by_cases h11:q.kind=11;· have HV:=hidi (show latV q=inC 3 (blank 0) 0 142 by unfold latV;rw [if_neg h1,if_pos (.inr (.inr (.inl h11)))]);rw [h11] at c0;clear h1 h2 h9 h11 e1 e2 e9;go_enter Tryz.func32,Tryz.ntmps32;go_upto_region 1 with fail;rw [<-hV,<-hW];clear hV hW hs;go_wp2_with fail;go_must (go_at_call 29);refine (END.out _).mono ?_;rintro e w3 ⟨rfl,hb3⟩;have A3:=hidi (later_at A2.out hb3);have B3:=hidi (bel_on B2.out hb3);clear hb3 c0 c1;go_wp2_with (first | (refine wpList_store_row rfl 42 _ _ rfl (w.heap.size+1) (inC 3 (blank 0) 0 142) rfl rfl 42 (inC 0 (blank 0) 0 0) A3.out in_info rfl (in_one _ _ _ _) ?_));refine bodyPost_ret (results_cell_row rfl _ _ (w.heap.size+1) 42 (inC 3 (blank 0) 0 142) (0,0) _ rfl (setRow_at A3.out) Tryz.underlying42 rfl in_info) rfl ?_;exact ⟨by rw [HV.out],(below_setRow B3.out (Nat.le_succ _)).out⟩
    ·
     have e11:(q.kind==11)=false:=by simpa using h11
     by_cases h13:q.kind=13;· have HV:=hidi (show latV q=inC 3 (blank 0) 0 142 by unfold latV;rw [if_neg h1,if_pos (.inr (.inr (.inr h13)))]);rw [h13] at c0;clear h1 h2 h9 h11 h13 e1 e2 e9 e11;go_enter Tryz.func32,Tryz.ntmps32;go_upto_region 1 with fail;rw [<-hV,<-hW];clear hV hW hs;go_wp2_with fail;go_must (go_at_call 29);refine (END.out _).mono ?_;rintro e w3 ⟨rfl,hb3⟩;have A3:=hidi (later_at A2.out hb3);have B3:=hidi (bel_on B2.out hb3);clear hb3 c0 c1;go_wp2_with (first | (refine wpList_store_row rfl 42 _ _ rfl (w.heap.size+1) (inC 3 (blank 0) 0 142) rfl rfl 42 (inC 0 (blank 0) 0 0) A3.out in_info rfl (in_one _ _ _ _) ?_));refine bodyPost_ret (results_cell_row rfl _ _ (w.heap.size+1) 42 (inC 3 (blank 0) 0 142) (0,0) _ rfl (setRow_at A3.out) Tryz.underlying42 rfl in_info) rfl ?_;exact ⟨by rw [HV.out],(below_setRow B3.out (Nat.le_succ _)).out⟩
     ·
      have e13:(q.kind==13)=false:=by simpa using h13
      have HV:=hidi (show latV q=inC 1 q 0 0 by unfold latV;rw [if_neg h1,if_neg (by rintro (z | z | z | z) <;> contradiction)]);clear h1 h2 h9 h11 h13;go_enter Tryz.func32,Tryz.ntmps32;go_upto_region 1 with fail;rw [<-hV,<-hW];clear hV hW hs;go_wp2_with (first | (refine wpList_load_wanted rfl _ rfl w.heap.size rfl (pkCells q) (0,0) A1.out (pk_size _) ?_)|(refine wpList_build_pk rfl (.tmp 14) rfl q rfl ?_)|(refine wpList_store_row rfl 42 _ _ rfl (w.heap.size+1) (inC 1 q 0 0) rfl rfl 42 (inC 0 (blank 0) 0 0) A2.out in_info rfl (in_one _ _ _ _) ?_));refine bodyPost_ret (results_cell_row rfl _ _ (w.heap.size+1) 42 (inC 1 q 0 0) (0,0) _ rfl (setRow_at A2.out) Tryz.underlying42 rfl in_info) rfl ?_;exact ⟨by rw [HV.out],(below_setRow B2.out (Nat.le_succ _)).out⟩
def cnC (st:Int) (fp:Value) (si bd:Int):Array Value:=#[.int .i64 st,fp,.int .i64 si,.int .i64 bd]
def CnAt (w:World) (cb:Nat) (st:Int) (fp:Value) (si bd:Int):Prop:=w.heap[cb]?=some (.cells (cnC st fp si bd) 59 (0,0))
theorem CnAt.lt {w:World} {cb:Nat} {st:Int} {fp:Value} {si bd:Int} (h:CnAt w cb st fp si bd):cb<w.heap.size:=(Array.getElem?_eq_some_iff.1 h).1
theorem CnAt.cells {w:World} {cb:Nat} {st:Int} {fp:Value} {si bd:Int} (h:CnAt w cb st fp si bd):w.cell? ⟨cb,0,none⟩=some (.int .i64 st)/\w.cell? ⟨cb,1,none⟩=some fp/\w.cell? ⟨cb,2,none⟩=some (.int .i64 si)/\w.cell? ⟨cb,3,none⟩=some (.int .i64 bd):=⟨box_cells h 0 _ rfl,box_cells h 1 _ rfl,box_cells h 2 _ rfl,box_cells h 3 _ rfl⟩
theorem CnAt.frozen {w:World} {cb:Nat} {st:Int} {fp:Value} {si bd:Int} (h:CnAt w cb st fp si bd) (k:Nat):w.frozen? ⟨cb,k,none⟩=false:=frozen_of_row w cb k _ _ h
theorem CnAt.keep {w w':World} {cb:Nat} {st:Int} {fp:Value} {si bd:Int} (h:CnAt w cb st fp si bd) (e:w'.heap[cb]?=w.heap[cb]?):CnAt w' cb st fp si bd:=by unfold CnAt at *;rw [e,h]
theorem heap_set {w:World} {g t k:Nat} {cs:Array Value} (h:w.heap[g]?=some (.cells cs t (0,0))) (v:Value):(w.setCell ⟨g,k,none⟩ v).heap[g]?=some (.cells (cs.setIfInBounds k v) t (0,0)):=heap_setCell_same w g k _ _ v h
theorem _root_.Go.Proofs.YtpldoeeahhaimaaGreatDoor.Ch.then {S:Nat->Prop} {a b c:World} (h:Ch S a b) (k:Ch S b c):Ch S a c:=h.trans k (fun _ _ q=>q)
theorem cnew_any (most pat:Int) (w:World):Calls Tryz.prog 11 #[.int .i64 most,.int .i64 pat] w fun e w'=>e = .returned (.pointer (some ⟨w.heap.size+1,0,none⟩))/\w'=(w.alloc (.cells (frCells most (.slice none 0 0) 0 0 0 0) 83)).alloc (.cells (cnC 0 (.pointer (some ⟨w.heap.size,0,none⟩)) 0 (max pat 0)) 59):=by obtain ⟨m,hm⟩:∃ m,max pat 0=m:=⟨_,rfl⟩;have N:=hidi (new_any most w);rw [hm];go_enter Tryz.func11,Tryz.ntmps11;go_wp2_with (go_at_call 27;refine N.out.mono ?_;rintro e w' ⟨rfl,rfl⟩);go_ret;exact ⟨by simp,rfl⟩
section
variable {w:World} {cb:Nat} {st:Int} {fp:Value} {si bd:Int}
theorem over_any (h:CnAt w cb st fp si bd):Calls Tryz.prog 12 #[.pointer (some ⟨cb,0,none⟩)] w fun e w'=>e = .returned (.bool (st==2))/\w'=w:=by obtain ⟨c0,-⟩:=h.cells;clear h;go_enter Tryz.func12,Tryz.ntmps12;go_wp2_with fail;go_ret;exact ⟨rfl,rfl⟩
theorem stop_any (h:CnAt w cb st fp si bd):Calls Tryz.prog 19 #[.pointer (some ⟨cb,0,none⟩)] w fun e w'=>e = .returned (.tuple #[])/\CnAt w' cb 2 (.pointer none) 0 0/\Ch (fun k=>k=cb) w w':=by obtain ⟨c0,c1,c2,c3⟩:=h.cells;have f:=h.frozen;have H:=hidi h;clear h;go_enter Tryz.func19,Tryz.ntmps19;go_wp2_with fail;go_end0;refine ⟨rfl,?_,((ch_set _ 0 _).then (ch_set _ 1 _)).then ((ch_set _ 2 _).then (ch_set _ 3 _))⟩;unfold CnAt;rw [heap_set (heap_set (heap_set (heap_set H.out _) _) _) _];rfl
theorem join_any (h:CnAt w cb st fp si bd) (k:Int) (hk:0<=k/\k<=65535):Calls Tryz.prog 37 #[.pointer (some ⟨cb,0,none⟩),.int .i64 k] w fun e w'=>e = .returned (.tuple #[])/\CnAt w' cb 1 fp si (3*k / 2)/\Ch (fun k=>k=cb) w w':=by
 obtain ⟨c0,c1,c2,c3⟩:=h.cells;have f:=h.frozen;have H:=hidi h;have hw:IntKind.i64.wrap (3*k)=3*k:=by rw [IntKind.wrap_i64];omega
 have hd:(3*k).tdiv 2=3*k / 2:=Int.tdiv_eq_ediv_of_nonneg (by omega);clear h;go_enter Tryz.func37,Tryz.ntmps37;go_wp2_with fail;go_end0;refine ⟨rfl,?_,(ch_set _ 0 _).then (ch_set _ 3 _)⟩;unfold CnAt;rw [heap_set (heap_set H.out _) _];rfl
def lateP (bd si:Int):Bool:=decide (0<bd) && decide (bd<si)
theorem tick_any (h:CnAt w cb st fp si bd) (hs:0<=si/\si<=1000000000):Calls Tryz.prog 14 #[.pointer (some ⟨cb,0,none⟩)] w fun e w'=>e = .returned (.bool (lateP bd (si+1)))/\CnAt w' cb st fp (si+1) bd/\Ch (fun k=>k=cb) w w':=by
 obtain ⟨c0,c1,c2,c3⟩:=h.cells;have f:=h.frozen;have hw:IntKind.i64.wrap (si+1)=si+1:=by rw [IntKind.wrap_i64];omega
 obtain ⟨w1,hw1⟩:∃ w1,w1=w.setCell ⟨cb,2,none⟩ (.int .i64 (si+1)):=⟨_,rfl⟩;have h1:CnAt w1 cb st fp (si+1) bd:=by unfold CnAt;rw [hw1,heap_set h _];rfl
 have hc1:Ch (fun k=>k=cb) w w1:=by rw [hw1];exact ch_set _ 2 _
 have H1:=hidi (fun n=>(show CnAt (w1.drewN n) cb st fp (si+1) bd/\Ch (fun k=>k=cb) w (w1.drewN n) from ⟨h1.keep (by simp),hc1.trans (Below.ch (S:=fun k=>k=cb) (below_drewN (Below.refl _ _) n)) (fun _ _ q=>q)⟩));obtain ⟨-,-,d2,d3⟩:=h1.cells;clear h h1 hc1 hs;go_enter Tryz.func14,Tryz.ntmps14;go_upto_region 2 with fail;rw [<-hw1];clear hw1 c0 c1 c2 c3 f hw;by_cases hb:0<bd;·
  have e1:decide (0<bd)=true:=decide_eq_true hb;by_cases hl:bd<si+1;· have e2:decide (bd<si+1)=true:=decide_eq_true hl;have HV:=hidi (show lateP bd (si+1)=true by unfold lateP;rw [e1,e2];rfl);clear hb hl;go_quiet (fail);go_wp2_with fail;go_ret;exact ⟨by rw [HV.out];rfl,H1.out _⟩
  · have e2:decide (bd<si+1)=false:=decide_eq_false hl;have HV:=hidi (show lateP bd (si+1)=false by unfold lateP;rw [e1,e2];rfl);clear hb hl;go_quiet (fail);go_wp2_with fail;go_ret;exact ⟨by rw [HV.out];rfl,H1.out _⟩
 · have e1:decide (0<bd)=false:=decide_eq_false hb;have HV:=hidi (show lateP bd (si+1)=false by unfold lateP;rw [e1];rfl);clear hb;go_big_quiet (fail);go_wp2_with fail;go_ret;exact ⟨by rw [HV.out];rfl,H1.out _⟩
def kpC (k:Int):Int:=min (max k 0) 65535
def TookIs (w':World) (cb:Nat) (st:Int) (fp:Value) (si bd:Int) (what kind keep:Int):Prop := if what=1/\kind≠14 then (if kind=1 then CnAt w' cb 1 fp 0 (3*kpC keep / 2) else CnAt w' cb st fp 0 bd) else CnAt w' cb 2 (.pointer none) 0 0
theorem kpC_rng (k:Int):0<=kpC k/\kpC k<=65535:=by unfold kpC;omega
theorem took_any (h:CnAt w cb st fp si bd) (hst:st≠2) (what:Int) (q:Pk) (code err:Int):Calls Tryz.prog 21 #[.pointer (some ⟨cb,0,none⟩),.agg (inC what q code err)] w fun e w'=>e = .returned (.tuple #[])/\TookIs w' cb st fp si bd what q.kind q.keep/\Ch (fun k=>k=cb) w w':=by
 obtain ⟨P,hP⟩:∃ P,P=inC what q code err:=⟨_,rfl⟩;rw [<-hP];obtain ⟨W,hW⟩:∃ W,W=w.alloc (.cells P 42):=⟨_,rfl⟩;have b1:Below w.heap.size w W:=by rw [hW];exact (Below.refl _ _).alloc (Nat.le_refl _) _
 have a1:W.heap[w.heap.size]?=some (.cells (inC what q code err) 42 (0,0)):=by rw [hW,<-hP];exact heap_alloc_new _ _
 have h1:CnAt W cb st fp si bd:=later_at h b1;have i0:W.cell? ⟨w.heap.size,0,none⟩=some (.int .i64 what):=box_cells a1 0 _ rfl;have i1:W.cell? ⟨w.heap.size,1,none⟩=some (.int .i64 q.kind):=box_cells a1 1 _ rfl;have i4:W.cell? ⟨w.heap.size,4,none⟩=some (.int .i64 q.keep):=box_cells a1 4 _ rfl;obtain ⟨c0,c1,c2,c3⟩:=h1.cells;have f:=h1.frozen;have es:(st==2)=false:=by simpa using hst
 have hne:cb≠w.heap.size:=by have:=h.lt;omega
 have hne':w.heap.size≠cb:=hne.symm;have STOP:=hidi (stop_any h1);have HW:=hidi (And.intro h1 (show Ch (fun k=>k=cb) w W from Below.ch b1));clear hP a1 h b1 h1 hst;by_cases hw1:what=1;·
  by_cases h14:q.kind=14;· have HT:=hidi (fun W' (z:CnAt W' cb 2 (.pointer none) 0 0)=>(show TookIs W' cb st fp si bd what q.kind q.keep by unfold TookIs;rw [if_neg (by intro y;exact y.2 h14)];exact z));rw [hw1] at i0;rw [h14] at i1;clear hw1 h14 i4;go_enter Tryz.func21,Tryz.ntmps21;go_upto_region 4 with fail;rw [<-hW];clear hW;go_wp2_with fail;go_must (go_at_call 19);refine STOP.out.mono ?_;rintro e w2 ⟨rfl,z1,z2⟩;have Z:=hidi (And.intro (HT.out _ z1) (HW.out.2.then z2));clear z1 z2;go_wp2_with fail;go_end0;exact ⟨rfl,Z.out⟩
  ·
   have e14:(q.kind==14)=false:=by simpa using h14
   by_cases h1:q.kind=1;·
    have HT:=hidi (fun W' (z:CnAt W' cb 1 fp 0 (3*kpC q.keep / 2))=>(show TookIs W' cb st fp si bd what q.kind q.keep by unfold TookIs;rw [if_pos ⟨hw1,h14⟩,if_pos h1];exact z));rw [hw1] at i0;rw [h1] at i1;obtain ⟨m,hm⟩:∃ m,max q.keep 0=m:=⟨_,rfl⟩;obtain ⟨m2,hm2⟩:∃ m2,min m 65535=m2:=⟨_,rfl⟩;have hk:kpC q.keep=m2:=by unfold kpC;rw [hm,hm2]
    have J:=hidi (fun (W':World) (z:CnAt W' cb st fp 0 bd)=>join_any z m2 (by rw [<-hk];exact kpC_rng _));rw [hk] at HT;obtain ⟨w1,hw1'⟩:∃ w1,w1=W.setCell ⟨cb,2,none⟩ (.int .i64 0):=⟨_,rfl⟩;have h2:CnAt w1 cb st fp 0 bd:=by unfold CnAt;rw [hw1',heap_set HW.out.1 _];rfl
    have J1:=hidi (J.out w1 h2);have C1:=hidi (show Ch (fun k=>k=cb) w w1 by rw [hw1'];exact HW.out.2.then (ch_set _ 2 _));have j1:w1.cell? ⟨w.heap.size,1,none⟩=some (.int .i64 1):=by rw [hw1'];exact (cell_congr (Below.heap_setCell _ _ _ _ hne')).trans i1
    have j4:w1.cell? ⟨w.heap.size,4,none⟩=some (.int .i64 q.keep):=by rw [hw1'];exact (cell_congr (Below.heap_setCell _ _ _ _ hne')).trans i4
    clear hw1 h14 h1 hk h2 J i4 e14;go_enter Tryz.func21,Tryz.ntmps21;go_upto_region 4 with fail;rw [<-hW];clear hW;go_upto_region 2 with fail;rw [<-hw1'];clear hw1' i0 i1 c0 c1 c2 c3 f;go_wp2_with fail;go_must (go_at_call 37);refine J1.out.mono ?_;rintro e w2 ⟨rfl,z1,z2⟩;have Z:=hidi (And.intro (HT.out _ z1) (C1.out.then z2));clear z1 z2;go_wp2_with fail;go_end0;exact ⟨rfl,Z.out⟩
   ·
    have e1:(q.kind==1)=false:=by simpa using h1
    have HT:=hidi (fun W' (z:CnAt W' cb st fp 0 bd)=>(show TookIs W' cb st fp si bd what q.kind q.keep by unfold TookIs;rw [if_pos ⟨hw1,h14⟩,if_neg h1];exact z));rw [hw1] at i0;have Z:=hidi (show TookIs (W.setCell ⟨cb,2,none⟩ (.int .i64 0)) cb st fp si bd what q.kind q.keep/\Ch (fun k=>k=cb) w (W.setCell ⟨cb,2,none⟩ (.int .i64 0)) from ⟨HT.out _ (by unfold CnAt;rw [heap_set HW.out.1 _];rfl),HW.out.2.then (ch_set _ 2 _)⟩);clear hw1 h14 h1 HT i4;go_enter Tryz.func21,Tryz.ntmps21;go_upto_region 4 with fail;rw [<-hW];clear hW;go_wp2_with fail;go_end0;exact ⟨rfl,Z.out⟩
 ·
  have HT:=hidi (fun W' (z:CnAt W' cb 2 (.pointer none) 0 0)=>(show TookIs W' cb st fp si bd what q.kind q.keep by unfold TookIs;rw [if_neg (by intro y;exact hw1 y.1)];exact z));have ew:(what==1)=false:=by simpa using hw1
  have ew':(what != 1)=true:=by simpa using hw1
  clear hw1 i4 i1;go_enter Tryz.func21,Tryz.ntmps21;go_upto_region 4 with fail;rw [<-hW];clear hW;go_wp2_with fail;go_must (go_at_call 19);refine STOP.out.mono ?_;rintro e w2 ⟨rfl,z1,z2⟩;have Z:=hidi (And.intro (HT.out _ z1) (HW.out.2.then z2));clear z1 z2;go_wp2_with fail;go_end0;exact ⟨rfl,Z.out⟩
end
theorem wpList_load41 {ops:Array Oper} {Q:Exit->Act->World->Prop} {a:Act} {w:World} {o:Oper} {rest:List Oper} (hw:Region.wanted o (yielded ops a.tmps)=true) (x:Operand) (ho:o.op = .load 42 x) (g:Nat) (hx:a.eval x = .pointer (some ⟨g,0,none⟩)) (cs:Array Value) (fr:Nat×Nat) (hg:w.heap[g]?=some (.cells cs 42 fr)) (hs:cs.size=28) (h:wpList Tryz.prog ops Q rest (a.put o.dst (.agg cs)) w):wpList Tryz.prog ops Q (o::rest) a w := wpList_step fun K hK=>by rw [if_pos hw];exact wp_load_row 42 x ho g hx 42 cs fr _ hg Tryz.underlying42 rfl (by rw [hs];kernel_rfl) (hK _ _ h)
theorem yields_load41 {o:Oper} {a:Act} {x:Operand} {g:Nat} {cs:Array Value} {w:World} (ho:o.op = .load 42 x) (hx:a.eval x = .pointer (some ⟨g,0,none⟩)) (hg:w.heap[g]?=some (.cells cs 42)) (hs:cs.size=28) :
 (execOp a.eval o).run Tryz.prog w = .ok (.value (.agg cs)) w:=by
 have hl:(loadVar 42 ⟨g,0,none⟩).run Tryz.prog w = .ok (.agg cs) w:=run_loadVar_row w g 42 42 cs (0,0) _ hg Tryz.underlying42 rfl (by rw [hs];kernel_rfl);unfold execOp;simp only [ho,hx,Instr.loadAt,Instr.sureAddr,Sem.run_bind,Sem.run_pure,Result.andThen_ok,hl]
structure LvS (w:World) (cb fb:Nat) (most:Int) (B:Nat) (st si bd:Int) (rf:Option Nat) (P:Nat) (z:Nat->Int) (H:Nat):Prop where
 cn:CnAt w cb st (.pointer (some ⟨fb,0,none⟩)) si bd
 fs:FS w fb most B rf P z H
def NxF (w wx:World) (cb fb:Nat) (most:Int) (B:Nat) (st si bd:Int) (rf:Option Nat) (P:Nat) (z:Nat->Int) (H:Nat):DecR->Int->Pk->Int->Int->Prop | .more,what,q,code,err=>what=0/\q=blank 0/\code=0/\err=0/\CnAt wx cb st (.pointer (some ⟨fb,0,none⟩)) si bd/\∃ rf',FS wx fb most B rf' P z H/\Nw (w.heap.size+2) rf rf' | .fault x,what,q,code,err=>what=3/\q=blank 0/\code=0/\err=x.2/\CnAt wx cb 2 (.pointer none) 0 0 | .ok p c k,what,q,code,err=>∃ q0,Alike q0 p/\In wx q0 c/\(∀ b,Uses q0 b->w.heap.size+2<=b)/\inC what q code err=(if st=0 then fstV q0 else latV q0)/\TookIs wx cb st (.pointer (some ⟨fb,0,none⟩)) si bd what q.kind q.keep/\∃ rf',FS wx fb most B rf' (P+k) (sh z k) (H-k)/\Nw (w.heap.size+2) rf rf'/\∀ b,Uses q0 b->rf'≠some b
theorem TookIs.keep {w w':World} {cb:Nat} {st:Int} {fp:Value} {si bd what kind keep:Int} (h:TookIs w cb st fp si bd what kind keep) (e:w'.heap[cb]?=w.heap[cb]?):TookIs w' cb st fp si bd what kind keep:=by
 unfold TookIs at *;split;·
  rename_i q;rw [if_pos q] at h;split
  · rename_i q2
    rw [if_pos q2] at h;exact h.keep e
  · rename_i q2
    rw [if_neg q2] at h;exact h.keep e
 · rename_i q;rw [if_neg q] at h;exact h.keep e
theorem NxF.keep {w wx wy:World} {cb fb:Nat} {most:Int} {B:Nat} {st si bd:Int} {rf:Option Nat} {P:Nat} {z:Nat->Int} {H:Nat} {R:DecR} {what:Int} {q:Pk} {code err:Int} (h:NxF w wx cb fb most B st si bd rf P z H R what q code err) (hcb:cb<w.heap.size) (hfb:fb<w.heap.size) (hrf:∀ k,rf=some k->k<w.heap.size) (hk:∀ b,b≠w.heap.size->wy.heap[b]?=wx.heap[b]?):NxF w wy cb fb most B st si bd rf P z H R what q code err:=by
 have hr:∀ {rf':Option Nat},Nw (w.heap.size+2) rf rf'->∀ k,rf'=some k->wy.heap[k]?=wx.heap[k]?:=fun hn k e=>hk k (by
  rcases hn with q | q | ⟨j,q,q2⟩;· have:=hrf k (q ▸ e);omega
  · rw [q] at e;cases e
  · rw [q] at e;cases e;omega)
 cases R with
 | more => obtain ⟨h1,h2,h3,h4,h5,rf',h6,h7⟩:=h;exact ⟨h1,h2,h3,h4,h5.keep (hk cb (by omega)),rf',h6.keep (hk fb (by omega)) (hr h7),h7⟩;| fault x => obtain ⟨h1,h2,h3,h4,h5⟩:=h;exact ⟨h1,h2,h3,h4,h5.keep (hk cb (by omega))⟩;| ok p c k => obtain ⟨q0,h1,h2,h3,h4,h5,rf',h6,h7,h8⟩:=h;exact ⟨q0,h1,In.congr h2 (fun b hb=>hk b (by have:=h3 b hb;omega)),h3,h4,h5.keep (hk cb (by omega)),rf',h6.keep (hk fb (by omega)) (hr h7),h7,h8⟩
theorem fst_in (q:Pk):∃ what q' code err,fstV q=inC what q' code err/\what≠0:=by
 unfold fstV;split;·
  split;· exact ⟨_,_,_,_,rfl,by decide⟩
  · exact ⟨_,_,_,_,rfl,by decide⟩
 · exact ⟨_,_,_,_,rfl,by decide⟩
theorem lat_in (q:Pk):∃ what q' code err,latV q=inC what q' code err/\what≠0:=by
 unfold latV;split;· exact ⟨_,_,_,_,rfl,by decide⟩
 ·
  split;· exact ⟨_,_,_,_,rfl,by decide⟩
  · exact ⟨_,_,_,_,rfl,by decide⟩
theorem ch_row {w:World} {g:Nat} {cs:Array Value}:Ch (fun k=>k=g) w (w.setRow g cs):=⟨rfl,rfl,rfl,by rw [setRow_size];exact Nat.le_refl _,fun k _ hk=>setRow_ne hk⟩
end Go.Proofs.YtpldoeeahhaimaaGreatDoor.Co
