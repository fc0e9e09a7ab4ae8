import Derived.Test.YtceigllifjgalaaGreatDoorPSe
import Derived.Test.YtceigllifjgalaaGreatDoorXf
import Derived.Test.YtceigllifjgalaaGreatDoorTda
import Derived.Great.BuildSlice
import Derived.Test.YtceigllifjgalaaGreatDoorXh
namespace Go.Proofs.YtceigllifjgalaaGreatDoor.Tw
open Go Go.RowKit Go.Sort
open Bk (bk0 zbw)
open Pkt (Pk Cn Sl In By Is Ss As pkCells zag Small za2 zab nil28 zaA zaB zaF za4)
set_option linter.unusedSimpArgs false
set_option linter.unusedVariables false
set_option maxRecDepth 100000
set_option maxHeartbeats 4000000
theorem info29:(Tryz.prog.info? 29).map (fun i=>(i.zero,i.size))=some (some (.agg (pkCells (blank 0))),25):=by kernel_rfl
theorem wpList_build_two {ops:Array Oper} {rest:List Oper} {o:Oper} {a:Act} {w:World} {Q:Exit→Act→World→Prop} (hg:o.guard=none) (x y:Operand) (ho:o.op = .buildSlice 68 2 #[(0,x),(1,y)]) (cs ds:Array Value) (hx:a.eval x = .agg cs) (hy:a.eval y = .agg ds) (hs:cs.size=25) (ht:ds.size=25) (d:Option Tmp) (hd:o.dst=d) (n:Nat) (hn:w.heap.size=n)
    (h:wpList Tryz.prog ops Q rest (a.put d (.slice (some ⟨n,0,none⟩) 2 2)) (w.alloc (.cells (cs++ds) 29))):wpList Tryz.prog ops Q (o::rest) a w:=by
  subst hd hn
  obtain ⟨ie,hie,hzz⟩:=Option.map_eq_some_iff.1 info29
  simp only [Prod.mk.injEq] at hzz
  refine wpList_buildSlice hg 68 29 2 _ ho (cs++ds) ie _ Tryz.underlying68 hie hzz.1 (by rw [hzz.2];omega) (by rw [hzz.2];omega) ?_ h
  have e1:((#[(0,x),(1,y)]:Array (Nat×Operand)).map fun (i,x)=>(i,a.eval x)).toList=([Value.agg cs,Value.agg ds].zipIdx 0).map fun x=>(x.2,x.1):=by
    simp [hx,hy]
  rw [e1,hzz.2]
  have:=Great.fill_whole (s:=25) (by omega) [Value.agg cs,Value.agg ds] ((Array.range (2*25)).map ((Value.agg (pkCells (blank 0))).cells[· % (Value.agg (pkCells (blank 0))).cells.size]!)) (fun v hv=>by
    simp only [List.mem_cons,List.not_mem_nil,or_false] at hv
    rcases hv with rfl | rfl
    · exact hs
    · exact ht) (by simp)
  rw [this]
  simp [Value.cells]
theorem zbI (w:World) (Z C:Array Value):Below w.heap.size w ((w.alloc (.cells Z 29)).setRow w.heap.size C)∧((w.alloc (.cells Z 29)).setRow w.heap.size C).heap[w.heap.size]?=some (.cells C 29 (0,0)) :=
 ⟨zaF ((Below.refl _ _).alloc (Nat.le_refl _) _) _ _ (Nat.le_refl _),zaH (heap_alloc_new w _) _⟩
theorem two_walk {w:World} {P Q:Array Value} {x y:Bool} {FEW:Prop} (zP:P.size=25) (zQ:Q.size=25) (Po:Ending→World→Prop)
    {K0:Nat→Array Value→World→Prop} (St:Nat→Nat→Nat→Array Value→World→Prop) {K1:Nat→Nat→Nat→Array Value→Array Value→World→Prop} {K2:Nat→Nat→Nat→Array Value→Array Value→Array Value→World→Prop} {K3 K4:Nat→Nat→Nat→Array Value→World→Prop}
    (h9:∀ W h0,Below w.heap.size w W→W.heap[h0]?=some (.cells (P++Q) 29 (0,0))→Calls Tryz.prog 9 #[.slice (some ⟨h0,0,none⟩) 2 2] W fun e w'=>∃ b:Bool,e = .returned (.bool b)∧Below W.heap.size W w'∧(b=true→FEW))
    (hno:∀ W,Below w.heap.size w W→Po (.returned (.bool true)) W)
    (h10:FEW→∀ W,Below w.heap.size w W→Calls Tryz.prog 10 #[.agg P,.agg Q] W fun e w'=>e = .returned (.bool x)∧Below W.heap.size W w')
    (h11:FEW→∀ W,Below w.heap.size w W→Calls Tryz.prog 11 #[.agg P,.agg Q] W fun e w'=>e = .returned (.bool x)∧Below W.heap.size W w')
    (h10b:FEW→∀ W,Below w.heap.size w W→Calls Tryz.prog 10 #[.agg Q,.agg P] W fun e w'=>e = .returned (.bool y)∧Below W.heap.size W w')
    (h11b:FEW→∀ W,Below w.heap.size w W→Calls Tryz.prog 11 #[.agg Q,.agg P] W fun e w'=>e = .returned (.bool y)∧Below W.heap.size W w')
    (h10c:FEW→∀ W,Below w.heap.size w W→Calls Tryz.prog 10 #[.agg P,.agg P] W fun e w'=>e = .returned (.bool true)∧Below W.heap.size W w')
    (h12:FEW→∀ W,Below w.heap.size w W→Calls Tryz.prog 12 #[.pointer (some ⟨W.heap.size,0,none⟩),.agg P] ((W.alloc (.cells nil28 48)).alloc (.cells bk0 55)) fun e w'=>∃ R,e = .returned (.agg R)∧R.size=25∧R.all (·.oneCell')=true∧K0 W.heap.size R w')
    (h12b:∀ r R W W',K0 r R W→W'.heap[W.heap.size]?=some (.cells R 29 (0,0))→Below W.heap.size W W'→St r W.heap.size 0 R W')
    (hbox:∀ r I n R W,St r I n R W→W.heap[I]?=some (.cells R 29 (0,0)))
    (h13:∀ r I n R W,n<3→St r I n R W→Calls Tryz.prog 13 #[.agg R] W fun e w'=>∃ C,e = .returned (.agg C)∧C.size=25∧C.all (·.oneCell')=true∧K1 r I n R C w')
    (m1:∀ r I n R C W W',K1 r I n R C W→Below W.heap.size W W'→K1 r I n R C W')
    (b1:∀ r I n R C W,K1 r I n R C W→W.heap[I]?=some (.cells R 29 (0,0)))
    (h14:∀ r I n R C W,K1 r I n R C W→Calls Tryz.prog 14 #[.agg R] W fun e w'=>∃ D,e = .returned (.agg D)∧D.size=25∧D.all (·.oneCell')=true∧K2 r I n R C D w'∧Below W.heap.size W w')
    (m2:∀ r I n R C D W W',K2 r I n R C D W→Below W.heap.size W W'→K2 r I n R C D W')
    (b2:∀ r I n R C D W,K2 r I n R C D W→W.heap[I]?=some (.cells R 29 (0,0)))
    (h11c:∀ r I n R C D W,K2 r I n R C D W→Calls Tryz.prog 11 #[.agg D,.agg C] W fun e w'=>e = .returned (.bool true)∧Below W.heap.size W w')
    (h11d:∀ r I n R C D W,K2 r I n R C D W→Calls Tryz.prog 11 #[.agg R,.agg C] W fun e w'=>e = .returned (.bool true)∧Below W.heap.size W w')
    (h15:∀ r I n R C D W,n<3→K2 r I n R C D W→Calls Tryz.prog 15 #[.pointer (some ⟨r+1,0,none⟩),.agg D,.int .i64 (100*(n:Int)+1)] W fun e w'=>e = .returned (.tuple #[])∧K3 r I n R w')
    (h16:∀ r I n R W,n<3→K3 r I n R W→Calls Tryz.prog 16 #[.pointer (some ⟨r+1,0,none⟩)] W fun e w'=>e = .returned (.bool true)∧K4 r I n R w')
    (b4:∀ r I n R W,K4 r I n R W→W.heap[I]?=some (.cells R 29 (0,0)))
    (h0:∀ r I R W,K4 r I 0 R W→St r I 1 R W)
    (h17:∀ r I n R W,0<n→n<3→K4 r I n R W→Calls Tryz.prog 17 #[.agg R] W fun e w'=>e = .returned (.tuple #[])∧St r I (n+1) R w')
    (h18:∀ r I R W,St r I 3 R W→Calls Tryz.prog 18 #[.pointer (some ⟨r,0,none⟩)] W fun e w'=>e = .returned (.bool true)∧Po (.returned (.bool true)) w') :
    Calls Tryz.prog 3 #[.agg P,.agg Q] w Po:=by
  have H9:=hidx h9
  have HNO:=hidx hno
  have H10:=hidx h10
  have H11:=hidx h11
  have H10b:=hidx h10b
  have H11b:=hidx h11b
  have H10c:=hidx h10c
  have H12:=hidx h12
  have H12b:=hidx h12b
  have HBX:=hidx hbox
  have H13:=hidx h13
  have M1:=hidx m1
  have B1:=hidx b1
  have H14:=hidx h14
  have M2:=hidx m2
  have B2:=hidx b2
  have H11c:=hidx h11c
  have H11d:=hidx h11d
  have H15:=hidx h15
  have H16:=hidx h16
  have B4:=hidx b4
  have H0:=hidx h0
  have H17:=hidx h17
  have H18:=hidx h18
  have SP:=hidx zP
  have SQ:=hidx zQ
  clear h9 hno h10 h11 h10b h11b h10c h12 h12b hbox h13 m1 b1 h14 m2 b2 h11c h11d h15 h16 b4 h0 h17 h18 zP zQ
  obtain ⟨V,hV⟩:∃ V,V=w.alloc (.cells P 29):=⟨_,rfl⟩
  obtain ⟨W,hW⟩:∃ W,W=V.alloc (.cells Q 29):=⟨_,rfl⟩
  obtain ⟨g,hg⟩:∃ g,g=w.heap.size+1:=⟨_,rfl⟩
  have hgV:g=V.heap.size:=by rw [hg,hV];simp
  have bV:Below w.heap.size w V:=zag hV
  have bW:Below V.heap.size V W:=zag hW
  have b0:Hid (Below w.heap.size w W):=bV.trans (bW.mono bV.size)
  have gP:Hid (W.heap[w.heap.size]?=some (.cells P 29)):=(bW.block _ (za4 (by rw [hV];exact heap_alloc_new w _))).trans (by rw [hV];exact heap_alloc_new w _)
  have gQ:Hid (W.heap[g]?=some (.cells Q 29)):=by show _=_;rw [hgV,hW];exact heap_alloc_new V _
  go_enter Tryz.func3,Tryz.ntmps3
  go_upto_region 1 with fail
  rw [← hV,← hg,← hW]
  clear hV hg hW hgV bV bW
  go_wp2_with (first | (refine za2 rfl _ rfl w.heap.size rfl P (0,0) gP.out SP.out ?_)|(refine za2 rfl _ rfl g rfl Q (0,0) gQ.out SQ.out ?_)|(refine wpList_build_two rfl (.tmp 11) (.tmp 12) rfl P Q rfl rfl SP.out SQ.out _ rfl W.heap.size rfl ?_) | fail)
  go_must (go_at_call 9)
  obtain ⟨W1,hW1⟩:∃ W1,W1=W.alloc (.cells (P++Q) 29):=⟨_,rfl⟩
  rw [← hW1]
  have c1:Below W.heap.size W W1:=zag hW1
  have b1:Hid (Below w.heap.size w W1):=b0.out.trans (c1.mono b0.out.size)
  have g2:W1.heap[W.heap.size]?=some (.cells (P++Q) 29 (0,0)):=by rw [hW1];exact heap_alloc_new W _
  have J9:=hidx (H9.out _ _ b1.out g2)
  replace gP:=hidx ((c1.block _ (za4 gP.out)).trans gP.out)
  replace gQ:=hidx ((c1.block _ (za4 gQ.out)).trans gQ.out)
  clear c1 g2 hW1 H9
  refine J9.out.mono ?_
  rintro e w1 ⟨b,rfl,hb,hp⟩
  clear J9
  replace gP:=hidx ((hb.block _ (za4 gP.out)).trans gP.out)
  replace gQ:=hidx ((hb.block _ (za4 gQ.out)).trans gQ.out)
  replace b0:=hidx (b1.out.trans (hb.mono b1.out.size))
  clear hb b1
  cases b
  · have Z:=hidx (HNO.out _ b0.out)
    clear hp
    go_wp2_with fail
    (try go_ret)
    exact Z.out
  have FW:=hidx (hp rfl)
  clear hp
  have rg:∀ d os,Below w.heap.size w (grow (redrawn w1 d) os):=fun d os=>b0.out.trans ((below_regrown w1 d os).mono b0.out.size)
  have C1:=hidx (fun d os=>H10.out FW.out _ (rg d os))
  have C2:=hidx (fun d os=>H11.out FW.out _ (rg d os))
  have C3:=hidx (fun d os=>H10b.out FW.out _ (rg d os))
  have C4:=hidx (fun d os=>H11b.out FW.out _ (rg d os))
  have C5:=hidx (fun d os=>H10c.out FW.out _ (rg d os))
  have LP:=hidx (zaB gP.out SP.out)
  have LQ:=hidx (zaB gQ.out SQ.out)
  clear rg H10 H11 H10b H11b H10c
  go_upto_region 3 with fail
  go_cut [37] from 16 to 77 (fun s37 wx=>s37 = .bool false∧Hid (Below w1.heap.size w1 wx))
  case first =>
    cases x <;> cases y
    all_goals
      refine wp_region_quiet_below (by kernel_rfl) (by kernel_rfl) ?_
      repeat (first | (refine zaA (by kernel_rfl) rfl w.heap.size rfl (.agg P) LP.out ?_)|(refine zaA (by kernel_rfl) rfl g rfl (.agg Q) LQ.out ?_) | quiet_step (first | (go_at_call 10;with_reducible exact Calls.regrown_of (C1.out _ _))|(go_at_call 11;with_reducible exact Calls.regrown_of (C2.out _ _))|(go_at_call 10;with_reducible exact Calls.regrown_of (C3.out _ _))|(go_at_call 11;with_reducible exact Calls.regrown_of (C4.out _ _))|(go_at_call 10;with_reducible exact Calls.regrown_of (C5.out _ _))))
      refine wpQuiet_nil ?_
      rintro _ ⟨⟨d,os⟩,rfl⟩
      go_wp2_with fail
      go_meet
      case rel=>exact ⟨rfl,below_regrown _ _ _⟩
  case rest =>
    obtain ⟨hs,BC⟩:=hcut
    subst hs
    replace gP:=hidx ((BC.out.block _ (za4 gP.out)).trans gP.out)
    replace b0:=hidx (b0.out.trans (BC.out.mono b0.out.size))
    obtain ⟨w2,rfl⟩:∃ W,W=wc:=⟨_,rfl⟩
    clear BC C1 C2 C3 C4 C5 LP LQ gQ
    have J12:=hidx (H12.out FW.out _ b0.out)
    have hgP:((w2.alloc (.cells nil28 48)).alloc (.cells bk0 55)).heap[w.heap.size]?=some (.cells P 29):=(Pkt.below2 w2 _ _ |>.block _ (za4 gP.out)).trans gP.out
    replace gP:=hidx hgP
    clear hgP H12 FW
    unfold nil28 at J12 gP
    go_wp2_with fail
    refine zbw rfl ?_
    go_at_K
    go_wp2_with (first | (refine za2 rfl _ rfl w.heap.size rfl P (0,0) gP.out SP.out ?_) | fail)
    go_must (go_at_call 12)
    refine (J12.out).mono ?_
    rintro e w3 ⟨R,rfl,zR,oR,k0⟩
    have SR:=hidx zR
    have OR:=hidx oR
    have K0':=hidx k0
    obtain ⟨r,hr⟩:∃ r,r=w2.heap.size:=⟨_,rfl⟩
    obtain ⟨I,hI⟩:∃ I,I=w3.heap.size:=⟨_,rfl⟩
    clear zR oR k0 J12
    go_upto_region 7 with (first | (refine wpList_store_row rfl 29 _ _ rfl w3.heap.size R rfl rfl 29 _ (heap_alloc_new w3 _) (by rw [SR.out];kernel_rfl) (by rw [SR.out];kernel_rfl) OR.out ?_) | fail)
    obtain ⟨W4,hW4⟩:∃ W,W=(w3.alloc (.cells #[.int .i64 0,.int .i64 0,.bool false,.int .i64 0,.string ⟨#[]⟩,.bool false,.string ⟨#[]⟩,.slice none 0 0,.int .i64 0,.bool false,.bool false,.string ⟨#[]⟩,.bool false,.slice none 0 0,.bool false,.int .i64 0,.bool false,.string ⟨#[]⟩,.slice none 0 0,.int .i64 0,.bool false,.int .i64 0,.slice none 0 0,.slice none 0 0,.slice none 0 0] 29)).setRow w3.heap.size R:=⟨_,rfl⟩
    rw [← hW4,← hr,← hI]
    have S0:Hid (St r I 0 R W4):=by
      have nr:=zbI w3 #[.int .i64 0,.int .i64 0,.bool false,.int .i64 0,.string ⟨#[]⟩,.bool false,.string ⟨#[]⟩,.slice none 0 0,.int .i64 0,.bool false,.bool false,.string ⟨#[]⟩,.bool false,.slice none 0 0,.bool false,.int .i64 0,.bool false,.string ⟨#[]⟩,.slice none 0 0,.int .i64 0,.bool false,.int .i64 0,.slice none 0 0,.slice none 0 0,.slice none 0 0] R
      rw [← hW4] at nr
      rw [hr,hI]
      exact H12b.out _ _ _ _ K0'.out nr.2 nr.1
    clear hW4 hI K0' H12b gP
    clear hr
    go_wp2_with fail
    go_loopg [8] 3 (fun gk s8 wx=>∃ n:Nat,n+gk=3∧s8 = .int .i64 n∧Hid (St r I n R wx))
    case atStart=>exact ⟨0,by omega,rfl,S0⟩
    case round =>
      obtain ⟨n,hn,rfl,SN⟩:=hrel
      clear S0
      cases gk with
      | zero =>
        obtain rfl:n=3:=by omega
        have hz:¬ ((3:Nat):Int)<3:=by decide
        have J18:=hidx (H18.out _ _ _ _ SN.out)
        clear SN
        go_wp2_with fail
        go_must (go_at_call 18)
        refine (J18.out).mono ?_
        rintro e w9 ⟨rfl,hk⟩
        have Z:=hidx hk
        clear hk J18
        go_wp2_with fail
        all_goals (try go_ret)
        all_goals exact Z.out
      | succ gk =>
        have hz:(n:Int)<3:=by omega
        have hm:IntKind.i64.wrap (100*(n:Int))=100*(n:Int):=by rw [IntKind.wrap_i64];omega
        have hm1:IntKind.i64.wrap (100*(n:Int)+1)=100*(n:Int)+1:=by rw [IntKind.wrap_i64];omega
        have hwi:IntKind.i64.wrap ((n:Int)+1)=(n:Int)+1:=by rw [IntKind.wrap_i64];omega
        have HN:=hidx (show n<3 by omega)
        have gR:=hidx (HBX.out _ _ _ _ _ SN.out)
        have J13:=hidx (H13.out _ _ _ _ _ HN.out SN.out)
        clear SN
        obtain ⟨w5,rfl⟩:∃ W,W=wr:=⟨_,rfl⟩
        go_wp2_with (first | (refine za2 rfl _ rfl I rfl R (0,0) gR.out SR.out ?_) | fail)
        go_must (go_at_call 13)
        refine (J13.out).mono ?_
        rintro e w6 ⟨C,rfl,zC,oC,k1⟩
        have SC:=hidx zC
        have OC:=hidx oC
        have KK:=hidx k1
        clear zC oC k1 J13 gR
        obtain ⟨J,hJ⟩:∃ J,J=w6.heap.size:=⟨_,rfl⟩
        go_upto_region 11 with (first | (refine wpList_store_row rfl 29 _ _ rfl w6.heap.size C rfl rfl 29 _ (heap_alloc_new w6 _) (by rw [SC.out];kernel_rfl) (by rw [SC.out];kernel_rfl) OC.out ?_) | fail)
        obtain ⟨w7,hw7⟩:∃ W,W=(w6.alloc (.cells #[.int .i64 0,.int .i64 0,.bool false,.int .i64 0,.string ⟨#[]⟩,.bool false,.string ⟨#[]⟩,.slice none 0 0,.int .i64 0,.bool false,.bool false,.string ⟨#[]⟩,.bool false,.slice none 0 0,.bool false,.int .i64 0,.bool false,.string ⟨#[]⟩,.slice none 0 0,.int .i64 0,.bool false,.int .i64 0,.slice none 0 0,.slice none 0 0,.slice none 0 0] 29)).setRow w6.heap.size C:=⟨_,rfl⟩
        rw [← hw7,← hJ]
        have nr:=zbI w6 #[.int .i64 0,.int .i64 0,.bool false,.int .i64 0,.string ⟨#[]⟩,.bool false,.string ⟨#[]⟩,.slice none 0 0,.int .i64 0,.bool false,.bool false,.string ⟨#[]⟩,.bool false,.slice none 0 0,.bool false,.int .i64 0,.bool false,.string ⟨#[]⟩,.slice none 0 0,.int .i64 0,.bool false,.int .i64 0,.slice none 0 0,.slice none 0 0,.slice none 0 0] C
        rw [← hw7,← hJ] at nr
        replace KK:=hidx (M1.out _ _ _ _ _ _ _ KK.out (by rw [hJ] at nr;exact nr.1))
        have gC:=hidx nr.2
        have gR:=hidx (B1.out _ _ _ _ _ _ KK.out)
        have J14:=hidx (H14.out _ _ _ _ _ _ KK.out)
        clear hw7 nr hJ KK
        go_wp2_with (first | (refine za2 rfl _ rfl I rfl R (0,0) gR.out SR.out ?_) | fail)
        go_must (go_at_call 14)
        refine (J14.out).mono ?_
        rintro e w8 ⟨D,rfl,zD,oD,k2,bD⟩
        have SD:=hidx zD
        have OD:=hidx oD
        have KK:=hidx k2
        replace gC:=hidx ((bD.block _ (za4 gC.out)).trans gC.out)
        clear zD oD k2 bD J14 gR
        obtain ⟨L,hL⟩:∃ L,L=w8.heap.size:=⟨_,rfl⟩
        go_upto_region 12 with (first | (refine wpList_store_row rfl 29 _ _ rfl w8.heap.size D rfl rfl 29 _ (heap_alloc_new w8 _) (by rw [SD.out];kernel_rfl) (by rw [SD.out];kernel_rfl) OD.out ?_) | fail)
        obtain ⟨w9,hw9⟩:∃ W,W=(w8.alloc (.cells #[.int .i64 0,.int .i64 0,.bool false,.int .i64 0,.string ⟨#[]⟩,.bool false,.string ⟨#[]⟩,.slice none 0 0,.int .i64 0,.bool false,.bool false,.string ⟨#[]⟩,.bool false,.slice none 0 0,.bool false,.int .i64 0,.bool false,.string ⟨#[]⟩,.slice none 0 0,.int .i64 0,.bool false,.int .i64 0,.slice none 0 0,.slice none 0 0,.slice none 0 0] 29)).setRow w8.heap.size D:=⟨_,rfl⟩
        rw [← hw9,← hL]
        have nr:=zbI w8 #[.int .i64 0,.int .i64 0,.bool false,.int .i64 0,.string ⟨#[]⟩,.bool false,.string ⟨#[]⟩,.slice none 0 0,.int .i64 0,.bool false,.bool false,.string ⟨#[]⟩,.bool false,.slice none 0 0,.bool false,.int .i64 0,.bool false,.string ⟨#[]⟩,.slice none 0 0,.int .i64 0,.bool false,.int .i64 0,.slice none 0 0,.slice none 0 0,.slice none 0 0] D
        rw [← hw9,← hL] at nr
        have nb:Below w8.heap.size w8 w9:=(by rw [hL] at nr;exact nr.1)
        replace KK:=hidx (M2.out _ _ _ _ _ _ _ _ KK.out nb)
        replace gC:=hidx ((nb.block _ (za4 gC.out)).trans gC.out)
        have gD:=hidx nr.2
        have gR:=hidx (B2.out _ _ _ _ _ _ _ KK.out)
        have J11:=hidx (H11c.out _ _ _ _ _ _ _ KK.out)
        clear hw9 nr nb hL
        go_wp2_with (first | (refine za2 rfl _ rfl L rfl D (0,0) gD.out SD.out ?_)|(refine za2 rfl _ rfl J rfl C (0,0) gC.out SC.out ?_) | fail)
        go_must (go_at_call 11)
        refine (J11.out).mono ?_
        rintro e w10 ⟨rfl,hb⟩
        replace KK:=hidx (M2.out _ _ _ _ _ _ _ _ KK.out hb)
        replace gC:=hidx ((hb.block _ (za4 gC.out)).trans gC.out)
        replace gD:=hidx ((hb.block _ (za4 gD.out)).trans gD.out)
        replace gR:=hidx (B2.out _ _ _ _ _ _ _ KK.out)
        have J11d:=hidx (H11d.out _ _ _ _ _ _ _ KK.out)
        clear hb J11
        go_wp2_with (first | (refine za2 rfl _ rfl I rfl R (0,0) gR.out SR.out ?_)|(refine za2 rfl _ rfl J rfl C (0,0) gC.out SC.out ?_) | fail)
        go_must (go_at_call 11)
        refine (J11d.out).mono ?_
        rintro e w11 ⟨rfl,hb⟩
        replace KK:=hidx (M2.out _ _ _ _ _ _ _ _ KK.out hb)
        replace gD:=hidx ((hb.block _ (za4 gD.out)).trans gD.out)
        have J15:=hidx (H15.out _ _ _ _ _ _ _ HN.out KK.out)
        clear hb J11d KK gC gR
        go_wp2_with (first | (refine za2 rfl _ rfl L rfl D (0,0) gD.out SD.out ?_) | fail)
        go_must (go_at_call 15)
        refine (J15.out).mono ?_
        rintro e w12 ⟨rfl,hk⟩
        have J16:=hidx (H16.out _ _ _ _ _ HN.out hk)
        clear hk J15 gD
        go_wp2_with fail
        go_must (go_at_call 16)
        refine (J16.out).mono ?_
        rintro e w13 ⟨rfl,hk⟩
        have KK:=hidx hk
        clear hk J16
        by_cases h0n:n=0
        · subst h0n
          have S1:=hidx (H0.out _ _ _ _ KK.out)
          have hz0:¬ (0:Int)<((0:Nat):Int):=by decide
          clear KK
          go_wp2_with fail
          go_roundg gk
          case measure=>omega
          case rel=>exact ⟨1,by omega,by first | rfl | simp,S1⟩
        · have hz0:(0:Int)<(n:Int):=by omega
          have gR:=hidx (B4.out _ _ _ _ _ KK.out)
          have J17:=hidx (H17.out _ _ _ _ _ (by omega) HN.out KK.out)
          clear KK
          go_wp2_with (first | (refine za2 rfl _ rfl I rfl R (0,0) gR.out SR.out ?_) | fail)
          go_must (go_at_call 17)
          refine (J17.out).mono ?_
          rintro e w14 ⟨rfl,hk⟩
          have S1:=hidx hk
          clear hk J17 gR
          go_wp2_with fail
          go_roundg gk
          case measure=>omega
          case rel=>exact ⟨n+1,by omega,by first | rfl | simp,S1⟩
open Go Go.RowKit
open Bk (Bk ItS bk0 Tab its_of bk_new zbD bk_got)
open Pkt (Pk Cn Sl In By Is Ss As pkCells Small nil28 Mks Rx Spo Nils Fit parts sm sm_two zbJ za9 by_at is_at ss_at as_at ne_ty sumN zbc za4)
theorem zbh (f g:Nat→Nat) (k n:Nat) (h:∀ i,i<n→f i≤k*g i):sumN f n≤k*sumN g n:=by
 induction n with
 | zero=>simp [sumN]
 | succ n ih =>
  have h1:=ih (fun i hi=>h i (by omega))
  have h2:=h n (by omega)
  simp only [sumN,Nat.mul_add]
  omega
theorem zb7 {p:Pk} {c d:Cn} (h:parts p c≤300000) (ha:d.af=c.af) (hf:∀ i,(d.fs i).size≤(c.fs i).size+2):Small p d:=by
 have a1:=zbh (fun i=>3+(d.af i).size) (fun i=>1+(c.af i).size) 3 p.asks.n (fun i _=>by show 3+(d.af i).size≤3*(1+(c.af i).size);rw [ha];omega)
 have a2:=zbh (fun i=>2+(d.fs i).size) (fun i=>1+(c.fs i).size) 4 p.filters.n (fun i _=>by show 2+(d.fs i).size≤4*(1+(c.fs i).size);have:=hf i;omega)
 have a3:=zbc (fun i=>1+(c.af i).size) p.asks.n (fun i _=>by show 1≤1+(c.af i).size;omega)
 have a4:=zbc (fun i=>1+(c.fs i).size) p.filters.n (fun i _=>by show 1≤1+(c.fs i).size;omega)
 unfold parts at h
 constructor <;> omega
theorem zaC {p:Pk} {c:Cn} (h:Small p c) (g1 g2 g3 g4 g5 g6:Nat):Small (Pkt.Pk.laid p g1 g2 g3 g4 g5 g6) c:=⟨h.cl,h.us,h.wt,h.mt,h.wp,h.ps,h.mp,h.an,h.cn,h.fn,h.sa,h.sf⟩
theorem small_re {p:Pk} {c:Cn} {s1 s2 s3 s4 s5 s6:Sl} (h:Small p c) (n:s1.n=p.wP.n∧s2.n=p.pass.n∧s3.n=p.mP.n∧s4.n=p.asks.n∧s5.n=p.codes.n∧s6.n=p.filters.n):Small (p.re s1 s2 s3 s4 s5 s6) c:=by
 obtain ⟨n1,n2,n3,n4,n5,n6⟩:=n
 obtain ⟨a1,m1,k1⟩:=s1
 obtain ⟨a2,m2,k2⟩:=s2
 obtain ⟨a3,m3,k3⟩:=s3
 obtain ⟨a4,m4,k4⟩:=s4
 obtain ⟨a5,m5,k5⟩:=s5
 obtain ⟨a6,m6,k6⟩:=s6
 simp only at n1 n2 n3 n4 n5 n6
 subst n1 n2 n3 n4 n5 n6
 exact ⟨h.cl,h.us,h.wt,h.mt,h.wp,h.ps,h.mp,h.an,h.cn,h.fn,h.sa,h.sf⟩
theorem laid_keep {w w':World} {p:Pk} {c:Cn} {g1 g2 g3 g4 g5 g6:Nat} (h:In w (Pkt.Pk.laid p g1 g2 g3 g4 g5 g6) c) (h1:w'.heap[g1]?=w.heap[g1]?) (h2:w'.heap[g2]?=w.heap[g2]?) (h3:w'.heap[g3]?=w.heap[g3]?) (h4:w'.heap[g4]?=w.heap[g4]?) (h5:w'.heap[g5]?=w.heap[g5]?) (h6:w'.heap[g6]?=w.heap[g6]?):In w' (Pkt.Pk.laid p g1 g2 g3 g4 g5 g6) c:=by
 refine ⟨⟨h.wP.1,h.wP.2.1,.inr ⟨g1,0,rfl,fun i hi=>?_⟩⟩,⟨h.pass.1,h.pass.2.1,.inr ⟨g3,0,rfl,fun i hi=>?_⟩⟩,⟨h.mP.1,h.mP.2.1,.inr ⟨g2,0,rfl,fun i hi=>?_⟩⟩,⟨h.asks.1,.inr ⟨g4,0,rfl,fun i hi=>?_⟩⟩,⟨h.codes.1,.inr ⟨g5,0,rfl,fun i hi=>?_⟩⟩,⟨h.filters.1,.inr ⟨g6,0,rfl,fun i hi=>?_⟩⟩⟩
 · rw [Nat.zero_add,za9 h1];exact by_at h.wP i hi
 · rw [Nat.zero_add,za9 h3];exact by_at h.pass i hi
 · rw [Nat.zero_add,za9 h2];exact by_at h.mP i hi
 · rw [Nat.zero_add,za9 h4,za9 h4];exact as_at h.asks i hi
 · rw [Nat.zero_add,za9 h5];exact is_at h.codes i hi
 · rw [Nat.zero_add,za9 h6];exact ss_at h.filters i hi
theorem zbP {w w':World} {p:Pk} {g1 g2 g3 g4 g5 g6:Nat} (h:Mks w p g1 g2 g3 g4 g5 g6) (h1:w'.heap[g1]?=w.heap[g1]?) (h2:w'.heap[g2]?=w.heap[g2]?) (h3:w'.heap[g3]?=w.heap[g3]?) (h4:w'.heap[g4]?=w.heap[g4]?) (h5:w'.heap[g5]?=w.heap[g5]?) (h6:w'.heap[g6]?=w.heap[g6]?):Mks w' p g1 g2 g3 g4 g5 g6 :=
 ⟨fun k hk=>(za9 h1 _).trans (h.m1 k hk),fun k hk=>(za9 h2 _).trans (h.m2 k hk),fun k hk=>(za9 h3 _).trans (h.m3 k hk),fun k hk=>⟨(za9 h4 _).trans (h.m4 k hk).1,(za9 h4 _).trans (h.m4 k hk).2⟩,fun k hk=>(za9 h5 _).trans (h.m5 k hk),fun k hk=>(za9 h6 _).trans (h.m6 k hk)⟩
def Six (g1 g2 g3 g4 g5 g6 k:Nat):Prop:=k=g1∨k=g2∨k=g3∨k=g4∨k=g5∨k=g6
theorem not_six {g1 g2 g3 g4 g5 g6 k:Nat} (h:¬ Six g1 g2 g3 g4 g5 g6 k):k≠g1∧k≠g2∧k≠g3∧k≠g4∧k≠g5∧k≠g6:=by unfold Six at h;omega
structure Vx (w V:World) (p:Pk) (R K g1 g2 g3 g4 g5 g6:Nat):Prop where
 rx:Rx V R K p g1 g2 g3 g4 g5 g6
 kb:∃ cs,V.heap[K]?=some (.cells cs 55 (0,0))
 lK:w.heap.size≤K
 lo:∀ k,Six g1 g2 g3 g4 g5 g6 k→w.heap.size≤k
 lV:w.heap.size≤V.heap.size
theorem Vx.six {w V:World} {p:Pk} {R K g1 g2 g3 g4 g5 g6:Nat} (h:Vx w V p R K g1 g2 g3 g4 g5 g6):∀ k,Six g1 g2 g3 g4 g5 g6 k→k<V.heap.size∧k≠K:=by
 obtain ⟨cs,hk⟩:=h.kb
 rintro k (rfl | rfl | rfl | rfl | rfl | rfl)
 · obtain ⟨ds,q⟩:=h.rx.t1;exact ⟨Pkt.za4 q,ne_ty q hk (by decide)⟩
 · obtain ⟨ds,q⟩:=h.rx.t2;exact ⟨Pkt.za4 q,ne_ty q hk (by decide)⟩
 · obtain ⟨ds,q⟩:=h.rx.t3;exact ⟨Pkt.za4 q,ne_ty q hk (by decide)⟩
 · obtain ⟨ds,q⟩:=h.rx.t4;exact ⟨Pkt.za4 q,ne_ty q hk (by decide)⟩
 · obtain ⟨ds,q⟩:=h.rx.t5;exact ⟨Pkt.za4 q,ne_ty q hk (by decide)⟩
 · obtain ⟨ds,q⟩:=h.rx.t6;exact ⟨Pkt.za4 q,ne_ty q hk (by decide)⟩
structure Sy (w V:World) (p:Pk) (c:Cn) (r g1 g2 g3 g4 g5 g6 I N:Nat) (U:Nat→Prop) (W:World):Prop where
 be:Below w.heap.size w W
 kp:∀ k,k<V.heap.size→k≠r+1→¬ Six g1 g2 g3 g4 g5 g6 k→W.heap[k]?=V.heap[k]?
 ty:(∃ cs,W.heap[g1]?=some (.cells cs 5 (0,0)))∧(∃ cs,W.heap[g2]?=some (.cells cs 5 (0,0)))∧(∃ cs,W.heap[g3]?=some (.cells cs 5 (0,0)))∧(∃ cs,W.heap[g4]?=some (.cells cs 98 (0,0)))∧(∃ cs,W.heap[g5]?=some (.cells cs 3 (0,0)))∧(∃ cs,W.heap[g6]?=some (.cells cs 9 (0,0)))
 ms:Mks W p g1 g2 g3 g4 g5 g6
 inn:In W (Pkt.Pk.laid p g1 g2 g3 g4 g5 g6) c
 bk:Bk W (r+1) N U
 us:∀ k,U k→k=r+1∨I<k
 bx:W.heap[I]?=some (.cells (pkCells (Pkt.Pk.laid p g1 g2 g3 g4 g5 g6)) 29 (0,0))
 iv:V.heap.size≤I
section
variable {w V W W':World} {p:Pk} {c:Cn} {r g1 g2 g3 g4 g5 g6 I N M:Nat} {U U' S:Nat→Prop}
theorem Sy.lt (h:Sy w V p c r g1 g2 g3 g4 g5 g6 I N U W):I<W.heap.size:=za4 h.bx
theorem Sy.step (hv:Vx w V p r (r+1) g1 g2 g3 g4 g5 g6) (h:Sy w V p c r g1 g2 g3 g4 g5 g6 I N U W) (hb:Bk W' (r+1) M U') (hc:Bk.Ch S W W') (hS:∀ k,S k→k=r+1∨I<k) (hu:∀ k,U' k→k=r+1∨I<k):Sy w V p c r g1 g2 g3 g4 g5 g6 I M U' W':=by
 have hI:=h.lt
 have hiv:=h.iv
 have hK:r+1<V.heap.size:=by obtain ⟨cs,q⟩:=hv.kb;exact za4 q
 have six:∀ k,Six g1 g2 g3 g4 g5 g6 k→W'.heap[k]?=W.heap[k]?:=fun k q=>hc.block k (by have:=(hv.six k q).1;omega) (fun e=>by
  have:=hv.six k q
  rcases hS k e with e | e <;> omega)
 have s1:=six g1 (.inl rfl)
 have s2:=six g2 (.inr (.inl rfl))
 have s3:=six g3 (.inr (.inr (.inl rfl)))
 have s4:=six g4 (.inr (.inr (.inr (.inl rfl))))
 have s5:=six g5 (.inr (.inr (.inr (.inr (.inl rfl)))))
 have s6:=six g6 (.inr (.inr (.inr (.inr (.inr rfl)))))
 refine ⟨⟨hc.os.trans h.be.os,hc.tape.trans h.be.tape,hc.output.trans h.be.output,Nat.le_trans h.be.size hc.size,fun k hk=>(hc.block k (by have:=h.be.size;omega) (fun e=>?_)).trans (h.be.block k hk)⟩,fun k h1 h2 h3=>(hc.block k (by omega) (fun e=>by rcases hS k e with e | e <;> omega)).trans (h.kp k h1 h2 h3),⟨by rw [s1];exact h.ty.1,by rw [s2];exact h.ty.2.1,by rw [s3];exact h.ty.2.2.1,by rw [s4];exact h.ty.2.2.2.1,by rw [s5];exact h.ty.2.2.2.2.1,by rw [s6];exact h.ty.2.2.2.2.2⟩,zbP h.ms s1 s2 s3 s4 s5 s6,laid_keep h.inn s1 s2 s3 s4 s5 s6,hb,hu,(hc.block I hI (fun e=>by rcases hS I e with e | e <;> omega)).trans h.bx,hiv⟩
 have:=hv.lK
 have:=hv.lV
 rcases hS k e with e | e <;> omega
theorem Sy.below (hv:Vx w V p r (r+1) g1 g2 g3 g4 g5 g6) (h:Sy w V p c r g1 g2 g3 g4 g5 g6 I N U W) (hb:Below W.heap.size W W'):Sy w V p c r g1 g2 g3 g4 g5 g6 I N U W' :=
 h.step hv (S:=fun _=>False) (h.bk.below hb) (Bk.Below.ch hb) (fun k e=>e.elim) h.us
theorem Sy.spoil (hv:Vx w V p r (r+1) g1 g2 g3 g4 g5 g6) (h:Sy w V p c r g1 g2 g3 g4 g5 g6 I N U W) (hs:Spo p c g1 g2 g3 g4 g5 g6 W W'):Sy w V p (Pkt.Cn.spoilt c) r g1 g2 g3 g4 g5 g6 I N U W':=by
 have hI:=h.lt
 have hiv:=h.iv
 have oth:∀ k,k<W.heap.size→¬ Six g1 g2 g3 g4 g5 g6 k→W'.heap[k]?=W.heap[k]?:=fun k hk q=>by
  have:=not_six q
  exact hs.other k hk this.1 this.2.1 this.2.2.1 this.2.2.2.1 this.2.2.2.2.1 this.2.2.2.2.2
 have far:∀ k,k=r+1∨I<k→¬ Six g1 g2 g3 g4 g5 g6 k:=fun k e q=>by
  have:=hv.six k q
  rcases e with e | e <;> omega
 refine ⟨⟨hs.os.trans h.be.os,hs.tape.trans h.be.tape,hs.output.trans h.be.output,Nat.le_trans h.be.size hs.size,fun k hk=>(oth k (by have:=h.be.size;omega) (fun q=>?_)).trans (h.be.block k hk)⟩,fun k h1 h2 h3=>(oth k (by omega) h3).trans (h.kp k h1 h2 h3),hs.ty,hs.marks h.ms,hs.inn,h.bk.keep (fun k e=>oth k (h.bk.lt e) (far k (h.us k e))),h.us,(oth I hI (fun q=>by have:=hv.six I q;omega)).trans h.bx,hiv⟩
 have:=hv.lo k q
 omega
theorem Sy.room (hv:Vx w V p r (r+1) g1 g2 g3 g4 g5 g6) (h:Sy w V p c r g1 g2 g3 g4 g5 g6 I N U W):Pkt.RoomOk W r 3 1 1 1 :=
 hv.rx.re W (fun k hk h0 h1 h2 h3 h4 h5 h6=>h.kp k hk h0 (fun q=>by unfold Six at q;omega)) h.ms
end
def cnt (c:Cn):Nat→Cn
 | 0=>c
 | 1=>c
 | 2=>Pkt.Cn.spoilt c
 | _=>Pkt.Cn.spoilt (Pkt.Cn.spoilt c)
theorem zbs (f:Nat→ByteArray) (i:Nat):(Pkt.spF f i).size=(f i).size+1:=by
 unfold Pkt.spF
 rw [ByteArray.size_append]
 rfl
theorem zbt {p:Pk} {c:Cn} (h:parts p c≤300000):∀ n,Small p (cnt c n)
 | 0=>zb7 h rfl (fun i=>by show (c.fs i).size≤_;omega)
 | 1=>zb7 h rfl (fun i=>by show (c.fs i).size≤_;omega)
 | 2=>zb7 h rfl (fun i=>by show (Pkt.spF c.fs i).size≤_;rw [zbs];omega)
 | n+3=>zb7 h rfl (fun i=>by show (Pkt.spF (Pkt.spF c.fs) i).size≤_;rw [zbs,zbs];omega)
open Pkt (Pk Cn Sl In By Is Ss As pkCells Small nil28 Mks Rx Spo Nils Fit parts sm sm_two zbJ za4)
set_option maxHeartbeats 1000000
structure Gs where
 g1:Nat
 g2:Nat
 g3:Nat
 g4:Nat
 g5:Nat
 g6:Nat
structure Ls where
 s1:Sl
 s2:Sl
 s3:Sl
 s4:Sl
 s5:Sl
 s6:Sl
def lay (p:Pk) (G:Gs):Pk:=Pkt.Pk.laid p G.g1 G.g2 G.g3 G.g4 G.g5 G.g6
def red (p:Pk) (L:Ls):Pk:=p.re L.s1 L.s2 L.s3 L.s4 L.s5 L.s6
def Ln (p:Pk) (L:Ls):Prop:=L.s1.n=p.wP.n∧L.s2.n=p.pass.n∧L.s3.n=p.mP.n∧L.s4.n=p.asks.n∧L.s5.n=p.codes.n∧L.s6.n=p.filters.n
def Vg (w V:World) (p:Pk) (r:Nat) (G:Gs):Prop:=Vx w V p r (r+1) G.g1 G.g2 G.g3 G.g4 G.g5 G.g6
def Sg (w V:World) (p:Pk) (c:Cn) (r:Nat) (G:Gs) (I N:Nat) (U:Nat→Prop) (W:World):Prop:=Sy w V p c r G.g1 G.g2 G.g3 G.g4 G.g5 G.g6 I N U W
def Cp (p:Pk) (c:Cn) (G:Gs) (L:Ls) (C:Array Value) (W:World):Prop:=C=pkCells (red (lay p G) L)∧In W (red (lay p G) L) c∧Ln (lay p G) L
def Ot (p:Pk) (G:Gs) (L:Ls) (B I:Nat) (U:Nat→Prop) (W:World):Prop:=Ows B W (red (lay p G) L)∧I<B∧B≤W.heap.size∧∀ k,U k→k<B
theorem Cp.below {p:Pk} {c:Cn} {G:Gs} {L:Ls} {C:Array Value} {W W':World} (h:Cp p c G L C W) (hb:Below W.heap.size W W'):Cp p c G L C W':=⟨h.1,h.2.1.below hb,h.2.2⟩
theorem Ot.below {p:Pk} {G:Gs} {L:Ls} {B I:Nat} {U:Nat→Prop} {W W':World} (h:Ot p G L B I U W) (hb:Below W.heap.size W W'):Ot p G L B I U W':=⟨h.1.below hb,h.2.1,Nat.le_trans h.2.2.1 hb.size,h.2.2.2⟩
theorem Sg.below {w V W W':World} {p:Pk} {c:Cn} {r I N:Nat} {G:Gs} {U:Nat→Prop} (hv:Vg w V p r G) (h:Sg w V p c r G I N U W) (hb:Below W.heap.size W W'):Sg w V p c r G I N U W':=Sy.below hv h hb
theorem zbA {p:Pk} {c:Cn} {L:Ls} (h:Small p c) (n:Ln p L):Small (red p L) c:=small_re h n
def Zs (w:World) (p:Pk) (c:Cn) (r I N:Nat) (R:Array Value) (W:World):Prop:=∃ G V U,R=pkCells (lay p G)∧Vg w V p r G∧Sg w V p c r G I N U W
theorem zbX {w:World} (p q:Pk) (c d:Cn) (hin:In w p c) (hin':In w q d) (hf:Fit p c) (hf':Fit q d) (hn:Nils p) (ht:Tab w) :
    Calls Tryz.prog 3 #[.agg (pkCells p),.agg (pkCells q)] w fun e w'=>e = .returned (.bool true)∧Below w.heap.size w w':=by
  have sp:∀ n,parts p c+parts q d≤300000→Small p (cnt c n):=fun n h=>zbt (by omega) n
  have sq:parts p c+parts q d≤300000→Small q d:=fun h=>zbt (c:=d) (by omega) 0
  have its:∀ W (U:Nat→Prop),Below w.heap.size w W→(∀ k,U k→w.heap.size≤k)→ItS U W:=fun W U b hv=>its_of (ht.keep (b.block 2 ht.lt)) (fun q=>by have:=hv 2 q;have:=ht.lt;omega)
  have tw:∀ (G:Gs) (L L':Ls) (e:Cn),Ln (lay p G) L→Ln (lay p G) L'→sm (red (lay p G) L) e (red (lay p G) L') e=true:=fun G L L' e a b=>by
    obtain ⟨a1,a2,a3,a4,a5,a6⟩:=a
    obtain ⟨b1,b2,b3,b4,b5,b6⟩:=b
    exact sm_two _ _ _ _ _ _ _ _ _ _ _ _ _ _ (a1.trans b1.symm) (a2.trans b2.symm) (a3.trans b3.symm) (a4.trans b4.symm) (a5.trans b5.symm) (a6.trans b6.symm)
  refine two_walk (x:=sm p c q d) (y:=sm q d p c) (FEW:=parts p c+parts q d≤300000) rfl rfl _
    (K0:=fun r R W=>(parts p c+parts q d≤300000)∧∃ G,R=pkCells (lay p G)∧Vg w W p r G∧Below w.heap.size w W∧In W (lay p G) c∧W.heap[r+1]?=some (.cells bk0 55 (0,0)))
    (fun r I n R W=>(parts p c+parts q d≤300000)∧Zs w p (cnt c n) r I (6*n) R W)
    (K1:=fun r I n R C W=>(parts p c+parts q d≤300000)∧∃ G V U,R=pkCells (lay p G)∧Vg w V p r G∧Sg w V p (cnt c n) r G I (6*n) U W∧∃ L,Cp p (cnt c n) G L C W)
    (K2:=fun r I n R C D W=>(parts p c+parts q d≤300000)∧∃ G V U,R=pkCells (lay p G)∧Vg w V p r G∧Sg w V p (cnt c n) r G I (6*n) U W∧∃ L L' B,Cp p (cnt c n) G L C W∧Cp p (cnt c n) G L' D W∧Ot p G L' B I U W)
    (K3:=fun r I n R W=>(parts p c+parts q d≤300000)∧Zs w p (cnt c n) r I (6*(n+1)) R W) (K4:=fun r I n R W=>(parts p c+parts q d≤300000)∧Zs w p (cnt c n) r I (6*(n+1)) R W)
    ?_ ?_ ?_ ?_ ?_ ?_ ?_ ?_ ?_ ?_ ?_ ?_ ?_ ?_ ?_ ?_ ?_ ?_ ?_ ?_ ?_ ?_ ?_ ?_
  · -- few
    exact fun W h0 b hx=>(Pkt.few2_any p q c d w W h0 hin hin' b hf hf' hx).mono fun e w' h=>h
  · exact fun W b=>⟨rfl,b⟩
  · exact fun h W b=>Pkt.zbr p q c d W (hin.below b) (hin'.below b) (sp 0 h)
  · exact fun h W b=>Pkt.zaM p q c d W (hin.below b) (hin'.below b) (sp 0 h)
  · exact fun h W b=>Pkt.zbr q p d c W (hin'.below b) (hin.below b) (sq h)
  · exact fun h W b=>Pkt.zaM q p d c W (hin'.below b) (hin.below b) (sq h)
  · intro h W b
    have:=Pkt.zbr p p c c W (hin.below b) (hin.below b) (sp 0 h)
    rw [zbJ] at this
    exact this
  · intro h W b
    have b2:=Pkt.below2 W (.cells nil28 48) (.cells bk0 55)
    refine (Pkt.packet_laid p c w _ W.heap.size (W.heap.size+1) bk0 hin (sp 0 h) hn (b.trans (b2.mono b.size)) b.size (heap_alloc2_old W _ _) (heap_alloc2_new W _ _)).mono ?_
    rintro e w' ⟨g1,g2,g3,g4,g5,g6,rfl,q1,q2,q3,q4,q5⟩
    refine ⟨_,rfl,rfl,pk_one _,h,⟨g1,g2,g3,g4,g5,g6⟩,rfl,⟨q4,⟨_,q3⟩,by have:=b.size;omega,?_,q1.size⟩,q1,q2,q3⟩
    rintro k (rfl | rfl | rfl | rfl | rfl | rfl)
    · exact q5.1
    · exact q5.2.1
    · exact q5.2.2.1
    · exact q5.2.2.2.1
    · exact q5.2.2.2.2.1
    · exact q5.2.2.2.2.2
  · rintro r R W W' ⟨h,G,rfl,v,b,i,k⟩ hx hb
    refine ⟨h,G,W,fun k=>k=r+1,rfl,v,⟨b.trans (hb.mono b.size),fun k h1 _ _=>hb.block k h1,?_,?_,i.below hb,bk_new ((hb.block _ (za4 k)).trans k),fun k e=>.inl e,hx,Nat.le_refl _⟩⟩
    · have t:=v.rx
      obtain ⟨c1,t1⟩:=t.t1
      obtain ⟨c2,t2⟩:=t.t2
      obtain ⟨c3,t3⟩:=t.t3
      obtain ⟨c4,t4⟩:=t.t4
      obtain ⟨c5,t5⟩:=t.t5
      obtain ⟨c6,t6⟩:=t.t6
      exact ⟨⟨_,zaz t1 hb⟩,⟨_,zaz t2 hb⟩,⟨_,zaz t3 hb⟩,⟨_,zaz t4 hb⟩,⟨_,zaz t5 hb⟩,⟨_,zaz t6 hb⟩⟩
    · have s:=fun k e=>hb.block k (v.six k e).1
      exact zbP v.rx.ms (s _ (.inl rfl)) (s _ (.inr (.inl rfl))) (s _ (.inr (.inr (.inl rfl)))) (s _ (.inr (.inr (.inr (.inl rfl))))) (s _ (.inr (.inr (.inr (.inr (.inl rfl)))))) (s _ (.inr (.inr (.inr (.inr (.inr rfl))))))
  · rintro r I n R W ⟨h,G,V,U,rfl,v,s⟩
    exact s.bx
  · rintro r I n R W hn3 ⟨h,G,V,U,rfl,v,s⟩
    refine (copy3_any (lay p G) (cnt c n) W s.inn (zaC (sp n h) _ _ _ _ _ _)).mono ?_
    rintro e w' ⟨s1,s2,s3,s4,s5,s6,rfl,q1,q2,q3,q4⟩
    exact ⟨_,rfl,rfl,pk_one _,h,G,V,U,rfl,v,s.below v q4,⟨s1,s2,s3,s4,s5,s6⟩,rfl,q1,q2⟩
  · rintro r I n R C W W' ⟨h,G,V,U,rfl,v,s,L,k⟩ hb
    exact ⟨h,G,V,U,rfl,v,s.below v hb,L,k.below hb⟩
  · rintro r I n R C W ⟨h,G,V,U,rfl,v,s,L,k⟩
    exact s.bx
  · rintro r I n R C W ⟨h,G,V,U,rfl,v,s,L,k⟩
    refine (copy_own (lay p G) (cnt c n) W s.inn (zaC (sp n h) _ _ _ _ _ _)).mono ?_
    rintro e w' ⟨s1,s2,s3,s4,s5,s6,rfl,q1,q2,q3,q4,q5⟩
    exact ⟨_,rfl,rfl,pk_one _,⟨h,G,V,U,rfl,v,s.below v q5,L,⟨s1,s2,s3,s4,s5,s6⟩,W.heap.size,k.below q5,⟨rfl,q1,q2⟩,q4,Sy.lt s,q5.size,fun k e=>s.bk.lt e⟩,q5⟩
  · rintro r I n R C D W W' ⟨h,G,V,U,rfl,v,s,L,L',B,k,k',o⟩ hb
    exact ⟨h,G,V,U,rfl,v,s.below v hb,L,L',B,k.below hb,k'.below hb,o.below hb⟩
  · rintro r I n R C D W ⟨h,G,V,U,rfl,v,s,L,L',B,k,k',o⟩
    exact s.bx
  · rintro r I n R C D W ⟨h,G,V,U,rfl,v,s,L,L',B,⟨rfl,k1,k2⟩,⟨rfl,k3,k4⟩,o⟩
    have:=Pkt.zaM _ _ (cnt c n) (cnt c n) W k3 k1 (zbA (zaC (sp n h) _ _ _ _ _ _) k4)
    rw [tw G L' L _ k4 k2] at this
    exact this
  · rintro r I n R C D W ⟨h,G,V,U,rfl,v,s,L,L',B,⟨rfl,k1,k2⟩,k',o⟩
    have:=Pkt.zaM (lay p G) _ (cnt c n) (cnt c n) W s.inn k1 (zaC (sp n h) _ _ _ _ _ _)
    have e:=tw G ⟨(lay p G).wP,(lay p G).pass,(lay p G).mP,(lay p G).asks,(lay p G).codes,(lay p G).filters⟩ L (cnt c n) ⟨rfl,rfl,rfl,rfl,rfl,rfl⟩ k2
    rw [show sm (lay p G) (cnt c n) (red (lay p G) L) (cnt c n)=true from e] at this
    exact this
  · rintro r I n R C D W hn3 ⟨h,G,V,U,rfl,v,s,L,L',B,k,⟨rfl,k3,k4⟩,o1,o2,o3,o4⟩
    have hlK:=v.lK
    refine (bk_got s.bk (by omega) _ (cnt c n) k3 o1 (zbA (zaC (sp n h) _ _ _ _ _ _) k4) o4 o3 _ (its W _ s.be (fun k e=>?_))).mono ?_
    · have:=v.lV;have:=s.iv
      rcases e with e | e
      · rcases s.us k e with e | e <;> omega
      · omega
    · rintro e w' ⟨rfl,U',r1,r2,r3⟩
      refine ⟨rfl,h,G,V,U',rfl,v,Sy.step v s (by rw [show 6*(n+1)=6*n+6 by omega];exact r1) r2 (fun k e=>?_) (fun k e=>?_)⟩
      · rcases e with e | e
        · exact s.us k e
        · exact .inr (by omega)
      · rcases r3 k e with e | e
        · exact s.us k e
        · exact .inr (by omega)
  · rintro r I n R W hn3 ⟨h,G,V,U,rfl,v,s⟩
    refine (zbD s.bk (by omega)).mono ?_
    rintro e w' ⟨rfl,b⟩
    exact ⟨rfl,h,G,V,U,rfl,v,s.below v b⟩
  · rintro r I n R W ⟨h,G,V,U,rfl,v,s⟩
    exact s.bx
  · rintro r I R W ⟨h,G,V,U,rfl,v,s⟩
    exact ⟨h,G,V,U,rfl,v,s⟩
  · rintro r I n R W h0 h3 ⟨h,G,V,U,rfl,v,s⟩
    have t:=s.ty
    refine (Pkt.spoil_any p (cnt c n) W G.g1 G.g2 G.g3 G.g4 G.g5 G.g6 s.inn (sp n h) t.1 t.2.1 t.2.2.1 t.2.2.2.1 t.2.2.2.2.1 t.2.2.2.2.2 v.rx.d12 v.rx.d13 v.rx.d23).mono ?_
    rintro e w' ⟨rfl,o⟩
    refine ⟨rfl,h,G,V,U,rfl,v,?_⟩
    have z:=Sy.spoil v s o
    match n,h0,h3,z with
    | 1,_,_,z=>exact z
    | 2,_,_,z=>exact z
    | n+3,_,h3,_=>omega
  · rintro r I R W ⟨h,G,V,U,rfl,v,s⟩
    refine (Pkt.zbl r 3 1 1 1 W (Sy.room v s)).mono ?_
    rintro e w' ⟨rfl,b⟩
    exact ⟨rfl,rfl,s.be.trans (b.mono s.be.size)⟩
end Go.Proofs.YtceigllifjgalaaGreatDoor.Tw
