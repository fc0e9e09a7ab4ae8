import Derived.Test.YtpldoeeahhaimaaGreatDoorCnc
namespace Go.Proofs.YtpldoeeahhaimaaGreatDoor.Co
open Go Go.RowKit
open Pkt (Pk Cn Sl In By Is Ss As pkCells Gd KindsAt Small wpList_load_wanted)
set_option linter.unusedSimpArgs false
set_option linter.unusedVariables false
set_option maxRecDepth 100000
set_option maxHeartbeats 8000000
def Dn (w wx:World) (cb fb ib rb:Nat) (most:Int) (B:Nat) (st si bd:Int) (rf:Option Nat) (P:Nat) (z:Nat→Int) (H:Nat) (R:DecR) (what:Int) (q:Pk) (code err:Int):Prop:=wx.heap[ib]?=some (.cells (inC what q code err) 42 (0,0))∧wx.heap[rb]?=some (.cells (inC 0 (blank 0) 0 0) 42 (0,0))∧what≠0∧NxF w wx cb fb most B st si bd rf P z H R what q code err∧Ch (fun k=>k=cb∨k=fb) w wx
theorem pbox {w2 w3:World} {q:Pk} (h:w3=(w2.alloc (.cells #[.int .i64 0,.int .i64 0,.bool false,.int .i64 0,.string ⟨#[]⟩,.bool false,.string ⟨#[]⟩,.slice none 0 0,.int .i64 0,.bool false,.bool false,.string ⟨#[]⟩,.bool false,.slice none 0 0,.bool false,.int .i64 0,.bool false,.string ⟨#[]⟩,.slice none 0 0,.int .i64 0,.bool false,.int .i64 0,.slice none 0 0,.slice none 0 0,.slice none 0 0] 39)).setRow w2.heap.size (pkCells q)):w3.heap[w2.heap.size]?=some (.cells (pkCells q) 39 (0,0))∧Below w2.heap.size w2 w3:=by
 have h1:(w2.alloc (.cells #[.int .i64 0,.int .i64 0,.bool false,.int .i64 0,.string ⟨#[]⟩,.bool false,.string ⟨#[]⟩,.slice none 0 0,.int .i64 0,.bool false,.bool false,.string ⟨#[]⟩,.bool false,.slice none 0 0,.bool false,.int .i64 0,.bool false,.string ⟨#[]⟩,.slice none 0 0,.int .i64 0,.bool false,.int .i64 0,.slice none 0 0,.slice none 0 0,.slice none 0 0] 39)).heap[w2.heap.size]?=some (.cells (pkCells (blank 0)) 39 (0,0)):=heap_alloc_new w2 _
 rw [h]
 exact ⟨setRow_at h1,(below_setRow ((Below.refl _ _).alloc (Nat.le_refl _) _) (Nat.le_refl _)).out⟩
theorem nx_end {w wx:World} {cb fb rb:Nat} {most:Int} {B:Nat} {st si bd:Int} {rf:Option Nat} {P:Nat} {z:Nat→Int} {H:Nat} {R:DecR} {what:Int} {q:Pk} {code err:Int} (h:NxF w wx cb fb most B st si bd rf P z H R what q code err) (hC:Ch (fun k=>k=cb∨k=fb) w wx) (hrb:rb=w.heap.size) (hl:LvS w cb fb most B st si bd rf P z H) (cs:Array Value):NxF w (wx.drew.setRow rb cs) cb fb most B st si bd rf P z H R what q code err∧Ch (fun k=>k=cb∨k=fb) w (wx.drew.setRow rb cs):=by
 refine ⟨h.keep hl.cn.lt hl.fs.lt.1 hl.fs.lt.2 (fun b hb=>?_),?_⟩
 · rw [setRow_ne (by rw [hrb];exact hb)]
   rfl
 · refine (hC.trans (Below.ch (S:=fun k=>k=cb∨k=fb) (Below.refl wx.heap.size wx).drew) (fun _ _ q=>q)).trans ch_row (fun j hj e=>?_)
   omega
theorem LvS.ne {w:World} {cb fb:Nat} {most:Int} {B:Nat} {st si bd:Int} {rf:Option Nat} {P:Nat} {z:Nat→Int} {H:Nat} (h:LvS w cb fb most B st si bd rf P z H):cb≠fb:=by
 obtain ⟨c,h2⟩:=h.fs.blk.1
 exact blk_ne h.cn h2 (by decide)
theorem ch_kq {w W1 w2 w3:World} {cb fb:Nat} (h1:Below w.heap.size w W1) (h2:Kq fb none W1 w2) (h3:Below w2.heap.size w2 w3):Ch (fun k=>k=cb∨k=fb) w w3 :=
 ((Below.ch (S:=fun k=>k=cb∨k=fb) h1).trans (Kq.ch h2) (fun j _ q=>by
  rcases q with q | q
  · exact .inr q
  · cases q)).trans (Below.ch (S:=fun k=>k=cb∨k=fb) h3) (fun _ _ q=>q)
theorem _root_.Go.Proofs.YtpldoeeahhaimaaGreatDoor.Et.keep3 {W1 w2 w3:World} {fb:Nat} (h:Et W1) (h2:Kq fb none W1 w2) (h3:Below w2.heap.size w2 w3) (hg:Gw W1) (hf:3≤fb):Et w3:=by
 have e1:w2.heap[0]?=W1.heap[0]?:=h2.block 0 (by have:=hg.three;omega) (by omega) (by intro q;cases q)
 have e2:w3.heap[0]?=w2.heap[0]?:=h3.block 0 (by have:=hg.three;have:=h2.size;omega)
 exact (cell_congr (e2.trans e1)).trans h
theorem cnext_any {w:World} {cb fb:Nat} {most:Int} {B:Nat} {st si bd:Int} {rf:Option Nat} {P:Nat} {z:Nat→Int} {H:Nat} (h:LvS w cb fb most B st si bd rf P z H) (hst:st=0∨st=1) (hz:∀ i,0≤z i∧z i≤255) (hg:Gw w) (hn:P+H≤400000) (hB:B≤w.heap.size) (h3:3≤fb) :
    Calls Tryz.prog 13 #[.pointer (some ⟨cb,0,none⟩)] w fun e w'=>∃ what q code err,e = .returned (.tuple #[.agg (inC what q code err),.bool (what != 0)])∧NxF w w' cb fb most B st si bd rf P z H (decP z H most) what q code err∧Ch (fun k=>k=cb∨k=fb) w w':=by
  obtain ⟨V1,hV1⟩:∃ V1,V1=w.alloc (.cells #[.int .i64 0,.int .i64 0,.int .i64 0,.bool false,.int .i64 0,.string ⟨#[]⟩,.bool false,.string ⟨#[]⟩,.slice none 0 0,.int .i64 0,.bool false,.bool false,.string ⟨#[]⟩,.bool false,.slice none 0 0,.bool false,.int .i64 0,.bool false,.string ⟨#[]⟩,.slice none 0 0,.int .i64 0,.bool false,.int .i64 0,.slice none 0 0,.slice none 0 0,.slice none 0 0,.int .i64 0,.int .i64 0] 42):=⟨_,rfl⟩
  obtain ⟨W1,hW1⟩:∃ W1,W1=V1.alloc (.cells #[.int .i64 0,.int .i64 0,.int .i64 0,.bool false,.int .i64 0,.string ⟨#[]⟩,.bool false,.string ⟨#[]⟩,.slice none 0 0,.int .i64 0,.bool false,.bool false,.string ⟨#[]⟩,.bool false,.slice none 0 0,.bool false,.int .i64 0,.bool false,.string ⟨#[]⟩,.slice none 0 0,.int .i64 0,.bool false,.int .i64 0,.slice none 0 0,.slice none 0 0,.slice none 0 0,.int .i64 0,.int .i64 0] 42):=⟨_,rfl⟩
  have hs1:V1.heap.size=w.heap.size+1:=by rw [hV1];simp
  have hs2:W1.heap.size=w.heap.size+2:=by rw [hW1];simp;omega
  have b1:Below w.heap.size w V1:=by rw [hV1];exact (Below.refl _ _).alloc (Nat.le_refl _) _
  have b2:Below V1.heap.size V1 W1:=by rw [hW1];exact (Below.refl _ _).alloc (Nat.le_refl _) _
  have bw:Below w.heap.size w W1:=bel_on b1 b2
  have r1:W1.heap[w.heap.size]?=some (.cells (inC 0 (blank 0) 0 0) 42 (0,0)):=later_at (by rw [hV1];exact zero_in w) b2
  have i1:W1.heap[w.heap.size+1]?=some (.cells (inC 0 (blank 0) 0 0) 42 (0,0)):=by rw [hW1,← hs1];exact zero_in V1
  obtain ⟨rb,hrb⟩:∃ rb,rb=w.heap.size:=⟨_,rfl⟩
  obtain ⟨ib,hib⟩:∃ ib,ib=V1.heap.size:=⟨_,rfl⟩
  have hib':ib=w.heap.size+1:=by rw [hib,hs1]
  rw [← hrb] at r1
  rw [← hib'] at i1
  have NEQ:=hidi (show ib≠rb by omega)
  have L1:LvS W1 cb fb most B st si bd rf P z H:=⟨later_at h.cn bw,h.fs.below bw⟩
  have NX:=hidi (next_any L1.fs hz (hg.below bw) hn (by have:=bw.size;omega))
  obtain ⟨R,hR⟩:∃ R,R=decP z H most:=⟨_,rfl⟩
  rw [← hR] at NX ⊢
  have HL:=hidi (And.intro L1 (And.intro h (And.intro bw (And.intro (hg.below bw) (And.intro hst (And.intro hs2 (And.intro hrb hib')))))))
  have I1:=hidi i1
  have R1:=hidi r1
  have H3:=hidi h3
  clear h hz hg hn hB hR h3 b1 b2 bw r1 i1 L1 hib' hs2 hs1
  go_enter Tryz.func13,Tryz.ntmps13
  go_upto_region 1 with fail
  rw [← hV1,← hrb]
  clear hV1 hrb
  go_step3
  go_wp2_with fail
  go_step3
  go_wp2_with fail
  rw [← hW1,← hib]
  clear hW1 hib
  go_loopg [5,6,7] 1 (fun gk s5 s6 s7 wx=>(gk=1∧Hid (wx=W1))∨(gk=0∧∃ what q code err,Hid (Dn w wx cb fb ib rb most B st si bd rf P z H R what q code err)))
  case atStart=>exact .inl ⟨rfl,rfl⟩
  case round =>
    rcases hrel with ⟨hgk,E⟩|⟨hgk,what,q,code,err,HD⟩
    · have i0:wr.cell? ⟨ib,0,none⟩=some (.int .i64 0):=by rw [E.out];exact box_cells I1.out 0 _ rfl
      have c0:wr.cell? ⟨cb,0,none⟩=some (.int .i64 st):=by rw [E.out];exact HL.out.1.cn.cells.1
      have c1:wr.cell? ⟨cb,1,none⟩=some (.pointer (some ⟨fb,0,none⟩)):=by rw [E.out];exact HL.out.1.cn.cells.2.1
      have es:(st==2)=false:=by rcases HL.out.2.2.2.2.1 with q | q <;> rw [q] <;> rfl
      have es':(st != 2)=true:=by rcases HL.out.2.2.2.2.1 with q | q <;> rw [q] <;> rfl
      have NXr:=hidi (show Calls Tryz.prog 28 #[.pointer (some ⟨fb,0,none⟩)] wr fun e w'=>NextIs W1 w' e fb most B rf P z H R∧Kq fb none W1 w' from by rw [E.out];exact NX.out)
      clear NX E
      cases R with
      | more =>
        go_upto_region 5 with (first | (go_at_call 28;refine NXr.out.mono ?_;clear NXr;rintro e w2 ⟨⟨rf',rfl,hfs,hnw⟩,hk⟩;have HX:=hidi (And.intro hfs (And.intro hnw hk));clear hk hfs hnw)|(refine wpList_store_row rfl 39 _ _ rfl w2.heap.size (pkCells (blank 0)) rfl rfl 39 (pkCells (blank 0)) (heap_alloc_new w2 _) pk_info rfl (pk_one _) ?_))
        obtain ⟨w3,hw3⟩:∃ w3,w3=(w2.alloc (.cells #[.int .i64 0,.int .i64 0,.bool false,.int .i64 0,.string ⟨#[]⟩,.bool false,.string ⟨#[]⟩,.slice none 0 0,.int .i64 0,.bool false,.bool false,.string ⟨#[]⟩,.bool false,.slice none 0 0,.bool false,.int .i64 0,.bool false,.string ⟨#[]⟩,.slice none 0 0,.int .i64 0,.bool false,.int .i64 0,.slice none 0 0,.slice none 0 0,.slice none 0 0] 39)).setRow w2.heap.size (pkCells (blank 0)):=⟨_,rfl⟩
        obtain ⟨a3,b3⟩:=pbox hw3
        rw [← hw3]
        have A3:=hidi a3
        have B3:=hidi b3
        clear hw3 a3 b3 i0 c0 c1
        have KQ:=hidi HX.out.2.2
        have KR:=hidi (fun b (h1:b<W1.heap.size) (h2:b≠fb)=>(B3.out.block b (by have:=KQ.out.size;omega)).trans (KQ.out.block b h1 h2 (by intro q;cases q)))
        have IB:=hidi ((KR.out ib (by have:=HL.out.2.2.2.2.2;omega) (by have:=HL.out.2.1.fs.lt.1;have:=HL.out.2.2.2.2.2;omega)).trans I1.out)
        have RB:=hidi ((KR.out rb (by have:=HL.out.2.2.2.2.2;omega) (by have:=HL.out.2.1.fs.lt.1;have:=HL.out.2.2.2.2.2;omega)).trans R1.out)
        have CN:=hidi (HL.out.1.cn.keep (KR.out cb HL.out.1.cn.lt HL.out.1.ne))
        have CH:=hidi (ch_kq (cb:=cb) HL.out.2.2.1 KQ.out B3.out)
        have HNE:=hidi (show ((0:Int) != 0)=false from rfl)
        have NF:=hidi (show NxF w w3 cb fb most B st si bd rf P z H .more 0 (blank 0) 0 0 from ⟨rfl,rfl,rfl,rfl,CN.out,rf',HX.out.1.below B3.out,by rw [← HL.out.2.2.2.2.2.1];exact HX.out.2.1⟩)
        go_wp2_with fail
        refine wp_region_held_drew (S:=fun w'=>Hid (w'.heap[ib]?=some (.cells (inC 0 (blank 0) 0 0) 42 (0,0)))) (by kernel_rfl) (show Hid _ from IB.out) (fun hHeld=>?_)
        refine tkz 0 ⟨some 49,.load 42 (.tmp 4),42,"conn.go:61",#[],none⟩ (.agg (inC 0 (blank 0) 0 0)) (fun wq hSw=>yields_load41 rfl (by rfl) (Hid.out hSw) rfl) hHeld ?_
        simp only [Act.put,zz1,zz2,zz3]
        refine tkz 1 ⟨some 50,.fieldAddr 42 (.tmp 4) 0,0,"conn.go:61",#[⟨4,.gcOnly .lateStores⟩],none⟩ (.pointer (some ⟨ib,0,none⟩)) (by intro wq hSw;clear hSw hHeld;go_simp) hHeld ?_
        simp only [Act.put,zz1,zz2,zz3]
        refine tkz 2 ⟨some 51,.load 3 (.tmp 50),3,"conn.go:61",#[⟨1,.data⟩,⟨4,.gcOnly .lateStores⟩],none⟩ (.int .i64 0) (by intro wq hSw;have hk:wq.cell? ⟨ib,0,none⟩=some (.int .i64 0):=box_cells (Hid.out hSw) 0 _ rfl;clear hSw hHeld;go_simp) hHeld ?_
        simp only [Act.put,zz1,zz2,zz3]
        refine tkz 3 ⟨some 52,.binOp .neq 3 (.tmp 51) (.const (.int .i64 0)) 3,4,"conn.go:61",#[⟨2,.data⟩,⟨4,.gcOnly .lateStores⟩],none⟩ (.bool false) (by intro wq hSw;clear hSw hHeld;have hv:=HNE.out;go_simp) hHeld ?_
        simp only [Act.put,zz1,zz2,zz3]
        refine wpAnyH_ready (rs:=[4]) (by kernel_rfl) (by simp) ?_
        refine AllReadyH.cons (o:=⟨none,.store 42 (.tmp 2) (.tmp 49),0,"conn.go:61",#[⟨0,.data⟩,⟨0,.phase⟩,⟨1,.textOnly .lateStores⟩,⟨2,.textOnly .lateStores⟩,⟨3,.textOnly .lateStores⟩],none⟩) (by rfl) (fun K hK=>?_) AllReadyH.nil
        refine held_store (by kernel_rfl) 42 _ _ rfl rb (inC 0 (blank 0) 0 0) rfl rfl 42 (inC 0 (blank 0) 0 0) RB.out in_info rfl (in_one _ _ _ _) ?_
        refine hK.out _ _ (show Hid _ from (setRow_ne NEQ.out).trans IB.out) (fun hHeld=>?_)
        clear hK K
        try simp only [Act.put,zz1,zz2,zz3]
        refine tkz 5 ⟨some 3,.assign (.tmp 52),4,"conn.go:61",#[⟨3,.data⟩,⟨4,.chain⟩,⟨0,.phase⟩,⟨1,.phase⟩,⟨2,.phase⟩,⟨3,.phase⟩,⟨4,.phase⟩],none⟩ (.bool false) (fun wq _=>pureVal_run (by kernel_rfl) wq) hHeld ?_
        simp only [Act.put,zz1,zz2,zz3]
        refine wpAnyH_done (by kernel_rfl) ?_ _
        clear hHeld
        go_wp2_with fail
        try rw [Exit.noGoto_ret]
        refine bodyPost_ret (results_row_tmp rfl _ _ rb 42 (inC 0 (blank 0) 0 0) (0,0) _ rfl (setRow_at RB.out) Tryz.underlying42 rfl in_info) rfl ?_
        exact ⟨0,blank 0,0,0,rfl,nx_end NF.out CH.out HL.out.2.2.2.2.2.2.1 HL.out.2.1 _⟩
      | fault x =>
        obtain ⟨xa,xe⟩:=x
        go_upto_region 5 with (first | (go_at_call 28;refine NXr.out.mono ?_;clear NXr;rintro e w2 ⟨⟨gg,rfl,hgg,hfd⟩,hk⟩;have HX:=hidi (And.intro hgg (And.intro hfd hk));clear hk hgg hfd)|(refine wpList_store_row rfl 39 _ _ rfl w2.heap.size (pkCells (blank 0)) rfl rfl 39 (pkCells (blank 0)) (heap_alloc_new w2 _) pk_info rfl (pk_one _) ?_))
        obtain ⟨w3,hw3⟩:∃ w3,w3=(w2.alloc (.cells #[.int .i64 0,.int .i64 0,.bool false,.int .i64 0,.string ⟨#[]⟩,.bool false,.string ⟨#[]⟩,.slice none 0 0,.int .i64 0,.bool false,.bool false,.string ⟨#[]⟩,.bool false,.slice none 0 0,.bool false,.int .i64 0,.bool false,.string ⟨#[]⟩,.slice none 0 0,.int .i64 0,.bool false,.int .i64 0,.slice none 0 0,.slice none 0 0,.slice none 0 0] 39)).setRow w2.heap.size (pkCells (blank 0)):=⟨_,rfl⟩
        obtain ⟨a3,b3⟩:=pbox hw3
        rw [← hw3]
        have A3:=hidi a3
        have B3:=hidi b3
        clear hw3 a3 b3 i0 c0 c1
        have KQ:=hidi HX.out.2.2
        have KR:=hidi (fun b (h1:b<W1.heap.size) (h2:b≠fb)=>(B3.out.block b (by have:=KQ.out.size;omega)).trans (KQ.out.block b h1 h2 (by intro q;cases q)))
        have IB:=hidi ((KR.out ib (by have:=HL.out.2.2.2.2.2;omega) (by have:=HL.out.2.1.fs.lt.1;have:=HL.out.2.2.2.2.2;omega)).trans I1.out)
        have RB:=hidi ((KR.out rb (by have:=HL.out.2.2.2.2.2;omega) (by have:=HL.out.2.1.fs.lt.1;have:=HL.out.2.2.2.2.2;omega)).trans R1.out)
        have CN:=hidi (HL.out.1.cn.keep (KR.out cb HL.out.1.cn.lt HL.out.1.ne))
        have CH:=hidi (ch_kq (cb:=cb) HL.out.2.2.1 KQ.out B3.out)
        have ET:=hidi (show Et w3 from (HL.out.2.2.2.1.2).keep3 KQ.out B3.out HL.out.2.2.2.1 H3.out)
        have NM:=hidi (number_any (later_at HX.out.1 B3.out) ET.out)
        try simp only at NM
        go_wp2_with (first | (go_at_call 30;refine NM.out.mono ?_;clear NM;rintro e wn ⟨rfl,hbn⟩;have BN:=hidi hbn;clear hbn))
        go_must (go_at_call 29)
        refine (end_any _ _).mono ?_
        rintro e w4 ⟨rfl,hb4⟩
        have B4:=hidi (bel_on BN.out hb4)
        clear hb4 BN
        have CN4:=hidi (show CnAt w4 cb st (.pointer (some ⟨fb,0,none⟩)) si bd from later_at CN.out B4.out)
        have I4:=hidi (later_at IB.out B4.out)
        have R4:=hidi (later_at RB.out B4.out)
        have TK:=hidi (fun (W:World) (z:CnAt W cb st (.pointer (some ⟨fb,0,none⟩)) si bd)=>took_any z (by rcases HL.out.2.2.2.2.1 with q | q <;> rw [q] <;> decide) 3 (blank 0) 0 xe)
        go_upto_region 10 with (first | (refine wpList_store_row rfl 42 _ _ rfl ib (inC 3 (blank 0) 0 xe) rfl rfl 42 (inC 0 (blank 0) 0 0) I4.out in_info rfl (in_one _ _ _ _) ?_))
        obtain ⟨w5,hw5⟩:∃ w5,w5=w4.setRow ib (inC 3 (blank 0) 0 xe):=⟨_,rfl⟩
        rw [← hw5]
        have I5:=hidi (show w5.heap[ib]?=some (.cells (inC 3 (blank 0) 0 xe) 42 (0,0)) by rw [hw5];exact setRow_at I4.out)
        have K5:=hidi (show ∀ b,b≠ib→w5.heap[b]?=w4.heap[b]? by intro b hb;rw [hw5];exact setRow_ne hb)
        have C5:=hidi (show Ch (fun k=>k=ib) w4 w5 by rw [hw5];exact ch_row)
        have CN5:=hidi (show CnAt w5 cb st (.pointer (some ⟨fb,0,none⟩)) si bd from CN4.out.keep (K5.out cb (by have:=HL.out.2.1.cn.lt;have:=HL.out.2.2.2.2.2;omega)))
        clear hw5
        go_wp2_with (first | (refine wpList_load41 rfl _ rfl ib rfl (inC 3 (blank 0) 0 xe) (0,0) I5.out rfl ?_))
        go_must (go_at_call 21)
        refine (TK.out _ CN5.out).mono ?_
        rintro e w6 ⟨rfl,ht6,hc6⟩
        have H6:=hidi (And.intro ht6 hc6)
        clear ht6 hc6 TK
        have DN:=hidi (show Dn w w6 cb fb ib rb most B st si bd rf P z H (.fault (xa,xe)) 3 (blank 0) 0 xe from by
          have hcb:=HL.out.2.1.cn.lt
          have hxx:=HL.out.2.2.2.2.2
          have hne:=HL.out.1.ne
          have k6:∀ b,b<w5.heap.size→b≠cb→w6.heap[b]?=w5.heap[b]?:=fun b h1 h2=>H6.out.2.block b h1 h2
          have hsz5:w4.heap.size≤w5.heap.size:=C5.out.size
          have hsz4:w3.heap.size≤w4.heap.size:=B4.out.size
          have hsz3:w2.heap.size≤w3.heap.size:=B3.out.size
          have hsz2:W1.heap.size≤w2.heap.size:=KQ.out.size
          refine ⟨(k6 ib (by omega) (by omega)).trans I5.out,((k6 rb (by omega) (by omega)).trans (K5.out rb (by omega))).trans R4.out,by decide,?_,?_⟩
          · exact ⟨rfl,rfl,rfl,rfl,by have:=H6.out.1;unfold TookIs at this;rw [if_neg (by intro q;exact absurd q.1 (by decide))] at this;exact this⟩
          · exact (((CH.out.trans (Below.ch (S:=fun k=>k=cb∨k=fb) B4.out) (fun _ _ q=>q)).trans C5.out (fun j hj e=>by omega)).trans H6.out.2 (fun j hj e=>.inl e)))
        clear H6
        go_wp2_with fail
        go_roundg 0
        case measure=>omega
        case rel=>exact .inr ⟨rfl,3,(blank 0),0,xe,DN.out⟩
      | ok p c k =>
        go_upto_region 5 with (first | (go_at_call 28;refine NXr.out.mono ?_;clear NXr;rintro e w2 ⟨⟨q,rf',rfl,hfs,hin,hal,hus,hnw⟩,hk⟩;have HX:=hidi (And.intro hfs (And.intro hin (And.intro hal (And.intro hus (And.intro hnw hk)))));clear hk hfs hin hal hus hnw)|(refine wpList_store_row rfl 39 _ _ rfl w2.heap.size (pkCells q) rfl rfl 39 (pkCells (blank 0)) (heap_alloc_new w2 _) pk_info rfl (pk_one _) ?_))
        obtain ⟨w3,hw3⟩:∃ w3,w3=(w2.alloc (.cells #[.int .i64 0,.int .i64 0,.bool false,.int .i64 0,.string ⟨#[]⟩,.bool false,.string ⟨#[]⟩,.slice none 0 0,.int .i64 0,.bool false,.bool false,.string ⟨#[]⟩,.bool false,.slice none 0 0,.bool false,.int .i64 0,.bool false,.string ⟨#[]⟩,.slice none 0 0,.int .i64 0,.bool false,.int .i64 0,.slice none 0 0,.slice none 0 0,.slice none 0 0] 39)).setRow w2.heap.size (pkCells q):=⟨_,rfl⟩
        obtain ⟨a3,b3⟩:=pbox hw3
        rw [← hw3]
        have A3:=hidi a3
        have B3:=hidi b3
        clear hw3 a3 b3 i0 c0 c1
        have KQ:=hidi HX.out.2.2.2.2.2
        have KR:=hidi (fun b (h1:b<W1.heap.size) (h2:b≠fb)=>(B3.out.block b (by have:=KQ.out.size;omega)).trans (KQ.out.block b h1 h2 (by intro q;cases q)))
        have IB:=hidi ((KR.out ib (by have:=HL.out.2.2.2.2.2;omega) (by have:=HL.out.2.1.fs.lt.1;have:=HL.out.2.2.2.2.2;omega)).trans I1.out)
        have RB:=hidi ((KR.out rb (by have:=HL.out.2.2.2.2.2;omega) (by have:=HL.out.2.1.fs.lt.1;have:=HL.out.2.2.2.2.2;omega)).trans R1.out)
        have CN:=hidi (HL.out.1.cn.keep (KR.out cb HL.out.1.cn.lt HL.out.1.ne))
        have CH:=hidi (ch_kq (cb:=cb) HL.out.2.2.1 KQ.out B3.out)
        have c0:=CN.out.cells.1
        rcases HL.out.2.2.2.2.1 with hst0 | hst0
        · as_aux_lemma =>
          have HSt:=hidi (show (if st=0 then fstV q else latV q)=fstV q by rw [if_pos hst0])
          have es0:(st==0)=true:=by rw [hst0];rfl
          have HV:=hidi (fst_in q)
          obtain ⟨what,q',code,err,hv,hwn⟩:=HV.out
          have EV:=hidi hv
          have FC:=hidi (first_any q w3)
          rw [hv] at FC
          clear hv HV
          go_wp2_with (first | (refine wpList_load_wanted rfl _ rfl w2.heap.size rfl (pkCells q) (0,0) A3.out (pk_size _) ?_))
          go_must (go_at_call 31)
          refine FC.out.mono ?_
          clear FC
          rintro e w4 ⟨rfl,hb4⟩
          have B4:=hidi hb4
          clear hb4
          have CN4:=hidi (show CnAt w4 cb st (.pointer (some ⟨fb,0,none⟩)) si bd from later_at CN.out B4.out)
          have I4:=hidi (later_at IB.out B4.out)
          have R4:=hidi (later_at RB.out B4.out)
          have TK:=hidi (fun (W:World) (z:CnAt W cb st (.pointer (some ⟨fb,0,none⟩)) si bd)=>took_any z (by rcases HL.out.2.2.2.2.1 with q | q <;> rw [q] <;> decide) what q' code err)
          go_upto_region 10 with (first | (refine wpList_store_row rfl 42 _ _ rfl ib (inC what q' code err) rfl rfl 42 (inC 0 (blank 0) 0 0) I4.out in_info rfl (in_one _ _ _ _) ?_))
          obtain ⟨w5,hw5⟩:∃ w5,w5=w4.setRow ib (inC what q' code err):=⟨_,rfl⟩
          rw [← hw5]
          have I5:=hidi (show w5.heap[ib]?=some (.cells (inC what q' code err) 42 (0,0)) by rw [hw5];exact setRow_at I4.out)
          have K5:=hidi (show ∀ b,b≠ib→w5.heap[b]?=w4.heap[b]? by intro b hb;rw [hw5];exact setRow_ne hb)
          have C5:=hidi (show Ch (fun k=>k=ib) w4 w5 by rw [hw5];exact ch_row)
          have CN5:=hidi (show CnAt w5 cb st (.pointer (some ⟨fb,0,none⟩)) si bd from CN4.out.keep (K5.out cb (by have:=HL.out.2.1.cn.lt;have:=HL.out.2.2.2.2.2;omega)))
          clear hw5
          go_wp2_with (first | (refine wpList_load41 rfl _ rfl ib rfl (inC what q' code err) (0,0) I5.out rfl ?_))
          go_must (go_at_call 21)
          refine (TK.out _ CN5.out).mono ?_
          rintro e w6 ⟨rfl,ht6,hc6⟩
          have H6:=hidi (And.intro ht6 hc6)
          clear ht6 hc6 TK
          have DN:=hidi (show Dn w w6 cb fb ib rb most B st si bd rf P z H (.ok p c k) what q' code err from by
            have hcb:=HL.out.2.1.cn.lt
            have hxx:=HL.out.2.2.2.2.2
            have hne:=HL.out.1.ne
            have k6:∀ b,b<w5.heap.size→b≠cb→w6.heap[b]?=w5.heap[b]?:=fun b h1 h2=>H6.out.2.block b h1 h2
            have hsz5:w4.heap.size≤w5.heap.size:=C5.out.size
            have hsz4:w3.heap.size≤w4.heap.size:=B4.out.size
            have hsz3:w2.heap.size≤w3.heap.size:=B3.out.size
            have hsz2:W1.heap.size≤w2.heap.size:=KQ.out.size
            refine ⟨(k6 ib (by omega) (by omega)).trans I5.out,((k6 rb (by omega) (by omega)).trans (K5.out rb (by omega))).trans R4.out,hwn,?_,?_⟩
            · have hin:In w6 q c:=by
                have hu:∀ b,Uses q b→w6.heap[b]?=w2.heap[b]?:=fun b hb=>by
                  have h1:=(HX.out.2.2.2.1 b hb).1
                  have h2:=In.lt HX.out.2.1 hb
                  exact (((k6 b (by omega) (by omega)).trans (K5.out b (by omega))).trans (B4.out.block b (by omega))).trans (B3.out.block b h2)
                exact In.congr HX.out.2.1 hu
              refine ⟨q,HX.out.2.2.1,hin,fun b hb=>by have:=(HX.out.2.2.2.1 b hb).1;omega,?_,H6.out.1,rf',?_,by rw [← hxx.1];exact HX.out.2.2.2.2.1,fun b hb=>(HX.out.2.2.2.1 b hb).2⟩
              · rw [HSt.out];exact EV.out.symm
              · have hfs:=HX.out.1
                refine hfs.keep ?_ ?_
                · have:=hfs.lt.1
                  exact (((k6 fb (by omega) (by omega)).trans (K5.out fb (by have:=HL.out.2.1.fs.lt.1;omega))).trans (B4.out.block fb (by omega))).trans (B3.out.block fb (by omega))
                · intro j e
                  have h1:=hfs.lt.2 j e
                  have h2:j≠cb∧j≠ib:=by
                    have hj:=HX.out.2.2.2.2.1
                    rcases hj with y | y | ⟨m,y,y2⟩
                    · have h3:=HL.out.2.1.fs.lt.2 j (y ▸ e)
                      refine ⟨fun y3=>?_,by omega⟩
                      obtain ⟨_,cc,h4⟩:=HL.out.2.1.fs.blk.2 j (y ▸ e)
                      exact blk_ne HL.out.2.1.cn h4 (by decide) y3.symm
                    · rw [y] at e;cases e
                    · rw [y] at e;cases e;exact ⟨by omega,by omega⟩
                  exact (((k6 j (by omega) h2.1).trans (K5.out j h2.2)).trans (B4.out.block j (by omega))).trans (B3.out.block j h1)
            · exact (((CH.out.trans (Below.ch (S:=fun k=>k=cb∨k=fb) B4.out) (fun _ _ q=>q)).trans C5.out (fun j hj e=>by omega)).trans H6.out.2 (fun j hj e=>.inl e)))
          clear H6
          go_wp2_with fail
          go_roundg 0
          case measure=>omega
          case rel=>exact .inr ⟨rfl,what,q',code,err,DN.out⟩
        · as_aux_lemma =>
          have HSt:=hidi (show (if st=0 then fstV q else latV q)=latV q by rw [if_neg (by rw [hst0];decide)])
          have es0:(st==0)=false:=by rw [hst0];rfl
          have HV:=hidi (lat_in q)
          obtain ⟨what,q',code,err,hv,hwn⟩:=HV.out
          have EV:=hidi hv
          have FC:=hidi (latr_any q w3)
          rw [hv] at FC
          clear hv HV
          go_wp2_with (first | (refine wpList_load_wanted rfl _ rfl w2.heap.size rfl (pkCells q) (0,0) A3.out (pk_size _) ?_))
          go_must (go_at_call 32)
          refine FC.out.mono ?_
          clear FC
          rintro e w4 ⟨rfl,hb4⟩
          have B4:=hidi hb4
          clear hb4
          have CN4:=hidi (show CnAt w4 cb st (.pointer (some ⟨fb,0,none⟩)) si bd from later_at CN.out B4.out)
          have I4:=hidi (later_at IB.out B4.out)
          have R4:=hidi (later_at RB.out B4.out)
          have TK:=hidi (fun (W:World) (z:CnAt W cb st (.pointer (some ⟨fb,0,none⟩)) si bd)=>took_any z (by rcases HL.out.2.2.2.2.1 with q | q <;> rw [q] <;> decide) what q' code err)
          go_upto_region 10 with (first | (refine wpList_store_row rfl 42 _ _ rfl ib (inC what q' code err) rfl rfl 42 (inC 0 (blank 0) 0 0) I4.out in_info rfl (in_one _ _ _ _) ?_))
          obtain ⟨w5,hw5⟩:∃ w5,w5=w4.setRow ib (inC what q' code err):=⟨_,rfl⟩
          rw [← hw5]
          have I5:=hidi (show w5.heap[ib]?=some (.cells (inC what q' code err) 42 (0,0)) by rw [hw5];exact setRow_at I4.out)
          have K5:=hidi (show ∀ b,b≠ib→w5.heap[b]?=w4.heap[b]? by intro b hb;rw [hw5];exact setRow_ne hb)
          have C5:=hidi (show Ch (fun k=>k=ib) w4 w5 by rw [hw5];exact ch_row)
          have CN5:=hidi (show CnAt w5 cb st (.pointer (some ⟨fb,0,none⟩)) si bd from CN4.out.keep (K5.out cb (by have:=HL.out.2.1.cn.lt;have:=HL.out.2.2.2.2.2;omega)))
          clear hw5
          go_wp2_with (first | (refine wpList_load41 rfl _ rfl ib rfl (inC what q' code err) (0,0) I5.out rfl ?_))
          go_must (go_at_call 21)
          refine (TK.out _ CN5.out).mono ?_
          rintro e w6 ⟨rfl,ht6,hc6⟩
          have H6:=hidi (And.intro ht6 hc6)
          clear ht6 hc6 TK
          have DN:=hidi (show Dn w w6 cb fb ib rb most B st si bd rf P z H (.ok p c k) what q' code err from by
            have hcb:=HL.out.2.1.cn.lt
            have hxx:=HL.out.2.2.2.2.2
            have hne:=HL.out.1.ne
            have k6:∀ b,b<w5.heap.size→b≠cb→w6.heap[b]?=w5.heap[b]?:=fun b h1 h2=>H6.out.2.block b h1 h2
            have hsz5:w4.heap.size≤w5.heap.size:=C5.out.size
            have hsz4:w3.heap.size≤w4.heap.size:=B4.out.size
            have hsz3:w2.heap.size≤w3.heap.size:=B3.out.size
            have hsz2:W1.heap.size≤w2.heap.size:=KQ.out.size
            refine ⟨(k6 ib (by omega) (by omega)).trans I5.out,((k6 rb (by omega) (by omega)).trans (K5.out rb (by omega))).trans R4.out,hwn,?_,?_⟩
            · have hin:In w6 q c:=by
                have hu:∀ b,Uses q b→w6.heap[b]?=w2.heap[b]?:=fun b hb=>by
                  have h1:=(HX.out.2.2.2.1 b hb).1
                  have h2:=In.lt HX.out.2.1 hb
                  exact (((k6 b (by omega) (by omega)).trans (K5.out b (by omega))).trans (B4.out.block b (by omega))).trans (B3.out.block b h2)
                exact In.congr HX.out.2.1 hu
              refine ⟨q,HX.out.2.2.1,hin,fun b hb=>by have:=(HX.out.2.2.2.1 b hb).1;omega,?_,H6.out.1,rf',?_,by rw [← hxx.1];exact HX.out.2.2.2.2.1,fun b hb=>(HX.out.2.2.2.1 b hb).2⟩
              · rw [HSt.out];exact EV.out.symm
              · have hfs:=HX.out.1
                refine hfs.keep ?_ ?_
                · have:=hfs.lt.1
                  exact (((k6 fb (by omega) (by omega)).trans (K5.out fb (by have:=HL.out.2.1.fs.lt.1;omega))).trans (B4.out.block fb (by omega))).trans (B3.out.block fb (by omega))
                · intro j e
                  have h1:=hfs.lt.2 j e
                  have h2:j≠cb∧j≠ib:=by
                    have hj:=HX.out.2.2.2.2.1
                    rcases hj with y | y | ⟨m,y,y2⟩
                    · have h3:=HL.out.2.1.fs.lt.2 j (y ▸ e)
                      refine ⟨fun y3=>?_,by omega⟩
                      obtain ⟨_,cc,h4⟩:=HL.out.2.1.fs.blk.2 j (y ▸ e)
                      exact blk_ne HL.out.2.1.cn h4 (by decide) y3.symm
                    · rw [y] at e;cases e
                    · rw [y] at e;cases e;exact ⟨by omega,by omega⟩
                  exact (((k6 j (by omega) h2.1).trans (K5.out j h2.2)).trans (B4.out.block j (by omega))).trans (B3.out.block j h1)
            · exact (((CH.out.trans (Below.ch (S:=fun k=>k=cb∨k=fb) B4.out) (fun _ _ q=>q)).trans C5.out (fun j hj e=>by omega)).trans H6.out.2 (fun j hj e=>.inl e)))
          clear H6
          go_wp2_with fail
          go_roundg 0
          case measure=>omega
          case rel=>exact .inr ⟨rfl,what,q',code,err,DN.out⟩
    · obtain ⟨hI,hR,hwn,hN,hC⟩:=HD.out
      have i0:wr.cell? ⟨ib,0,none⟩=some (.int .i64 what):=box_cells hI 0 _ rfl
      have HNE:=hidi (show (what != 0)=true by simpa using hwn)
      have ewn:(what==0)=false:=by simpa using hwn
      have IB:=hidi hI
      have RB:=hidi hR
      have NF:=hidi hN
      have CH:=hidi hC
      clear hI hR hwn hN hC HD hgk NX
      go_wp2_with fail
      clear i0 ewn
      refine wp_region_held_drew (S:=fun w'=>Hid (w'.heap[ib]?=some (.cells (inC what q code err) 42 (0,0)))) (by kernel_rfl) (show Hid _ from IB.out) (fun hHeld=>?_)
      refine tkz 0 ⟨some 49,.load 42 (.tmp 4),42,"conn.go:61",#[],none⟩ (.agg (inC what q code err)) (fun wq hSw=>yields_load41 rfl (by rfl) (Hid.out hSw) rfl) hHeld ?_
      simp only [Act.put,zz1,zz2,zz3]
      refine tkz 1 ⟨some 50,.fieldAddr 42 (.tmp 4) 0,0,"conn.go:61",#[⟨4,.gcOnly .lateStores⟩],none⟩ (.pointer (some ⟨ib,0,none⟩)) (by intro wq hSw;clear hSw hHeld;go_simp) hHeld ?_
      simp only [Act.put,zz1,zz2,zz3]
      refine tkz 2 ⟨some 51,.load 3 (.tmp 50),3,"conn.go:61",#[⟨1,.data⟩,⟨4,.gcOnly .lateStores⟩],none⟩ (.int .i64 what) (by intro wq hSw;have hk:wq.cell? ⟨ib,0,none⟩=some (.int .i64 what):=box_cells (Hid.out hSw) 0 _ rfl;clear hSw hHeld;go_simp) hHeld ?_
      simp only [Act.put,zz1,zz2,zz3]
      refine tkz 3 ⟨some 52,.binOp .neq 3 (.tmp 51) (.const (.int .i64 0)) 3,4,"conn.go:61",#[⟨2,.data⟩,⟨4,.gcOnly .lateStores⟩],none⟩ (.bool true) (by intro wq hSw;clear hSw hHeld;have hv:=HNE.out;go_simp) hHeld ?_
      simp only [Act.put,zz1,zz2,zz3]
      refine wpAnyH_ready (rs:=[4]) (by kernel_rfl) (by simp) ?_
      refine AllReadyH.cons (o:=⟨none,.store 42 (.tmp 2) (.tmp 49),0,"conn.go:61",#[⟨0,.data⟩,⟨0,.phase⟩,⟨1,.textOnly .lateStores⟩,⟨2,.textOnly .lateStores⟩,⟨3,.textOnly .lateStores⟩],none⟩) (by rfl) (fun K hK=>?_) AllReadyH.nil
      refine held_store (by kernel_rfl) 42 _ _ rfl rb (inC what q code err) rfl rfl 42 (inC 0 (blank 0) 0 0) RB.out in_info rfl (in_one _ _ _ _) ?_
      refine hK.out _ _ (show Hid _ from (setRow_ne NEQ.out).trans IB.out) (fun hHeld=>?_)
      clear hK K
      try simp only [Act.put,zz1,zz2,zz3]
      refine tkz 5 ⟨some 3,.assign (.tmp 52),4,"conn.go:61",#[⟨3,.data⟩,⟨4,.chain⟩,⟨0,.phase⟩,⟨1,.phase⟩,⟨2,.phase⟩,⟨3,.phase⟩,⟨4,.phase⟩],none⟩ (.bool true) (fun wq _=>pureVal_run (by kernel_rfl) wq) hHeld ?_
      simp only [Act.put,zz1,zz2,zz3]
      refine wpAnyH_done (by kernel_rfl) ?_ _
      clear hHeld
      go_wp2_with fail
      try rw [Exit.noGoto_ret]
      refine bodyPost_ret (results_row_tmp rfl _ _ rb 42 (inC what q code err) (0,0) _ rfl (setRow_at RB.out) Tryz.underlying42 rfl in_info) rfl ?_
      exact ⟨what,q,code,err,by rw [HNE.out];rfl,nx_end NF.out CH.out HL.out.2.2.2.2.2.2.1 HL.out.2.1 _⟩
theorem cnext_over {w:World} {cb:Nat} {fp:Value} {si bd:Int} (h:CnAt w cb 2 fp si bd) :
    Calls Tryz.prog 13 #[.pointer (some ⟨cb,0,none⟩)] w fun e w'=>e = .returned (.tuple #[.agg (inC 0 (blank 0) 0 0),.bool false])∧Below w.heap.size w w':=by
  obtain ⟨V1,hV1⟩:∃ V1,V1=w.alloc (.cells #[.int .i64 0,.int .i64 0,.int .i64 0,.bool false,.int .i64 0,.string ⟨#[]⟩,.bool false,.string ⟨#[]⟩,.slice none 0 0,.int .i64 0,.bool false,.bool false,.string ⟨#[]⟩,.bool false,.slice none 0 0,.bool false,.int .i64 0,.bool false,.string ⟨#[]⟩,.slice none 0 0,.int .i64 0,.bool false,.int .i64 0,.slice none 0 0,.slice none 0 0,.slice none 0 0,.int .i64 0,.int .i64 0] 42):=⟨_,rfl⟩
  obtain ⟨W1,hW1⟩:∃ W1,W1=V1.alloc (.cells #[.int .i64 0,.int .i64 0,.int .i64 0,.bool false,.int .i64 0,.string ⟨#[]⟩,.bool false,.string ⟨#[]⟩,.slice none 0 0,.int .i64 0,.bool false,.bool false,.string ⟨#[]⟩,.bool false,.slice none 0 0,.bool false,.int .i64 0,.bool false,.string ⟨#[]⟩,.slice none 0 0,.int .i64 0,.bool false,.int .i64 0,.slice none 0 0,.slice none 0 0,.slice none 0 0,.int .i64 0,.int .i64 0] 42):=⟨_,rfl⟩
  have hs1:V1.heap.size=w.heap.size+1:=by rw [hV1];simp
  have b1:Below w.heap.size w V1:=by rw [hV1];exact (Below.refl _ _).alloc (Nat.le_refl _) _
  have b2:Below V1.heap.size V1 W1:=by rw [hW1];exact (Below.refl _ _).alloc (Nat.le_refl _) _
  have bw:Below w.heap.size w W1:=bel_on b1 b2
  have r1:W1.heap[w.heap.size]?=some (.cells (inC 0 (blank 0) 0 0) 42 (0,0)):=later_at (by rw [hV1];exact zero_in w) b2
  have i1:W1.heap[w.heap.size+1]?=some (.cells (inC 0 (blank 0) 0 0) 42 (0,0)):=by rw [hW1,← hs1];exact zero_in V1
  obtain ⟨rb,hrb⟩:∃ rb,rb=w.heap.size:=⟨_,rfl⟩
  obtain ⟨ib,hib⟩:∃ ib,ib=V1.heap.size:=⟨_,rfl⟩
  have hib':ib=w.heap.size+1:=by rw [hib,hs1]
  rw [← hrb] at r1
  rw [← hib'] at i1
  have NEQ:=hidi (show ib≠rb by omega)
  have CN:=hidi (show CnAt W1 cb 2 fp si bd from later_at h bw)
  have IB:=hidi i1
  have RB:=hidi r1
  have HF:=hidi (show ∀ cs,Below w.heap.size w (W1.drew.setRow rb cs) from fun cs=>(below_setRow bw.drew (by omega)).out)
  have HNE:=hidi (show ((0:Int) != 0)=false from rfl)
  clear h b1 b2 bw r1 i1 hib' hs1
  go_enter Tryz.func13,Tryz.ntmps13
  go_upto_region 1 with fail
  rw [← hV1,← hrb]
  clear hV1 hrb
  go_step3
  go_wp2_with fail
  go_step3
  go_wp2_with fail
  rw [← hW1,← hib]
  clear hW1 hib
  go_loopg [5,6,7] 0 (fun gk s5 s6 s7 wx=>Hid (wx=W1))
  case atStart=>exact rfl
  case round =>
    have i0:wr.cell? ⟨ib,0,none⟩=some (.int .i64 0):=by rw [hrel.out];exact box_cells IB.out 0 _ rfl
    have c0:wr.cell? ⟨cb,0,none⟩=some (.int .i64 2):=by rw [hrel.out];exact CN.out.cells.1
    have IBr:=hidi (show wr.heap[ib]?=some (.cells (inC 0 (blank 0) 0 0) 42 (0,0)) by rw [hrel.out];exact IB.out)
    have RBr:=hidi (show wr.heap[rb]?=some (.cells (inC 0 (blank 0) 0 0) 42 (0,0)) by rw [hrel.out];exact RB.out)
    have HFr:=hidi (show ∀ cs,Below w.heap.size w (wr.drew.setRow rb cs) by rw [hrel.out];exact HF.out)
    clear hrel
    go_wp2_with fail
    refine wp_region_held_drew (S:=fun w'=>Hid (w'.heap[ib]?=some (.cells (inC 0 (blank 0) 0 0) 42 (0,0)))) (by kernel_rfl) (show Hid _ from IBr.out) (fun hHeld=>?_)
    refine tkz 0 ⟨some 49,.load 42 (.tmp 4),42,"conn.go:61",#[],none⟩ (.agg (inC 0 (blank 0) 0 0)) (fun wq hSw=>yields_load41 rfl (by rfl) (Hid.out hSw) rfl) hHeld ?_
    simp only [Act.put,zz1,zz2,zz3]
    refine tkz 1 ⟨some 50,.fieldAddr 42 (.tmp 4) 0,0,"conn.go:61",#[⟨4,.gcOnly .lateStores⟩],none⟩ (.pointer (some ⟨ib,0,none⟩)) (by intro wq hSw;clear hSw hHeld;go_simp) hHeld ?_
    simp only [Act.put,zz1,zz2,zz3]
    refine tkz 2 ⟨some 51,.load 3 (.tmp 50),3,"conn.go:61",#[⟨1,.data⟩,⟨4,.gcOnly .lateStores⟩],none⟩ (.int .i64 0) (by intro wq hSw;have hk:wq.cell? ⟨ib,0,none⟩=some (.int .i64 0):=box_cells (Hid.out hSw) 0 _ rfl;clear hSw hHeld;go_simp) hHeld ?_
    simp only [Act.put,zz1,zz2,zz3]
    refine tkz 3 ⟨some 52,.binOp .neq 3 (.tmp 51) (.const (.int .i64 0)) 3,4,"conn.go:61",#[⟨2,.data⟩,⟨4,.gcOnly .lateStores⟩],none⟩ (.bool false) (by intro wq hSw;clear hSw hHeld;have hv:=HNE.out;go_simp) hHeld ?_
    simp only [Act.put,zz1,zz2,zz3]
    refine wpAnyH_ready (rs:=[4]) (by kernel_rfl) (by simp) ?_
    refine AllReadyH.cons (o:=⟨none,.store 42 (.tmp 2) (.tmp 49),0,"conn.go:61",#[⟨0,.data⟩,⟨0,.phase⟩,⟨1,.textOnly .lateStores⟩,⟨2,.textOnly .lateStores⟩,⟨3,.textOnly .lateStores⟩],none⟩) (by rfl) (fun K hK=>?_) AllReadyH.nil
    refine held_store (by kernel_rfl) 42 _ _ rfl rb (inC 0 (blank 0) 0 0) rfl rfl 42 (inC 0 (blank 0) 0 0) RBr.out in_info rfl (in_one _ _ _ _) ?_
    refine hK.out _ _ (show Hid _ from (setRow_ne NEQ.out).trans IBr.out) (fun hHeld=>?_)
    clear hK K
    try simp only [Act.put,zz1,zz2,zz3]
    refine tkz 5 ⟨some 3,.assign (.tmp 52),4,"conn.go:61",#[⟨3,.data⟩,⟨4,.chain⟩,⟨0,.phase⟩,⟨1,.phase⟩,⟨2,.phase⟩,⟨3,.phase⟩,⟨4,.phase⟩],none⟩ (.bool false) (fun wq _=>pureVal_run (by kernel_rfl) wq) hHeld ?_
    simp only [Act.put,zz1,zz2,zz3]
    refine wpAnyH_done (by kernel_rfl) ?_ _
    clear hHeld
    go_wp2_with fail
    try rw [Exit.noGoto_ret]
    refine bodyPost_ret (results_row_tmp rfl _ _ rb 42 (inC 0 (blank 0) 0 0) (0,0) _ rfl (setRow_at RBr.out) Tryz.underlying42 rfl in_info) rfl ?_
    exact ⟨rfl,HFr.out _⟩
theorem push_over {w:World} {cb:Nat} {fp:Value} {si bd:Int} (h:CnAt w cb 2 fp si bd) (a:Option Addr) (n c:Nat):Calls Tryz.prog 9 #[.pointer (some ⟨cb,0,none⟩),.slice a n c] w fun e w'=>e = .returned (.tuple #[])∧w'=w:=by
 have c0:=h.cells.1
 clear h
 go_enter Tryz.func9,Tryz.ntmps9
 go_wp2_with fail
 go_end0
 exact ⟨rfl,rfl⟩
theorem push_any {w:World} {cb fb:Nat} {most:Int} {B:Nat} {st si bd:Int} {rf:Option Nat} {P:Nat} {z:Nat→Int} {H:Nat} (h:LvS w cb fb most B st si bd rf P z H) (hst:st=0∨st=1) (l:Sl) (zb z':Nat→Int) (hl:By w l zb) (hn:P+H≤400000) (hln:l.n≤400000) (hB:B≤w.heap.size) (h1:∀ i,i<H→z' i=z i) (h2:∀ i,i<l.n→z' (H+i)=zb i) :
    Calls Tryz.prog 9 #[.pointer (some ⟨cb,0,none⟩),.slice l.a l.n l.c] w fun e w'=>e = .returned (.tuple #[])∧∃ rf',LvS w' cb fb most B st si bd rf' P z' (H+l.n)∧Ch (fun k=>k=fb∨rf=some k) w w'∧Nw w.heap.size rf rf':=by
  have c0:=h.cn.cells.1
  have c1:=h.cn.cells.2.1
  have es:(st==2)=false:=by rcases hst with q | q <;> rw [q] <;> rfl
  have es':(st != 2)=true:=by rcases hst with q | q <;> rw [q] <;> rfl
  have PT:=hidi (fs_put h.fs l zb z' hl hn hln hB h1 h2)
  have HL:=hidi h
  obtain ⟨la,ln,lc⟩:=l
  clear h hst hl hn hln hB h1 h2
  go_enter Tryz.func9,Tryz.ntmps9
  go_wp2_with fail
  go_must (go_at_call 25)
  refine PT.out.mono ?_
  rintro e w2 ⟨rfl,rf',h1,h2,h3⟩
  have HF:=hidi (show ∃ rf',LvS w2 cb fb most B st si bd rf' P z' (H+ln)∧Ch (fun k=>k=fb∨rf=some k) w w2∧Nw w.heap.size rf rf' from ⟨rf',⟨HL.out.cn.keep (h2.out.block cb HL.out.cn.lt (by
    rintro (q | q)
    · exact HL.out.ne q
    · obtain ⟨_,cc,h4⟩:=HL.out.fs.blk.2 cb q
      exact blk_ne HL.out.cn h4 (by decide) rfl)),h1.out⟩,h2.out,h3.out⟩)
  clear h1 h2 h3 PT
  go_wp2_with fail
  go_end0
  exact ⟨rfl,HF.out⟩
def ansP (st:Int) (p:Pk):Int×Int×Int:=if st=0 then (if p.kind=1 then (if p.level=4 then (1,0,0) else (2,1,0)) else (3,0,140)) else if p.kind=1 then (3,0,141) else if p.kind=2∨p.kind=9∨p.kind=11∨p.kind=13 then (3,0,142) else (1,0,0)
def inA (a:Int×Int×Int) (q:Pk):Array Value:=inC a.1 (if a.1=1 then q else blank 0) a.2.1 a.2.2
theorem ans_in (st:Int) (q:Pk):(if st=0 then fstV q else latV q)=inA (ansP st q) q:=by
 unfold fstV latV ansP inA
 repeat' split
 all_goals first | rfl | simp_all
theorem Alike.kind {q p:Pk} (h:Alike q p):q.kind=p.kind∧q.level=p.level∧q.keep=p.keep:=by
 obtain ⟨s1,s2,s3,s4,s5,s6,rfl,_⟩:=h
 exact ⟨rfl,rfl,rfl⟩
theorem ans_alike {q p:Pk} (h:Alike q p) (st:Int):ansP st q=ansP st p:=by
 obtain ⟨h1,h2,_⟩:=Alike.kind h
 unfold ansP
 rw [h1,h2]
theorem inC_inj {a b c a' b' c':Int} {q q':Pk} (h:inC a q b c=inC a' q' b' c'):a=a'∧q.kind=q'.kind∧q.keep=q'.keep:=by
 have h0:=congrArg (fun l=>l[0]?) h
 have h1:=congrArg (fun l=>l[1]?) h
 have h4:=congrArg (fun l=>l[4]?) h
 simp [inC] at h0 h1 h4
 exact ⟨h0,h1,h4⟩
def onP (st:Int) (p:Pk):Bool:=decide ((ansP st p).1=1) && decide (p.kind≠14)
def bdP (st bd:Int) (p:Pk):Int:=if p.kind=1 then 3*kpC p.keep / 2 else bd
structure KL (w W:World) (cb fb:Nat) (most st si bd:Int) (rf:Option Nat) (P:Nat) (z:Nat→Int) (H:Nat):Prop where
 lv:LvS W cb fb most w.heap.size st si bd rf P z H
 bel:Below w.heap.size w W
 cbl:w.heap.size≤cb
 fbl:w.heap.size≤fb
 gw:Gw w
 s01:st=0∨st=1
structure KO (w W:World) (cb:Nat):Prop where
 cn:∃ fp si bd,CnAt W cb 2 fp si bd
 bel:Below w.heap.size w W
 cbl:w.heap.size≤cb
theorem bel_ch {w W W':World} {S:Nat→Prop} (h:Below w.heap.size w W) (hc:Ch S W W') (hs:∀ k,S k→w.heap.size≤k):Below w.heap.size w W':=below_ch h hc hs
section
variable {w W:World} {cb fb:Nat} {most st si bd:Int} {rf:Option Nat} {P:Nat} {z:Nat→Int} {H:Nat}
theorem KL.below {W':World} (h:KL w W cb fb most st si bd rf P z H) (hb:Below W.heap.size W W'):KL w W' cb fb most st si bd rf P z H:=⟨⟨later_at h.lv.cn hb,h.lv.fs.below hb⟩,bel_on h.bel hb,h.cbl,h.fbl,h.gw,h.s01⟩
theorem KO.below {W':World} (h:KO w W cb) (hb:Below W.heap.size W W'):KO w W' cb:=by
 obtain ⟨fp,si,bd,hc⟩:=h.cn
 exact ⟨⟨fp,si,bd,later_at hc hb⟩,bel_on h.bel hb,h.cbl⟩
theorem KL.keep {W':World} {S:Nat→Prop} (h:KL w W cb fb most st si bd rf P z H) (hc:Ch S W W') (h1:¬ S cb) (h2:¬ S fb) (h3:∀ k,rf=some k→¬ S k) (hs:∀ k,S k→w.heap.size≤k):KL w W' cb fb most st si bd rf P z H :=
 ⟨⟨h.lv.cn.keep (hc.block cb h.lv.cn.lt h1),h.lv.fs.keep (hc.block fb h.lv.fs.lt.1 h2) (fun k e=>hc.block k (h.lv.fs.lt.2 k e) (h3 k e))⟩,bel_ch h.bel hc hs,h.cbl,h.fbl,h.gw,h.s01⟩
theorem KL.rge {k:Nat} (h:KL w W cb fb most st si bd rf P z H) (e:rf=some k):w.heap.size≤k:=(h.lv.fs.blk.2 k e).1
theorem kl_new (most pat:Int) (z:Nat→Int) {w W:World} (hg:Gw w) (hb:Below w.heap.size w W):Calls Tryz.prog 11 #[.int .i64 most,.int .i64 pat] W fun e w'=>e = .returned (.pointer (some ⟨W.heap.size+1,0,none⟩))∧KL w w' (W.heap.size+1) W.heap.size most 0 0 (max pat 0) none 0 z 0∧Below W.heap.size W w':=by
 refine (cnew_any most pat W).mono ?_
 rintro e w' ⟨rfl,rfl⟩
 have b1:Below W.heap.size W (W.alloc (.cells (frCells most (.slice none 0 0) 0 0 0 0) 83)):=(Below.refl _ _).alloc (Nat.le_refl _) _
 obtain ⟨V,hV⟩:∃ V,V=W.alloc (.cells (frCells most (.slice none 0 0) 0 0 0 0) 83):=⟨_,rfl⟩
 rw [← hV] at b1 ⊢
 have hs:V.heap.size=W.heap.size+1:=by rw [hV];simp
 have b2:Below V.heap.size V (V.alloc (.cells (cnC 0 (.pointer (some ⟨W.heap.size,0,none⟩)) 0 (max pat 0)) 59)):=(Below.refl _ _).alloc (Nat.le_refl _) _
 have hf:FS V W.heap.size most w.heap.size none 0 z 0:=by rw [hV];exact fs_new W most _ z
 have hsz:=hb.size
 refine ⟨rfl,⟨⟨?_,hf.below b2⟩,bel_on hb (bel_on b1 b2),by omega,by omega,hg,.inl rfl⟩,bel_on b1 b2⟩
 unfold CnAt
 rw [← hs]
 exact heap_alloc_new V _
theorem kl_push (h:KL w W cb fb most st si bd rf P z H) (l:Sl) (zb z':Nat→Int) (hl:By W l zb) (hn:P+H≤400000) (hln:l.n≤400000) (h1:∀ i,i<H→z' i=z i) (h2:∀ i,i<l.n→z' (H+i)=zb i) :
    Calls Tryz.prog 9 #[.pointer (some ⟨cb,0,none⟩),.slice l.a l.n l.c] W fun e w'=>e = .returned (.tuple #[])∧∃ rf',KL w w' cb fb most st si bd rf' P z' (H+l.n)∧Ch (fun k=>k=fb∨rf=some k) W w'∧Nw W.heap.size rf rf':=by
  refine (push_any h.lv h.s01 l zb z' hl hn hln h.bel.size h1 h2).mono ?_
  rintro e w' ⟨rfl,rf',a1,a2,a3⟩
  refine ⟨rfl,rf',⟨a1,bel_ch h.bel a2 ?_,h.cbl,h.fbl,h.gw,h.s01⟩,a2,a3⟩
  rintro k (q | q)
  · rw [q];exact h.fbl
  · exact h.rge q
theorem kl_gw (h:KL w W cb fb most st si bd rf P z H):Gw W∧3≤fb:=by
 refine ⟨h.gw.keep (fun k hk=>h.bel.block k (by have:=h.gw.three;omega)),?_⟩
 have:=h.gw.three
 have:=h.fbl
 omega
theorem kl_ch {W':World} (h:KL w W cb fb most st si bd rf P z H) (hc:Ch (fun k=>k=cb∨k=fb) W W'):Below w.heap.size w W':=bel_ch h.bel hc (fun k q=>by
 have:=h.cbl
 have:=h.fbl
 rcases q with q | q <;> omega)
theorem kl_more (h:KL w W cb fb most st si bd rf P z H) (hz:∀ i,0≤z i∧z i≤255) (hn:P+H≤400000) (hR:decP z H most = .more) :
    Calls Tryz.prog 13 #[.pointer (some ⟨cb,0,none⟩)] W fun e w'=>e = .returned (.tuple #[.agg (inC 0 (blank 0) 0 0),.bool false])∧∃ rf',KL w w' cb fb most st si bd rf' P z H∧Ch (fun k=>k=cb∨k=fb) W w'∧Nw W.heap.size rf rf':=by
  refine (cnext_any h.lv h.s01 hz (kl_gw h).1 hn h.bel.size (kl_gw h).2).mono ?_
  rintro e w' ⟨what,q,code,err,rfl,hN,hC⟩
  rw [hR] at hN
  obtain ⟨rfl,rfl,rfl,rfl,h5,rf',h6,h7⟩:=hN
  refine ⟨rfl,rf',⟨⟨h5,h6⟩,kl_ch h hC,h.cbl,h.fbl,h.gw,h.s01⟩,hC,?_⟩
  rcases h7 with y | y | ⟨m,y,y2⟩
  · exact .inl y
  · exact .inr (.inl y)
  · exact .inr (.inr ⟨m,y,by omega⟩)
theorem ans_ne (st:Int) (p:Pk):((ansP st p).1 != 0)=true:=by
 unfold ansP
 repeat' split
 all_goals rfl
theorem ans_one {st:Int} {p:Pk} (hs:st=0∨st=1) (h:(ansP st p).1=1):(st=0∧p.kind=1)∨(st=1∧p.kind≠1):=by
 rcases hs with rfl | rfl
 · refine .inl ⟨rfl,Classical.byContradiction fun hn=>?_⟩
   simp [ansP,hn] at h
 · refine .inr ⟨rfl,fun hn=>?_⟩
   simp [ansP,hn] at h
def PkL (w W w':World) (cb fb:Nat) (most st bd:Int) (rf:Option Nat) (P:Nat) (z:Nat→Int) (H:Nat) (p:Pk) (k:Nat) (q:Pk):Prop :=
 if onP st p=true then ∃ rf',KL w w' cb fb most 1 0 (bdP st bd p) rf' (P+k) (sh z k) (H-k)∧Nw W.heap.size rf rf'∧∀ b,Uses q b→rf'≠some b else KO w w' cb
theorem kl_pkt (h:KL w W cb fb most st si bd rf P z H) (hz:∀ i,0≤z i∧z i≤255) (hn:P+H≤400000) {p:Pk} {c:Cn} {k:Nat} (hR:decP z H most = .ok p c k) :
    Calls Tryz.prog 13 #[.pointer (some ⟨cb,0,none⟩)] W fun e w'=>∃ q,e = .returned (.tuple #[.agg (inA (ansP st p) q),.bool true])∧(Alike q p∧In w' q c∧∀ b,Uses q b→W.heap.size≤b)∧PkL w W w' cb fb most st bd rf P z H p k q∧Ch (fun k=>k=cb∨k=fb) W w':=by
  refine (cnext_any h.lv h.s01 hz (kl_gw h).1 hn h.bel.size (kl_gw h).2).mono ?_
  rintro e w' ⟨what,q',code,err,rfl,hN,hC⟩
  rw [hR] at hN
  obtain ⟨q,h1,h2,h3,h4,h5,rf',h6,h7,h8⟩:=hN
  rw [ans_in,ans_alike h1] at h4
  have hi:=inC_inj (show inC what q' code err=inC (ansP st p).1 (if (ansP st p).1=1 then q else blank 0) (ansP st p).2.1 (ansP st p).2.2 from h4)
  have hk:=Alike.kind h1
  have hw:(what != 0)=true:=by rw [hi.1];exact ans_ne st p
  refine ⟨q,by rw [h4,hw],⟨h1,h2,fun b hb=>by have:=h3 b hb;omega⟩,?_,hC⟩
  have h7':Nw W.heap.size rf rf':=by
    rcases h7 with y | y | ⟨m,y,y2⟩
    · exact .inl y
    · exact .inr (.inl y)
    · exact .inr (.inr ⟨m,y,by omega⟩)
  unfold PkL
  by_cases ho:onP st p=true
  · rw [if_pos ho]
    unfold onP at ho
    simp only [Bool.and_eq_true,decide_eq_true_eq] at ho
    have hq':q'.kind=p.kind∧q'.keep=p.keep:=by
      rw [hi.2.1,hi.2.2,if_pos ho.1]
      exact ⟨hk.1,hk.2.2⟩
    unfold TookIs at h5
    rw [if_pos ⟨hi.1.trans ho.1,by rw [hq'.1];exact ho.2⟩,hq'.1,hq'.2] at h5
    refine ⟨rf',⟨⟨?_,h6⟩,kl_ch h hC,h.cbl,h.fbl,h.gw,.inr rfl⟩,h7',h8⟩
    unfold bdP
    rcases ans_one h.s01 ho.1 with ⟨a1,a2⟩|⟨a1,a2⟩
    · rw [if_pos a2] at h5
      rw [if_pos a2]
      exact h5
    · rw [if_neg a2] at h5
      rw [if_neg a2]
      rw [a1] at h5
      exact h5
  · rw [if_neg ho]
    refine ⟨?_,kl_ch h hC,h.cbl⟩
    unfold TookIs at h5
    by_cases hg:what=1∧q'.kind≠14
    · exfalso
      apply ho
      have a1:(ansP st p).1=1:=hi.1.symm.trans hg.1
      have hq':q'.kind=p.kind:=by rw [hi.2.1,if_pos a1];exact hk.1
      unfold onP
      rw [decide_eq_true a1,decide_eq_true (by rw [← hq'];exact hg.2)]
      rfl
    · rw [if_neg hg] at h5
      exact ⟨_,_,_,h5⟩
theorem kl_tick (h:KL w W cb fb most st si bd rf P z H) (hs:0≤si∧si≤1000000000):Calls Tryz.prog 14 #[.pointer (some ⟨cb,0,none⟩)] W fun e w'=>e = .returned (.bool (lateP bd (si+1)))∧KL w w' cb fb most st (si+1) bd rf P z H∧Ch (fun k=>k=cb∨k=fb) W w':=by
 refine (tick_any h.lv.cn hs).mono ?_
 rintro e w' ⟨rfl,h1,h2⟩
 have hC:Ch (fun k=>k=cb∨k=fb) W w':=h2.mono (fun j _ q=>.inl q)
 refine ⟨rfl,⟨⟨h1,h.lv.fs.keep (h2.block fb h.lv.fs.lt.1 (fun q=>h.lv.ne q.symm)) (fun k e=>h2.block k (h.lv.fs.lt.2 k e) (fun q=>?_))⟩,kl_ch h hC,h.cbl,h.fbl,h.gw,h.s01⟩,hC⟩
 obtain ⟨_,cc,h4⟩:=h.lv.fs.blk.2 k e
 exact blk_ne h.lv.cn h4 (by decide) q.symm
end
end Go.Proofs.YtpldoeeahhaimaaGreatDoor.Co
