import Derived.Test.YtpldoeeahhaimaaGreatDoorDsu
namespace Go.Proofs.YtpldoeeahhaimaaGreatDoor.Dr
open Go Go.RowKit
open Pkt (Pk Cn Sl In By Is Ss As pkCells Small ck TT)
set_option linter.unusedSimpArgs false
set_option linter.unusedVariables false
set_option maxRecDepth 100000
set_option maxHeartbeats 8000000
def DNx (w w':World) (e:Ending) (gb:Nat) (most:Int) (v:Value) (a0:Int) (z:Nat→Int) (H:Nat):DecR→Prop
 | .fault y=>∃ u,e = .returned (.tuple #[.agg (pkCells (blank 0)),.bool false,.agg #[.int .i64 u,.int .i64 y.2]])
 | .more=>e = .returned (.tuple #[.agg (pkCells (blank 0)),.bool false,.agg #[.int .i64 0,.int .i64 0]])∧w'.heap[gb]?=w.heap[gb]?
 | .ok p c k=>∃ q v' t',e = .returned (.tuple #[.agg (pkCells q),.bool true,.agg #[.int .i64 0,.int .i64 0]])∧In w' q c∧Alike q p∧NxAll w.heap.size q∧DfAt w' gb most v' t' a0 0∧w'.ownsRow w.heap.size 5 1 v' (H-k) (cellsOf (Go.Proofs.YtpldoeeahhaimaaGreatDoor.sh z k) (H-k))
theorem set_size (w:World) (a:Addr) (v:Value):(w.setCell a v).heap.size=w.heap.size:=by simp [World.setCell]
theorem ch_rows {w W1 wx:World} {gb:Nat} (hb:Below w.heap.size w W1) (h:Ch (fun k=>k=gb) W1 wx) (g:Nat) (hg:w.heap.size≤g) (cs:Array Value):Ch (fun k=>k=gb) w (wx.setRow g cs):=by
 refine ⟨h.os.trans hb.os,h.tape.trans hb.tape,h.output.trans hb.output,?_,fun k hk hn=>?_⟩
 · rw [setRow_size];exact Nat.le_trans hb.size h.size
 · rw [setRow_ne (by omega)]
   exact (h.block k (Nat.lt_of_lt_of_le hk hb.size) hn).trans (hb.block k hk)
theorem dfnext_any {w:World} {gb:Nat} {most:Int} {v:Value} {t a0:Int} {B H:Nat} {z:Nat→Int} (h:DfAt w gb most v t a0 0) (ho:w.ownsRow B 5 1 v H (cellsOf z H)) (hz:∀ i,0≤z i∧z i≤255) (hn:H≤300000) :
    Calls Tryz.prog 34 #[.pointer (some ⟨gb,0,none⟩)] w fun e w'=>DNx w w' e gb most v a0 z H (decP z H most)∧Ch (fun k=>k=gb) w w':=by
  obtain ⟨R,hR⟩:∃ R,R=decP z H most:=⟨_,rfl⟩
  rw [← hR]
  obtain ⟨a,c,hv⟩:=own_slice ho
  subst hv
  have HF:=hidi h
  have HO:=hidi ho
  have HZ:=hidi hz
  have HN:=hidi hn
  have HR:=hidi hR
  obtain ⟨W1,hW1⟩:∃ W1,W1=(w.alloc (.cells (pkCells (blank 0)) 39)).alloc (.cells #[.int .i64 0,.int .i64 0] 73):=⟨_,rfl⟩
  have b1:Below w.heap.size w W1:=by rw [hW1];exact ((Below.refl _ _).alloc (Nat.le_refl _) _).alloc (by simp) _
  have s1:W1.heap.size=w.heap.size+2:=by rw [hW1];simp
  have x4:W1.heap[w.heap.size]?=some (.cells (pkCells (blank 0)) 39 (0,0)):=by
    rw [hW1]
    exact (((Below.refl _ _).alloc (Nat.le_refl _) _).block w.heap.size (by simp)).trans (heap_alloc_new w _)
  have x5:W1.heap[w.heap.size+1]?=some (.cells #[.int .i64 0,.int .i64 0] 73 (0,0)):=by
    rw [hW1]
    have:=heap_alloc_new (w.alloc (.cells (pkCells (blank 0)) 39)) (.cells #[.int .i64 0,.int .i64 0] 73)
    simpa using this
  have B1:=hidi b1
  have S1:=hidi s1
  have X4:=hidi x4
  have X5:=hidi x5
  have D1:=hidi (h.keep (b1.block gb h.lt))
  have LG:=hidi h.lt
  have O1:=hidi (Co.own_ch (S:=fun _=>False) ho (Below.ch b1) (fun _ _ q=>q))
  have C0:=hidi (show ∀ w',Below W1.heap.size W1 w'→w'.cell? ⟨gb,0,none⟩=some (.int .i64 most) from fun w' hw'=>cell_later hw' (D1.out.cell 0 (.int .i64 most) rfl))
  have C1:=hidi (show ∀ w',Below W1.heap.size W1 w'→w'.cell? ⟨gb,1,none⟩=some (.slice a H c) from fun w' hw'=>cell_later hw' (D1.out.cell 1 (.slice a H c) rfl))
  have CR:=hidi (show ∀ w',Below W1.heap.size W1 w'→Calls Tryz.prog 46 #[.slice a H c,.int .i64 most] w' fun e w2=>∃ v,e = .returned v∧∃ (q:Pk) (N:Int) (x:Int×Int),v = .tuple #[.agg (pkCells q),.int .i64 N,.agg #[.int .i64 x.1,.int .i64 x.2]]∧Hid (Got w'.heap.size w2 q (okD R))∧Hid (DFl q N x R)∧Hid (Below w'.heap.size w' w2) from by
    intro w' hw'
    have co:=came_own O1.out hz
    rw [hR]
    exact (ddecode_any most (came_below (B:=0) co.1 hw') co.2 hn).mono fun e w2 hr=>doc_got hr)
  have c4:=D1.out.cell 4 (.int .i64 0) rfl
  have HW1:=hidi hW1
  clear h ho hz hn hR hW1 b1 s1 x4 x5
  go_enter Tryz.func34,Tryz.ntmps34
  go_upto_region 1 with fail
  rw [show (w.alloc (.cells #[.int .i64 0,.int .i64 0,.bool false,.int .i64 0,.string ⟨#[]⟩,.bool false,.string ⟨#[]⟩,.slice none 0 0,.int .i64 0,.bool false,.bool false,.string ⟨#[]⟩,.bool false,.slice none 0 0,.bool false,.int .i64 0,.bool false,.string ⟨#[]⟩,.slice none 0 0,.int .i64 0,.bool false,.int .i64 0,.slice none 0 0,.slice none 0 0,.slice none 0 0] 39)).alloc (.cells #[.int .i64 0,.int .i64 0] 73)=W1 from HW1.out.symm]
  clear HW1
  go_upto_region 3 with fail
  clear c4
  go_cut [5,6,7] from 20 to 32 (fun s5 s6 s7 wx=>∃ (bP bF:Nat) (q:Pk) (N:Int) (x:Int×Int),s5 = .pointer (some ⟨bP,0,none⟩)∧s6 = .int .i64 N∧s7 = .pointer (some ⟨bF,0,none⟩)∧Hid (DFl q N x R)∧Hid (Two W1 bP bF q x.1 x.2 (okD R) wx))
  case first =>
    refine wp_region_held_drew (S:=fun w'=>Hid (Below W1.heap.size W1 w')) (by kernel_rfl) (show Hid _ from (Below.refl _ _).drew) (fun hHeld=>?_)
    refine tkz 0 ⟨some 21,.move (.tmp 0),60,"crierref4.go:40",#[],none⟩ (.pointer (some ⟨gb,0,none⟩)) (fun wq _=>pureVal_run (by kernel_rfl) wq) hHeld ?_
    simp only [Act.put,zz1,zz2,zz3]
    refine tkz 1 ⟨some 22,.nilCheck (.tmp 21),0,"crierref4.go:40",#[⟨0,.data⟩],none⟩ (.pointer (some ⟨gb,0,none⟩)) (by intro wq hSw;clear hSw hHeld;go_simp) hHeld ?_
    simp only [Act.put,zz1,zz2,zz3]
    refine tkz 2 ⟨some 23,.fieldAddr 85 (.tmp 22) 1,0,"crierref4.go:40",#[⟨1,.data⟩],none⟩ (.pointer (some ⟨gb,1,none⟩)) (by intro wq hSw;clear hSw hHeld;go_simp) hHeld ?_
    simp only [Act.put,zz1,zz2,zz3]
    refine tkz 3 ⟨some 24,.load 32 (.tmp 23),32,"crierref4.go:40",#[⟨2,.data⟩],none⟩ (.slice a H c) (by intro wq hSw;have hk:=C1.out wq (Hid.out hSw);clear hSw hHeld;go_simp) hHeld ?_
    simp only [Act.put,zz1,zz2,zz3]
    refine tkz 4 ⟨some 25,.move (.tmp 0),60,"crierref4.go:40",#[],none⟩ (.pointer (some ⟨gb,0,none⟩)) (fun wq _=>pureVal_run (by kernel_rfl) wq) hHeld ?_
    simp only [Act.put,zz1,zz2,zz3]
    refine tkz 5 ⟨some 26,.nilCheck (.tmp 25),0,"crierref4.go:40",#[⟨4,.data⟩],none⟩ (.pointer (some ⟨gb,0,none⟩)) (by intro wq hSw;clear hSw hHeld;go_simp) hHeld ?_
    simp only [Act.put,zz1,zz2,zz3]
    refine tkz 6 ⟨some 27,.fieldAddr 85 (.tmp 26) 0,0,"crierref4.go:40",#[⟨5,.data⟩],none⟩ (.pointer (some ⟨gb,0,none⟩)) (by intro wq hSw;clear hSw hHeld;go_simp) hHeld ?_
    simp only [Act.put,zz1,zz2,zz3]
    refine tkz 7 ⟨some 28,.load 3 (.tmp 27),3,"crierref4.go:40",#[⟨6,.data⟩],none⟩ (.int .i64 most) (by intro wq hSw;have hk:=C0.out wq (Hid.out hSw);clear hSw hHeld;go_simp) hHeld ?_
    simp only [Act.put,zz1,zz2,zz3]
    refine wpAnyH_ready (rs:=[8,13,14]) (by kernel_rfl) (by simp) ?_
    refine (AllReadyH.cons (o:=⟨some 29,.call ⟨.value (.func 46),#[.tmp 24,.tmp 28],#[32,3]⟩,94,"crierref4.go:40",#[⟨3,.data⟩,⟨7,.data⟩],none⟩) (by rfl) (fun K hK=>?_) (AllReadyH.cons (o:=⟨some 5,.alloc 39,0,"crierref4.go:40",#[],none⟩) (by rfl) (fun K hK=>?_) (AllReadyH.cons (o:=⟨some 7,.alloc 73,0,"crierref4.go:40",#[],none⟩) (by rfl) (fun K hK=>?_) AllReadyH.nil)))
    focus
      refine held_call (by kernel_rfl) 46 #[.slice a H c,.int .i64 most] (by clear hHeld hK;go_simp) (R:=fun v w'=>∃ (q:Pk) (N:Int) (x:Int×Int),v = .tuple #[.agg (pkCells q),.int .i64 N,.agg #[.int .i64 x.1,.int .i64 x.2]]∧Hid (Got _ w' q (okD R))∧Hid (DFl q N x R)∧Hid (Below _ _ w')) (CR.out _ hHeld.out) ?_
      rintro _ va ⟨q,N,x,rfl,hg,FX,hb⟩
      have hS2:=hidi (below_on hHeld.out hb.out)
      have GT:=hidi (hg.out.low hHeld.out.size)
      clear hg hb
      refine hK.out _ _ hS2 (fun hHeld=>?_)
      clear hK K hS2
      (try simp only [Act.put,zz1,zz2,zz3])
      refine tkz 9 ⟨some 20,.move (.tmp 29),94,"crierref4.go:40",#[⟨8,.data⟩],none⟩ (.tuple #[.agg (pkCells q),.int .i64 N,.agg #[.int .i64 x.1,.int .i64 x.2]]) (fun wq _=>pureVal_run (by kernel_rfl) wq) hHeld ?_
      simp only [Act.put,zz1,zz2,zz3]
      refine tkz 10 ⟨some 30,.extract (.tmp 20) 0,39,"crierref4.go:40",#[⟨9,.data⟩],none⟩ (.agg (pkCells q)) (by intro wq hSw;clear hSw hHeld;go_simp) hHeld ?_
      simp only [Act.put,zz1,zz2,zz3]
      refine tkz 11 ⟨some 31,.extract (.tmp 20) 1,3,"crierref4.go:40",#[⟨9,.data⟩,⟨15,.gcOnly .lateStores⟩],none⟩ (.int .i64 N) (by intro wq hSw;clear hSw hHeld;go_simp) hHeld ?_
      simp only [Act.put,zz1,zz2,zz3]
      refine tkz 12 ⟨some 32,.extract (.tmp 20) 2,73,"crierref4.go:40",#[⟨9,.data⟩,⟨16,.gcOnly .lateStores⟩],none⟩ (.agg #[.int .i64 x.1,.int .i64 x.2]) (by intro wq hSw;clear hSw hHeld;go_simp) hHeld ?_
      simp only [Act.put,zz1,zz2,zz3]
      refine wpAnyH_ready (rs:=[13,14]) (by kernel_rfl) (by simp) ?_
      refine (AllReadyH.cons (o:=⟨some 5,.alloc 39,0,"crierref4.go:40",#[],none⟩) (by rfl) (fun K hK=>?_) (AllReadyH.cons (o:=⟨some 7,.alloc 73,0,"crierref4.go:40",#[],none⟩) (by rfl) (fun K hK=>?_) AllReadyH.nil))
      focus
        refine held_alloc zero39 (by kernel_rfl) rfl ?_
        intro bP vaa hlP hsP hrP hbP
        have hS2:=hidi (below_on hHeld.out hbP)
        have LP:=hidi (show W1.heap.size≤bP∧bP<vaa.heap.size from ⟨Nat.le_trans hHeld.out.size hlP,hsP⟩)
        have RP:=hidi hrP
        have AP:=hidi (GT.out.new hlP)
        have GT:=hidi (GT.out.below hbP)
        clear hlP hsP hrP hbP
        refine hK.out _ _ hS2 (fun hHeld=>?_)
        clear hK K hS2
        (try simp only [Act.put,zz1,zz2,zz3])
        refine wpAnyH_ready (rs:=[14]) (by kernel_rfl) (by simp) ?_
        refine (AllReadyH.cons (o:=⟨some 7,.alloc 73,0,"crierref4.go:40",#[],none⟩) (by rfl) (fun K hK=>?_) AllReadyH.nil)
        focus
          refine held_alloc zero73 (by kernel_rfl) rfl ?_
          intro bF vaaa hlF hsF hrF hbF
          have hS2:=hidi (below_on hHeld.out hbF)
          have LF:=hidi (show W1.heap.size≤bF∧bF<vaaa.heap.size from ⟨Nat.le_trans hHeld.out.size hlF,hsF⟩)
          have RF:=hidi hrF
          have AF:=hidi (GT.out.new hlF)
          have GT:=hidi (GT.out.below hbF)
          have RP:=hidi ((hbF.block _ LP.out.2).trans RP.out)
          have LP:=hidi (show W1.heap.size≤bP∧bP<vaaa.heap.size from ⟨LP.out.1,Nat.lt_of_lt_of_le LP.out.2 hbF.size⟩)
          clear hlF hsF hrF hbF
          refine hK.out _ _ hS2 (fun hHeld=>?_)
          clear hK K hS2
          (try simp only [Act.put,zz1,zz2,zz3])
        rotate_left 1
      rotate_left 1
      focus
        refine held_alloc zero73 (by kernel_rfl) rfl ?_
        intro bF vab hlF hsF hrF hbF
        have hS2:=hidi (below_on hHeld.out hbF)
        have LF:=hidi (show W1.heap.size≤bF∧bF<vab.heap.size from ⟨Nat.le_trans hHeld.out.size hlF,hsF⟩)
        have RF:=hidi hrF
        have AF:=hidi (GT.out.new hlF)
        have GT:=hidi (GT.out.below hbF)
        clear hlF hsF hrF hbF
        refine hK.out _ _ hS2 (fun hHeld=>?_)
        clear hK K hS2
        (try simp only [Act.put,zz1,zz2,zz3])
        refine wpAnyH_ready (rs:=[13]) (by kernel_rfl) (by simp) ?_
        refine (AllReadyH.cons (o:=⟨some 5,.alloc 39,0,"crierref4.go:40",#[],none⟩) (by rfl) (fun K hK=>?_) AllReadyH.nil)
        focus
          refine held_alloc zero39 (by kernel_rfl) rfl ?_
          intro bP vaba hlP hsP hrP hbP
          have hS2:=hidi (below_on hHeld.out hbP)
          have LP:=hidi (show W1.heap.size≤bP∧bP<vaba.heap.size from ⟨Nat.le_trans hHeld.out.size hlP,hsP⟩)
          have RP:=hidi hrP
          have AP:=hidi (GT.out.new hlP)
          have GT:=hidi (GT.out.below hbP)
          have RF:=hidi ((hbP.block _ LF.out.2).trans RF.out)
          have LF:=hidi (show W1.heap.size≤bF∧bF<vaba.heap.size from ⟨LF.out.1,Nat.lt_of_lt_of_le LF.out.2 hbP.size⟩)
          clear hlP hsP hrP hbP
          refine hK.out _ _ hS2 (fun hHeld=>?_)
          clear hK K hS2
          (try simp only [Act.put,zz1,zz2,zz3])
        rotate_left 1
      rotate_left 1
    rotate_left 2
    focus
      refine held_alloc zero39 (by kernel_rfl) rfl ?_
      intro bP vb hlP hsP hrP hbP
      have hS2:=hidi (below_on hHeld.out hbP)
      have LP:=hidi (show W1.heap.size≤bP∧bP<vb.heap.size from ⟨Nat.le_trans hHeld.out.size hlP,hsP⟩)
      have RP:=hidi hrP
      clear hlP hsP hrP hbP
      refine hK.out _ _ hS2 (fun hHeld=>?_)
      clear hK K hS2
      (try simp only [Act.put,zz1,zz2,zz3])
      refine wpAnyH_ready (rs:=[8,14]) (by kernel_rfl) (by simp) ?_
      refine (AllReadyH.cons (o:=⟨some 29,.call ⟨.value (.func 46),#[.tmp 24,.tmp 28],#[32,3]⟩,94,"crierref4.go:40",#[⟨3,.data⟩,⟨7,.data⟩],none⟩) (by rfl) (fun K hK=>?_) (AllReadyH.cons (o:=⟨some 7,.alloc 73,0,"crierref4.go:40",#[],none⟩) (by rfl) (fun K hK=>?_) AllReadyH.nil))
      focus
        refine held_call (by kernel_rfl) 46 #[.slice a H c,.int .i64 most] (by clear hHeld hK;go_simp) (R:=fun v w'=>∃ (q:Pk) (N:Int) (x:Int×Int),v = .tuple #[.agg (pkCells q),.int .i64 N,.agg #[.int .i64 x.1,.int .i64 x.2]]∧Hid (Got _ w' q (okD R))∧Hid (DFl q N x R)∧Hid (Below _ _ w')) (CR.out _ hHeld.out) ?_
        rintro _ vba ⟨q,N,x,rfl,hg,FX,hb⟩
        have hS2:=hidi (below_on hHeld.out hb.out)
        have AP:=hidi (hg.out.old LP.out.2)
        have RP:=hidi ((hb.out.block _ LP.out.2).trans RP.out)
        have LP:=hidi (show W1.heap.size≤bP∧bP<vba.heap.size from ⟨LP.out.1,Nat.lt_of_lt_of_le LP.out.2 hb.out.size⟩)
        have GT:=hidi (hg.out.low hHeld.out.size)
        clear hg hb
        refine hK.out _ _ hS2 (fun hHeld=>?_)
        clear hK K hS2
        (try simp only [Act.put,zz1,zz2,zz3])
        refine tkz 9 ⟨some 20,.move (.tmp 29),94,"crierref4.go:40",#[⟨8,.data⟩],none⟩ (.tuple #[.agg (pkCells q),.int .i64 N,.agg #[.int .i64 x.1,.int .i64 x.2]]) (fun wq _=>pureVal_run (by kernel_rfl) wq) hHeld ?_
        simp only [Act.put,zz1,zz2,zz3]
        refine tkz 10 ⟨some 30,.extract (.tmp 20) 0,39,"crierref4.go:40",#[⟨9,.data⟩],none⟩ (.agg (pkCells q)) (by intro wq hSw;clear hSw hHeld;go_simp) hHeld ?_
        simp only [Act.put,zz1,zz2,zz3]
        refine tkz 11 ⟨some 31,.extract (.tmp 20) 1,3,"crierref4.go:40",#[⟨9,.data⟩,⟨15,.gcOnly .lateStores⟩],none⟩ (.int .i64 N) (by intro wq hSw;clear hSw hHeld;go_simp) hHeld ?_
        simp only [Act.put,zz1,zz2,zz3]
        refine tkz 12 ⟨some 32,.extract (.tmp 20) 2,73,"crierref4.go:40",#[⟨9,.data⟩,⟨16,.gcOnly .lateStores⟩],none⟩ (.agg #[.int .i64 x.1,.int .i64 x.2]) (by intro wq hSw;clear hSw hHeld;go_simp) hHeld ?_
        simp only [Act.put,zz1,zz2,zz3]
        refine wpAnyH_ready (rs:=[14]) (by kernel_rfl) (by simp) ?_
        refine (AllReadyH.cons (o:=⟨some 7,.alloc 73,0,"crierref4.go:40",#[],none⟩) (by rfl) (fun K hK=>?_) AllReadyH.nil)
        focus
          refine held_alloc zero73 (by kernel_rfl) rfl ?_
          intro bF vbaa hlF hsF hrF hbF
          have hS2:=hidi (below_on hHeld.out hbF)
          have LF:=hidi (show W1.heap.size≤bF∧bF<vbaa.heap.size from ⟨Nat.le_trans hHeld.out.size hlF,hsF⟩)
          have RF:=hidi hrF
          have RP:=hidi ((hbF.block _ LP.out.2).trans RP.out)
          have LP:=hidi (show W1.heap.size≤bP∧bP<vbaa.heap.size from ⟨LP.out.1,Nat.lt_of_lt_of_le LP.out.2 hbF.size⟩)
          have AF:=hidi (GT.out.new hlF)
          have GT:=hidi (GT.out.below hbF)
          clear hlF hsF hrF hbF
          refine hK.out _ _ hS2 (fun hHeld=>?_)
          clear hK K hS2
          (try simp only [Act.put,zz1,zz2,zz3])
        rotate_left 1
      rotate_left 1
      focus
        refine held_alloc zero73 (by kernel_rfl) rfl ?_
        intro bF vbb hlF hsF hrF hbF
        have hS2:=hidi (below_on hHeld.out hbF)
        have LF:=hidi (show W1.heap.size≤bF∧bF<vbb.heap.size from ⟨Nat.le_trans hHeld.out.size hlF,hsF⟩)
        have RF:=hidi hrF
        have RP:=hidi ((hbF.block _ LP.out.2).trans RP.out)
        have LP:=hidi (show W1.heap.size≤bP∧bP<vbb.heap.size from ⟨LP.out.1,Nat.lt_of_lt_of_le LP.out.2 hbF.size⟩)
        clear hlF hsF hrF hbF
        refine hK.out _ _ hS2 (fun hHeld=>?_)
        clear hK K hS2
        (try simp only [Act.put,zz1,zz2,zz3])
        refine wpAnyH_ready (rs:=[8]) (by kernel_rfl) (by simp) ?_
        refine (AllReadyH.cons (o:=⟨some 29,.call ⟨.value (.func 46),#[.tmp 24,.tmp 28],#[32,3]⟩,94,"crierref4.go:40",#[⟨3,.data⟩,⟨7,.data⟩],none⟩) (by rfl) (fun K hK=>?_) AllReadyH.nil)
        focus
          refine held_call (by kernel_rfl) 46 #[.slice a H c,.int .i64 most] (by clear hHeld hK;go_simp) (R:=fun v w'=>∃ (q:Pk) (N:Int) (x:Int×Int),v = .tuple #[.agg (pkCells q),.int .i64 N,.agg #[.int .i64 x.1,.int .i64 x.2]]∧Hid (Got _ w' q (okD R))∧Hid (DFl q N x R)∧Hid (Below _ _ w')) (CR.out _ hHeld.out) ?_
          rintro _ vbba ⟨q,N,x,rfl,hg,FX,hb⟩
          have hS2:=hidi (below_on hHeld.out hb.out)
          have AP:=hidi (hg.out.old LP.out.2)
          have RP:=hidi ((hb.out.block _ LP.out.2).trans RP.out)
          have LP:=hidi (show W1.heap.size≤bP∧bP<vbba.heap.size from ⟨LP.out.1,Nat.lt_of_lt_of_le LP.out.2 hb.out.size⟩)
          have AF:=hidi (hg.out.old LF.out.2)
          have RF:=hidi ((hb.out.block _ LF.out.2).trans RF.out)
          have LF:=hidi (show W1.heap.size≤bF∧bF<vbba.heap.size from ⟨LF.out.1,Nat.lt_of_lt_of_le LF.out.2 hb.out.size⟩)
          have GT:=hidi (hg.out.low hHeld.out.size)
          clear hg hb
          refine hK.out _ _ hS2 (fun hHeld=>?_)
          clear hK K hS2
          (try simp only [Act.put,zz1,zz2,zz3])
          refine tkz 9 ⟨some 20,.move (.tmp 29),94,"crierref4.go:40",#[⟨8,.data⟩],none⟩ (.tuple #[.agg (pkCells q),.int .i64 N,.agg #[.int .i64 x.1,.int .i64 x.2]]) (fun wq _=>pureVal_run (by kernel_rfl) wq) hHeld ?_
          simp only [Act.put,zz1,zz2,zz3]
          refine tkz 10 ⟨some 30,.extract (.tmp 20) 0,39,"crierref4.go:40",#[⟨9,.data⟩],none⟩ (.agg (pkCells q)) (by intro wq hSw;clear hSw hHeld;go_simp) hHeld ?_
          simp only [Act.put,zz1,zz2,zz3]
          refine tkz 11 ⟨some 31,.extract (.tmp 20) 1,3,"crierref4.go:40",#[⟨9,.data⟩,⟨15,.gcOnly .lateStores⟩],none⟩ (.int .i64 N) (by intro wq hSw;clear hSw hHeld;go_simp) hHeld ?_
          simp only [Act.put,zz1,zz2,zz3]
          refine tkz 12 ⟨some 32,.extract (.tmp 20) 2,73,"crierref4.go:40",#[⟨9,.data⟩,⟨16,.gcOnly .lateStores⟩],none⟩ (.agg #[.int .i64 x.1,.int .i64 x.2]) (by intro wq hSw;clear hSw hHeld;go_simp) hHeld ?_
          simp only [Act.put,zz1,zz2,zz3]
        rotate_left 1
      rotate_left 1
    rotate_left 2
    focus
      refine held_alloc zero73 (by kernel_rfl) rfl ?_
      intro bF vc hlF hsF hrF hbF
      have hS2:=hidi (below_on hHeld.out hbF)
      have LF:=hidi (show W1.heap.size≤bF∧bF<vc.heap.size from ⟨Nat.le_trans hHeld.out.size hlF,hsF⟩)
      have RF:=hidi hrF
      clear hlF hsF hrF hbF
      refine hK.out _ _ hS2 (fun hHeld=>?_)
      clear hK K hS2
      (try simp only [Act.put,zz1,zz2,zz3])
      refine wpAnyH_ready (rs:=[8,13]) (by kernel_rfl) (by simp) ?_
      refine (AllReadyH.cons (o:=⟨some 29,.call ⟨.value (.func 46),#[.tmp 24,.tmp 28],#[32,3]⟩,94,"crierref4.go:40",#[⟨3,.data⟩,⟨7,.data⟩],none⟩) (by rfl) (fun K hK=>?_) (AllReadyH.cons (o:=⟨some 5,.alloc 39,0,"crierref4.go:40",#[],none⟩) (by rfl) (fun K hK=>?_) AllReadyH.nil))
      focus
        refine held_call (by kernel_rfl) 46 #[.slice a H c,.int .i64 most] (by clear hHeld hK;go_simp) (R:=fun v w'=>∃ (q:Pk) (N:Int) (x:Int×Int),v = .tuple #[.agg (pkCells q),.int .i64 N,.agg #[.int .i64 x.1,.int .i64 x.2]]∧Hid (Got _ w' q (okD R))∧Hid (DFl q N x R)∧Hid (Below _ _ w')) (CR.out _ hHeld.out) ?_
        rintro _ vca ⟨q,N,x,rfl,hg,FX,hb⟩
        have hS2:=hidi (below_on hHeld.out hb.out)
        have AF:=hidi (hg.out.old LF.out.2)
        have RF:=hidi ((hb.out.block _ LF.out.2).trans RF.out)
        have LF:=hidi (show W1.heap.size≤bF∧bF<vca.heap.size from ⟨LF.out.1,Nat.lt_of_lt_of_le LF.out.2 hb.out.size⟩)
        have GT:=hidi (hg.out.low hHeld.out.size)
        clear hg hb
        refine hK.out _ _ hS2 (fun hHeld=>?_)
        clear hK K hS2
        (try simp only [Act.put,zz1,zz2,zz3])
        refine tkz 9 ⟨some 20,.move (.tmp 29),94,"crierref4.go:40",#[⟨8,.data⟩],none⟩ (.tuple #[.agg (pkCells q),.int .i64 N,.agg #[.int .i64 x.1,.int .i64 x.2]]) (fun wq _=>pureVal_run (by kernel_rfl) wq) hHeld ?_
        simp only [Act.put,zz1,zz2,zz3]
        refine tkz 10 ⟨some 30,.extract (.tmp 20) 0,39,"crierref4.go:40",#[⟨9,.data⟩],none⟩ (.agg (pkCells q)) (by intro wq hSw;clear hSw hHeld;go_simp) hHeld ?_
        simp only [Act.put,zz1,zz2,zz3]
        refine tkz 11 ⟨some 31,.extract (.tmp 20) 1,3,"crierref4.go:40",#[⟨9,.data⟩,⟨15,.gcOnly .lateStores⟩],none⟩ (.int .i64 N) (by intro wq hSw;clear hSw hHeld;go_simp) hHeld ?_
        simp only [Act.put,zz1,zz2,zz3]
        refine tkz 12 ⟨some 32,.extract (.tmp 20) 2,73,"crierref4.go:40",#[⟨9,.data⟩,⟨16,.gcOnly .lateStores⟩],none⟩ (.agg #[.int .i64 x.1,.int .i64 x.2]) (by intro wq hSw;clear hSw hHeld;go_simp) hHeld ?_
        simp only [Act.put,zz1,zz2,zz3]
        refine wpAnyH_ready (rs:=[13]) (by kernel_rfl) (by simp) ?_
        refine (AllReadyH.cons (o:=⟨some 5,.alloc 39,0,"crierref4.go:40",#[],none⟩) (by rfl) (fun K hK=>?_) AllReadyH.nil)
        focus
          refine held_alloc zero39 (by kernel_rfl) rfl ?_
          intro bP vcaa hlP hsP hrP hbP
          have hS2:=hidi (below_on hHeld.out hbP)
          have LP:=hidi (show W1.heap.size≤bP∧bP<vcaa.heap.size from ⟨Nat.le_trans hHeld.out.size hlP,hsP⟩)
          have RP:=hidi hrP
          have RF:=hidi ((hbP.block _ LF.out.2).trans RF.out)
          have LF:=hidi (show W1.heap.size≤bF∧bF<vcaa.heap.size from ⟨LF.out.1,Nat.lt_of_lt_of_le LF.out.2 hbP.size⟩)
          have AP:=hidi (GT.out.new hlP)
          have GT:=hidi (GT.out.below hbP)
          clear hlP hsP hrP hbP
          refine hK.out _ _ hS2 (fun hHeld=>?_)
          clear hK K hS2
          (try simp only [Act.put,zz1,zz2,zz3])
        rotate_left 1
      rotate_left 1
      focus
        refine held_alloc zero39 (by kernel_rfl) rfl ?_
        intro bP vcb hlP hsP hrP hbP
        have hS2:=hidi (below_on hHeld.out hbP)
        have LP:=hidi (show W1.heap.size≤bP∧bP<vcb.heap.size from ⟨Nat.le_trans hHeld.out.size hlP,hsP⟩)
        have RP:=hidi hrP
        have RF:=hidi ((hbP.block _ LF.out.2).trans RF.out)
        have LF:=hidi (show W1.heap.size≤bF∧bF<vcb.heap.size from ⟨LF.out.1,Nat.lt_of_lt_of_le LF.out.2 hbP.size⟩)
        clear hlP hsP hrP hbP
        refine hK.out _ _ hS2 (fun hHeld=>?_)
        clear hK K hS2
        (try simp only [Act.put,zz1,zz2,zz3])
        refine wpAnyH_ready (rs:=[8]) (by kernel_rfl) (by simp) ?_
        refine (AllReadyH.cons (o:=⟨some 29,.call ⟨.value (.func 46),#[.tmp 24,.tmp 28],#[32,3]⟩,94,"crierref4.go:40",#[⟨3,.data⟩,⟨7,.data⟩],none⟩) (by rfl) (fun K hK=>?_) AllReadyH.nil)
        focus
          refine held_call (by kernel_rfl) 46 #[.slice a H c,.int .i64 most] (by clear hHeld hK;go_simp) (R:=fun v w'=>∃ (q:Pk) (N:Int) (x:Int×Int),v = .tuple #[.agg (pkCells q),.int .i64 N,.agg #[.int .i64 x.1,.int .i64 x.2]]∧Hid (Got _ w' q (okD R))∧Hid (DFl q N x R)∧Hid (Below _ _ w')) (CR.out _ hHeld.out) ?_
          rintro _ vcba ⟨q,N,x,rfl,hg,FX,hb⟩
          have hS2:=hidi (below_on hHeld.out hb.out)
          have AF:=hidi (hg.out.old LF.out.2)
          have RF:=hidi ((hb.out.block _ LF.out.2).trans RF.out)
          have LF:=hidi (show W1.heap.size≤bF∧bF<vcba.heap.size from ⟨LF.out.1,Nat.lt_of_lt_of_le LF.out.2 hb.out.size⟩)
          have AP:=hidi (hg.out.old LP.out.2)
          have RP:=hidi ((hb.out.block _ LP.out.2).trans RP.out)
          have LP:=hidi (show W1.heap.size≤bP∧bP<vcba.heap.size from ⟨LP.out.1,Nat.lt_of_lt_of_le LP.out.2 hb.out.size⟩)
          have GT:=hidi (hg.out.low hHeld.out.size)
          clear hg hb
          refine hK.out _ _ hS2 (fun hHeld=>?_)
          clear hK K hS2
          (try simp only [Act.put,zz1,zz2,zz3])
          refine tkz 9 ⟨some 20,.move (.tmp 29),94,"crierref4.go:40",#[⟨8,.data⟩],none⟩ (.tuple #[.agg (pkCells q),.int .i64 N,.agg #[.int .i64 x.1,.int .i64 x.2]]) (fun wq _=>pureVal_run (by kernel_rfl) wq) hHeld ?_
          simp only [Act.put,zz1,zz2,zz3]
          refine tkz 10 ⟨some 30,.extract (.tmp 20) 0,39,"crierref4.go:40",#[⟨9,.data⟩],none⟩ (.agg (pkCells q)) (by intro wq hSw;clear hSw hHeld;go_simp) hHeld ?_
          simp only [Act.put,zz1,zz2,zz3]
          refine tkz 11 ⟨some 31,.extract (.tmp 20) 1,3,"crierref4.go:40",#[⟨9,.data⟩,⟨15,.gcOnly .lateStores⟩],none⟩ (.int .i64 N) (by intro wq hSw;clear hSw hHeld;go_simp) hHeld ?_
          simp only [Act.put,zz1,zz2,zz3]
          refine tkz 12 ⟨some 32,.extract (.tmp 20) 2,73,"crierref4.go:40",#[⟨9,.data⟩,⟨16,.gcOnly .lateStores⟩],none⟩ (.agg #[.int .i64 x.1,.int .i64 x.2]) (by intro wq hSw;clear hSw hHeld;go_simp) hHeld ?_
          simp only [Act.put,zz1,zz2,zz3]
        rotate_left 1
      rotate_left 1
    rotate_left 2
    all_goals
      have TW:=hidi (Two.made (x:=x.1) (y:=x.2) RP.out RF.out LP.out.1 LF.out.1 GT.out AP.out AF.out hHeld.out)
      refine wpAnyH_ready (rs:=[15]) (by kernel_rfl) (by simp) ?_
      refine AllReadyH.cons (o:=⟨none,.store 39 (.tmp 5) (.tmp 30),0,"crierref4.go:40",#[⟨13,.data⟩,⟨10,.data⟩,⟨8,.chain⟩,⟨0,.phase⟩,⟨1,.phase⟩,⟨2,.phase⟩,⟨3,.phase⟩,⟨4,.phase⟩,⟨5,.phase⟩,⟨6,.phase⟩,⟨7,.phase⟩,⟨8,.phase⟩,⟨9,.phase⟩,⟨10,.phase⟩,⟨11,.textOnly .lateStores⟩,⟨12,.textOnly .lateStores⟩,⟨13,.phase⟩,⟨14,.phase⟩],none⟩) (by rfl) (fun K hK=>?_) AllReadyH.nil
      refine held_store (by kernel_rfl) 39 (.tmp 5) (.tmp 30) rfl bP (pkCells q) rfl rfl 39 (pkCells (blank 0)) RP.out pk_info rfl (pk_one _) ?_
      have h3:=hidi (bel_row (cs:=pkCells q) hHeld.out LP.out.1)
      refine hK.out _ _ h3 (fun hHeld=>?_)
      clear hK K h3
      (try simp only [Act.put,zz1,zz2,zz3])
      refine tkz 16 ⟨some 6,.assign (.tmp 31),3,"crierref4.go:40",#[⟨11,.data⟩,⟨15,.chain⟩,⟨0,.phase⟩,⟨1,.phase⟩,⟨2,.phase⟩,⟨3,.phase⟩,⟨4,.phase⟩,⟨5,.phase⟩,⟨6,.phase⟩,⟨7,.phase⟩,⟨8,.phase⟩,⟨9,.phase⟩,⟨10,.phase⟩,⟨11,.phase⟩,⟨12,.textOnly .lateStores⟩,⟨13,.phase⟩,⟨14,.phase⟩,⟨15,.phase⟩],none⟩ (.int .i64 N) (fun wq _=>pureVal_run (by kernel_rfl) wq) hHeld ?_
      simp only [Act.put,zz1,zz2,zz3]
      refine wpAnyH_ready (rs:=[17]) (by kernel_rfl) (by simp) ?_
      refine AllReadyH.cons (o:=⟨none,.store 73 (.tmp 7) (.tmp 32),0,"crierref4.go:40",#[⟨14,.data⟩,⟨12,.data⟩,⟨16,.chain⟩,⟨0,.phase⟩,⟨1,.phase⟩,⟨2,.phase⟩,⟨3,.phase⟩,⟨4,.phase⟩,⟨5,.phase⟩,⟨6,.phase⟩,⟨7,.phase⟩,⟨8,.phase⟩,⟨9,.phase⟩,⟨10,.phase⟩,⟨11,.phase⟩,⟨12,.phase⟩,⟨13,.phase⟩,⟨14,.phase⟩,⟨15,.phase⟩,⟨16,.phase⟩],none⟩) (by rfl) (fun K hK=>?_) AllReadyH.nil
      refine held_store (by kernel_rfl) 73 (.tmp 7) (.tmp 32) rfl bF #[.int .i64 x.1,.int .i64 x.2] rfl rfl 73 #[.int .i64 0,.int .i64 0] ((setRow_ne (Ne.symm (rows_ne RP.out RF.out))).trans RF.out) f_info rfl (two_one _ _) ?_
      have h3:=hidi (bel_row (cs:=#[.int .i64 x.1,.int .i64 x.2]) hHeld.out LF.out.1)
      refine hK.out _ _ h3 (fun hHeld=>?_)
      clear hK K h3 hHeld
      (try simp only [Act.put,zz1,zz2,zz3])
      refine wpAnyH_done (by kernel_rfl) ?_ _
      go_wp2_with fail
      go_meet
      case rel=>exact ⟨bP,bF,q,N,x,rfl,rfl,rfl,FX,TW⟩
  case rest =>
    obtain ⟨bP,bF,q,N,x,rfl,rfl,rfl,FX,TW⟩:=hcut
    obtain ⟨wa,hwa⟩:∃ wa,wa=wc:=⟨_,rfl⟩
    subst hwa
    have bel:=TW.out.bel
    have N4:=hidi ((bel.block _ (by have:=S1.out;omega)).trans X4.out)
    have N5:=hidi ((bel.block _ (by have:=S1.out;omega)).trans X5.out)
    have D3:=hidi (D1.out.keep (bel.block _ (by have:=S1.out;have:=LG.out;omega)))
    have O3:=hidi (Co.own_ch (S:=fun _=>False) O1.out (Below.ch bel) (fun _ _ q=>q))
    have LF:=hidi TW.out.lb
    have k1:=dcell TW.out.ft 1 (.int .i64 x.2) rfl
    have BL:=hidi bel
    clear bel CR C0 C1
    cases R with
    | more =>
      obtain ⟨rfl,rfl,hx⟩:=FX.out
      rw [hx] at k1
      clear FX hx
      have hcb:Ch (fun k=>k=gb) W1 wa:=Below.ch BL.out
      go_wp2_with (first | (refine wpList_build_to rfl 39 _ rfl (pkCells (blank 0)) built_zero ?_)|(refine wpList_store_row rfl 39 (.tmp 2) (.tmp 59) rfl w.heap.size (pkCells (blank 0)) rfl rfl 39 (pkCells (blank 0)) N4.out pk_info rfl (pk_one _) ?_)|(refine wpList_store_row rfl 73 (.tmp 4) (.tmp 60) rfl (w.heap.size+1) #[.int .i64 0,.int .i64 0] rfl rfl 73 #[.int .i64 0,.int .i64 0] ((setRow_ne (by omega)).trans N5.out) f_info rfl (two_one _ _) ?_))
      have RR:=rd_rows (cs:=pkCells (blank 0)) (ds:=#[.int .i64 0,.int .i64 0]) N4.out N5.out
      refine bodyPost_ret (results_rtr rfl _ _ w.heap.size (w.heap.size+1) 39 73 (pkCells (blank 0)) #[.int .i64 0,.int .i64 0] (0,0) (0,0) _ _ rfl RR.1 Tryz.underlying39 rfl pk_info (.bool false) rfl rfl RR.2 Tryz.underlying73 rfl f_info) rfl ?_
      have hb2:=bel_row (cs:=#[.int .i64 0,.int .i64 0]) (g:=w.heap.size+1) (bel_row (cs:=pkCells (blank 0)) (g:=w.heap.size) (B1.out.trans (BL.out.mono B1.out.size)) (Nat.le_refl _)) (by omega)
      exact ⟨⟨rfl,hb2.block gb LG.out⟩,Below.ch hb2⟩
    | fault y =>
      obtain ⟨hx2,hy⟩:=FX.out
      have hx:x.2≠0:=by rw [hx2];exact hy
      have xe:(x.2 != 0)=true:=by simpa using hx
      have HX:=hidi hx2
      have k0:=dcell TW.out.ft 0 (.int .i64 x.1) rfl
      have c2:=D3.out.cell 2 (.int .i64 t) rfl
      have c3:=D3.out.cell 3 (.int .i64 a0) rfl
      have c4:=D3.out.cell 4 (.int .i64 0) rfl
      have z3:=D3.out.frozen 3
      have z4:=D3.out.frozen 4
      obtain ⟨u,hu⟩:∃ u,IntKind.i64.wrap (t+x.1)=u:=⟨_,rfl⟩
      have hu2:wrap64 (t+x.1)=u:=by rw [← hu,IntKind.wrap_i64];unfold wrap64;omega
      have D5:=hidi (show DfAt ((wa.drew.setCell ⟨gb,3,none⟩ (.int .i64 u)).setCell ⟨gb,4,none⟩ (.int .i64 x.2)) gb most (.slice a H c) t u x.2 from heap_set (i:=4) (heap_set (w:=wa.drew) (i:=3) D3.out (.int .i64 u)) (.int .i64 x.2))
      have KEEP2:=hidi (D5.out.cell 2 (.int .i64 t) rfl)
      have nbf:bF≠gb:=by have:=LF.out;have:=S1.out;have:=LG.out;omega
      have FT5:=hidi (show ((wa.drew.setCell ⟨gb,3,none⟩ (.int .i64 u)).setCell ⟨gb,4,none⟩ (.int .i64 x.2)).heap[bF]?=some (.cells #[.int .i64 x.1,.int .i64 x.2] 73 (0,0)) from (Below.heap_setCell _ _ _ _ nbf).trans ((Below.heap_setCell _ _ _ _ nbf).trans TW.out.ft))
      have KEEP0:=hidi (dcell FT5.out 0 (.int .i64 x.1) rfl)
      have KEEP1:=hidi (dcell FT5.out 1 (.int .i64 x.2) rfl)
      have CH5:=hidi (show Ch (fun k=>k=gb) W1 ((wa.drew.setCell ⟨gb,3,none⟩ (.int .i64 u)).setCell ⟨gb,4,none⟩ (.int .i64 x.2)) from ⟨BL.out.os,BL.out.tape,BL.out.output,by rw [set_size,set_size];exact BL.out.size,fun k hk hkn=>(Below.heap_setCell _ _ _ _ hkn).trans ((Below.heap_setCell _ _ _ _ hkn).trans (BL.out.block k hk))⟩)
      clear hx2 hy hx FX nbf
      go_upto_region 5 with fail
      go_cut [] from 36 to 48 (fun wx=>Hid (DfAt wx gb most (.slice a H c) t u x.2)∧Hid (Ch (fun k=>k=gb) W1 wx))
      case first =>
        refine wp_region_held_drew (S:=fun w'=>w'.cell? ⟨gb,2,none⟩=some (.int .i64 t)∧w'.cell? ⟨bF,0,none⟩=some (.int .i64 x.1)∧w'.cell? ⟨bF,1,none⟩=some (.int .i64 x.2)) (by kernel_rfl) ⟨c2,k0,k1⟩ (fun hHeld=>?_)
        refine tkz 0 ⟨some 36,.move (.tmp 0),60,"crierref4.go:42",#[],none⟩ (.pointer (some ⟨gb,0,none⟩)) (fun wq _=>pureVal_run (by kernel_rfl) wq) hHeld ?_
        simp only [Act.put,zz1,zz2,zz3]
        refine tkz 1 ⟨some 37,.move (.tmp 0),60,"crierref4.go:42",#[],none⟩ (.pointer (some ⟨gb,0,none⟩)) (fun wq _=>pureVal_run (by kernel_rfl) wq) hHeld ?_
        simp only [Act.put,zz1,zz2,zz3]
        refine tkz 2 ⟨some 38,.nilCheck (.tmp 37),0,"crierref4.go:42",#[⟨1,.data⟩],none⟩ (.pointer (some ⟨gb,0,none⟩)) (by intro wq hSw;clear hSw hHeld;go_simp) hHeld ?_
        simp only [Act.put,zz1,zz2,zz3]
        refine tkz 3 ⟨some 39,.fieldAddr 85 (.tmp 38) 2,0,"crierref4.go:42",#[⟨2,.data⟩],none⟩ (.pointer (some ⟨gb,2,none⟩)) (by intro wq hSw;clear hSw hHeld;go_simp) hHeld ?_
        simp only [Act.put,zz1,zz2,zz3]
        refine tkz 4 ⟨some 40,.load 3 (.tmp 39),3,"crierref4.go:42",#[⟨3,.data⟩],none⟩ (.int .i64 t) (by intro wq hSw;obtain ⟨s0,s1,s2⟩:=hSw;clear hHeld;go_simp) hHeld ?_
        simp only [Act.put,zz1,zz2,zz3]
        refine tkz 5 ⟨some 41,.fieldAddr 73 (.tmp 7) 0,0,"crierref4.go:42",#[],none⟩ (.pointer (some ⟨bF,0,none⟩)) (by intro wq hSw;clear hSw hHeld;go_simp) hHeld ?_
        simp only [Act.put,zz1,zz2,zz3]
        refine tkz 6 ⟨some 42,.load 3 (.tmp 41),3,"crierref4.go:42",#[⟨5,.data⟩],none⟩ (.int .i64 x.1) (by intro wq hSw;obtain ⟨s0,s1,s2⟩:=hSw;clear hHeld;go_simp) hHeld ?_
        simp only [Act.put,zz1,zz2,zz3]
        refine tkz 7 ⟨some 43,.binOp .add 3 (.tmp 40) (.tmp 42) 3,3,"crierref4.go:42",#[⟨4,.data⟩,⟨6,.data⟩],none⟩ (.int .i64 u) (by intro wq hSw;clear hSw hHeld;go_simp) hHeld ?_
        simp only [Act.put,zz1,zz2,zz3]
        refine tkz 8 ⟨some 44,.fieldAddr 73 (.tmp 7) 1,0,"crierref4.go:42",#[],none⟩ (.pointer (some ⟨bF,1,none⟩)) (by intro wq hSw;clear hSw hHeld;go_simp) hHeld ?_
        simp only [Act.put,zz1,zz2,zz3]
        refine tkz 9 ⟨some 45,.load 3 (.tmp 44),3,"crierref4.go:42",#[⟨8,.data⟩],none⟩ (.int .i64 x.2) (by intro wq hSw;obtain ⟨s0,s1,s2⟩:=hSw;clear hHeld;go_simp) hHeld ?_
        simp only [Act.put,zz1,zz2,zz3]
        refine tkz 10 ⟨some 46,.build 73 #[(0,.tmp 43),(1,.tmp 45)],73,"crierref4.go:42",#[⟨7,.data⟩,⟨9,.data⟩],none⟩ (.agg #[.int .i64 u,.int .i64 x.2]) (by intro wq hSw;clear hSw hHeld;go_simp) hHeld ?_
        simp only [Act.put,zz1,zz2,zz3]
        refine tkz 11 ⟨some 47,.nilCheck (.tmp 36),0,"crierref4.go:42",#[⟨0,.data⟩,⟨0,.phase⟩,⟨1,.phase⟩,⟨2,.phase⟩,⟨3,.phase⟩,⟨4,.phase⟩,⟨5,.phase⟩,⟨6,.phase⟩,⟨7,.phase⟩,⟨8,.phase⟩,⟨9,.phase⟩,⟨10,.phase⟩],none⟩ (.pointer (some ⟨gb,0,none⟩)) (by intro wq hSw;clear hSw hHeld;go_simp) hHeld ?_
        simp only [Act.put,zz1,zz2,zz3]
        refine tkz 12 ⟨some 48,.fieldAddr 85 (.tmp 47) 3,0,"crierref4.go:42",#[⟨11,.data⟩,⟨0,.phase⟩,⟨1,.phase⟩,⟨2,.phase⟩,⟨3,.phase⟩,⟨4,.phase⟩,⟨5,.phase⟩,⟨6,.phase⟩,⟨7,.phase⟩,⟨8,.phase⟩,⟨9,.phase⟩,⟨10,.phase⟩],none⟩ (.pointer (some ⟨gb,3,none⟩)) (by intro wq hSw;clear hSw hHeld;go_simp) hHeld ?_
        simp only [Act.put,zz1,zz2,zz3]
        refine wpAnyH_ready (rs:=[13]) (by kernel_rfl) (by simp) ?_
        refine AllReadyH.cons (o:=⟨none,.store 73 (.tmp 48) (.tmp 46),0,"crierref4.go:42",#[⟨12,.data⟩,⟨10,.data⟩,⟨0,.phase⟩,⟨1,.phase⟩,⟨2,.phase⟩,⟨3,.phase⟩,⟨4,.phase⟩,⟨5,.phase⟩,⟨6,.phase⟩,⟨7,.phase⟩,⟨8,.phase⟩,⟨9,.phase⟩,⟨10,.phase⟩],none⟩) (by rfl) (fun K hK=>?_) AllReadyH.nil
        go_simp
        refine hK.out _ _ ⟨KEEP2.out,KEEP0.out,KEEP1.out⟩ (fun hHeld=>?_)
        clear hK K hHeld
        (try simp only [Act.put,zz1,zz2,zz3])
        refine wpAnyH_done (by kernel_rfl) ?_ _
        go_wp2_with fail
        go_meet
        case rel=>exact ⟨D5,CH5⟩
      case rest =>
        obtain ⟨D5,CH5⟩:=hcut
        obtain ⟨wb,hwb⟩:∃ wb,wb=wc:=⟨_,rfl⟩
        subst hwb
        clear KEEP0 KEEP1 KEEP2 FT5 c2 c3 c4 z3 z4 hu hu2 k0 k1 TW N4 N5 D3 O3
        have c1:=D5.out.cell 1 (.slice a H c) rfl
        have z1:=D5.out.frozen 1
        go_upto_region 7 with fail
        obtain ⟨w6,hw6⟩:∃ w6,w6=wb.setCell ⟨gb,1,none⟩ (.slice none 0 0):=⟨_,rfl⟩
        have D6:=hidi (show DfAt w6 gb most (.slice none 0 0) t u x.2 from by rw [hw6];exact D5.out.setV _)
        have CH6:=hidi (show Ch (fun k=>k=gb) W1 w6 from by rw [hw6];exact ⟨CH5.out.os,CH5.out.tape,CH5.out.output,by rw [set_size];exact CH5.out.size,fun k hk hkn=>(Below.heap_setCell _ _ _ _ hkn).trans (CH5.out.block k hk hkn)⟩)
        rw [← hw6]
        clear hw6 c1 z1 D5 CH5
        have N4:=hidi ((CH6.out.block w.heap.size (by have:=S1.out;omega) (by have:=LG.out;omega)).trans X4.out)
        have N5:=hidi ((CH6.out.block (w.heap.size+1) (by have:=S1.out;omega) (by have:=LG.out;omega)).trans X5.out)
        have c3:=D6.out.cell 3 (.int .i64 u) rfl
        have c4:=D6.out.cell 4 (.int .i64 x.2) rfl
        refine wp_region_held_drew (S:=fun w'=>w'.cell? ⟨gb,3,none⟩=some (.int .i64 u)∧w'.cell? ⟨gb,4,none⟩=some (.int .i64 x.2)) (by kernel_rfl) ⟨c3,c4⟩ (fun hHeld=>?_)
        refine tkz 0 ⟨some 52,.build 39 #[],39,"crierref4.go:44",#[],none⟩ (.agg #[.int .i64 0,.int .i64 0,.bool false,.int .i64 0,.string ⟨#[]⟩,.bool false,.string ⟨#[]⟩,.slice none 0 0,.int .i64 0,.bool false,.bool false,.string ⟨#[]⟩,.bool false,.slice none 0 0,.bool false,.int .i64 0,.bool false,.string ⟨#[]⟩,.slice none 0 0,.int .i64 0,.bool false,.int .i64 0,.slice none 0 0,.slice none 0 0,.slice none 0 0]) (by intro wq hSw;clear hSw hHeld;go_simp) hHeld ?_
        simp only [Act.put,zz1,zz2,zz3]
        refine tkz 1 ⟨some 53,.move (.tmp 0),60,"crierref4.go:44",#[⟨6,.gcOnly .lateStores⟩],none⟩ (.pointer (some ⟨gb,0,none⟩)) (fun wq _=>pureVal_run (by kernel_rfl) wq) hHeld ?_
        simp only [Act.put,zz1,zz2,zz3]
        refine tkz 2 ⟨some 54,.nilCheck (.tmp 53),0,"crierref4.go:44",#[⟨1,.data⟩,⟨6,.gcOnly .lateStores⟩],none⟩ (.pointer (some ⟨gb,0,none⟩)) (by intro wq hSw;clear hSw hHeld;go_simp) hHeld ?_
        simp only [Act.put,zz1,zz2,zz3]
        refine tkz 3 ⟨some 55,.fieldAddr 85 (.tmp 54) 3,0,"crierref4.go:44",#[⟨2,.data⟩,⟨6,.gcOnly .lateStores⟩],none⟩ (.pointer (some ⟨gb,3,none⟩)) (by intro wq hSw;clear hSw hHeld;go_simp) hHeld ?_
        simp only [Act.put,zz1,zz2,zz3]
        refine tkz 4 ⟨some 56,.load 73 (.tmp 55),73,"crierref4.go:44",#[⟨3,.data⟩,⟨6,.gcOnly .lateStores⟩],none⟩ (.agg #[.int .i64 u,.int .i64 x.2]) (by intro wq hSw;obtain ⟨s0,s1⟩:=hSw;clear hHeld;go_simp) hHeld ?_
        simp only [Act.put,zz1,zz2,zz3]
        refine wpAnyH_ready (rs:=[5]) (by kernel_rfl) (by simp) ?_
        refine AllReadyH.cons (o:=⟨none,.store 39 (.tmp 2) (.tmp 52),0,"crierref4.go:44",#[⟨0,.data⟩,⟨0,.phase⟩,⟨1,.textOnly .lateStores⟩,⟨2,.textOnly .lateStores⟩,⟨3,.textOnly .lateStores⟩,⟨4,.textOnly .lateStores⟩],none⟩) (by rfl) (fun K hK=>?_) AllReadyH.nil
        refine held_store (by kernel_rfl) 39 (.tmp 2) (.tmp 52) rfl w.heap.size (pkCells (blank 0)) rfl rfl 39 (pkCells (blank 0)) N4.out pk_info rfl (pk_one _) ?_
        refine hK.out _ _ ⟨(row_cell (by have:=LG.out;omega)).trans c3,(row_cell (by have:=LG.out;omega)).trans c4⟩ (fun hHeld=>?_)
        clear hK K
        (try simp only [Act.put,zz1,zz2,zz3])
        refine tkz 6 ⟨some 3,.assign (.const (.bool false)),4,"crierref4.go:44",#[⟨5,.chain⟩,⟨0,.phase⟩,⟨1,.textOnly .lateStores⟩,⟨2,.textOnly .lateStores⟩,⟨3,.textOnly .lateStores⟩,⟨4,.textOnly .lateStores⟩,⟨5,.phase⟩],none⟩ (.bool false) (fun wq _=>pureVal_run (by kernel_rfl) wq) hHeld ?_
        simp only [Act.put,zz1,zz2,zz3]
        refine wpAnyH_ready (rs:=[7]) (by kernel_rfl) (by simp) ?_
        refine AllReadyH.cons (o:=⟨none,.store 73 (.tmp 4) (.tmp 56),0,"crierref4.go:44",#[⟨4,.data⟩,⟨6,.chain⟩,⟨0,.phase⟩,⟨1,.phase⟩,⟨2,.phase⟩,⟨3,.phase⟩,⟨4,.phase⟩,⟨5,.phase⟩,⟨6,.phase⟩],none⟩) (by rfl) (fun K hK=>?_) AllReadyH.nil
        refine held_store (by kernel_rfl) 73 (.tmp 4) (.tmp 56) rfl (w.heap.size+1) #[.int .i64 u,.int .i64 x.2] rfl rfl 73 #[.int .i64 0,.int .i64 0] ((setRow_ne (by omega)).trans N5.out) f_info rfl (two_one _ _) ?_
        refine hK.out _ _ ⟨(row_cell (by have:=LG.out;omega)).trans ((row_cell (by have:=LG.out;omega)).trans c3),(row_cell (by have:=LG.out;omega)).trans ((row_cell (by have:=LG.out;omega)).trans c4)⟩ (fun hHeld=>?_)
        clear hK K hHeld
        (try simp only [Act.put,zz1,zz2,zz3])
        refine wpAnyH_done (by kernel_rfl) ?_ _
        go_wp2_with fail
        have RR:=rd_rows (v:=w6.drew) (cs:=pkCells (blank 0)) (ds:=#[.int .i64 u,.int .i64 x.2]) N4.out N5.out
        refine bodyPost_ret (results_rtr rfl _ _ w.heap.size (w.heap.size+1) 39 73 (pkCells (blank 0)) #[.int .i64 u,.int .i64 x.2] (0,0) (0,0) _ _ rfl RR.1 Tryz.underlying39 rfl pk_info (.bool false) rfl rfl RR.2 Tryz.underlying73 rfl f_info) rfl ?_
        have hc7:Ch (fun k=>k=gb) W1 w6.drew:=⟨CH6.out.os,CH6.out.tape,CH6.out.output,CH6.out.size,CH6.out.block⟩
        refine ⟨⟨u,by rw [HX.out]⟩,?_⟩
        exact ch_rows (W1:=w) (Below.refl _ _) (ch_rows B1.out hc7 w.heap.size (Nat.le_refl _) _) (w.heap.size+1) (by omega) _
    | ok p c' k =>
      obtain ⟨rfl,hx⟩:=FX.out
      rw [hx] at k1
      have DK:=dec_ok most HZ.out (show H≤700000 from by have:=HN.out;omega) HR.out.symm
      have kp:=hidi (show 0<k∧k≤H from ⟨DK.1,DK.2.1⟩)
      have nk:(((k:Nat):Int)==0)=false:=by simp;omega
      obtain ⟨hin,hal,hnx⟩:=TW.out.got
      obtain ⟨g,hga⟩:∃ g,a=some ⟨g,0,none⟩:=by
        have co:=came_own O3.out HZ.out
        rcases co.2 with e | e
        · rcases co.1.2.2 with ⟨_,e2,_⟩|⟨ad,e2,_⟩
          · have:=kp.out;omega
          · rw [e] at e2;cases e2
        · exact e
      subst hga
      have hcap:H≤c:=by
        have co:=came_own O3.out HZ.out
        exact co.1.1
      obtain ⟨ad,had⟩:∃ ad,(if c=k then some (⟨g,0,none⟩:Addr) else some ⟨g,k,none⟩)=some ad:=by
        split
        · exact ⟨_,rfl⟩
        · exact ⟨_,rfl⟩
      have BYL:=hidi (show By wa ⟨some ad,H-k,c-k⟩ (Go.Proofs.YtpldoeeahhaimaaGreatDoor.sh z k) from by
        refine ⟨by show H-k≤c-k;omega,fun i=>HZ.out _,?_⟩
        by_cases e0:H-k=0
        · exact .inl e0
        · refine .inr ?_
          rw [if_neg (by omega)] at had
          obtain rfl:=Option.some.inj had
          refine ⟨g,k,rfl,fun i hi=>?_⟩
          have hi':i<H-k:=hi
          have co:=came_own O3.out HZ.out
          rcases co.1.2.2 with ⟨e,_⟩|⟨ad2,e,cc⟩
          · cases e
          · cases e
            have:=cc (k+i) (by omega)
            rw [plain_add,Nat.zero_add] at this
            exact this)
      have GT:=hidi (show In wa q c'∧Alike q p∧NxAll W1.heap.size q from ⟨hin,hal,hnx⟩)
      have PK:=hidi TW.out.pk
      have LP:=hidi TW.out.lg
      have c1:=D3.out.cell 1 (.slice (some ⟨g,0,none⟩) H c) rfl
      have k1i:(k:Int)≤(H:Int):=by have:=kp.out;omega
      have k2i:(H:Int)≤(c:Int):=by omega
      have k0i:(0:Int)≤(k:Int):=by omega
      clear hin hal hnx DK FX hx TW HR
      go_wp2_with (at_builtin;refine wpList_push_any rfl (.tmp 62) (.tmp 68) rfl wa.heap.size 0 (.slice none 0 0) [] rfl (World.ownsRow_nil _ _ _ _) ⟨some ad,H-k,c-k⟩ (Go.Proofs.YtpldoeeahhaimaaGreatDoor.sh z k) rfl BYL.out (by omega) (by have:=HN.out;show H-k≤400000;omega) (Nat.le_refl _) ?_)
      intro v' w2 ho hg hw
      have hat:DfAt w2 gb most (.slice (some ⟨g,0,none⟩) H c) t a0 0:=D3.out.keep (hg.block gb D3.out.lt (fun e=>by cases e))
      have c1':=hat.cell 1 (.slice (some ⟨g,0,none⟩) H c) rfl
      have z1:=hat.frozen 1
      have HO2:=hidi (show w2.ownsRow wa.heap.size 5 1 v' (H-k) (cellsOf (Go.Proofs.YtpldoeeahhaimaaGreatDoor.sh z k) (H-k)) from ho)
      have HG2:=hidi hg
      obtain ⟨av,cv,hvv⟩:=own_slice HO2.out
      subst hvv
      obtain ⟨w3,hw3⟩:∃ w3,w3=w2.setCell ⟨gb,1,none⟩ (.slice av (H-k) cv):=⟨_,rfl⟩
      have D4:=hidi (show DfAt w3 gb most (.slice av (H-k) cv) t a0 0 from by rw [hw3];exact hat.setV _)
      have HW3:=hidi hw3
      clear ho hg hw hat c1
      go_upto_region 12 with fail
      rw [← HW3.out]
      clear c1' z1 hw3
      have c2:=D4.out.cell 2 (.int .i64 t) rfl
      have z2:=D4.out.frozen 2
      obtain ⟨u,hu⟩:∃ u,IntKind.i64.wrap (t+(k:Int))=u:=⟨_,rfl⟩
      have hu2:wrap64 (t+(k:Int))=u:=by rw [← hu,IntKind.wrap_i64];unfold wrap64;omega
      obtain ⟨w4,hw4⟩:∃ w4,w4=w3.setCell ⟨gb,2,none⟩ (.int .i64 u):=⟨_,rfl⟩
      have D5:=hidi (show DfAt w4 gb most (.slice av (H-k) cv) u a0 0 from by rw [hw4];exact D4.out.setT _)
      have HW4:=hidi hw4
      clear D4
      go_upto_region 13 with fail
      rw [← HW4.out]
      clear c2 z2 hu hu2 hw4
      have hbl:=hidi (show ∀ j,j<wa.heap.size→j≠gb→w4.heap[j]?=wa.heap[j]? from fun j hj hne=>by
        rw [HW4.out,HW3.out]
        exact (Below.heap_setCell _ _ _ _ hne).trans ((Below.heap_setCell _ _ _ _ hne).trans (HG2.out.block j hj (fun e=>by cases e))))
      have hsz:=hidi (show wa.heap.size≤w4.heap.size from by rw [HW4.out,HW3.out,set_size,set_size];exact HG2.out.size)
      have BS:=hidi BL.out.size
      have M4:=hidi ((hbl.out w.heap.size (by have:=BS.out;have:=S1.out;omega) (by have:=LG.out;omega)).trans N4.out)
      have M5:=hidi ((hbl.out (w.heap.size+1) (by have:=BS.out;have:=S1.out;omega) (by have:=LG.out;omega)).trans N5.out)
      have PK4:=hidi ((hbl.out bP (Array.getElem?_eq_some_iff.1 PK.out).1 (by have:=LP.out;have:=S1.out;have:=LG.out;omega)).trans PK.out)
      have KP:Hid (Keep W1.heap.size wa w4):=by
        rw [HW4.out,HW3.out]
        exact Keep.trans (Keep.trans (fun ad v ha hb=>HG2.out.cell ha (fun e=>by cases e)) (keep_set (by have:=S1.out;have:=LG.out;omega))) (keep_set (by have:=S1.out;have:=LG.out;omega))
      go_wp2_with (first | (refine Pkt.wpList_load_wanted rfl (.tmp 5) rfl bP rfl (pkCells q) (0,0) PK4.out (pk_size _) ?_)|(refine wpList_store_row rfl 39 (.tmp 2) (.tmp 81) rfl w.heap.size (pkCells q) rfl rfl 39 (pkCells (blank 0)) M4.out pk_info rfl (pk_one _) ?_)|(refine wpList_store_row rfl 73 (.tmp 4) (.tmp 82) rfl (w.heap.size+1) #[.int .i64 0,.int .i64 0] rfl rfl 73 #[.int .i64 0,.int .i64 0] ((setRow_ne (by omega)).trans M5.out) f_info rfl (two_one _ _) ?_))
      have RR:=rd_rows (cs:=pkCells q) (ds:=#[.int .i64 0,.int .i64 0]) M4.out M5.out
      refine bodyPost_ret (results_rtr rfl _ _ w.heap.size (w.heap.size+1) 39 73 (pkCells q) #[.int .i64 0,.int .i64 0] (0,0) (0,0) _ _ rfl RR.1 Tryz.underlying39 rfl pk_info (.bool true) rfl rfl RR.2 Tryz.underlying73 rfl f_info) rfl ?_
      have gt:=GT.out
      have hc4:Ch (fun k=>k=gb) W1 w4:=⟨by rw [HW4.out,HW3.out];exact HG2.out.os.trans BL.out.os,by rw [HW4.out,HW3.out];exact HG2.out.tape.trans BL.out.tape,by rw [HW4.out,HW3.out];exact HG2.out.output.trans BL.out.output,Nat.le_trans BL.out.size hsz.out,fun j hj hne=>(hbl.out j (Nat.lt_of_lt_of_le hj BL.out.size) hne).trans (BL.out.block j hj)⟩
      refine ⟨⟨q,.slice av (H-k) cv,u,rfl,?_,gt.2.1,nx_low gt.2.2 (by have:=S1.out;omega),?_,?_⟩,?_⟩
      · exact In.keep (In.keep (In.keep gt.1 gt.2.2 KP.out) gt.2.2 (keep_row (by have:=S1.out;omega))) gt.2.2 (keep_row (by have:=S1.out;omega))
      · exact D5.out.keep ((setRow_ne (by have:=LG.out;omega)).trans (setRow_ne (by have:=LG.out;omega)))
      · have o1:w4.ownsRow wa.heap.size 5 1 (.slice av (H-k) cv) (H-k) (cellsOf (Go.Proofs.YtpldoeeahhaimaaGreatDoor.sh z k) (H-k)):=by
          have n1:(Value.slice av (H-k) cv).ownBlock≠some gb:=fun e=>by
            rcases HO2.out.2 with ⟨e1,_⟩|⟨g2,cap,cur,e1,hb2,_⟩
            · rw [e1] at e;cases e
            · rw [e1] at e
              have e':g2=gb:=by simpa [Value.ownBlock] using e
              have:=S1.out;have:=LG.out;have:=BS.out
              omega
          rw [HW4.out,HW3.out]
          exact ownsRow_setCell_other (ownsRow_setCell_other HO2.out n1 _) n1 _
        have o2:=own_keep o1 (w':=(w4.setRow w.heap.size (pkCells q)).setRow (w.heap.size+1) #[.int .i64 0,.int .i64 0]) (fun j hj=>by
          have hj2:wa.heap.size≤j:=by
            rcases o1.2 with ⟨e1,_⟩|⟨g2,cap,cur,e1,hb2,_⟩
            · rw [e1] at hj;cases hj
            · rw [e1] at hj
              have e':g2=j:=by simpa [Value.ownBlock] using hj
              omega
          have:=S1.out;have:=BS.out
          exact (setRow_ne (by omega)).trans (setRow_ne (by omega)))
        refine ⟨o2.1,?_⟩
        rcases o2.2 with e | ⟨g2,cap,cur,e1,hb2,r⟩
        · exact .inl e
        · exact .inr ⟨g2,cap,cur,e1,by have:=S1.out;have:=BS.out;omega,r⟩
      · exact ch_rows (W1:=w) (Below.refl _ _) (ch_rows B1.out hc4 w.heap.size (Nat.le_refl _) _) (w.heap.size+1) (by omega) _
end Go.Proofs.YtpldoeeahhaimaaGreatDoor.Dr
