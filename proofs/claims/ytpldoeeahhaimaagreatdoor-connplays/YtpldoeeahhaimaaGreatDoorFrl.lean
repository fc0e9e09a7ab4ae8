import Derived.Test.YtpldoeeahhaimaaGreatDoorNra
import Derived.Test.YtpldoeeahhaimaaGreatDoorFrg
import Derived.Test.YtpldoeeahhaimaaGreatDoorGj
namespace Go.Proofs.YtpldoeeahhaimaaGreatDoor
open Go Go.RowKit
open Pkt (Pk Cn Sl In By Is Ss As pkCells Gd KindsAt Small)
set_option linter.unusedSimpArgs false
set_option linter.unusedVariables false
set_option maxRecDepth 100000
set_option maxHeartbeats 4000000
theorem below_on {W a b:World} (h:Below W.heap.size W a) (k:Below a.heap.size a b):Below W.heap.size W b:=h.trans ⟨k.os,k.tape,k.output,k.size,fun j hj=>k.block j (by have:=h.size;omega)⟩
def DecQ (n0:Nat) (w':World) (q:Pk) (N:Nat) (ev:Value):DecR→Prop
 | .fault x=>q=blank 0∧N=0∧∃ gg,ev = .iface 91 (.pointer (some ⟨gg,0,none⟩))∧w'.heap[gg]?=some (.cells #[.int .i64 x.1,.int .i64 x.2] 81 (0,0))
 | .more=>q=blank 0∧N=0∧ev = .nilIface
 | .ok p c n=>N=n∧ev = .nilIface∧In w' q c∧Alike q p∧∀ b,Uses q b→n0≤b
theorem dec_q {w w':World} {e:Ending} {R:DecR} (h:DecIs w w' e R):∃ q N ev,e = .returned (.tuple #[.agg (pkCells q),.int .i64 ((N:Nat):Int),ev])∧DecQ w.heap.size w' q N ev R∧Below w.heap.size w w':=by
 cases R with
 | fault x=>obtain ⟨⟨gg,rfl,hg⟩,hb⟩:=h;exact ⟨blank 0,0,_,rfl,⟨rfl,rfl,gg,rfl,hg⟩,hb⟩
 | more=>obtain ⟨rfl,hb⟩:=h;exact ⟨blank 0,0,_,rfl,⟨rfl,rfl,rfl⟩,hb⟩
 | ok p c n=>obtain ⟨⟨q,rfl,hi,ha,hx⟩,hb⟩:=h;exact ⟨q,n,_,rfl,⟨rfl,rfl,hi,ha,fun b hu=>hx.uses hu⟩,hb⟩
theorem DecQ.congr {n0 n1:Nat} {w w':World} {q:Pk} {N:Nat} {ev:Value} {R:DecR} {pb:Nat} (h:DecQ n0 w q N ev R) (hk:∀ b,b<w.heap.size→b≠pb→w'.heap[b]?=w.heap[b]?) (hp:∀ cs,w.heap[pb]?≠some (.cells cs 81 (0,0))) (hu:pb<n0∨w.heap.size≤pb) (hn:n1≤n0):DecQ n1 w' q N ev R:=by
 cases R with
 | fault x =>
  obtain ⟨h1,h2,gg,h3,hg⟩:=h
  exact ⟨h1,h2,gg,h3,(hk gg (lt_of_block hg) (fun e=>hp _ (e ▸ hg))).trans hg⟩
 | more=>exact h
 | ok p c n =>
  obtain ⟨h1,h2,hi,ha,hx⟩:=h
  refine ⟨h1,h2,In.congr hi fun b hb=>hk b (In.lt hi hb) (fun e=>?_),ha,fun b hb=>Nat.le_trans hn (hx b hb)⟩
  have:=hx b hb
  have:=In.lt hi hb
  omega
def Aft (W:World) (R:DecR) (pb:Nat) (q:Pk) (N:Nat) (ev:Value) (wx:World):Prop :=
 wx.heap[pb]?=some (.cells (pkCells q) 39 (0,0))∧W.heap.size≤pb∧Below W.heap.size W wx∧DecQ W.heap.size wx q N ev R
theorem setRow_at {w:World} {g:Nat} {cs old:Array Value} {t:TypeId} (h:w.heap[g]?=some (.cells old t (0,0))):(w.setRow g cs).heap[g]?=some (.cells cs t (0,0)):=by
 first
  | exact heap_setRow_same h
  | (unfold World.setRow;simp [Array.getElem?_modify,h])
theorem setRow_ne {w:World} {g k:Nat} {cs:Array Value} (h:k≠g):(w.setRow g cs).heap[k]?=w.heap[k]?:=by
 first
  | exact heap_setRow_ne h
  | (unfold World.setRow;simp [Array.getElem?_modify,Ne.symm h])
theorem setRow_size {w:World} {g:Nat} {cs:Array Value}:(w.setRow g cs).heap.size=w.heap.size:=by
 unfold World.setRow;simp
theorem below_setRow {W w:World} {g:Nat} {cs:Array Value} (h:Below W.heap.size W w) (hg:W.heap.size≤g):Hid (Below W.heap.size W (w.setRow g cs)) :=
 ⟨h.os,h.tape,h.output,by rw [setRow_size];exact h.size,fun k hk=>(setRow_ne (by omega)).trans (h.block k hk)⟩
theorem aft_one {W w0 w1 w2:World} {R:DecR} {pb:Nat} {q:Pk} {N:Nat} {ev:Value} (hq:DecQ w0.heap.size w1 q N ev R) (hb:Below w0.heap.size w0 w1) (hW:Below W.heap.size W w1) (h12:Below w1.heap.size w1 w2) (hn:w2.heap[pb]?=some (.cells (pkCells (blank 0)) 39 (0,0))) (hp:pb<w0.heap.size∨w1.heap.size≤pb) (hs:W.heap.size≤w0.heap.size) (hpb:W.heap.size≤pb) :
    Hid (Aft W R pb q N ev (w2.setRow pb (pkCells q))):=by
  refine ⟨setRow_at hn,hpb,?_,?_⟩
  · exact (below_setRow (below_on hW h12) hpb).out
  · refine hq.congr (pb:=pb) (fun b hb1 hb2=>(setRow_ne hb2).trans (h12.block b hb1)) (fun cs e=>?_) hp hs
    have:=(h12.block pb (lt_of_block e)).trans e
    rw [hn] at this
    simp at this
theorem held_store {P:Program} {ops:Array Oper} {Q:Exit→Act→World→Prop} {o:Oper} {a:Act} {w:World} {K:Act→World→Prop} {E:Prop} (hw:Region.wanted o (yielded ops a.tmps)=true) (ty:TypeId) (x y:Operand) (ho:o.op = .store ty x y)
    (g:Nat) (cells:Array Value) (hx:a.eval x = .pointer (some ⟨g,0,none⟩)) (hy:a.eval y = .agg cells) (t:TypeId) (old:Array Value) (hg:w.heap[g]?=some (.cells old t (0,0))) (hi:(P.info? ty).map (·.size)=some cells.size)
    (hold:old.size=cells.size) (h1:cells.all (·.oneCell')=true) (h:K (a.put o.dst undef) (w.setRow g cells)):if Region.wanted o (yielded ops a.tmps)=true then Oper.wp P o a w K Q else E:=by
  rw [if_pos hw]
  exact wp_store_row ty x y ho g cells hx hy t old hg hi hold h1 h
def NextIs (w w':World) (e:Ending) (fb:Nat) (most:Int) (B:Nat) (rf:Option Nat) (P:Nat) (z:Nat→Int) (H:Nat):DecR→Prop
 | .ok p c k=>∃ q rf',e = .returned (.tuple #[.agg (pkCells q),.bool true,.nilIface])∧FS w' fb most B rf' (P+k) (sh z k) (H-k)∧In w' q c∧Alike q p∧(∀ b,Uses q b→w.heap.size≤b∧rf'≠some b)∧(rf'=rf∨rf'=none∨∃ k,rf'=some k∧w.heap.size≤k)
 | .more=>∃ rf',e = .returned (.tuple #[.agg (pkCells (blank 0)),.bool false,.nilIface])∧FS w' fb most B rf' P z H∧(rf'=rf∨rf'=none∨∃ k,rf'=some k∧w.heap.size≤k)
 | .fault x=>∃ gg,e = .returned (.tuple #[.agg (pkCells (blank 0)),.bool false,.iface 91 (.pointer (some ⟨gg,0,none⟩))])∧w'.heap[gg]?=some (.cells #[.int .i64 (wrap64 (P+x.1)),.int .i64 x.2] 81 (0,0))∧FD w' fb most (wrap64 (P+x.1)) x.2
theorem next_any {w:World} {fb:Nat} {most:Int} {B:Nat} {rf:Option Nat} {P:Nat} {z:Nat→Int} {H:Nat} (h:FS w fb most B rf P z H) (hz:∀ i,0≤z i∧z i≤255) (hg:Gw w) (hn:P+H≤400000) (hB:B≤w.heap.size) :
    Calls Tryz.prog 28 #[.pointer (some ⟨fb,0,none⟩)] w fun e w'=>NextIs w w' e fb most B rf P z H (decP z H most)∧Kq fb none w w':=by
  obtain ⟨R,hR⟩:∃ R,R=decP z H most:=⟨_,rfl⟩
  rw [← hR]
  obtain ⟨W1,hW1⟩:∃ W,W=w.alloc (.cells (pkCells (blank 0)) 39):=⟨_,rfl⟩
  have B1:Hid (Below w.heap.size w W1):=by show Below _ _ _;rw [hW1];exact (Below.refl _ _).alloc (Nat.le_refl _) _
  have Z1:Hid (W1.heap[w.heap.size]?=some (.cells (pkCells (blank 0)) 39 (0,0))):=by show _=_;rw [hW1];exact heap_alloc_new w _
  have S1:Hid (W1.heap.size=w.heap.size+1):=by show _=_;rw [hW1];simp
  have h1:FS W1 fb most B rf P z H:=h.below B1.out
  have G1:Hid (Gw W1):=hg.below B1.out
  obtain ⟨v,n,z0,d,gone,fa,hf,hr,hP,hH,hzz,hz0,hgo⟩:=h1
  have HF:Hid (Fr W1 fb most v B n z0 d gone fa 0):=hf
  have HX:Hid (v.ownBlock=rf∧gone+(d:Int)=(P:Int)∧n-d=H∧(∀ i,i<H→z0 (d+i)=z i)∧(∀ i,0≤z0 i∧z0 i≤255)∧0≤gone∧d≤n∧P+H≤400000∧B≤w.heap.size∧fb<w.heap.size):=⟨hr,hP,hH,hzz,hz0,hgo,hf.dn,hn,hB,h.lt.1⟩
  have HZ:Hid (∀ i,0≤z i∧z i≤255):=hz
  have FB:∀ wq,Below W1.heap.size W1 wq→Fr wq fb most v B n z0 d gone fa 0:=fun wq hb=>⟨hf.at_.keep (hb.block _ (FrAt.lt hf.at_)),own_keep hf.own (fun k e=>hb.block _ (hf.own.lt k e).2),hf.dn⟩
  have C0:Hid (∀ wq,Below W1.heap.size W1 wq→wq.cell? ⟨fb,0,none⟩=some (.int .i64 most)):=fun wq hb=>(FB wq hb).at_.cell 0 _ rfl
  have hC5:∃ l:Sl,l.n=H∧Plain l.a∧(∀ wq,Below W1.heap.size W1 wq→Came wq l.a l.n l.c z)∧∀ wq,Below W1.heap.size W1 wq→Calls Tryz.prog 42 #[.pointer (some ⟨fb,0,none⟩)] wq fun e w'=>e = .returned (.slice l.a l.n l.c)∧Below wq.heap.size wq w':=by
    have hd:=hf.dn
    rcases hf.own.2 with ⟨rfl,h0⟩|⟨g,cap,cur,rfl,_,hg',hnc,_,hcs,ht⟩
    · have hd0:d=0:=by omega
      subst hd0
      refine ⟨⟨none,0,0⟩,by show 0=H;omega,(fun ad e=>by cases e),fun wq hb=>⟨Nat.le_refl _,hz,.inl ⟨rfl,rfl,rfl⟩⟩,fun wq hb=>held_nil wq (FB wq hb).at_⟩
    · refine ⟨⟨if n=d then some ⟨g,0,none⟩ else some ⟨g,d,none⟩,n-d,n-d⟩,hH,?_,fun wq hb=>⟨Nat.le_refl _,hz,.inr ?_⟩,fun wq hb=>held_some d wq (FB wq hb).at_ hd hnc⟩
      · intro ad e
        by_cases q:n=d
        · simp only [q,if_true] at e;cases e;exact ⟨_,_,rfl⟩
        · simp only [q,if_false] at e;cases e;exact ⟨_,_,rfl⟩
      · by_cases q:n=d
        · exact ⟨⟨g,0,none⟩,by simp [q],fun i hi=>by have hi':i<n-d:=hi;omega⟩
        · refine ⟨⟨g,d,none⟩,by simp [q],fun i hi=>?_⟩
          have hi':i<n-d:=hi
          rw [plain_add]
          have:=(FB wq hb).own.cellAt (d+i) (by omega)
          rw [this,cellsOf_at z0 n (d+i) (by omega),hzz i (by omega)]
  obtain ⟨l,hl,hpl,hcm,hc51⟩:=hC5
  have C51b:Hid (∀ wq,Below W1.heap.size W1 wq→Calls Tryz.prog 42 #[.pointer (some ⟨fb,0,none⟩)] wq fun e w'=>∃ v,e = .returned v∧v = .slice l.a l.n l.c∧Hid (Below W1.heap.size W1 w')∧Hid (Below wq.heap.size wq w')):=fun wq hb=>(hc51 wq hb).mono fun e w' ⟨q1,q2⟩=>⟨_,q1,rfl,below_on hb q2,q2⟩
  have C51:Hid (∀ wq,Below W1.heap.size W1 wq→Calls Tryz.prog 42 #[.pointer (some ⟨fb,0,none⟩)] wq fun e w'=>∃ v,e = .returned v∧v = .slice l.a l.n l.c∧Hid (Below W1.heap.size W1 w')):=fun wq hb=>(C51b.out wq hb).mono fun e w' ⟨v,q1,q2,q3,_⟩=>⟨v,q1,q2,q3⟩
  have C14:Hid (∀ wq,Below W1.heap.size W1 wq→Calls Tryz.prog 41 #[.slice l.a l.n l.c,.int .i64 most] wq fun e w'=>∃ v,e = .returned v∧∃ q N ev,v = .tuple #[.agg (pkCells q),.int .i64 ((N:Nat):Int),ev]∧Hid (DecQ wq.heap.size w' q N ev R)∧Hid (Below wq.heap.size wq w')):=fun wq hb=>by
    refine (decode_came l.a l.n l.c z most wq (hcm wq hb) hpl (by omega) (G1.out.below hb).1).mono fun e w' hd=>?_
    rw [hl,← hR] at hd
    obtain ⟨q,N,ev,h1,h2,h3⟩:=dec_q hd
    exact ⟨_,h1,q,N,ev,rfl,h2,h3⟩
  have HD:Hid (Calls Tryz.prog 39 #[.pointer (some ⟨fb,0,none⟩)] W1 fun e w'=>e = .returned (.bool false)∧w'=W1):=by
    have:=dead_any W1 hf.at_
    have e0:((0:Int) != 0)=false:=rfl
    rw [e0] at this
    exact this
  have HR:Hid (R=decP z H most):=hR
  clear h hf hr hP hH hzz hz0 hgo hn hB hg hz hR FB hl hpl hcm hc51
  go_enter Tryz.func28,Tryz.ntmps28
  go_upto_region 1 with fail
  have eW:w.alloc (.cells #[.int .i64 0,.int .i64 0,.bool false,.int .i64 0,.string ⟨#[]⟩,.bool false,.string ⟨#[]⟩,.slice none 0 0,.int .i64 0,.bool false,.bool false,.string ⟨#[]⟩,.bool false,.slice none 0 0,.bool false,.int .i64 0,.bool false,.string ⟨#[]⟩,.slice none 0 0,.int .i64 0,.bool false,.int .i64 0,.slice none 0 0,.slice none 0 0,.slice none 0 0] 39)=W1:=hW1.symm
  rw [eW]
  clear eW hW1
  go_wp2_with fail
  go_must (go_at_call 39)
  refine HD.out.mono ?_
  rintro e w' ⟨rfl,hee⟩
  obtain rfl:=hee.symm
  clear hee
  go_upto_region 3 with fail
  go_cut [5,6,7] from 8 (fun s5 s6 s7 wx=>∃ (pb:Nat) (q:Pk) (N:Nat) (ev:Value),s5 = .pointer (some ⟨pb,0,none⟩)∧s6 = .int .i64 (N:Int)∧s7=ev∧Hid (Aft W1 R pb q N ev wx))
  case first =>
    refine wp_region_held_drew (S:=fun w'=>Hid (Below W1.heap.size W1 w')) (by kernel_rfl) (show Hid _ from (Below.refl _ _).drew) (fun hHeld=>?_)
    refine tkz 0 ⟨some 14,.move (.tmp 0),57,"frame.go:35",#[],none⟩ (.pointer (some ⟨fb,0,none⟩)) (fun wq _=>pureVal_run (by kernel_rfl) wq) hHeld ?_
    simp only [Act.put,zz1,zz2,zz3]
    refine tkz 2 ⟨some 16,.move (.tmp 0),57,"frame.go:35",#[],none⟩ (.pointer (some ⟨fb,0,none⟩)) (fun wq _=>pureVal_run (by kernel_rfl) wq) hHeld ?_
    simp only [Act.put,zz1,zz2,zz3]
    refine tkz 3 ⟨some 17,.nilCheck (.tmp 16),0,"frame.go:35",#[⟨2,.data⟩],none⟩ (.pointer (some ⟨fb,0,none⟩)) (by intro wq hSw;clear hSw hHeld;go_simp) hHeld ?_
    simp only [Act.put,zz1,zz2,zz3]
    refine tkz 4 ⟨some 18,.fieldAddr 83 (.tmp 17) 0,0,"frame.go:35",#[⟨3,.data⟩],none⟩ (.pointer (some ⟨fb,0,none⟩)) (by intro wq hSw;clear hSw hHeld;go_simp) hHeld ?_
    simp only [Act.put,zz1,zz2,zz3]
    refine tkz 5 ⟨some 19,.load 3 (.tmp 18),3,"frame.go:35",#[⟨4,.data⟩],none⟩ (.int .i64 most) (by intro wq hSw;have hk:=C0.out wq (Hid.out hSw);clear hSw hHeld;go_simp) hHeld ?_
    simp only [Act.put,zz1,zz2,zz3]
    refine wpAnyH_ready (rs:=[1,11]) (by kernel_rfl) (by simp) ?_
    refine AllReadyH.cons (o:=⟨some 15,.call ⟨.value (.func 42),#[.tmp 14],#[57]⟩,32,"frame.go:35",#[⟨0,.data⟩],none⟩) (by rfl) (fun K hK=>?_) (AllReadyH.cons (o:=⟨some 5,.alloc 39,0,"frame.go:35",#[],none⟩) (by rfl) (fun K hK=>?_) AllReadyH.nil)
    · refine held_call (by kernel_rfl) 42 #[.pointer (some ⟨fb,0,none⟩)] (by clear hHeld hK;go_simp) (R:=fun x w'=>x = .slice l.a l.n l.c∧Hid (Below W1.heap.size W1 w')) (C51.out _ hHeld.out) ?_
      rintro _ w1 ⟨rfl,hb⟩
      refine hK.out _ _ hb (fun hHeld=>?_)
      clear hK K hb
      simp only [Act.put,zz1,zz2,zz3]
      refine wpAnyH_ready (rs:=[6,11]) (by kernel_rfl) (by simp) ?_
      refine AllReadyH.cons (o:=⟨some 20,.call ⟨.value (.func 41),#[.tmp 15,.tmp 19],#[32,3]⟩,87,"frame.go:35",#[⟨1,.data⟩,⟨5,.data⟩,⟨1,.chain⟩],none⟩) (by rfl) (fun K hK=>?_) (AllReadyH.cons (o:=⟨some 5,.alloc 39,0,"frame.go:35",#[],none⟩) (by rfl) (fun K hK=>?_) AllReadyH.nil)
      · have H01:=hHeld
        refine held_call (by kernel_rfl) 41 #[.slice l.a l.n l.c,.int .i64 most] (by clear hHeld hK;go_simp) (R:=fun x w'=>∃ q N ev,x = .tuple #[.agg (pkCells q),.int .i64 ((N:Nat):Int),ev]∧Hid (DecQ w1.heap.size w' q N ev R)∧Hid (Below w1.heap.size w1 w')) (C14.out _ hHeld.out) ?_
        rintro _ w2 ⟨q,N,ev,rfl,hq,hb⟩
        have h2:Hid (Below W1.heap.size W1 w2):=below_on hHeld.out hb.out
        refine hK.out _ _ h2 (fun hHeld=>?_)
        clear hK K h2
        simp only [Act.put,zz1,zz2,zz3]
        refine tkz 7 ⟨some 13,.move (.tmp 20),87,"frame.go:35",#[⟨6,.data⟩],none⟩ (.tuple #[.agg (pkCells q),.int .i64 (N:Int),ev]) (fun wq _=>pureVal_run (by kernel_rfl) wq) hHeld ?_
        simp only [Act.put,zz1,zz2,zz3]
        refine tkz 8 ⟨some 21,.extract (.tmp 13) 0,39,"frame.go:35",#[⟨7,.data⟩],none⟩ (.agg (pkCells q)) (by intro wq hSw;clear hSw hHeld;go_simp) hHeld ?_
        simp only [Act.put,zz1,zz2,zz3]
        refine tkz 9 ⟨some 22,.extract (.tmp 13) 1,3,"frame.go:35",#[⟨7,.data⟩,⟨12,.gcOnly .lateStores⟩],none⟩ (.int .i64 (N:Int)) (by intro wq hSw;clear hSw hHeld;go_simp) hHeld ?_
        simp only [Act.put,zz1,zz2,zz3]
        refine tkz 10 ⟨some 23,.extract (.tmp 13) 2,65,"frame.go:35",#[⟨7,.data⟩,⟨13,.gcOnly .lateStores⟩],none⟩ ev (by intro wq hSw;clear hSw hHeld;go_simp) hHeld ?_
        simp only [Act.put,zz1,zz2,zz3]
        refine wpAnyH_ready (rs:=[11]) (by kernel_rfl) (by simp) ?_
        refine AllReadyH.cons (o:=⟨some 5,.alloc 39,0,"frame.go:35",#[],none⟩) (by rfl) (fun K hK=>?_) AllReadyH.nil
        have HELDP:=hHeld
        go_simp
        have hA:=(show Hid (Below W1.heap.size W1 _) from hHeld.out.alloc hHeld.out.size (.cells (pkCells (blank 0)) 39))
        have NA:=heap_alloc_new w2 (.cells (pkCells (blank 0)) 39)
        refine hK.out _ _ hA (fun hHeld=>?_)
        clear hK K hA
        try simp only [Act.put,zz1,zz2,zz3]
        obtain ⟨wa,hwa⟩:∃ wa,wa=w2.alloc (.cells (pkCells (blank 0)) 39):=⟨_,rfl⟩
        have eA:w2.alloc (.cells #[.int .i64 0,.int .i64 0,.bool false,.int .i64 0,.string ⟨#[]⟩,.bool false,.string ⟨#[]⟩,.slice none 0 0,.int .i64 0,.bool false,.bool false,.string ⟨#[]⟩,.bool false,.slice none 0 0,.bool false,.int .i64 0,.bool false,.string ⟨#[]⟩,.slice none 0 0,.int .i64 0,.bool false,.int .i64 0,.slice none 0 0,.slice none 0 0,.slice none 0 0] 39)=wa:=hwa.symm
        rw [eA] at hHeld ⊢
        rw [← hwa] at NA
        have SA:Hid (W1.heap.size≤w2.heap.size∧w2.heap.size<wa.heap.size):=by
          have h1:=HELDP.out.size
          rw [hwa];exact ⟨h1,by simp⟩
        clear eA
        have NB:Hid (wa.heap[w2.heap.size]?=some (.cells (pkCells (blank 0)) 39 (0,0))):=NA
        have PB:Hid (W1.heap.size≤w2.heap.size):=SA.out.1
        have AF:Hid (Aft W1 R w2.heap.size q N ev (wa.setRow w2.heap.size (pkCells q))):=aft_one hq.out hb.out HELDP.out (by rw [hwa];exact (Below.refl _ _).alloc (Nat.le_refl _) _) NB.out (.inr (Nat.le_refl _)) (Hid.out H01).size PB.out
        clear hq hb NA HELDP hwa
        refine wpAnyH_ready (rs:=[12]) (by kernel_rfl) (by simp) ?_
        refine AllReadyH.cons (o:=⟨none,.store 39 (.tmp 5) (.tmp 21),0,"frame.go:35",#[⟨11,.data⟩,⟨8,.data⟩,⟨6,.chain⟩,⟨0,.phase⟩,⟨1,.phase⟩,⟨2,.phase⟩,⟨3,.phase⟩,⟨4,.phase⟩,⟨5,.phase⟩,⟨6,.phase⟩,⟨7,.phase⟩,⟨8,.phase⟩,⟨9,.textOnly .lateStores⟩,⟨10,.textOnly .lateStores⟩,⟨11,.phase⟩],none⟩) (by rfl) (fun K hK=>?_) AllReadyH.nil
        refine held_store (by kernel_rfl) 39 _ _ rfl w2.heap.size (pkCells q) rfl rfl 39 (pkCells (blank 0)) NB.out pk_info rfl (pk_one _) ?_
        have h3:Hid (Below W1.heap.size W1 (wa.setRow w2.heap.size (pkCells q))):=below_setRow hHeld.out PB.out
        refine hK.out _ _ h3 (fun hHeld=>?_)
        clear hK K h3
        try simp only [Act.put,zz1,zz2,zz3]
        refine tkz 13 ⟨some 6,.assign (.tmp 22),3,"frame.go:35",#[⟨9,.data⟩,⟨12,.chain⟩,⟨0,.phase⟩,⟨1,.phase⟩,⟨2,.phase⟩,⟨3,.phase⟩,⟨4,.phase⟩,⟨5,.phase⟩,⟨6,.phase⟩,⟨7,.phase⟩,⟨8,.phase⟩,⟨9,.phase⟩,⟨10,.textOnly .lateStores⟩,⟨11,.phase⟩,⟨12,.phase⟩],none⟩ (.int .i64 (N:Int)) (fun wq _=>pureVal_run (by kernel_rfl) wq) hHeld ?_
        simp only [Act.put,zz1,zz2,zz3]
        refine tkz 14 ⟨some 7,.assign (.tmp 23),65,"frame.go:35",#[⟨10,.data⟩,⟨13,.chain⟩,⟨0,.phase⟩,⟨1,.phase⟩,⟨2,.phase⟩,⟨3,.phase⟩,⟨4,.phase⟩,⟨5,.phase⟩,⟨6,.phase⟩,⟨7,.phase⟩,⟨8,.phase⟩,⟨9,.phase⟩,⟨10,.phase⟩,⟨11,.phase⟩,⟨12,.phase⟩,⟨13,.phase⟩],none⟩ ev (fun wq _=>pureVal_run (by kernel_rfl) wq) hHeld ?_
        simp only [Act.put,zz1,zz2,zz3]
        refine wpAnyH_done (by kernel_rfl) ?_ _
        clear hHeld
        go_wp2_with fail
        go_meet
        case rel=>exact ⟨w2.heap.size,q,N,ev,rfl,rfl,rfl,AF⟩
      · have HELDP:=hHeld
        go_simp
        have hA:=(show Hid (Below W1.heap.size W1 _) from hHeld.out.alloc hHeld.out.size (.cells (pkCells (blank 0)) 39))
        have NA:=heap_alloc_new w1 (.cells (pkCells (blank 0)) 39)
        refine hK.out _ _ hA (fun hHeld=>?_)
        clear hK K hA
        try simp only [Act.put,zz1,zz2,zz3]
        obtain ⟨wa,hwa⟩:∃ wa,wa=w1.alloc (.cells (pkCells (blank 0)) 39):=⟨_,rfl⟩
        have eA:w1.alloc (.cells #[.int .i64 0,.int .i64 0,.bool false,.int .i64 0,.string ⟨#[]⟩,.bool false,.string ⟨#[]⟩,.slice none 0 0,.int .i64 0,.bool false,.bool false,.string ⟨#[]⟩,.bool false,.slice none 0 0,.bool false,.int .i64 0,.bool false,.string ⟨#[]⟩,.slice none 0 0,.int .i64 0,.bool false,.int .i64 0,.slice none 0 0,.slice none 0 0,.slice none 0 0] 39)=wa:=hwa.symm
        rw [eA] at hHeld ⊢
        rw [← hwa] at NA
        have SA:Hid (W1.heap.size≤w1.heap.size∧w1.heap.size<wa.heap.size):=by
          have h1:=HELDP.out.size
          rw [hwa];exact ⟨h1,by simp⟩
        clear eA
        have H02:=hHeld
        refine wpAnyH_ready (rs:=[6]) (by kernel_rfl) (by simp) ?_
        refine AllReadyH.cons (o:=⟨some 20,.call ⟨.value (.func 41),#[.tmp 15,.tmp 19],#[32,3]⟩,87,"frame.go:35",#[⟨1,.data⟩,⟨5,.data⟩,⟨1,.chain⟩],none⟩) (by rfl) (fun K hK=>?_) AllReadyH.nil
        refine held_call (by kernel_rfl) 41 #[.slice l.a l.n l.c,.int .i64 most] (by clear hHeld hK;go_simp) (R:=fun x w'=>∃ q N ev,x = .tuple #[.agg (pkCells q),.int .i64 ((N:Nat):Int),ev]∧Hid (DecQ wa.heap.size w' q N ev R)∧Hid (Below wa.heap.size wa w')) (C14.out _ hHeld.out) ?_
        rintro _ w2 ⟨q,N,ev,rfl,hq,hb⟩
        have h2:Hid (Below W1.heap.size W1 w2):=below_on hHeld.out hb.out
        refine hK.out _ _ h2 (fun hHeld=>?_)
        clear hK K h2
        simp only [Act.put,zz1,zz2,zz3]
        refine tkz 7 ⟨some 13,.move (.tmp 20),87,"frame.go:35",#[⟨6,.data⟩],none⟩ (.tuple #[.agg (pkCells q),.int .i64 (N:Int),ev]) (fun wq _=>pureVal_run (by kernel_rfl) wq) hHeld ?_
        simp only [Act.put,zz1,zz2,zz3]
        refine tkz 8 ⟨some 21,.extract (.tmp 13) 0,39,"frame.go:35",#[⟨7,.data⟩],none⟩ (.agg (pkCells q)) (by intro wq hSw;clear hSw hHeld;go_simp) hHeld ?_
        simp only [Act.put,zz1,zz2,zz3]
        refine tkz 9 ⟨some 22,.extract (.tmp 13) 1,3,"frame.go:35",#[⟨7,.data⟩,⟨12,.gcOnly .lateStores⟩],none⟩ (.int .i64 (N:Int)) (by intro wq hSw;clear hSw hHeld;go_simp) hHeld ?_
        simp only [Act.put,zz1,zz2,zz3]
        refine tkz 10 ⟨some 23,.extract (.tmp 13) 2,65,"frame.go:35",#[⟨7,.data⟩,⟨13,.gcOnly .lateStores⟩],none⟩ ev (by intro wq hSw;clear hSw hHeld;go_simp) hHeld ?_
        simp only [Act.put,zz1,zz2,zz3]
        have NB:Hid (w2.heap[w1.heap.size]?=some (.cells (pkCells (blank 0)) 39 (0,0))):=(hb.out.block _ SA.out.2).trans NA
        have PB:Hid (W1.heap.size≤w1.heap.size):=SA.out.1
        have AF:Hid (Aft W1 R w1.heap.size q N ev (w2.setRow w1.heap.size (pkCells q))):=aft_one hq.out hb.out hHeld.out (Below.refl _ _) NB.out (.inl SA.out.2) (Hid.out H02).size PB.out
        clear hq hb NA HELDP hwa
        refine wpAnyH_ready (rs:=[12]) (by kernel_rfl) (by simp) ?_
        refine AllReadyH.cons (o:=⟨none,.store 39 (.tmp 5) (.tmp 21),0,"frame.go:35",#[⟨11,.data⟩,⟨8,.data⟩,⟨6,.chain⟩,⟨0,.phase⟩,⟨1,.phase⟩,⟨2,.phase⟩,⟨3,.phase⟩,⟨4,.phase⟩,⟨5,.phase⟩,⟨6,.phase⟩,⟨7,.phase⟩,⟨8,.phase⟩,⟨9,.textOnly .lateStores⟩,⟨10,.textOnly .lateStores⟩,⟨11,.phase⟩],none⟩) (by rfl) (fun K hK=>?_) AllReadyH.nil
        refine held_store (by kernel_rfl) 39 _ _ rfl w1.heap.size (pkCells q) rfl rfl 39 (pkCells (blank 0)) NB.out pk_info rfl (pk_one _) ?_
        have h3:Hid (Below W1.heap.size W1 (w2.setRow w1.heap.size (pkCells q))):=below_setRow hHeld.out PB.out
        refine hK.out _ _ h3 (fun hHeld=>?_)
        clear hK K h3
        try simp only [Act.put,zz1,zz2,zz3]
        refine tkz 13 ⟨some 6,.assign (.tmp 22),3,"frame.go:35",#[⟨9,.data⟩,⟨12,.chain⟩,⟨0,.phase⟩,⟨1,.phase⟩,⟨2,.phase⟩,⟨3,.phase⟩,⟨4,.phase⟩,⟨5,.phase⟩,⟨6,.phase⟩,⟨7,.phase⟩,⟨8,.phase⟩,⟨9,.phase⟩,⟨10,.textOnly .lateStores⟩,⟨11,.phase⟩,⟨12,.phase⟩],none⟩ (.int .i64 (N:Int)) (fun wq _=>pureVal_run (by kernel_rfl) wq) hHeld ?_
        simp only [Act.put,zz1,zz2,zz3]
        refine tkz 14 ⟨some 7,.assign (.tmp 23),65,"frame.go:35",#[⟨10,.data⟩,⟨13,.chain⟩,⟨0,.phase⟩,⟨1,.phase⟩,⟨2,.phase⟩,⟨3,.phase⟩,⟨4,.phase⟩,⟨5,.phase⟩,⟨6,.phase⟩,⟨7,.phase⟩,⟨8,.phase⟩,⟨9,.phase⟩,⟨10,.phase⟩,⟨11,.phase⟩,⟨12,.phase⟩,⟨13,.phase⟩],none⟩ ev (fun wq _=>pureVal_run (by kernel_rfl) wq) hHeld ?_
        simp only [Act.put,zz1,zz2,zz3]
        refine wpAnyH_done (by kernel_rfl) ?_ _
        clear hHeld
        go_wp2_with fail
        go_meet
        case rel=>exact ⟨w1.heap.size,q,N,ev,rfl,rfl,rfl,AF⟩
    · go_simp
      have hA:=(show Hid (Below W1.heap.size W1 _) from ((Below.refl W1.heap.size W1).alloc (Nat.le_refl _) (.cells (pkCells (blank 0)) 39)).drew)
      have NA:=heap_alloc_new W1 (.cells (pkCells (blank 0)) 39)
      refine hK.out _ _ hA (fun hHeld=>?_)
      clear hK K hA
      try simp only [Act.put,zz1,zz2,zz3]
      obtain ⟨wa,hwa⟩:∃ wa,wa=(W1.alloc (.cells (pkCells (blank 0)) 39)).drew:=⟨_,rfl⟩
      have eA:(W1.alloc (.cells #[.int .i64 0,.int .i64 0,.bool false,.int .i64 0,.string ⟨#[]⟩,.bool false,.string ⟨#[]⟩,.slice none 0 0,.int .i64 0,.bool false,.bool false,.string ⟨#[]⟩,.bool false,.slice none 0 0,.bool false,.int .i64 0,.bool false,.string ⟨#[]⟩,.slice none 0 0,.int .i64 0,.bool false,.int .i64 0,.slice none 0 0,.slice none 0 0,.slice none 0 0] 39)).drew=wa:=hwa.symm
      rw [eA] at hHeld ⊢
      have NA:wa.heap[W1.heap.size]?=some (.cells (pkCells (blank 0)) 39 (0,0)):=by rw [hwa];exact NA
      have SA:Hid (W1.heap.size≤W1.heap.size∧W1.heap.size<wa.heap.size):=by
        rw [hwa];exact ⟨Nat.le_refl _,by simp [World.drew]⟩
      clear eA
      refine wpAnyH_ready (rs:=[1]) (by kernel_rfl) (by simp) ?_
      refine AllReadyH.cons (o:=⟨some 15,.call ⟨.value (.func 42),#[.tmp 14],#[57]⟩,32,"frame.go:35",#[⟨0,.data⟩],none⟩) (by rfl) (fun K hK=>?_) AllReadyH.nil
      have HB0:=hHeld
      refine held_call (by kernel_rfl) 42 #[.pointer (some ⟨fb,0,none⟩)] (by clear hHeld hK;go_simp) (R:=fun x w'=>x = .slice l.a l.n l.c∧Hid (Below W1.heap.size W1 w')∧Hid (Below wa.heap.size wa w')) (C51b.out _ hHeld.out) ?_
      rintro _ w1 ⟨rfl,hb,B51⟩
      refine hK.out _ _ hb (fun hHeld=>?_)
      clear hK K hb
      simp only [Act.put,zz1,zz2,zz3]
      have HB1:=hHeld
      have NA1:w1.heap[W1.heap.size]?=some (.cells (pkCells (blank 0)) 39 (0,0)):=(B51.out.block _ SA.out.2).trans NA
      refine wpAnyH_ready (rs:=[6]) (by kernel_rfl) (by simp) ?_
      refine AllReadyH.cons (o:=⟨some 20,.call ⟨.value (.func 41),#[.tmp 15,.tmp 19],#[32,3]⟩,87,"frame.go:35",#[⟨1,.data⟩,⟨5,.data⟩,⟨1,.chain⟩],none⟩) (by rfl) (fun K hK=>?_) AllReadyH.nil
      refine held_call (by kernel_rfl) 41 #[.slice l.a l.n l.c,.int .i64 most] (by clear hHeld hK;go_simp) (R:=fun x w'=>∃ q N ev,x = .tuple #[.agg (pkCells q),.int .i64 ((N:Nat):Int),ev]∧Hid (DecQ w1.heap.size w' q N ev R)∧Hid (Below w1.heap.size w1 w')) (C14.out _ hHeld.out) ?_
      rintro _ w2 ⟨q,N,ev,rfl,hq,hb⟩
      have h2:Hid (Below W1.heap.size W1 w2):=below_on hHeld.out hb.out
      refine hK.out _ _ h2 (fun hHeld=>?_)
      clear hK K h2
      simp only [Act.put,zz1,zz2,zz3]
      refine tkz 7 ⟨some 13,.move (.tmp 20),87,"frame.go:35",#[⟨6,.data⟩],none⟩ (.tuple #[.agg (pkCells q),.int .i64 (N:Int),ev]) (fun wq _=>pureVal_run (by kernel_rfl) wq) hHeld ?_
      simp only [Act.put,zz1,zz2,zz3]
      refine tkz 8 ⟨some 21,.extract (.tmp 13) 0,39,"frame.go:35",#[⟨7,.data⟩],none⟩ (.agg (pkCells q)) (by intro wq hSw;clear hSw hHeld;go_simp) hHeld ?_
      simp only [Act.put,zz1,zz2,zz3]
      refine tkz 9 ⟨some 22,.extract (.tmp 13) 1,3,"frame.go:35",#[⟨7,.data⟩,⟨12,.gcOnly .lateStores⟩],none⟩ (.int .i64 (N:Int)) (by intro wq hSw;clear hSw hHeld;go_simp) hHeld ?_
      simp only [Act.put,zz1,zz2,zz3]
      refine tkz 10 ⟨some 23,.extract (.tmp 13) 2,65,"frame.go:35",#[⟨7,.data⟩,⟨13,.gcOnly .lateStores⟩],none⟩ ev (by intro wq hSw;clear hSw hHeld;go_simp) hHeld ?_
      simp only [Act.put,zz1,zz2,zz3]
      have NB:Hid (w2.heap[W1.heap.size]?=some (.cells (pkCells (blank 0)) 39 (0,0))):=(hb.out.block _ (Nat.lt_of_lt_of_le SA.out.2 B51.out.size)).trans NA1
      have PB:Hid (W1.heap.size≤W1.heap.size):=SA.out.1
      have AF:Hid (Aft W1 R W1.heap.size q N ev (w2.setRow W1.heap.size (pkCells q))):=aft_one hq.out hb.out hHeld.out (Below.refl _ _) NB.out (.inl (Nat.lt_of_lt_of_le SA.out.2 B51.out.size)) (Hid.out HB1).size PB.out
      clear hq hb NA NA1 hwa
      refine wpAnyH_ready (rs:=[12]) (by kernel_rfl) (by simp) ?_
      refine AllReadyH.cons (o:=⟨none,.store 39 (.tmp 5) (.tmp 21),0,"frame.go:35",#[⟨11,.data⟩,⟨8,.data⟩,⟨6,.chain⟩,⟨0,.phase⟩,⟨1,.phase⟩,⟨2,.phase⟩,⟨3,.phase⟩,⟨4,.phase⟩,⟨5,.phase⟩,⟨6,.phase⟩,⟨7,.phase⟩,⟨8,.phase⟩,⟨9,.textOnly .lateStores⟩,⟨10,.textOnly .lateStores⟩,⟨11,.phase⟩],none⟩) (by rfl) (fun K hK=>?_) AllReadyH.nil
      refine held_store (by kernel_rfl) 39 _ _ rfl W1.heap.size (pkCells q) rfl rfl 39 (pkCells (blank 0)) NB.out pk_info rfl (pk_one _) ?_
      have h3:Hid (Below W1.heap.size W1 (w2.setRow W1.heap.size (pkCells q))):=below_setRow hHeld.out PB.out
      refine hK.out _ _ h3 (fun hHeld=>?_)
      clear hK K h3
      try simp only [Act.put,zz1,zz2,zz3]
      refine tkz 13 ⟨some 6,.assign (.tmp 22),3,"frame.go:35",#[⟨9,.data⟩,⟨12,.chain⟩,⟨0,.phase⟩,⟨1,.phase⟩,⟨2,.phase⟩,⟨3,.phase⟩,⟨4,.phase⟩,⟨5,.phase⟩,⟨6,.phase⟩,⟨7,.phase⟩,⟨8,.phase⟩,⟨9,.phase⟩,⟨10,.textOnly .lateStores⟩,⟨11,.phase⟩,⟨12,.phase⟩],none⟩ (.int .i64 (N:Int)) (fun wq _=>pureVal_run (by kernel_rfl) wq) hHeld ?_
      simp only [Act.put,zz1,zz2,zz3]
      refine tkz 14 ⟨some 7,.assign (.tmp 23),65,"frame.go:35",#[⟨10,.data⟩,⟨13,.chain⟩,⟨0,.phase⟩,⟨1,.phase⟩,⟨2,.phase⟩,⟨3,.phase⟩,⟨4,.phase⟩,⟨5,.phase⟩,⟨6,.phase⟩,⟨7,.phase⟩,⟨8,.phase⟩,⟨9,.phase⟩,⟨10,.phase⟩,⟨11,.phase⟩,⟨12,.phase⟩,⟨13,.phase⟩],none⟩ ev (fun wq _=>pureVal_run (by kernel_rfl) wq) hHeld ?_
      simp only [Act.put,zz1,zz2,zz3]
      refine wpAnyH_done (by kernel_rfl) ?_ _
      clear hHeld
      go_wp2_with fail
      go_meet
      case rel=>exact ⟨W1.heap.size,q,N,ev,rfl,rfl,rfl,AF⟩
  case rest =>
    obtain ⟨pb,q,N,ev,h5,h6,h7,AF⟩:=hcut
    subst h5 h6 h7
    have BW:Hid (Below W1.heap.size W1 wc):=AF.out.2.2.1
    have BA:Hid (Below w.heap.size w wc):=below_on B1.out BW.out
    have FC:Hid (Fr wc fb most v B n z0 d gone fa 0):=⟨HF.out.at_.keep (BW.out.block _ (FrAt.lt HF.out.at_)),own_keep HF.out.own (fun k e=>BW.out.block _ (HF.out.own.lt k e).2),HF.out.dn⟩
    have ZC:Hid (wc.heap[w.heap.size]?=some (.cells (pkCells (blank 0)) 39 (0,0))):=(BW.out.block _ (by have:=S1.out;omega)).trans Z1.out
    have PC:Hid (wc.heap[pb]?=some (.cells (pkCells q) 39 (0,0))∧W1.heap.size≤pb):=⟨AF.out.1,AF.out.2.1⟩
    have DQ:=(show Hid (DecQ W1.heap.size wc q N _ R) from AF.out.2.2.2)
    have GC:Hid (Gw wc):=G1.out.below BW.out
    have HGO:Hid (0≤gone):=HX.out.2.2.2.2.2.1
    clear AF
    cases R with
    | fault x =>
      obtain ⟨hq,hN,gg,hev,hgg⟩:=DQ.out
      have HG:Hid (wc.heap[gg]?=some (.cells #[.int .i64 x.1,.int .i64 x.2] 81 (0,0))):=hgg
      clear DQ hgg
      subst hq hN hev
      go_wp2_with fail
      go_must (go_at_call 43)
      refine (die_any FC.out.at_ HG.out GC.out.2).mono ?_
      rintro e w4 ⟨rfl,hf4,hk4⟩
      have F4:Hid (FrAt w4 fb most (.slice none 0 0) 0 gone (wrap64 (P+x.1)) x.2):=by
        have e1:wrap64 (gone+(d:Int))=(P:Int):=by rw [HX.out.2.1];unfold wrap64;have:=HX.out;omega
        rw [e1] at hf4
        exact hf4
      have K4:Hid (Kq fb none wc w4):=hk4
      have Z4:Hid (w4.heap[w.heap.size]?=some (.cells (pkCells (blank 0)) 39 (0,0))):=(hk4.block _ (lt_of_block ZC.out) (by have:=HX.out;omega) (fun e=>by cases e)).trans ZC.out
      clear hf4 hk4
      go_wp2_with (first | (refine wpList_build_to rfl 39 _ rfl (pkCells (blank 0)) built_zero ?_) | fail)
      go_must (go_at_call 40)
      refine (why_any w4 F4.out).mono ?_
      rintro e w5 ⟨rfl,hw5⟩
      have B5:Hid (Below w4.heap.size w4 w5):=by show Below _ _ _;rw [hw5];exact (Below.refl _ _).alloc (Nat.le_refl _) _
      have N5:Hid (w5.heap[w4.heap.size]?=some (.cells #[.int .i64 (wrap64 (P+x.1)),.int .i64 x.2] 81 (0,0))):=by show _=_;rw [hw5];exact heap_alloc_new w4 _
      have Z5:Hid (w5.heap[w.heap.size]?=some (.cells (pkCells (blank 0)) 39 (0,0))):=(B5.out.block _ (lt_of_block Z4.out)).trans Z4.out
      clear hw5
      go_wp2_with (first | (refine wpList_store_row rfl 39 _ _ rfl w.heap.size (pkCells (blank 0)) rfl rfl 39 (pkCells (blank 0)) Z5.out pk_info rfl (pk_one _) ?_) | fail)
      rw [setRow_self w5 w.heap.size _ 39 (0,0) Z5.out]
      refine bodyPost_ret (results_row_tmp2 rfl _ _ w.heap.size 39 (pkCells (blank 0)) (0,0) _ rfl Z5.out Tryz.underlying39 rfl pk_info) rfl ?_
      refine ⟨⟨_,rfl,N5.out,gone,F4.out.keep (B5.out.block _ (FrAt.lt F4.out))⟩,?_⟩
      exact ⟨B5.out.os.trans (K4.out.os.trans BA.out.os),B5.out.tape.trans (K4.out.tape.trans BA.out.tape),B5.out.output.trans (K4.out.output.trans BA.out.output),Nat.le_trans BA.out.size (Nat.le_trans K4.out.size B5.out.size),fun k hk h1 h2=>by
        have s1:=BA.out.size
        have s2:=K4.out.size
        rw [B5.out.block k (by omega),K4.out.block k (by omega) h1 h2,BA.out.block k hk]⟩
    | more =>
      obtain ⟨hq,hN,hev⟩:=DQ.out
      have NB:Hid (N=0):=hN
      have HQ:Hid (q=blank 0):=hq
      have p0:¬ (0:Int)<(N:Int):=by omega
      clear DQ hN hq
      subst hev
      go_wp2_with fail
      go_must (go_at_call 44)
      refine (drop_any FC.out HX.out.2.2.2.2.1 N (by have:=HX.out;have:=NB.out;omega) (by have:=HX.out;omega) (by have:=HX.out;have:=BA.out.size;omega) HX.out.2.2.2.2.2.1 (by have:=HX.out;omega)).mono ?_
      rintro e w4 ⟨rfl,v',n',z',d',gone',hf',hg',hh',hnn',hzz',hzb',hk',hv'⟩
      have Z4:Hid (w4.heap[w.heap.size]?=some (.cells (pkCells (blank 0)) 39 (0,0))):=(hk'.block _ (lt_of_block ZC.out) (by have:=HX.out;omega) (fun e=>by cases e)).trans ZC.out
      have P4:Hid (w4.heap[pb]?=some (.cells (pkCells q) 39 (0,0))):=(hk'.block _ (lt_of_block PC.out.1) (by have:=HX.out;have:=PC.out.2;have:=S1.out;omega) (fun e=>by cases e)).trans PC.out.1
      have ROW:v'.ownBlock≠some w.heap.size:=by
        intro q
        rcases hf'.own.2 with ⟨r,_⟩|⟨g,cap,cur,r,_,hg,_⟩
        · rw [r] at q;cases q
        · rw [r] at q
          have e':g=w.heap.size:=by simpa [Value.ownBlock] using q
          rw [e',Z4.out] at hg
          simp at hg
      have F6:Hid (FS (w4.setRow w.heap.size (pkCells q)) fb most B v'.ownBlock (P+N) (sh z N) (H-N)):=by
        refine ⟨v',n',z',d',gone',fa,⟨hf'.at_.keep (setRow_ne (by have:=HX.out;omega)),own_keep hf'.own (fun k e=>setRow_ne (fun q=>ROW (q ▸ e))),hf'.dn⟩,rfl,?_,?_,?_,hzb',?_⟩
        · have:=HX.out;omega
        · have:=HX.out;omega
        · intro i hi
          rw [hzz' i]
          show _=z (N+i)
          rw [← HX.out.2.2.2.1 (N+i) (by have:=HX.out;omega),Nat.add_assoc]
        · have:=HX.out;have:=NB.out;have:=hf'.dn;omega
      have K6:Hid (Kq fb none w (w4.setRow w.heap.size (pkCells q))):=by
        refine ⟨hk'.os.trans BA.out.os,hk'.tape.trans BA.out.tape,hk'.output.trans BA.out.output,?_,fun k hk h1 h2=>?_⟩
        · rw [setRow_size];exact Nat.le_trans BA.out.size hk'.size
        · rw [setRow_ne (by omega),hk'.block k (by have:=BA.out.size;omega) h1 h2,BA.out.block k hk]
      have Z6:Hid ((w4.setRow w.heap.size (pkCells q)).heap[w.heap.size]?=some (.cells (pkCells q) 39 (0,0))):=setRow_at Z4.out
      have NW:Hid (v'.ownBlock=rf∨v'.ownBlock=none∨∃ k,v'.ownBlock=some k∧w.heap.size≤k):=by
        rcases hv' with h | h | ⟨k,h1,h2⟩
        · exact .inl (by rw [h];exact HX.out.1)
        · exact .inr (.inl h)
        · exact .inr (.inr ⟨k,h1,by have:=BA.out.size;omega⟩)
      have KK:Hid (Kq fb none wc w4):=hk'
      have HV:Hid (v'=v∨v'.ownBlock=none∨∃ k,v'.ownBlock=some k∧wc.heap.size≤k):=hv'
      clear hf' hg' hh' hnn' hzz' hzb' hk' hv' ROW
      go_wp2_with (first | (refine Pkt.wpList_load_wanted rfl _ rfl pb rfl _ (0,0) P4.out (pk_size _) ?_)|(refine wpList_store_row rfl 39 _ _ rfl w.heap.size (pkCells q) rfl rfl 39 (pkCells (blank 0)) Z4.out pk_info rfl (pk_one _) ?_))
      refine bodyPost_ret (results_row_tmp2 rfl _ _ w.heap.size 39 (pkCells q) (0,0) _ rfl Z6.out Tryz.underlying39 rfl pk_info) rfl ?_
      have F7:=F6.out
      rw [NB.out,Nat.add_zero,sh_zero,Nat.sub_zero] at F7
      refine ⟨⟨v'.ownBlock,?_,F7,NW.out⟩,K6.out⟩
      have h0:=NB.out
      have hq:=HQ.out
      subst h0 hq
      rfl
    | ok p c k =>
      obtain ⟨hN,hev,hin,hal,hus⟩:=DQ.out
      have dk:=dec_ok most HZ.out (by have:=HX.out;omega) HR.out.symm
      have NB:Hid (N=k∧0<k∧k≤H):=⟨hN,dk.1,dk.2.1⟩
      have p0:(0:Int)<(N:Int):=by omega
      have IQ:Hid (In wc q c∧Alike q p∧∀ b,Uses q b→W1.heap.size≤b):=⟨hin,hal,hus⟩
      clear DQ hN hin hal hus dk
      subst hev
      go_wp2_with fail
      go_must (go_at_call 44)
      refine (drop_any FC.out HX.out.2.2.2.2.1 N (by have:=HX.out;have:=NB.out;omega) (by have:=HX.out;omega) (by have:=HX.out;have:=BA.out.size;omega) HX.out.2.2.2.2.2.1 (by have:=HX.out;omega)).mono ?_
      rintro e w4 ⟨rfl,v',n',z',d',gone',hf',hg',hh',hnn',hzz',hzb',hk',hv'⟩
      have Z4:Hid (w4.heap[w.heap.size]?=some (.cells (pkCells (blank 0)) 39 (0,0))):=(hk'.block _ (lt_of_block ZC.out) (by have:=HX.out;omega) (fun e=>by cases e)).trans ZC.out
      have P4:Hid (w4.heap[pb]?=some (.cells (pkCells q) 39 (0,0))):=(hk'.block _ (lt_of_block PC.out.1) (by have:=HX.out;have:=PC.out.2;have:=S1.out;omega) (fun e=>by cases e)).trans PC.out.1
      have ROW:v'.ownBlock≠some w.heap.size:=by
        intro q
        rcases hf'.own.2 with ⟨r,_⟩|⟨g,cap,cur,r,_,hg,_⟩
        · rw [r] at q;cases q
        · rw [r] at q
          have e':g=w.heap.size:=by simpa [Value.ownBlock] using q
          rw [e',Z4.out] at hg
          simp at hg
      have F6:Hid (FS (w4.setRow w.heap.size (pkCells q)) fb most B v'.ownBlock (P+N) (sh z N) (H-N)):=by
        refine ⟨v',n',z',d',gone',fa,⟨hf'.at_.keep (setRow_ne (by have:=HX.out;omega)),own_keep hf'.own (fun k e=>setRow_ne (fun q=>ROW (q ▸ e))),hf'.dn⟩,rfl,?_,?_,?_,hzb',?_⟩
        · have:=HX.out;omega
        · have:=HX.out;omega
        · intro i hi
          rw [hzz' i]
          show _=z (N+i)
          rw [← HX.out.2.2.2.1 (N+i) (by have:=HX.out;omega),Nat.add_assoc]
        · have:=HX.out;have:=NB.out;have:=hf'.dn;omega
      have K6:Hid (Kq fb none w (w4.setRow w.heap.size (pkCells q))):=by
        refine ⟨hk'.os.trans BA.out.os,hk'.tape.trans BA.out.tape,hk'.output.trans BA.out.output,?_,fun k hk h1 h2=>?_⟩
        · rw [setRow_size];exact Nat.le_trans BA.out.size hk'.size
        · rw [setRow_ne (by omega),hk'.block k (by have:=BA.out.size;omega) h1 h2,BA.out.block k hk]
      have Z6:Hid ((w4.setRow w.heap.size (pkCells q)).heap[w.heap.size]?=some (.cells (pkCells q) 39 (0,0))):=setRow_at Z4.out
      have NW:Hid (v'.ownBlock=rf∨v'.ownBlock=none∨∃ k,v'.ownBlock=some k∧w.heap.size≤k):=by
        rcases hv' with h | h | ⟨k,h1,h2⟩
        · exact .inl (by rw [h];exact HX.out.1)
        · exact .inr (.inl h)
        · exact .inr (.inr ⟨k,h1,by have:=BA.out.size;omega⟩)
      have KK:Hid (Kq fb none wc w4):=hk'
      have HV:Hid (v'=v∨v'.ownBlock=none∨∃ k,v'.ownBlock=some k∧wc.heap.size≤k):=hv'
      clear hf' hg' hh' hnn' hzz' hzb' hk' hv' ROW
      go_wp2_with (first | (refine Pkt.wpList_load_wanted rfl _ rfl pb rfl _ (0,0) P4.out (pk_size _) ?_)|(refine wpList_store_row rfl 39 _ _ rfl w.heap.size (pkCells q) rfl rfl 39 (pkCells (blank 0)) Z4.out pk_info rfl (pk_one _) ?_))
      refine bodyPost_ret (results_row_tmp2 rfl _ _ w.heap.size 39 (pkCells q) (0,0) _ rfl Z6.out Tryz.underlying39 rfl pk_info) rfl ?_
      have e1:=NB.out.1
      have F7:=F6.out
      rw [e1] at F7
      have hd:decide (0<N)=true:=by have:=NB.out;simp;omega
      refine ⟨⟨q,v'.ownBlock,?_,F7,?_,IQ.out.2.1,fun b hb=>⟨?_,?_⟩,NW.out⟩,K6.out⟩
      · rw [hd];rfl
      · refine In.congr IQ.out.1 fun b hb=>?_
        have b1:=IQ.out.2.2 b hb
        have b2:=In.lt IQ.out.1 hb
        have:=S1.out
        have:=HX.out
        rw [setRow_ne (by omega),KK.out.block b b2 (by omega) (fun e=>by cases e)]
      · have:=IQ.out.2.2 b hb;have:=S1.out;omega
      · have b1:=IQ.out.2.2 b hb
        have b2:=In.lt IQ.out.1 hb
        intro q
        rcases HV.out with h | h | ⟨j,h1,h2⟩
        · rw [h] at q
          have:=(HF.out.own.lt b q).2
          omega
        · rw [h] at q;cases q
        · rw [h1] at q;cases q;omega
structure Ch (S:Nat→Prop) (w w':World):Prop where
 os:w'.os=w.os
 tape:w'.tape=w.tape
 output:w'.output=w.output
 size:w.heap.size≤w'.heap.size
 block:∀ k,k<w.heap.size→¬ S k→w'.heap[k]?=w.heap[k]?
theorem Ch.refl (S:Nat→Prop) (w:World):Ch S w w:=⟨rfl,rfl,rfl,Nat.le_refl _,fun _ _ _=>rfl⟩
theorem Ch.trans {S S':Nat→Prop} {a b c:World} (h:Ch S a b) (k:Ch S' b c) (hs:∀ j,j<a.heap.size→S' j→S j):Ch S a c :=
 ⟨k.os.trans h.os,k.tape.trans h.tape,k.output.trans h.output,Nat.le_trans h.size k.size,fun j hj hn=>(k.block j (by have:=h.size;omega) (fun q=>hn (hs j hj q))).trans (h.block j hj hn)⟩
theorem Ch.mono {S S':Nat→Prop} {a b:World} (h:Ch S a b) (hs:∀ j,j<a.heap.size→S j→S' j):Ch S' a b:=(Ch.refl S' a).trans h hs
theorem Below.ch {S:Nat→Prop} {a b:World} (h:Below a.heap.size a b):Ch S a b:=⟨h.os,h.tape,h.output,h.size,fun k hk _=>h.block k hk⟩
theorem Kq.ch {fb:Nat} {row:Option Nat} {a b:World} (h:Kq fb row a b):Ch (fun k=>k=fb∨row=some k) a b:=⟨h.os,h.tape,h.output,h.size,fun k hk hn=>h.block k hk (fun e=>hn (.inl e)) (fun e=>hn (.inr e))⟩
theorem ch_set {w:World} (hb i:Nat) (v:Value):Ch (fun k=>k=hb) w (w.setCell ⟨hb,i,none⟩ v):=⟨rfl,rfl,rfl,by simp [World.setCell],fun k hk hn=>Below.heap_setCell _ _ _ _ hn⟩
def Ps (w:World) (no:Nat→Prop):List Pk→List (Pk×Cn)→Prop
 | [],[]=>True
 | q::qs,x::L=>(Alike q x.1∧In w q x.2∧∀ b,Uses q b→¬ no b)∧Ps w no qs L
 | _,_=>False
theorem Ps.len {w:World} {no:Nat→Prop}:∀ {qs:List Pk} {L:List (Pk×Cn)},Ps w no qs L→qs.length=L.length
 | [],[],_=>rfl
 | q::qs,x::L,h=>by simp [Ps.len h.2]
 | [],_::_,h=>h.elim
 | _::_,[],h=>h.elim
theorem Ps.at {w:World} {no:Nat→Prop}:∀ {qs:List Pk} {L:List (Pk×Cn)},Ps w no qs L→∀ (i:Nat) q x,qs[i]?=some q→L[i]?=some x→Alike q x.1∧In w q x.2
 | [],[],_,i,q,x,e,_=>by simp at e
 | q'::qs,x'::L,h,0,q,x,e,e'=>by simp at e e';subst e e';exact ⟨h.1.1,h.1.2.1⟩
 | q'::qs,x'::L,h,i+1,q,x,e,e'=>Ps.at h.2 i q x (by simpa using e) (by simpa using e')
 | [],_::_,h,_,_,_,_,_=>h.elim
 | _::_,[],h,_,_,_,_,_=>h.elim
def Nw (n0:Nat) (r r':Option Nat):Prop:=r'=r∨r'=none∨∃ k,r'=some k∧n0≤k
theorem blk_ne {w:World} {g g':Nat} {c c':Array Value} {t t':TypeId} {f f':Nat×Nat} (h:w.heap[g]?=some (.cells c t f)) (h':w.heap[g']?=some (.cells c' t' f')) (ht:t≠t'):g≠g':=by
 intro e
 subst e
 rw [h] at h'
 simp at h'
 exact ht h'.2.1
theorem own_blk {w:World} {B e s n:Nat} {v:Value} {xs:List Value} (h:w.ownsRow B e s v n xs) {k:Nat} (hk:v.ownBlock=some k):∃ c,w.heap[k]?=some (.cells c e (0,0)):=by
 rcases h.2 with ⟨r,_⟩|⟨g,cap,cur,r,_,hg,_⟩
 · rw [r] at hk;cases hk
 ·
  rw [r] at hk
  have e':g=k:=by simpa [Value.ownBlock] using hk
  subst e'
  exact ⟨_,hg⟩
theorem FS.blk {w:World} {fb:Nat} {most:Int} {B:Nat} {rf:Option Nat} {P:Nat} {z:Nat→Int} {H:Nat} (h:FS w fb most B rf P z H):(∃ c,w.heap[fb]?=some (.cells c 83 (0,0)))∧∀ k,rf=some k→B≤k∧∃ c,w.heap[k]?=some (.cells c 5 (0,0)):=by
 obtain ⟨v,n,z0,d,gone,fa,hf,hr,rest⟩:=h
 exact ⟨⟨_,hf.at_⟩,fun k e=>⟨(hf.own.lt k (hr ▸ e)).1,own_blk hf.own (hr ▸ e)⟩⟩
end Go.Proofs.YtpldoeeahhaimaaGreatDoor
