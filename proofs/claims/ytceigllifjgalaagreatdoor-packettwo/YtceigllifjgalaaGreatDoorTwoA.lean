import Derived.Test.YtceigllifjgalaaGreatDoorPOp
import Derived.Test.YtceigllifjgalaaGreatDoorXl
import Derived.Test.YtceigllifjgalaaGreatDoorCards
import Derived.Test.YtceigllifjgalaaGreatDoorTie
import Derived.OpenShut
import Derived.ShutString
import Derived.Stop.LaidErr
import Derived.Deep.DeepHandedRow
namespace Go.Proofs.YtceigllifjgalaaGreatDoor.packetTwo
open Go Go.ChangeShapes Go.WideShapes Go.ChangeAt Go.RowKit
open Pkt (Pk Sl zaL zba)
open Tw (zbX)
set_option linter.unusedSimpArgs false
set_option linter.unusedVariables false
set_option maxRecDepth 100000
theorem zaK {s:Sl} (h:Pkt.SlOk s):Pkt.Nil s:=fun e=>by
 rcases h.at_ with q | ⟨b,off,q⟩
 · exact q.2
 · rw [e] at q;cases q
theorem own:ownKnob Tryz.prog.godebug=none:=by kernel_rfl
theorem laidOut:laidOutB Tryz.prog=true:=by kernel_rfl
def litCell {H:Type}:DataW H→Value
 | .lit (.int k n)=>.int k n
 | _=>.bool false
def tabCells:DataW Unit→Array Value
 | .agg l=>(l.map litCell).toArray
 | _=>#[]
def putTab (i:Nat) (cs:Array Value) (w:World):World:={ w with heap:=w.heap.modify i fun
 | .cells _ t frozen=>.cells cs t frozen
 | o=>o }
def laidL:List (String×DataW Unit):=[("math/bits.deBruijn32tab",Rows.laid_math_bits_deBruijn32tab),("math/bits.deBruijn64tab",Rows.laid_math_bits_deBruijn64tab),("internal/strconv.uint64pow10",Rows.laid_internal_strconv_uint64pow10)]
noncomputable def laidWorld (os:Os):World:=putTab 4 (tabCells Rows.laid_math_bits_deBruijn32tab) (putTab 5 (tabCells Rows.laid_math_bits_deBruijn64tab) (putTab 2 (tabCells Rows.laid_internal_strconv_uint64pow10) (World.holding Tryz.prog os ⟨#[],#[],[]⟩)))
theorem laidWorld_met (os:Os) (args:Array Value):laidMetH Tryz.prog laidL ((laidWorld os).forCall (fun _ _=>0) ⟨#[],args,[]⟩).memory:=by
 have h:laidMet Tryz.prog laidL ((laidWorld os).forCall (fun _ _=>0) ⟨#[],args,[]⟩).memory:=laidMet_of_run' 8 (by kernel_rfl) (by kernel_rfl)
 exact h
theorem tab_type:(Tryz.prog.globals[2]?).map (·.type)=some 335:=by kernel_rfl
theorem tab_data:(Rows.laid_internal_strconv_uint64pow10:DataW Unit)=Lib.tabData .u64 Lib.pow10Tab:=by rfl
theorem laid_plain {w:World} (h:laidMetH Tryz.prog laidL w):laidMet Tryz.prog laidL w:=h
theorem laid_tab {w:World} (h:laidMetH Tryz.prog laidL w):Bk.Tab w:=by
 have h1:=(laid_plain h).tail.tail
 rw [tab_data] at h1
 exact Lib.tabIs_of_head Bk.pow_at tab_type Tryz.underlying335 Tryz.underlying322 (by kernel_rfl) (by kernel_rfl) h1
def none_:Pk:=⟨0,0,false,0,ByteArray.empty,false,ByteArray.empty,⟨none,0,0⟩,0,false,false,ByteArray.empty,false,⟨none,0,0⟩,false,0,false,ByteArray.empty,⟨none,0,0⟩,0,false,0,⟨none,0,0⟩,⟨none,0,0⟩,⟨none,0,0⟩⟩
theorem witness_row (os:Os) {H:Type} (enc:TypeId×Value→H) :
    (OpenSpec.ofChange Rows.packetTwoSpec).preRow enc Tryz.prog Tryz.f3 [] false laidL ((laidWorld os).forCall (fun _ _=>0) ⟨#[],#[none_.v,none_.v],[]⟩).memory #[none_.v,none_.v] :=
  OpenSpec.preRow_of_B rfl 8 (by kernel_rfl) (by kernel_rfl) (laidWorld_met os _)
theorem lifted (os:Os) (started:os.Started) (H:Type) (enc:TypeId×Value→H) (F:Stop.Interp) :
    ReturnsInHanded {} Tryz.checked os 3 .any ((OpenSpec.ofChange Rows.packetTwoSpec).preRow enc Tryz.prog Tryz.f3 [] false laidL)
      (((OpenSpec.ofChange Rows.packetTwoSpec).at F).post enc Tryz.prog Tryz.f3 false true false false):=by
  refine returnsInHanded_of_row (C:=Tryz.checked) (s:=OpenSpec.ofChange Rows.packetTwoSpec) own started (by kernel_rfl) Tryz.func3
    (witness_row_at (enc:=enc) (C:=Tryz.checked) false (laidWorld os) #[none_.v,none_.v] rfl (by kernel_rfl) (by kernel_rfl) (by kernel_rfl) (witness_row os enc)) ?_
  intro W base args ds gs before hval0 hW _ _ hsz0 hL hsh _
  have hval:∀ (j:Nat) t v,Tryz.f3.params[j]?=some t→args[j]?=some v→Value.okWide Tryz.prog W .any base t v:=hval0
  have hW':=hW
  obtain ⟨p,q,hA0,hV0,rfl,hfz,hnd⟩:=hW
  have hA:DataW.TrodAll enc Tryz.prog W 0 (fun _=>true) true Tryz.f3.params.toList args.toList ds p:=hA0
  have hV:DataW.TrodVars enc Tryz.prog W (fun _=>true) [] gs q:=hV0
  rw [Tryz.params3] at hA hval
  obtain ⟨v0,v1,d0,d1,p0,p1,rfl,rfl,rfl,h0,h1⟩:=trodAll_two hA
  obtain ⟨rfl,rfl⟩:gs=[]∧q=[]:=by
    cases gs with
    | nil=>exact ⟨rfl,hV⟩
    | cons g r=>exact absurd hV (by intro h;cases h)
  obtain ⟨pk,rfl,hpk⟩:=zaL (hval 0 29 v0 rfl rfl)
  obtain ⟨qk,rfl,hqk⟩:=zaL (hval 1 29 v1 rfl rfl)
  have k0:=h0
  have k1:=h1
  have lt0:∀ x ∈ p0,x.block<W.heap.size:=by obtain ⟨m,hm⟩:=k0;exact DataW.trod_lt m _ _ _ hm
  have lt1:∀ x ∈ p1,x.block<W.heap.size:=by obtain ⟨m,hm⟩:=k1;exact DataW.trod_lt m _ _ _ hm
  obtain ⟨c,hin,hfit⟩:=zba hpk h0
  obtain ⟨d,hin',hfit'⟩:=zba hqk h1
  have e1:((OpenSpec.ofChange Rows.packetTwoSpec).at F).fn H ([d0,d1]++[]) = { results:=[.lit (.bool true)],args:=[d0,d1] }:=by simp [Rows.packetTwoSpec];rfl
  refine (zbX pk qk c d hin hin' hfit hfit' ⟨zaK hpk.wp,zaK hpk.ps,zaK hpk.mp,zaK hpk.an,zaK hpk.cn,zaK hpk.fn⟩ (laid_tab hL)).mono fun e W' ⟨he,bel⟩=>?_
  subst he
  refine ⟨_,rfl,_,_,_,[],p0++(p1++[]),[],hW',?_,?_,?_,bel.frame _,fun h=>by cases h⟩
  · rw [e1];exact trodAll_mk1 (shut_bool Tryz.underlying4 true)
  · rw [e1];exact trodAll_cons_mk (Below.trod laidOut (by kernel_rfl) (of_decide_eq_true (by kernel_rfl)) k0 bel lt0) (trodAll_cons_mk (Below.trod laidOut (by kernel_rfl) (of_decide_eq_true (by kernel_rfl)) k1 bel lt1) trodAll_mk0)
  · rw [e1];rfl
end Go.Proofs.YtceigllifjgalaaGreatDoor.packetTwo
