import Derived.Test.YtceigllifjgalaaGreatDoorRmb
import Derived.Test.YtceigllifjgalaaGreatDoorShelj
import Derived.Lib.AppendIntMem
namespace Go.Proofs.YtceigllifjgalaaGreatDoor.Bk
open Go Go.RowKit
set_option linter.unusedSimpArgs false
set_option linter.unusedVariables false
set_option maxRecDepth 100000
section
variable {w:World} {v:Option Value}
theorem pow_at:Tryz.prog.globalNamed "internal/strconv.uint64pow10" = some 2:=by kernel_rfl
abbrev Tab (w:World):Prop:=Lib.TabIs Tryz.prog w "internal/strconv.uint64pow10" .u64 Lib.pow10Tab
theorem Tab.keep {w':World} (h:Tab w) (hk:w'.heap[2]?=w.heap[2]?):Tab w':=by have h':w.var? Tryz.prog "internal/strconv.uint64pow10" = _:=h;show w'.var? Tryz.prog "internal/strconv.uint64pow10" = _;rw [<-h'];unfold World.var?;rw [pow_at];simp only [Option.bind_some,hk]
theorem Tab.lt (h:Tab w):2<w.heap.size:=by
 have h':w.var? Tryz.prog "internal/strconv.uint64pow10" = _:=h;unfold World.var? at h';rw [pow_at] at h';simp only [Option.bind_some] at h';rcases Nat.lt_or_ge 2 w.heap.size with q | q;· exact q
 · rw [Array.getElem?_eq_none q] at h'
   cases h'
theorem ito_of (h:Tab w):Ito w:=fun n h0 h1=>by refine (Tryz.strconv_Itoa n h0 h1 w h).mono ?_;rintro e w' ⟨rfl,k,os,rfl⟩;exact ⟨⟨_,rfl⟩,Lib.below_grow _ _ (Nat.le_refl _) k os⟩
theorem its_of {S:Nat->Prop} (h:Tab w) (hs:¬ S 2):ItS S w:=fun wx c=>ito_of (h.keep (c.block 2 h.lt hs))
noncomputable def bk0:Array Value:=(Tryz.prog.built 55 []).getD #[]
theorem bk0_some:(Tryz.prog.built 55 []).isSome=true:=by kernel_rfl
theorem zdS {o:Oper} {a:Act} {K:Act->World->Prop} {Q:Exit->Act->World->Prop} (ho:o.op = .build 55 #[]) (h:K (a.put o.dst (.agg bk0)) w):o.wp Tryz.prog a w K Q:=by
 have e:(Array.map (fun (x:Nat×Operand)=>match x with | (i,x)=>(i,a.eval x)) #[]).toList=[]:=by simp
 refine wp_build 55 #[] ho ?_ ?_
 · rw [e]
   exact bk0_some
 · rw [e]
   exact h
def nilAt:Option Value->Bool | some (.slice none 0 0)=>true | _=>false
theorem nilAt_eq (h:nilAt v=true):v=some (.slice none 0 0):=by
 unfold nilAt at h;split at h;· rfl
 · cases h
def zeroAt:Option Value->Bool | some (.int .i64 0)=>true | _=>false
theorem zeroAt_eq (h:zeroAt v=true):v=some (.int .i64 0):=by
 unfold zeroAt at h;split at h;· rfl
 · cases h
theorem bk0_rows:∀ k,k<=16->∀ i,i<=7->bk0[4+9*k+i]?=some (.slice none 0 0):=by
 have hr:((List.range 17).all fun k=>(List.range 8).all fun i=>nilAt (((Tryz.prog.built 55 []).getD #[])[4+9*k+i]?))=true:=by kernel_rfl
 intro k hk i hi;have h1:=List.all_eq_true.1 hr k (List.mem_range.2 (by omega));have h2:=List.all_eq_true.1 h1 i (List.mem_range.2 (by omega));exact nilAt_eq h2
theorem bk0_last:∀ k,k<=16->bk0[4+9*k+8]?=some (.int .i64 0):=by
 have hr:((List.range 17).all fun k=>zeroAt (((Tryz.prog.built 55 []).getD #[])[4+9*k+8]?))=true:=by kernel_rfl
 intro k hk;exact zeroAt_eq (List.all_eq_true.1 hr k (List.mem_range.2 (by omega)))
theorem bk_new {bb:Nat} (hat:BkAt w bb bk0):Bk w bb 0 (fun k=>k=bb) := bk_start hat (by unfold bk0;kernel_rfl) (by unfold bk0;kernel_rfl) (by unfold bk0;kernel_rfl) (by unfold bk0;kernel_rfl) bk0_rows bk0_last
end
end Go.Proofs.YtceigllifjgalaaGreatDoor.Bk
