import Derived.Test.YtceigllifjgalaaGreatDoorCdb
import Derived.OpenShut
import Derived.ShutString
import Derived.Stop.LaidErr
import Derived.Deep.DeepHandedRow
import Derived.SevenTiedAt
namespace Go.Proofs.YtceigllifjgalaaGreatDoor
open Go Go.ChangeShapes Go.WideShapes Go.ChangeAt Go.RowKit
open Pkt (forms zc4 KindsAt Gd)
set_option linter.unusedSimpArgs false
set_option linter.unusedVariables false
set_option maxRecDepth 100000
section
variable {W w:World} {base cap len:Nat} {a:Option Addr}
theorem Tryz.own:ownKnob Tryz.prog.godebug=none:=by kernel_rfl
theorem Tryz.laidOut:laidOutB Tryz.prog=true:=by kernel_rfl
def kindCells:Array Value:=(forms.flatMap fun x=>[.string ⟨x.1.toArray⟩,.int .i64 x.2.1,.int .i64 x.2.2]).toArray
def litCell {H:Type}:DataW H->Value | .lit (.int k n)=>.int k n | _=>.bool false
def tabCells:DataW Unit->Array Value | .agg l=>(l.map litCell).toArray | _=>#[]
def putTab (i:Nat) (cs:Array Value) (w:World):World:={ w with heap:=w.heap.modify i fun | .cells _ t frozen=>.cells cs t frozen | o=>o }
def laidL:List (String×DataW Unit):=[("math/bits.deBruijn32tab",Rows.laid_math_bits_deBruijn32tab),("math/bits.deBruijn64tab",Rows.laid_math_bits_deBruijn64tab),("internal/strconv.uint64pow10",Rows.laid_internal_strconv_uint64pow10),("crier/packet.kinds",Rows.laid_crier_packet_kinds)]
noncomputable def laidWorld (os:Os):World:=putTab 4 (tabCells Rows.laid_math_bits_deBruijn32tab) (putTab 5 (tabCells Rows.laid_math_bits_deBruijn64tab) (putTab 2 (tabCells Rows.laid_internal_strconv_uint64pow10) (putTab 0 kindCells (World.holding Tryz.prog os ⟨#[],#[],[]⟩))))
theorem laidWorld_met (os:Os) (args:Array Value):laidMetH Tryz.prog laidL ((laidWorld os).forCall (fun _ _=>0) ⟨#[],args,[]⟩).memory:=by have h:laidMet Tryz.prog laidL ((laidWorld os).forCall (fun _ _=>0) ⟨#[],args,[]⟩).memory:=laidMet_of_run' 8 (by kernel_rfl) (by kernel_rfl);exact h
theorem tab_type:(Tryz.prog.globals[2]?).map (·.type)=some 335:=by kernel_rfl
theorem tab_data:(Rows.laid_internal_strconv_uint64pow10:DataW Unit)=Lib.tabData .u64 Lib.pow10Tab:=by rfl
theorem zd6 (h:laidMetH Tryz.prog laidL w):laidMet Tryz.prog laidL w:=h
theorem laid_tab (h:laidMetH Tryz.prog laidL w):Bk.Tab w:=by have h1:=(zd6 h).tail.tail;rw [tab_data] at h1;exact Lib.tabIs_of_head Bk.pow_at tab_type Tryz.underlying335 Tryz.underlying322 (by kernel_rfl) (by kernel_rfl) h1
theorem laid_kinds (h:laidMetH Tryz.prog laidL w):KindsAt w := zc4 (show laidMetH Tryz.prog [("crier/packet.kinds",Rows.laid_crier_packet_kinds)] w from (zd6 h).tail.tail.tail)
theorem mx_any (w:World) (h:w.ShapedOpen Tryz.prog):∃ m,w.cell? ⟨3,0,none⟩=some (.int .i64 m) := Go.Proofs.cell_of_shapedOpen_int (zero:=#[.int .i64 0]) (t:=3) h (of_decide_eq_true (by kernel_rfl)) (by kernel_rfl) rfl (by kernel_rfl) (by kernel_rfl) Tryz.underlying3
theorem open_plain22 (h:Value.okWide Tryz.prog W .any base 22 (.slice a len cap)):∀ ad,a=some ad->∃ b off,ad=⟨b,off,none⟩:=by intro ad e;subst e;unfold Value.okWide at h;rw [Tryz.underlying22] at h;have h':Cell.okWide Tryz.prog W .any base 22 (.slice (some ad) len cap):=h;unfold Cell.okWide at h';rw [Tryz.underlying22] at h';simp only [Cell.ok,Tryz.underlying22] at h';obtain ⟨h1,h2,_,h3,_⟩:=h';obtain ⟨b,off,spot⟩:=ad;simp only at h3;subst h3;exact ⟨b,off,rfl⟩
theorem open_bytes {H:Type} {enc:TypeId×Value->H} {held:Bool} {d:DataW H} {p:List MemPlace} (h:DataW.Trod enc Tryz.prog W base (fun _=>true) held 22 (.slice a len cap) d p):∃ z,Came W a len cap z:=by
 obtain ⟨fuel,hf⟩:=h;rcases open_ints Tryz.underlying22 Tryz.underlying5 (by kernel_rfl) hf with ⟨hcs,_⟩|⟨x,l,c,zs,hcs,_,hl,hm,hz,_,hcell,hwz⟩;· simp [Value.cells] at hcs;obtain ⟨rfl,rfl,rfl⟩:=hcs;exact ⟨fun _=>0,Nat.le_refl _,fun i=>by simp,.inl ⟨rfl,rfl,rfl⟩⟩
 ·
  simp [Value.cells] at hcs;obtain ⟨rfl,rfl,rfl⟩:=hcs;have hz':zs.length=cap:=by simpa using hz
  refine ⟨fun i=>zs.getD i 0,hl,fun i=>?_,.inr ⟨_,rfl,fun i hi=>hcell i (by omega)⟩⟩;have h:=range_u8 hwz i;simpa using h
end
end Go.Proofs.YtceigllifjgalaaGreatDoor
