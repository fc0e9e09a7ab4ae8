import Derived.Test.YtpldoeeahhaimaaGreatDoorEm
import Derived.OpenShut
import Derived.ShutString
import Derived.Deep.DeepHandedRow
import Derived.SevenTiedAt
namespace Go.Proofs.YtpldoeeahhaimaaGreatDoor
open Go Go.ChangeShapes Go.WideShapes Go.ChangeAt Go.RowKit
open Pkt (forms kinds_of_laid KindsAt)
set_option linter.all false
set_option maxRecDepth 100000
theorem Tryz.own:ownKnob Tryz.prog.godebug=none:=by kernel_rfl
theorem Tryz.laidOut:laidOutB Tryz.prog=true:=by kernel_rfl
def kindCells:Array Value:=(forms.flatMap fun x=>[.string ⟨x.1.toArray⟩,.int .i64 x.2.1,.int .i64 x.2.2]).toArray
theorem Tryz.et:Tryz.prog.globalNamed "errors.errorType" = some 0:=by kernel_rfl
theorem Tryz.rt:(Tryz.prog.cutTypes.find? (·.1 == "internal/reflectlite.rtype")).map (·.2)=some 137:=by kernel_rfl
theorem Tryz.oneRow:((List.range 237).filter fun t=>Tryz.prog.rowNamed t [101,114,114,111,114])=[65]:=by kernel_rfl
theorem Tryz.size:Tryz.prog.types.size=237:=by kernel_rfl
def frLaid:List (String×DataW Unit):=[("errors.errorType",Rows.laid_errors_errorType),("crier/packet.kinds",Rows.laid_crier_packet_kinds)]
theorem fr_parts {W:World} (h:laidMetH Tryz.prog frLaid W):KindsAt W/\Et W:=by
 have h':laidMet Tryz.prog [("crier/packet.kinds",Rows.laid_crier_packet_kinds)] W/\handlesMet Tryz.prog [("errors.errorType",Rows.laid_errors_errorType)] W:=h;refine ⟨kinds_of_laid h'.1,?_⟩;obtain ⟨name,u,ty,e1,e2,e3,e4,e5⟩:=h'.2 _ (List.mem_singleton.2 rfl);have en:name=[101,114,114,111,114]:=(Option.some.inj e1).symm;subst en;obtain rfl:=Option.some.inj (Tryz.rt.symm.trans e2);have hm:ty ∈ (List.range 237).filter fun t=>Tryz.prog.rowNamed t [101,114,114,111,114]:=List.mem_filter.2 ⟨List.mem_range.2 (by rw [<-Tryz.size];exact e3),e4⟩;rw [Tryz.oneRow] at hm;obtain rfl:=List.mem_singleton.1 hm;have hh:typeHandle Tryz.prog 65 = .pointer (some ⟨3,65,none⟩):=by kernel_rfl
 rw [hh] at e5;show W.cell? ⟨0,0,none⟩=_;simpa using World.var?_cell Tryz.et e5 0
def putKinds:Obj->Obj | .cells _ t frozen=>.cells kindCells t frozen | o=>o
def putType:Obj->Obj | .cells _ t frozen=>.cells #[.iface 137 (.agg #[.pointer (some ⟨3,65,none⟩)])] t frozen | o=>o
theorem frWorld_met (os:Os) (args:Array Value):laidMetH Tryz.prog frLaid (({ World.holding Tryz.prog os ⟨#[],#[],[]⟩ with heap:=((World.holding Tryz.prog os ⟨#[],#[],[]⟩).heap.modify 1 putKinds).modify 0 putType }:World).forCall (fun _ _=>0) ⟨#[],args,[]⟩).memory := laidMetH_of_parts (show laidMet Tryz.prog [("crier/packet.kinds",Rows.laid_crier_packet_kinds)] _ from laidMet_of_run' 8 (by kernel_rfl) (by kernel_rfl)) (by kernel_rfl)
theorem mx_any (w:World) (h:w.ShapedOpen Tryz.prog):∃ m,w.cell? ⟨2,0,none⟩=some (.int .i64 m) := Go.Proofs.cell_of_shapedOpen_int (zero:=#[.int .i64 0]) (t:=3) h (of_decide_eq_true (by kernel_rfl)) (by kernel_rfl) rfl (by kernel_rfl) (by kernel_rfl) Tryz.underlying3
theorem open_plain22 {W:World} {base:Nat} {a:Option Addr} {len cap:Nat} (h:Value.okWide Tryz.prog W .any base 22 (.slice a len cap)):∀ ad,a=some ad->∃ b off,ad=⟨b,off,none⟩:=by intro ad e;subst e;unfold Value.okWide at h;rw [Tryz.underlying22] at h;have h':Cell.okWide Tryz.prog W .any base 22 (.slice (some ad) len cap):=h;unfold Cell.okWide at h';rw [Tryz.underlying22] at h';simp only [Cell.ok,Tryz.underlying22] at h';obtain ⟨h1,h2,_,h3,_⟩:=h';obtain ⟨b,off,spot⟩:=ad;simp only at h3;subst h3;exact ⟨b,off,rfl⟩
end Go.Proofs.YtpldoeeahhaimaaGreatDoor
