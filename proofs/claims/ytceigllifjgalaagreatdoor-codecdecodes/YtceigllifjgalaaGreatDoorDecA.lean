import Derived.Test.YtceigllifjgalaaGreatDoorEnf
import Derived.Test.YtceigllifjgalaaGreatDoorCards
import Derived.Test.YtceigllifjgalaaGreatDoorTie
namespace Go.Proofs.YtceigllifjgalaaGreatDoor.codecDecodes
open Go Go.ChangeShapes Go.WideShapes Go.ChangeAt Go.RowKit
open Pkt (Gd)
open Dr (zen)
set_option linter.unusedSimpArgs false
set_option linter.unusedVariables false
set_option maxRecDepth 100000
theorem witness_row (os:Os) {H:Type} (enc:TypeId×Value->H) : (OpenSpec.ofChange Rows.codecDecodesSpec).preRow enc Tryz.prog Tryz.f4 [] false laidL ((laidWorld os).forCall (fun _ _=>0) ⟨#[],#[.slice none 0 0,.int .i64 0],[]⟩).memory #[.slice none 0 0,.int .i64 0] := OpenSpec.preRow_of_B rfl 8 (by kernel_rfl) (by kernel_rfl) (laidWorld_met os _)
theorem lifted (os:Os) (started:os.Started) (H:Type) (enc:TypeId×Value->H) (F:Stop.Interp) :
 ReturnsInHanded {} Tryz.checked os 4 .any ((OpenSpec.ofChange Rows.codecDecodesSpec).preRow enc Tryz.prog Tryz.f4 [] false laidL) (((OpenSpec.ofChange Rows.codecDecodesSpec).at F).post enc Tryz.prog Tryz.f4 false true false false):=by
 refine returnsInHanded_of_row (C:=Tryz.checked) (s:=OpenSpec.ofChange Rows.codecDecodesSpec) Tryz.own started (by kernel_rfl) Tryz.func4 (witness_row_at (enc:=enc) (C:=Tryz.checked) false (laidWorld os) #[.slice none 0 0,.int .i64 0] rfl (by kernel_rfl) (by kernel_rfl) (by kernel_rfl) (witness_row os enc)) ?_;intro W base args ds gs before hval0 hW _ _ hsz0 hL hsh _;have hval:∀ (j:Nat) t v,Tryz.f4.params[j]?=some t->args[j]?=some v->Value.okWide Tryz.prog W .any base t v:=hval0;have hW':=hW;obtain ⟨p,q,hA0,hV0,rfl,hfz,hnd⟩:=hW;have hA:DataW.TrodAll enc Tryz.prog W 0 (fun _=>true) true Tryz.f4.params.toList args.toList ds p:=hA0;have hV:DataW.TrodVars enc Tryz.prog W (fun _=>true) [] gs q:=hV0;rw [Tryz.params4] at hA hval;obtain ⟨v0,v1,d0,d1,p0,p1,rfl,rfl,rfl,h0,h1⟩:=trodAll_two hA;obtain ⟨rfl,rfl⟩:gs=[]/\q=[]:=by cases gs with | nil=>exact ⟨rfl,hV⟩ | cons g r=>exact absurd hV (by intro h;cases h)
 obtain ⟨a0,len0,cap0,rfl⟩:=okWide_slice Tryz.underlying22 (hval 0 22 v0 rfl rfl);have pl0:=open_plain22 (hval 0 22 _ rfl rfl);obtain ⟨a1,rfl,rfl,rfl,w1⟩:=open_int Tryz.underlying3 (hval 1 3 v1 rfl rfl) h1;have k0:=h0;have lt0:∀ x ∈ p0,x.block<W.heap.size:=by obtain ⟨m,hm⟩:=k0;exact DataW.trod_lt m _ _ _ hm
 obtain ⟨z,hc⟩:=open_bytes h0;have hg:Gd W:=⟨laid_kinds hL,mx_any W hsh⟩;have e1:((OpenSpec.ofChange Rows.codecDecodesSpec).at F).fn H ([d0,.lit (.int .i64 a1)]++[]) = { results:=[.lit (.bool true)],args:=[d0,.lit (.int .i64 a1)] }:=by simp [Rows.codecDecodesSpec];rfl
 refine (zen a1 hc pl0 hg (laid_tab hL)).mono fun e W' ⟨he,bel⟩=>?_;subst he;refine ⟨_,rfl,_,_,_,[],p0++([]++[]),[],hW',?_,?_,?_,bel.frame _,fun h=>by cases h⟩;· rw [e1];exact trodAll_mk1 (shut_bool Tryz.underlying4 true)
 · rw [e1];exact trodAll_cons_mk (Below.trod Tryz.laidOut (by kernel_rfl) (of_decide_eq_true (by kernel_rfl)) k0 bel lt0) (trodAll_cons_mk (shut_int Tryz.underlying3 w1) trodAll_mk0)
 · rw [e1];rfl
end Go.Proofs.YtceigllifjgalaaGreatDoor.codecDecodes
