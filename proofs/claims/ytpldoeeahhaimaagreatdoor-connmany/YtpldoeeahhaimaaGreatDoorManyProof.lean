import Derived.Test.YtpldoeeahhaimaaGreatDoorEn
import Derived.Test.YtpldoeeahhaimaaGreatDoorNc
import Derived.Test.YtpldoeeahhaimaaGreatDoorCards
import Derived.Test.YtpldoeeahhaimaaGreatDoorTie
namespace Go.Proofs.YtpldoeeahhaimaaGreatDoor.connMany
open Go Go.ChangeShapes Go.WideShapes Go.ChangeAt Go.RowKit
open Pkt (Gd Sl Is By)
open Dr (open_script connMany_any Wk)
set_option linter.all false
set_option maxRecDepth 100000
theorem witness_row (os:Os) {H:Type} (enc:TypeId×Value->H) : (OpenSpec.ofChange Rows.connManySpec).preRow enc Tryz.prog Tryz.f4 [] false frLaid (({ World.holding Tryz.prog os ⟨#[],#[],[]⟩ with heap:=((World.holding Tryz.prog os ⟨#[],#[],[]⟩).heap.modify 1 putKinds).modify 0 putType }:World).forCall (fun _ _=>0) ⟨#[],#[.int .i64 0,.int .i64 0,.slice none 0 0,.int .i64 0],[]⟩).memory #[.int .i64 0,.int .i64 0,.slice none 0 0,.int .i64 0] := OpenSpec.preRow_of_B rfl 8 (by kernel_rfl) (by kernel_rfl) (frWorld_met os _)
theorem lifted (os:Os) (started:os.Started) (H:Type) (enc:TypeId×Value->H) (F:Stop.Interp) :
 ReturnsInHanded {} Tryz.checked os 4 .any ((OpenSpec.ofChange Rows.connManySpec).preRow enc Tryz.prog Tryz.f4 [] false frLaid) (((OpenSpec.ofChange Rows.connManySpec).at F).post enc Tryz.prog Tryz.f4 false true false false):=by
 refine returnsInHanded_of_row (C:=Tryz.checked) (s:=OpenSpec.ofChange Rows.connManySpec) Tryz.own started (by kernel_rfl) Tryz.func4 (witness_row_at (enc:=enc) (C:=Tryz.checked) false ({ World.holding Tryz.prog os ⟨#[],#[],[]⟩ with heap:=((World.holding Tryz.prog os ⟨#[],#[],[]⟩).heap.modify 1 putKinds).modify 0 putType }:World) #[.int .i64 0,.int .i64 0,.slice none 0 0,.int .i64 0] rfl (by kernel_rfl) (by kernel_rfl) (by kernel_rfl) (witness_row os enc)) ?_;intro W base args ds gs before hval0 hW _ _ hsz0 hL hsh _;have hval:∀ (j:Nat) t v,Tryz.f4.params[j]?=some t->args[j]?=some v->Value.okWide Tryz.prog W .any base t v:=hval0;have hW':=hW;obtain ⟨p,q,hA0,hV0,rfl,hfz,hnd⟩:=hW;have hA:DataW.TrodAll enc Tryz.prog W 0 (fun _=>true) true Tryz.f4.params.toList args.toList ds p:=hA0;have hV:DataW.TrodVars enc Tryz.prog W (fun _=>true) [] gs q:=hV0;rw [Tryz.params4] at hA hval;obtain ⟨v0,v1,v2,v3,d0,d1,d2,d3,p0,p1,p2,p3,rfl,rfl,rfl,h0,h1,h2,h3⟩:=trodAll_four hA;obtain ⟨rfl,rfl⟩:gs=[]/\q=[]:=by cases gs with | nil=>exact ⟨rfl,hV⟩ | cons g r=>exact absurd hV (by intro h;cases h)
 have hsz:(DataW.weightsEach Tryz.prog (Tryz.f4.params.toList++[]) ([d0,d1,d2,d3]++[])).all (·<=reachBytes)=true:=hsz0;rw [Tryz.params4] at hsz;obtain ⟨a0,rfl,rfl,rfl,w0⟩:=open_int Tryz.underlying3 (hval 0 3 v0 rfl rfl) h0;obtain ⟨a1,rfl,rfl,rfl,w1⟩:=open_int Tryz.underlying3 (hval 1 3 v1 rfl rfl) h1;obtain ⟨a3,rfl,rfl,rfl,w3⟩:=open_int Tryz.underlying3 (hval 3 3 v3 rfl rfl) h3;obtain ⟨a2,len2,cap2,rfl⟩:=okWide_slice Tryz.underlying22 (hval 2 22 v2 rfl rfl);have pl2:=open_plain22 (hval 2 22 _ rfl rfl);have k2:=h2;have lt2:∀ x ∈ p2,x.block<W.heap.size:=by obtain ⟨m,hm⟩:=k2;exact DataW.trod_lt m _ _ _ hm
 have wk:Wk 22 d2:=fun x hx=>by have:=List.all_eq_true.1 hsz x (DataW.weights_mem_each (j:=2) (t:=22) (d:=d2) rfl rfl x hx);simpa using this
 obtain ⟨ops,hs⟩:=open_script pl2 h2 wk;have hfr:=fr_parts hL;have hg:Gw W:=⟨⟨hfr.1,mx_any W hsh⟩,hfr.2⟩;have e1:((OpenSpec.ofChange Rows.connManySpec).at F).fn H ([.lit (.int .i64 a0),.lit (.int .i64 a1),d2,.lit (.int .i64 a3)]++[]) = { results:=[.lit (.bool true)],args:=[.lit (.int .i64 a0),.lit (.int .i64 a1),d2,.lit (.int .i64 a3)] }:=by simp [Rows.connManySpec];rfl
 refine (connMany_any a0 a1 (cap:=cap2) hs hg a3).mono fun e W' ⟨he,bel⟩=>?_;subst he;refine ⟨_,rfl,_,_,_,[],[]++([]++(p2++([]++[]))),[],hW',?_,?_,?_,bel.frame _,fun h=>by cases h⟩;· rw [e1];exact trodAll_mk1 (shut_bool Tryz.underlying4 true)
 · rw [e1];exact trodAll_cons_mk (shut_int Tryz.underlying3 w0) (trodAll_cons_mk (shut_int Tryz.underlying3 w1) (trodAll_cons_mk (Below.trod Tryz.laidOut (by kernel_rfl) (of_decide_eq_true (by kernel_rfl)) k2 bel lt2) (trodAll_cons_mk (shut_int Tryz.underlying3 w3) trodAll_mk0)))
 · rw [e1];rfl
theorem over:Rows.ConnManySaid := OpenClaim.holds_of_cond 4 Tryz.f4 rfl rfl rfl rfl rfl rfl rfl ⟨rfl,rfl,rfl,rfl,rfl⟩ rfl rfl rfl rfl rfl (by kernel_rfl) Tryz.func4 (by kernel_rfl) (of_decide_eq_true (by kernel_rfl)) (by unfold Func.isWrapper;rw [if_neg (of_decide_eq_false (by kernel_rfl))];exact ⟨rfl,rfl⟩) (fun os started H enc _ F0=>by rw [OpenClaim.pre_eq_preRow];exact lifted os started H enc F0)
theorem card_holds:Rows.ConnManyCardSaid :=
 Claim7.holds_tied_plain_at .later [] [.handle,.data] true (true,"0da7e14c4906bda7c1c08345be51996415907671634b9729366639efd22ff15c") true
  over (fun _ h=>by cases h) (by kernel_rfl) (fun _ h=>by cases h) connMany_row_tie rfl ⟨rfl,rfl⟩ (by kernel_rfl) rfl (fun f fn hf hfn=>by
   obtain rfl:f=4:=Option.some.inj ((show Tryz.prog.funcNamed "crier/crierlaw14.ConnMany" = some 4 by kernel_rfl).symm.trans hf) |>.symm;obtain rfl:fn=Tryz.f4:=(Option.some.inj (Tryz.func4.symm.trans hfn)).symm;exact ⟨by kernel_rfl,fun j t ht=>by
    rw [Tryz.params4] at ht;have h3:t=3\/t=22:=by
     rcases j with _ | _ | _ | _ | j;· exact .inl (by simpa using ht.symm)
     · exact .inl (by simpa using ht.symm)
     · exact .inr (by simpa using ht.symm)
     · exact .inl (by simpa using ht.symm)
     · simp at ht
    rcases h3 with rfl | rfl;· exact (show Tryz.prog.wantsStandIn 3=false by kernel_rfl)
    · exact (show Tryz.prog.wantsStandIn 22=false by kernel_rfl)⟩)
  (by kernel_rfl)
end Go.Proofs.YtpldoeeahhaimaaGreatDoor.connMany
namespace Go.Proofs.YtpldoeeahhaimaaGreatDoor
theorem connMany_holds:Rows.ConnManyCardSaid:=connMany.card_holds
#print axioms connMany_holds
end Go.Proofs.YtpldoeeahhaimaaGreatDoor
