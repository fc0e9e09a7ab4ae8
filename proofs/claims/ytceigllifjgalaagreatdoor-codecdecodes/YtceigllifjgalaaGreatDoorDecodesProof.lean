import Derived.Test.YtceigllifjgalaaGreatDoorDecC
import Derived.Test.YtceigllifjgalaaGreatDoorDecD
namespace Go.Proofs.YtceigllifjgalaaGreatDoor.codecDecodes
open Go Go.ChangeShapes Go.WideShapes Go.ChangeAt Go.RowKit
set_option linter.unusedSimpArgs false
set_option linter.unusedVariables false
theorem card_holds:Rows.CodecDecodesCardSaid :=
 Claim7.holds_tied_plain_at .later [] [.data,.data,.data,.data] true (true,"4dbdf6319f3481c1cf907e13662ad50107f24b11f6007dead30f43725fd41c39") true
  over (fun _ h=>by cases h) c1 (fun _ h=>by cases h) codecDecodes_row_tie rfl ⟨rfl,rfl⟩ c2 rfl (fun f fn hf hfn=>by
   obtain rfl:f=4:=Option.some.inj (named4.symm.trans hf) |>.symm;obtain rfl:fn=Tryz.f4:=(Option.some.inj (Tryz.func4.symm.trans hfn)).symm;exact ⟨c3,fun j t ht=>by
    rw [Tryz.params4] at ht;have h3:t=22\/t=3:=by
     rcases j with _ | _ | j;· exact .inl (by simpa using ht.symm)
     · exact .inr (by simpa using ht.symm)
     · simp at ht
    rcases h3 with rfl | rfl;· exact c5
    · exact c6⟩)
  c4
end Go.Proofs.YtceigllifjgalaaGreatDoor.codecDecodes
namespace Go.Proofs.YtceigllifjgalaaGreatDoor
theorem codecDecodes_holds:Rows.CodecDecodesCardSaid:=codecDecodes.card_holds
#print axioms codecDecodes_holds
end Go.Proofs.YtceigllifjgalaaGreatDoor
