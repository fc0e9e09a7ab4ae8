import Derived.Test.YtceigllifjgalaaGreatDoorTwoC
import Derived.Test.YtceigllifjgalaaGreatDoorTwoD
namespace Go.Proofs.YtceigllifjgalaaGreatDoor.packetTwo
open Go Go.ChangeShapes Go.WideShapes Go.ChangeAt Go.RowKit
set_option linter.unusedSimpArgs false
set_option linter.unusedVariables false
theorem card_holds:Rows.PacketTwoCardSaid :=
 Claim7.holds_tied_plain_at .later [] [.data,.data,.data] true (true,"4dbdf6319f3481c1cf907e13662ad50107f24b11f6007dead30f43725fd41c39") true
  over (fun _ h=>by cases h) c1 (fun _ h=>by cases h) packetTwo_row_tie rfl ⟨rfl,rfl⟩ c2 rfl
  (fun f fn hf hfn=>by
   obtain rfl:f=3:=Option.some.inj (named3.symm.trans hf) |>.symm
   obtain rfl:fn=Tryz.f3:=(Option.some.inj (Tryz.func3.symm.trans hfn)).symm
   exact ⟨c3,fun j t ht=>by
    rw [Tryz.params3] at ht
    have h3:t=29:=by
     rcases j with _ | _ | j
     · simpa using ht.symm
     · simpa using ht.symm
     · simp at ht
    subst h3
    exact c5⟩)
  c4
end Go.Proofs.YtceigllifjgalaaGreatDoor.packetTwo
namespace Go.Proofs.YtceigllifjgalaaGreatDoor
theorem packetTwo_holds:Rows.PacketTwoCardSaid:=packetTwo.card_holds
#print axioms packetTwo_holds
end Go.Proofs.YtceigllifjgalaaGreatDoor
