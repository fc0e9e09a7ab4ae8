import Derived.Test.YtphofgnehdlafaaGreatDoorEncB
namespace Go.Proofs.YtphofgnehdlafaaGreatDoor.codecEncodes
open Go Go.ChangeShapes Go.WideShapes Go.ChangeAt Go.RowKit
set_option linter.unusedSimpArgs false
set_option linter.unusedVariables false
theorem named4 : Tryz.prog.funcNamed "crier/crierlaw3.CodecEncodes" = some 4 := by kernel_rfl
theorem inst4 : Tryz.f4.isInstance Tryz.prog Rows.codecEncodesRow.origin Rows.codecEncodesRow.targs := of_decide_eq_true (by kernel_rfl)
theorem wrap4 : Tryz.f4.isWrapper Tryz.prog Rows.codecEncodesRow.wrapper Rows.codecEncodesRow.mainSum := by unfold Func.isWrapper; rw [if_neg (of_decide_eq_false (by kernel_rfl))]; exact ⟨rfl, rfl⟩
theorem closed4 : joinedFacts Tryz.prog 4 Tryz.f4 (OpenSpec.ofChange Rows.codecEncodesSpec).bare Rows.codecEncodesRow = true := by
 unfold joinedFacts
 rw [j1, j2, j3, j4]
 kernel_rfl
theorem over : Rows.CodecEncodesSaid :=
 OpenClaim.holds_of_cond 4 Tryz.f4 rfl rfl rfl rfl rfl rfl rfl ⟨rfl, rfl, rfl, rfl, rfl⟩ rfl rfl rfl rfl rfl named4 Tryz.func4 closed4
  inst4 wrap4
  (fun os started H enc _ F0 => by rw [OpenClaim.pre_eq_preRow]; exact lifted os started H enc F0)
theorem card_holds : Rows.CodecEncodesCardSaid :=
 Claim7.holds_tied_plain_at .later [] [.data, .data, .data, .data] true (true, "5cc321efba582acf62629c8256d42251cbaee7ae8d6b7edddba247280b74e7bb") true
  over (fun _ h => by cases h) (by kernel_rfl) (fun _ h => by cases h) codecEncodes_row_tie rfl ⟨rfl, rfl⟩ (by kernel_rfl) rfl
  (fun f fn hf hfn => by
   obtain rfl : f = 4 := Option.some.inj ((show Tryz.prog.funcNamed "crier/crierlaw3.CodecEncodes" = some 4 by kernel_rfl).symm.trans hf) |>.symm
   obtain rfl : fn = Tryz.f4 := (Option.some.inj (Tryz.func4.symm.trans hfn)).symm
   exact ⟨by kernel_rfl, fun j t ht => by
    rw [Tryz.params4] at ht
    have h3 : t = 29 := by
     rcases j with _ | j
     ·
      simpa using ht.symm
     ·
      simp at ht
    subst h3
    exact (show Tryz.prog.wantsStandIn 29 = false by kernel_rfl)⟩)
  (by kernel_rfl)
end Go.Proofs.YtphofgnehdlafaaGreatDoor.codecEncodes
namespace Go.Proofs.YtphofgnehdlafaaGreatDoor
theorem codecEncodes_holds : Rows.CodecEncodesCardSaid := codecEncodes.card_holds
#print axioms codecEncodes_holds
end Go.Proofs.YtphofgnehdlafaaGreatDoor
