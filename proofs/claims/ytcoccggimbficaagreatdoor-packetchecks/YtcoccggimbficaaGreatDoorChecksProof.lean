import Derived.Test.YtcoccggimbficaaGreatDoorRe
import Derived.Test.YtcoccggimbficaaGreatDoorUn
import Derived.Test.YtcoccggimbficaaGreatDoorCards
import Derived.Test.YtcoccggimbficaaGreatDoorTie
import Derived.Deep.DeepHandedRow
import Derived.Shelf.Vars
namespace Go.Proofs.YtcoccggimbficaaGreatDoor.packetChecks
open Go Go.ChangeShapes Go.WideShapes Go.ChangeAt Go.RowKit
set_option linter.unusedSimpArgs false
set_option linter.unusedVariables false

/-- The world in which the table lies. -/
noncomputable def laidWorld (os : Os) : World := { World.holding Tryz.prog os ⟨#[], #[], []⟩ with heap := (World.holding Tryz.prog os ⟨#[], #[], []⟩).heap.modify 0 fun
      | .cells _ t frozen => .cells kindCells t frozen
      | o => o }

/-- A packet of nothing. -/
def none_ : Pk := ⟨0, 0, false, 0, ByteArray.empty, false, ByteArray.empty, ⟨none, 0, 0⟩, 0, false, false, ByteArray.empty, false, ⟨none, 0, 0⟩, false, 0, false, ByteArray.empty, ⟨none, 0, 0⟩, 0, false, 0, ⟨none, 0, 0⟩, ⟨none, 0, 0⟩, ⟨none, 0, 0⟩⟩

theorem witness_row (os : Os) {H : Type} (enc : TypeId × Value → H) :
    (OpenSpec.ofChange Rows.packetChecksSpec).preRow enc Tryz.prog Tryz.f3 [] false [("crier/packet.kinds", Rows.laid_crier_packet_kinds)] ((laidWorld os).forCall (fun _ _ => 0) ⟨#[], #[none_.v], []⟩).memory #[none_.v] :=
  OpenSpec.preRow_of_B rfl 8 (by kernel_rfl) (by kernel_rfl) (laidWorld_met os _)

set_option maxRecDepth 100000 in
theorem lifted (os : Os) (started : os.Started) (H : Type) (enc : TypeId × Value → H) (F : Stop.Interp) :
    ReturnsInHanded {} Tryz.checked os 3 .any ((OpenSpec.ofChange Rows.packetChecksSpec).preRow enc Tryz.prog Tryz.f3 [] false [("crier/packet.kinds", Rows.laid_crier_packet_kinds)])
      (((OpenSpec.ofChange Rows.packetChecksSpec).at F).post enc Tryz.prog Tryz.f3 false true false false) := by
  refine returnsInHanded_of_row (C := Tryz.checked) (s := OpenSpec.ofChange Rows.packetChecksSpec) Tryz.own started (by kernel_rfl) Tryz.func3
    (witness_row_at (enc := enc) (C := Tryz.checked) false (laidWorld os) #[none_.v] rfl (by kernel_rfl) (by kernel_rfl) (by kernel_rfl) (witness_row os enc)) ?_
  intro W base args ds gs before hval0 hW _ _ _ hL hsh _
  have hval : ∀ (j : Nat) t v, Tryz.f3.params[j]? = some t → args[j]? = some v → Value.okWide Tryz.prog W .any base t v := hval0
  have hW' := hW
  obtain ⟨p, q, hA0, hV0, rfl, hfz, hnd⟩ := hW
  have hA : DataW.TrodAll enc Tryz.prog W 0 (fun _ => true) true Tryz.f3.params.toList args.toList ds p := hA0
  have hV : DataW.TrodVars enc Tryz.prog W (fun _ => true) [] gs q := hV0
  rw [Tryz.params3] at hA hval
  obtain ⟨v0, d0, rfl, rfl, h0⟩ := trodAll_one hA
  obtain ⟨rfl, rfl⟩ : gs = [] ∧ q = [] := by
    cases gs with
    | nil => exact ⟨rfl, hV⟩
    | cons g r => exact absurd hV (by intro h; cases h)
  obtain ⟨pk, rfl, hpk⟩ := open_packet (hval 0 29 v0 rfl rfl)
  have k0 := h0
  have lt0 : ∀ x ∈ p, x.block < W.heap.size := by obtain ⟨m, hm⟩ := k0; exact DataW.trod_lt m _ _ _ hm
  obtain ⟨c, hin, hfit⟩ := packet_in hpk h0
  have hg : Gd W := ⟨kinds_of_laid hL, Go.Proofs.cell_of_shapedOpen_int (zero := #[.int .i64 0]) (t := 3) hsh (of_decide_eq_true (by kernel_rfl)) (by kernel_rfl) rfl (by kernel_rfl) (by kernel_rfl) Tryz.underlying3⟩
  have e1 : ((OpenSpec.ofChange Rows.packetChecksSpec).at F).fn H ([d0] ++ []) = { results := [.lit (.bool true)], args := [d0] } := by simp [Rows.packetChecksSpec]; rfl
  refine (checks_walk pk c W hg hin hfit ⟨hpk.wp.nil, hpk.ps.nil, hpk.mp.nil, hpk.an.nil, hpk.cn.nil, hpk.fn.nil⟩).mono fun e W' ⟨he, bel⟩ => ?_
  subst he
  refine ⟨_, rfl, _, _, _, [], p, [], hW', ?_, ?_, ?_, bel.frame _, fun h => by cases h⟩
  · rw [e1]; exact trodAll_mk1 (shut_bool Tryz.underlying4 true)
  · rw [e1]; exact trodAll_mk1 (Below.trod Tryz.laidOut (by kernel_rfl) (of_decide_eq_true (by kernel_rfl)) k0 bel lt0)
  · rw [e1]; rfl

theorem over : Rows.PacketChecksSaid :=
  OpenClaim.holds_of_cond 3 Tryz.f3 rfl rfl rfl rfl rfl rfl rfl ⟨rfl, rfl, rfl, rfl, rfl⟩ rfl rfl rfl rfl rfl (by kernel_rfl) Tryz.func3 (by kernel_rfl)
    (of_decide_eq_true (by kernel_rfl)) (by unfold Func.isWrapper; rw [if_neg (of_decide_eq_false (by kernel_rfl))]; exact ⟨rfl, rfl⟩)
    (fun os started H enc _ F0 => by rw [OpenClaim.pre_eq_preRow]; exact lifted os started H enc F0)

theorem card_holds : Rows.PacketChecksCardSaid :=
  Claim7.holds_tied_plain_at .later [] [.data] true (true, "3c631e26ed87f3c11ab655c578d9d23cd38d48af571bac88fe6bfd7fbfccddd1") false
    over (fun _ h => by cases h) (by kernel_rfl) (fun _ h => by cases h) packetChecks_row_tie rfl ⟨rfl, rfl⟩ (by kernel_rfl) rfl
    (fun f fn hf hfn => by
      obtain rfl : f = 3 := Option.some.inj ((show Tryz.prog.funcNamed "crier/crierlaw2.PacketChecks" = some 3 by kernel_rfl).symm.trans hf) |>.symm
      obtain rfl : fn = Tryz.f3 := (Option.some.inj (Tryz.func3.symm.trans hfn)).symm
      exact ⟨by kernel_rfl, fun j t ht => by
        rw [Tryz.params3] at ht
        have h3 : t = 29 := by
          rcases j with _ | j
          · simpa using ht.symm
          · simp at ht
        subst h3
        exact (show Tryz.prog.wantsStandIn 29 = false by kernel_rfl)⟩)
    (by kernel_rfl)
end Go.Proofs.YtcoccggimbficaaGreatDoor.packetChecks

namespace Go.Proofs.YtcoccggimbficaaGreatDoor
theorem packetChecks_holds : Rows.PacketChecksCardSaid := packetChecks.card_holds
#print axioms packetChecks_holds
end Go.Proofs.YtcoccggimbficaaGreatDoor
