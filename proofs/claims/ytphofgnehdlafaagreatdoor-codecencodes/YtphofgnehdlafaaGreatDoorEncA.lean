import Derived.Test.YtphofgnehdlafaaGreatDoorPOp
import Derived.Test.YtphofgnehdlafaaGreatDoorEt
import Derived.Test.YtphofgnehdlafaaGreatDoorCards
import Derived.Test.YtphofgnehdlafaaGreatDoorTie
import Derived.Deep.DeepHandedRow
import Derived.SevenTiedAt
import Derived.ChangeSlices
import Derived.ChangeArms
namespace Go.Proofs.YtphofgnehdlafaaGreatDoor.codecEncodes
open Go Go.ChangeShapes Go.WideShapes Go.ChangeAt Go.RowKit
open Pkt (Pk Gd kinds_of_laid open_packet packet_in pkCells)
set_option linter.unusedSimpArgs false
set_option linter.unusedVariables false
set_option maxRecDepth 100000
def litCell {H : Type} : DataW H → Value
 | .lit (.int k n) => .int k n
 | _ => .bool false
def tabCells {H : Type} : DataW H → Array Value
 | .agg l => (l.map litCell).toArray
 | _ => #[]
def laidL : List (String × DataW Unit) := [("math/bits.deBruijn32tab", Rows.laid_math_bits_deBruijn32tab), ("math/bits.deBruijn64tab", Rows.laid_math_bits_deBruijn64tab), ("internal/strconv.uint64pow10", Rows.laid_internal_strconv_uint64pow10), ("crier/packet.kinds", Rows.laid_crier_packet_kinds)]
def putCells (i : Nat) (cs : Array Value) (w : World) : World := { w with heap := w.heap.modify i fun
 | .cells _ t frozen => .cells cs t frozen
 | o => o }
noncomputable def laidWorld (os : Os) : World := putCells 4 (tabCells (H := Unit) Rows.laid_math_bits_deBruijn32tab) (putCells 5 (tabCells (H := Unit) Rows.laid_math_bits_deBruijn64tab) (putCells 2 (tabCells (H := Unit) Rows.laid_internal_strconv_uint64pow10) (putCells 0 kindCells (World.holding Tryz.prog os ⟨#[], #[], []⟩))))
theorem laidWorld_met4 (os : Os) (args : Array Value) : laidMetH Tryz.prog laidL ((laidWorld os).forCall (fun _ _ => 0) ⟨#[], args, []⟩).memory := by
 have h : laidMet Tryz.prog laidL ((laidWorld os).forCall (fun _ _ => 0) ⟨#[], args, []⟩).memory := laidMet_of_run' 8 (by kernel_rfl) (by kernel_rfl)
 exact h
theorem laid_rest {n : String} {d : DataW Unit} {L : List (String × DataW Unit)} {W : World} (h : laidMet Tryz.prog ((n, d) :: L) W) : laidMet Tryz.prog L W := by
 obtain ⟨ps, ⟨g, t, cs, fuel, p, q, _, _, _, _, h1, rfl⟩, h2, h3⟩ := h
 exact ⟨q, h1, (List.nodup_append.1 h2).2.1, fun b off hm => h3 b off (List.mem_append_right _ hm)⟩
theorem kinds_of_four {W : World} (h : laidMetH Tryz.prog laidL W) : Pkt.KindsAt W := by
 have h' : laidMet Tryz.prog laidL W := h
 exact kinds_of_laid (show laidMetH Tryz.prog [("crier/packet.kinds", Rows.laid_crier_packet_kinds)] W from laid_rest (laid_rest (laid_rest h')))
theorem sl_nil {s : Pkt.Sl} (h : Pkt.SlOk s) : Pkt.Nil s := fun e => by
 rcases h.at_ with ⟨_, a, b⟩ | ⟨b, off, q⟩
 ·
  exact ⟨a, b⟩
 ·
  rw [e] at q
  cases q
def none_ : Pk := ⟨0, 0, false, 0, ByteArray.empty, false, ByteArray.empty, ⟨none, 0, 0⟩, 0, false, false, ByteArray.empty, false, ⟨none, 0, 0⟩, false, 0, false, ByteArray.empty, ⟨none, 0, 0⟩, 0, false, 0, ⟨none, 0, 0⟩, ⟨none, 0, 0⟩, ⟨none, 0, 0⟩⟩
theorem witness_row (os : Os) {H : Type} (enc : TypeId × Value → H) :
    (OpenSpec.ofChange Rows.codecEncodesSpec).preRow enc Tryz.prog Tryz.f4 [] false laidL ((laidWorld os).forCall (fun _ _ => 0) ⟨#[], #[none_.v], []⟩).memory #[none_.v] :=
  OpenSpec.preRow_of_B rfl 8 (by kernel_rfl) (by kernel_rfl) (laidWorld_met4 os _)
theorem lifted (os : Os) (started : os.Started) (H : Type) (enc : TypeId × Value → H) (F : Stop.Interp) :
    ReturnsInHanded {} Tryz.checked os 4 .any ((OpenSpec.ofChange Rows.codecEncodesSpec).preRow enc Tryz.prog Tryz.f4 [] false laidL)
      (((OpenSpec.ofChange Rows.codecEncodesSpec).at F).post enc Tryz.prog Tryz.f4 false true false false) := by
  refine returnsInHanded_of_row (C := Tryz.checked) (s := OpenSpec.ofChange Rows.codecEncodesSpec) Tryz.own started (by kernel_rfl) Tryz.func4
    (witness_row_at (enc := enc) (C := Tryz.checked) false (laidWorld os) #[none_.v] rfl (by kernel_rfl) (by kernel_rfl) (by kernel_rfl) (witness_row os enc)) ?_
  intro W base args ds gs before hval0 hW _ _ _ hL hsh _
  have hval : ∀ (j : Nat) t v, Tryz.f4.params[j]? = some t → args[j]? = some v → Value.okWide Tryz.prog W .any base t v := hval0
  have hW' := hW
  obtain ⟨p, q, hA0, hV0, rfl, hfz, hnd⟩ := hW
  have hA : DataW.TrodAll enc Tryz.prog W 0 (fun _ => true) true Tryz.f4.params.toList args.toList ds p := hA0
  have hV : DataW.TrodVars enc Tryz.prog W (fun _ => true) [] gs q := hV0
  rw [Tryz.params4] at hA hval
  obtain ⟨v0, d0, rfl, rfl, h0⟩ := trodAll_one hA
  obtain ⟨rfl, rfl⟩ : gs = [] ∧ q = [] := by
    cases gs with
    | nil => exact ⟨rfl, hV⟩
    | cons g r => exact absurd hV (by intro h; cases h)
  obtain ⟨pk, rfl, hpk⟩ := open_packet (hval 0 29 v0 rfl rfl)
  have k0 := h0
  have lt0 : ∀ x ∈ p, x.block < W.heap.size := by obtain ⟨m, hm⟩ := k0; exact DataW.trod_lt m _ _ _ hm
  obtain ⟨c, hin, hfit⟩ := packet_in hpk h0
  have hg : Gd W := ⟨kinds_of_four hL, Tryz.laysM138.s1_3 W hsh⟩
  have e1 : ((OpenSpec.ofChange Rows.codecEncodesSpec).at F).fn H ([d0] ++ []) = { results := [.lit (.bool true)], args := [d0] } := by simp [Rows.codecEncodesSpec]; rfl
  refine (encodes_walk pk c W hg hin hfit ⟨sl_nil hpk.wp, sl_nil hpk.ps, sl_nil hpk.mp, sl_nil hpk.an, sl_nil hpk.cn, sl_nil hpk.fn⟩).mono fun e W' ⟨he, bel⟩ => ?_
  subst he
  refine ⟨_, rfl, _, _, _, [], p, [], hW', ?_, ?_, ?_, bel.frame _, fun h => by cases h⟩
  · rw [e1]; exact trodAll_mk1 (shut_bool Tryz.underlying4 true)
  · rw [e1]; exact trodAll_mk1 (Below.trod Tryz.laidOut (by kernel_rfl) (of_decide_eq_true (by kernel_rfl)) k0 bel lt0)
  · rw [e1]; rfl
end Go.Proofs.YtphofgnehdlafaaGreatDoor.codecEncodes
