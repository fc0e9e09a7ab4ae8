import Derived.Test.YtibihbclijpkjaaGreatDoorFrg
import Derived.Test.YtibihbclijpkjaaGreatDoorFwc
import Derived.Test.YtibihbclijpkjaaGreatDoorFwd
import Derived.Test.YtibihbclijpkjaaGreatDoorCards
import Derived.Test.YtibihbclijpkjaaGreatDoorTie
import Derived.Deep.DeepHandedRow
import Derived.SevenTiedAt
import Derived.ChangeSlices
import Derived.ChangeArms
namespace Go.Proofs.YtibihbclijpkjaaGreatDoor.frameWhole
open Go Go.ChangeShapes Go.WideShapes Go.ChangeAt Go.RowKit
open Pkt (Gd Sl)
set_option linter.unusedSimpArgs false
set_option linter.unusedVariables false

set_option maxRecDepth 100000 in
theorem open_plain55 {W : World} {base : Nat} {a : Option Addr} {len cap : Nat} (h : Value.okWide Tryz.prog W .any base 55 (.slice a len cap)) : Plain a := by
  intro ad e
  subst e
  unfold Value.okWide at h
  rw [Tryz.underlying55] at h
  have h' : Cell.okWide Tryz.prog W .any base 55 (.slice (some ad) len cap) := h
  unfold Cell.okWide at h'
  rw [Tryz.underlying55] at h'
  simp only [Cell.ok, Tryz.underlying55] at h'
  obtain ⟨h1, h2, _, h3, _⟩ := h'
  obtain ⟨b, off, spot⟩ := ad
  simp only at h3
  subst h3
  exact ⟨b, off, rfl⟩

theorem witness_row (os : Os) {H : Type} (enc : TypeId × Value → H) :
    (OpenSpec.ofChange Rows.frameWholeSpec).preRow enc Tryz.prog Tryz.f7 [] false frLaid (({ World.holding Tryz.prog os ⟨#[], #[], []⟩ with heap := ((World.holding Tryz.prog os ⟨#[], #[], []⟩).heap.modify 0 putKinds).modify 1 putType } : World).forCall (fun _ _ => 0) ⟨#[], #[.slice none 0 0, .int .i64 0], []⟩).memory #[.slice none 0 0, .int .i64 0] :=
  OpenSpec.preRow_of_B rfl 8 (by kernel_rfl) (by kernel_rfl) (frWorld_met os _)

set_option maxRecDepth 100000 in
theorem lifted (os : Os) (started : os.Started) (H : Type) (enc : TypeId × Value → H) (F : Stop.Interp) :
    ReturnsInHanded {} Tryz.checked os 7 .any ((OpenSpec.ofChange Rows.frameWholeSpec).preRow enc Tryz.prog Tryz.f7 [] false frLaid)
      (((OpenSpec.ofChange Rows.frameWholeSpec).at F).post enc Tryz.prog Tryz.f7 false true false false) := by
  refine returnsInHanded_of_row (C := Tryz.checked) (s := OpenSpec.ofChange Rows.frameWholeSpec) Tryz.own started (by kernel_rfl) Tryz.func7
    (witness_row_at (enc := enc) (C := Tryz.checked) false ({ World.holding Tryz.prog os ⟨#[], #[], []⟩ with heap := ((World.holding Tryz.prog os ⟨#[], #[], []⟩).heap.modify 0 putKinds).modify 1 putType } : World) #[.slice none 0 0, .int .i64 0] rfl (by kernel_rfl) (by kernel_rfl) (by kernel_rfl) (witness_row os enc)) ?_
  intro W base args ds gs before hval0 hW _ _ _ hL hsh _
  have hval : ∀ (j : Nat) t v, Tryz.f7.params[j]? = some t → args[j]? = some v → Value.okWide Tryz.prog W .any base t v := hval0
  have hW' := hW
  obtain ⟨p, q, hA0, hV0, rfl, hfz, hnd⟩ := hW
  have hA : DataW.TrodAll enc Tryz.prog W 0 (fun _ => true) true Tryz.f7.params.toList args.toList ds p := hA0
  have hV : DataW.TrodVars enc Tryz.prog W (fun _ => true) [] gs q := hV0
  rw [Tryz.params7] at hA hval
  obtain ⟨v0, v1, d0, d1, p0, p1, rfl, rfl, rfl, h0, h1⟩ := trodAll_two hA
  obtain ⟨rfl, rfl⟩ : gs = [] ∧ q = [] := by
    cases gs with
    | nil => exact ⟨rfl, hV⟩
    | cons g r => exact absurd hV (by intro h; cases h)
  obtain ⟨a0, len0, cap0, rfl⟩ := okWide_slice Tryz.underlying55 (hval 0 55 v0 rfl rfl)
  have pl0 : Plain a0 := open_plain55 (hval 0 55 _ rfl rfl)
  obtain ⟨a1, rfl, rfl, rfl, w1⟩ := open_int Tryz.underlying3 (hval 1 3 v1 rfl rfl) h1
  have k0 := h0
  have lt0 : ∀ x ∈ p0, x.block < W.heap.size := by obtain ⟨m, hm⟩ := k0; exact DataW.trod_lt m _ _ _ hm
  obtain ⟨ps, cs, hpl, hmx⟩ := open_packets pl0 h0
  have hfr := fr_parts hL
  have hg : Gw W := ⟨⟨hfr.1, Tryz.laysM138.s1_3 W hsh⟩, hfr.2⟩
  have e1 : ((OpenSpec.ofChange Rows.frameWholeSpec).at F).fn H ([d0, .lit (.int .i64 a1)] ++ []) = { results := [.lit (.bool true)], args := [d0, .lit (.int .i64 a1)] } := by simp [Rows.frameWholeSpec]; rfl
  refine (whole_any ⟨a0, len0, cap0⟩ ps cs a1 W hpl hmx hg).mono fun e W' ⟨he, bel⟩ => ?_
  subst he
  refine ⟨_, rfl, _, _, _, [], p0 ++ [], [], hW', ?_, ?_, ?_, bel.frame _, fun h => by cases h⟩
  · rw [e1]; exact trodAll_mk1 (shut_bool Tryz.underlying4 true)
  · rw [e1]; exact trodAll_cons_mk (Below.trod Tryz.laidOut (by kernel_rfl) (of_decide_eq_true (by kernel_rfl)) k0 bel lt0) (trodAll_cons_mk (shut_int Tryz.underlying3 w1) trodAll_mk0)
  · rw [e1]; rfl

theorem over : Rows.FrameWholeSaid :=
  OpenClaim.holds_of_cond 7 Tryz.f7 rfl rfl rfl rfl rfl rfl rfl ⟨rfl, rfl, rfl, rfl, rfl⟩ rfl rfl rfl rfl rfl (by kernel_rfl) Tryz.func7 (by kernel_rfl)
    (of_decide_eq_true (by kernel_rfl)) (by unfold Func.isWrapper; rw [if_neg (of_decide_eq_false (by kernel_rfl))]; exact ⟨rfl, rfl⟩)
    (fun os started H enc _ F0 => by rw [OpenClaim.pre_eq_preRow]; exact lifted os started H enc F0)

theorem card_holds : Rows.FrameWholeCardSaid :=
  Claim7.holds_tied_plain_at .later [] [.handle, .data] true (true, "f105939dc0d6986df7a2384e6d57fa2187cd9d8892dd472264d049e4b5c1e23c") true
    over (fun _ h => by cases h) (by kernel_rfl) (fun _ h => by cases h) frameWhole_row_tie rfl ⟨rfl, rfl⟩ (by kernel_rfl) rfl
    (fun f fn hf hfn => by
      obtain rfl : f = 7 := Option.some.inj ((show Tryz.prog.funcNamed "crier/crierlaw4.FrameWhole" = some 7 by kernel_rfl).symm.trans hf) |>.symm
      obtain rfl : fn = Tryz.f7 := (Option.some.inj (Tryz.func7.symm.trans hfn)).symm
      exact ⟨by kernel_rfl, fun j t ht => by
        rw [Tryz.params7] at ht
        have h3 : t = 55 ∨ t = 3 := by
          rcases j with _ | _ | j
          · exact .inl (by simpa using ht.symm)
          · exact .inr (by simpa using ht.symm)
          · simp at ht
        rcases h3 with rfl | rfl
        · exact (show Tryz.prog.wantsStandIn 55 = false by kernel_rfl)
        · exact (show Tryz.prog.wantsStandIn 3 = false by kernel_rfl)⟩)
    (by kernel_rfl)
end Go.Proofs.YtibihbclijpkjaaGreatDoor.frameWhole

namespace Go.Proofs.YtibihbclijpkjaaGreatDoor
theorem frameWhole_holds : Rows.FrameWholeCardSaid := frameWhole.card_holds
#print axioms frameWhole_holds
end Go.Proofs.YtibihbclijpkjaaGreatDoor
