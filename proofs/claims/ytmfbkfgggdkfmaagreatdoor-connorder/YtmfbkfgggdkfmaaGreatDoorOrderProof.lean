import Derived.Test.YtmfbkfgggdkfmaaGreatDoorPSm
import Derived.Test.YtmfbkfgggdkfmaaGreatDoorPCo
import Derived.Test.YtmfbkfgggdkfmaaGreatDoorCards
import Derived.Test.YtmfbkfgggdkfmaaGreatDoorTie
import Derived.Test.YtmfbkfgggdkfmaaGreatDoorChecked
namespace Go.Proofs.YtmfbkfgggdkfmaaGreatDoor.connOrder
open Go Go.ChangeShapes Go.WideShapes Go.ChangeAt Go.RowKit
open Pkt (Gd Sl Is By)
open Co (open_row open_plain IsRow order_any)
set_option linter.unusedSimpArgs false
set_option linter.unusedVariables false
theorem isRow_by {w : World} {a : Option Addr} {len cap : Nat} {zs : List Int} (h : IsRow .u8 w a len cap zs) (hp : Plain a) : By w ⟨a, len, cap⟩ (fun i => zs.getD i 0) ∧ len ≤ 9223372036854775807 := by
  rcases h with ⟨rfl, rfl, rfl, rfl⟩ | ⟨x, rfl, hl, hm, hz, hcell, hwz⟩
  · exact ⟨⟨Nat.le_refl _, fun i => by simp, .inl rfl⟩, by decide⟩
  · obtain ⟨g, off, rfl⟩ := hp x rfl
    refine ⟨⟨hl, fun i => by have h := range_u8 hwz i; simpa using h, .inr ⟨g, off, rfl, fun i hi => ?_⟩⟩, by unfold maxLen at hm; omega⟩
    have hi' : i < len := hi
    have := hcell i (by omega)
    rw [plain_add] at this
    exact this
theorem witness_row (os : Os) {H : Type} (enc : TypeId × Value → H) :
    (OpenSpec.ofChange Rows.connOrderSpec).preRow enc Tryz.prog Tryz.f4 [] false frLaid (({ World.holding Tryz.prog os ⟨#[], #[], []⟩ with heap := ((World.holding Tryz.prog os ⟨#[], #[], []⟩).heap.modify 1 putKinds).modify 0 putType } : World).forCall (fun _ _ => 0) ⟨#[], #[.int .i64 0, .slice none 0 0], []⟩).memory #[.int .i64 0, .slice none 0 0] :=
  OpenSpec.preRow_of_B rfl 8 (by kernel_rfl) (by kernel_rfl) (frWorld_met os _)
set_option maxRecDepth 100000 in
theorem lifted (os : Os) (started : os.Started) (H : Type) (enc : TypeId × Value → H) (F : Stop.Interp) :
    ReturnsInHanded {} Tryz.checked os 4 .any ((OpenSpec.ofChange Rows.connOrderSpec).preRow enc Tryz.prog Tryz.f4 [] false frLaid)
      (((OpenSpec.ofChange Rows.connOrderSpec).at F).post enc Tryz.prog Tryz.f4 false true false false) := by
  refine returnsInHanded_of_row (C := Tryz.checked) (s := OpenSpec.ofChange Rows.connOrderSpec) Tryz.own started (by kernel_rfl) Tryz.func4
    (witness_row_at (enc := enc) (C := Tryz.checked) false ({ World.holding Tryz.prog os ⟨#[], #[], []⟩ with heap := ((World.holding Tryz.prog os ⟨#[], #[], []⟩).heap.modify 1 putKinds).modify 0 putType } : World) #[.int .i64 0, .slice none 0 0] rfl (by kernel_rfl) (by kernel_rfl) (by kernel_rfl) (witness_row os enc)) ?_
  intro W base args ds gs before hval0 hW _ _ _ hL hsh _
  have hval : ∀ (j : Nat) t v, Tryz.f4.params[j]? = some t → args[j]? = some v → Value.okWide Tryz.prog W .any base t v := hval0
  have hW' := hW
  obtain ⟨p, q, hA0, hV0, rfl, hfz, hnd⟩ := hW
  have hA : DataW.TrodAll enc Tryz.prog W 0 (fun _ => true) true Tryz.f4.params.toList args.toList ds p := hA0
  have hV : DataW.TrodVars enc Tryz.prog W (fun _ => true) [] gs q := hV0
  rw [Tryz.params4] at hA hval
  obtain ⟨v0, v1, d0, d1, p0, p1, rfl, rfl, rfl, h0, h1⟩ := trodAll_two hA
  obtain ⟨rfl, rfl⟩ : gs = [] ∧ q = [] := by
    cases gs with
    | nil => exact ⟨rfl, hV⟩
    | cons g r => exact absurd hV (by intro h; cases h)
  obtain ⟨a0, rfl, rfl, rfl, w0⟩ := open_int Tryz.underlying3 (hval 0 3 v0 rfl rfl) h0
  obtain ⟨a1, len1, cap1, rfl⟩ := okWide_slice Tryz.underlying22 (hval 1 22 v1 rfl rfl)
  have pl1 : Plain a1 := open_plain (hval 1 22 _ rfl rfl)
  have k1 := h1
  have lt1 : ∀ x ∈ p1, x.block < W.heap.size := by obtain ⟨m, hm⟩ := k1; exact DataW.trod_lt m _ _ _ hm
  obtain ⟨z1, w1⟩ := open_row h1
  have i1 := isRow_by w1 pl1
  have hfr := fr_parts hL
  have hg : Gw W := ⟨⟨hfr.1, Tryz.laysM138.s1_3 W hsh⟩, hfr.2⟩
  have e1 : ((OpenSpec.ofChange Rows.connOrderSpec).at F).fn H ([.lit (.int .i64 a0), d1] ++ []) = { results := [.lit (.bool true)], args := [.lit (.int .i64 a0), d1] } := by simp [Rows.connOrderSpec]; rfl
  refine (order_any a0 ⟨a1, len1, cap1⟩ _ W i1.1 hg i1.2).mono fun e W' ⟨he, bel⟩ => ?_
  subst he
  refine ⟨_, rfl, _, _, _, [], [] ++ (p1 ++ []), [], hW', ?_, ?_, ?_, bel.frame _, fun h => by cases h⟩
  · rw [e1]; exact trodAll_mk1 (shut_bool Tryz.underlying4 true)
  · rw [e1]; exact trodAll_cons_mk (shut_int Tryz.underlying3 w0) (trodAll_cons_mk (Below.trod Tryz.laidOut (by kernel_rfl) (of_decide_eq_true (by kernel_rfl)) k1 bel lt1) trodAll_mk0)
  · rw [e1]; rfl
theorem over : Rows.ConnOrderSaid :=
  OpenClaim.holds_of_cond 4 Tryz.f4 rfl rfl rfl rfl rfl rfl rfl ⟨rfl, rfl, rfl, rfl, rfl⟩ rfl rfl rfl rfl rfl (by kernel_rfl) Tryz.func4 (by kernel_rfl)
    (of_decide_eq_true (by kernel_rfl)) (by unfold Func.isWrapper; rw [if_neg (of_decide_eq_false (by kernel_rfl))]; exact ⟨rfl, rfl⟩)
    (fun os started H enc _ F0 => by rw [OpenClaim.pre_eq_preRow]; exact lifted os started H enc F0)
theorem card_holds : Rows.ConnOrderCardSaid :=
  Claim7.holds_tied_plain_at .later [] [.handle, .data] true (true, "000ee2dc643ad2d54b3458e9545f28135d4ac50f3761e8831eee2fb5ca872e89") true
    over (fun _ h => by cases h) (by kernel_rfl) (fun _ h => by cases h) connOrder_row_tie rfl ⟨rfl, rfl⟩ (by kernel_rfl) rfl
    (fun f fn hf hfn => by
      obtain rfl : f = 4 := Option.some.inj ((show Tryz.prog.funcNamed "crier/crierlaw14.ConnOrder" = some 4 by kernel_rfl).symm.trans hf) |>.symm
      obtain rfl : fn = Tryz.f4 := (Option.some.inj (Tryz.func4.symm.trans hfn)).symm
      exact ⟨by kernel_rfl, fun j t ht => by
        rw [Tryz.params4] at ht
        have h3 : t = 3 ∨ t = 22 := by
          rcases j with _ | _ | j
          · exact .inl (by simpa using ht.symm)
          · exact .inr (by simpa using ht.symm)
          · simp at ht
        rcases h3 with rfl | rfl
        · exact (show Tryz.prog.wantsStandIn 3 = false by kernel_rfl)
        · exact (show Tryz.prog.wantsStandIn 22 = false by kernel_rfl)⟩)
    (by kernel_rfl)
end Go.Proofs.YtmfbkfgggdkfmaaGreatDoor.connOrder
namespace Go.Proofs.YtmfbkfgggdkfmaaGreatDoor
theorem connOrder_holds : Rows.ConnOrderCardSaid := connOrder.card_holds
#print axioms connOrder_holds
end Go.Proofs.YtmfbkfgggdkfmaaGreatDoor
