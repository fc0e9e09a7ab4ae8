import Derived.Test.YtmfbkfgggdkfmaaGreatDoorPSm
import Derived.Test.YtmfbkfgggdkfmaaGreatDoorPCo
import Derived.Test.YtmfbkfgggdkfmaaGreatDoorCards
import Derived.Test.YtmfbkfgggdkfmaaGreatDoorTie
import Derived.Test.YtmfbkfgggdkfmaaGreatDoorChecked
namespace Go.Proofs.YtmfbkfgggdkfmaaGreatDoor.connCuts
open Go Go.ChangeShapes Go.WideShapes Go.ChangeAt Go.RowKit
open Pkt (Gd Sl Is By)
open Co (open_row open_plain open_nums open_plain23 isRow_is IsRow cuts_any)
set_option linter.unusedSimpArgs false
set_option linter.unusedVariables false
theorem isRow_by {w : World} {a : Option Addr} {len cap : Nat} {zs : List Int} (h : IsRow .u8 w a len cap zs) (hp : Plain a) : By w ⟨a, len, cap⟩ (fun i => zs.getD i 0) ∧ len ≤ 9223372036854775807 := by
  rcases h with ⟨rfl, rfl, rfl, rfl⟩ | ⟨x, rfl, hl, hm, hz, hcell, hwz⟩
  · exact ⟨⟨Nat.le_refl _, fun i => by simp, .inl rfl⟩, by decide⟩
  · obtain ⟨g, off, rfl⟩ := hp x rfl
    refine ⟨⟨hl, fun i => by have h := range_u8 hwz i; simpa using h, .inr ⟨g, off, rfl, fun i hi => ?_⟩⟩, by unfold maxLen at hm; omega⟩
    have hi' : i < len := hi
    have := hcell i (by omega)
    rw [plain_add] at this
    exact this
theorem witness_row (os : Os) {H : Type} (enc : TypeId × Value → H) :
    (OpenSpec.ofChange Rows.connCutsSpec).preRow enc Tryz.prog Tryz.f3 [] false frLaid (({ World.holding Tryz.prog os ⟨#[], #[], []⟩ with heap := ((World.holding Tryz.prog os ⟨#[], #[], []⟩).heap.modify 1 putKinds).modify 0 putType } : World).forCall (fun _ _ => 0) ⟨#[], #[.int .i64 0, .slice none 0 0, .slice none 0 0], []⟩).memory #[.int .i64 0, .slice none 0 0, .slice none 0 0] :=
  OpenSpec.preRow_of_B rfl 8 (by kernel_rfl) (by kernel_rfl) (frWorld_met os _)
set_option maxRecDepth 100000 in
theorem lifted (os : Os) (started : os.Started) (H : Type) (enc : TypeId × Value → H) (F : Stop.Interp) :
    ReturnsInHanded {} Tryz.checked os 3 .any ((OpenSpec.ofChange Rows.connCutsSpec).preRow enc Tryz.prog Tryz.f3 [] false frLaid)
      (((OpenSpec.ofChange Rows.connCutsSpec).at F).post enc Tryz.prog Tryz.f3 false true false false) := by
  refine returnsInHanded_of_row (C := Tryz.checked) (s := OpenSpec.ofChange Rows.connCutsSpec) Tryz.own started (by kernel_rfl) Tryz.func3
    (witness_row_at (enc := enc) (C := Tryz.checked) false ({ World.holding Tryz.prog os ⟨#[], #[], []⟩ with heap := ((World.holding Tryz.prog os ⟨#[], #[], []⟩).heap.modify 1 putKinds).modify 0 putType } : World) #[.int .i64 0, .slice none 0 0, .slice none 0 0] rfl (by kernel_rfl) (by kernel_rfl) (by kernel_rfl) (witness_row os enc)) ?_
  intro W base args ds gs before hval0 hW _ _ _ hL hsh _
  have hval : ∀ (j : Nat) t v, Tryz.f3.params[j]? = some t → args[j]? = some v → Value.okWide Tryz.prog W .any base t v := hval0
  have hW' := hW
  obtain ⟨p, q, hA0, hV0, rfl, hfz, hnd⟩ := hW
  have hA : DataW.TrodAll enc Tryz.prog W 0 (fun _ => true) true Tryz.f3.params.toList args.toList ds p := hA0
  have hV : DataW.TrodVars enc Tryz.prog W (fun _ => true) [] gs q := hV0
  rw [Tryz.params3] at hA hval
  obtain ⟨v0, v1, v2, d0, d1, d2, p0, p1, p2, rfl, rfl, rfl, h0, h1, h2⟩ := trodAll_three hA
  obtain ⟨rfl, rfl⟩ : gs = [] ∧ q = [] := by
    cases gs with
    | nil => exact ⟨rfl, hV⟩
    | cons g r => exact absurd hV (by intro h; cases h)
  obtain ⟨a0, rfl, rfl, rfl, w0⟩ := open_int Tryz.underlying3 (hval 0 3 v0 rfl rfl) h0
  obtain ⟨a1, len1, cap1, rfl⟩ := okWide_slice Tryz.underlying22 (hval 1 22 v1 rfl rfl)
  have pl1 : Plain a1 := open_plain (hval 1 22 _ rfl rfl)
  have k1 := h1
  have lt1 : ∀ x ∈ p1, x.block < W.heap.size := by obtain ⟨m, hm⟩ := k1; exact DataW.trod_lt m _ _ _ hm
  obtain ⟨z1, w1⟩ := open_row h1
  have i1 := isRow_by w1 pl1
  have n1 : a1 = none → len1 = 0 ∧ cap1 = 0 := fun e => by
    rcases w1 with ⟨_, q1, q2, _⟩ | ⟨x, q, _⟩
    · exact ⟨q1, q2⟩
    · rw [e] at q; cases q
  obtain ⟨a2, len2, cap2, rfl⟩ := okWide_slice Tryz.underlying23 (hval 2 23 v2 rfl rfl)
  have pl2 : Plain a2 := open_plain23 (hval 2 23 _ rfl rfl)
  have k2 := h2
  have lt2 : ∀ x ∈ p2, x.block < W.heap.size := by obtain ⟨m, hm⟩ := k2; exact DataW.trod_lt m _ _ _ hm
  obtain ⟨z2, w2⟩ := open_nums h2
  have i2 := isRow_is w2 pl2
  have hfr := fr_parts hL
  have hg : Gw W := ⟨⟨hfr.1, Tryz.laysM138.s1_3 W hsh⟩, hfr.2⟩
  have e1 : ((OpenSpec.ofChange Rows.connCutsSpec).at F).fn H ([.lit (.int .i64 a0), d1, d2] ++ []) = { results := [.lit (.bool true)], args := [.lit (.int .i64 a0), d1, d2] } := by simp [Rows.connCutsSpec]; rfl
  refine (cuts_any a0 ⟨a1, len1, cap1⟩ ⟨a2, len2, cap2⟩ _ _ W i1.1 n1 pl1 i2.1 hg i1.2 i2.2).mono fun e W' ⟨he, bel⟩ => ?_
  subst he
  refine ⟨_, rfl, _, _, _, [], [] ++ (p1 ++ (p2 ++ [])), [], hW', ?_, ?_, ?_, bel.frame _, fun h => by cases h⟩
  · rw [e1]; exact trodAll_mk1 (shut_bool Tryz.underlying4 true)
  · rw [e1]; exact trodAll_cons_mk (shut_int Tryz.underlying3 w0) (trodAll_cons_mk (Below.trod Tryz.laidOut (by kernel_rfl) (of_decide_eq_true (by kernel_rfl)) k1 bel lt1) (trodAll_cons_mk (Below.trod Tryz.laidOut (by kernel_rfl) (of_decide_eq_true (by kernel_rfl)) k2 bel lt2) trodAll_mk0))
  · rw [e1]; rfl
theorem over : Rows.ConnCutsSaid :=
  OpenClaim.holds_of_cond 3 Tryz.f3 rfl rfl rfl rfl rfl rfl rfl ⟨rfl, rfl, rfl, rfl, rfl⟩ rfl rfl rfl rfl rfl (by kernel_rfl) Tryz.func3 (by kernel_rfl)
    (of_decide_eq_true (by kernel_rfl)) (by unfold Func.isWrapper; rw [if_neg (of_decide_eq_false (by kernel_rfl))]; exact ⟨rfl, rfl⟩)
    (fun os started H enc _ F0 => by rw [OpenClaim.pre_eq_preRow]; exact lifted os started H enc F0)
theorem card_holds : Rows.ConnCutsCardSaid :=
  Claim7.holds_tied_plain_at .later [] [.handle, .data] true (true, "000ee2dc643ad2d54b3458e9545f28135d4ac50f3761e8831eee2fb5ca872e89") true
    over (fun _ h => by cases h) (by kernel_rfl) (fun _ h => by cases h) connCuts_row_tie rfl ⟨rfl, rfl⟩ (by kernel_rfl) rfl
    (fun f fn hf hfn => by
      obtain rfl : f = 3 := Option.some.inj ((show Tryz.prog.funcNamed "crier/crierlaw14.ConnCuts" = some 3 by kernel_rfl).symm.trans hf) |>.symm
      obtain rfl : fn = Tryz.f3 := (Option.some.inj (Tryz.func3.symm.trans hfn)).symm
      exact ⟨by kernel_rfl, fun j t ht => by
        rw [Tryz.params3] at ht
        have h3 : t = 3 ∨ t = 22 ∨ t = 23 := by
          rcases j with _ | _ | _ | j
          · exact .inl (by simpa using ht.symm)
          · exact .inr (.inl (by simpa using ht.symm))
          · exact .inr (.inr (by simpa using ht.symm))
          · simp at ht
        rcases h3 with rfl | rfl | rfl
        · exact (show Tryz.prog.wantsStandIn 3 = false by kernel_rfl)
        · exact (show Tryz.prog.wantsStandIn 22 = false by kernel_rfl)
        · exact (show Tryz.prog.wantsStandIn 23 = false by kernel_rfl)⟩)
    (by kernel_rfl)
end Go.Proofs.YtmfbkfgggdkfmaaGreatDoor.connCuts
namespace Go.Proofs.YtmfbkfgggdkfmaaGreatDoor
theorem connCuts_holds : Rows.ConnCutsCardSaid := connCuts.card_holds
#print axioms connCuts_holds
end Go.Proofs.YtmfbkfgggdkfmaaGreatDoor
