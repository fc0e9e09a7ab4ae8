import Derived.Test.YtmihpmmkkklpfaaGreatDoorBTp
import Derived.Test.YtmihpmmkkklpfaaGreatDoorBPd
import Derived.Test.YtmihpmmkkklpfaaGreatDoorBFr
import Derived.Test.YtmihpmmkkklpfaaGreatDoorCards
import Derived.Test.YtmihpmmkkklpfaaGreatDoorTie
import Derived.Test.YtmihpmmkkklpfaaGreatDoorChecked
import Derived.Deep.DeepHandedRow
import Derived.SevenTiedAt
import Derived.ChangeSlices
import Derived.ChangeArms
import Derived.Carry
import Derived.ChangeMaps5
namespace Go.Proofs.YtmihpmmkkklpfaaGreatDoor.sessionBack
open Go Go.ChangeShapes Go.WideShapes Go.ChangeAt Go.RowKit
open Go.ChangeMaps (open_string shut_string)
set_option linter.unusedSimpArgs false
set_option linter.unusedVariables false
section
variable {H : Type} {enc : TypeId × Value → H} {W : World} {base : Nat} {v : Value}
set_option maxRecDepth 100000 in
theorem cell_int (h : Cell.okWide Tryz.prog W .any base 3 v) : ∃ n, v = .int .i64 n := by
  unfold Cell.okWide at h
  rw [Tryz.underlying3] at h
  cases v <;> simp [Cell.ok, Tryz.underlying3] at h
  exact ⟨_, by rw [h.1]⟩
set_option maxRecDepth 100000 in
theorem cell_bool (h : Cell.okWide Tryz.prog W .any base 4 v) : ∃ n, v = .bool n := by
  unfold Cell.okWide at h
  rw [Tryz.underlying4] at h
  cases v <;> simp [Cell.ok, Tryz.underlying4] at h
  exact ⟨_, rfl⟩
set_option maxRecDepth 100000 in
theorem cell_sl (h : Cell.okWide Tryz.prog W .any base 22 v) : ∃ a n c, v = .slice a n c := by
  unfold Cell.okWide at h
  rw [Tryz.underlying22] at h
  cases v with
  | slice a n c => exact ⟨a, n, c, rfl⟩
  | _ => simp [Cell.ok, Tryz.underlying22] at h
theorem cells24 : Tryz.prog.cellsOf 24 = 10 := by kernel_rfl
theorem types24 : Tryz.prog.cellTypes Tryz.prog.depth 24 = some [4, 3, 3, 3, 3, 3, 3, 3, 3, 22] := by kernel_rfl
set_option maxRecDepth 100000 in
theorem open_cfg (h : Value.okWide Tryz.prog W .any base 24 v) : ∃ (l0 : Bool) (c1 cn cq cs c5 c6 c7 c8 : Int) (ua : Option Addr) (un uc : Nat), v = .agg #[.bool l0, .int .i64 c1, .int .i64 cn, .int .i64 cq, .int .i64 cs, .int .i64 c5, .int .i64 c6, .int .i64 c7, .int .i64 c8, .slice ua un uc] := by
  unfold Value.okWide at h
  rw [Tryz.underlying24] at h
  obtain ⟨⟨cs⟩, rfl, hs, ts, ht, _, hc⟩ := h
  rw [types24] at ht
  cases ht
  rw [cells24] at hs
  simp only [List.size_toArray] at hs
  match cs, hs with
  | [c0, c1, c2, c3, c4, c5, c6, c7, c8, c9], _ =>
    have g : ∀ i v u, [c0, c1, c2, c3, c4, c5, c6, c7, c8, c9][i]? = some v → ([4, 3, 3, 3, 3, 3, 3, 3, 3, 22] : List TypeId)[i % 10]? = some u → Cell.okWide Tryz.prog W .any base u v := by
      intro i v u hv hu
      obtain ⟨u', hu', hk⟩ := hc i v (by simpa using hv)
      have : u' = u := Option.some.inj (hu'.symm.trans hu)
      rw [← this]; exact hk
    obtain ⟨x0, rfl⟩ := cell_bool (g 0 _ _ rfl rfl)
    obtain ⟨x1, rfl⟩ := cell_int (g 1 _ _ rfl rfl)
    obtain ⟨x2, rfl⟩ := cell_int (g 2 _ _ rfl rfl)
    obtain ⟨x3, rfl⟩ := cell_int (g 3 _ _ rfl rfl)
    obtain ⟨x4, rfl⟩ := cell_int (g 4 _ _ rfl rfl)
    obtain ⟨x5, rfl⟩ := cell_int (g 5 _ _ rfl rfl)
    obtain ⟨x6, rfl⟩ := cell_int (g 6 _ _ rfl rfl)
    obtain ⟨x7, rfl⟩ := cell_int (g 7 _ _ rfl rfl)
    obtain ⟨x8, rfl⟩ := cell_int (g 8 _ _ rfl rfl)
    obtain ⟨x9, x10, x11, rfl⟩ := cell_sl (g 9 _ _ rfl rfl)
    exact ⟨x0, x1, x2, x3, x4, x5, x6, x7, x8, x9, x10, x11, rfl⟩
set_option maxRecDepth 100000 in
theorem plain_of {t e : TypeId} (ht : Tryz.prog.underlying t = some (.slice e)) {a : Option Addr} {len cap : Nat} (h : Value.okWide Tryz.prog W .any base t (.slice a len cap)) : ∀ ad, a = some ad → ∃ b off, ad = ⟨b, off, none⟩ := by
  intro ad e'
  subst e'
  unfold Value.okWide at h
  rw [ht] at h
  have h' : Cell.okWide Tryz.prog W .any base t (.slice (some ad) len cap) := h
  unfold Cell.okWide at h'
  rw [ht] at h'
  simp only [Cell.ok, ht] at h'
  obtain ⟨h1, h2, _, h3, _⟩ := h'
  obtain ⟨b, off, spot⟩ := ad
  simp only at h3
  subst h3
  exact ⟨b, off, rfl⟩
theorem add_mid (b off i : Nat) : (⟨b, off, none⟩ : Addr).add i = ⟨b, off + i, none⟩ := by unfold Addr.add; split <;> simp_all
end
abbrev zCfg : Value := .agg #[.bool false, .int .i64 0, .int .i64 0, .int .i64 0, .int .i64 0, .int .i64 0, .int .i64 0, .int .i64 0, .int .i64 0, .slice none 0 0]
theorem witness_row (os : Os) {H : Type} (enc : TypeId × Value → H) :
    (OpenSpec.ofChange Rows.sessionBackSpec).preRow enc Tryz.prog Tryz.f3 [] false laidL ((laidWorld os).forCall (fun _ _ => 0) ⟨#[], #[zCfg, .string ⟨#[]⟩, .slice none 0 0, .slice none 0 0], []⟩).memory #[zCfg, .string ⟨#[]⟩, .slice none 0 0, .slice none 0 0] :=
  OpenSpec.preRow_of_B rfl 8 (by kernel_rfl) (by kernel_rfl) (laidWorld_met os _)
set_option maxRecDepth 100000 in
theorem lifted (os : Os) (started : os.Started) (H : Type) (enc : TypeId × Value → H) (F : Stop.Interp) :
    ReturnsInHanded {} Tryz.checked os 3 .any ((OpenSpec.ofChange Rows.sessionBackSpec).preRow enc Tryz.prog Tryz.f3 [] false laidL)
      (((OpenSpec.ofChange Rows.sessionBackSpec).at F).post enc Tryz.prog Tryz.f3 false true false false) := by
  refine returnsInHanded_of_row (C := Tryz.checked) (s := OpenSpec.ofChange Rows.sessionBackSpec) Tryz.own started (by kernel_rfl) Tryz.func3
    (witness_row_at (enc := enc) (C := Tryz.checked) false (laidWorld os) #[zCfg, .string ⟨#[]⟩, .slice none 0 0, .slice none 0 0] rfl (by kernel_rfl) (by kernel_rfl) (by kernel_rfl) (witness_row os enc)) ?_
  intro W base args ds gs before hval0 hW _ _ _ hL hsh _
  have hval : ∀ (j : Nat) t v, Tryz.f3.params[j]? = some t → args[j]? = some v → Value.okWide Tryz.prog W .any base t v := hval0
  have hW' := hW
  obtain ⟨p, q, hA0, hV0, rfl, hfz, hnd⟩ := hW
  have hA : DataW.TrodAll enc Tryz.prog W 0 (fun _ => true) true Tryz.f3.params.toList args.toList ds p := hA0
  have hV : DataW.TrodVars enc Tryz.prog W (fun _ => true) [] gs q := hV0
  rw [Tryz.params3] at hA hval
  obtain ⟨v0, v1, v2, v3, d0, d1, d2, d3, p0, p1, p2, p3, rfl, rfl, rfl, h0, h1, h2, h3⟩ := trodAll_four hA
  obtain ⟨rfl, rfl⟩ : gs = [] ∧ q = [] := by
    cases gs with
    | nil => exact ⟨rfl, hV⟩
    | cons g r => exact absurd hV (by intro h; cases h)
  obtain ⟨l0, c1, cn, cq, cs, c5, c6, c7, c8, ua, un, uc, rfl⟩ := open_cfg (hval 0 24 v0 rfl rfl)
  obtain ⟨key, rfl, rfl, rfl, hkey⟩ := open_string Tryz.underlying9 (hval 1 9 v1 rfl rfl) h1
  obtain ⟨a2, len2, cap2, rfl⟩ := okWide_slice Tryz.underlying25 (hval 2 25 v2 rfl rfl)
  obtain ⟨a3, len3, cap3, rfl⟩ := okWide_slice Tryz.underlying25 (hval 3 25 v3 rfl rfl)
  have pl2 := plain_of Tryz.underlying25 (hval 2 25 _ rfl rfl)
  have pl3 := plain_of Tryz.underlying25 (hval 3 25 _ rfl rfl)
  have k0 := h0
  have k2 := h2
  have k3 := h3
  have lt0 : ∀ x ∈ p0, x.block < W.heap.size := by obtain ⟨m, hm⟩ := k0; exact DataW.trod_lt m _ _ _ hm
  have lt2 : ∀ x ∈ p2, x.block < W.heap.size := by obtain ⟨m, hm⟩ := k2; exact DataW.trod_lt m _ _ _ hm
  have lt3 : ∀ x ∈ p3, x.block < W.heap.size := by obtain ⟨m, hm⟩ := k3; exact DataW.trod_lt m _ _ _ hm
  obtain ⟨ops, hscr⟩ := bopen_script pl2 h2
  obtain ⟨ops', hscr'⟩ := bopen_script pl3 h3
  have hg : Gd W := gd_of hL hsh
  have e1 : ((OpenSpec.ofChange Rows.sessionBackSpec).at F).fn H ([d0, .lit (.string key.data.toList), d2, d3] ++ []) = { results := [.lit (.bool true)], args := [d0, .lit (.string key.data.toList), d2, d3] } := by simp [Rows.sessionBackSpec]; rfl
  refine (back_any hg l0 c1 cn cq cs c5 c6 c7 c8 ua un uc key hkey hscr hscr').mono fun e W' ⟨he, bel⟩ => ?_
  subst he
  refine ⟨_, rfl, _, _, _, [], p0 ++ ([] ++ (p2 ++ (p3 ++ []))), [], hW', ?_, ?_, ?_, bel.frame _, fun h => by cases h⟩
  · rw [e1]; exact trodAll_mk1 (shut_bool Tryz.underlying4 true)
  · rw [e1]; exact trodAll_cons_mk (Below.trod Tryz.laidOut (by kernel_rfl) (of_decide_eq_true (by kernel_rfl)) k0 bel lt0) (trodAll_cons_mk (shut_string Tryz.underlying9 hkey) (trodAll_cons_mk (Below.trod Tryz.laidOut (by kernel_rfl) (of_decide_eq_true (by kernel_rfl)) k2 bel lt2) (trodAll_cons_mk (Below.trod Tryz.laidOut (by kernel_rfl) (of_decide_eq_true (by kernel_rfl)) k3 bel lt3) trodAll_mk0)))
  · rw [e1]; rfl
theorem over : Rows.SessionBackSaid :=
  OpenClaim.holds_of_cond 3 Tryz.f3 rfl rfl rfl rfl rfl rfl rfl ⟨rfl, rfl, rfl, rfl, rfl⟩ rfl rfl rfl rfl rfl (by kernel_rfl) Tryz.func3 (by kernel_rfl)
    (of_decide_eq_true (by kernel_rfl)) (by unfold Func.isWrapper; rw [if_neg (of_decide_eq_false (by kernel_rfl))]; exact ⟨rfl, rfl⟩)
    (fun os started H enc _ F0 => by rw [OpenClaim.pre_eq_preRow]; exact lifted os started H enc F0)
theorem card_holds : Rows.SessionBackCardSaid :=
  Claim7.holds_tied_plain_at .later [] [.data] true (true, "b07c24135352081c6a7f3e8eb18907ade13cc2325443cad54f226a1d5491c2b1") false
    over (fun _ h => by cases h) (by kernel_rfl) (fun _ h => by cases h) sessionBack_row_tie rfl ⟨rfl, rfl⟩ (by kernel_rfl) rfl
    (fun f fn hf hfn => by
      obtain rfl : f = 3 := Option.some.inj ((show Tryz.prog.funcNamed "crier/crierlaw13.SessionBack" = some 3 by kernel_rfl).symm.trans hf) |>.symm
      obtain rfl : fn = Tryz.f3 := (Option.some.inj (Tryz.func3.symm.trans hfn)).symm
      exact ⟨by kernel_rfl, fun j t ht => by
        rw [Tryz.params3] at ht
        have h3 : t = 24 ∨ t = 9 ∨ t = 25 := by
          rcases j with _ | _ | _ | _ | j
          · exact .inl (by simpa using ht.symm)
          · exact .inr (.inl (by simpa using ht.symm))
          · exact .inr (.inr (by simpa using ht.symm))
          · exact .inr (.inr (by simpa using ht.symm))
          · simp at ht
        rcases h3 with rfl | rfl | rfl
        · exact (show Tryz.prog.wantsStandIn 24 = false by kernel_rfl)
        · exact (show Tryz.prog.wantsStandIn 9 = false by kernel_rfl)
        · exact (show Tryz.prog.wantsStandIn 25 = false by kernel_rfl)⟩)
    (by kernel_rfl)
end Go.Proofs.YtmihpmmkkklpfaaGreatDoor.sessionBack
namespace Go.Proofs.YtmihpmmkkklpfaaGreatDoor
theorem sessionBack_holds : Rows.SessionBackCardSaid := sessionBack.card_holds
#print axioms sessionBack_holds
end Go.Proofs.YtmihpmmkkklpfaaGreatDoor
