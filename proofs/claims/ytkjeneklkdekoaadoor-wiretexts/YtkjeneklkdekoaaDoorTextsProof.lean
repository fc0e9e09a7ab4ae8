import Derived.Test.YtkjeneklkdekoaaDoorTxe
import Derived.Test.YtkjeneklkdekoaaDoorTxf
import Derived.Test.YtkjeneklkdekoaaDoorTxg
import Derived.Test.YtkjeneklkdekoaaDoorFrame
import Derived.Test.YtkjeneklkdekoaaDoorCards
import Derived.Test.YtkjeneklkdekoaaDoorTie
import Derived.SevenTiedAt
namespace Go.Proofs.YtkjeneklkdekoaaDoor.wireTexts
open Go Go.ChangeShapes Go.WideShapes Go.ChangeAt Go.RowKit
open Go.ChangeMaps (open_string shut_string)
set_option linter.unusedSimpArgs false
set_option linter.unusedVariables false

set_option maxRecDepth 100000 in
set_option maxHeartbeats 1000000 in
theorem big (a b more : ByteArray) (cut : Int) (w : World) (hg : GlobalAt w) (h : 30000 < a.size ∨ 30000 < b.size ∨ 5000 < more.size) :
    Calls Tryd.prog 4 #[.string a, .string b, .string more, .int .i64 cut] w fun e w' => e = .returned (.bool true) ∧ Below w.heap.size w w' := by
  have K0 : Hid (Calls Tryd.prog 6 #[] w fun e w' => e = .returned (.bool true) ∧ Below w.heap.size w w') := known_any w hg
  clear hg
  by_cases i1 : 30000 < a.size
  · have i1' : (30000 : Int) < a.size := by omega
    go_enter Tryd.func4, Tryd.ntmps4
    go_wp2_with (go_at_call 6; refine K0.out.mono ?_; rintro e w1 ⟨rfl, hb1⟩)
    go_ret
    exact ⟨rfl, hb1⟩
  have i1' : ¬ (30000 : Int) < a.size := by omega
  by_cases i2 : 30000 < b.size
  · have i2' : (30000 : Int) < b.size := by omega
    go_enter Tryd.func4, Tryd.ntmps4
    go_wp2_with (go_at_call 6; refine K0.out.mono ?_; rintro e w1 ⟨rfl, hb1⟩)
    go_ret
    exact ⟨rfl, hb1⟩
  have i2' : ¬ (30000 : Int) < b.size := by omega
  have i3' : (5000 : Int) < more.size := by omega
  go_enter Tryd.func4, Tryd.ntmps4
  go_wp2_with (go_at_call 6; refine K0.out.mono ?_; rintro e w1 ⟨rfl, hb1⟩)
  go_ret
  exact ⟨rfl, hb1⟩

theorem walk (a b more : ByteArray) (cut : Int) (w : World) (hg : GlobalAt w) :
    Calls Tryd.prog 4 #[.string a, .string b, .string more, .int .i64 cut] w fun e w' => e = .returned (.bool true) ∧ Below w.heap.size w w' := by
  by_cases hbig : 30000 < a.size ∨ 30000 < b.size ∨ 5000 < more.size
  · exact big a b more cut w hg hbig
  have h1 : a.size ≤ 30000 := by omega
  have h2 : b.size ≤ 30000 := by omega
  have h3 : more.size ≤ 5000 := by omega
  have hsz := app_size a b
  by_cases ga : good a
  · have hCA := good_chk a (by omega) ga
    by_cases gb : good b
    · have hCB := good_chk b (by omega) gb
      have hCC := good_chk (a ++ b) (by omega) ((good_join a b h1 h2 ga).1 gb)
      by_cases c0 : cut < 0
      · exact texts_low a b more cut w hg h1 h2 h3 c0 hCA hCB hCC
      by_cases c1 : (a.size : Int) ≤ cut
      · exact texts_high a b more cut w hg h1 h2 h3 c1 hCA hCB hCC
      obtain ⟨c, hcut⟩ : ∃ c : Nat, cut = c := ⟨cut.toNat, by omega⟩
      have hc : c < a.size := by omega
      have hat := atB_in a c hc
      by_cases l1 : (a[c]'hc).toNat < 128
      · obtain ⟨g1, g2⟩ := good_cut a h1 c hc ga (by omega)
        exact texts_ascii a b more cut w hg h1 h2 h3 c hcut hc l1 hCA hCB hCC (good_chk _ (by rw [ext_size _ _ _ (by omega)]; omega) g1) (good_chk _ (by rw [ext_size _ _ _ (by omega)]; omega) g2)
      by_cases l2 : 192 ≤ (a[c]'hc).toNat
      · obtain ⟨g1, g2⟩ := good_cut a h1 c hc ga (by omega)
        exact texts_lead a b more cut w hg h1 h2 h3 c hcut hc l2 hCA hCB hCC (good_chk _ (by rw [ext_size _ _ _ (by omega)]; omega) g1) (good_chk _ (by rw [ext_size _ _ _ (by omega)]; omega) g2)
      · exact texts_mid a b more cut w hg h1 h2 h3 c hcut hc (by omega) hCA hCB hCC
    · have gc : ¬ good (a ++ b) := fun h => gb ((good_join a b h1 h2 ga).2 h)
      obtain ⟨r, hp, hw⟩ := bad_at (a ++ b) (by omega) gc
      have gd := good_front (a ++ b) (by omega) gc
      obtain ⟨p, g, hpg⟩ : ∃ p g, chk (a ++ b) = (p, g) := ⟨_, _, rfl⟩
      have hbb := bad_behind (a ++ b) more (by omega) h3 gc
      rw [hpg] at hp hw gd hbb
      simp only at hp hw gd hbb
      have hCD := good_chk _ (by rw [ext_size _ _ _ (by omega)]; omega) gd
      have hat := atB_in (a ++ b) p hp
      obtain ⟨pb, qb, hCB⟩ : ∃ pb qb, chk b = (pb, qb) := ⟨_, _, rfl⟩
      obtain ⟨pe, qe, hCE⟩ : ∃ pe qe, chk ((a ++ b).extract 0 (a ++ b).size ++ more) = (pe, qe) := ⟨_, _, rfl⟩
      have hqb : qb ≠ 0 := fun h => gb (by unfold good; rw [hCB]; exact h)
      rcases hw with ⟨hz, rfl⟩ | ⟨hz, _, rfl⟩
      · have hby : ((a ++ b)[p]'hp).toNat = 0 := by rw [← hat]; exact hz
        by_cases f1 : p + 4 < (a ++ b).size
        · exact texts_near14g a b more cut w hg h1 h2 h3 pb qb p hCA hqb hCB hpg hp hby hCD f1 (hbb (by omega))
        by_cases f2 : p + 4 = (a ++ b).size
        · exact texts_equal14g a b more cut w hg h1 h2 h3 pb qb p hCA hqb hCB hpg hp hby hCD f2 (by rw [← f2]; exact hbb (by omega))
        · exact texts_far14g a b more cut w hg h1 h2 h3 pb qb p hCA hqb hCB hpg hp hby hCD (by omega) pe qe hCE
      · have hby : ((a ++ b)[p]'hp).toNat ≠ 0 := by rw [← hat]; exact hz
        by_cases f1 : p + 4 < (a ++ b).size
        · exact texts_near13g a b more cut w hg h1 h2 h3 pb qb p hCA hqb hCB hpg hp hby hCD f1 (hbb (by omega))
        by_cases f2 : p + 4 = (a ++ b).size
        · exact texts_equal13g a b more cut w hg h1 h2 h3 pb qb p hCA hqb hCB hpg hp hby hCD f2 (by rw [← f2]; exact hbb (by omega))
        · exact texts_far13g a b more cut w hg h1 h2 h3 pb qb p hCA hqb hCB hpg hp hby hCD (by omega) pe qe hCE
  · by_cases gc : good (a ++ b)
    · have hCC := good_chk (a ++ b) (by omega) gc
      obtain ⟨pa, qa, hCA⟩ : ∃ pa qa, chk a = (pa, qa) := ⟨_, _, rfl⟩
      have hqa : qa ≠ 0 := fun h => ga (by unfold good; rw [hCA]; exact h)
      obtain ⟨pb, qb, hCB⟩ : ∃ pb qb, chk b = (pb, qb) := ⟨_, _, rfl⟩
      exact texts_odd a b more cut w hg h1 h2 h3 pa qa pb qb hCA hqa hCB hCC
    · skip
      obtain ⟨r, hp, hw⟩ := bad_at (a ++ b) (by omega) gc
      have gd := good_front (a ++ b) (by omega) gc
      obtain ⟨p, g, hpg⟩ : ∃ p g, chk (a ++ b) = (p, g) := ⟨_, _, rfl⟩
      have hbb := bad_behind (a ++ b) more (by omega) h3 gc
      rw [hpg] at hp hw gd hbb
      simp only at hp hw gd hbb
      have hCD := good_chk _ (by rw [ext_size _ _ _ (by omega)]; omega) gd
      have hat := atB_in (a ++ b) p hp
      obtain ⟨pb, qb, hCB⟩ : ∃ pb qb, chk b = (pb, qb) := ⟨_, _, rfl⟩
      obtain ⟨pe, qe, hCE⟩ : ∃ pe qe, chk ((a ++ b).extract 0 (a ++ b).size ++ more) = (pe, qe) := ⟨_, _, rfl⟩
      obtain ⟨pa, qa, hCA⟩ : ∃ pa qa, chk a = (pa, qa) := ⟨_, _, rfl⟩
      have hqa : qa ≠ 0 := fun h => ga (by unfold good; rw [hCA]; exact h)
      rcases hw with ⟨hz, rfl⟩ | ⟨hz, _, rfl⟩
      · have hby : ((a ++ b)[p]'hp).toNat = 0 := by rw [← hat]; exact hz
        by_cases f1 : p + 4 < (a ++ b).size
        · exact texts_near14 a b more cut w hg h1 h2 h3 pa qa pb qb p hCA hqa hCB hpg hp hby hCD f1 (hbb (by omega))
        by_cases f2 : p + 4 = (a ++ b).size
        · exact texts_equal14 a b more cut w hg h1 h2 h3 pa qa pb qb p hCA hqa hCB hpg hp hby hCD f2 (by rw [← f2]; exact hbb (by omega))
        · exact texts_far14 a b more cut w hg h1 h2 h3 pa qa pb qb p hCA hqa hCB hpg hp hby hCD (by omega) pe qe hCE
      · have hby : ((a ++ b)[p]'hp).toNat ≠ 0 := by rw [← hat]; exact hz
        by_cases f1 : p + 4 < (a ++ b).size
        · exact texts_near13 a b more cut w hg h1 h2 h3 pa qa pb qb p hCA hqa hCB hpg hp hby hCD f1 (hbb (by omega))
        by_cases f2 : p + 4 = (a ++ b).size
        · exact texts_equal13 a b more cut w hg h1 h2 h3 pa qa pb qb p hCA hqa hCB hpg hp hby hCD f2 (by rw [← f2]; exact hbb (by omega))
        · exact texts_far13 a b more cut w hg h1 h2 h3 pa qa pb qb p hCA hqa hCB hpg hp hby hCD (by omega) pe qe hCE

set_option maxRecDepth 100000 in
theorem lifted (os : Os) (started : os.Started) (H : Type) (enc : TypeId × Value → H) :
    ReturnsInHanded {} Tryd.checked os 4 .any (fun w args => (Rows.wireTextsSpec.pre enc Tryd.prog Tryd.f4 [] false w args ∧ laidMetH Tryd.prog [("errors.errorType", Rows.laid_errors_errorType)] w) ∧ sizedMet enc Tryd.prog Tryd.f4 (OpenSpec.ofChange Rows.wireTextsSpec) false w args)
      (Rows.wireTextsSpec.post enc Tryd.prog Tryd.f4 false true false false) := by
  refine returnsInHanded_of_change_and (C := Tryd.checked) (X := fun w _ => laidMetH Tryd.prog [("errors.errorType", Rows.laid_errors_errorType)] w) (fun _ _ _ hh h => h.of_heap hh) Tryd.own started (by kernel_rfl) Tryd.func4
    (ChangeSpec.witness_at (enc := enc) (C := Tryd.checked) (os := os) (X := fun w _ => laidMetH Tryd.prog [("errors.errorType", Rows.laid_errors_errorType)] w) false ({ World.holding Tryd.prog os ⟨#[], #[], []⟩ with heap := (World.holding Tryd.prog os ⟨#[], #[], []⟩).heap.modify 0 fun
      | .cells _ t frozen => .cells #[.iface 83 (.agg #[.pointer (some ⟨1, 31, none⟩)])] t frozen
      | o => o } : World) #[.string ByteArray.empty, .string ByteArray.empty, .string ByteArray.empty, .int .i64 0] 8 rfl (by kernel_rfl) (by kernel_rfl) (by kernel_rfl) (by kernel_rfl) (by kernel_rfl) (laidWorld_met os _)) ?_
  intro W base args ds gs before hval0 hW _ _ hL _
  have hval : ∀ (j : Nat) t v, Tryd.f4.params[j]? = some t → args[j]? = some v → Value.okWide Tryd.prog W .any base t v := hval0
  have hW' := hW
  obtain ⟨p, q, hA0, hV0, rfl, hfz, hnd⟩ := hW
  have hA : DataW.TrodAll enc Tryd.prog W 0 (fun _ => true) true Tryd.f4.params.toList args.toList ds p := hA0
  have hV : DataW.TrodVars enc Tryd.prog W (fun _ => true) [] gs q := hV0
  rw [Tryd.params4] at hA hval
  obtain ⟨v0, v1, v2, v3, d0, d1, d2, d3, p0, p1, p2, p3, rfl, rfl, rfl, h0, h1, h2, h3⟩ := trodAll_four hA
  obtain ⟨rfl, rfl⟩ : gs = [] ∧ q = [] := by
    cases gs with
    | nil => exact ⟨rfl, hV⟩
    | cons g r => exact absurd hV (by intro h; cases h)
  have hg := handle_of_laid hL
  obtain ⟨a0, rfl, rfl, rfl, w0⟩ := open_string Tryd.underlying9 (hval 0 9 v0 rfl rfl) h0
  obtain ⟨a1, rfl, rfl, rfl, w1⟩ := open_string Tryd.underlying9 (hval 1 9 v1 rfl rfl) h1
  obtain ⟨a2, rfl, rfl, rfl, w2⟩ := open_string Tryd.underlying9 (hval 2 9 v2 rfl rfl) h2
  obtain ⟨a3, rfl, rfl, rfl, w3⟩ := open_int Tryd.underlying3 (hval 3 3 v3 rfl rfl) h3
  refine (walk a0 a1 a2 a3 W hg).mono fun e W' ⟨he, bel⟩ => ?_
  subst he
  refine ⟨_, rfl, _, _, _, [], [], [], hW', ?_, ?_, ?_, bel.frame _, fun h => by cases h⟩
  · simp only [Rows.wireTextsSpec, List.append_nil]; exact trodAll_mk1 (shut_bool Tryd.underlying4 true)
  · simp only [Rows.wireTextsSpec, List.append_nil]; exact trodAll_cons_mk (shut_string Tryd.underlying9 w0) (trodAll_cons_mk (shut_string Tryd.underlying9 w1) (trodAll_cons_mk (shut_string Tryd.underlying9 w2) (trodAll_cons_mk (shut_int Tryd.underlying3 w3) trodAll_mk0)))
  · simp only [Rows.wireTextsSpec, List.append_nil]; rfl

theorem over : Rows.WireTextsSaid :=
  OpenClaim.holds_of_wide 4 Tryd.f4 rfl rfl rfl rfl rfl rfl rfl ⟨rfl, rfl, rfl, rfl, rfl⟩ rfl rfl rfl rfl rfl (by kernel_rfl) Tryd.func4 (by kernel_rfl)
    (of_decide_eq_true (by kernel_rfl)) (by unfold Func.isWrapper; rw [if_neg (of_decide_eq_false (by kernel_rfl))]; exact ⟨rfl, rfl⟩)
    (fun os started H enc _ => lifted os started H enc)

theorem card_holds : Rows.WireTextsCardSaid :=
  Claim7.holds_tied_plain_at .later [] [.handle] true (true, "93298a205230a88ea1e29a036d46ad04c75ea1936e33ef241578cb9c2bd683fc") true
    over (fun _ h => by cases h) (by kernel_rfl) (fun _ h => by cases h) wireTexts_row_tie rfl ⟨rfl, rfl⟩ (by kernel_rfl) rfl
    (fun f fn hf hfn => by
      obtain rfl : f = 4 := Option.some.inj ((show Tryd.prog.funcNamed "crier/crierlaw1.WireTexts" = some 4 by kernel_rfl).symm.trans hf) |>.symm
      obtain rfl : fn = Tryd.f4 := (Option.some.inj (Tryd.func4.symm.trans hfn)).symm
      exact ⟨by kernel_rfl, fun j t ht => by
        rw [Tryd.params4] at ht
        have h3 : t = 9 ∨ t = 3 := by
          rcases j with _ | _ | _ | _ | j
          · exact .inl (by simpa using ht.symm)
          · exact .inl (by simpa using ht.symm)
          · exact .inl (by simpa using ht.symm)
          · exact .inr (by simpa using ht.symm)
          · simp at ht
        rcases h3 with rfl | rfl
        · exact (show Tryd.prog.wantsStandIn 9 = false by kernel_rfl)
        · exact (show Tryd.prog.wantsStandIn 3 = false by kernel_rfl)⟩)
    (by kernel_rfl)
end Go.Proofs.YtkjeneklkdekoaaDoor.wireTexts

namespace Go.Proofs.YtkjeneklkdekoaaDoor
theorem wireTexts_holds : Rows.WireTextsCardSaid := wireTexts.card_holds
#print axioms wireTexts_holds
end Go.Proofs.YtkjeneklkdekoaaDoor
