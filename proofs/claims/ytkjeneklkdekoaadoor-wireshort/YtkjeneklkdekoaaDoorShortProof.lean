import Derived.Test.YtkjeneklkdekoaaDoorFrame
import Derived.Test.YtkjeneklkdekoaaDoorVone
import Derived.Test.YtkjeneklkdekoaaDoorCards
import Derived.Test.YtkjeneklkdekoaaDoorTie
import Derived.SevenTiedAt
namespace Go.Proofs.YtkjeneklkdekoaaDoor.wireShort
open Go Go.ChangeShapes Go.WideShapes Go.ChangeAt Go.RowKit
open Go.ChangeMaps (open_string shut_string)
set_option linter.unusedSimpArgs false
set_option linter.unusedVariables false

theorem isRow_came {w : World} {a : Option Addr} {len cap : Nat} {zs : List Int} (h : IsRow .u8 w a len cap zs) : Came w a len cap (fun i => zs.getD i 0) := by
  rcases h with ⟨rfl, rfl, rfl, rfl⟩ | ⟨x, rfl, hl, hm, hz, hcell, hwz⟩
  · exact ⟨Nat.le_refl _, fun i => by simp, .inl ⟨rfl, rfl, rfl⟩⟩
  · refine ⟨hl, fun i => ?_, .inr ⟨x, rfl, fun i hi => hcell i (by omega)⟩⟩
    have h := range_u8 hwz i
    simpa using h

theorem own_came {w w' : World} {a : Option Addr} {c n : Nat} {xs : List Value} {z : Nat → Int} {base : Nat} (ho : w'.ownsRow base 5 1 (.slice a n c) n xs) (hn : 1 ≤ n) (hx : xs = cellsOf z n) (hz : ∀ i, 0 ≤ z i ∧ z i ≤ 255) : ∃ g, a = some ⟨g, 0, none⟩ ∧ Came w' (some ⟨g, 0, none⟩) n c z := by
  have ho' := ho
  obtain ⟨_, h | ⟨g, cp, cur, hv, _⟩⟩ := ho'
  · omega
  · cases hv
    rw [hx] at ho
    exact ⟨g, rfl, made_came (w := w) ho hz⟩

set_option maxRecDepth 100000 in
set_option maxHeartbeats 2000000 in
theorem walk (a0 : Option Addr) (len cap : Nat) (z : Nat → Int) (w : World) (hg : GlobalAt w) (hc : Came w a0 len cap z) :
    Calls Tryd.prog 5 #[.slice a0 len cap] w fun e w' => e = .returned (.bool true) ∧ Below w.heap.size w w' := by
  have K0 : Hid (Calls Tryd.prog 6 #[] w fun e w' => e = .returned (.bool true) ∧ Below w.heap.size w w') := known_any w hg
  have HC : Hid (∀ w', Below w.heap.size w w' → Came w' a0 len cap z) := fun w' hb => came_below (B := 0) hc hb
  have hz : Hid (∀ i, 0 ≤ z i ∧ z i ≤ 255) := hc.2.1
  clear hc hg
  by_cases hl : 140000 < len
  · have hl' : (140000 : Int) < len := by omega
    go_enter Tryd.func5, Tryd.ntmps5
    go_wp2_with (go_at_call 6; refine K0.out.mono ?_; rintro e w1 ⟨rfl, hb1⟩)
    go_ret
    exact ⟨rfl, hb1⟩
  have hl' : ¬ (140000 : Int) < len := by omega
  have hlm : len ≤ 140000 := by omega
  have L0 : Hid (∀ w' ao c n zz, Came w' ao n c zz → n ≤ 1000000 → Calls Tryd.prog 25 #[.slice ao n c] w' fun q w'' => q = .returned (.tuple #[.int .i64 (lenZ n zz).1, .int .i64 (lenZ n zz).2.1, .int .i64 (lenZ n zz).2.2]) ∧ w'' = w') := fun w' ao c n zz h hn => wlen_any ao n c zz w' (came_byt h) hn
  rcases len_ways len z hz.out with ⟨e1, h4, m, e2, hm⟩ | ⟨e1, h4⟩ | ⟨n, k, e1, hk1, hk4, hkl, hn0, hn1, hkn⟩
  · have L1 : Hid (∀ w', Below w.heap.size w w' → Calls Tryd.prog 25 #[.slice a0 len cap] w' fun q w'' => q = .returned (.tuple #[.int .i64 0, .int .i64 0, .int .i64 10]) ∧ w'' = w') := fun w' hb => by
      have t := L0.out w' a0 cap len z (HC.out w' hb) (by omega)
      rw [e1] at t
      exact t
    have L2 : Hid (∀ w' ao c, Came w' ao (len + 1) c (cat z len (lZ [0])) → Calls Tryd.prog 25 #[.slice ao (len + 1) c] w' fun q w'' => q = .returned (.tuple #[.int .i64 m, .int .i64 ((len : Int) + 1), .int .i64 0]) ∧ w'' = w') := fun w' ao c h => by
      have t := L0.out w' ao c (len + 1) _ h (by omega)
      rw [e2] at t
      exact t
    clear e1 e2
    have h4' : (len : Int) < 4 := by omega
    go_enter Tryd.func5, Tryd.ntmps5
    go_wp2_with (go_at_call 6; refine K0.out.mono ?_; rintro e w1 ⟨rfl, hb1⟩; have B1 : Hid (Below w.heap.size w w1) := hb1; clear hb1)
    go_must (go_at_call 25)
    refine (L1.out _ B1.out).mono ?_
    rintro e w2 ⟨rfl, rfl⟩
    go_wp2_with fail
    go_must (go_at_call 20)
    refine (num_any _ _).mono ?_
    rintro e w3 ⟨rfl, rfl⟩
    go_wp2_with fail
    go_must (go_at_call 8)
    have bb : Below w.heap.size w (w3.alloc (.cells #[.int .u8 0] 5)) := B1.out.alloc B1.out.size _
    refine (lbehind_any a0 (some ⟨w3.heap.size, 0, none⟩) len cap 1 1 z (lZ [0]) _ (HC.out _ bb) (new_came w3 1 (lZ [0]) _ rfl (lZ_bd _ (by decide))) (by omega) (by omega)).mono ?_
    rintro e w4 ⟨a, c, rfl, ho, hb4⟩
    obtain ⟨g, rfl, hcm⟩ := own_came (w := w) ho (by omega) (cells_cat z (lZ [0]) len 1) (cat_bd hz.out (lZ_bd _ (by decide)))
    have B4 : Hid (Below w.heap.size w w4) := bb.trans (hb4.mono bb.size)
    have C4 : Hid (Came w4 (some ⟨g, 0, none⟩) (len + 1) c (cat z len (lZ [0]))) := hcm
    clear ho hb4 hcm bb
    go_wp2_with fail
    go_must (go_at_call 25)
    refine (L2.out _ _ _ C4.out).mono ?_
    rintro e w5 ⟨rfl, rfl⟩
    go_wp2_with fail
    go_must (go_at_call 20)
    refine (num_any _ _).mono ?_
    rintro e w6 ⟨rfl, rfl⟩
    go_wp2
    go_ret
    exact ⟨rfl, B4.out⟩
  · have L1 : Hid (∀ w', Below w.heap.size w w' → Calls Tryd.prog 25 #[.slice a0 len cap] w' fun q w'' => q = .returned (.tuple #[.int .i64 0, .int .i64 0, .int .i64 12]) ∧ w'' = w') := fun w' hb => by
      have t := L0.out w' a0 cap len z (HC.out w' hb) (by omega)
      rw [e1] at t
      exact t
    clear e1
    have h4' : (4 : Int) ≤ len := by omega
    go_enter Tryd.func5, Tryd.ntmps5
    go_wp2_with (go_at_call 6; refine K0.out.mono ?_; rintro e w1 ⟨rfl, hb1⟩; have B1 : Hid (Below w.heap.size w w1) := hb1; clear hb1)
    go_must (go_at_call 25)
    refine (L1.out _ B1.out).mono ?_
    rintro e w2 ⟨rfl, rfl⟩
    go_wp2_with (go_at_call 20; refine (num_any _ _).mono ?_; rintro e w3 ⟨rfl, rfl⟩)
    go_ret
    exact ⟨rfl, B1.out⟩
  · have L1 : Hid (∀ w', Below w.heap.size w w' → Calls Tryd.prog 25 #[.slice a0 len cap] w' fun q w'' => q = .returned (.tuple #[.int .i64 n, .int .i64 k, .int .i64 0]) ∧ w'' = w') := fun w' hb => by
      have t := L0.out w' a0 cap len z (HC.out w' hb) (by omega)
      rw [e1] at t
      exact t
    have P0 : Hid (∀ w', Below w.heap.size w w' → Calls Tryd.prog 11 #[.slice none 0 0, .int .i64 n] w' fun e w'' => ∃ g cp, e = .returned (.slice (some ⟨g, 0, none⟩) (kn n) cp) ∧ Below w.heap.size w w'') := fun w' hb => by
      refine (putLength_in none 0 0 (lZ []) n hn0 hn1 w' (nil_came _ _ (lZ_bd _ (by decide))) (by decide)).mono ?_
      rintro e w'' ⟨g, cp, rfl, _, hb2⟩
      exact ⟨g, cp, by rw [Nat.zero_add], hb.trans (hb2.mono hb.size)⟩
    clear e1
    go_enter Tryd.func5, Tryd.ntmps5
    go_wp2_with (go_at_call 6; refine K0.out.mono ?_; rintro e w1 ⟨rfl, hb1⟩; have B1 : Hid (Below w.heap.size w w1) := hb1; clear hb1)
    go_must (go_at_call 25)
    refine (L1.out _ B1.out).mono ?_
    rintro e w2 ⟨rfl, rfl⟩
    go_wp2_with (go_at_call 20; refine (num_any _ _).mono ?_; rintro e w3 ⟨rfl, rfl⟩)
    go_must (go_at_call 11)
    refine (P0.out _ B1.out).mono ?_
    rintro e w4 ⟨g, cp, rfl, hb4⟩
    go_wp2
    go_ret
    exact ⟨rfl, hb4⟩

set_option maxRecDepth 100000 in
theorem lifted (os : Os) (started : os.Started) (H : Type) (enc : TypeId × Value → H) :
    ReturnsInHanded {} Tryd.checked os 5 .any (fun w args => (Rows.wireShortSpec.pre enc Tryd.prog Tryd.f5 [] false w args ∧ laidMetH Tryd.prog [("errors.errorType", Rows.laid_errors_errorType)] w) ∧ sizedMet enc Tryd.prog Tryd.f5 (OpenSpec.ofChange Rows.wireShortSpec) false w args)
      (Rows.wireShortSpec.post enc Tryd.prog Tryd.f5 false true false false) := by
  refine returnsInHanded_of_change_and (C := Tryd.checked) (X := fun w _ => laidMetH Tryd.prog [("errors.errorType", Rows.laid_errors_errorType)] w) (fun _ _ _ hh h => h.of_heap hh) Tryd.own started (by kernel_rfl) Tryd.func5
    (ChangeSpec.witness_at (enc := enc) (C := Tryd.checked) (os := os) (X := fun w _ => laidMetH Tryd.prog [("errors.errorType", Rows.laid_errors_errorType)] w) false ({ World.holding Tryd.prog os ⟨#[], #[], []⟩ with heap := (World.holding Tryd.prog os ⟨#[], #[], []⟩).heap.modify 0 fun
      | .cells _ t frozen => .cells #[.iface 83 (.agg #[.pointer (some ⟨1, 31, none⟩)])] t frozen
      | o => o } : World) #[.slice none 0 0] 8 rfl (by kernel_rfl) (by kernel_rfl) (by kernel_rfl) (by kernel_rfl) (by kernel_rfl) (laidWorld_met os _)) ?_
  intro W base args ds gs before hval0 hW _ _ hL _
  have hval : ∀ (j : Nat) t v, Tryd.f5.params[j]? = some t → args[j]? = some v → Value.okWide Tryd.prog W .any base t v := hval0
  have hW' := hW
  obtain ⟨p, q, hA0, hV0, rfl, hfz, hnd⟩ := hW
  have hA : DataW.TrodAll enc Tryd.prog W 0 (fun _ => true) true Tryd.f5.params.toList args.toList ds p := hA0
  have hV : DataW.TrodVars enc Tryd.prog W (fun _ => true) [] gs q := hV0
  rw [Tryd.params5] at hA hval
  obtain ⟨v0, d0, rfl, rfl, h0⟩ := trodAll_one hA
  obtain ⟨rfl, rfl⟩ : gs = [] ∧ q = [] := by
    cases gs with
    | nil => exact ⟨rfl, hV⟩
    | cons g r => exact absurd hV (by intro h; cases h)
  have hg := handle_of_laid hL
  obtain ⟨a0, len0, cap0, rfl⟩ := okWide_slice Tryd.underlying22 (hval 0 22 v0 rfl rfl)
  have k0 := h0
  have lt0 : ∀ x ∈ p, x.block < W.heap.size := by obtain ⟨m, hm⟩ := k0; exact DataW.trod_lt m _ _ _ hm
  obtain ⟨z0, w0⟩ : ∃ zs, IsRow .u8 W a0 len0 cap0 zs := by
    obtain ⟨fuel, hf⟩ := h0
    rcases open_ints Tryd.underlying22 Tryd.underlying5 (by kernel_rfl) hf with ⟨hcs, _⟩ | ⟨x, l, c, zs, hcs, _, hl, hm, hz, _, hcell, hwz⟩
    · simp [Value.cells] at hcs
      obtain ⟨rfl, rfl, rfl⟩ := hcs
      exact ⟨[], .inl ⟨rfl, rfl, rfl, rfl⟩⟩
    · simp [Value.cells] at hcs
      obtain ⟨rfl, rfl, rfl⟩ := hcs
      exact ⟨zs, .inr ⟨_, rfl, hl, hm, by simpa using hz, hcell, hwz⟩⟩
  have e1 : Rows.wireShortSpec.fn H ([d0] ++ []) = { results := [.lit (.bool true)], args := [d0] } := by simp [Rows.wireShortSpec]
  refine (walk a0 len0 cap0 _ W hg (isRow_came w0)).mono fun e W' ⟨he, bel⟩ => ?_
  subst he
  refine ⟨_, rfl, _, _, _, [], p, [], hW', ?_, ?_, ?_, bel.frame _, fun h => by cases h⟩
  · rw [e1]; exact trodAll_mk1 (shut_bool Tryd.underlying4 true)
  · rw [e1]; exact trodAll_mk1 (Below.trod Tryd.laidOut (by kernel_rfl) (of_decide_eq_true (by kernel_rfl)) k0 bel lt0)
  · rw [e1]; rfl

theorem over : Rows.WireShortSaid :=
  OpenClaim.holds_of_wide 5 Tryd.f5 rfl rfl rfl rfl rfl rfl rfl ⟨rfl, rfl, rfl, rfl, rfl⟩ rfl rfl rfl rfl rfl (by kernel_rfl) Tryd.func5 (by kernel_rfl)
    (of_decide_eq_true (by kernel_rfl)) (by unfold Func.isWrapper; rw [if_neg (of_decide_eq_false (by kernel_rfl))]; exact ⟨rfl, rfl⟩)
    (fun os started H enc _ => lifted os started H enc)

theorem card_holds : Rows.WireShortCardSaid :=
  Claim7.holds_tied_plain_at .later [] [.handle] true (true, "93298a205230a88ea1e29a036d46ad04c75ea1936e33ef241578cb9c2bd683fc") true
    over (fun _ h => by cases h) (by kernel_rfl) (fun _ h => by cases h) wireShort_row_tie rfl ⟨rfl, rfl⟩ (by kernel_rfl) rfl
    (fun f fn hf hfn => by
      obtain rfl : f = 5 := Option.some.inj ((show Tryd.prog.funcNamed "crier/crierlaw1.WireShort" = some 5 by kernel_rfl).symm.trans hf) |>.symm
      obtain rfl : fn = Tryd.f5 := (Option.some.inj (Tryd.func5.symm.trans hfn)).symm
      exact ⟨by kernel_rfl, fun j t ht => by
        rw [Tryd.params5] at ht
        have h3 : t = 22 := by
          rcases j with _ | j
          · simpa using ht.symm
          · simp at ht
        subst h3
        exact (show Tryd.prog.wantsStandIn 22 = false by kernel_rfl)⟩)
    (by kernel_rfl)
end Go.Proofs.YtkjeneklkdekoaaDoor.wireShort

namespace Go.Proofs.YtkjeneklkdekoaaDoor
theorem wireShort_holds : Rows.WireShortCardSaid := wireShort.card_holds
#print axioms wireShort_holds
end Go.Proofs.YtkjeneklkdekoaaDoor
