import Derived.Test.YtipagdhoeocjeaaGreatRows
import Derived.Test.YtipagdhoeocjeaaGreatNw
import Derived.Test.YtipagdhoeocjeaaGreatOh
import Derived.Test.YtipagdhoeocjeaaGreatOi
import Derived.WalkKit
namespace Go.Proofs.YtipagdhoeocjeaaGreat.rettrieFinds
open Go Go.ChangeShapes Go.WideShapes Go.ChangeAt Go.RowKit
open Go.ChangeMaps (open_string shut_string)
set_option linter.unusedVariables false
theorem own : ownKnob Tryz.prog.godebug = none := by kernel_rfl
theorem laidOut : laidOutB Tryz.prog = true := by kernel_rfl
set_option maxRecDepth 100000 in
theorem plain_of {W : World} {base : Nat} {t e : TypeId} (ht : Tryz.prog.underlying t = some (.slice e)) {a : Option Addr} {len cap : Nat} (h : Value.okWide Tryz.prog W .any base t (.slice a len cap)) : ∀ ad, a = some ad → ∃ b off, ad = ⟨b, off, none⟩ := by
  intro ad e'
  subst e'
  unfold Value.okWide at h
  rw [ht] at h
  have h' : Cell.okWide Tryz.prog W .any base t (.slice (some ad) len cap) := h
  unfold Cell.okWide at h'
  rw [ht] at h'
  simp only [Cell.ok, ht] at h'
  obtain ⟨h1, h2, _, h3, _⟩ := h'
  obtain ⟨b, off, spot⟩ := ad
  simp only at h3
  subst h3
  exact ⟨b, off, rfl⟩
set_option maxRecDepth 100000 in
theorem lifted (os : Os) (started : os.Started) (H : Type) (enc : TypeId × Value → H) :
    ReturnsInHanded {} Tryz.checked os 4 .any (Rows.rettrieFindsSpec.pre6 enc Tryz.prog Tryz.f4 Rows.rettrieFindsRow.domain false) (Rows.rettrieFindsSpec.post enc Tryz.prog Tryz.f4 false true false false) := by
  refine returnsInHanded_of_change_sized (C := Tryz.checked) own started (by kernel_rfl) Tryz.func4
    (ChangeSpec.witness6 (enc := enc) (C := Tryz.checked) false ⟨#[], #[.slice none 0 0, .string ByteArray.empty], []⟩ 8 (by kernel_rfl) (by kernel_rfl) (by kernel_rfl) (by kernel_rfl)) ?_
  intro W base args ds gs before hval0 hW hcnd hsz0 _
  have hval : ∀ (j : Nat) t v, Tryz.f4.params[j]? = some t → args[j]? = some v → Value.okWide Tryz.prog W .any base t v := hval0
  have hW' := hW
  obtain ⟨p, q, hA0, hV, rfl, hfz, hnd⟩ := hW
  have hA : DataW.TrodAll enc Tryz.prog W 0 (fun _ => true) true Tryz.f4.params.toList args.toList ds p := hA0
  rw [Tryz.params4] at hA hval
  obtain ⟨v0, vs0, d0, ds0, p0, q0, hargs, rfl, rfl, h0, r0⟩ := trodAll_cons hA
  obtain ⟨v1, vs1, d1, ds1, p1, q1, hargs1, rfl, rfl, h1, r1⟩ := trodAll_cons r0
  obtain ⟨rfl, rfl, rfl⟩ := trodAll_nil r1
  obtain rfl : args = #[v0, v1] := by cases args; simp_all
  obtain ⟨rfl, rfl⟩ := trodVars_none hV
  have hsz : (DataW.weightsEach Tryz.prog (Tryz.f4.params.toList ++ []) ([d0, d1] ++ [])).all (· ≤ reachBytes) = true := hsz0
  rw [Tryz.params4] at hsz
  have k0 := h0
  have lt0 : ∀ x ∈ p0, x.block < W.heap.size := by obtain ⟨m, hm⟩ := k0; exact DataW.trod_lt m _ _ _ hm
  have wk : Li.Wk 22 d0 := fun x hx => by
    have := List.all_eq_true.1 hsz x (DataW.weights_mem_each (j := 0) (t := 22) (d := d0) rfl rfl x hx)
    simpa using this
  obtain ⟨t, rfl, rfl, rfl, wt⟩ := open_string Tryz.underlying9 (hval 1 9 v1 rfl rfl) h1
  obtain ⟨a, n, c, rfl⟩ := okWide_slice Tryz.underlying22 (hval 0 22 v0 rfl rfl)
  obtain ⟨l, hS, hx, hbig⟩ := Li.open_msgs (plain_of Tryz.underlying22 (hval 0 22 _ rfl rfl)) h0 wk
  clear hA0 hval0
  refine (Li.findsL_any (f := t) Li.known_any hS hx hbig).mono fun e W' ⟨he, bel⟩ => ?_
  subst he
  exact ⟨_, rfl, _, _, _, [], _, [], hW', trodAll_mk1 (shut_bool Tryz.underlying4 _), (trodAll_cons_mk (Below.trod laidOut (by kernel_rfl) (of_decide_eq_true (by kernel_rfl)) k0 bel lt0) (trodAll_cons_mk (shut_string Tryz.underlying9 wt) trodAll_mk0)), rfl, bel.frame _, fun h => by cases h⟩
theorem over : Rows.rettrieFindsRow.holds Tryz.pinned (OpenSpec.ofChange Rows.rettrieFindsSpec) :=
  OpenClaim.holds_of_wide 4 Tryz.f4 rfl rfl rfl rfl rfl rfl rfl ⟨rfl, rfl, rfl, rfl, rfl⟩ rfl rfl rfl rfl rfl (by kernel_rfl) Tryz.func4 (by kernel_rfl)
    (of_decide_eq_true (by kernel_rfl)) (by unfold Func.isWrapper; first | (rw [if_pos (by decide +kernel)]; kernel_rfl) | (rw [if_neg (by decide +kernel)]; exact ⟨rfl, rfl⟩))
    (fun os started H enc _ => lifted os started H enc)
end Go.Proofs.YtipagdhoeocjeaaGreat.rettrieFinds
namespace Go.Proofs.YtipagdhoeocjeaaGreat
theorem rettrieFinds_holds : Rows.RettrieFindsSaid := rettrieFinds.over
#print axioms rettrieFinds_holds
end Go.Proofs.YtipagdhoeocjeaaGreat
