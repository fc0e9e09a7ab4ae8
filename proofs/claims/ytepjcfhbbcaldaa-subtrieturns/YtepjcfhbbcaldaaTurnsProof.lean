import Derived.Test.YtepjcfhbbcaldaaRows
import Derived.Test.YtepjcfhbbcaldaaKob
import Derived.Test.YtepjcfhbbcaldaaKoe
import Derived.WalkKit
namespace Go.Proofs.Ytepjcfhbbcaldaa.subtrieTurns
open Go Go.ChangeShapes Go.WideShapes Go.ChangeAt Go.RowKit
open Go.ChangeMaps (open_string shut_string)
set_option linter.unusedVariables false
theorem own : ownKnob Try.prog.godebug = none := by kernel_rfl
theorem laidOut : laidOutB Try.prog = true := by kernel_rfl
set_option maxRecDepth 100000 in
theorem plain_of {W : World} {base : Nat} {t e : TypeId} (ht : Try.prog.underlying t = some (.slice e)) {a : Option Addr} {len cap : Nat} (h : Value.okWide Try.prog W .any base t (.slice a len cap)) : ∀ ad, a = some ad → ∃ b off, ad = ⟨b, off, none⟩ := by
  intro ad e'
  subst e'
  unfold Value.okWide at h
  rw [ht] at h
  have h' : Cell.okWide Try.prog W .any base t (.slice (some ad) len cap) := h
  unfold Cell.okWide at h'
  rw [ht] at h'
  simp only [Cell.ok, ht] at h'
  obtain ⟨h1, h2, _, h3, _⟩ := h'
  obtain ⟨b, off, spot⟩ := ad
  simp only at h3
  subst h3
  exact ⟨b, off, rfl⟩
set_option maxRecDepth 100000 in
theorem lifted (os : Os) (started : os.Started) (H : Type) (enc : TypeId × Value → H) :
    ReturnsInHanded {} Try.checked os 4 .any (Rows.subtrieTurnsSpec.pre6 enc Try.prog Try.f4 Rows.subtrieTurnsRow.domain false) (Rows.subtrieTurnsSpec.post enc Try.prog Try.f4 false true false false) := by
  refine returnsInHanded_of_change_sized (C := Try.checked) own started (by kernel_rfl) Try.func4
    (ChangeSpec.witness6 (enc := enc) (C := Try.checked) false ⟨#[], #[.slice none 0 0], []⟩ 8 (by kernel_rfl) (by kernel_rfl) (by kernel_rfl) (by kernel_rfl)) ?_
  intro W base args ds gs before hval0 hW hcnd hsz0 _
  have hval : ∀ (j : Nat) t v, Try.f4.params[j]? = some t → args[j]? = some v → Value.okWide Try.prog W .any base t v := hval0
  have hW' := hW
  obtain ⟨p, q, hA0, hV, rfl, hfz, hnd⟩ := hW
  have hA : DataW.TrodAll enc Try.prog W 0 (fun _ => true) true Try.f4.params.toList args.toList ds p := hA0
  rw [Try.params4] at hA hval
  obtain ⟨v0, vs0, d0, ds0, p0, q0, hargs, rfl, rfl, h0, r0⟩ := trodAll_cons hA
  obtain ⟨rfl, rfl, rfl⟩ := trodAll_nil r0
  obtain rfl : args = #[v0] := by cases args; simp_all
  obtain ⟨rfl, rfl⟩ := trodVars_none hV
  have hsz : (DataW.weightsEach Try.prog (Try.f4.params.toList ++ []) ([d0] ++ [])).all (· ≤ reachBytes) = true := hsz0
  rw [Try.params4] at hsz
  have k0 := h0
  have lt0 : ∀ x ∈ p0, x.block < W.heap.size := by obtain ⟨m, hm⟩ := k0; exact DataW.trod_lt m _ _ _ hm
  have wk : Li.Wk 22 d0 := fun x hx => by
    have := List.all_eq_true.1 hsz x (DataW.weights_mem_each (j := 0) (t := 22) (d := d0) rfl rfl x hx)
    simpa using this
  obtain ⟨a, n, c, rfl⟩ := okWide_slice Try.underlying22 (hval 0 22 v0 rfl rfl)
  obtain ⟨l, hS, hx⟩ := Li.open_subs (plain_of Try.underlying22 (hval 0 22 _ rfl rfl)) h0 wk
  clear hA0 hval0
  refine (Li.turns_any hS hx).mono fun e W' ⟨he, bel⟩ => ?_
  subst he
  exact ⟨_, rfl, _, _, _, [], _, [], hW', trodAll_mk1 (shut_bool Try.underlying4 _), (trodAll_cons_mk (Below.trod laidOut (by kernel_rfl) (of_decide_eq_true (by kernel_rfl)) k0 bel lt0) trodAll_mk0), rfl, bel.frame _, fun h => by cases h⟩
theorem over : Rows.subtrieTurnsRow.holds Try.pinned (OpenSpec.ofChange Rows.subtrieTurnsSpec) :=
  OpenClaim.holds_of_wide 4 Try.f4 rfl rfl rfl rfl rfl rfl rfl ⟨rfl, rfl, rfl, rfl, rfl⟩ rfl rfl rfl rfl rfl (by kernel_rfl) Try.func4 (by kernel_rfl)
    (of_decide_eq_true (by kernel_rfl)) (by unfold Func.isWrapper; first | (rw [if_pos (by decide +kernel)]; kernel_rfl) | (rw [if_neg (by decide +kernel)]; exact ⟨rfl, rfl⟩))
    (fun os started H enc _ => lifted os started H enc)
end Go.Proofs.Ytepjcfhbbcaldaa.subtrieTurns
namespace Go.Proofs.Ytepjcfhbbcaldaa
theorem subtrieTurns_holds : Rows.SubtrieTurnsSaid := subtrieTurns.over
#print axioms subtrieTurns_holds
end Go.Proofs.Ytepjcfhbbcaldaa
