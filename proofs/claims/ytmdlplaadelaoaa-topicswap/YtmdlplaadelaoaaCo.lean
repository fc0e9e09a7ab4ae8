import Derived.Test.YtmdlplaadelaoaaCn
namespace Go.Proofs.Ytmdlplaadelaoaa
open Go Go.RowKit
set_option linter.unusedSimpArgs false
set_option linter.unusedVariables false

theorem last_level (f : ByteArray) : ∃ mm lst, ((levels f).length = mm + 1 ∧ (levels f)[mm]? = some lst) ∧ (split (unB f)).getLast? = some (unB lst) := by
  have h := List.length_pos_iff.2 (levels_ne f)
  obtain ⟨lst, hl⟩ : ∃ l, (levels f)[(levels f).length - 1]? = some l := ⟨_, List.getElem?_eq_getElem (by omega)⟩
  refine ⟨(levels f).length - 1, lst, ⟨by omega, hl⟩, ?_⟩
  rw [← levels_split, List.getLast?_map, List.getLast?_eq_getElem?, hl]
  rfl
theorem plainLaw_any (f t z : ByteArray) (k : Int) (w : World) : Calls Try.prog 5 #[.string f, .string t, .string z, .int .i64 k] w fun e w' => e = .returned (.bool true) ∧ Below w.heap.size w w' := by
  by_cases hb : 5000 < f.size ∨ 5000 < t.size ∨ 5000 < z.size
  · exact plain_big f t z k w hb
  have hf : f.size ≤ 5000 := by omega
  have ht : t.size ≤ 5000 := by omega
  have hz : z.size ≤ 5000 := by omega
  obtain ⟨mm, lst, hL, hlast⟩ := last_level f
  have hmore : rfc f = 0 → ¬ unB lst = [35] → mch (f ++ ⟨#[47, 35]⟩) t = (mch f t || mch (f ++ ⟨#[47, 43, 47, 35]⟩) t) := fun h1 h2 => plain_more f t hf h1 (fun y hy => by rw [hlast] at hy; cases hy; exact h2)
  by_cases h0 : tcode t = 0
  · have r0 := topic_filter t h0
    have m0 : mch t t = true := by rw [mch_plain t t h0]; simp [h0]
    cases hm : mch f t with
    | true =>
      have hF := ((mch_iff f t).1 hm).1
      by_cases e : unB t = unB z
      · obtain rfl : t = z := un_inj e
        by_cases h35 : unB lst = [35]
        · exact plain_A11F1 f t k w hf ht h0 r0 m0 hm hF mm lst hL h35
        · exact plain_A11F2 f t k w hf ht h0 r0 m0 hm hF mm lst hL h35 _ (by rw [hmore hF h35, hm]; rfl) rfl
      · have m4 : mch t z = false := by rw [mch_plain t z h0]; simp [e]
        have qe : (t.toList == z.toList) = false := by rw [eq_two]; exact decide_eq_false e
        by_cases h35 : unB lst = [35]
        · exact plain_A21F1 f t z k w hf ht hz h0 r0 m0 m4 qe hm hF mm lst hL h35
        · exact plain_A21F2 f t z k w hf ht hz h0 r0 m0 m4 qe hm hF mm lst hL h35 _ (by rw [hmore hF h35, hm]; rfl) rfl
    | false =>
      by_cases hF : rfc f = 0
      · by_cases e : unB t = unB z
        · obtain rfl : t = z := un_inj e
          by_cases h35 : unB lst = [35]
          · exact plain_A10F1 f t k w hf ht h0 r0 m0 hm hF mm lst hL h35
          · exact plain_A10F2 f t k w hf ht h0 r0 m0 hm hF mm lst hL h35 _ (by rw [hmore hF h35, hm]; rfl) rfl
        · have m4 : mch t z = false := by rw [mch_plain t z h0]; simp [e]
          have qe : (t.toList == z.toList) = false := by rw [eq_two]; exact decide_eq_false e
          by_cases h35 : unB lst = [35]
          · exact plain_A20F1 f t z k w hf ht hz h0 r0 m0 m4 qe hm hF mm lst hL h35
          · exact plain_A20F2 f t z k w hf ht hz h0 r0 m0 m4 qe hm hF mm lst hL h35 _ (by rw [hmore hF h35, hm]; rfl) rfl
      · have hF' : (rfc f != 0) = true := by simpa using hF
        by_cases e : unB t = unB z
        · obtain rfl : t = z := un_inj e
          exact plain_A10F0 f t k w hf ht h0 r0 m0 hm hF'
        · have m4 : mch t z = false := by rw [mch_plain t z h0]; simp [e]
          have qe : (t.toList == z.toList) = false := by rw [eq_two]; exact decide_eq_false e
          exact plain_A20F0 f t z k w hf ht hz h0 r0 m0 m4 qe hm hF'
  · have a1 : (tcode t == 0) = false := by rw [beq_eq_false_iff_ne]; exact h0
    have hm : mch f t = false := by simp [mch, h0]
    by_cases hF : rfc f = 0
    · by_cases h35 : unB lst = [35]
      · exact plain_A00F1 f t z k w hf ht hz a1 hm hF mm lst hL h35
      · exact plain_A00F2 f t z k w hf ht hz a1 hm hF mm lst hL h35 _ (by rw [hmore hF h35, hm]; rfl) rfl
    · have hF' : (rfc f != 0) = true := by simpa using hF
      exact plain_A00F0 f t z k w hf ht hz a1 hm hF'
end Go.Proofs.Ytmdlplaadelaoaa
