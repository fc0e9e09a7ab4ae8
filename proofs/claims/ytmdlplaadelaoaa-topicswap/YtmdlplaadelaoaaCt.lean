import Derived.Test.YtmdlplaadelaoaaCq
import Derived.Test.YtmdlplaadelaoaaCr
import Derived.Test.YtmdlplaadelaoaaCs
namespace Go.Proofs.Ytmdlplaadelaoaa
open Go Go.RowKit Go.Sort
set_option linter.unusedSimpArgs false
set_option linter.unusedVariables false


theorem swapLaw_any (f t z : ByteArray) (k : Int) (w : World) : Calls Try.prog 6 #[.string f, .string t, .string z, .int .i64 k] w fun e w' => e = .returned (.bool true) ∧ Below w.heap.size w w' := by
  by_cases hb : 5000 < f.size ∨ 5000 < t.size ∨ 5000 < z.size
  · exact swap_big f t z k w hb
  have hf : f.size ≤ 5000 := by omega
  have ht : t.size ≤ 5000 := by omega
  have hz : z.size ≤ 5000 := by omega
  by_cases hl : (levels z).length = 1
  · by_cases h0 : tcode t = 0
    · refine swap_go f t z k w hf ht hz hl h0 ((split_one_iff _).1 ?_)
      rw [← levels_split, List.length_map]; exact hl
    · exact swap_none f t z k w hf ht hz hl (by rw [beq_eq_false_iff_ne]; exact h0)
  · exact swap_long f t z k w hf ht hz hl
end Go.Proofs.Ytmdlplaadelaoaa
