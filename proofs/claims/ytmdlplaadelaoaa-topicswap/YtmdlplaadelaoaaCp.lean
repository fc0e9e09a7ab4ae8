import Derived.Test.YtmdlplaadelaoaaCo
import Derived.Deep.RegionHeld
import Derived.Lib.QuietBelow
namespace Go.Proofs.Ytmdlplaadelaoaa
open Go Go.RowKit Go.Sort
set_option linter.unusedSimpArgs false
set_option linter.unusedVariables false

theorem own_later {w w' : World} {B n : Nat} {v : Value} {xs : List Value} (h : w.ownsRow B 9 1 v n xs) (hb : Below w.heap.size w w') : w'.ownsRow B 9 1 v n xs := by
  refine ⟨h.1, ?_⟩
  rcases h.2 with h2 | ⟨g, cap, cur, rfl, h3, hg, h4⟩
  · exact .inl h2
  · exact .inr ⟨g, cap, cur, rfl, h3, by rw [hb.block g (block_lt hg)]; exact hg, h4⟩
theorem held_next {g g2 i : Nat} {x y : ByteArray} {wb w w' : World} (h : w.cell? ⟨g, i, none⟩ = some (.string x) ∧ w.cell? ⟨g2, i, none⟩ = some (.string y) ∧ Hid (Below wb.heap.size wb w)) (hb : Hid (Below w.heap.size w w')) :
    w'.cell? ⟨g, i, none⟩ = some (.string x) ∧ w'.cell? ⟨g2, i, none⟩ = some (.string y) ∧ Hid (Below wb.heap.size wb w') :=
  ⟨cell_later hb.out h.1, cell_later hb.out h.2.1, h.2.2.out.trans (hb.out.mono h.2.2.out.size)⟩
theorem tcode_vals (u : ByteArray) : tcode u = 0 ∨ tcode u = 50 ∨ tcode u = 51 ∨ tcode u = 52 := by
  unfold tcode ct
  by_cases h : u.size = 0
  · simp [h]
  · cases txt u <;> cases sgn u <;> simp [h]
theorem swap_big (f t z : ByteArray) (k : Int) (w : World) (h : 5000 < f.size ∨ 5000 < t.size ∨ 5000 < z.size) : Calls Try.prog 6 #[.string f, .string t, .string z, .int .i64 k] w fun e w' => e = .returned (.bool true) ∧ Below w.heap.size w w' := by
  by_cases i1 : 5000 < f.size
  · have i1' : (5000 : Int) < f.size := by omega
    go_enter Try.func6, Try.ntmps6
    go_wp2_with fail
    go_ret
    exact ⟨rfl, Below.refl _ _⟩
  have i1' : ¬ (5000 : Int) < f.size := by omega
  by_cases i2 : 5000 < t.size
  · have i2' : (5000 : Int) < t.size := by omega
    go_enter Try.func6, Try.ntmps6
    go_wp2_with fail
    go_ret
    exact ⟨rfl, Below.refl _ _⟩
  have i2' : ¬ (5000 : Int) < t.size := by omega
  have i3' : (5000 : Int) < z.size := by omega
  go_enter Try.func6, Try.ntmps6
  go_wp2_with fail
  go_ret
  exact ⟨rfl, Below.refl _ _⟩
end Go.Proofs.Ytmdlplaadelaoaa
