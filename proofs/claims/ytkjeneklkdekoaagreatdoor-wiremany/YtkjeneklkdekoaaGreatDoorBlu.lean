import Derived.Test.YtkjeneklkdekoaaGreatDoorRfb
import Derived.Test.YtkjeneklkdekoaaGreatDoorBya
namespace Go.Proofs.YtkjeneklkdekoaaGreatDoor
open Go Go.RowKit
set_option linter.unusedSimpArgs false
set_option linter.unusedVariables false

/-! ### The program's Puts and the document's, in one form -/
/-- A list that was made since a world, in a block of its own, and its bytes. -/
structure Mz (w w' : World) (v : Value) (n : Nat) (Z : Nat → Int) : Prop where
  sl : ∃ g cp, v = .slice (some ⟨g, 0, none⟩) n cp ∧ w.heap.size ≤ g
  own : w'.ownsRow w.heap.size 5 1 v n (cellsOf Z n)
  bd : ∀ i, 0 ≤ Z i ∧ Z i ≤ 255
  bel : Below w.heap.size w w'
theorem Mz.came {w w' : World} {g n cp : Nat} {Z : Nat → Int} (h : Mz w w' (.slice (some ⟨g, 0, none⟩) n cp) n Z) : Came w' (some ⟨g, 0, none⟩) n cp Z := made_came (w := w) h.own h.bd
theorem Mz.later {w w' w'' : World} {v : Value} {n : Nat} {Z : Nat → Int} (h : Mz w w' v n Z) (hb : Below w'.heap.size w' w'') : Mz w w'' v n Z :=
  ⟨h.sl, own_keep h.own (fun k e => hb.block k (h.own.lt k e).2), h.bd, h.bel.trans (hb.mono h.bel.size)⟩
theorem cells_bv {Z : Nat → Int} (hz : ∀ i, 0 ≤ Z i ∧ Z i ≤ 255) (n : Nat) : ∀ u ∈ cellsOf Z n, Bv u := fun u hu => by
  simp only [cellsOf, List.mem_map, List.mem_range] at hu
  obtain ⟨i, _, rfl⟩ := hu
  exact ⟨Z i, rfl, (hz i).1, (hz i).2⟩
/-- The number that a length is written as. -/
def cl (n : Int) : Int := if n < 0 then 0 else if 268435455 < n then 268435455 else n
section
variable (a0 : Option Addr) (l0 k0 : Nat) (z0 : Nat → Int) (w : World) (h0 : Came w a0 l0 k0 z0) (hl0 : l0 ≤ 300000)
include h0 hl0
end
end Go.Proofs.YtkjeneklkdekoaaGreatDoor
