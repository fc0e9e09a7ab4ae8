import Derived.Test.YtkjeneklkdekoaaGreatDoorByc
import Derived.Test.YtkjeneklkdekoaaGreatDoorByb
import Derived.Deep.LoopGhost
import Derived.Laws.Tables
namespace Go.Proofs.YtkjeneklkdekoaaGreatDoor
open Go Go.RowKit
set_option linter.unusedSimpArgs false
set_option linter.unusedVariables false

theorem ownv_came {w' : World} {a : Option Addr} {n c base : Nat} {xs : List Value} {Z : Nat → Int} (ho : w'.ownsRow base 5 1 (.slice a n c) n xs) (hx : xs = cellsOf Z n) (hz : ∀ i, 0 ≤ Z i ∧ Z i ≤ 255) : Came w' a n c Z := by
  subst hx
  rcases ho.2 with ⟨q, h0⟩ | ⟨g, cap, cur, q, _⟩
  · injection q with q1 q2 q3
    subst q1 q2 q3
    exact ⟨Nat.le_refl _, hz, .inl ⟨rfl, rfl, rfl⟩⟩
  · injection q with q1 q2 q3
    subst q1 q3
    exact made_came (w := w') ho hz
/-- Lists that are only looked at. -/
def EM (W : World) (l : List Value) (sp : List (Nat × (Nat → Int))) : Prop := ∀ (j : Nat) (v : Value) (p : Nat × (Nat → Int)), l[j]? = some v → sp[j]? = some p → ∃ a cp, v = .slice a p.1 cp ∧ Came W a p.1 cp p.2
theorem EM.later {W W' : World} {l : List Value} {sp : List (Nat × (Nat → Int))} (h : EM W l sp) (hb : Below W.heap.size W W') : EM W' l sp := fun j v p e1 e2 => by
  obtain ⟨a, cp, rfl, hc⟩ := h j v p e1 e2
  exact ⟨a, cp, rfl, came_below (B := 0) hc hb⟩
theorem EM.add {W : World} {l : List Value} {sp : List (Nat × (Nat → Int))} (h : EM W l sp) {a : Option Addr} {cp : Nat} {p : Nat × (Nat → Int)} (hc : Came W a p.1 cp p.2) (hl : l.length = sp.length := by rfl) : EM W (l ++ [.slice a p.1 cp]) (sp ++ [p]) := fun j v q e1 e2 => by
  by_cases hj : j < l.length
  · rw [List.getElem?_append_left hj] at e1
    rw [List.getElem?_append_left (by omega)] at e2
    exact h j v q e1 e2
  · have hj : j = l.length := by
      have := (List.getElem?_eq_some_iff.1 e1).1
      simp at this
      omega
    subst hj
    rw [List.getElem?_append_right (Nat.le_refl _)] at e1
    rw [List.getElem?_append_right (by omega), hl] at e2
    simp at e1 e2
    subst e1 e2
    exact ⟨a, cp, rfl, hc⟩
theorem EM.take {W : World} {l : List Value} {sp : List (Nat × (Nat → Int))} (h : EM W l sp) (m : Nat) : EM W (l.take m) (sp.take m) := fun j v p e1 e2 => by
  rw [List.getElem?_take] at e1 e2
  split at e1
  · rename_i hj
    rw [if_pos hj] at e2
    exact h j v p e1 e2
  · cases e1
theorem RB.nil {w W : World} {U0 : Nat → Prop} {bb N : Nat} {l : List Value} (h : RB w U0 bb N l W) : RB w U0 bb N (.slice none 0 0 :: l) W := by
  obtain ⟨U, h1, h2, h3, h4, h5⟩ := h
  refine ⟨U, h1, h2, h3, fun v hv => ?_, List.pairwise_cons.2 ⟨fun u _ k e => by simp [Value.ownBlock] at e, h5⟩⟩
  rcases List.mem_cons.1 hv with rfl | hv
  · exact la_nil _ _ _
  · exact h4 v hv
end Go.Proofs.YtkjeneklkdekoaaGreatDoor
namespace Go.Proofs.YtkjeneklkdekoaaGreatDoor
open Go Go.RowKit
set_option linter.unusedSimpArgs false
set_option linter.unusedVariables false

/-- A new book's cells. -/
noncomputable def bk0 : Array Value := (Tryz.prog.built 47 []).getD #[]
set_option maxRecDepth 100000 in
theorem bk0_some : (Tryz.prog.built 47 []).isSome = true := by kernel_rfl
theorem wp_build0 {o : Oper} {a : Act} {w : World} {K : Act → World → Prop} {Q : Exit → Act → World → Prop} (ho : o.op = .build 47 #[]) (h : K (a.put o.dst (.agg bk0)) w) : o.wp Tryz.prog a w K Q := by
  have e : (Array.map (fun (x : Nat × Operand) => match x with | (i, x) => (i, a.eval x)) #[]).toList = [] := by simp
  refine wp_build 47 #[] ho ?_ ?_
  · rw [e]
    exact bk0_some
  · rw [e]
    exact h
end Go.Proofs.YtkjeneklkdekoaaGreatDoor
namespace Go.Proofs.YtkjeneklkdekoaaGreatDoor
open Go Go.RowKit
set_option linter.unusedSimpArgs false
set_option linter.unusedVariables false

end Go.Proofs.YtkjeneklkdekoaaGreatDoor
