import Derived.Test.YtglnldopnoafoaaWm
namespace Go.Proofs.Ytglnldopnoafoaa
open Go Go.RowKit
set_option linter.unusedSimpArgs false
set_option linter.unusedVariables false

theorem enc_one : OneCell encSl := fun _ => rfl
/-- Does the text at a place lie within another one? -/
def lies (L : List ByteArray) (i : Nat) : Bool := (List.range L.length).any fun j => decide (j ≠ i) && inP (L[i]?.getD ⟨#[]⟩) (L[j]?.getD ⟨#[]⟩)
/-- What is left, from a place on downwards. -/
def lea : Nat → List ByteArray → List ByteArray
  | 0, L => L
  | k + 1, L => lea k (if lies L k then L.eraseIdx k else L)
theorem zero27 (w : World) : (zeroValue 27).run Try.prog w = .ok (encSl (none, 0, 0)) w := Try.zeroValue27 w
set_option maxRecDepth 100000 in
set_option maxHeartbeats 1000000 in
theorem del_left {w0 w : World} {lb sb lc sc : Nat} {L : List ByteArray} {D : List Sx} (h : St w0 w lb sb lc sc L D) (i : Nat) (hi : i < L.length) : Calls Try.prog 39 #[.slice (some ⟨lb, 0, none⟩) L.length lc, .int .i64 i, .int .i64 ((i : Int) + 1)] w fun e w' => e = .returned (.slice (some ⟨lb, 0, none⟩) (L.length - 1) lc) ∧ ∃ q, w' = Sort.putRow encStr (Sort.ahead w q) lb 0 ((L.map unB).take i ++ (L.map unB).drop (i + 1) ++ [[]]).toArray := by
  have := Try.slices_Delete_string lb 0 lc i (i + 1) (L.map unB) w h.hl (by simpa using h.lc1) h.lc2 (by omega) (by simp; omega)
  simp only [List.length_map] at this
  rw [show i + 1 - i = 1 by omega] at this
  exact this
theorem del_sets {w0 w : World} {lb sb lc sc : Nat} {L : List ByteArray} {D : List Sx} (w1 : World) (hH : Sort.Holds encSl w1 sb 0 D.toArray) (h : St w0 w lb sb lc sc L D) (i : Nat) (hi : i < L.length) : Calls Try.prog 40 #[.slice (some ⟨sb, 0, none⟩) L.length sc, .int .i64 i, .int .i64 ((i : Int) + 1)] w1 fun e w' => e = .returned (.slice (some ⟨sb, 0, none⟩) (L.length - 1) sc) ∧ ∃ q, w' = Sort.putRow encSl (Sort.ahead w1 q) sb 0 (D.take i ++ D.drop (i + 1) ++ [(none, 0, 0)]).toArray := by
  obtain ⟨i0, hi0, hz1⟩ : ∃ i0, Try.prog.info? 27 = some i0 ∧ i0.size = 1 := ⟨_, rfl, rfl⟩
  have := Try.slices_Delete_f40 encSl enc_one (none, 0, 0) zero27 i0 hi0 hz1 sb 0 sc i (i + 1) D.toArray w1 hH (by have := h.sc1; have := h.len; simp; omega) h.sc2 (by omega) (by have := h.len; simp; omega)
  simp only [List.size_toArray, h.len, List.toList_toArray] at this
  rw [show i + 1 - i = 1 by omega] at this
  exact this
theorem St.cellS {w0 w : World} {lb sb lc sc : Nat} {L : List ByteArray} {D : List Sx} (h : St w0 w lb sb lc sc L D) (j : Nat) (d : Sx) (hd : D[j]? = some d) : w.cell? ⟨sb, j, none⟩ = some (.slice d.1 d.2.1 d.2.2) := by
  have hj := (List.getElem?_eq_some_iff.1 hd).1
  have := (h.hs j (by simpa using hj)).1
  rw [Nat.zero_add] at this
  rw [this]
  have e : D.toArray[j]! = d := by
    simp [hd]
  rw [e]
  rfl
end Go.Proofs.Ytglnldopnoafoaa
