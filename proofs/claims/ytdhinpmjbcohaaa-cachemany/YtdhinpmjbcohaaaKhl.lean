import Derived.Test.YtdhinpmjbcohaaaRk
import Derived.Test.YtdhinpmjbcohaaaPf
namespace Go.Proofs.Ytdhinpmjbcohaaa.Kp
open Go Go.RowKit
set_option linter.unusedSimpArgs false
set_option linter.unusedVariables false
open Rf (own_shape addr0)

/-! ### A row of pairs -/
abbrev Pc := Nat × Nat × Nat × Nat
def pc4 (p : Pc) : List Value := [.pointer (some ⟨p.1, 0, none⟩), .pointer (some ⟨p.2.1, 0, none⟩), .pointer (some ⟨p.2.2.1, 0, none⟩), .pointer (some ⟨p.2.2.2, 0, none⟩)]
def e4 (L : List Pc) : List Value := L.flatMap pc4
theorem e4_len (L : List Pc) : (e4 L).length = L.length * 4 := by
  induction L with
  | nil => rfl
  | cons x t ih => simp [e4, pc4] at ih ⊢; omega
theorem e4_app (A B : List Pc) : e4 (A ++ B) = e4 A ++ e4 B := by simp [e4]
theorem e4_one (L : List Pc) : ∀ u ∈ e4 L, u.oneCell' = true := by
  intro u hu
  obtain ⟨p, _, hp⟩ := List.mem_flatMap.1 hu
  simp [pc4] at hp
  rcases hp with rfl | rfl | rfl | rfl <;> rfl
theorem e4_at : ∀ (L : List Pc) (j : Nat) (p : Pc) (q : Nat) (u : Value), L[j]? = some p → (pc4 p)[q]? = some u → (e4 L)[j * 4 + q]? = some u
  | [], j, p, q, u, h, hu => by simp at h
  | x :: L, 0, p, q, u, h, hu => by
    simp at h
    subst h
    simp only [e4, List.flatMap_cons, Nat.zero_mul, Nat.zero_add]
    rw [List.getElem?_append_left (List.getElem?_eq_some_iff.1 hu).1]
    exact hu
  | x :: L, j + 1, p, q, u, h, hu => by
    have ih := e4_at L j p q u (by simpa using h) hu
    have e1 : (j + 1) * 4 + q = (j * 4 + q) + 1 + 1 + 1 + 1 := by omega
    rw [e1]
    simpa [e4, pc4] using ih
theorem info41 : (Try.prog.info? 41).map (fun i => (i.zero, i.size, i.bytes)) = some (some (.agg #[.pointer none, .pointer none, .pointer none, .pointer none]), 4, 32) := by kernel_rfl
/-- A pair laid behind others. -/
theorem app_pair {w : World} {v : Value} {A : List Pc} {p : Pc} (ho : w.ownsRow 0 41 4 v A.length (e4 A)) (g c : Nat) (hc : ∀ q u, (pc4 p)[q]? = some u → w.cell? ⟨g, q, none⟩ = some u) (hl : A.length ≤ 1000) : ∃ v' w', (Builtin.append_ #[37, 37] 37 #[v, .slice (some ⟨g, 0, none⟩) 1 c]).run Try.prog w = .ok v' w' ∧ w'.ownsRow 0 41 4 v' (A ++ [p]).length (e4 (A ++ [p])) ∧ Ch (fun j => v.ownBlock = some j) w w' ∧ (v'.ownBlock = v.ownBlock ∨ v'.ownBlock = some w.heap.size) := by
  obtain ⟨i0, hi0, hz⟩ := Option.map_eq_some_iff.1 info41
  simp only [Prod.mk.injEq] at hz
  obtain ⟨v', w', hr, h2, h3, h4, h5⟩ := run_append_own_at (P := Try.prog) w 0 37 37 41 i0 (.agg #[.pointer none, .pointer none, .pointer none, .pointer none]) 4 32 Try.underlying37 hi0 hz.1 hz.2.1 hz.2.2 rfl (by decide) v A.length (e4 A) ho ⟨g, 0, none⟩ 1 c (e4 [p]) (e4_len [p]) (fun q u hu => by
    rw [addr0, Nat.zero_add]
    exact hc q u (by simpa [e4] using hu)) (e4_one [p]) (by unfold maxLen; omega) (by omega) (by omega)
  refine ⟨v', w', hr, ?_, ch_grown h3, h5⟩
  rw [e4_app, List.length_append]
  exact h2
theorem row_cells {w : World} {a : Option Addr} {n c : Nat} {L : List Pc} (h : w.ownsRow 0 41 4 (.slice a n c) L.length (e4 L)) {j : Nat} {p : Pc} (hj : L[j]? = some p) : ∃ g, a = some ⟨g, 0, none⟩ ∧ n = L.length ∧ L.length ≤ c ∧ ∀ q u, (pc4 p)[q]? = some u → w.cell? ⟨g, j * 4 + q, none⟩ = some u := by
  have hcells := fun (g : Nat) (hg : (Value.slice a n c).ownBlock = some g) => h.cells hg
  have hjl := (List.getElem?_eq_some_iff.1 hj).1
  rcases h.2 with ⟨h0, h1⟩ | ⟨g, cap, cur, hv, _, _, h1, _⟩
  · omega
  · simp at hv
    obtain ⟨rfl, rfl, rfl⟩ := hv
    refine ⟨g, rfl, rfl, h1, fun q u hu => ?_⟩
    have := hcells g rfl _ u (e4_at L j p q u hj hu)
    rwa [addr0, Nat.zero_add] at this
end Go.Proofs.Ytdhinpmjbcohaaa.Kp
