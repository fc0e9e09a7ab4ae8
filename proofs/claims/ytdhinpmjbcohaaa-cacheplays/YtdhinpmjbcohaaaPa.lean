import Derived.Test.YtdhinpmjbcohaaaOb
namespace Go.Proofs.Ytdhinpmjbcohaaa
open Go Go.RowKit
set_option linter.unusedSimpArgs false
set_option linter.unusedVariables false

/-! ### Things numbered as they come; the zero one is 0 -/
def c0 {K : Type} (z : K) (C : List K) : List K := match C with
  | [] => [z]
  | x :: t => x :: t
theorem c0_pos {K : Type} (z : K) (C : List K) : 0 < (c0 z C).length := by cases C <;> simp [c0]
/-- A list of things, each told by its number from now on. -/
structure Cod {K : Type} (z : K) (C : List K) : Prop where
  ne : C ≠ []
  hd : C.head? = some z
section
variable {K : Type} [DecidableEq K]
/-- Where a thing stands. -/
def ix (k : K) : List K → Nat
  | [] => 0
  | x :: t => if x = k then 0 else ix k t + 1
def ext (z : K) (C : List K) (k : K) : List K := if k ∈ c0 z C then c0 z C else c0 z C ++ [k]
theorem ix_lt {k : K} : ∀ {C : List K}, k ∈ C → ix k C < C.length
  | [], h => by cases h
  | x :: t, h => by
    unfold ix
    split
    · simp
    · rename_i hne
      have : k ∈ t := (List.mem_cons.1 h).resolve_left (fun q => hne q.symm)
      have := ix_lt this
      simp
      omega
theorem ix_at {k : K} : ∀ {C : List K}, k ∈ C → C[ix k C]? = some k
  | [], h => by cases h
  | x :: t, h => by
    unfold ix
    split
    · rename_i hx
      simp [hx]
    · rename_i hne
      have : k ∈ t := (List.mem_cons.1 h).resolve_left (fun q => hne q.symm)
      simpa using ix_at this
theorem ix_first {k : K} : ∀ {C : List K} {j : Nat}, C[j]? = some k → (∀ q, q < j → C[q]? ≠ some k) → ix k C = j
  | [], j, h, _ => by simp at h
  | x :: t, 0, h, _ => by
    simp at h
    simp [ix, h]
  | x :: t, j + 1, h, hn => by
    have hx : x ≠ k := fun q => hn 0 (by omega) (by simp [q])
    unfold ix
    rw [if_neg hx, ix_first (C := t) (j := j) (by simpa using h) (fun q hq => by simpa using hn (q + 1) (by omega))]
theorem ix_append {k : K} : ∀ {C : List K} (D : List K), k ∈ C → ix k (C ++ D) = ix k C
  | [], D, h => by cases h
  | x :: t, D, h => by
    show (if x = k then 0 else ix k (t ++ D) + 1) = if x = k then 0 else ix k t + 1
    split
    · rfl
    · rename_i hne
      rw [ix_append D ((List.mem_cons.1 h).resolve_left (fun q => hne q.symm))]
theorem ix_new {k : K} : ∀ {C : List K}, k ∉ C → ix k (C ++ [k]) = C.length
  | [], _ => by simp [ix]
  | x :: t, h => by
    show (if x = k then 0 else ix k (t ++ [k]) + 1) = _
    rw [if_neg (fun q => h (by simp [q])), ix_new (fun q => h (by simp [q]))]
    simp
theorem ix_inj {a b : K} {C : List K} (ha : a ∈ C) (hb : b ∈ C) (h : ix a C = ix b C) : a = b := by
  have h1 := ix_at ha
  rw [h, ix_at hb] at h1
  exact (Option.some.inj h1).symm
theorem ext_in {z : K} {C D : List K} {k : K} (hD : c0 z C = D) (h : k ∈ D) : ext z C k = D := by
  subst hD
  unfold ext
  rw [if_pos h]
theorem ext_out {z : K} {C D : List K} {k : K} (hD : c0 z C = D) (h : k ∉ D) : ext z C k = D ++ [k] := by
  subst hD
  unfold ext
  rw [if_neg h]
theorem ext_mem (z : K) (C : List K) (k : K) : k ∈ ext z C k := by
  unfold ext
  split <;> simp_all
theorem ext_pre (z : K) (C : List K) (k : K) : ∃ D, ext z C k = c0 z C ++ D := by
  unfold ext
  split
  · exact ⟨[], by simp⟩
  · exact ⟨[k], rfl⟩
theorem ext_len (z : K) (C : List K) (k : K) : (ext z C k).length ≤ C.length + 2 := by
  have : (c0 z C).length ≤ C.length + 1 := by cases C <;> simp [c0]
  unfold ext
  split
  · omega
  · simp
    omega
theorem cod_ext (z : K) (C : List K) (k : K) (h : C = [] ∨ Cod z C) : Cod z (ext z C k) := by
  obtain ⟨D, hD⟩ := ext_pre z C k
  rw [hD]
  rcases h with rfl | h
  · exact ⟨by simp [c0], by simp [c0]⟩
  · cases C with
    | nil => exact absurd rfl h.ne
    | cons x t =>
      have := h.hd
      simp at this
      exact ⟨by simp [c0], by simp [c0, this]⟩
theorem cod_zero {z : K} {C : List K} (h : Cod z C) : z ∈ C ∧ ix z C = 0 := by
  cases C with
  | nil => exact absurd rfl h.ne
  | cons x t =>
    have := h.hd
    simp at this
    subst this
    exact ⟨by simp, by simp [ix]⟩
theorem ext_stay {z : K} {C : List K} (h : Cod z C) (k : K) {x : K} (hx : x ∈ C) : x ∈ ext z C k ∧ ix x (ext z C k) = ix x C := by
  obtain ⟨D, hD⟩ := ext_pre z C k
  have hc : c0 z C = C := by cases C with
    | nil => exact absurd rfl h.ne
    | cons y t => rfl
  rw [hD, hc]
  exact ⟨by simp [hx], ix_append D hx⟩
theorem ext_same {z : K} {C : List K} (h : Cod z C) {k : K} (hk : k ∈ C) : ext z C k = C := by
  have hc : c0 z C = C := by cases C with
    | nil => exact absurd rfl h.ne
    | cons y t => rfl
  unfold ext
  rw [hc, if_pos hk]
end
end Go.Proofs.Ytdhinpmjbcohaaa
