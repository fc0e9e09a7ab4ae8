import Derived.Test.YtdanjbbemmngnaaDoorCb
namespace Go.Proofs.YtdanjbbemmngnaaDoor
open Go Go.RowKit Go.Sort
set_option linter.unusedSimpArgs false
set_option linter.unusedVariables false
set_option maxRecDepth 100000

/-- Nothing follows what is taken out. -/
theorem cut_last {P : Program} (w : World) (t ty e : TypeId) (i : TypeInfo) (ht : P.underlying t = some (.slice e)) (hi : P.info? e = some i) (b off k : Nat) (a' : Option Addr) (c' : Nat) :
    (Builtin.append_ #[t, t] ty #[.slice (some ⟨b, off, none⟩) k k, .slice a' 0 c']).run P w = .ok (.slice (some ⟨b, off, none⟩) k k) w := by
  have hs : Src P i.size t (.slice a' 0 c') 0 [] w := by
    cases a' with
    | none => exact Src.ofNil w ht c'
    | some ad => exact Src.ofSlice w ht ad 0 c' [] (by simp) (fun j u hj => by simp at hj) (fun u hu => by cases hu)
  have := run_append_room_src w t t ty e i ht hi b off k k (.slice a' 0 c') 0 [] hs (by omega) (fun j hj => by simp at hj) (fun j hj => by simp at hj)
  rw [this]
  rfl

/-- Something follows: a new row. -/
theorem cut_mid {P : Program} (w : World) (t ty e : TypeId) (i : TypeInfo) (z : Value) (ht : P.underlying t = some (.slice e)) (hi : P.info? e = some i) (hz : i.zero = some z) (hb : i.bytes ≤ 32) (b off k o2 m c' : Nat) (olds news : List Value)
    (hlo : olds.length = k * i.size) (hold : ∀ j u, olds[j]? = some u → w.cell? ⟨b, off + j, none⟩ = some u) (hln : news.length = m * i.size) (hnew : ∀ j u, news[j]? = some u → w.cell? ⟨b, o2 + j, none⟩ = some u) (h1 : ∀ u ∈ news, u.oneCell' = true)
    (hm : 0 < m) (hn : k + m ≤ 1000000) :
    ∃ cap zs, k + m ≤ cap ∧ (Builtin.append_ #[t, t] ty #[.slice (some ⟨b, off, none⟩) k k, .slice (some ⟨b, o2, none⟩) m c']).run P w = .ok (.slice (some ⟨w.heap.size, 0, none⟩) (k + m) cap) (w.drew.alloc (.cells ((olds ++ news).toArray ++ zs) e)) := by
  have hfit : Builtin.nextslicecap (k + m) k * i.bytes ≤ 281474976710656 := growslice_fits_wide (by omega) (by
    have : (k + m + (k + m) / 4 + 192) * i.bytes ≤ (k + m + (k + m) / 4 + 192) * 32 := Nat.mul_le_mul_left _ hb
    omega)
  have hs : Src P i.size t (.slice (some ⟨b, o2, none⟩) m c') m news w := Src.ofSlice w ht ⟨b, o2, none⟩ m c' news hln (fun j u hj => by rw [plain_add]; exact hnew j u hj) h1
  have ho : (Builtin.firstCells i.size k (.slice (some ⟨b, off, none⟩) k k)).run P w.drew = .ok olds.toArray w.drew := run_firstCells_some w.drew i.size k ⟨b, off, none⟩ k k olds hlo (fun j u hj => by rw [plain_add]; exact hold j u hj)
  have := run_append_grow_src w t t ty e i z ht hi hz (some ⟨b, off, none⟩) k k olds ho _ m news hs (by omega) (by omega) hfit
  exact ⟨_, _, grownCap_ge w (k + m) k e, this⟩

def txCells (f : Nat → ByteArray) (a n : Nat) : List Value := (List.range n).map fun i => .string (f (a + i))
def asCells (f : Nat → ByteArray) (q : Nat → Int) (a n : Nat) : List Value := (List.range (n * 2)).map fun i => if i % 2 = 0 then .string (f (a + i / 2)) else .int .i64 (q (a + i / 2))
theorem range_map {α : Type} (g : Nat → α) (n j : Nat) (u : α) (h : ((List.range n).map g)[j]? = some u) : j < n ∧ u = g j := by
  rw [List.getElem?_map] at h
  by_cases hj : j < n
  · rw [List.getElem?_range hj] at h
    exact ⟨hj, by simpa using h.symm⟩
  · rw [List.getElem?_eq_none (by simpa using hj)] at h
    simp at h
theorem range_at {α : Type} (g : Nat → α) (n j : Nat) (h : j < n) : ((List.range n).map g)[j]? = some (g j) := by
  rw [List.getElem?_map, List.getElem?_range h]
  rfl

/-- One text taken out. -/
theorem cut_texts (w : World) (b off n k c' : Nat) (f : Nat → ByteArray) (hk : k + 1 < n) (hn : n ≤ 1000000) (hc : ∀ i, i < n → w.cell? ⟨b, off + i, none⟩ = some (.string (f i))) :
    ∃ s' w', (Builtin.append_ #[29, 29] 29 #[.slice (some ⟨b, off, none⟩) k k, .slice (some ⟨b, off + (k + 1), none⟩) (n - (k + 1)) c']).run Tryd.prog w = .ok (.slice s'.a s'.n s'.c) w' ∧ Below w.heap.size w w' ∧ s'.n + 1 = n ∧ Ss w' s' (outN k f) ∧ Nx w.heap.size s' := by
  obtain ⟨i0, hi, hz0, hz1, hz2⟩ : ∃ i, Tryd.prog.info? 9 = some i ∧ i.zero = some (.string ⟨#[]⟩) ∧ i.size = 1 ∧ i.bytes ≤ 32 := ⟨_, rfl, rfl, rfl, by decide⟩
  obtain ⟨cap, zs, hcap, hr⟩ := cut_mid w 29 29 9 i0 (.string ⟨#[]⟩) Tryd.underlying29 hi hz0 hz2 b off k (off + (k + 1)) (n - (k + 1)) c' (txCells f 0 k) (txCells f (k + 1) (n - (k + 1))) (by rw [hz1]; simp [txCells])
    (fun j u hj => by obtain ⟨h1, rfl⟩ := range_map _ _ _ _ hj; rw [Nat.zero_add]; exact hc j (by omega)) (by rw [hz1]; simp [txCells])
    (fun j u hj => by obtain ⟨h1, rfl⟩ := range_map _ _ _ _ hj; have := hc (k + 1 + j) (by omega); rw [show off + (k + 1) + j = off + (k + 1 + j) by omega]; exact this)
    (fun u hu => by obtain ⟨i, _, rfl⟩ := List.mem_map.1 hu; rfl) (by omega) (by omega)
  refine ⟨⟨some ⟨w.heap.size, 0, none⟩, k + (n - (k + 1)), cap⟩, _, hr, ((Below.refl w.heap.size w).drew).alloc (Nat.le_refl _) _, by show k + (n - (k + 1)) + 1 = n; omega, ⟨hcap, .inr ⟨w.heap.size, 0, rfl, fun i hi => ?_⟩⟩, fun b off _ he => by
      simp only [Option.some.injEq, Addr.mk.injEq] at he
      omega⟩
  have hi : i < k + (n - (k + 1)) := hi
  rw [Nat.zero_add]
  refine new_cell w _ 9 i _ ?_
  rw [Array.getElem?_append_left (by simp [txCells]; omega), List.getElem?_toArray]
  by_cases h : i < k
  · rw [List.getElem?_append_left (by simpa [txCells] using h)]
    unfold txCells
    rw [range_at _ _ _ h]
    simp [outN, h]
  · rw [List.getElem?_append_right (by simp [txCells]; omega)]
    unfold txCells
    rw [range_at _ _ _ (by simp; omega)]
    simp only [List.length_map, List.length_range, outN, h, if_false]
    rw [show k + 1 + (i - k) = i + 1 by omega]
/-- The same, of the last. -/
theorem last_texts {w : World} {b off n k : Nat} {f : Nat → ByteArray} (hk : k + 1 = n) (hc : ∀ i, i < n → w.cell? ⟨b, off + i, none⟩ = some (.string (f i))) : Ss w ⟨some ⟨b, off, none⟩, k, k⟩ (outN k f) :=
  ⟨Nat.le_refl _, .inr ⟨b, off, rfl, fun i hi => by have hi : i < k := hi; rw [show outN k f i = f i by simp [outN, hi]]; exact hc i (by omega)⟩⟩

/-- One filter with its quality taken out. -/
theorem cut_asks (w : World) (b off n k c' : Nat) (f : Nat → ByteArray) (q : Nat → Int) (hk : k + 1 < n) (hn : n ≤ 1000000) (hc : ∀ i, i < n → (w.cell? ⟨b, off + i * 2, none⟩ = some (.string (f i)) ∧ w.cell? ⟨b, off + i * 2 + 1, none⟩ = some (.int .i64 (q i)))) :
    ∃ s' w', (Builtin.append_ #[27, 27] 27 #[.slice (some ⟨b, off, none⟩) k k, .slice (some ⟨b, off + (k + 1) * 2, none⟩) (n - (k + 1)) c']).run Tryd.prog w = .ok (.slice s'.a s'.n s'.c) w' ∧ Below w.heap.size w w' ∧ s'.n + 1 = n ∧ As w' s' (outN k f) (outN k q) ∧ Nx w.heap.size s' := by
  obtain ⟨i0, hi, hz0, hz1, hz2⟩ : ∃ i, Tryd.prog.info? 56 = some i ∧ i.zero = some (.agg #[.string ⟨#[]⟩, .int .i64 0]) ∧ i.size = 2 ∧ i.bytes ≤ 32 := ⟨_, rfl, rfl, rfl, by decide⟩
  have hcell : ∀ a m, a + m ≤ n → ∀ j u, (asCells f q a m)[j]? = some u → w.cell? ⟨b, off + a * 2 + j, none⟩ = some u := fun a m ha j u hj => by
    obtain ⟨h1, rfl⟩ := range_map _ _ _ _ hj
    have h2 := hc (a + j / 2) (by omega)
    by_cases h : j % 2 = 0
    · rw [if_pos h, show off + a * 2 + j = off + (a + j / 2) * 2 by omega]
      exact h2.1
    · rw [if_neg h, show off + a * 2 + j = off + (a + j / 2) * 2 + 1 by omega]
      exact h2.2
  obtain ⟨cap, zs, hcap, hr⟩ := cut_mid w 27 27 56 i0 (.agg #[.string ⟨#[]⟩, .int .i64 0]) Tryd.underlying27 hi hz0 hz2 b off k (off + (k + 1) * 2) (n - (k + 1)) c' (asCells f q 0 k) (asCells f q (k + 1) (n - (k + 1))) (by rw [hz1]; simp [asCells])
    (fun j u hj => by have := hcell 0 k (by omega) j u hj; simpa using this) (by rw [hz1]; simp [asCells]) (hcell (k + 1) (n - (k + 1)) (by omega))
    (fun u hu => by obtain ⟨i, _, rfl⟩ := List.mem_map.1 hu; split <;> rfl) (by omega) (by omega)
  have hat : ∀ i, i < k + (n - (k + 1)) → ∀ d, d < 2 → ((asCells f q 0 k ++ asCells f q (k + 1) (n - (k + 1))).toArray ++ zs)[i * 2 + d]? = some (if d = 0 then .string (outN k f i) else .int .i64 (outN k q i)) := fun i hi d hd => by
    rw [Array.getElem?_append_left (by simp [asCells]; omega), List.getElem?_toArray]
    by_cases h : i < k
    · rw [List.getElem?_append_left (by simp [asCells]; omega)]
      unfold asCells
      rw [range_at _ _ _ (by omega)]
      simp only [outN, h, if_true, Nat.zero_add]
      rw [show (i * 2 + d) % 2 = d by omega, show (i * 2 + d) / 2 = i by omega]
    · rw [List.getElem?_append_right (by simp [asCells]; omega)]
      unfold asCells
      rw [range_at _ _ _ (by simp; omega)]
      simp only [List.length_map, List.length_range, outN, h, if_false]
      rw [show (i * 2 + d - k * 2) % 2 = d by omega, show k + 1 + (i * 2 + d - k * 2) / 2 = i + 1 by omega]
  refine ⟨⟨some ⟨w.heap.size, 0, none⟩, k + (n - (k + 1)), cap⟩, _, hr, ((Below.refl w.heap.size w).drew).alloc (Nat.le_refl _) _, by show k + (n - (k + 1)) + 1 = n; omega, ⟨hcap, .inr ⟨w.heap.size, 0, rfl, fun i hi => ⟨?_, ?_⟩⟩⟩, fun b off _ he => by
      simp only [Option.some.injEq, Addr.mk.injEq] at he
      omega⟩
  · rw [Nat.zero_add]
    exact new_cell w _ 56 (i * 2) _ (hat i hi 0 (by omega))
  · rw [Nat.zero_add]
    exact new_cell w _ 56 (i * 2 + 1) _ (hat i hi 1 (by omega))
theorem last_asks {w : World} {b off n k : Nat} {f : Nat → ByteArray} {q : Nat → Int} (hk : k + 1 = n) (hc : ∀ i, i < n → (w.cell? ⟨b, off + i * 2, none⟩ = some (.string (f i)) ∧ w.cell? ⟨b, off + i * 2 + 1, none⟩ = some (.int .i64 (q i)))) : As w ⟨some ⟨b, off, none⟩, k, k⟩ (outN k f) (outN k q) :=
  ⟨Nat.le_refl _, .inr ⟨b, off, rfl, fun i hi => by have hi : i < k := hi; rw [show outN k f i = f i by simp [outN, hi], show outN k q i = q i by simp [outN, hi]]; exact hc i (by omega)⟩⟩
end Go.Proofs.YtdanjbbemmngnaaDoor
