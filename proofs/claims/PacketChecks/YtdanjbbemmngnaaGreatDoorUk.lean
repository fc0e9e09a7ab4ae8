import Derived.Test.YtdanjbbemmngnaaGreatDoorUf
import Derived.Test.YtdanjbbemmngnaaGreatDoorUi
namespace Go.Proofs.YtdanjbbemmngnaaGreatDoor
open Go Go.RowKit Go.Sort
set_option linter.unusedSimpArgs false
set_option linter.unusedVariables false

/-! ### The cells of lists -/
def cB (z : Nat → Int) (n : Nat) : List Value := (List.range n).map fun i => .int .u8 (z i)
def cI (z : Nat → Int) (n : Nat) : List Value := (List.range n).map fun i => .int .i64 (z i)
def cS (z : Nat → ByteArray) (n : Nat) : List Value := (List.range n).map fun i => .string (z i)
def cA (f : Nat → ByteArray) (q : Nat → Int) (n : Nat) : List Value := (List.range n).flatMap fun i => [.string (f i), .int .i64 (q i)]
theorem map_at (h : Nat → Value) (n j : Nat) (hj : j < n) : ((List.range n).map h)[j]? = some (h j) := by rw [List.getElem?_map, List.getElem?_range hj]; rfl
theorem map_get (h : Nat → Value) (n j : Nat) (u : Value) (hu : ((List.range n).map h)[j]? = some u) : j < n ∧ u = h j := by
  rw [List.getElem?_map] at hu
  by_cases hj : j < n
  · rw [List.getElem?_range hj] at hu
    exact ⟨hj, (Option.some.inj hu).symm⟩
  · rw [List.getElem?_eq_none (by simpa using hj)] at hu
    cases hu
theorem pair_len (a b : Nat → Value) (n : Nat) : ((List.range n).flatMap fun i => [a i, b i]).length = n * 2 := by
  induction n with
  | zero => rfl
  | succ n ih => rw [List.range_succ, List.flatMap_append, List.length_append, ih]; simp; omega
theorem pair_at (a b : Nat → Value) (n i : Nat) (hi : i < n) : ((List.range n).flatMap fun i => [a i, b i])[i * 2]? = some (a i) ∧ ((List.range n).flatMap fun i => [a i, b i])[i * 2 + 1]? = some (b i) := by
  induction n with
  | zero => omega
  | succ n ih =>
    rw [List.range_succ, List.flatMap_append]
    have hl := pair_len a b n
    by_cases h : i < n
    · rw [List.getElem?_append_left (by omega), List.getElem?_append_left (by omega)]; exact ih h
    · obtain rfl : i = n := by omega
      rw [List.getElem?_append_right (by omega), List.getElem?_append_right (by omega), hl]
      simp
theorem pair_get (a b : Nat → Value) (n j : Nat) (u : Value) (hu : ((List.range n).flatMap fun i => [a i, b i])[j]? = some u) : ∃ i, i < n ∧ ((j = i * 2 ∧ u = a i) ∨ (j = i * 2 + 1 ∧ u = b i)) := by
  have hj : j < n * 2 := by
    have := (List.getElem?_eq_some_iff.1 hu).1
    rw [pair_len] at this; exact this
  refine ⟨j / 2, by omega, ?_⟩
  have h := pair_at a b n (j / 2) (by omega)
  rcases Nat.mod_two_eq_zero_or_one j with h0 | h0
  · left
    have e : j = j / 2 * 2 := by omega
    refine ⟨e, ?_⟩
    rw [← e, hu] at h
    exact Option.some.inj h.1
  · right
    have e : j = j / 2 * 2 + 1 := by omega
    refine ⟨e, ?_⟩
    rw [← e, hu] at h
    exact Option.some.inj h.2

/-- A list that isn't there has no room. -/
def Nil (s : Sl) : Prop := s.a = none → s.n = 0 ∧ s.c = 0
theorem src_empty {w : World} {s : Sl} {xs : List Value} (hn : Nil s) (h0 : xs = []) : Src w s xs := by
  subst h0
  cases ha : s.a with
  | none => exact .inl ⟨ha, (hn ha).1, (hn ha).2⟩
  | some ad => exact .inr ⟨ad, ha, fun j u hj => by simp at hj⟩
theorem By.src {w : World} {s : Sl} {z : Nat → Int} (h : By w s z) (hn : Nil s) : Src w s (cB z s.n) := by
  obtain ⟨_, _, h0 | ⟨b, off, e, hc⟩⟩ := h
  · exact src_empty hn (by rw [h0]; rfl)
  · exact .inr ⟨_, e, fun j u hj => by obtain ⟨h1, rfl⟩ := map_get _ _ _ _ hj; rw [plain_add]; exact hc j h1⟩
theorem Is.src {w : World} {s : Sl} {z : Nat → Int} (h : Is w s z) (hn : Nil s) : Src w s (cI z s.n) := by
  obtain ⟨_, h0 | ⟨b, off, e, hc⟩⟩ := h
  · exact src_empty hn (by rw [h0]; rfl)
  · exact .inr ⟨_, e, fun j u hj => by obtain ⟨h1, rfl⟩ := map_get _ _ _ _ hj; rw [plain_add]; exact hc j h1⟩
theorem Ss.src {w : World} {s : Sl} {z : Nat → ByteArray} (h : Ss w s z) (hn : Nil s) : Src w s (cS z s.n) := by
  obtain ⟨_, h0 | ⟨b, off, e, hc⟩⟩ := h
  · exact src_empty hn (by rw [h0]; rfl)
  · exact .inr ⟨_, e, fun j u hj => by obtain ⟨h1, rfl⟩ := map_get _ _ _ _ hj; rw [plain_add]; exact hc j h1⟩
theorem As.src {w : World} {s : Sl} {f : Nat → ByteArray} {q : Nat → Int} (h : As w s f q) (hn : Nil s) : Src w s (cA f q s.n) := by
  obtain ⟨_, h0 | ⟨b, off, e, hc⟩⟩ := h
  · exact src_empty hn (by rw [h0]; rfl)
  · refine .inr ⟨_, e, fun j u hj => ?_⟩
    obtain ⟨i, hi, ⟨rfl, rfl⟩ | ⟨rfl, rfl⟩⟩ := pair_get _ _ _ _ _ hj
    · rw [plain_add]; exact (hc i hi).1
    · rw [plain_add, show off + (i * 2 + 1) = off + i * 2 + 1 by omega]; exact (hc i hi).2
theorem cB_len (z : Nat → Int) (n : Nat) : (cB z n).length = n * 1 := by simp [cB]
theorem cI_len (z : Nat → Int) (n : Nat) : (cI z n).length = n * 1 := by simp [cI]
theorem cS_len (z : Nat → ByteArray) (n : Nat) : (cS z n).length = n * 1 := by simp [cS]
theorem cA_len (f : Nat → ByteArray) (q : Nat → Int) (n : Nat) : (cA f q n).length = n * 2 := pair_len _ _ n
theorem cB_one (z : Nat → Int) (n : Nat) : ∀ u ∈ cB z n, u.oneCell' = true := by intro u hu; obtain ⟨i, _, rfl⟩ := List.mem_map.1 hu; rfl
theorem cI_one (z : Nat → Int) (n : Nat) : ∀ u ∈ cI z n, u.oneCell' = true := by intro u hu; obtain ⟨i, _, rfl⟩ := List.mem_map.1 hu; rfl
theorem cS_one (z : Nat → ByteArray) (n : Nat) : ∀ u ∈ cS z n, u.oneCell' = true := by intro u hu; obtain ⟨i, _, rfl⟩ := List.mem_map.1 hu; rfl
theorem cA_one (f : Nat → ByteArray) (q : Nat → Int) (n : Nat) : ∀ u ∈ cA f q n, u.oneCell' = true := by
  intro u hu
  obtain ⟨i, _, h⟩ := List.mem_flatMap.1 hu
  simp at h
  rcases h with rfl | rfl <;> rfl

/-! ### What a list that was laid holds -/
theorem laid_cell {w : World} {g e cp size n room : Nat} {cur : Array Value} {xs M : List Value} (hg : w.heap[g]? = some (.cells cur e (0, 0))) (hs : cur.size = cp * size) (hc : n + room ≤ cp) (ht : cur.toList.take ((n + room) * size) = xs ++ M) (j : Nat) (hj : j < (n + room) * size) (v : Value) (hv : (xs ++ M)[j]? = some v) : w.cell? ⟨g, j, none⟩ = some v := by
  have hle : (n + room) * size ≤ cp * size := Nat.mul_le_mul_right _ hc
  rw [← ht, List.getElem?_take_of_lt hj] at hv
  simpa [World.cell?, hg] using hv
theorem laid_by {w : World} {g cp n : Nat} {cur : Array Value} {z : Nat → Int} (hz : ∀ i, 0 ≤ z i ∧ z i ≤ 255) (hg : w.heap[g]? = some (.cells cur 5 (0, 0))) (hs : cur.size = cp * 1) (hc : n + 600 ≤ cp) (ht : cur.toList.take ((n + 600) * 1) = cB z n ++ mB 600) : By w ⟨some ⟨g, 0, none⟩, n, n + 600⟩ z ∧ ∀ k, k < 600 → markB w g (n + k) k := by
  have hl := cB_len z n
  refine ⟨⟨by simp, hz, .inr ⟨g, 0, rfl, fun i hi => ?_⟩⟩, fun k hk => ?_⟩
  · have hi' : i < n := hi
    rw [Nat.zero_add]
    exact laid_cell hg hs hc ht i (by omega) _ (by rw [List.getElem?_append_left (by omega)]; exact map_at _ n i hi')
  · exact laid_cell hg hs hc ht (n + k) (by omega) _ (by rw [List.getElem?_append_right (by omega), hl, show n + k - n * 1 = k by omega]; exact map_at _ 600 k hk)
theorem laid_is {w : World} {g cp n : Nat} {cur : Array Value} {z : Nat → Int} (hg : w.heap[g]? = some (.cells cur 3 (0, 0))) (hs : cur.size = cp * 1) (hc : n + 40 ≤ cp) (ht : cur.toList.take ((n + 40) * 1) = cI z n ++ mI 40) : Is w ⟨some ⟨g, 0, none⟩, n, n + 40⟩ z ∧ ∀ k, k < 40 → markI w g (n + k) k := by
  have hl := cI_len z n
  refine ⟨⟨by simp, .inr ⟨g, 0, rfl, fun i hi => ?_⟩⟩, fun k hk => ?_⟩
  · have hi' : i < n := hi
    rw [Nat.zero_add]
    exact laid_cell hg hs hc ht i (by omega) _ (by rw [List.getElem?_append_left (by omega)]; exact map_at _ n i hi')
  · exact laid_cell hg hs hc ht (n + k) (by omega) _ (by rw [List.getElem?_append_right (by omega), hl, show n + k - n * 1 = k by omega]; exact map_at _ 40 k hk)
theorem laid_ss {w : World} {g cp n : Nat} {cur : Array Value} {z : Nat → ByteArray} (hg : w.heap[g]? = some (.cells cur 9 (0, 0))) (hs : cur.size = cp * 1) (hc : n + 40 ≤ cp) (ht : cur.toList.take ((n + 40) * 1) = cS z n ++ mS 40) : Ss w ⟨some ⟨g, 0, none⟩, n, n + 40⟩ z ∧ ∀ k, k < 40 → markS w g (n + k) k := by
  have hl := cS_len z n
  refine ⟨⟨by simp, .inr ⟨g, 0, rfl, fun i hi => ?_⟩⟩, fun k hk => ?_⟩
  · have hi' : i < n := hi
    rw [Nat.zero_add]
    exact laid_cell hg hs hc ht i (by omega) _ (by rw [List.getElem?_append_left (by omega)]; exact map_at _ n i hi')
  · exact laid_cell hg hs hc ht (n + k) (by omega) _ (by rw [List.getElem?_append_right (by omega), hl, show n + k - n * 1 = k by omega]; exact map_at _ 40 k hk)
theorem laid_as {w : World} {g cp n : Nat} {cur : Array Value} {f : Nat → ByteArray} {q : Nat → Int} (hg : w.heap[g]? = some (.cells cur 78 (0, 0))) (hs : cur.size = cp * 2) (hc : n + 40 ≤ cp) (ht : cur.toList.take ((n + 40) * 2) = cA f q n ++ mA 40) : As w ⟨some ⟨g, 0, none⟩, n, n + 40⟩ f q ∧ ∀ k, k < 40 → markA w g (n + k) k := by
  have hl := cA_len f q n
  refine ⟨⟨by simp, .inr ⟨g, 0, rfl, fun i hi => ?_⟩⟩, fun k hk => ?_⟩
  · have hi' : i < n := hi
    rw [Nat.zero_add]
    have h2 := pair_at (fun i => .string (f i)) (fun i => .int .i64 (q i)) n i hi'
    exact ⟨laid_cell hg hs hc ht (i * 2) (by omega) _ (by rw [List.getElem?_append_left (by omega)]; exact h2.1), laid_cell hg hs hc ht (i * 2 + 1) (by omega) _ (by rw [List.getElem?_append_left (by omega)]; exact h2.2)⟩
  · have h2 := pair_at (fun i => .string (wordB i)) (fun _ => .int .i64 0) 40 k hk
    exact ⟨laid_cell hg hs hc ht ((n + k) * 2) (by omega) _ (by rw [List.getElem?_append_right (by omega), hl, show (n + k) * 2 - n * 2 = k * 2 by omega]; exact h2.1), laid_cell hg hs hc ht ((n + k) * 2 + 1) (by omega) _ (by rw [List.getElem?_append_right (by omega), hl, show (n + k) * 2 + 1 - n * 2 = k * 2 + 1 by omega]; exact h2.2)⟩
theorem row_cells {w : World} {base t m : Nat} {v : Value} {xs : List Value} (h : w.ownsRow base t 1 v (m + 1) xs) : ∃ g cp cur, v = .slice (some ⟨g, 0, none⟩) (m + 1) cp ∧ m + 1 ≤ cp ∧ w.heap[g]? = some (.cells cur t (0, 0)) ∧ ∀ (j : Nat) (u : Value), xs[j]? = some u → cur[j]? = some u := by
  obtain ⟨hl, k | ⟨g, cp, cur, rfl, _, hh, h1, _, hs, ht⟩⟩ := h
  · exact absurd k.2 (by simp)
  · refine ⟨g, cp, cur, rfl, h1, hh, fun j u hj => ?_⟩
    rw [← ht] at hj
    have hlt : j < (m + 1) * 1 := by
      have := (List.getElem?_eq_some_iff.1 hj).1
      simp at this; omega
    rw [List.getElem?_take_of_lt hlt] at hj
    simpa using hj
end Go.Proofs.YtdanjbbemmngnaaGreatDoor
namespace Go.Proofs.YtdanjbbemmngnaaGreatDoor
open Go Go.RowKit Go.Sort
set_option linter.unusedSimpArgs false
set_option linter.unusedVariables false

def zeroPk : Array Value := #[.int .i64 0, .int .i64 0, .bool false, .int .i64 0, .string ⟨#[]⟩, .bool false, .string ⟨#[]⟩, .slice none 0 0, .int .i64 0, .bool false, .bool false, .string ⟨#[]⟩, .bool false, .slice none 0 0, .bool false, .int .i64 0, .bool false, .string ⟨#[]⟩, .slice none 0 0, .int .i64 0, .bool false, .int .i64 0, .slice none 0 0, .slice none 0 0, .slice none 0 0]
/-- A room's fields, all without lists. -/
def nil28 : Array Value := #[.slice none 0 0, .slice none 0 0, .slice none 0 0, .slice none 0 0, .slice none 0 0, .slice none 0 0, .slice none 0 0, .slice none 0 0, .slice none 0 0, .slice none 0 0, .slice none 0 0, .slice none 0 0, .slice none 0 0, .slice none 0 0, .slice none 0 0, .slice none 0 0, .slice none 0 0, .slice none 0 0, .slice none 0 0, .slice none 0 0, .slice none 0 0, .slice none 0 0, .slice none 0 0, .slice none 0 0, .slice none 0 0, .slice none 0 0, .slice none 0 0, .slice none 0 0]

/-- While a packet is laid anew: the room, the packet's own box, what was laid. -/
structure Pst (w0 : World) (rm bx : Array Value) (vb va : Value) (m : Nat) (xsb xsa : List Value) (Ls : List (Nat × Array Value × Nat)) (w : World) : Prop where
  below : Below w0.heap.size w0 w
  rm : w.heap[w0.heap.size]? = some (.cells rm 47 (0, 0))
  bx : w.heap[w0.heap.size + 1]? = some (.cells bx 29 (0, 0))
  zx : w.heap[w0.heap.size + 2]? = some (.cells zeroPk 29 (0, 0))
  ob : w.ownsRow w0.heap.size 22 1 vb m xsb
  oa : w.ownsRow w0.heap.size 3 1 va m xsa
  ls : ∀ x ∈ Ls, w.heap[x.1]? = some (.cells x.2.1 x.2.2 (0, 0))

theorem Pst.set {w0 w : World} {rm bx : Array Value} {vb va : Value} {m : Nat} {xsb xsa : List Value} {Ls : List (Nat × Array Value × Nat)} (h : Pst w0 rm bx vb va m xsb xsa Ls w) (i : Nat) (v : Value) (hT : ∀ x ∈ Ls, x.2.2 ≠ 29) :
    Pst w0 rm (bx.setIfInBounds i v) vb va m xsb xsa Ls (w.setCell ⟨w0.heap.size + 1, i, none⟩ v) where
  below := h.below.setCell (by simp) _
  rm := (Below.heap_setCell w _ v _ (by simp)).trans h.rm
  bx := heap_set h.bx v
  zx := (Below.heap_setCell w _ v _ (by simp)).trans h.zx
  ob := ownsRow_setCell_other h.ob (own_ne h.ob h.bx (by decide)) _
  oa := ownsRow_setCell_other h.oa (own_ne h.oa h.bx (by decide)) _
  ls x hx := by
    refine (Below.heap_setCell w _ v _ ?_).trans (h.ls x hx)
    intro e
    have h1 := h.ls x hx
    have e' : x.1 = w0.heap.size + 1 := e
    rw [e', h.bx] at h1
    simp at h1
    exact hT x hx h1.2.symm

theorem Pst.layB {w0 w w' : World} {rm bx : Array Value} {vb va : Value} {m : Nat} {xsb xsa : List Value} {Ls : List (Nat × Array Value × Nat)} {n g cp : Nat} {xs M : List Value} {cur : Array Value} {vb' va' : Value} (h : Pst w0 rm bx vb va m xsb xsa Ls w)
    (hL : Laid 5 22 1 0 600 M w w' w0.heap.size w0.heap.size m rm vb va xsb xsa n xs g cp cur vb' va') (hT : ∀ x ∈ Ls, x.2.2 ≠ 22 ∧ x.2.2 ≠ 3 ∧ x.2.2 ≠ 47) :
    Pst w0 ((rm.setIfInBounds 0 vb').setIfInBounds 1 va') bx vb' va' (m + 1) (xsb ++ [.slice (some ⟨g, 0, none⟩) (n + 600) cp]) (xsa ++ [.int .i64 n]) (Ls ++ [(g, cur, 5)]) w' := by
  have keep : ∀ (k : Nat) (cs : Array Value) (t : Nat), w.heap[k]? = some (.cells cs t (0, 0)) → t ≠ 22 → t ≠ 3 → t ≠ 47 → w'.heap[k]? = some (.cells cs t (0, 0)) := by
    intro k cs t hk h1 h2 h3
    refine (hL.frm k (block_lt hk) ?_ (own_ne h.ob hk (Ne.symm h1)) (own_ne h.oa hk (Ne.symm h2))).trans hk
    rintro rfl
    rw [h.rm] at hk
    simp at hk
    exact h3 hk.2.symm
  refine ⟨h.below.trans hL.below, hL.room', keep _ _ _ h.bx (by decide) (by decide) (by decide), keep _ _ _ h.zx (by decide) (by decide) (by decide), hL.ob, hL.oa, ?_⟩
  intro x hx
  rcases List.mem_append.1 hx with hx | hx
  · exact keep _ _ _ (h.ls x hx) (hT x hx).1 (hT x hx).2.1 (hT x hx).2.2
  · obtain rfl := List.mem_singleton.1 hx
    exact hL.list

theorem Pst.layN {w0 w w' : World} {rm bx : Array Value} {vb va : Value} {m : Nat} {xsb xsa : List Value} {Ls : List (Nat × Array Value × Nat)} {e t size f room n g cp : Nat} {xs M : List Value} {cur : Array Value} {vb' va' : Value} (h : Pst w0 rm bx vb va m xsb xsa Ls w)
    (hL : Laid e t size f room M w w' w0.heap.size w0.heap.size 0 rm (.slice none 0 0) (.slice none 0 0) [] [] n xs g cp cur vb' va') (hT : ∀ x ∈ Ls, x.2.2 ≠ 47) :
    ∃ gb cb curb ga ca cura, vb' = .slice (some ⟨gb, 0, none⟩) 1 cb ∧ va' = .slice (some ⟨ga, 0, none⟩) 1 ca ∧ 1 ≤ cb ∧ 1 ≤ ca ∧ curb[0]? = some (.slice (some ⟨g, 0, none⟩) (n + room) cp) ∧ cura[0]? = some (.int .i64 n) ∧
      Pst w0 ((rm.setIfInBounds f vb').setIfInBounds (f + 1) va') bx vb va m xsb xsa (Ls ++ [(g, cur, e), (gb, curb, t), (ga, cura, 3)]) w' := by
  have same : ∀ k, k < w.heap.size → k ≠ w0.heap.size → w'.heap[k]? = w.heap[k]? := fun k hk hne => hL.frm k hk hne (by simp [Value.ownBlock]) (by simp [Value.ownBlock])
  have keep : ∀ (k : Nat) (cs : Array Value) (t : Nat), w.heap[k]? = some (.cells cs t (0, 0)) → t ≠ 47 → w'.heap[k]? = some (.cells cs t (0, 0)) := by
    intro k cs t hk h3
    refine (same k (block_lt hk) ?_).trans hk
    rintro rfl
    rw [h.rm] at hk
    simp at hk
    exact h3 hk.2.symm
  have gr : w.grownBy w' (some w0.heap.size) := ⟨hL.below.os, hL.below.tape, hL.below.output, hL.grow, fun k hk hne => same k hk (fun q => hne (by rw [q]))⟩
  obtain ⟨gb, cb, curb, rfl, h1, hb, cb0⟩ := row_cells hL.ob
  obtain ⟨ga, ca, cura, rfl, h2, ha, ca0⟩ := row_cells hL.oa
  refine ⟨gb, cb, curb, ga, ca, cura, rfl, rfl, h1, h2, cb0 0 _ rfl, ca0 0 _ rfl, ⟨h.below.trans hL.below, hL.room', keep _ _ _ h.bx (by decide), keep _ _ _ h.zx (by decide), h.ob.kept gr (.inr (own_ne h.ob h.rm (by decide))), h.oa.kept gr (.inr (own_ne h.oa h.rm (by decide))), ?_⟩⟩
  intro x hx
  rcases List.mem_append.1 hx with hx | hx
  · exact keep _ _ _ (h.ls x hx) (hT x hx)
  · simp only [List.mem_cons, List.not_mem_nil, or_false] at hx
    rcases hx with rfl | rfl | rfl
    · exact hL.list
    · exact hb
    · exact ha
theorem Pst.src {w0 w : World} {rm bx : Array Value} {vb va : Value} {m : Nat} {xsb xsa : List Value} {Ls : List (Nat × Array Value × Nat)} (h : Pst w0 rm bx vb va m xsb xsa Ls w) {s : Sl} {xs : List Value} (hs : Src w0 s xs) : Src w s xs := hs.below h.below
theorem Pst.cell {w0 w : World} {rm bx : Array Value} {vb va : Value} {m : Nat} {xsb xsa : List Value} {Ls : List (Nat × Array Value × Nat)} (h : Pst w0 rm bx vb va m xsb xsa Ls w) (k : Nat) (v : Value) (hk : bx[k]? = some v) : w.cell? ⟨w0.heap.size + 1, k, none⟩ = some v := by simp [World.cell?, h.bx, hk]
theorem Pst.frozen {w0 w : World} {rm bx : Array Value} {vb va : Value} {m : Nat} {xsb xsa : List Value} {Ls : List (Nat × Array Value × Nat)} (h : Pst w0 rm bx vb va m xsb xsa Ls w) (k : Nat) : w.frozen? ⟨w0.heap.size + 1, k, none⟩ = false := by simp [World.frozen?, h.bx]
end Go.Proofs.YtdanjbbemmngnaaGreatDoor
